/- What the laws on the parser share: num, a csi that wakes; feeding from the state at first. -/
import Derived.Test.YtjodbmfjdpbbnaaDoorVdFeed
import Derived.Test.YtjodbmfjdpbbnaaDoorVtPrs
namespace Go.Proofs.YtjodbmfjdpbbnaaDoor
set_option maxRecDepth 100000
open Go.RowKit
namespace Vl
open Vt Vd

theorem num_any (n : Int) (w : World) : Calls Tryd.prog 7 #[.int .i64 n] w fun e w' => e = .returned (.int .i64 n) ∧ w = w' := by
  go_enter Tryd.func7, Tryd.ntmps7
  go_wp2_with fail
  go_ret
  exact ⟨rfl, rfl⟩
theorem ok_zero : Ok (none_ 0) := ok_none (by decide) (by decide) (by decide)
theorem feed0_any (s : ByteArray) (w : World) (hs : s.size ≤ 4000) (ht : Utf.Tabs w) :
    Calls Tryd.prog 11 #[.agg #[.int .i64 0, .string ⟨#[]⟩, .slice none 0 0, .string ⟨#[]⟩, .string ⟨#[]⟩], .string s] w (FedD w.heap.size w (Mc.feed ⟨none_ 0, []⟩ s.data.toList)) :=
  feed_ok (none_ 0) (.slice none 0 0) s w ⟨rfl, .inl ⟨rfl, rfl⟩⟩ ok_zero hs ht
theorem csi12 : Mc.feed ⟨none_ 0, []⟩ [27, 91, 49, 59, 50, 72] = ⟨none_ 0, [⟨4, 72, [1, 2], [], []⟩]⟩ := by rfl
set_option maxHeartbeats 1600000 in
theorem wakes_any (w : World) (ht : Utf.Tabs w) : Calls Tryd.prog 17 #[] w fun e w' => e = .returned (.bool true) ∧ Below w.heap.size w w' := by
  have HT := Lib.hid ht
  clear ht
  go_enter Tryd.func17, Tryd.ntmps17
  go_wp2_with fail
  have hf := feed0_any ⟨#[27, 91, 49, 59, 50, 72]⟩ w (by decide) HT.out
  rw [csi12] at hf
  refine hf.mono ?_
  rintro e w1 ⟨lv, pv, rfl, ho, hn, hb1, _⟩
  clear hf
  obtain ⟨A, c, rfl⟩ := own_shape hn
  obtain ⟨A2, c2, rfl, hA⟩ := ho.reads.form
  obtain ⟨ad, pv2, rfl, K, hs⟩ := hA 0 (by decide)
  have hs2 : Src w1 pv2 2 (ints [1, 2]) := hs
  obtain ⟨A3, c3, rfl, _⟩ := hs2.form
  have hz : ad.add (0 * 5) = ad := by simp [Addr.add]
  rw [hz] at K
  have K2 : At w1 ad [.int .i64 4, .int .i64 72, .slice A3 2 c3, .string ⟨#[]⟩, .string ⟨#[]⟩] := K
  have hz1 := hb1.size
  have HB1 := Lib.hid hb1
  have HS := Lib.hid hs2
  have HK := Lib.hid K2
  clear K K2 hs hs2 ho hn hb1 hA
  go_wp2_with fail
  have hal : Below w1.heap.size w1 (w1.alloc (.cells #[.int .i64 (none_ 0).state, .string ⟨(none_ 0).part.toArray⟩, .slice A (none_ 0).params.length c, .string ⟨(none_ 0).inter.toArray⟩, .string ⟨(none_ 0).text.toArray⟩] 31)) := (Below.refl _ _).alloc (Nat.le_refl _) _
  have hbw : Below w.heap.size w (w1.alloc (.cells #[.int .i64 (none_ 0).state, .string ⟨(none_ 0).part.toArray⟩, .slice A (none_ 0).params.length c, .string ⟨(none_ 0).inter.toArray⟩, .string ⟨(none_ 0).text.toArray⟩] 31)) := HB1.out.alloc hz1 _
  generalize w1.alloc (.cells #[.int .i64 (none_ 0).state, .string ⟨(none_ 0).part.toArray⟩, .slice A (none_ 0).params.length c, .string ⟨(none_ 0).inter.toArray⟩, .string ⟨(none_ 0).text.toArray⟩] 31) = w2 at hal hbw ⊢
  have K2 := HK.out.kept hal
  have HS2 := Lib.hid (HS.out.kept hal)
  have h0 := K2.head
  have h1 := K2.next 0 rfl
  have h2 := K2.next 1 rfl
  have h3 := K2.next 2 rfl
  have h4 := K2.next 3 rfl
  clear K2 hal
  refine (num_any 0 _).mono ?_
  rintro e w3 ⟨rfl, rfl⟩
  go_wp2_with fail
  have hb2 : Below w2.heap.size w2 (w2.alloc (.cells #[.int .i64 1, .int .i64 2] 3)) := (Below.refl _ _).alloc (Nat.le_refl _) _
  have HM : Hid (Src (w2.alloc (.cells #[.int .i64 1, .int .i64 2] 3)) (.slice (some ⟨w2.heap.size, 0, none⟩) 2 2) 2 (ints [1, 2])) := Lib.hid (Src.made_at w2 w2.heap.size (ints [1, 2]) _ _ _ _ rfl rfl rfl)
  refine (eqNumbers_same _ _ [1, 2] [1, 2] _ (HS2.out.kept hb2) HM.out rfl (by decide)).mono ?_
  rintro e w4 ⟨rfl, q, rfl⟩
  go_wp2_with fail
  go_ret
  exact ⟨rfl, below_drewN (hbw.alloc hbw.size _) q⟩

theorem good_params {e : Ev} (h : Vd.Good e) : e.params.length ≤ 16 := by
  cases h <;> simp_all
/-- append of the call's own events to events of the call's own, behind a guard that lets it by. -/
theorem wp_append_evs_if {w : World} {ops : Array Oper} {rest : List Oper} {o : Oper} {a : Act} {Q : Exit → Act → World → Prop} {s x : Operand} (hgd : Region.wanted o (yielded ops a.tmps) = true)
    (ho : o.op = .call { callee := .builtin .append, args := #[s, x], argTypes := #[37, 37] }) (base base2 : Nat) (v : Value) (l : List Ev) (hs : a.eval s = v) (hown : OwnEvs w base v l)
    (y : Value) (m : List Ev) (hy : a.eval x = y) (hx : OwnEvs w base2 y m) (hb : l.length + m.length ≤ 1000000000) (hbase : base ≤ w.heap.size)
    (h : ∀ v' w', Evs w' v' (l ++ m) → Below base w w' → wpList Tryd.prog ops Q rest (a.put o.dst v') w') :
    wpList Tryd.prog ops Q (o :: rest) a w := by
  obtain ⟨i, hi, hz, h5, h72⟩ := event_row
  have hlt := hown.lt
  obtain ⟨pvs, h1, h2, h3⟩ := hown
  obtain ⟨pvs2, g1, g2, g3⟩ := hx
  refine wpList_step fun K hK => ?_
  rw [if_pos hgd]
  rcases g2.2 with ⟨rfl, h0⟩ | ⟨g, c, cur, rfl, _⟩
  · have hm : m = [] := List.eq_nil_of_length_eq_zero h0
    subst hm
    have hr := run_append_owned_none (P := Tryd.prog) (w := w) base 37 o.type 63 i 5 Tryd.underlying37 hi v l.length _ h2
    unfold Oper.wp execOp
    simp only [ho, resolve, invoke, builtin, Sem.run_bind, Sem.run_pure, Result.andThen_ok, List.map_toArray, List.map_cons, List.map_nil, hs, hy, hr]
    refine hK _ _ (h v w ?_ (Below.refl _ _))
    rw [List.append_nil]
    exact OwnEvs.reads ⟨pvs, h1, h2, h3⟩
  · have hrl : (List.zipWith evVals m pvs2).length = m.length := by simp [g1]
    have hrow : ∀ r ∈ List.zipWith evVals m pvs2, r.length = 5 := zip_len
    have hrec := Recs.own g2 hrl hrow
    have hcell : ∀ j u, (List.zipWith evVals m pvs2).flatten[j]? = some u → w.cell? ((⟨g, 0, none⟩ : Addr).add j) = some u := fun j u hu => g2.cells (g := g) rfl j u hu
    obtain ⟨v', w', hr, q2, q3, _, _⟩ := run_append_own_at (P := Tryd.prog) w base 37 o.type 63 i _ 5 72 Tryd.underlying37 hi hz h5 h72 rfl (by decide) v l.length _ h2 ⟨g, 0, none⟩ m.length c (List.zipWith evVals m pvs2).flatten
      (by rw [flatten_len _ hrow, hrl]) hcell (fun u hu => by
        obtain ⟨r, hr, hur⟩ := List.mem_flatten.1 hu
        obtain ⟨k, hk, rfl⟩ := List.getElem_of_mem hr
        have hkm : k < m.length := by rw [hrl] at hk; exact hk
        have hkp : k < pvs2.length := by omega
        simp only [List.getElem_zipWith] at hur
        obtain ⟨A, c', hA⟩ := own_shape (g3 k hkm)
        have hA' : pvs2[k] = .slice A (m.getD k (printE 0)).params.length c' := by rw [← hA]; simp [List.getD, hkp]
        exact evVals_cells ⟨A, _, c', hA'⟩ u hur) (by simp only [maxLen]; omega) (by omega) hbase
    unfold Oper.wp execOp
    simp only [ho, resolve, invoke, builtin, Sem.run_bind, Sem.run_pure, Result.andThen_ok, List.map_toArray, List.map_cons, List.map_nil, hs, hy, hr]
    have hB : Below base w w' := (Below.refl base w).grown q3 hbase (fun k hk => (h2.lt k hk).1)
    refine hK _ _ (h v' w' ?_ hB)
    have hq2 : w'.ownsRow base 63 5 v' (l ++ m).length (List.zipWith evVals (l ++ m) (pvs ++ pvs2)).flatten := by
      rw [List.length_append, List.zipWith_append h1.symm, List.flatten_append]; exact q2
    refine ⟨pvs ++ pvs2, by simp [h1, g1], Recs.own hq2 (by simp [h1, g1]) zip_len, fun k hk => ?_⟩
    by_cases hkl : k < l.length
    · have := Src.own ((h3 k hkl).kept q3 (own_apart (h3 k hkl) h2 (by decide)))
      simp only [List.getD, List.getElem?_append_left hkl, List.getElem?_append_left (show k < pvs.length by omega)] at this ⊢
      exact this
    · have hk2 : k - l.length < m.length := by rw [List.length_append] at hk; omega
      have := Src.own ((g3 (k - l.length) hk2).kept q3 (own_apart (g3 (k - l.length) hk2) h2 (by decide)))
      simp only [List.getD, List.getElem?_append_right (show l.length ≤ k by omega), List.getElem?_append_right (show pvs.length ≤ k by omega), h1] at this ⊢
      exact this

/-! ### a state fed, laid in a variable -/
/-- What lies where a feeding's three answers went. -/
def Got (wb : World) (m : Mc) (lv xp ev : Value) (wx : World) : Prop :=
  ∃ A c g, xp = .pointer (some ⟨g, 0, none⟩) ∧ ev = .int .i64 0 ∧ wb.heap.size ≤ g ∧ wx.heap[g]? = some (.cells #[.int .i64 m.p.state, .string ⟨m.p.part.toArray⟩, .slice A m.p.params.length c, .string ⟨m.p.inter.toArray⟩, .string ⟨m.p.text.toArray⟩] 31 (0, 0)) ∧
    OwnEvs wx wb.heap.size lv m.l ∧ wx.ownsRow wb.heap.size 3 1 (.slice A m.p.params.length c) m.p.params.length (ints m.p.params) ∧ Below wb.heap.size wb wx
theorem got_alloc {wb w5 : World} {m : Mc} {lv : Value} {A : Option Addr} {c : Nat} (ho : OwnEvs w5 wb.heap.size lv m.l) (hn : w5.ownsRow wb.heap.size 3 1 (.slice A m.p.params.length c) m.p.params.length (ints m.p.params)) (hb : Below wb.heap.size wb w5) :
    Got wb m lv (.pointer (some ⟨w5.heap.size, 0, none⟩)) (.int .i64 0) (w5.alloc (.cells #[.int .i64 m.p.state, .string ⟨m.p.part.toArray⟩, .slice A m.p.params.length c, .string ⟨m.p.inter.toArray⟩, .string ⟨m.p.text.toArray⟩] 31)) := by
  have h1 : Below w5.heap.size w5 (w5.alloc (.cells #[.int .i64 m.p.state, .string ⟨m.p.part.toArray⟩, .slice A m.p.params.length c, .string ⟨m.p.inter.toArray⟩, .string ⟨m.p.text.toArray⟩] 31)) := (Below.refl _ _).alloc (Nat.le_refl _) _
  exact ⟨A, c, _, rfl, rfl, hb.size, heap_alloc_new w5 _, ho.kept h1, own_keptC hn h1, hb.alloc hb.size _⟩
theorem five_set {cs : Array Value} (h : cs.size = 5) {a b c d e : Value} : ((((cs.setIfInBounds 0 a).setIfInBounds 1 b).setIfInBounds 2 c).setIfInBounds 3 d).setIfInBounds 4 e = #[a, b, c, d, e] := by
  obtain ⟨cs⟩ := cs
  match cs, h with
  | [_, _, _, _, _], _ => rfl
theorem got_set {wb w5 : World} {m : Mc} {lv : Value} {A : Option Addr} {c g : Nat} {cs : Array Value} (hsz : cs.size = 5) (ho : OwnEvs w5 wb.heap.size lv m.l) (hn : w5.ownsRow wb.heap.size 3 1 (.slice A m.p.params.length c) m.p.params.length (ints m.p.params)) (hb : Below wb.heap.size wb w5)
    (hg : wb.heap.size ≤ g) (hblk : w5.heap[g]? = some (.cells cs 31 (0, 0))) :
    Got wb m lv (.pointer (some ⟨g, 0, none⟩)) (.int .i64 0) (((((w5.setCell ⟨g, 0, none⟩ (.int .i64 m.p.state)).setCell ⟨g, 1, none⟩ (.string ⟨m.p.part.toArray⟩)).setCell ⟨g, 2, none⟩ (.slice A m.p.params.length c)).setCell ⟨g, 3, none⟩ (.string ⟨m.p.inter.toArray⟩)).setCell ⟨g, 4, none⟩ (.string ⟨m.p.text.toArray⟩)) := by
  have hgr : w5.grownBy (((((w5.setCell ⟨g, 0, none⟩ (.int .i64 m.p.state)).setCell ⟨g, 1, none⟩ (.string ⟨m.p.part.toArray⟩)).setCell ⟨g, 2, none⟩ (.slice A m.p.params.length c)).setCell ⟨g, 3, none⟩ (.string ⟨m.p.inter.toArray⟩)).setCell ⟨g, 4, none⟩ (.string ⟨m.p.text.toArray⟩)) (some g) :=
    ((((set_grown w5 ⟨g, 0, none⟩ _).trans (set_grown _ ⟨g, 1, none⟩ _)).trans (set_grown _ ⟨g, 2, none⟩ _)).trans (set_grown _ ⟨g, 3, none⟩ _)).trans (set_grown _ ⟨g, 4, none⟩ _)
  have hB : Below wb.heap.size wb (((((w5.setCell ⟨g, 0, none⟩ (.int .i64 m.p.state)).setCell ⟨g, 1, none⟩ (.string ⟨m.p.part.toArray⟩)).setCell ⟨g, 2, none⟩ (.slice A m.p.params.length c)).setCell ⟨g, 3, none⟩ (.string ⟨m.p.inter.toArray⟩)).setCell ⟨g, 4, none⟩ (.string ⟨m.p.text.toArray⟩)) :=
    ((((hb.setCell (p := ⟨g, 0, none⟩) hg _).setCell (p := ⟨g, 1, none⟩) hg _).setCell (p := ⟨g, 2, none⟩) hg _).setCell (p := ⟨g, 3, none⟩) hg _).setCell (p := ⟨g, 4, none⟩) hg _
  have hk := block_set (block_set (block_set (block_set (block_set hblk 0 (.int .i64 m.p.state)) 1 (.string ⟨m.p.part.toArray⟩)) 2 (.slice A m.p.params.length c)) 3 (.string ⟨m.p.inter.toArray⟩)) 4 (.string ⟨m.p.text.toArray⟩)
  generalize ((((w5.setCell ⟨g, 0, none⟩ (.int .i64 m.p.state)).setCell ⟨g, 1, none⟩ (.string ⟨m.p.part.toArray⟩)).setCell ⟨g, 2, none⟩ (.slice A m.p.params.length c)).setCell ⟨g, 3, none⟩ (.string ⟨m.p.inter.toArray⟩)).setCell ⟨g, 4, none⟩ (.string ⟨m.p.text.toArray⟩) = W at hgr hB hk ⊢
  refine ⟨A, c, g, rfl, rfl, hg, ?_, own_set ho hgr hblk, hn.kept hgr (own_not hn hblk (by decide)), hB⟩
  rw [hk, five_set hsz]
end Vl
end Go.Proofs.YtjodbmfjdpbbnaaDoor
