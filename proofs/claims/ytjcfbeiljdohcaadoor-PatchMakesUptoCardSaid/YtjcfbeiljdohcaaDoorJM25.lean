/- Joined texts: PatBd, PdLine. -/
import Derived.Test.YtjcfbeiljdohcaaDoorJM24
namespace Go.Proofs.YtjcfbeiljdohcaaDoor
set_option maxRecDepth 100000
section
open Go.RowKit
namespace Pat
open Go.Proofs.YtjcfbeiljdohcaaDoor.Row Go.Proofs.YtjcfbeiljdohcaaDoor.Scr Agb
theorem own_apart {w : World} {b1 b2 e1 e2 C1 C2 n1 n2 : Nat} {v1 v2 : Value} {xs ys : List Value} (h1 : w.ownsRow b1 e1 C1 v1 n1 xs) (h2 : w.ownsRow b2 e2 C2 v2 n2 ys) (he : e1 ≠ e2) : v1.ownBlock = none ∨ v1.ownBlock ≠ v2.ownBlock := by
  rcases h1.2 with ⟨rfl, _⟩ | ⟨g, cap, cur, rfl, _, hg, _⟩
  · exact .inl rfl
  · refine .inr ?_
    rcases h2.2 with ⟨rfl, _⟩ | ⟨g2, cap2, cur2, rfl, _, hg2, _⟩
    · simp [Value.ownBlock]
    · intro e
      have e : g = g2 := by simpa [Value.ownBlock] using e
      subst e
      rw [hg] at hg2
      injection hg2 with hg2
      injection hg2 with _ e _
      exact he e
theorem row_kept {w w' : World} {base e C n : Nat} {v : Value} {xs : List Value} (h : w.ownsRow base e C v n xs) (hb : Below w.heap.size w w') : w'.ownsRow base e C v n xs :=
  World.ownsRow.kept (row := none) h ⟨hb.os, hb.tape, hb.output, hb.size, fun k hk _ => hb.block k hk⟩ (by cases v.ownBlock <;> simp)
theorem box_grown {w w' : World} {b base e C n : Nat} {v : Value} {xs : List Value} {o : Obj} (h : w.heap[b]? = some o) (hg : w.grownBy w' v.ownBlock) (ho : w.ownsRow base e C v n xs) (hb : b < base) : w'.heap[b]? = some o := by
  rw [hg.block b (Blk.lt h) (fun q => ?_)]
  · exact h
  · have := (ho.lt b q.symm).1
    omega
structure Bd (w0 : World) (bx : List (Nat × Obj)) (b3 : Nat) (p : Pt) (u v : Value) (w : World) : Prop where
  bel : Below w0.heap.size w0 w
  bs : ∀ q ∈ bx, w.heap[q.1]? = some q.2 ∧ q.1 < b3
  h3 : w.heap[b3]? = some (pbox p u v)
  on : OwnN w (b3 + 1) u p.at_
  oc : OwnCs w (b3 + 1) v p.cells
  lo : w0.heap.size ≤ b3
variable {w0 w w' : World} {bx : List (Nat × Obj)} {b3 : Nat} {p : Pt} {u v : Value}
theorem Bd.up (h : Bd w0 bx b3 p u v w) : b3 + 1 ≤ w.heap.size := Blk.lt h.h3
theorem Bd.kept (h : Bd w0 bx b3 p u v w) (hb : Below w.heap.size w w') : Bd w0 bx b3 p u v w' :=
  ⟨h.bel.trans (hb.mono h.bel.size), fun q hq => ⟨Blk.kept (h.bs q hq).1 hb, (h.bs q hq).2⟩, Blk.kept h.h3 hb, h.on.kept hb, row_kept h.oc hb, h.lo⟩
theorem Bd.drewN (h : Bd w0 bx b3 p u v w) (q : Nat) : Bd w0 bx b3 p u v (w.drewN q) := ⟨below_drewN h.bel q, h.bs, h.h3, h.on, h.oc, h.lo⟩
theorem Bd.drew (h : Bd w0 bx b3 p u v w) : Bd w0 bx b3 p u v w.drew := ⟨h.bel.drew, h.bs, h.h3, h.on, h.oc, h.lo⟩
theorem Bd.pushN (h : Bd w0 bx b3 p u v w) {u' : Value} {l : List Int} (ho : OwnN w' (b3 + 1) u' l) (hg : w.grownBy w' u.ownBlock) : Bd w0 bx b3 { p with at_ := l } u' v (w'.setCell ⟨b3, 3, none⟩ u') := by
  have h3 := box_grown h.h3 hg h.on (Nat.lt_succ_self _)
  refine ⟨(below_own h.bel hg (Nat.le_trans h.lo (Nat.le_of_succ_le h.up)) (Blk.low h.on (Nat.le_succ_of_le h.lo))).setCell (p := ⟨b3, 3, none⟩) h.lo _, fun q hq => ?_, Blk.set h3 3 _, ho.set (Nat.lt_succ_self _) _ _, OwnCs.set ?_ (Nat.lt_succ_self _) _ _, h.lo⟩
  · have hq2 := h.bs q hq
    exact ⟨Blk.other (box_grown hq2.1 hg h.on (by omega)) (by omega) _ _, hq2.2⟩
  · exact World.ownsRow.kept h.oc hg (own_apart h.oc h.on (by decide))
theorem Bd.pushC (h : Bd w0 bx b3 p u v w) {v' : Value} {l : List Cl} (ho : OwnCs w' (b3 + 1) v' l) (hg : w.grownBy w' v.ownBlock) : Bd w0 bx b3 { p with cells := l } u v' (w'.setCell ⟨b3, 4, none⟩ v') := by
  have h3 := box_grown h.h3 hg h.oc (Nat.lt_succ_self _)
  refine ⟨(below_cs h.bel hg (Nat.le_trans h.lo (Nat.le_of_succ_le h.up)) (h.oc.low (Nat.le_succ_of_le h.lo))).setCell (p := ⟨b3, 4, none⟩) h.lo _, fun q hq => ?_, Blk.set h3 4 _, OwnN.set ?_ (Nat.lt_succ_self _) _ _, OwnCs.set ho (Nat.lt_succ_self _) _ _, h.lo⟩
  · have hq2 := h.bs q hq
    exact ⟨Blk.other (box_grown hq2.1 hg h.oc (by omega)) (by omega) _ _, hq2.2⟩
  · exact World.ownsRow.kept h.on hg (own_apart h.on h.oc (by decide))
theorem Bd.bare (h : Bd w0 bx b3 p u v w) : Bd w0 bx b3 { p with all := false, cells := [] } u nilS ((w.setCell ⟨b3, 2, none⟩ (.bool false)).setCell ⟨b3, 4, none⟩ nilS) :=
  ⟨(h.bel.setCell (p := ⟨b3, 2, none⟩) h.lo _).setCell (p := ⟨b3, 4, none⟩) h.lo _, fun q hq => ⟨Blk.other (Blk.other (h.bs q hq).1 (by have := (h.bs q hq).2; omega) _ _) (by have := (h.bs q hq).2; omega) _ _, (h.bs q hq).2⟩, Blk.set (Blk.set h.h3 2 _) 4 _,
    (h.on.set (Nat.lt_succ_self _) _ _).set (Nat.lt_succ_self _) _ _, World.ownsRow_nil _ _ _ _, h.lo⟩
theorem neq_cell_same (r x a b c : Int) (t : ByteArray) (w : World) :
    (binOp .neq 63 (.agg #[.int .i64 r, .string t, .int .i64 x, .int .i64 a, .int .i64 b, .int .i64 c]) (.agg #[.int .i64 r, .string t, .int .i64 x, .int .i64 a, .int .i64 b, .int .i64 c])).run Tryd.prog w = .ok (.bool false) w := by
  simp [go_sem]
theorem neq_cell_not {r x a b c r' x' a' b' c' : Int} {t t' : ByteArray} (h : ¬ (r = r' ∧ t = t' ∧ x = x' ∧ a = a' ∧ b = b' ∧ c = c')) (w : World) :
    (binOp .neq 63 (.agg #[.int .i64 r, .string t, .int .i64 x, .int .i64 a, .int .i64 b, .int .i64 c]) (.agg #[.int .i64 r', .string t', .int .i64 x', .int .i64 a', .int .i64 b', .int .i64 c'])).run Tryd.prog w = .ok (.bool true) w := by
  by_cases h1 : r = r'
  · by_cases h2 : t = t'
    · by_cases h3 : x = x'
      · by_cases h4 : a = a'
        · by_cases h5 : b = b'
          · by_cases h6 : c = c'
            · exact absurd ⟨h1, h2, h3, h4, h5, h6⟩ h
            · simp [go_sem, h1, h2, h3, h4, h5, h6]
          · simp [go_sem, h1, h2, h3, h4, h5]
        · simp [go_sem, h1, h2, h3, h4]
      · simp [go_sem, h1, h2, h3]
    · have h2 : ¬ t.toList = t'.toList := fun e => h2 (by
        rw [Lib.toList_data, Lib.toList_data] at e
        rcases t with ⟨⟨l⟩⟩
        rcases t' with ⟨⟨l'⟩⟩
        have e : l = l' := e
        rw [e])
      simp [go_sem, h1, h2]
  · simp [go_sem, h1]
set_option maxHeartbeats 1600000 in
theorem eqCells_is (l m : List Cl) (b : Bool) (hb : b = true ↔ l = m) (x y : Value) (w : World) (hx : Cs w x l) (hy : Cs w y m) (hn : l.length ≤ 100000000) :
    Calls Tryd.prog 38 #[x, y] w fun e w' => e = .returned (.bool b) ∧ ∃ q, w' = w.drewN q := by
  obtain ⟨A, c, rfl, ha⟩ := hx.form
  obtain ⟨A', c', rfl, hb'⟩ := hy.form
  have ha' := Lib.hid ha
  have hb2 := Lib.hid hb'
  have HBI := Lib.hid hb
  clear ha hb' hx hy hb
  by_cases hnm : l.length = m.length
  · obtain ⟨n, hl⟩ : ∃ n, l.length = n := ⟨_, rfl⟩
    have hl2 : m.length = n := by omega
    have HX := Lib.hid hl
    have HY := Lib.hid hl2
    rw [hl] at hn
    clear hnm
    rw [hl, hl2]
    clear hl hl2
    go_enter Tryd.func38, Tryd.ntmps38
    go_wp2_with fail
    go_loopw [5] (fun i wr => ∃ k q : Nat, k ≤ n ∧ i = .int .i64 k ∧ Hid (∀ j, j < k → g l j = g m j) ∧ wr = w.drewN q) (fun i _ => n - (intOf i).toNat)
    case atStart => exact ⟨0, 0, by omega, rfl, Lib.hid fun j h => by omega, rfl⟩
    case round =>
      obtain ⟨k, q, hk, rfl, hal, rfl⟩ := hrel
      by_cases hlt : k < n
      · obtain ⟨ad, rfl, K⟩ := ha'.out k (by rw [HX.out]; exact hlt)
        obtain ⟨ad', rfl, K'⟩ := hb2.out k (by rw [HY.out]; exact hlt)
        by_cases he : g l k = g m k
        · have HA : Hid (∀ j, j < k + 1 → g l j = g m j) := Lib.hid fun j hj => by
            by_cases e : j = k
            · rw [e]; exact he
            · exact hal.out j (by omega)
          rw [← he] at K'
          clear he
          generalize g l k = ev at K K'
          obtain ⟨rune, cb, wide, ⟨fg, bg, fl⟩⟩ := ev
          have h0 := K.head
          have h1 := K.next 0 rfl
          have h2 := K.next 1 rfl
          have h3 := K.next 2 rfl
          have h4 := K.next 3 rfl
          have h5 := K.next 4 rfl
          have i0 := K'.head
          have i1 := K'.next 0 rfl
          have i2 := K'.next 1 rfl
          have i3 := K'.next 2 rfl
          have i4 := K'.next 3 rfl
          have i5 := K'.next 4 rfl
          clear K K'
          go_wp2_with fail
          go_quiet (fail)
          go_wp2_with fail
          go_roundw
          case rel => exact ⟨k + 1, _, by omega, by go_num, HA, rfl⟩
          case measure => simp [intOf]; omega
        · have HF : Hid (b = false) := Lib.hid (by
            cases b
            · rfl
            · exact absurd (by rw [HBI.out.1 rfl]) he)
          have hne : ¬ ((g l k).rune = (g m k).rune ∧ (⟨(g l k).comb.toArray⟩ : ByteArray) = ⟨(g m k).comb.toArray⟩ ∧ (g l k).wide = (g m k).wide ∧ (g l k).a.fg = (g m k).a.fg ∧ (g l k).a.bg = (g m k).a.bg ∧ (g l k).a.flags = (g m k).a.flags) := by
            rintro ⟨e1, e2, e3, e4, e5, e6⟩
            apply he
            rcases q1 : g l k with ⟨r1, c1, w1, ⟨f1, b1, s1⟩⟩
            rcases q2 : g m k with ⟨r2, c2, w2, ⟨f2, b2, s2⟩⟩
            rw [q1, q2] at e1 e2 e3 e4 e5 e6
            simp only at e1 e2 e3 e4 e5 e6
            have e2 : c1 = c2 := by
              have := congrArg (fun z : ByteArray => z.data.toList) e2
              simpa using this
            rw [e1, e2, e3, e4, e5, e6]
          clear he
          generalize g l k = ev at K hne
          generalize g m k = ev' at K' hne
          obtain ⟨rune, cb, wide, ⟨fg, bg, fl⟩⟩ := ev
          obtain ⟨rune', cb', wide', ⟨fg', bg', fl'⟩⟩ := ev'
          simp only at hne
          have hq := fun W : World => neq_cell_not hne W
          clear hne
          have h0 := K.head
          have h1 := K.next 0 rfl
          have h2 := K.next 1 rfl
          have h3 := K.next 2 rfl
          have h4 := K.next 3 rfl
          have h5 := K.next 4 rfl
          have i0 := K'.head
          have i1 := K'.next 0 rfl
          have i2 := K'.next 1 rfl
          have i3 := K'.next 2 rfl
          have i4 := K'.next 3 rfl
          have i5 := K'.next 4 rfl
          clear K K'
          go_wp2_with fail
          go_quiet (fail)
          go_wp2_with fail
          go_ret
          exact ⟨ret_bool2 HF.out.symm, _, World.drewN_drewN _ _ _⟩
      · have HF : Hid (b = true) := Lib.hid (HBI.out.2 (ext_g (by rw [HX.out, HY.out]) fun j hj => hal.out j (by have := HX.out; omega)))
        go_wp2_with fail
        go_ret
        exact ⟨ret_bool2 HF.out.symm, _, rfl⟩
  · have hb1 : ((l.length : Int) != (m.length : Int)) = true := by rw [bne_iff_ne]; omega
    have HF : Hid (b = false) := Lib.hid (by
      cases b
      · rfl
      · exact absurd (by rw [HBI.out.1 rfl]) hnm)
    clear hnm
    go_enter Tryd.func38, Tryd.ntmps38
    go_wp2_with fail
    go_ret
    exact ⟨ret_bool2 HF.out.symm, 0, rfl⟩
end Pat
end
section
open Go.RowKit
namespace Pat
open Go.Proofs.YtjcfbeiljdohcaaDoor.Row Go.Proofs.YtjcfbeiljdohcaaDoor.Scr
abbrev Li := Option (Value × List Cl)
def li : Li → Value
  | some x => .iface 76 x.1
  | none => .iface 71 (.agg #[])
def lis (l : List Li) : List Value := l.map li
theorem lis_nil : lis [] = [] := rfl
theorem lis_append (a b : List Li) : lis (a ++ b) = lis a ++ lis b := List.map_append
theorem lis_length (l : List Li) : (lis l).length = l.length := List.length_map _
theorem lis_take (l : List Li) (k : Nat) : lis (l.take k) = (lis l).take k := List.map_take
theorem lis_drop (l : List Li) (k : Nat) : lis (l.drop k) = (lis l).drop k := List.map_drop
theorem li_cell (x : Li) : (li x).oneCell' = true := by cases x <;> rfl
theorem lis_cells (l : List Li) : ∀ u ∈ lis l, u.oneCell' = true := by
  intro u hu
  obtain ⟨x, _, rfl⟩ := List.mem_map.1 hu
  exact li_cell x
theorem lis_get {l : List Li} {k : Nat} (h : k < l.length) : (lis l)[k]? = some (li (l.getD k default)) := by
  unfold lis; simp [h]
def bare (x : Li) : Option (List Cl) := x.map Prod.snd
def LiOk (w : World) (c : Nat) (x : Li) : Prop := ∀ y, x = some y → Rm w y.1 y.2 ∧ y.2.length = c
theorem LiOk.kept {w w' : World} {c : Nat} {x : Li} (h : LiOk w c x) (hb : Below w.heap.size w w') : LiOk w' c x := fun y e => ⟨(h y e).1.kept hb, (h y e).2⟩
def LisOk (w : World) (c : Nat) (l : List Li) : Prop := ∀ x ∈ l, LiOk w c x
theorem LisOk.kept {w w' : World} {c : Nat} {l : List Li} (h : LisOk w c l) (hb : Below w.heap.size w w') : LisOk w' c l := fun x hx => (h x hx).kept hb
def Pv (w : World) (x : Value) (l : List Li) : Prop := Src w x l.length (lis l) ∧ ∃ A c, x = .slice A l.length c ∧ l.length ≤ c
theorem Pv.kept {w w' : World} {x : Value} {l : List Li} (h : Pv w x l) (hb : Below w.heap.size w w') : Pv w' x l := ⟨h.1.kept hb, h.2⟩
theorem Pv.room {w : World} {A : Option Addr} {n c : Nat} {l : List Li} (h : Pv w (.slice A n c) l) : n = l.length ∧ l.length ≤ c := by
  obtain ⟨_, A', c', e, hc⟩ := h
  injection e with e1 e2 e3
  exact ⟨e2, by omega⟩
theorem Pv.get {w : World} {A : Option Addr} {n c : Nat} {l : List Li} (h : Pv w (.slice A n c) l) {k : Nat} (hk : k < l.length) : ∃ ad, A = some ad ∧ w.cell? (ad.add k) = some (li (l.getD k default)) := by
  obtain ⟨A', c', e, hf⟩ := h.1.form
  injection e with e1 e2 e3
  subst e1
  obtain ⟨ad, rfl, hc⟩ := hf k hk
  exact ⟨ad, rfl, by rw [hc, lis_get hk]⟩
theorem pline_slice : Tryd.prog.underlying 51 = some (.slice (Tryd.prog.elem 51)) := by kernel_rfl
theorem pline_size (w' : World) : (sizeOf (Tryd.prog.elem 51)).run Tryd.prog w' = .ok 1 w' := by kernel_rfl
theorem Pv.mid {w : World} {A : Option Addr} {n c : Nat} {l : List Li} (h : Pv w (.slice A n c) l) (lo hi : Nat) (h1 : lo ≤ hi) (h2 : hi ≤ l.length) :
    Pv w (.slice (if c = lo then A else A.map (·.add lo)) (hi - lo) (c - lo)) ((l.drop lo).take (hi - lo)) := by
  obtain ⟨en, hc⟩ := h.room
  have hlen : ((l.drop lo).take (hi - lo)).length = hi - lo := by rw [List.length_take, List.length_drop]; omega
  refine ⟨⟨by rw [lis_length], ?_⟩, _, _, by rw [hlen], by rw [hlen]; omega⟩
  rcases h.1.2 with ⟨e, h0⟩ | ⟨ad, c2, e, hcell⟩
  · injection e with e1 e2 e3
    subst e1; subst e3
    left
    have : lo = 0 := by omega
    subst this
    exact ⟨by rw [if_pos rfl]; congr 1; omega, by rw [hlen]; omega⟩
  · injection e with e1 e2 e3
    subst e1; subst e3
    right
    by_cases hck : c = lo
    · rw [if_pos hck]
      refine ⟨ad, c - lo, by rw [hlen], fun j u hu => ?_⟩
      have hd : (l.drop lo).take (hi - lo) = [] := List.eq_nil_of_length_eq_zero (by rw [hlen]; omega)
      rw [hd] at hu; simp [lis] at hu
    · rw [if_neg hck]
      refine ⟨ad.add lo, c - lo, by rw [hlen]; rfl, fun j u hu => ?_⟩
      rw [Go.Deep.add_add]
      refine hcell (lo + j) u ?_
      rw [lis_take, lis_drop] at hu
      have hj : j < hi - lo := by
        have := (List.getElem?_eq_some_iff.1 hu).1
        rw [List.length_take] at this; omega
      rw [List.getElem?_take_of_lt hj, List.getElem?_drop] at hu
      exact hu
theorem Pv.run_mid {w : World} {A : Option Addr} {n c : Nat} {l : List Li} (h : Pv w (.slice A n c) l) (lo hi : Nat) (h1 : lo ≤ hi) (h2 : hi ≤ l.length) (w' : World) :
    (Instr.slice 51 (.slice A n c) (some (.int .i64 lo)) (some (.int .i64 hi)) none).run Tryd.prog w' = .ok (.slice (if c = lo then A else A.map (·.add lo)) (hi - lo) (c - lo)) w' := by
  obtain ⟨en, hc⟩ := h.room
  rw [run_slice_lh w' 51 A n c pline_slice .i64 .i64 lo hi (by omega) (by omega) (by omega), pline_size]
  simp [Result.andThen, sliced]
theorem Pv.from {w : World} {A : Option Addr} {n c : Nat} {l : List Li} (h : Pv w (.slice A n c) l) (k : Nat) (hk : k ≤ l.length) :
    Pv w (.slice (if c = k then A else A.map (·.add k)) (n - k) (c - k)) (l.drop k) := by
  have := h.mid k l.length hk (Nat.le_refl _)
  rw [h.room.1]
  rwa [List.take_of_length_le (by rw [List.length_drop]; exact Nat.le_refl _)] at this
theorem Pv.run_from {w : World} {A : Option Addr} {n c : Nat} {l : List Li} (h : Pv w (.slice A n c) l) (k : Nat) (hk : k ≤ l.length) (w' : World) :
    (Instr.slice 51 (.slice A n c) (some (.int .i64 k)) none none).run Tryd.prog w' = .ok (.slice (if c = k then A else A.map (·.add k)) (n - k) (c - k)) w' := by
  obtain ⟨en, hc⟩ := h.room
  rw [run_slice_l w' 51 A n c pline_slice .i64 k (by omega) (by omega), pline_size]
  simp [Result.andThen, sliced]
theorem Pv.upto {w : World} {A : Option Addr} {n c : Nat} {l : List Li} (h : Pv w (.slice A n c) l) (k : Nat) (hk : k ≤ l.length) : Pv w (.slice A k c) (l.take k) := by
  obtain ⟨en, hc⟩ := h.room
  have hlen : (l.take k).length = k := by rw [List.length_take]; omega
  refine ⟨⟨by rw [lis_length], ?_⟩, _, _, by rw [hlen], by rw [hlen]; omega⟩
  rcases h.1.2 with ⟨e, h0⟩ | ⟨ad, c2, e, hcell⟩
  · injection e with e1 e2 e3
    subst e1; subst e3
    left
    exact ⟨by congr 1; omega, by rw [hlen]; omega⟩
  · injection e with e1 e2 e3
    subst e1; subst e3
    right
    refine ⟨ad, c, by rw [hlen], fun j u hu => ?_⟩
    refine hcell j u ?_
    rw [lis_take] at hu
    have hj : j < k := by
      have := (List.getElem?_eq_some_iff.1 hu).1
      rw [List.length_take] at this; omega
    rwa [List.getElem?_take_of_lt hj] at hu
theorem Pv.run_upto {w : World} {A : Option Addr} {n c : Nat} {l : List Li} (h : Pv w (.slice A n c) l) (k : Nat) (hk : k ≤ l.length) (w' : World) :
    (Instr.slice 51 (.slice A n c) none (some (.int .i64 k)) none).run Tryd.prog w' = .ok (.slice A k c) w' := by
  obtain ⟨en, hc⟩ := h.room
  rw [run_slice_h w' 51 A n c pline_slice .i64 k (by omega) (by omega), pline_size]
  simp [Result.andThen, sliced]
  intro _
  cases A <;> simp [Addr.add]
def OwnP (w : World) (base : Nat) (v : Value) (l : List Li) : Prop := w.ownsRow base 69 1 v l.length (lis l)
theorem OwnP.sv {w : World} {base : Nat} {v : Value} {l : List Li} (h : OwnP w base v l) : Pv w v l := by
  refine ⟨Src.own h, ?_⟩
  rcases h.2 with ⟨rfl, h0⟩ | ⟨g, cap, cur, rfl, _, _, hc, _⟩
  · exact ⟨none, 0, by rw [h0], by omega⟩
  · exact ⟨_, _, rfl, hc⟩
theorem OwnP.kept {w w' : World} {base : Nat} {v : Value} {l : List Li} (h : OwnP w base v l) (hb : Below w.heap.size w w') : OwnP w' base v l := own_kept h hb
theorem OwnP.nil (w : World) (base : Nat) : OwnP w base (.slice none 0 0) [] := World.ownsRow_nil _ _ _ _
theorem OwnP.low {w : World} {base b2 : Nat} {v : Value} {l : List Li} (h : OwnP w base v l) (hb : b2 ≤ base) : OwnP w b2 v l := Blk.low h hb
theorem OwnP.lt {w : World} {base : Nat} {v : Value} {l : List Li} (h : OwnP w base v l) (k : Nat) (hk : v.ownBlock = some k) : base ≤ k ∧ k < w.heap.size := World.ownsRow.lt h k hk
theorem pline_info : (Tryd.prog.info? 69).map (fun i => (i.zero, i.size, i.bytes)) = some (some .nilIface, 1, 16) := by kernel_rfl
theorem pline_row : ∃ i : TypeInfo, Tryd.prog.info? 69 = some i ∧ i.zero = some .nilIface ∧ i.size = 1 ∧ i.bytes = 16 := by
  obtain ⟨i, h, h1, h2, h3⟩ := info_parts pline_info
  exact ⟨i, h, h1, h2, h3⟩
theorem below_pl {B : Nat} {a w w' : World} {v : Value} {l : List Li} (h : Below B a w) (hg : w.grownBy w' v.ownBlock) (hB : B ≤ w.heap.size) (ho : OwnP w B v l) : Below B a w' :=
  h.grown hg hB fun k hk => (ho.lt k hk).1
theorem wp_append_pl {w : World} {ops : Array Oper} {rest : List Oper} {o : Oper} {a : Act} {Q : Exit → Act → World → Prop} {s x : Operand} (hgd : o.guard = none)
    (ho : o.op = .call { callee := .builtin .append, args := #[s, x], argTypes := #[51, 51] }) (base : Nat) (v y : Value) (l r : List Li) (hs : a.eval s = v) (hown : OwnP w base v l)
    (hy : a.eval x = y) (hx : Pv w y r) (hl : l.length + r.length ≤ 1000000000) (hbase : base ≤ w.heap.size)
    (h : ∀ v' w', OwnP w' base v' (l ++ r) → w.grownBy w' v.ownBlock → (v'.ownBlock = v.ownBlock ∨ v'.ownBlock = some w.heap.size) → wpList Tryd.prog ops Q rest (a.put o.dst v') w') :
    wpList Tryd.prog ops Q (o :: rest) a w := by
  obtain ⟨i, hi, hz, h1, h16⟩ := pline_row
  refine wpList_append_src hgd ho base 69 i _ 16 Tryd.underlying51 hi hz h1 h16 rfl v l.length (lis l) hs hown y r.length (lis r) hy hx.1 (lis_cells r) (by simp only [maxLen]; omega) (by omega) hbase fun v' w' h2 h3 h4 => ?_
  exact h v' w' (by unfold OwnP; rw [lis_append, List.length_append]; exact h2) h3 h4
theorem OwnP.n {w : World} {base b n cap : Nat} {l : List Li} (h : OwnP w base (.slice (some ⟨b, 0, none⟩) n cap) l) : n = l.length := by
  rcases h.2 with ⟨e, _⟩ | ⟨_, _, _, e, _⟩
  · injection e with e; cases e
  · injection e
theorem OwnP.shape {w : World} {base : Nat} {v : Value} {l : List Li} (h : OwnP w base v l) (h0 : 0 < l.length) : ∃ g cap, v = .slice (some ⟨g, 0, none⟩) l.length cap ∧ base ≤ g ∧ l.length ≤ cap := by
  rcases h.2 with ⟨rfl, h1⟩ | ⟨g, cap, cur, rfl, hb, hg, hc, _⟩
  · omega
  · exact ⟨g, cap, rfl, hb, hc⟩
theorem OwnP.cell {w : World} {base b n cap : Nat} {l : List Li} (h : OwnP w base (.slice (some ⟨b, 0, none⟩) n cap) l) {k : Nat} (hk : k < l.length) : w.cell? ⟨b, k, none⟩ = some (li (l.getD k default)) := by
  have hn : n = l.length := h.n
  subst hn
  rw [World.ownsRow.cellAt h k (by omega), lis_get hk]
theorem OwnP.free {w : World} {base b n cap : Nat} {l : List Li} (h : OwnP w base (.slice (some ⟨b, 0, none⟩) n cap) l) (j : Nat) : w.frozen? ⟨b, j, none⟩ = false := by
  have hn : n = l.length := h.n
  subst hn
  exact World.ownsRow.frozenAt h j
theorem OwnP.put {w : World} {base b n cap : Nat} {l : List Li} (h : OwnP w base (.slice (some ⟨b, 0, none⟩) n cap) l) (k : Nat) (x : Li) : OwnP (w.setCell ⟨b, k, none⟩ (li x)) base (.slice (some ⟨b, 0, none⟩) n cap) (l.set k x) := by
  have hn : n = l.length := h.n
  subst hn
  have s := (World.ownsRow.stored h k (li x)).1
  unfold OwnP
  rw [List.length_set]
  have e : lis (l.set k x) = (lis l).set k (li x) := by unfold lis; rw [List.map_set]
  rw [e]; exact s
theorem OwnP.other {w : World} {base g : Nat} {v : Value} {l : List Li} (h : OwnP w base v l) (hg : v.ownBlock ≠ some g) (j : Nat) (u : Value) : OwnP (w.setCell ⟨g, j, none⟩ u) base v l := by
  refine ⟨h.1, ?_⟩
  rcases h.2 with h0 | ⟨b, cap, cur, rfl, hb, hk, rest⟩
  · exact .inl h0
  · exact .inr ⟨b, cap, cur, rfl, hb, Blk.other hk (fun e => hg (by rw [e]; rfl)) j u, rest⟩
def setK (F : Nat → Li) (L : List Li) (k : Nat) : List Li := (List.range L.length).map fun i => if i < k then F i else L.getD i default
theorem setK_length (F : Nat → Li) (L : List Li) (k : Nat) : (setK F L k).length = L.length := by unfold setK; simp
theorem setK_get (F : Nat → Li) (L : List Li) (k : Nat) {i : Nat} (h : i < L.length) : (setK F L k).getD i default = if i < k then F i else L.getD i default := by
  unfold setK; simp [List.getD, h]
theorem li_ext {a b : List Li} (h : a.length = b.length) (k : ∀ i, i < a.length → a.getD i default = b.getD i default) : a = b := by
  apply List.ext_getElem h
  intro i h1 h2
  have := k i h1
  simpa [List.getD, h1, h2] using this
theorem setK_zero (F : Nat → Li) (L : List Li) : setK F L 0 = L := li_ext (setK_length F L 0) fun i hi => by
  rw [setK_length] at hi
  rw [setK_get F L 0 hi, if_neg (by omega)]
theorem setK_succ (F : Nat → Li) (L : List Li) (k : Nat) : setK F L (k + 1) = (setK F L k).set k (F k) := li_ext (by rw [List.length_set, setK_length, setK_length]) fun i hi => by
  rw [setK_length] at hi
  rw [setK_get F L (k + 1) hi]
  by_cases e : i = k
  · subst e
    rw [if_pos (by omega)]
    simp [List.getD, setK_length, hi]
  · have h2 : ((setK F L k).set k (F k)).getD i default = (setK F L k).getD i default := by simp [List.getD, List.getElem?_set_ne (fun q => e q.symm)]
    rw [h2, setK_get F L k hi]
    by_cases q : i < k
    · rw [if_pos q, if_pos (by omega)]
    · rw [if_neg q, if_neg (by omega)]
theorem setK_same (F : Nat → Li) (L : List Li) (k : Nat) (h : F k = L.getD k default) : setK F L (k + 1) = setK F L k := li_ext (by rw [setK_length, setK_length]) fun i hi => by
  rw [setK_length] at hi
  rw [setK_get F L (k + 1) hi, setK_get F L k hi]
  by_cases e : i = k
  · subst e
    rw [if_pos (by omega), if_neg (by omega), h]
  · by_cases q : i < k
    · rw [if_pos q, if_pos (by omega)]
    · rw [if_neg q, if_neg (by omega)]
theorem bare_get {L : List Li} {R : Nat} {P : Nat → Bool} {f : Nat → List Cl} (h : L.map bare = mkL R P f) {k : Nat} (hk : k < L.length) : bare (L.getD k default) = if P k = true then some (f k) else none := by
  have hl : L.length = R := by have := congrArg List.length h; rwa [List.length_map, mkL_length] at this
  have e := mkL_get R P f (i := k) (by omega)
  rw [← h, List.getD_eq_getElem?_getD, List.getElem?_map, List.getElem?_eq_getElem hk] at e
  rw [List.getD_eq_getElem?_getD, List.getElem?_eq_getElem hk]
  exact e
theorem bare_is {L : List Li} {R : Nat} {P : Nat → Bool} {f : Nat → List Cl} (hl : L.length = R) (h : ∀ k, k < R → bare (L.getD k default) = if P k = true then some (f k) else none) : L.map bare = mkL R P f :=
  mkL_is (by rw [List.length_map, hl]) fun i hi => by
    have e := h i hi
    have hi : i < L.length := by omega
    rw [List.getD_eq_getElem?_getD, List.getElem?_eq_getElem hi] at e
    rw [List.getD_eq_getElem?_getD, List.getElem?_map, List.getElem?_eq_getElem hi]
    exact e
theorem lisOk_of {w : World} {c : Nat} {l : List Li} (h : ∀ j, j < l.length → LiOk w c (l.getD j default)) : LisOk w c l := by
  intro x hx
  obtain ⟨i, hi, rfl⟩ := List.getElem_of_mem hx
  have := h i hi
  simpa [hi] using this
theorem LisOk.get {w : World} {c : Nat} {l : List Li} (h : LisOk w c l) {j : Nat} (hj : j < l.length) : LiOk w c (l.getD j default) :=
  h _ (by rw [List.getD_eq_getElem?_getD, List.getElem?_eq_getElem hj]; exact List.getElem_mem hj)
def WholeP (w : World) (b : Nat) (vs : List Value) : Prop := w.heap[b]? = some (.cells vs.toArray 69 (0, 0))
theorem WholeP.own {w : World} {b : Nat} {l : List Li} (h : WholeP w b (lis l)) {base : Nat} (hb : base ≤ b) (hl : l.length ≤ 1000000) : OwnP w base (.slice (some ⟨b, 0, none⟩) l.length l.length) l := by
  refine ⟨by rw [lis_length, Nat.mul_one], .inr ⟨b, l.length, _, rfl, hb, h, Nat.le_refl _, by simp only [maxLen]; omega, ?_, ?_⟩⟩
  · simp [lis_length]
  · rw [Nat.mul_one, ← lis_length]; simp
theorem WholeP.of {w : World} {base b n : Nat} {vs : List Value} (h : w.ownsRow base 69 1 (.slice (some ⟨b, 0, none⟩) n n) n vs) : WholeP w b vs := by
  rcases h.2 with ⟨e, _⟩ | ⟨b', cap, cur, e, _, hg, _, _, hs, ht⟩
  · injection e with e; cases e
  · injection e with e1 e2 e3
    injection e1 with e1
    injection e1 with e1
    subst e1
    subst e3
    unfold WholeP
    rw [hg]
    have : cur.toList = vs := by
      rw [← ht, List.take_of_length_le (by rw [Array.length_toList, hs]; exact Nat.le_refl _)]
    rw [← this]
theorem run_copy_pl {w : World} {ty : TypeId} {b k dLen dCap sLen sCap m : Nat} {a : Addr} {l r : List Value} (h : WholeP w b l) (hm : m = Nat.min sLen dLen) (hr : r.length = m) (hk : k + m ≤ l.length)
    (hsrc : ∀ j u, r[j]? = some u → w.cell? (a.add j) = some u) (h1 : ∀ v ∈ r, v.oneCell' = true) :
    ∃ w', (Builtin.copy_ #[51, 51] ty #[.slice (some ⟨b, k, none⟩) dLen dCap, .slice (some a) sLen sCap]).run Tryd.prog w = .ok (goInt m) w' ∧ WholeP w' b (l.take k ++ (r ++ l.drop (k + m))) ∧
      ∀ B w0, Below B w0 w → B ≤ b → Below B w0 w' := by
  obtain ⟨i, hi, hz, h1', h16⟩ := pline_row
  have hrun := run_copy_wide (P := Tryd.prog) w 51 51 ty 69 b k dLen dCap a sLen sCap _ _ r 1 m Tryd.underlying51 (by rw [hi]; simp [h1']) h hm (by rw [hr, Nat.mul_one]) hsrc
    (by simp only [List.size_toArray]; rw [hr]; omega) h1
  refine ⟨_, hrun, ?_, fun B w0 hb hB => below_setRow hb hB _⟩
  have hrow := setRow_heap w b _ (l.toArray.toList.take k ++ r ++ l.toArray.toList.drop (k + r.length)).toArray _ _ h
  unfold WholeP
  rw [hrow, hr, List.append_assoc]
theorem wp_copy_pl {w : World} {ops : Array Oper} {rest : List Oper} {o : Oper} {a : Act} {Q : Exit → Act → World → Prop} {d s : Operand} (hgd : o.guard = none)
    (ho : o.op = .call { callee := .builtin .copy, args := #[d, s], argTypes := #[51, 51] }) (b k dLen dCap sLen sCap m : Nat) (ad : Addr) (l r : List Value)
    (hd : a.eval d = .slice (some ⟨b, k, none⟩) dLen dCap) (hs : a.eval s = .slice (some ad) sLen sCap) (h : WholeP w b l) (hm : m = Nat.min sLen dLen) (hr : r.length = m) (hk : k + m ≤ l.length)
    (hsrc : ∀ j u, r[j]? = some u → w.cell? (ad.add j) = some u) (h1 : ∀ v ∈ r, v.oneCell' = true)
    (hK : ∀ w', WholeP w' b (l.take k ++ (r ++ l.drop (k + m))) → (∀ B w0, Below B w0 w → B ≤ b → Below B w0 w') → wpList Tryd.prog ops Q rest (a.put o.dst (goInt m)) w') : wpList Tryd.prog ops Q (o :: rest) a w := by
  refine wpList_plain hgd fun K hK' => ?_
  obtain ⟨w', hrun, h1, h2⟩ := run_copy_pl (ty := o.type) (dCap := dCap) (sCap := sCap) h hm hr hk hsrc h1
  unfold Oper.wp execOp
  simp only [ho, resolve, invoke, builtin, Sem.run_bind, Sem.run_pure, Result.andThen_ok, List.map_toArray, List.map_cons, List.map_nil, hs, hd, hrun]
  exact hK' _ _ (hK w' h1 h2)
theorem step_copy_pl {w : World} {ops : Array Oper} {o : Oper} {a : Act} {K : Act → World → Prop} {Q : Exit → Act → World → Prop} {E : Prop} {d s : Operand} (hgd : o.guard = none)
    (ho : o.op = .call { callee := .builtin .copy, args := #[d, s], argTypes := #[51, 51] }) (b k dLen dCap sLen sCap m : Nat) (ad : Addr) (l r : List Value)
    (hd : a.eval d = .slice (some ⟨b, k, none⟩) dLen dCap) (hs : a.eval s = .slice (some ad) sLen sCap) (h : WholeP w b l) (hm : m = Nat.min sLen dLen) (hr : r.length = m) (hk : k + m ≤ l.length)
    (hsrc : ∀ j u, r[j]? = some u → w.cell? (ad.add j) = some u) (h1 : ∀ v ∈ r, v.oneCell' = true)
    (hK : ∀ w', WholeP w' b (l.take k ++ (r ++ l.drop (k + m))) → (∀ B w0, Below B w0 w → B ≤ b → Below B w0 w') → K (a.put o.dst (goInt m)) w') :
    if Region.wanted o (yielded ops a.tmps) = true then Oper.wp Tryd.prog o a w K Q else E := by
  have hw : Region.wanted o (yielded ops a.tmps) = true := by simp [Region.wanted, hgd]
  rw [if_pos hw]
  obtain ⟨w', hrun, h1, h2⟩ := run_copy_pl (ty := o.type) (dCap := dCap) (sCap := sCap) h hm hr hk hsrc h1
  unfold Oper.wp execOp
  simp only [ho, resolve, invoke, builtin, Sem.run_bind, Sem.run_pure, Result.andThen_ok, List.map_toArray, List.map_cons, List.map_nil, hs, hd, hrun]
  exact hK w' h1 h2
theorem WholeP.cell {w : World} {b : Nat} {l r t : List Value} (h : WholeP w b l) (e : l = r ++ t) : ∀ j u, r[j]? = some u → w.cell? ((⟨b, 0, none⟩ : Addr).add j) = some u := by
  intro j u hu
  have hj : j < r.length := (List.getElem?_eq_some_iff.1 hu).1
  have ha : (⟨b, 0, none⟩ : Addr).add j = ⟨b, j, none⟩ := by
    unfold Addr.add
    by_cases h0 : j = 0
    · subst h0; rfl
    · simp [h0]
  rw [ha, Blk.cell h, e]
  rw [List.getElem?_toArray, List.getElem?_append_left hj]
  exact hu
theorem madeP_zero (n : Nat) : (madeCells Value.nilIface.cells (n * 1)).toList = List.replicate n Value.nilIface := by
  apply List.ext_getElem?
  intro j
  by_cases hj : j < n
  · simp only [madeCells, Value.cells]
    rw [Array.getElem?_toList, Array.getElem?_map, Array.getElem?_range]
    simp [hj, Nat.mod_one]
  · rw [List.getElem?_eq_none (by rw [Array.length_toList, size_madeCells]; omega), List.getElem?_eq_none (by rw [List.length_replicate]; omega)]
theorem repP_step {n k m : Nat} (c z : Value) (hm : k + m ≤ n) :
    (List.replicate k c ++ List.replicate (n - k) z).take k ++ (List.replicate m c ++ (List.replicate k c ++ List.replicate (n - k) z).drop (k + m)) = List.replicate (k + m) c ++ List.replicate (n - (k + m)) z := by
  have hl : (List.replicate k c).length = k := List.length_replicate
  rw [List.take_append_of_le_length (by rw [hl]; exact Nat.le_refl _), List.take_of_length_le (by rw [hl]; exact Nat.le_refl _), List.drop_append, List.drop_of_length_le (by rw [hl]; omega), List.nil_append, hl, List.drop_replicate, ← List.append_assoc, List.replicate_append_replicate]
  congr 2
  omega
set_option maxHeartbeats 800000 in
theorem repeatP_any (c : Li) (x : Value) (n : Nat) (w : World) (hx : Pv w x [c]) (hn : n ≤ 1000000) :
    Calls Tryd.prog 34 #[x, .int .i64 n] w fun e w' => ∃ v, e = .returned v ∧ OwnP w' w.heap.size v (List.replicate n c) ∧ Below w.heap.size w w' := by
  obtain ⟨i, hi, hz, h1, h16⟩ := pline_row
  have hx0 := hx
  obtain ⟨_, A, cp, rfl, hcp⟩ := hx
  obtain ⟨ad, rfl, hA⟩ := hx0.get (k := 0) (by simp)
  have hone : ∀ k : Nat, ∀ u ∈ List.replicate k (li c), u.oneCell' = true := fun k u hu => by rw [(List.mem_replicate.1 hu).2]; exact li_cell c
  have HX := Lib.hid hx0
  clear hA hx0
  go_enter Tryd.func34, Tryd.ntmps34
  go_wp2_with fail
  refine (mul_one n hn _).mono ?_; rintro e w' ⟨rfl, rfl⟩
  obtain ⟨m, hm, hm1, hm0⟩ : ∃ m, m = Nat.min 1 n ∧ m ≤ n ∧ (m = 0 → n = 0) := ⟨_, rfl, Nat.min_le_right _ _, fun h => by have : Nat.min 1 n = min 1 n := rfl; omega⟩
  have hm2 : m ≤ 1 := by rw [hm]; exact Nat.min_le_left _ _
  have HSRC : Hid (∀ w' : World, Below w.heap.size w w' → ∀ j u, (List.replicate m (li c))[j]? = some u → w'.cell? (ad.add j) = some u) := Lib.hid fun w' hb j u hu => by
    obtain ⟨ad', e, hc⟩ := (HX.out.kept hb).get (k := 0) (by simp)
    injection e with e
    subst e
    rcases (by omega : m = 0 ∨ m = 1) with e | e
    · rw [e] at hu; simp at hu
    · rw [e] at hu
      have hj : j = 0 := by
        have := (List.getElem?_eq_some_iff.1 hu).1
        simpa using this
      subst hj
      have : li c = u := by simpa using hu
      subst this
      exact hc
  go_wp2_with (first
    | (at_make; refine wpList_make_full _ rfl _ _ _ rfl w.heap.size 69 i _ 1 Tryd.underlying51 hi hz h1 .i64 .i64 _ _ n rfl rfl (by go_num) (by go_num) (by rw [h16]; omega) (by simp only [maxLen]; omega) (Nat.le_refl _) ?_; intro w1 ho1 hg1; rw [madeP_zero] at ho1; have HW1 := Lib.hid (WholeP.of ho1); have HB1 : Hid (Below w.heap.size w w1) := Lib.hid ((Below.refl _ w).grown hg1 (Nat.le_refl _) (fun k hk => by cases hk)); clear ho1)
    | (with_reducible refine wp_copy_pl (o := ⟨some 33, _, _, _, _, _⟩) rfl rfl w.heap.size 0 n n 1 cp m ad (List.replicate n Value.nilIface) (List.replicate m (li c)) rfl rfl HW1.out hm List.length_replicate (by rw [List.length_replicate]; omega) (HSRC.out _ HB1.out) (hone m) ?_; intro w2 hw2 hb2; have HW2 := Lib.hid hw2; have HB2 := Lib.hid (hb2 _ _ HB1.out (Nat.le_refl _)); clear hw2 hb2))
  have HW3 : Hid (WholeP w2 w.heap.size (List.replicate m (li c) ++ List.replicate (n - m) Value.nilIface)) := Lib.hid (by
    have h := HW2.out
    rwa [List.take_zero, List.nil_append, Nat.zero_add, List.drop_replicate] at h)
  clear HW2
  go_loopw [8] (fun i wr => ∃ k : Nat, k ≤ n ∧ (k = 0 → n = 0) ∧ i = .int .i64 k ∧ Hid (WholeP wr w.heap.size (List.replicate k (li c) ++ List.replicate (n - k) Value.nilIface)) ∧ Below w.heap.size w wr) (fun i _ => n - (intOf i).toNat)
  case atStart => exact ⟨m, hm1, hm0, by go_num, HW3, HB2.out⟩
  case round =>
    obtain ⟨k, hk, hk0, rfl, HW, hbl⟩ := hrel
    by_cases hlt : k < n
    · have hne : ¬ n = k := by omega
      obtain ⟨p, hp, hp1, hp2⟩ : ∃ p, p = Nat.min k (n - k) ∧ 0 < p ∧ k + p ≤ n := ⟨_, rfl, by have : Nat.min k (n - k) = min k (n - k) := rfl; omega, by have : Nat.min k (n - k) = min k (n - k) := rfl; omega⟩
      have hpk : p ≤ k := by rw [hp]; exact Nat.min_le_left _ _
      have HSR : Hid (∀ j u, (List.replicate p (li c))[j]? = some u → wr.drew.cell? ((⟨w.heap.size, 0, none⟩ : Addr).add j) = some u) := Lib.hid (WholeP.cell (w := wr.drew) HW.out (t := List.replicate (k - p) (li c) ++ List.replicate (n - k) Value.nilIface) (by rw [← List.append_assoc, List.replicate_append_replicate]; congr 2; omega))
      have HLL : Hid ((List.replicate k (li c) ++ List.replicate (n - k) Value.nilIface).length = n) := Lib.hid (by simp; omega)
      have hwrap : IntKind.i64.wrap ((k : Int) + (p : Int)) = (k : Int) + (p : Int) := by rw [IntKind.wrap_i64]; omega
      have HPP := Lib.hid hp
      clear hp
      have HWD : Hid (WholeP wr.drew w.heap.size (List.replicate k (li c) ++ List.replicate (n - k) Value.nilIface)) := Lib.hid HW.out
      have HBD : Hid (Below w.heap.size w wr.drew) := Lib.hid hbl.drew
      go_wp2_with fail
      go_region_law (refine step_copy_pl rfl rfl w.heap.size k (n - k) (n - k) k n p ⟨w.heap.size, 0, none⟩ (List.replicate k (li c) ++ List.replicate (n - k) Value.nilIface) (List.replicate p (li c)) (by go_simp) (by go_simp) HWD.out HPP.out List.length_replicate (by rw [HLL.out]; exact hp2) HSR.out (hone p) ?_; intro w3 hw3 hb3; have HW4 := Lib.hid hw3; have HB4 := Lib.hid (hb3 _ _ HBD.out (Nat.le_refl _)); clear hw3 hb3)
      have HW5 : Hid (WholeP w3 w.heap.size (List.replicate (k + p) (li c) ++ List.replicate (n - (k + p)) Value.nilIface)) := Lib.hid (by rw [← repP_step (li c) Value.nilIface hp2]; exact HW4.out)
      clear HW4
      go_simp
      go_wp2_with fail
      go_roundw
      case rel => exact ⟨k + p, hp2, by omega, by go_num, HW5, HB4.out⟩
      case measure => simp [intOf]; omega
    · have hkn : k = n := by omega
      subst hkn
      have HE : Hid (List.replicate k (li c) ++ List.replicate (k - k) Value.nilIface = lis (List.replicate k c)) := Lib.hid (by simp [lis])
      have HO : Hid (OwnP wr w.heap.size (.slice (some ⟨w.heap.size, 0, none⟩) k k) (List.replicate k c)) := Lib.hid (by
        have h := HW.out
        rw [HE.out] at h
        have := h.own (Nat.le_refl w.heap.size) (by rw [List.length_replicate]; exact hn)
        rwa [List.length_replicate] at this)
      go_wp2_with fail
      go_ret
      exact ⟨_, rfl, HO.out, hbl⟩
end Pat
end
end Go.Proofs.YtjcfbeiljdohcaaDoor
