/- Joined texts: RowRefOps, RowRefEr, GrdMend. -/
import Derived.Test.YtceaoadlhdgnmaaGreatDoorM21
namespace Go.Proofs.YtceaoadlhdgnmaaGreatDoor
set_option maxRecDepth 100000
section
open Go.RowKit
namespace Row
open Utf Wid
theorem flat_setW : ∀ (l : List Cl) (k : Nat) (_ : k < l.length) (x : Int), (flat l).set (k * 6 + 2) (.int .i64 x) = flat (l.set k ⟨(g l k).rune, (g l k).comb, x, (g l k).a⟩)
  | c :: l, 0, _, x => by
    show _ = cvals _ ++ flat l
    rw [flat_cons]
    rfl
  | c :: l, k + 1, h, x => by
    have ih := flat_setW l k (by simpa using h) x
    show _ = cvals c ++ flat (l.set k _)
    have hg : g (c :: l) (k + 1) = g l k := rfl
    rw [hg, ← ih, flat_cons]
    have hx : (cvals c).length = 6 := rfl
    rw [List.set_append_right _ _ (by rw [hx]; omega), hx, show (k + 1) * 6 + 2 - 6 = k * 6 + 2 from by omega]
theorem OwnCs.putWide {w : World} {base b n cap : Nat} {l : List Cl} (h : OwnCs w base (.slice (some ⟨b, 0, none⟩) n cap) l) {k : Nat} (hk : k < l.length) (x : Int) :
    OwnCs (w.setCell ⟨b, k * 6 + 2, none⟩ (.int .i64 x)) base (.slice (some ⟨b, 0, none⟩) n cap) (l.set k ⟨(g l k).rune, (g l k).comb, x, (g l k).a⟩) := by
  have hn := h.n
  subst hn
  have s0 := (World.ownsRow.stored h (k * 6 + 2) (.int .i64 x)).1
  rw [flat_setW l k hk x] at s0
  unfold OwnCs
  rw [List.length_set]
  exact s0
set_option maxHeartbeats 800000 in
theorem refBlank_any (n : Nat) (a : Look) (w : World) (hn : n ≤ 1000) :
    Calls Tryz.prog 113 #[.int .i64 n, .agg #[.int .i64 a.fg, .int .i64 a.bg, .int .i64 a.flags]] w fun e w' => ∃ v, e = .returned v ∧ OwnCs w' w.heap.size v (List.replicate n (blank a)) ∧ Below w.heap.size w w' := by
  have HB : Hid (∀ w', Calls Tryz.prog 148 #[.agg #[.int .i64 a.fg, .int .i64 a.bg, .int .i64 a.flags]] w' fun e w'' => e = .returned (.agg #[.int .i64 32, .string ⟨#[]⟩, .int .i64 0, .int .i64 (-1), .int .i64 a.bg, .int .i64 0]) ∧ Below w'.heap.size w' w'') := Lib.hid (fun w' => refblank_any a w')
  have HO : Hid (∀ w' : World, Cs (w'.alloc (.cells #[.int .i64 32, .string ⟨#[]⟩, .int .i64 0, .int .i64 (-1), .int .i64 a.bg, .int .i64 0] 57)) (.slice (some ⟨w'.heap.size, 0, none⟩) 1 1) [blank a]) := Lib.hid fun w' => Cs.one w' (blank a) _ 1 _ rfl
  have hb0 : Below w.heap.size w (w.alloc (.cells #[.int .i64 a.fg, .int .i64 a.bg, .int .i64 a.flags] 31)) := (Below.refl _ _).alloc (Nat.le_refl _) _
  have hk0 : (w.alloc (.cells #[.int .i64 a.fg, .int .i64 a.bg, .int .i64 a.flags] 31)).heap[w.heap.size]? = some (.cells #[.int .i64 a.fg, .int .i64 a.bg, .int .i64 a.flags] 31 (0, 0)) := heap_alloc_new _ _
  have HB0 := Lib.hid hb0
  have HK0 := Lib.hid hk0
  clear hb0 hk0
  go_enter Tryz.func113, Tryz.ntmps113
  go_wp2_with fail
  go_loopw [5, 6] (fun v i wr => ∃ k : Nat, k ≤ n ∧ i = .int .i64 k ∧ OwnCs wr (w.heap.size + 1) v (List.replicate k (blank a)) ∧ Below (w.heap.size + 1) (w.alloc (.cells #[.int .i64 a.fg, .int .i64 a.bg, .int .i64 a.flags] 31)) wr) (fun _ i _ => n - (intOf i).toNat)
  case atStart => exact ⟨0, by omega, rfl, OwnCs.nil _ _, Below.refl _ _⟩
  case round =>
    obtain ⟨k, hk, rfl, hown, hbl⟩ := hrel
    have HOW := Lib.hid hown
    have HBL := Lib.hid hbl
    have hsz : w.heap.size + 1 ≤ wr.heap.size := by have := hbl.size; simpa using this
    by_cases hlt : k < n
    · have hkk := hbl.block w.heap.size (by omega)
      rw [HK0.out] at hkk
      obtain ⟨k0, k1, k2⟩ := box_cells hkk
      have HR : Hid (List.replicate (k + 1) (blank a) = List.replicate k (blank a) ++ [blank a]) := Lib.hid (by rw [← List.replicate_append_replicate]; rfl)
      clear hkk hown hbl
      go_wp2_with fail
      refine (HB.out _).mono ?_; rintro e w1 ⟨rfl, hb1⟩
      have HB1 : Hid (Below (w.heap.size + 1) (w.alloc (.cells #[.int .i64 a.fg, .int .i64 a.bg, .int .i64 a.flags] 31)) w1) := Lib.hid (HBL.out.trans (hb1.mono hsz))
      have HO1 := Lib.hid (HOW.out.kept hb1)
      have hsz1 : w.heap.size + 1 ≤ w1.heap.size := Nat.le_trans hsz hb1.size
      clear hb1 k0 k1 k2
      go_wp2_with (at_builtin; refine wp_append_cs rfl rfl (w.heap.size + 1) _ _ (List.replicate k (blank a)) [blank a] rfl (HO1.out.kept ((Below.refl _ _).alloc (Nat.le_refl _) _)) rfl (HO.out w1) (by rw [List.length_replicate]; simp; omega) (by simp; omega) ?_; intro v2 w2 ho2 hg2 hat2; have HO2 := Lib.hid ho2; have HB2 : Hid (Below (w.heap.size + 1) (w.alloc (.cells #[.int .i64 a.fg, .int .i64 a.bg, .int .i64 a.flags] 31)) w2) := Lib.hid (below_cs (HB1.out.alloc hsz1 _) hg2 (by simp; omega) (HO1.out.kept ((Below.refl _ _).alloc (Nat.le_refl _) _))); clear ho2 hg2 hat2)
      go_roundw
      case rel => exact ⟨k + 1, by omega, by go_num, by rw [HR.out]; exact HO2.out, HB2.out⟩
      case measure => simp [intOf]; omega
    · have hkn : k = n := by omega
      subst hkn
      clear hown hbl
      go_wp2_with fail
      go_ret
      exact ⟨_, rfl, HOW.out.low (Nat.le_succ _), HB0.out.trans (HBL.out.mono (Nat.le_succ _))⟩
set_option maxHeartbeats 800000 in
theorem refCut_no (l : List Cl) (base b p cap : Nat) (w : World) (ho : OwnCs w base (.slice (some ⟨b, 0, none⟩) l.length cap) l) (hp : p ≤ 2000) (hn : ¬ (0 < p ∧ p < l.length ∧ (g l p).wide = 2)) :
    Calls Tryz.prog 131 #[.slice (some ⟨b, 0, none⟩) l.length cap, .int .i64 p] w fun e w' => e = .returned (.tuple #[]) ∧ ∃ q, w' = w.drewN q := by
  by_cases h0 : 0 < p
  · by_cases h1 : p < l.length
    · have hx : ((g l p).wide == 2) = false := by rw [beq_eq_false_iff_ne]; exact fun e => hn ⟨h0, h1, e⟩
      have hat := ho.at h1
      have hd : decide (0 < (p : Int)) = true := decide_eq_true (by omega)
      clear hn ho
      generalize g l p = c at hx hat
      obtain ⟨cr, cm, cx, ⟨f1, f2, f3⟩⟩ := c
      have c2 := hat.next 1 rfl
      clear hat
      go_enter Tryz.func131, Tryz.ntmps131
      go_wp2_with fail
      go_end0
      exact ⟨rfl, 0, rfl⟩
    · have hd : decide (p < l.length) = false := decide_eq_false h1
      clear hn ho
      go_enter Tryz.func131, Tryz.ntmps131
      go_wp2_with fail
      go_end0
      exact ⟨rfl, 0, rfl⟩
  · have hp0 : p = 0 := by omega
    subst hp0
    clear hn ho
    go_enter Tryz.func131, Tryz.ntmps131
    go_wp2_with fail
    go_end0
    exact ⟨rfl, 0, rfl⟩
set_option maxHeartbeats 1600000 in
theorem refCut_yes (l : List Cl) (base b j k cap : Nat) (w : World) (ho : OwnCs w base (.slice (some ⟨b, 0, none⟩) l.length cap) l) (hbase : base ≤ w.heap.size) (hl : l.length ≤ 1000) (hk : k < l.length) (hj : k = j + 1) (hw : (g l k).wide = 2) :
    Calls Tryz.prog 131 #[.slice (some ⟨b, 0, none⟩) l.length cap, .int .i64 k] w fun e w' => e = .returned (.tuple #[]) ∧ OwnCs w' base (.slice (some ⟨b, 0, none⟩) l.length cap) ((l.set j (blank (g l j).a)).set k (blank (g l k).a)) ∧ Below base w w' := by
  have hjl : j < l.length := by omega
  have hwrap : IntKind.i64.wrap ((k : Int) - 1) = (j : Int) := by rw [IntKind.wrap_i64]; omega
  have h0 : 0 < k := by omega
  have hbb : base ≤ b := by
    rcases ho.shape with ⟨e, _⟩ | ⟨b', _, e, h, _⟩
    · injection e with e; cases e
    · injection e with e; injection e with e; injection e with e; rw [e]; exact h
  have HBB := Lib.hid hbb
  have HBS := Lib.hid hbase
  have HO := Lib.hid ho
  have HJN : Hid (j ≠ k) := Lib.hid (by omega)
  have HKL : Hid (k < (l.set j (blank (g l j).a)).length) := Lib.hid (by rw [List.length_set]; exact hk)
  have HGK : Hid (g (l.set j (blank (g l j).a)) k = g l k) := Lib.hid (g_set_ne HJN.out _)
  have HRJ := Lib.hid (fun w' => refblank_any (g l j).a w')
  have HRK := Lib.hid (fun w' => refblank_any (g l k).a w')
  have HFJ : Hid (∃ f, g l j = f) := Lib.hid ⟨_, rfl⟩
  have aj := ho.at hjl
  have ak := ho.at hk
  clear ho hj hbb hbase HFJ
  generalize hfj : g l j = fj at aj HRJ HGK HKL ⊢
  generalize hfk : g l k = fk at ak HRK HGK hw ⊢
  have HFJ := Lib.hid hfj
  have HFK := Lib.hid hfk
  clear hfj hfk
  obtain ⟨jr, jc, jw, ⟨j1, j2, j3⟩⟩ := fj
  obtain ⟨kr, kc, kw, ⟨k1, k2, k3⟩⟩ := fk
  obtain rfl : kw = 2 := hw
  have HRJ : Hid (∀ w', Calls Tryz.prog 148 #[.agg #[.int .i64 j1, .int .i64 j2, .int .i64 j3]] w' fun e w'' => e = .returned (.agg #[.int .i64 32, .string ⟨#[]⟩, .int .i64 0, .int .i64 (-1), .int .i64 j2, .int .i64 0]) ∧ Below w'.heap.size w' w'') := HRJ
  have HRK : Hid (∀ w', Calls Tryz.prog 148 #[.agg #[.int .i64 k1, .int .i64 k2, .int .i64 k3]] w' fun e w'' => e = .returned (.agg #[.int .i64 32, .string ⟨#[]⟩, .int .i64 0, .int .i64 (-1), .int .i64 k2, .int .i64 0]) ∧ Below w'.heap.size w' w'') := HRK
  have x3 := aj.next 2 rfl
  have x4 := aj.next 3 rfl
  have x5 := aj.next 4 rfl
  have y2 := ak.next 1 rfl
  clear aj ak
  go_enter Tryz.func131, Tryz.ntmps131
  go_wp2_with fail
  refine (HRJ.out _).mono ?_; rintro e w1 ⟨rfl, hb1⟩
  have HO1 := Lib.hid (HO.out.kept hb1)
  have HB1 : Hid (Below base w w1) := Lib.hid (hb1.mono HBS.out)
  have HSZ1 := Lib.hid hb1.size
  obtain ⟨d0, d1, d2, d3, d4, d5, f0, f1, f2, f3, f4, f5⟩ := first_facts HO1.out hjl HFJ.out
  have HP1 : Hid (OwnCs (putCell w1 b j ⟨32, [], 0, ⟨-1, j2, 0⟩⟩) base (.slice (some ⟨b, 0, none⟩) l.length cap) (l.set j (blank ⟨j1, j2, j3⟩))) := Lib.hid (HO1.out.put hjl (blank ⟨j1, j2, j3⟩))
  obtain ⟨e0, e1, e2, e3, e4, e5, g0, g1, g2, g3, g4, g5⟩ := second_facts HP1.out HKL.out HGK.out
  clear hb1 x3 x4 x5 y2
  go_wp2_with fail
  refine (HRK.out _).mono ?_; rintro e w2 ⟨rfl, hb2⟩
  have HP2 := Lib.hid (HP1.out.kept hb2)
  have HB2 : Hid (Below base w w2) := Lib.hid ((below_put HB1.out HBB.out j ⟨32, [], 0, ⟨-1, j2, 0⟩⟩).trans (hb2.mono (by have := (below_put (Below.refl base w1) HBB.out j ⟨32, [], 0, ⟨-1, j2, 0⟩⟩).size; exact Nat.le_trans (Nat.le_trans HBS.out HSZ1.out) this)))
  clear hb2 d0 d1 d2 d3 d4 d5 f0 f1 f2 f3 f4 f5 e0 e1 e2 e3 e4 e5 g0 g1 g2 g3 g4 g5
  obtain ⟨e0, e1, e2, e3, e4, e5, g0, g1, g2, g3, g4, g5⟩ := first_facts HP2.out HKL.out HGK.out
  go_wp2_with fail
  go_end0
  exact ⟨rfl, HP2.out.put HKL.out (blank ⟨k1, k2, k3⟩), below_put HB2.out HBB.out k ⟨32, [], 0, ⟨-1, k2, 0⟩⟩⟩
theorem refCut_any (l : List Cl) (base : Nat) (v : Value) (p : Nat) (w : World) (ho : OwnCs w base v l) (hbase : base ≤ w.heap.size) (hl : l.length ≤ 1000) (hp : p ≤ 2000) (hne : l ≠ []) :
    Calls Tryz.prog 131 #[v, .int .i64 p] w fun e w' => e = .returned (.tuple #[]) ∧ OwnCs w' base v (cutL l p) ∧ Below base w w' := by
  rcases ho.shape with ⟨_, e⟩ | ⟨b, cap, rfl, hbb, _⟩
  · exact absurd e hne
  · by_cases h : 0 < p ∧ p < l.length ∧ (g l p).wide = 2
    · have hc : cutL l p = (l.set (p - 1) (blank (g l (p - 1)).a)).set p (blank (g l p).a) := by unfold cutL; rw [if_pos h]
      rw [hc]
      exact refCut_yes l base b (p - 1) p cap w ho hbase hl h.2.1 (by omega) h.2.2
    · have hc : cutL l p = l := by unfold cutL; rw [if_neg h]
      rw [hc]
      refine (refCut_no l base b p cap w ho hp h).mono ?_
      rintro e w1 ⟨rfl, q, rfl⟩
      exact ⟨rfl, ho, below_drewN (Below.refl _ _) q⟩
def putL (l : List Cl) (p n : Nat) (r : Int) (a : Look) : List Cl :=
  if n = 2 then ((cutL (cutL l p) (p + n)).set p ⟨r, [], 1, a⟩).set (p + 1) (sec a) else (cutL (cutL l p) (p + n)).set p ⟨r, [], 0, a⟩
theorem mid_g {l x : List Cl} {low high i : Nat} (h1 : low ≤ high) (h2 : high ≤ l.length) (hx : x.length = high - low) :
    g (mid l low high x) i = if low ≤ i ∧ i < high then g x (i - low) else g (cutL (cutL l low) high) i := by
  unfold mid
  have hm : (cutL (cutL l low) high).length = l.length := by rw [cutL_length, cutL_length]
  generalize cutL (cutL l low) high = m at hm ⊢
  have ht : (m.take low).length = low := by rw [List.length_take]; omega
  by_cases h : i < low
  · rw [g_append_left (by omega), g_take h, if_neg (by omega)]
  · rw [g_append_right (by omega), ht]
    by_cases hh : i < high
    · rw [g_append_left (by omega), if_pos ⟨by omega, hh⟩]
    · rw [g_append_right (by omega), g_drop, if_neg (by omega)]
      congr 1
      omega
theorem putL_mid {l : List Cl} {p n : Nat} {r : Int} {a : Look} (hr : wid r = n) (hn : 1 ≤ n) (hp : p + n ≤ l.length) : putL l p n r a = mid l p (p + n) (cellsOf r a) := by
  have h12 : wid r = 1 ∨ wid r = 2 := by rcases wid_cases r with e | e | e | e <;> omega
  have hcl := cells_length (a := a) h12
  have hlen := mid_length (l := l) (low := p) (high := p + n) (by omega) hp (cellsOf r a)
  have hm : (cutL (cutL l p) (p + n)).length = l.length := by rw [cutL_length, cutL_length]
  refine ext_g ?_ fun i hi => ?_
  · have : (putL l p n r a).length = l.length := by unfold putL; split <;> simp [hm]
    omega
  · rw [mid_g (by omega) hp (by omega)]
    unfold putL
    rcases h12 with e | e
    · have hn1 : n = 1 := by omega
      subst hn1
      have hc : cellsOf r a = [⟨r, [], 0, a⟩] := by unfold cellsOf; rw [if_pos e]
      rw [if_neg (by decide), hc]
      by_cases hip : i = p
      · subst hip
        rw [g_set_same (by omega), if_pos ⟨Nat.le_refl _, Nat.lt_succ_self _⟩, Nat.sub_self]; rfl
      · rw [g_set_ne (fun q => hip q.symm), if_neg (by omega)]
    · have hn1 : n = 2 := by omega
      subst hn1
      have hc : cellsOf r a = [⟨r, [], 1, a⟩, sec a] := by unfold cellsOf; rw [if_neg (by omega)]
      rw [if_pos rfl, hc]
      by_cases hip : i = p
      · subst hip
        rw [g_set_ne (by omega), g_set_same (by omega), if_pos ⟨Nat.le_refl _, by omega⟩, Nat.sub_self]; rfl
      · by_cases hip1 : i = p + 1
        · subst hip1
          rw [g_set_same (by rw [List.length_set]; omega), if_pos ⟨by omega, by omega⟩, show p + 1 - p = 1 from by omega]; rfl
        · rw [g_set_ne (fun q => hip1 q.symm), g_set_ne (fun q => hip q.symm), if_neg (by omega)]
set_option maxHeartbeats 1200000 in
theorem refPut_any (l : List Cl) (a : Look) (p n : Nat) (r : Int) (x : Value) (w : World) (hx : Cs w x l) (hl : l.length ≤ 1000) (hr : wid r = n) (hn : 1 ≤ n) (hp : p + n ≤ l.length) :
    Calls Tryz.prog 91 #[x, .int .i64 p, .int .i64 r, .agg #[.int .i64 a.fg, .int .i64 a.bg, .int .i64 a.flags]] w fun e w' => ∃ v, e = .returned v ∧ OwnCs w' w.heap.size v (mid l p (p + n) (cellsOf r a)) ∧ Below w.heap.size w w' := by
  rw [← putL_mid hr hn hp]
  have hb0 : Below w.heap.size w (w.alloc (.cells #[.int .i64 a.fg, .int .i64 a.bg, .int .i64 a.flags] 31)) := (Below.refl _ _).alloc (Nat.le_refl _) _
  have hk0 : (w.alloc (.cells #[.int .i64 a.fg, .int .i64 a.bg, .int .i64 a.flags] 31)).heap[w.heap.size]? = some (.cells #[.int .i64 a.fg, .int .i64 a.bg, .int .i64 a.flags] 31 (0, 0)) := heap_alloc_new _ _
  have HB0 := Lib.hid hb0
  have HCP := Lib.hid (copyCells_any l x _ (hx.kept hb0) (by omega))
  have HK0 := Lib.hid hk0
  have hw2 : n = 1 ∨ n = 2 := by rcases wid_cases r with e | e | e | e <;> omega
  have HWD := Lib.hid (fun w' => width_at r n hr w')
  have hne : l ≠ [] := by rintro rfl; simp at hp; omega
  have hne1 : cutL l p ≠ [] := by
    intro e
    have := congrArg List.length e
    rw [cutL_length] at this
    exact hne (List.eq_nil_of_length_eq_zero this)
  have HC1 := Lib.hid (fun v base w' (h : OwnCs w' base v l) (hb : base ≤ w'.heap.size) => refCut_any l base v p w' h hb hl (by omega) hne)
  have HC2 := Lib.hid (fun v base w' (h : OwnCs w' base v (cutL l p)) (hb : base ≤ w'.heap.size) => refCut_any (cutL l p) base v (p + n) w' h hb (by rw [cutL_length]; omega) (by omega) hne1)
  have HM : Hid (putL l p n r a = if n = 2 then ((cutL (cutL l p) (p + n)).set p ⟨r, [], 1, a⟩).set (p + 1) (sec a) else (cutL (cutL l p) (p + n)).set p ⟨r, [], 0, a⟩) := Lib.hid rfl
  have hml : (cutL (cutL l p) (p + n)).length = l.length := by rw [cutL_length, cutL_length]
  generalize putL l p n r a = res at HM ⊢
  have hwrap : IntKind.i64.wrap ((p : Int) + (n : Int)) = ((p + n : Nat) : Int) := by rw [IntKind.wrap_i64]; omega
  generalize cutL (cutL l p) (p + n) = m at HC2 HM hml
  obtain ⟨pn, hpn⟩ : ∃ pn, p + n = pn := ⟨_, rfl⟩
  rw [hpn] at hwrap HC2 hp
  have HPN := Lib.hid hpn
  generalize cutL l p = l1 at HC1 HC2
  have hpl : p < m.length := by omega
  clear hx hr hne hne1 hb0 hk0 hpn
  rcases hw2 with rfl | rfl
  · have HM : Hid (res = m.set p ⟨r, [], 0, a⟩) := HM
    have hwrap : IntKind.i64.wrap ((p : Int) + 1) = (pn : Int) := hwrap
    go_enter Tryz.func91, Tryz.ntmps91
    go_wp2_with fail
    refine HCP.out.mono ?_; rintro e w1 ⟨v1, rfl, ho1, hb1⟩
    have HO1 : Hid (OwnCs w1 (w.heap.size + 1) v1 l) := Lib.hid (ho1.low (by simp))
    have HK1 := Lib.hid (Blk.kept HK0.out hb1)
    have HB1 : Hid (Below w.heap.size w w1) := Lib.hid (HB0.out.trans (hb1.mono (by simp)))
    have HZ1 : Hid (w.heap.size + 1 ≤ w1.heap.size) := Lib.hid (by have := hb1.size; simpa using this)
    clear ho1 hb1
    go_wp2_with fail
    refine (HWD.out _).mono ?_; rintro e w2 ⟨rfl, hb2⟩
    have HO2 := Lib.hid (HO1.out.kept hb2)
    have HK2 := Lib.hid (Blk.kept HK1.out hb2)
    have HB2 : Hid (Below w.heap.size w w2) := Lib.hid (HB1.out.trans (hb2.mono HB1.out.size))
    have HZ2 : Hid (w.heap.size + 1 ≤ w2.heap.size) := Lib.hid (Nat.le_trans HZ1.out hb2.size)
    clear hb2
    go_wp2_with fail
    refine (HC1.out _ _ _ HO2.out HZ2.out).mono ?_; rintro e w3 ⟨rfl, ho3, hb3⟩
    have HO3 := Lib.hid ho3
    have HK3 := Lib.hid ((hb3.block w.heap.size (Nat.lt_succ_self _)).trans HK2.out)
    have HB3 : Hid (Below w.heap.size w w3) := Lib.hid (HB2.out.trans (hb3.mono (Nat.le_succ _)))
    have HZ3 : Hid (w.heap.size + 1 ≤ w3.heap.size) := Lib.hid (Nat.le_trans HZ2.out hb3.size)
    clear ho3 hb3
    go_wp2_with fail
    refine (HC2.out _ _ _ HO3.out HZ3.out).mono ?_; rintro e w4 ⟨rfl, ho4, hb4⟩
    have HK4 := Lib.hid ((hb4.block w.heap.size (Nat.lt_succ_self _)).trans HK3.out)
    have HB4 : Hid (Below w.heap.size w w4) := Lib.hid (HB3.out.trans (hb4.mono (Nat.le_succ _)))
    obtain ⟨q0, q1, q2⟩ := box_cells HK4.out
    have hshape : ∃ b cap, v1 = .slice (some ⟨b, 0, none⟩) l.length cap ∧ w.heap.size + 1 ≤ b := by
      rcases ho4.shape with ⟨_, e⟩ | ⟨b, cap, e, h, _⟩
      · rw [e] at hpl; simp at hpl
      · exact ⟨b, cap, by rw [e, hml], h⟩
    obtain ⟨b, cap, rfl, hbb⟩ := hshape
    have HBB : Hid (w.heap.size ≤ b) := Lib.hid (by omega)
    have HO4 := Lib.hid ho4
    obtain ⟨fp, hfp⟩ : ∃ f, g m p = f := ⟨_, rfl⟩
    obtain ⟨pr, pc, px, ⟨p1, p2, p3⟩⟩ := fp
    obtain ⟨d0, d1, d2, d3, d4, d5, f0, f1, f2, f3, f4, f5⟩ := first_facts HO4.out hpl hfp
    have HO5 := Lib.hid (HO4.out.put hpl ⟨r, [], 0, a⟩)
    have HB5 : Hid (Below w.heap.size w (putCell w4 b p ⟨r, [], 0, a⟩)) := Lib.hid (below_put HB4.out HBB.out p _)
    clear hb4 ho4 hfp
    go_wp2_with fail
    go_ret
    exact ⟨_, rfl, by rw [HM.out]; exact HO5.out.low (Nat.le_succ _), HB5.out⟩
  · have HM : Hid (res = (m.set p ⟨r, [], 1, a⟩).set (p + 1) (sec a)) := HM
    have hwrap : IntKind.i64.wrap ((p : Int) + 2) = (pn : Int) := hwrap
    go_enter Tryz.func91, Tryz.ntmps91
    go_wp2_with fail
    refine HCP.out.mono ?_; rintro e w1 ⟨v1, rfl, ho1, hb1⟩
    have HO1 : Hid (OwnCs w1 (w.heap.size + 1) v1 l) := Lib.hid (ho1.low (by simp))
    have HK1 := Lib.hid (Blk.kept HK0.out hb1)
    have HB1 : Hid (Below w.heap.size w w1) := Lib.hid (HB0.out.trans (hb1.mono (by simp)))
    have HZ1 : Hid (w.heap.size + 1 ≤ w1.heap.size) := Lib.hid (by have := hb1.size; simpa using this)
    clear ho1 hb1
    go_wp2_with fail
    refine (HWD.out _).mono ?_; rintro e w2 ⟨rfl, hb2⟩
    have HO2 := Lib.hid (HO1.out.kept hb2)
    have HK2 := Lib.hid (Blk.kept HK1.out hb2)
    have HB2 : Hid (Below w.heap.size w w2) := Lib.hid (HB1.out.trans (hb2.mono HB1.out.size))
    have HZ2 : Hid (w.heap.size + 1 ≤ w2.heap.size) := Lib.hid (Nat.le_trans HZ1.out hb2.size)
    clear hb2
    go_wp2_with fail
    refine (HC1.out _ _ _ HO2.out HZ2.out).mono ?_; rintro e w3 ⟨rfl, ho3, hb3⟩
    have HO3 := Lib.hid ho3
    have HK3 := Lib.hid ((hb3.block w.heap.size (Nat.lt_succ_self _)).trans HK2.out)
    have HB3 : Hid (Below w.heap.size w w3) := Lib.hid (HB2.out.trans (hb3.mono (Nat.le_succ _)))
    have HZ3 : Hid (w.heap.size + 1 ≤ w3.heap.size) := Lib.hid (Nat.le_trans HZ2.out hb3.size)
    clear ho3 hb3
    go_wp2_with fail
    refine (HC2.out _ _ _ HO3.out HZ3.out).mono ?_; rintro e w4 ⟨rfl, ho4, hb4⟩
    have HK4 := Lib.hid ((hb4.block w.heap.size (Nat.lt_succ_self _)).trans HK3.out)
    have HB4 : Hid (Below w.heap.size w w4) := Lib.hid (HB3.out.trans (hb4.mono (Nat.le_succ _)))
    obtain ⟨q0, q1, q2⟩ := box_cells HK4.out
    have hshape : ∃ b cap, v1 = .slice (some ⟨b, 0, none⟩) l.length cap ∧ w.heap.size + 1 ≤ b := by
      rcases ho4.shape with ⟨_, e⟩ | ⟨b, cap, e, h, _⟩
      · rw [e] at hpl; simp at hpl
      · exact ⟨b, cap, by rw [e, hml], h⟩
    obtain ⟨b, cap, rfl, hbb⟩ := hshape
    have HBB : Hid (w.heap.size ≤ b) := Lib.hid (by omega)
    have HO4 := Lib.hid ho4
    obtain ⟨fp, hfp⟩ : ∃ f, g m p = f := ⟨_, rfl⟩
    obtain ⟨pr, pc, px, ⟨p1, p2, p3⟩⟩ := fp
    obtain ⟨d0, d1, d2, d3, d4, d5, f0, f1, f2, f3, f4, f5⟩ := first_facts HO4.out hpl hfp
    have HO5 := Lib.hid (HO4.out.put hpl ⟨r, [], 0, a⟩)
    have HB5 : Hid (Below w.heap.size w (putCell w4 b p ⟨r, [], 0, a⟩)) := Lib.hid (below_put HB4.out HBB.out p _)
    clear hb4 ho4 hfp
    have hp5 : p < (m.set p ⟨r, [], 0, a⟩).length := by rw [List.length_set]; exact hpl
    have c5 : ((((((w4.setCell ⟨b, p * 6, none⟩ (.int .i64 r)).setCell ⟨b, p * 6 + 1, none⟩ (.string ⟨#[]⟩)).setCell ⟨b, p * 6 + 2, none⟩ (.int .i64 0)).setCell ⟨b, p * 6 + 3, none⟩ (.int .i64 a.fg)).setCell ⟨b, p * 6 + 4, none⟩ (.int .i64 a.bg)).setCell ⟨b, p * 6 + 5, none⟩ (.int .i64 a.flags)).cell? ⟨b, p * 6 + 2, none⟩ = some (.int .i64 0) := by
      have := HO5.out.cell hp5 (show 2 < 6 by decide)
      rw [g_set_same hpl] at this
      exact this
    have z5 : ((((((w4.setCell ⟨b, p * 6, none⟩ (.int .i64 r)).setCell ⟨b, p * 6 + 1, none⟩ (.string ⟨#[]⟩)).setCell ⟨b, p * 6 + 2, none⟩ (.int .i64 0)).setCell ⟨b, p * 6 + 3, none⟩ (.int .i64 a.fg)).setCell ⟨b, p * 6 + 4, none⟩ (.int .i64 a.bg)).setCell ⟨b, p * 6 + 5, none⟩ (.int .i64 a.flags)).frozen? ⟨b, p * 6 + 2, none⟩ = false := HO5.out.free _
    have HO6 : Hid (OwnCs ((putCell w4 b p ⟨r, [], 0, a⟩).setCell ⟨b, p * 6 + 2, none⟩ (.int .i64 1)) (w.heap.size + 1) (.slice (some ⟨b, 0, none⟩) l.length cap) (m.set p ⟨r, [], 1, a⟩)) := Lib.hid (by
      have h := HO5.out.putWide hp5 1
      rw [g_set_same hpl, List.set_set] at h
      exact h)
    have HB6 : Hid (Below w.heap.size w ((putCell w4 b p ⟨r, [], 0, a⟩).setCell ⟨b, p * 6 + 2, none⟩ (.int .i64 1))) := Lib.hid (HB5.out.setCell HBB.out _)
    have hpn2 : p + 2 ≤ m.length := by have h := HPN.out; omega
    have hp6 : p + 1 < (m.set p ⟨r, [], 1, a⟩).length := by rw [List.length_set]; omega
    obtain ⟨p', hp'⟩ : ∃ p', p' = p + 1 := ⟨_, rfl⟩
    have hwrap2 : IntKind.i64.wrap ((p : Int) + 1) = (p' : Int) := by rw [IntKind.wrap_i64]; omega
    rw [← hp'] at hp6
    have hpl' : p' < m.length := by omega
    obtain ⟨fq, hfq⟩ : ∃ f, g (m.set p ⟨r, [], 1, a⟩) p' = f := ⟨_, rfl⟩
    obtain ⟨sr, sc, sx, ⟨s1, s2, s3⟩⟩ := fq
    obtain ⟨i0, i1, i2, i3, i4, i5, j0, j1, j2, j3, j4, j5⟩ := first_facts HO6.out hp6 hfq
    have i0 : (((((((w4.setCell ⟨b, p * 6, none⟩ (.int .i64 r)).setCell ⟨b, p * 6 + 1, none⟩ (.string ⟨#[]⟩)).setCell ⟨b, p * 6 + 2, none⟩ (.int .i64 0)).setCell ⟨b, p * 6 + 3, none⟩ (.int .i64 a.fg)).setCell ⟨b, p * 6 + 4, none⟩ (.int .i64 a.bg)).setCell ⟨b, p * 6 + 5, none⟩ (.int .i64 a.flags)).setCell ⟨b, p * 6 + 2, none⟩ (.int .i64 1)).cell? ⟨b, p' * 6, none⟩ = some (.int .i64 sr) := i0
    have i1 : (((((((w4.setCell ⟨b, p * 6, none⟩ (.int .i64 r)).setCell ⟨b, p * 6 + 1, none⟩ (.string ⟨#[]⟩)).setCell ⟨b, p * 6 + 2, none⟩ (.int .i64 0)).setCell ⟨b, p * 6 + 3, none⟩ (.int .i64 a.fg)).setCell ⟨b, p * 6 + 4, none⟩ (.int .i64 a.bg)).setCell ⟨b, p * 6 + 5, none⟩ (.int .i64 a.flags)).setCell ⟨b, p * 6 + 2, none⟩ (.int .i64 1)).cell? ⟨b, p' * 6 + 1, none⟩ = some (.string ⟨sc.toArray⟩) := i1
    have i2 : (((((((w4.setCell ⟨b, p * 6, none⟩ (.int .i64 r)).setCell ⟨b, p * 6 + 1, none⟩ (.string ⟨#[]⟩)).setCell ⟨b, p * 6 + 2, none⟩ (.int .i64 0)).setCell ⟨b, p * 6 + 3, none⟩ (.int .i64 a.fg)).setCell ⟨b, p * 6 + 4, none⟩ (.int .i64 a.bg)).setCell ⟨b, p * 6 + 5, none⟩ (.int .i64 a.flags)).setCell ⟨b, p * 6 + 2, none⟩ (.int .i64 1)).cell? ⟨b, p' * 6 + 2, none⟩ = some (.int .i64 sx) := i2
    have i3 : (((((((w4.setCell ⟨b, p * 6, none⟩ (.int .i64 r)).setCell ⟨b, p * 6 + 1, none⟩ (.string ⟨#[]⟩)).setCell ⟨b, p * 6 + 2, none⟩ (.int .i64 0)).setCell ⟨b, p * 6 + 3, none⟩ (.int .i64 a.fg)).setCell ⟨b, p * 6 + 4, none⟩ (.int .i64 a.bg)).setCell ⟨b, p * 6 + 5, none⟩ (.int .i64 a.flags)).setCell ⟨b, p * 6 + 2, none⟩ (.int .i64 1)).cell? ⟨b, p' * 6 + 3, none⟩ = some (.int .i64 s1) := i3
    have i4 : (((((((w4.setCell ⟨b, p * 6, none⟩ (.int .i64 r)).setCell ⟨b, p * 6 + 1, none⟩ (.string ⟨#[]⟩)).setCell ⟨b, p * 6 + 2, none⟩ (.int .i64 0)).setCell ⟨b, p * 6 + 3, none⟩ (.int .i64 a.fg)).setCell ⟨b, p * 6 + 4, none⟩ (.int .i64 a.bg)).setCell ⟨b, p * 6 + 5, none⟩ (.int .i64 a.flags)).setCell ⟨b, p * 6 + 2, none⟩ (.int .i64 1)).cell? ⟨b, p' * 6 + 4, none⟩ = some (.int .i64 s2) := i4
    have i5 : (((((((w4.setCell ⟨b, p * 6, none⟩ (.int .i64 r)).setCell ⟨b, p * 6 + 1, none⟩ (.string ⟨#[]⟩)).setCell ⟨b, p * 6 + 2, none⟩ (.int .i64 0)).setCell ⟨b, p * 6 + 3, none⟩ (.int .i64 a.fg)).setCell ⟨b, p * 6 + 4, none⟩ (.int .i64 a.bg)).setCell ⟨b, p * 6 + 5, none⟩ (.int .i64 a.flags)).setCell ⟨b, p * 6 + 2, none⟩ (.int .i64 1)).cell? ⟨b, p' * 6 + 5, none⟩ = some (.int .i64 s3) := i5
    have j0 : (((((((w4.setCell ⟨b, p * 6, none⟩ (.int .i64 r)).setCell ⟨b, p * 6 + 1, none⟩ (.string ⟨#[]⟩)).setCell ⟨b, p * 6 + 2, none⟩ (.int .i64 0)).setCell ⟨b, p * 6 + 3, none⟩ (.int .i64 a.fg)).setCell ⟨b, p * 6 + 4, none⟩ (.int .i64 a.bg)).setCell ⟨b, p * 6 + 5, none⟩ (.int .i64 a.flags)).setCell ⟨b, p * 6 + 2, none⟩ (.int .i64 1)).frozen? ⟨b, p' * 6, none⟩ = false := j0
    have j1 : (((((((w4.setCell ⟨b, p * 6, none⟩ (.int .i64 r)).setCell ⟨b, p * 6 + 1, none⟩ (.string ⟨#[]⟩)).setCell ⟨b, p * 6 + 2, none⟩ (.int .i64 0)).setCell ⟨b, p * 6 + 3, none⟩ (.int .i64 a.fg)).setCell ⟨b, p * 6 + 4, none⟩ (.int .i64 a.bg)).setCell ⟨b, p * 6 + 5, none⟩ (.int .i64 a.flags)).setCell ⟨b, p * 6 + 2, none⟩ (.int .i64 1)).frozen? ⟨b, p' * 6 + 1, none⟩ = false := j1
    have j2 : (((((((w4.setCell ⟨b, p * 6, none⟩ (.int .i64 r)).setCell ⟨b, p * 6 + 1, none⟩ (.string ⟨#[]⟩)).setCell ⟨b, p * 6 + 2, none⟩ (.int .i64 0)).setCell ⟨b, p * 6 + 3, none⟩ (.int .i64 a.fg)).setCell ⟨b, p * 6 + 4, none⟩ (.int .i64 a.bg)).setCell ⟨b, p * 6 + 5, none⟩ (.int .i64 a.flags)).setCell ⟨b, p * 6 + 2, none⟩ (.int .i64 1)).frozen? ⟨b, p' * 6 + 2, none⟩ = false := j2
    have j3 : (((((((w4.setCell ⟨b, p * 6, none⟩ (.int .i64 r)).setCell ⟨b, p * 6 + 1, none⟩ (.string ⟨#[]⟩)).setCell ⟨b, p * 6 + 2, none⟩ (.int .i64 0)).setCell ⟨b, p * 6 + 3, none⟩ (.int .i64 a.fg)).setCell ⟨b, p * 6 + 4, none⟩ (.int .i64 a.bg)).setCell ⟨b, p * 6 + 5, none⟩ (.int .i64 a.flags)).setCell ⟨b, p * 6 + 2, none⟩ (.int .i64 1)).frozen? ⟨b, p' * 6 + 3, none⟩ = false := j3
    have j4 : (((((((w4.setCell ⟨b, p * 6, none⟩ (.int .i64 r)).setCell ⟨b, p * 6 + 1, none⟩ (.string ⟨#[]⟩)).setCell ⟨b, p * 6 + 2, none⟩ (.int .i64 0)).setCell ⟨b, p * 6 + 3, none⟩ (.int .i64 a.fg)).setCell ⟨b, p * 6 + 4, none⟩ (.int .i64 a.bg)).setCell ⟨b, p * 6 + 5, none⟩ (.int .i64 a.flags)).setCell ⟨b, p * 6 + 2, none⟩ (.int .i64 1)).frozen? ⟨b, p' * 6 + 4, none⟩ = false := j4
    have j5 : (((((((w4.setCell ⟨b, p * 6, none⟩ (.int .i64 r)).setCell ⟨b, p * 6 + 1, none⟩ (.string ⟨#[]⟩)).setCell ⟨b, p * 6 + 2, none⟩ (.int .i64 0)).setCell ⟨b, p * 6 + 3, none⟩ (.int .i64 a.fg)).setCell ⟨b, p * 6 + 4, none⟩ (.int .i64 a.bg)).setCell ⟨b, p * 6 + 5, none⟩ (.int .i64 a.flags)).setCell ⟨b, p * 6 + 2, none⟩ (.int .i64 1)).frozen? ⟨b, p' * 6 + 5, none⟩ = false := j5
    have hnb : b ≠ w.heap.size := by omega
    have q0W : (((((((w4.setCell ⟨b, p * 6, none⟩ (.int .i64 r)).setCell ⟨b, p * 6 + 1, none⟩ (.string ⟨#[]⟩)).setCell ⟨b, p * 6 + 2, none⟩ (.int .i64 0)).setCell ⟨b, p * 6 + 3, none⟩ (.int .i64 a.fg)).setCell ⟨b, p * 6 + 4, none⟩ (.int .i64 a.bg)).setCell ⟨b, p * 6 + 5, none⟩ (.int .i64 a.flags)).setCell ⟨b, p * 6 + 2, none⟩ (.int .i64 1)).cell? ⟨w.heap.size, 0, none⟩ = some (.int .i64 a.fg) := (World.cell?_setCell_far _ _ _ _ hnb).trans ((put_far hnb p ⟨r, [], 0, a⟩ 0).trans q0)
    have q1W : (((((((w4.setCell ⟨b, p * 6, none⟩ (.int .i64 r)).setCell ⟨b, p * 6 + 1, none⟩ (.string ⟨#[]⟩)).setCell ⟨b, p * 6 + 2, none⟩ (.int .i64 0)).setCell ⟨b, p * 6 + 3, none⟩ (.int .i64 a.fg)).setCell ⟨b, p * 6 + 4, none⟩ (.int .i64 a.bg)).setCell ⟨b, p * 6 + 5, none⟩ (.int .i64 a.flags)).setCell ⟨b, p * 6 + 2, none⟩ (.int .i64 1)).cell? ⟨w.heap.size, 1, none⟩ = some (.int .i64 a.bg) := (World.cell?_setCell_far _ _ _ _ hnb).trans ((put_far hnb p ⟨r, [], 0, a⟩ 1).trans q1)
    have q2W : (((((((w4.setCell ⟨b, p * 6, none⟩ (.int .i64 r)).setCell ⟨b, p * 6 + 1, none⟩ (.string ⟨#[]⟩)).setCell ⟨b, p * 6 + 2, none⟩ (.int .i64 0)).setCell ⟨b, p * 6 + 3, none⟩ (.int .i64 a.fg)).setCell ⟨b, p * 6 + 4, none⟩ (.int .i64 a.bg)).setCell ⟨b, p * 6 + 5, none⟩ (.int .i64 a.flags)).setCell ⟨b, p * 6 + 2, none⟩ (.int .i64 1)).cell? ⟨w.heap.size, 2, none⟩ = some (.int .i64 a.flags) := (World.cell?_setCell_far _ _ _ _ hnb).trans ((put_far hnb p ⟨r, [], 0, a⟩ 2).trans q2)
    have HP' := Lib.hid hp'
    clear hp' hfq
    go_wp2_with fail
    go_ret
    have hres := (HO6.out.put hp6 (sec a)).low (Nat.le_succ _)
    exact ⟨_, rfl, by rw [HM.out, ← HP'.out]; exact hres, below_put HB6.out HBB.out p' (sec a)⟩
end Row
end
section
open Go.RowKit
namespace Row
open Utf Wid
def Wiped (m ys : List Cl) (low k : Nat) (c : Cl) : Prop := ys.length = m.length ∧ ∀ i, i < m.length → g ys i = if low ≤ i ∧ i < k then c else g m i
theorem Wiped.start (m : List Cl) (low : Nat) (c : Cl) : Wiped m m low low c := ⟨rfl, fun i _ => by rw [if_neg (by omega)]⟩
theorem Wiped.step {m ys : List Cl} {low k : Nat} {c : Cl} (h : Wiped m ys low k c) (h1 : low ≤ k) (h2 : k < m.length) : Wiped m (ys.set k c) low (k + 1) c := by
  refine ⟨by rw [List.length_set]; exact h.1, fun i hi => ?_⟩
  by_cases hik : i = k
  · subst hik
    rw [g_set_same (by rw [h.1]; exact hi), if_pos ⟨h1, Nat.lt_succ_self _⟩]
  · rw [g_set_ne (fun e => hik e.symm), h.2 i hi]
    by_cases hc : low ≤ i ∧ i < k
    · rw [if_pos hc, if_pos (by omega)]
    · rw [if_neg hc, if_neg (by omega)]
theorem Wiped.done {l ys : List Cl} {low high : Nat} {a : Look} (h1 : low ≤ high) (h2 : high ≤ l.length) (h : Wiped (cutL (cutL l low) high) ys low high (blank a)) : ys = mid l low high (List.replicate (high - low) (blank a)) := by
  have hm : (cutL (cutL l low) high).length = l.length := by rw [cutL_length, cutL_length]
  have hlen := mid_length h1 h2 (List.replicate (high - low) (blank a))
  rw [List.length_replicate] at hlen
  refine ext_g (by rw [h.1, hm]; omega) fun i hi => ?_
  rw [h.1] at hi
  rw [mid_g h1 h2 (List.length_replicate), h.2 i hi]
  by_cases hc : low ≤ i ∧ i < high
  · rw [if_pos hc, if_pos hc, g_eq (by rw [List.length_replicate]; omega), List.getElem_replicate]
  · rw [if_neg hc, if_neg hc]
end Row
end
section
open Go.RowKit
namespace Row
def Begun (l : List Cl) : Prop := ∀ i, i < l.length → ((g l i).wide = 1 → i + 1 < l.length → (g l (i + 1)).wide = 2) ∧ ((g l i).wide = 2 → 0 < i ∧ (g l (i - 1)).wide = 1)
theorem begun_take {l : List Cl} (h : Good l) (n : Nat) (hn : n ≤ l.length) : Begun (l.take n) := by
  intro i hi
  rw [List.length_take, Nat.min_eq_left hn] at hi ⊢
  have hr := (good_iff l).1 h i (by omega)
  rw [g_take hi]
  refine ⟨fun h1 h2 => ?_, fun h1 => ?_⟩
  · rw [g_take h2]; exact (hr.2.1 h1).2.1
  · obtain ⟨h2, h3⟩ := hr.2.2 h1
    exact ⟨h2, by rw [g_take (by omega)]; exact h3⟩
def mendTo (l : List Cl) (k : Nat) : List Cl := if k = l.length then mendEnd l else l
theorem mendTo_lt {l : List Cl} {k : Nat} (h : k < l.length) : mendTo l k = l := by unfold mendTo; rw [if_neg (by omega)]
theorem mendTo_keep {l : List Cl} {k : Nat} (hw : ¬ ((g l k).wide = 1 ∧ k + 1 = l.length)) : mendTo l (k + 1) = l := by
  unfold mendTo
  by_cases e : k + 1 = l.length
  · rw [if_pos e]
    unfold mendEnd
    rw [if_neg (fun q => hw ⟨by rw [show k = l.length - 1 by omega]; exact q.2, e⟩)]
  · rw [if_neg e]
theorem mendTo_put {l : List Cl} {k : Nat} (h : k + 1 = l.length) (hw : (g l k).wide = 1) : mendTo l (k + 1) = l.set k (blank (g l k).a) := by
  unfold mendTo
  rw [if_pos h]
  unfold mendEnd
  have e : l.length - 1 = k := by omega
  rw [e, if_pos ⟨by intro q; subst q; simp at h, hw⟩]
theorem mendTo_all (l : List Cl) : mendTo l l.length = mendEnd l := by unfold mendTo; rw [if_pos rfl]
theorem OwnCs.att {w : World} {base b n cap : Nat} {l : List Cl} (h : OwnCs w base (.slice (some ⟨b, 0, none⟩) n cap) l) {k : Nat} (hk : k < l.length) : At w ⟨b, k * 6, none⟩ (cvals (g l k)) := by
  intro j u hu
  have hj : j < 6 := (List.getElem?_eq_some_iff.1 hu).1
  have e : (⟨b, k * 6, none⟩ : Addr).add j = ⟨b, k * 6 + j, none⟩ := by
    unfold Addr.add
    split
    · rename_i h; rw [h]; rfl
    · rfl
  rw [e, h.cell hk hj]; exact hu
set_option maxHeartbeats 3200000 in
theorem refMend_any (l : List Cl) (base b cap : Nat) (w : World) (ho : OwnCs w base (.slice (some ⟨b, 0, none⟩) l.length cap) l) (hbase : base ≤ w.heap.size) (hl : l.length ≤ 1000000) (hg : Begun l) :
    Calls Tryz.prog 132 #[.slice (some ⟨b, 0, none⟩) l.length cap] w fun e w' => e = .returned (.tuple #[]) ∧ OwnCs w' base (.slice (some ⟨b, 0, none⟩) l.length cap) (mendEnd l) ∧ Below base w w' := by
  have hbb : base ≤ b := by
    rcases ho.shape with ⟨e, _⟩ | ⟨b', _, e, h, _⟩
    · injection e with e; cases e
    · injection e with e; injection e with e; injection e with e; rw [e]; exact h
  have HBB := Lib.hid hbb
  have HBS := Lib.hid hbase
  have HG := Lib.hid hg
  have HO : Hid (OwnCs w base (.slice (some ⟨b, 0, none⟩) l.length cap) (mendTo l 0)) := Lib.hid (by
    by_cases e : 0 < l.length
    · rw [mendTo_lt e]; exact ho
    · have : l = [] := List.eq_nil_of_length_eq_zero (by omega)
      subst this
      exact ho)
  clear ho hbb hbase hg
  go_enter Tryz.func132, Tryz.ntmps132
  go_wp2_with fail
  go_loopw [2] (fun i wr => ∃ k : Nat, k ≤ l.length ∧ i = .int .i64 k ∧ Hid (OwnCs wr base (.slice (some ⟨b, 0, none⟩) l.length cap) (mendTo l k)) ∧ Hid (Below base w wr)) (fun i _ => l.length - (intOf i).toNat)
  case atStart => exact ⟨0, by omega, rfl, HO, Lib.hid (Below.refl _ _)⟩
  case round =>
    obtain ⟨k, hk, rfl, HOW, HBL⟩ := hrel
    by_cases hlt : k < l.length
    · rw [mendTo_lt hlt] at HOW
      have hgk := HG.out k hlt
      have hat := HOW.out.att hlt
      obtain ⟨k1, hk1⟩ : ∃ q, k + 1 = q := ⟨_, rfl⟩
      have hw1 : IntKind.i64.wrap ((k : Int) + 1) = (k1 : Int) := by rw [IntKind.wrap_i64]; omega
      have HK1 := Lib.hid hk1
      by_cases h1 : (g l k).wide = 1
      · by_cases h2 : k1 = l.length
        · have hkeep := mendTo_put (by omega) h1
          rw [hk1] at hkeep
          have HKEEP := Lib.hid hkeep
          have HRB := Lib.hid (fun w' => refblank_any (g l k).a w')
          have hput := fun (w' : World) (q : OwnCs w' base (.slice (some ⟨b, 0, none⟩) l.length cap) l) => q.put hlt (blank (g l k).a)
          have HPUT := Lib.hid hput
          have hfac := fun (w' : World) (q : OwnCs w' base (.slice (some ⟨b, 0, none⟩) l.length cap) l) => (fun (j : Nat) (hj : j < 6) => q.cell hlt hj)
          have HFAC := Lib.hid hfac
          clear hgk hkeep hput hfac
          generalize g l k = ck at h1 hat HRB HKEEP HPUT HFAC
          obtain ⟨cr, cm, cx, ⟨f1, f2, f3⟩⟩ := ck
          obtain rfl : cx = 1 := h1
          have c2 := hat.next 1 rfl
          have c3 := hat.next 2 rfl
          have c4 := hat.next 3 rfl
          have c5 := hat.next 4 rfl
          have heq : ((k1 : Int) == (l.length : Int)) = true := by rw [beq_iff_eq]; omega
          clear hat hk1
          have HRB : Hid (∀ w', Calls Tryz.prog 148 #[.agg #[.int .i64 f1, .int .i64 f2, .int .i64 f3]] w' fun e w'' => e = .returned (.agg #[.int .i64 32, .string ⟨#[]⟩, .int .i64 0, .int .i64 (-1), .int .i64 f2, .int .i64 0]) ∧ Below w'.heap.size w' w'') := HRB
          go_wp2_with fail
          refine (HRB.out _).mono ?_; rintro e w1 ⟨rfl, hb1⟩
          have ho1 := HOW.out.kept hb1
          have HB1 : Hid (Below base w w1) := Lib.hid (HBL.out.trans (hb1.mono (Nat.le_trans HBS.out HBL.out.size)))
          have d0 : w1.cell? ⟨b, k * 6, none⟩ = some (.int .i64 cr) := HFAC.out w1 ho1 0 (by decide)
          have d1 : w1.cell? ⟨b, k * 6 + 1, none⟩ = some (.string ⟨cm.toArray⟩) := HFAC.out w1 ho1 1 (by decide)
          have d2 : w1.cell? ⟨b, k * 6 + 2, none⟩ = some (.int .i64 1) := HFAC.out w1 ho1 2 (by decide)
          have d3 : w1.cell? ⟨b, k * 6 + 3, none⟩ = some (.int .i64 f1) := HFAC.out w1 ho1 3 (by decide)
          have d4 : w1.cell? ⟨b, k * 6 + 4, none⟩ = some (.int .i64 f2) := HFAC.out w1 ho1 4 (by decide)
          have d5 : w1.cell? ⟨b, k * 6 + 5, none⟩ = some (.int .i64 f3) := HFAC.out w1 ho1 5 (by decide)
          have g0 := ho1.free (k * 6)
          have g1 := ho1.free (k * 6 + 1)
          have g2 := ho1.free (k * 6 + 2)
          have g3 := ho1.free (k * 6 + 3)
          have g4 := ho1.free (k * 6 + 4)
          have g5 := ho1.free (k * 6 + 5)
          have HP := Lib.hid (HPUT.out w1 ho1)
          have HB5 := Lib.hid (below_put HB1.out HBB.out k (blank ⟨f1, f2, f3⟩))
          clear ho1 hb1 c2 c3 c4 c5 HB1
          go_wp2_with fail
          clear d0 d1 d2 d3 d4 d5 g0 g1 g2 g3 g4 g5
          rw [← HKEEP.out] at HP
          simp only [putCell, blank] at HP HB5
          generalize (((((w1.setCell ⟨b, k * 6, none⟩ (.int .i64 32)).setCell ⟨b, k * 6 + 1, none⟩ (.string ⟨#[]⟩)).setCell ⟨b, k * 6 + 2, none⟩ (.int .i64 0)).setCell ⟨b, k * 6 + 3, none⟩ (.int .i64 (-1))).setCell ⟨b, k * 6 + 4, none⟩ (.int .i64 f2)).setCell ⟨b, k * 6 + 5, none⟩ (.int .i64 0) = wz at HP HB5 ⊢
          go_roundw
          case rel => exact ⟨k1, by have := HK1.out; omega, by rw [h2], HP, HB5⟩
          case measure => have := HK1.out; simp [intOf]; omega
        · have hkeep := mendTo_keep (l := l) (k := k) (fun q => h2 (by rw [← hk1]; exact q.2))
          rw [hk1] at hkeep
          have h3 : (g l k1).wide = 2 := by have := hgk.1 h1 (by omega); rwa [hk1] at this
          have hk1l : k1 < l.length := by omega
          have hat1 := HOW.out.att hk1l
          have HKEEP := Lib.hid hkeep
          clear hgk hkeep
          generalize g l k = ck at h1 hat
          generalize g l k1 = dk at h3 hat1
          obtain ⟨cr, cm, cx, ⟨f1, f2, f3⟩⟩ := ck
          obtain rfl : cx = 1 := h1
          obtain ⟨dr, dm, dx, ⟨e1, e2, e3⟩⟩ := dk
          obtain rfl : dx = 2 := h3
          have c2 := hat.next 1 rfl
          have d2 := hat1.next 1 rfl
          have hne : ((k1 : Int) == (l.length : Int)) = false := by rw [beq_eq_false_iff_ne]; omega
          clear hat hat1 hk1
          go_wp2_with fail
          go_roundw
          case rel => exact ⟨k1, by have := HK1.out; omega, rfl, by rw [HKEEP.out]; exact HOW, HBL⟩
          case measure => have := HK1.out; simp [intOf]; omega
      · have hkeep := mendTo_keep (k := k) (fun q => h1 q.1)
        rw [hk1] at hkeep
        have HKEEP := Lib.hid hkeep
        by_cases h2 : (g l k).wide = 2
        · obtain ⟨hk0, h3⟩ := hgk.2 h2
          obtain ⟨j, hj⟩ : ∃ j, k - 1 = j := ⟨_, rfl⟩
          rw [hj] at h3
          have hw0 : IntKind.i64.wrap ((k : Int) - 1) = (j : Int) := by rw [IntKind.wrap_i64]; omega
          have hjl : j < l.length := by omega
          have hat1 := HOW.out.att hjl
          have hkz : ((k : Int) == 0) = false := by rw [beq_eq_false_iff_ne]; omega
          have hkz' : (k == 0) = false := by rw [beq_eq_false_iff_ne]; omega
          clear hgk hkeep h1
          generalize g l k = ck at h2 hat
          generalize g l j = dk at h3 hat1
          obtain ⟨cr, cm, cx, ⟨f1, f2, f3⟩⟩ := ck
          obtain rfl : cx = 2 := h2
          obtain ⟨dr, dm, dx, ⟨e1, e2, e3⟩⟩ := dk
          obtain rfl : dx = 1 := h3
          have c2 := hat.next 1 rfl
          have d2 := hat1.next 1 rfl
          clear hat hat1 hk1 hj
          go_wp2_with fail
          go_roundw
          case rel => exact ⟨k1, by have := HK1.out; omega, rfl, by rw [HKEEP.out]; exact HOW, HBL⟩
          case measure => have := HK1.out; simp [intOf]; omega
        · clear hgk hkeep
          generalize g l k = ck at h1 h2 hat
          obtain ⟨cr, cm, cx, ⟨f1, f2, f3⟩⟩ := ck
          have hx1 : (cx == 1) = false := by rw [beq_eq_false_iff_ne]; exact h1
          have hx2 : (cx == 2) = false := by rw [beq_eq_false_iff_ne]; exact h2
          have c2 : wr.cell? ⟨b, k * 6 + (1 + 1), none⟩ = some (.int .i64 cx) := hat.next 1 rfl
          clear hat hk1 h1 h2
          go_wp2_with fail
          go_roundw
          case rel => exact ⟨k1, by have := HK1.out; omega, rfl, by rw [HKEEP.out]; exact HOW, HBL⟩
          case measure => have := HK1.out; simp [intOf]; omega
    · have hkn : k = l.length := by omega
      subst hkn
      rw [mendTo_all] at HOW
      go_wp2_with fail
      go_end0
      exact ⟨rfl, HOW.out, HBL.out⟩
end Row
end
end Go.Proofs.YtceaoadlhdgnmaaGreatDoor
