/- Joined texts: GrdRef2, GrdRefMove. -/
import Derived.Test.YtceaoadlhdgnmaaGreatDoorM9
import Derived.Test.YtceaoadlhdgnmaaGreatDoorM23
import Derived.RegionTactic
import Derived.Deep.RegionLaw
namespace Go.Proofs.YtceaoadlhdgnmaaGreatDoor
set_option maxRecDepth 100000
section
open Go.RowKit
namespace Row
open Utf Wid
def putting (l x : List Cl) (p k : Nat) : List Cl := l.take p ++ x.take k ++ l.drop (p + k)
theorem putting_zero (l x : List Cl) (p : Nat) : putting l x p 0 = l := by simp [putting]
theorem putting_length {l x : List Cl} {p k : Nat} (h : p + k ≤ l.length) (hk : k ≤ x.length) : (putting l x p k).length = l.length := by
  simp [putting]; omega
theorem putting_succ {l x : List Cl} {p k : Nat} (h : p + k < l.length) (hk : k < x.length) : (putting l x p k).set (p + k) (g x k) = putting l x p (k + 1) := by
  have hl := putting_length (Nat.le_of_lt h) (Nat.le_of_lt hk)
  have hl2 := putting_length (l := l) (x := x) (p := p) (k := k + 1) (by omega) (by omega)
  refine ext_g (by rw [List.length_set, hl, hl2]) fun i hi => ?_
  rw [List.length_set, hl] at hi
  have ht : (l.take p).length = p := by rw [List.length_take]; omega
  have hx : (x.take k).length = k := by rw [List.length_take]; omega
  have hx1 : (x.take (k + 1)).length = k + 1 := by rw [List.length_take]; omega
  have key : ∀ m, m ≤ x.length → p + m ≤ l.length → g (putting l x p m) i = if i < p then g l i else if i < p + m then g x (i - p) else g l i := by
    intro m hm1 hm2
    have hxm : (x.take m).length = m := by rw [List.length_take]; omega
    unfold putting
    by_cases h1 : i < p
    · rw [if_pos h1, List.append_assoc, g_append_left (by omega), g_take h1]
    · rw [if_neg h1]
      by_cases h2 : i < p + m
      · rw [if_pos h2, g_append_left (by rw [List.length_append]; omega), g_append_right (by omega), ht, g_take (by omega)]
      · rw [if_neg h2, g_append_right (by rw [List.length_append]; omega), List.length_append, ht, hxm, g_drop]
        congr 1; omega
  by_cases e : i = p + k
  · subst e
    rw [g_set_same (by omega), key (k + 1) (by omega) (by omega), if_neg (by omega), if_pos (by omega)]
    congr 1; omega
  · rw [g_set_ne (fun h => e h.symm), key k (by omega) (by omega), key (k + 1) (by omega) (by omega)]
    by_cases h1 : i < p
    · rw [if_pos h1, if_pos h1]
    · rw [if_neg h1, if_neg h1]
      by_cases h2 : i < p + k
      · rw [if_pos h2, if_pos (by omega)]
      · rw [if_neg h2, if_neg (by omega)]
set_option maxHeartbeats 1600000 in
theorem refWith_any (R : Int) (C i : Nat) (l m : List Cl) (x y : Value) (w : World) (hC : C ≤ 40) (hi : i < 40) (hi1 : (i + 1) * C ≤ l.length) (hl : l.length ≤ 100000000) (hx : Cs w x l) (hy : Cs w y m) (hm : m.length = C) :
    Calls Tryz.prog 86 #[.agg #[.int .i64 R, .int .i64 C, x], .int .i64 i, y] w fun e w' => ∃ v, e = .returned (.agg #[.int .i64 R, .int .i64 C, v]) ∧ OwnCs w' w.heap.size v (putting l m (i * C) C) ∧ Below w.heap.size w w' := by
  have HX := Lib.hid hx
  have HY := Lib.hid hy
  have HCG := Lib.hid (fun w' (k : Cs w' x l) => copyGrid_any R C l x w' k hl)
  obtain ⟨A, c, rfl, _⟩ := hx.form
  obtain ⟨A', c', rfl, _⟩ := hy.form
  have hsm : (i + 1) * C ≤ 40 * 40 := Nat.mul_le_mul hi hC
  obtain ⟨p, hp⟩ : ∃ q, i * C = q := ⟨_, rfl⟩
  have hpc : p + C ≤ l.length := by rw [Nat.succ_mul] at hi1; omega
  have hp2 : p ≤ 1600 := by rw [Nat.succ_mul] at hsm; omega
  have w2 : IntKind.i64.wrap ((i : Int) * (C : Int)) = (p : Int) := by rw [← Int.natCast_mul, hp, IntKind.wrap_i64]; omega
  rw [hp]
  clear hx hy hsm hp hi1
  have hW := ((Below.refl w.heap.size w).alloc (Nat.le_refl _) (gbox R C (.slice A l.length c))).alloc (by simp) (gbox 0 0 (.slice none 0 0))
  go_enter Tryz.func86, Tryz.ntmps86
  go_wp2_with fail
  refine (HCG.out _ (HX.out.kept hW)).mono ?_; rintro e w1 ⟨v, rfl, ho, hb⟩
  have hG1 : w1.heap[w.heap.size + 1]? = some (gbox 0 0 (.slice none 0 0)) := Blk.kept (new_alloc _ _ _ (by simp)) hb
  have hG0 : w1.heap[w.heap.size]? = some (gbox R C (.slice A l.length c)) := Blk.kept (old_alloc (new_alloc _ _ _ rfl) _) hb
  have HB : Hid (Below w.heap.size w w1) := Lib.hid (hW.trans (hb.mono hW.size))
  have HO : Hid (OwnCs w1 (w.heap.size + 2) v l) := Lib.hid (ho.low (by simp))
  obtain ⟨A1, c1, rfl, _⟩ := ho.cs.form
  have HG0 : Hid ((gput w1 w.heap.size R C (.slice A1 l.length c1)).heap[w.heap.size]? = some (gbox R C (.slice A1 l.length c1))) := Lib.hid (gput_box hG0 _ _ _)
  have HG1 : Hid ((gput w1 w.heap.size R C (.slice A1 l.length c1)).heap[w.heap.size + 1]? = some (gbox 0 0 (.slice none 0 0))) := Lib.hid (gput_other hG1 (by omega) _ _ _)
  have HO2 : Hid (OwnCs (gput w1 w.heap.size R C (.slice A1 l.length c1)) (w.heap.size + 2) (.slice A1 l.length c1) l) := Lib.hid (gput_own HO.out (by omega) _ _ _)
  have HB2 : Hid (Below w.heap.size w (gput w1 w.heap.size R C (.slice A1 l.length c1))) := Lib.hid (gput_below HB.out (Nat.le_refl _) _ _ _)
  have r0 : w1.cell? ⟨w.heap.size, 0, none⟩ = some (.int .i64 R) := Blk.cell hG0 0
  have r1 : w1.cell? ⟨w.heap.size, 1, none⟩ = some (.int .i64 C) := Blk.cell hG0 1
  have r2 : w1.cell? ⟨w.heap.size, 2, none⟩ = some (.slice A l.length c) := Blk.cell hG0 2
  have s0 := Blk.free hG0 0
  have s1 := Blk.free hG0 1
  have s2 := Blk.free hG0 2
  clear ho hb hG0 hG1 hW HB HO HCG
  go_wp2_with fail
  unfold gput at HG0 HG1 HO2 HB2
  clear r0 r1 r2 s0 s1 s2
  generalize ((w1.setCell ⟨w.heap.size, 0, none⟩ (.int .i64 R)).setCell ⟨w.heap.size, 1, none⟩ (.int .i64 C)).setCell ⟨w.heap.size, 2, none⟩ (.slice A1 l.length c1) = wa at HG0 HG1 HO2 HB2 ⊢
  have HSH := Lib.hid HO2.out.shape
  have zk := Blk.lt HG1.out
  go_loopw [7] (fun j wr => ∃ k : Nat, k ≤ C ∧ j = .int .i64 k ∧ Hid (OwnCs wr (w.heap.size + 2) (.slice A1 l.length c1) (putting l m p k)) ∧ Hid (Below (w.heap.size + 2) wa wr)) (fun j _ => C - (intOf j).toNat)
  case atStart => exact ⟨0, by omega, rfl, by rw [putting_zero]; exact HO2, Lib.hid (Below.refl _ _)⟩
  case round =>
    obtain ⟨k, hk, rfl, HOW, HBL⟩ := hrel
    have hg0 := (HBL.out.block w.heap.size (by omega)).trans HG0.out
    have hg1 := (HBL.out.block (w.heap.size + 1) (by omega)).trans HG1.out
    have b0 : wr.cell? ⟨w.heap.size, 0, none⟩ = some (.int .i64 R) := Blk.cell hg0 0
    have b1 : wr.cell? ⟨w.heap.size, 1, none⟩ = some (.int .i64 C) := Blk.cell hg0 1
    have b2 : wr.cell? ⟨w.heap.size, 2, none⟩ = some (.slice A1 l.length c1) := Blk.cell hg0 2
    by_cases hlt : k < C
    · have HBW : Hid (Below w.heap.size w wr) := Lib.hid (HB2.out.trans (HBL.out.mono (by omega)))
      obtain ⟨A2, c2, e2, hf⟩ := (HY.out.kept HBW.out).form
      injection e2 with e2 _ e2c
      subst e2
      subst e2c
      obtain ⟨ad, e3, K⟩ := hf k (by omega)
      subst e3
      rcases HSH.out with ⟨e4, e5⟩ | ⟨g1, cap, e4, hg, _⟩
      · exfalso
        rw [e5] at hpc
        simp only [List.length_nil] at hpc
        omega
      injection e4 with e4 _ e6
      subst e4
      subst e6
      have hkl : p + k < (putting l m p k).length := by rw [putting_length (by omega) (by omega)]; omega
      have d0 := HOW.out.cell hkl (show 0 < 6 by decide)
      have d1 := HOW.out.cell hkl (show 1 < 6 by decide)
      have d2 := HOW.out.cell hkl (show 2 < 6 by decide)
      have d3 := HOW.out.cell hkl (show 3 < 6 by decide)
      have d4 := HOW.out.cell hkl (show 4 < 6 by decide)
      have d5 := HOW.out.cell hkl (show 5 < 6 by decide)
      have f0 := HOW.out.free ((p + k) * 6)
      have f1 := HOW.out.free ((p + k) * 6 + 1)
      have f2 := HOW.out.free ((p + k) * 6 + 2)
      have f3 := HOW.out.free ((p + k) * 6 + 3)
      have f4 := HOW.out.free ((p + k) * 6 + 4)
      have f5 := HOW.out.free ((p + k) * 6 + 5)
      simp only [cvals, Nat.add_zero, List.getElem?_cons_zero, List.getElem?_cons_succ] at d0 d1 d2 d3 d4 d5
      have HP := Lib.hid (HOW.out.put hkl (g m k))
      rw [putting_succ (by omega) (by omega)] at HP
      have HB5 := Lib.hid (below_put HBL.out hg (p + k) (g m k))
      generalize g m k = ev at K HP HB5
      generalize g (putting l m p k) (p + k) = cc at d0 d1 d2 d3 d4 d5
      obtain ⟨rune, cb, wide, ⟨fg, bg, fl⟩⟩ := ev
      obtain ⟨rune', cb', wide', ⟨fg', bg', fl'⟩⟩ := cc
      have h0 := K.head
      have h1 := K.next 0 rfl
      have h2 := K.next 1 rfl
      have h3 := K.next 2 rfl
      have h4 := K.next 3 rfl
      have h5 := K.next 4 rfl
      obtain ⟨q, hq⟩ : ∃ q, p + k = q := ⟨_, rfl⟩
      have w3 : IntKind.i64.wrap ((p : Int) + (k : Int)) = (q : Int) := by rw [IntKind.wrap_i64]; omega
      have hql : q < l.length := by omega
      rw [hq] at d0 d1 d2 d3 d4 d5 f0 f1 f2 f3 f4 f5 HP HB5
      have zg : g1 < wr.heap.size := (HOW.out.lt g1 rfl).2
      clear K hf hkl hg0 hg1 hq
      go_wp2_with fail
      go_region
      go_wp2_with fail
      simp only [putCell] at HP HB5
      clear b0 b1 b2 d0 d1 d2 d3 d4 d5 f0 f1 f2 f3 f4 f5 h0 h1 h2 h3 h4 h5
      generalize (((((wr.setCell ⟨g1, q * 6, none⟩ (.int .i64 rune)).setCell ⟨g1, q * 6 + 1, none⟩ (.string ⟨cb.toArray⟩)).setCell ⟨g1, q * 6 + 2, none⟩ (.int .i64 wide)).setCell ⟨g1, q * 6 + 3, none⟩ (.int .i64 fg)).setCell ⟨g1, q * 6 + 4, none⟩ (.int .i64 bg)).setCell ⟨g1, q * 6 + 5, none⟩ (.int .i64 fl) = wz at HP HB5 ⊢
      go_roundw
      case rel => exact ⟨k + 1, by omega, by go_num, HP, Lib.hid HB5.out.drew⟩
      case measure => simp [intOf]; omega
    · have hkn : k = C := by omega
      subst hkn
      have HBW : Hid (Below w.heap.size w wr) := Lib.hid (HB2.out.trans (HBL.out.mono (by omega)))
      have r0 : wr.cell? ⟨w.heap.size + 1, 0, none⟩ = some (.int .i64 0) := Blk.cell hg1 0
      have r1 : wr.cell? ⟨w.heap.size + 1, 1, none⟩ = some (.int .i64 0) := Blk.cell hg1 1
      have r2 : wr.cell? ⟨w.heap.size + 1, 2, none⟩ = some (.slice none 0 0) := Blk.cell hg1 2
      have s0 := Blk.free hg1 0
      have s1 := Blk.free hg1 1
      have s2 := Blk.free hg1 2
      have HF := Lib.hid (gput_box hg1 R k (.slice A1 l.length c1))
      have HO3 : Hid (OwnCs (gput wr (w.heap.size + 1) R k (.slice A1 l.length c1)) (w.heap.size + 2) (.slice A1 l.length c1) (putting l m p k)) := Lib.hid (gput_own HOW.out (by omega) _ _ _)
      have HB3 : Hid (Below w.heap.size w (gput wr (w.heap.size + 1) R k (.slice A1 l.length c1))) := Lib.hid (gput_below HBW.out (by omega) _ _ _)
      clear HOW HBL HO2 HB2 hg0 hg1 HG0 HG1
      go_wp2_with fail
      show bodyPost _ _ _ _ _ (gput wr (w.heap.size + 1) R k (.slice A1 l.length c1))
      clear r0 r1 r2 s0 s1 s2
      generalize gput wr (w.heap.size + 1) R k (.slice A1 l.length c1) = wF at HF HO3 HB3 ⊢
      have z0 : wF.cell? ⟨w.heap.size + 1, 0, none⟩ = some (.int .i64 R) := Blk.cell HF.out 0
      have z1 : wF.cell? ⟨w.heap.size + 1, 1, none⟩ = some (.int .i64 k) := Blk.cell HF.out 1
      have z2 : wF.cell? ⟨w.heap.size + 1, 2, none⟩ = some (.slice A1 l.length c1) := Blk.cell HF.out 2
      exact bodyPost_ret (v := .agg #[.int .i64 R, .int .i64 k, (.slice A1 l.length c1)]) (by simp [results, Tryz.results86, go_sem, z0, z1, z2]) rfl ⟨_, rfl, HO3.out.low (by omega), HB3.out⟩
end Row
end
section
open Go.RowKit
namespace Row
theorem moved_even {R C : Nat} {rs : List (List Cl)} (h : Rws R C rs) {top bot : Nat} (hb : bot < R) (n : Int) (a : Look) : Even C (moved rs top bot n C a) := by
  refine even_of fun i hi => ?_
  rw [moved_length] at hi
  rw [rowOf_moved hi]
  unfold movedRow
  split
  · split
    · exact blankRow_length C a
    · exact h.rlen (by omega)
  · exact h.rlen (by rw [← h.len]; exact hi)
theorem rows_snoc {rs : List (List Cl)} {k : Nat} (h : k < rs.length) : (rs.take (k + 1)).flatten = (rs.take k).flatten ++ rowOf rs k := by
  rw [List.take_succ_eq_append_getElem h, List.flatten_append]
  simp [rowOf, h]
theorem take_small {c : Nat} {rs : List (List Cl)} (h : Even c rs) (hc : c ≤ 40) (hl : rs.length ≤ 40) (k : Nat) : (rs.take k).flatten.length ≤ 1600 := by
  rw [even_length (h.take k), List.length_take]
  exact Nat.le_trans (Nat.mul_le_mul (Nat.le_trans (Nat.min_le_right _ _) hl) hc) (by omega)
structure Boxes4 (w wr : World) (r c : Int) (x : Value) (a : Look) (r' c' : Int) (v : Value) (l : List Cl) : Prop where
  three : Boxes3 w wr r c x a
  x : wr.heap[w.heap.size + 3]? = some (gbox r' c' v)
  own : OwnCs wr (w.heap.size + 4) v l
theorem Boxes4.kept {w w2 w3 : World} {r c r' c' : Int} {x v : Value} {a : Look} {l : List Cl} (h : Boxes4 w w2 r c x a r' c' v l) (hb : Below w2.heap.size w2 w3) : Boxes4 w w3 r c x a r' c' v l := ⟨h.three.kept hb, Blk.kept h.x hb, h.own.kept hb⟩
theorem Boxes4.size {w w2 : World} {r c r' c' : Int} {x v : Value} {a : Look} {l : List Cl} (h : Boxes4 w w2 r c x a r' c' v l) : w.heap.size + 4 ≤ w2.heap.size := Blk.lt h.x
theorem Boxes4.more {w w2 w3 : World} {r c r' c' : Int} {x v v' : Value} {a : Look} {l m : List Cl} (h : Boxes4 w w2 r c x a r' c' v l) (ho : OwnCs w3 (w.heap.size + 4) v' (l ++ m)) (hg : w2.grownBy w3 v.ownBlock) :
    Boxes4 w (w3.setCell ⟨w.heap.size + 3, 2, none⟩ v') r c x a r' c' v' (l ++ m) ∧ w3.cell? ⟨w.heap.size + 3, 2, none⟩ = some v ∧ w3.frozen? ⟨w.heap.size + 3, 2, none⟩ = false := by
  have h3 : Boxes3 w w3 r c x a := by
    refine ⟨⟨box_grown h.three.two.g hg (h.own.not_box h.three.two.g (by decide)), box_grown h.three.two.a hg (h.own.not_box h.three.two.a (by decide)), below_cs h.three.two.below hg h.three.two.below.size (h.own.low (by omega))⟩, box_grown h.three.z hg (h.own.not_box h.three.z (by decide))⟩
  have hx := box_grown h.x hg (h.own.not_box h.x (by decide))
  refine ⟨⟨⟨⟨Blk.other h3.two.g (by omega) _ _, Blk.other h3.two.a (by omega) _ _, h3.two.below.setCell (p := ⟨w.heap.size + 3, 2, none⟩) (show w.heap.size ≤ w.heap.size + 3 by omega) _⟩, Blk.other h3.z (by omega) _ _⟩, Blk.set hx 2 _, ho.setBox hx (by decide) 2 _⟩, Blk.cell hx 2, Blk.free hx 2⟩
set_option maxHeartbeats 8000000 in
theorem refMove_any (R C : Nat) (rs : List (List Cl)) (a : Look) (top bot : Nat) (n : Int) (x : Value) (w : World) (h : Rws R C rs) (hx : Rm w x rs.flatten) (ht : top ≤ bot) (hb : bot < R) (hn : -9999 ≤ n ∧ n ≤ 9999) :
    Calls Tryz.prog 130 #[.agg #[.int .i64 R, .int .i64 C, x], .int .i64 top, .int .i64 bot, .int .i64 n, .agg #[.int .i64 a.fg, .int .i64 a.bg, .int .i64 a.flags]] w fun e w' =>
      ∃ v, e = .returned (.agg #[.int .i64 R, .int .i64 C, v]) ∧ OwnCs w' w.heap.size v (moved rs top bot n C a).flatten ∧ Below w.heap.size w w' := by
  have hR40 := h.r40
  have hC40 := h.c40
  have hC1 := h.c1
  have hml : (moved rs top bot n C a).length = R := by rw [moved_length, h.len]
  have HSM := Lib.hid (take_small (moved_even h (top := top) hb n a) hC40 (by rw [hml]; exact hR40))
  have HSN : Hid (∀ k, k < R → ((moved rs top bot n C a).take (k + 1)).flatten = ((moved rs top bot n C a).take k).flatten ++ movedRow rs top bot n C a k) := Lib.hid fun k hk => by
    rw [rows_snoc (by rw [hml]; exact hk), rowOf_moved (by rw [h.len]; exact hk)]
  have HLA : Hid (((moved rs top bot n C a).take R).flatten = (moved rs top bot n C a).flatten) := Lib.hid (by rw [List.take_of_length_le (by rw [hml]; exact Nat.le_refl _)])
  have HAT : Hid (∀ (j : Nat), j < R → ∀ w', Rm w' x rs.flatten → Calls Tryz.prog 88 #[.agg #[.int .i64 R, .int .i64 C, x], .int .i64 j] w' fun e w'' => ∃ v, e = .returned v ∧ OwnCs w'' w'.heap.size v (rowOf rs j) ∧ Below w'.heap.size w' w'') := Lib.hid fun j hj w' k => by
    have := refAt_any R C j rs.flatten x w' hC40 (by omega) (by rw [even_length h.even, h.len]; exact Nat.mul_le_mul_right C hj) k
    rwa [rowAt_flat h.even (by rw [h.len]; exact hj)] at this
  have HBL : Hid (∀ w', Calls Tryz.prog 113 #[.int .i64 C, .agg #[.int .i64 a.fg, .int .i64 a.bg, .int .i64 a.flags]] w' fun e w'' => ∃ v, e = .returned v ∧ OwnCs w'' w'.heap.size v (blankRow C a) ∧ Below w'.heap.size w' w'') := Lib.hid fun w' => refBlank_big C a w' (by omega)
  have HRL : Hid (∀ k, k < R → (movedRow rs top bot n C a k).length = C) := Lib.hid fun k hk => by
    have := moved_even h (top := top) hb n a (rowOf (moved rs top bot n C a) k) (rowOf_mem (by rw [hml]; exact hk))
    rwa [rowOf_moved (by rw [h.len]; exact hk)] at this
  have HMR : Hid (∀ k, movedRow rs top bot n C a k = if top ≤ k ∧ k ≤ bot then (if (k : Int) + n < top ∨ (bot : Int) < k + n then blankRow C a else rowOf rs ((k : Int) + n).toNat) else rowOf rs k) := Lib.hid fun k => rfl
  obtain ⟨mt, HMT⟩ : ∃ mt : Nat → List Cl, Hid (∀ k, ((moved rs top bot n C a).take k).flatten = mt k) := ⟨_, Lib.hid fun _ => rfl⟩
  have HSM' : Hid (∀ k, (mt k).length ≤ 1600) := Lib.hid fun k => by rw [← HMT.out]; exact HSM.out k
  have HSN' : Hid (∀ k, k < R → mt (k + 1) = mt k ++ movedRow rs top bot n C a k) := Lib.hid fun k hk => by rw [← HMT.out, ← HMT.out]; exact HSN.out k hk
  have HLA' : Hid ((moved rs top bot n C a).flatten = mt R) := Lib.hid (by rw [← HMT.out]; exact HLA.out.symm)
  have HM0 : Hid (mt 0 = []) := Lib.hid (by rw [← HMT.out]; rfl)
  clear HSM HSN HLA HMT hml
  obtain ⟨l, HL⟩ : ∃ l, Hid (rs.flatten = l) := ⟨_, Lib.hid rfl⟩
  rw [HL.out] at hx HAT
  have HX := Lib.hid hx
  obtain ⟨_, A, cp, rfl, _⟩ := hx
  clear h
  have HB0 : Hid (Boxes4 w ((((w.alloc (gbox R C (.slice A l.length cp))).alloc (abox a)).alloc (gbox 0 0 (.slice none 0 0))).alloc (gbox R C (.slice none 0 0))) R C (.slice A l.length cp) a R C (.slice none 0 0) []) := Lib.hid ⟨(Boxes3.new w R C (.slice A l.length cp) a).alloc _, new_alloc _ _ _ (by simp), OwnCs.nil _ _⟩
  go_enter Tryz.func130, Tryz.ntmps130
  go_wp2_with fail
  show Code.wp _ _ _ _ ((((w.alloc (gbox R C (.slice A l.length cp))).alloc (abox a)).alloc (gbox 0 0 (.slice none 0 0))).alloc (gbox R C (.slice none 0 0)))
  generalize (((w.alloc (gbox R C (.slice A l.length cp))).alloc (abox a)).alloc (gbox 0 0 (.slice none 0 0))).alloc (gbox R C (.slice none 0 0)) = wa at HB0 ⊢
  go_loopw [12] (fun i wr => ∃ (k : Nat) (v : Value), k ≤ R ∧ i = .int .i64 k ∧ Hid (Boxes4 w wr R C (.slice A l.length cp) a R C v (mt k))) (fun i _ => R - (intOf i).toNat)
  case atStart => exact ⟨0, _, by omega, rfl, by rw [HM0.out]; exact HB0⟩
  case round =>
    obtain ⟨k, v, hk, rfl, HB⟩ := hrel
    obtain ⟨c0, c1, c2, k0, k1, k2⟩ := HB.out.three.two.cells
    obtain ⟨Av, cv, rfl⟩ := own_shape HB.out.own
    have x2 : wr.cell? ⟨w.heap.size + 1 + 1 + 1, 2, none⟩ = some (.slice Av (mt k).length cv) := Blk.cell HB.out.x 2
    have x0 : wr.cell? ⟨w.heap.size + 1 + 1 + 1, 0, none⟩ = some (.int .i64 R) := Blk.cell HB.out.x 0
    have x1 : wr.cell? ⟨w.heap.size + 1 + 1 + 1, 1, none⟩ = some (.int .i64 C) := Blk.cell HB.out.x 1
    have hszr := HB.out.size
    have hb3 : w.heap.size + 1 + 1 + 1 < wr.heap.size := by omega
    by_cases hlt : k < R
    · have HSK := Lib.hid (HSM'.out k)
      have HSNk := Lib.hid (HSN'.out k hlt)
      have HRLk := Lib.hid (HRL.out k hlt)
      have HRMk := Lib.hid (HX.out.kept HB.out.three.two.below)
      obtain ⟨pl, hpl⟩ : ∃ q, (mt k).length = q := ⟨_, rfl⟩
      rw [hpl] at HB x2
      have hwk : IntKind.i64.wrap ((k : Int) + 1) = ((k + 1 : Nat) : Int) := by rw [IntKind.wrap_i64]; omega
      obtain ⟨f, hf⟩ : ∃ f : Int, f = (k : Int) + n := ⟨_, rfl⟩
      have hwf : IntKind.i64.wrap ((k : Int) + n) = f := by rw [hf, IntKind.wrap_i64]; omega
      have HMRk := Lib.hid (HMR.out k)
      rw [← hf] at HMRk
      clear hf
      have hdk : decide ((k : Int) < (R : Int)) = true := decide_eq_true (by omega)
      by_cases hin : top ≤ k ∧ k ≤ bot
      · obtain ⟨hi1, hi2⟩ := hin
        have hd1 : decide ((top : Int) ≤ (k : Int)) = true := decide_eq_true (by omega)
        have hd2 : decide ((k : Int) ≤ (bot : Int)) = true := decide_eq_true (by omega)
        by_cases hlow : f < (top : Int)
        · have hd3 : decide (f < (top : Int)) = true := decide_eq_true hlow
          have HROW : Hid (movedRow rs top bot n C a k = blankRow C a) := Lib.hid (by rw [HMRk.out, if_pos ⟨hi1, hi2⟩, if_pos (.inl hlow)])
          clear hlow
          have HCAL := Lib.hid (HBL.out wr.drew)
          rw [HROW.out] at HSNk HRLk
          go_wp2_with fail
          go_region_law (first
            | (have h9 := HC3.out; refine step_append_cs rfl rfl (w.heap.size + 4) (.slice Av pl cv) v3 (mt k) (blankRow C a) (by simp [Act.eval]) HB3.out.own (by simp [Act.eval]) h9 (by rw [HRLk.out]; have := HSK.out; omega) (HB3.out.size) ?_; intro v4 w4 ho4 hg4 hat4; obtain ⟨A4, c4, rfl⟩ := own_shape ho4; rw [List.length_append, HRLk.out, hpl] at ho4 ⊢; obtain ⟨hb4, s2', t2'⟩ := HB3.out.more ho4 hg4; have s2 : w4.cell? ⟨w.heap.size + 1 + 1 + 1, 2, none⟩ = some (.slice Av pl cv) := s2'; have t2 : w4.frozen? ⟨w.heap.size + 1 + 1 + 1, 2, none⟩ = false := t2'; have HB4 := Lib.hid hb4; clear ho4 hg4 hat4 hb4 s2' t2')
            | (go_simp; go_at_call 113; refine HCAL.out.mono ?_; rintro e w3 ⟨v3, rfl, ho3, hb3'⟩; have hb3'' : Below wr.heap.size wr w3 := (Below.refl _ _).drew.trans hb3'; have HC3 := Lib.hid ho3.cs; have HB3 := Lib.hid (HB.out.kept hb3''); have r2 : w3.cell? ⟨w.heap.size + 1 + 1 + 1, 2, none⟩ = some (.slice Av pl cv) := Blk.cell HB3.out.x 2; clear ho3 hb3' hb3''))
          all_goals
            have HB5 : Hid (Boxes4 w (w4.setCell ⟨w.heap.size + 3, 2, none⟩ (.slice A4 (pl + C) c4)) R C (.slice A l.length cp) a R C (.slice A4 (pl + C) c4) (mt (k + 1))) := Lib.hid (by rw [HSNk.out]; exact HB4.out)
            clear c0 c1 c2 k0 k1 k2 x0 x1 x2 r2 s2 t2
            generalize hws : w4.setCell ⟨w.heap.size + 3, 2, none⟩ (.slice A4 (pl + C) c4) = w5 at HB5
            rw [show w.heap.size + 3 = w.heap.size + 1 + 1 + 1 from rfl] at hws
            try rw [hws]
            clear hws
            go_wp2_with fail
            go_roundw
            case rel => exact ⟨k + 1, _, hlt, rfl, HB5⟩
            case measure => simp [intOf]; omega
        · have hd3 : decide (f < (top : Int)) = false := decide_eq_false hlow
          by_cases hhigh : (bot : Int) < f
          · have hd4 : decide ((bot : Int) < f) = true := decide_eq_true hhigh
            have HROW : Hid (movedRow rs top bot n C a k = blankRow C a) := Lib.hid (by rw [HMRk.out, if_pos ⟨hi1, hi2⟩, if_pos (.inr hhigh)])
            clear hlow hhigh
            have HCAL := Lib.hid (HBL.out wr.drew)
            rw [HROW.out] at HSNk HRLk
            go_wp2_with fail
            go_region_law (first
              | (have h9 := HC3.out; refine step_append_cs rfl rfl (w.heap.size + 4) (.slice Av pl cv) v3 (mt k) (blankRow C a) (by simp [Act.eval]) HB3.out.own (by simp [Act.eval]) h9 (by rw [HRLk.out]; have := HSK.out; omega) (HB3.out.size) ?_; intro v4 w4 ho4 hg4 hat4; obtain ⟨A4, c4, rfl⟩ := own_shape ho4; rw [List.length_append, HRLk.out, hpl] at ho4 ⊢; obtain ⟨hb4, s2', t2'⟩ := HB3.out.more ho4 hg4; have s2 : w4.cell? ⟨w.heap.size + 1 + 1 + 1, 2, none⟩ = some (.slice Av pl cv) := s2'; have t2 : w4.frozen? ⟨w.heap.size + 1 + 1 + 1, 2, none⟩ = false := t2'; have HB4 := Lib.hid hb4; clear ho4 hg4 hat4 hb4 s2' t2')
              | (go_simp; go_at_call 113; refine HCAL.out.mono ?_; rintro e w3 ⟨v3, rfl, ho3, hb3'⟩; have hb3'' : Below wr.heap.size wr w3 := (Below.refl _ _).drew.trans hb3'; have HC3 := Lib.hid ho3.cs; have HB3 := Lib.hid (HB.out.kept hb3''); have r2 : w3.cell? ⟨w.heap.size + 1 + 1 + 1, 2, none⟩ = some (.slice Av pl cv) := Blk.cell HB3.out.x 2; clear ho3 hb3' hb3''))
            all_goals
              have HB5 : Hid (Boxes4 w (w4.setCell ⟨w.heap.size + 3, 2, none⟩ (.slice A4 (pl + C) c4)) R C (.slice A l.length cp) a R C (.slice A4 (pl + C) c4) (mt (k + 1))) := Lib.hid (by rw [HSNk.out]; exact HB4.out)
              clear c0 c1 c2 k0 k1 k2 x0 x1 x2 r2 s2 t2
              generalize hws : w4.setCell ⟨w.heap.size + 3, 2, none⟩ (.slice A4 (pl + C) c4) = w5 at HB5
              rw [show w.heap.size + 3 = w.heap.size + 1 + 1 + 1 from rfl] at hws
              try rw [hws]
              clear hws
              go_wp2_with fail
              go_roundw
              case rel => exact ⟨k + 1, _, hlt, rfl, HB5⟩
              case measure => simp [intOf]; omega
          · obtain ⟨j, hj⟩ : ∃ j : Nat, f = (j : Int) := ⟨f.toNat, by omega⟩
            have hd4 : decide ((bot : Int) < (j : Int)) = false := decide_eq_false (by omega)
            rw [hj] at hd3 hwf HMRk hlow hhigh
            have hjR : j < R := by omega
            have HROW : Hid (movedRow rs top bot n C a k = rowOf rs j) := Lib.hid (by rw [HMRk.out, if_pos ⟨hi1, hi2⟩, if_neg (by omega), Int.toNat_natCast])
            have hn1 : ¬ j < top := by omega
            have hn2 : ¬ bot < j := by omega
            clear hlow hhigh hj
            have HCAL := Lib.hid (HAT.out j (by omega) wr.drew (HRMk.out.kept (Below.refl _ _).drew))
            rw [HROW.out] at HSNk HRLk
            go_wp2_with fail
            go_region_law (first
              | (have h9 := HC3.out; refine step_append_cs rfl rfl (w.heap.size + 4) (.slice Av pl cv) v3 (mt k) (rowOf rs j) (by simp [Act.eval]) HB3.out.own (by simp [Act.eval]) h9 (by rw [HRLk.out]; have := HSK.out; omega) (HB3.out.size) ?_; intro v4 w4 ho4 hg4 hat4; obtain ⟨A4, c4, rfl⟩ := own_shape ho4; rw [List.length_append, HRLk.out, hpl] at ho4 ⊢; obtain ⟨hb4, s2', t2'⟩ := HB3.out.more ho4 hg4; have s2 : w4.cell? ⟨w.heap.size + 1 + 1 + 1, 2, none⟩ = some (.slice Av pl cv) := s2'; have t2 : w4.frozen? ⟨w.heap.size + 1 + 1 + 1, 2, none⟩ = false := t2'; have HB4 := Lib.hid hb4; clear ho4 hg4 hat4 hb4 s2' t2')
              | (go_simp; go_at_call 88; refine HCAL.out.mono ?_; rintro e w3 ⟨v3, rfl, ho3, hb3'⟩; have hb3'' : Below wr.heap.size wr w3 := (Below.refl _ _).drew.trans hb3'; have HC3 := Lib.hid ho3.cs; have HB3 := Lib.hid (HB.out.kept hb3''); have r2 : w3.cell? ⟨w.heap.size + 1 + 1 + 1, 2, none⟩ = some (.slice Av pl cv) := Blk.cell HB3.out.x 2; clear ho3 hb3' hb3''))
            all_goals
              have HB5 : Hid (Boxes4 w (w4.setCell ⟨w.heap.size + 3, 2, none⟩ (.slice A4 (pl + C) c4)) R C (.slice A l.length cp) a R C (.slice A4 (pl + C) c4) (mt (k + 1))) := Lib.hid (by rw [HSNk.out]; exact HB4.out)
              clear c0 c1 c2 k0 k1 k2 x0 x1 x2 r2 s2 t2
              generalize hws : w4.setCell ⟨w.heap.size + 3, 2, none⟩ (.slice A4 (pl + C) c4) = w5 at HB5
              rw [show w.heap.size + 3 = w.heap.size + 1 + 1 + 1 from rfl] at hws
              try rw [hws]
              clear hws
              go_wp2_with fail
              go_roundw
              case rel => exact ⟨k + 1, _, hlt, rfl, HB5⟩
              case measure => simp [intOf]; omega
      · have HROW : Hid (movedRow rs top bot n C a k = rowOf rs k) := Lib.hid (by rw [HMRk.out, if_neg hin])
        obtain ⟨j, hj⟩ : ∃ j : Nat, j = k := ⟨_, rfl⟩
        by_cases hi1 : top ≤ k
        · have hd1 : decide ((top : Int) ≤ (k : Int)) = true := decide_eq_true (by omega)
          have hi2 : ¬ k ≤ bot := fun q => hin ⟨hi1, q⟩
          have hd2 : decide ((k : Int) ≤ (bot : Int)) = false := decide_eq_false (by omega)
          clear hin
          have HCAL := Lib.hid (HAT.out k (by omega) wr.drew (HRMk.out.kept (Below.refl _ _).drew))
          rw [HROW.out] at HSNk HRLk
          go_wp2_with fail
          go_region_law (first
            | (have h9 := HC3.out; refine step_append_cs rfl rfl (w.heap.size + 4) (.slice Av pl cv) v3 (mt k) (rowOf rs k) (by simp [Act.eval]) HB3.out.own (by simp [Act.eval]) h9 (by rw [HRLk.out]; have := HSK.out; omega) (HB3.out.size) ?_; intro v4 w4 ho4 hg4 hat4; obtain ⟨A4, c4, rfl⟩ := own_shape ho4; rw [List.length_append, HRLk.out, hpl] at ho4 ⊢; obtain ⟨hb4, s2', t2'⟩ := HB3.out.more ho4 hg4; have s2 : w4.cell? ⟨w.heap.size + 1 + 1 + 1, 2, none⟩ = some (.slice Av pl cv) := s2'; have t2 : w4.frozen? ⟨w.heap.size + 1 + 1 + 1, 2, none⟩ = false := t2'; have HB4 := Lib.hid hb4; clear ho4 hg4 hat4 hb4 s2' t2')
            | (go_simp; go_at_call 88; refine HCAL.out.mono ?_; rintro e w3 ⟨v3, rfl, ho3, hb3'⟩; have hb3'' : Below wr.heap.size wr w3 := (Below.refl _ _).drew.trans hb3'; have HC3 := Lib.hid ho3.cs; have HB3 := Lib.hid (HB.out.kept hb3''); have r2 : w3.cell? ⟨w.heap.size + 1 + 1 + 1, 2, none⟩ = some (.slice Av pl cv) := Blk.cell HB3.out.x 2; clear ho3 hb3' hb3''))
          all_goals
            have HB5 : Hid (Boxes4 w (w4.setCell ⟨w.heap.size + 3, 2, none⟩ (.slice A4 (pl + C) c4)) R C (.slice A l.length cp) a R C (.slice A4 (pl + C) c4) (mt (k + 1))) := Lib.hid (by rw [HSNk.out]; exact HB4.out)
            clear c0 c1 c2 k0 k1 k2 x0 x1 x2 r2 s2 t2
            generalize hws : w4.setCell ⟨w.heap.size + 3, 2, none⟩ (.slice A4 (pl + C) c4) = w5 at HB5
            rw [show w.heap.size + 3 = w.heap.size + 1 + 1 + 1 from rfl] at hws
            try rw [hws]
            clear hws
            go_wp2_with fail
            go_roundw
            case rel => exact ⟨k + 1, _, hlt, rfl, HB5⟩
            case measure => simp [intOf]; omega
        · have hd1 : decide ((top : Int) ≤ (k : Int)) = false := decide_eq_false (by omega)
          clear hin
          have HCAL := Lib.hid (HAT.out k (by omega) wr.drew (HRMk.out.kept (Below.refl _ _).drew))
          rw [HROW.out] at HSNk HRLk
          go_wp2_with fail
          go_region_law (first
            | (have h9 := HC3.out; refine step_append_cs rfl rfl (w.heap.size + 4) (.slice Av pl cv) v3 (mt k) (rowOf rs k) (by simp [Act.eval]) HB3.out.own (by simp [Act.eval]) h9 (by rw [HRLk.out]; have := HSK.out; omega) (HB3.out.size) ?_; intro v4 w4 ho4 hg4 hat4; obtain ⟨A4, c4, rfl⟩ := own_shape ho4; rw [List.length_append, HRLk.out, hpl] at ho4 ⊢; obtain ⟨hb4, s2', t2'⟩ := HB3.out.more ho4 hg4; have s2 : w4.cell? ⟨w.heap.size + 1 + 1 + 1, 2, none⟩ = some (.slice Av pl cv) := s2'; have t2 : w4.frozen? ⟨w.heap.size + 1 + 1 + 1, 2, none⟩ = false := t2'; have HB4 := Lib.hid hb4; clear ho4 hg4 hat4 hb4 s2' t2')
            | (go_simp; go_at_call 88; refine HCAL.out.mono ?_; rintro e w3 ⟨v3, rfl, ho3, hb3'⟩; have hb3'' : Below wr.heap.size wr w3 := (Below.refl _ _).drew.trans hb3'; have HC3 := Lib.hid ho3.cs; have HB3 := Lib.hid (HB.out.kept hb3''); have r2 : w3.cell? ⟨w.heap.size + 1 + 1 + 1, 2, none⟩ = some (.slice Av pl cv) := Blk.cell HB3.out.x 2; clear ho3 hb3' hb3''))
          all_goals
            have HB5 : Hid (Boxes4 w (w4.setCell ⟨w.heap.size + 3, 2, none⟩ (.slice A4 (pl + C) c4)) R C (.slice A l.length cp) a R C (.slice A4 (pl + C) c4) (mt (k + 1))) := Lib.hid (by rw [HSNk.out]; exact HB4.out)
            clear c0 c1 c2 k0 k1 k2 x0 x1 x2 r2 s2 t2
            generalize hws : w4.setCell ⟨w.heap.size + 3, 2, none⟩ (.slice A4 (pl + C) c4) = w5 at HB5
            rw [show w.heap.size + 3 = w.heap.size + 1 + 1 + 1 from rfl] at hws
            try rw [hws]
            clear hws
            go_wp2_with fail
            go_roundw
            case rel => exact ⟨k + 1, _, hlt, rfl, HB5⟩
            case measure => simp [intOf]; omega
    · have hkR : k = R := by omega
      subst hkR
      rw [← HLA'.out] at HB x2
      have hd : decide ((k : Int) < (k : Int)) = false := decide_eq_false (by omega)
      obtain ⟨res, HRE⟩ : ∃ q, Hid ((moved rs top bot n C a).flatten = q) := ⟨_, Lib.hid rfl⟩
      rw [HRE.out] at HB x2
      obtain ⟨z0, z1, z2, y0, y1, y2⟩ := gzero HB.out.three.z
      have HF := Lib.hid (gput_box HB.out.three.z k C (.slice Av res.length cv))
      have HO8 : Hid (OwnCs (gput wr (w.heap.size + 2) k C (.slice Av res.length cv)) (w.heap.size + 4) (.slice Av res.length cv) res) := Lib.hid (gput_own HB.out.own (by omega) _ _ _)
      have HB8 : Hid (Below w.heap.size w (gput wr (w.heap.size + 2) k C (.slice Av res.length cv))) := Lib.hid (gput_below HB.out.three.two.below (by omega) _ _ _)
      go_wp2_with fail
      show bodyPost _ _ _ _ _ (gput wr (w.heap.size + 2) k C (.slice Av res.length cv))
      clear z0 z1 z2 y0 y1 y2
      generalize gput wr (w.heap.size + 2) k C (.slice Av res.length cv) = wF at HF HO8 HB8 ⊢
      have z0 : wF.cell? ⟨w.heap.size + 1 + 1, 0, none⟩ = some (.int .i64 k) := Blk.cell HF.out 0
      have z1 : wF.cell? ⟨w.heap.size + 1 + 1, 1, none⟩ = some (.int .i64 C) := Blk.cell HF.out 1
      have z2 : wF.cell? ⟨w.heap.size + 1 + 1, 2, none⟩ = some (.slice Av res.length cv) := Blk.cell HF.out 2
      exact bodyPost_ret (v := .agg #[.int .i64 k, .int .i64 C, .slice Av res.length cv]) (by simp [results, Tryz.results130, go_sem, z0, z1, z2]) rfl ⟨_, rfl, by rw [HRE.out]; exact HO8.out.low (by omega), HB8.out⟩
end Row
end
end Go.Proofs.YtceaoadlhdgnmaaGreatDoor
