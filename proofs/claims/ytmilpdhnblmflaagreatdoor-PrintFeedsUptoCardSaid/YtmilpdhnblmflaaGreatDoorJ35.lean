/- Joined texts: GrdRefSize. -/
import Derived.Test.YtmilpdhnblmflaaGreatDoorJ1
import Derived.Test.YtmilpdhnblmflaaGreatDoorJ2
import Derived.Test.YtmilpdhnblmflaaGreatDoorJ3
import Derived.Test.YtmilpdhnblmflaaGreatDoorJ4
import Derived.Test.YtmilpdhnblmflaaGreatDoorJ5
import Derived.Test.YtmilpdhnblmflaaGreatDoorJ6
import Derived.Test.YtmilpdhnblmflaaGreatDoorJ7
import Derived.Test.YtmilpdhnblmflaaGreatDoorJ8
import Derived.Test.YtmilpdhnblmflaaGreatDoorJ9
import Derived.Test.YtmilpdhnblmflaaGreatDoorJ21
import Derived.Test.YtmilpdhnblmflaaGreatDoorJ22
import Derived.Test.YtmilpdhnblmflaaGreatDoorJ23
import Derived.Test.YtmilpdhnblmflaaGreatDoorJ33
import Derived.Test.YtmilpdhnblmflaaGreatDoorJ34
section
/- The page's Resize. -/
namespace Go.Proofs.YtmilpdhnblmflaaGreatDoor
set_option maxRecDepth 100000
open Go.RowKit
namespace Row

theorem fitted_len (rs : List (List Cl)) (r c : Nat) (a : Look) : (Row.fitted rs r c a).length = r := by unfold Row.fitted; rw [List.length_map, List.length_range]
theorem fitted_row (rs : List (List Cl)) {r c k : Nat} (a : Look) (h : k < r) : rowOf (Row.fitted rs r c a) k = if k < rs.length then fitRow (rowOf rs k) c a else blankRow c a := by
  unfold Row.fitted; rw [rowOf_map _ h]
theorem fitted_even (rs : List (List Cl)) (r c : Nat) (a : Look) : Even c (Row.fitted rs r c a) := by
  refine even_of fun i hi => ?_
  rw [fitted_len] at hi
  rw [fitted_row rs a hi]
  split
  · exact fitRow_length _ _ _
  · exact blankRow_length c a
theorem fit_less {l : List Cl} {n : Nat} (h : n < l.length) (a : Look) : fitRow l n a = mendEnd (l.take n) ++ blankRow 0 a := by
  unfold fitRow; rw [if_pos h, show n - l.length = 0 by omega]; rfl
theorem fit_more {l : List Cl} {n : Nat} (h : l.length ≤ n) (a : Look) : fitRow l n a = l ++ blankRow (n - l.length) a := by
  unfold fitRow; rw [if_neg (by omega)]; rfl
set_option maxHeartbeats 8000000 in
theorem refResize_any (R C : Nat) (rs : List (List Cl)) (a : Look) (r c : Nat) (x : Value) (w : World) (h : Rws R C rs) (hx : Rm w x rs.flatten) (h1 : 1 ≤ r) (h2 : r ≤ 40) (h3 : 1 ≤ c) (h4 : c ≤ 40) :
    Calls Tryz.prog 51 #[.agg #[.int .i64 R, .int .i64 C, x], .int .i64 r, .int .i64 c, .agg #[.int .i64 a.fg, .int .i64 a.bg, .int .i64 a.flags]] w fun e w' =>
      ∃ v, e = .returned (.agg #[.int .i64 r, .int .i64 c, v]) ∧ OwnCs w' w.heap.size v (Row.fitted rs r c a).flatten ∧ Below w.heap.size w w' := by
  have hR40 := h.r40
  have hC40 := h.c40
  have hC1 := h.c1
  have HSM := Lib.hid (take_small (fitted_even rs r c a) h4 (by rw [fitted_len]; exact h2))
  obtain ⟨F, HF⟩ : ∃ F : Nat → List Cl, Hid (∀ k, F k = if k < R then fitRow (rowOf rs k) c a else blankRow c a) := ⟨_, Lib.hid fun _ => rfl⟩
  have HSN : Hid (∀ k, k < r → ((Row.fitted rs r c a).take (k + 1)).flatten = ((Row.fitted rs r c a).take k).flatten ++ F k) := Lib.hid fun k hk => by
    rw [rows_snoc (by rw [fitted_len]; exact hk), fitted_row rs a hk, HF.out, h.len]
  have HLA : Hid (((Row.fitted rs r c a).take r).flatten = (Row.fitted rs r c a).flatten) := Lib.hid (by rw [List.take_of_length_le (by rw [fitted_len]; exact Nat.le_refl _)])
  have HAT : Hid (∀ (j : Nat), j < R → ∀ w', Rm w' x rs.flatten → Calls Tryz.prog 66 #[.agg #[.int .i64 R, .int .i64 C, x], .int .i64 j] w' fun e w'' => ∃ v, e = .returned v ∧ OwnCs w'' w'.heap.size v (rowOf rs j) ∧ Below w'.heap.size w' w'') := Lib.hid fun j hj w' k => by
    have := refAt_any R C j rs.flatten x w' hC40 (by omega) (by rw [even_length h.even, h.len]; exact Nat.mul_le_mul_right C hj) k
    rwa [rowAt_flat h.even (by rw [h.len]; exact hj)] at this
  have HBL : Hid (∀ (n : Nat), n ≤ 40 → ∀ w', Calls Tryz.prog 80 #[.int .i64 n, .agg #[.int .i64 a.fg, .int .i64 a.bg, .int .i64 a.flags]] w' fun e w'' => ∃ v, e = .returned v ∧ OwnCs w'' w'.heap.size v (blankRow n a) ∧ Below w'.heap.size w' w'') := Lib.hid fun n hn w' => refBlank_big n a w' (by omega)
  have HRL : Hid (∀ k, (F k).length = c) := Lib.hid fun k => by
    rw [HF.out]; split
    · exact fitRow_length _ _ _
    · exact blankRow_length c a
  have HROK : Hid (∀ k, k < R → Good (rowOf rs k)) := Lib.hid fun k hk => (h.ok k hk).2.2
  have HRLN : Hid (∀ k, k < R → (rowOf rs k).length = C) := Lib.hid fun k hk => h.rlen hk
  obtain ⟨mt, HMT⟩ : ∃ mt : Nat → List Cl, Hid (∀ k, ((Row.fitted rs r c a).take k).flatten = mt k) := ⟨_, Lib.hid fun _ => rfl⟩
  have HSM' : Hid (∀ k, (mt k).length ≤ 1600) := Lib.hid fun k => by rw [← HMT.out]; exact HSM.out k
  have HSN' : Hid (∀ k, k < r → mt (k + 1) = mt k ++ F k) := Lib.hid fun k hk => by rw [← HMT.out, ← HMT.out]; exact HSN.out k hk
  have HLA' : Hid ((Row.fitted rs r c a).flatten = mt r) := Lib.hid (by rw [← HMT.out]; exact HLA.out.symm)
  have HM0 : Hid (mt 0 = []) := Lib.hid (by rw [← HMT.out]; rfl)
  clear HSM HSN HLA HMT
  obtain ⟨l, HL⟩ : ∃ l, Hid (rs.flatten = l) := ⟨_, Lib.hid rfl⟩
  rw [HL.out] at hx HAT
  have HX := Lib.hid hx
  obtain ⟨_, A, cp, rfl, _⟩ := hx
  clear h
  have HB0 : Hid (Boxes4 w ((((w.alloc (gbox R C (.slice A l.length cp))).alloc (abox a)).alloc (gbox 0 0 (.slice none 0 0))).alloc (gbox r c (.slice none 0 0))) R C (.slice A l.length cp) a r c (.slice none 0 0) []) := Lib.hid ⟨(Boxes3.new w R C (.slice A l.length cp) a).alloc _, new_alloc _ _ _ (by simp), OwnCs.nil _ _⟩
  go_enter Tryz.func51, Tryz.ntmps51
  go_wp2_with fail
  show Code.wp _ _ _ _ ((((w.alloc (gbox R C (.slice A l.length cp))).alloc (abox a)).alloc (gbox 0 0 (.slice none 0 0))).alloc (gbox r c (.slice none 0 0)))
  generalize (((w.alloc (gbox R C (.slice A l.length cp))).alloc (abox a)).alloc (gbox 0 0 (.slice none 0 0))).alloc (gbox r c (.slice none 0 0)) = wa at HB0 ⊢
  go_loopw [10] (fun i wr => ∃ (k : Nat) (v : Value), k ≤ r ∧ i = .int .i64 k ∧ Hid (Boxes4 w wr R C (.slice A l.length cp) a r c v (mt k))) (fun i _ => r - (intOf i).toNat)
  case atStart => exact ⟨0, _, by omega, rfl, by rw [HM0.out]; exact HB0⟩
  case round =>
    obtain ⟨k, v, hk, rfl, HB⟩ := hrel
    obtain ⟨c0, c1, c2, k0, k1, k2⟩ := HB.out.three.two.cells
    obtain ⟨Av, cv, rfl⟩ := own_shape HB.out.own
    have x2 : wr.cell? ⟨w.heap.size + 1 + 1 + 1, 2, none⟩ = some (.slice Av (mt k).length cv) := Blk.cell HB.out.x 2
    have x0 : wr.cell? ⟨w.heap.size + 1 + 1 + 1, 0, none⟩ = some (.int .i64 r) := Blk.cell HB.out.x 0
    have x1 : wr.cell? ⟨w.heap.size + 1 + 1 + 1, 1, none⟩ = some (.int .i64 c) := Blk.cell HB.out.x 1
    have hszr := HB.out.size
    have hb3 : w.heap.size + 1 + 1 + 1 < wr.heap.size := by omega
    by_cases hlt : k < r
    · have HSK := Lib.hid (HSM'.out k)
      have HSNk := Lib.hid (HSN'.out k hlt)
      have HRLk := Lib.hid (HRL.out k)
      have HRMk := Lib.hid (HX.out.kept HB.out.three.two.below)
      have HFk := Lib.hid (HF.out k)
      obtain ⟨pl, hpl⟩ : ∃ q, (mt k).length = q := ⟨_, rfl⟩
      rw [hpl] at HB x2
      have hwk : IntKind.i64.wrap ((k : Int) + 1) = ((k + 1 : Nat) : Int) := by rw [IntKind.wrap_i64]; omega
      have hdk : decide ((k : Int) < (r : Int)) = true := decide_eq_true (by omega)
      by_cases hin : k < R
      · have hd1 : decide ((R : Int) ≤ (k : Int)) = false := decide_eq_false (by omega)
        rw [if_pos hin] at HFk
        have HGk := Lib.hid (HROK.out k hin)
        have HLk := Lib.hid (HRLN.out k hin)
        have HATk := Lib.hid (HAT.out k hin)
        generalize rowOf rs k = rw at HFk HGk HLk HATk
        generalize F k = fk at HSNk HRLk HFk
        clear HAT HROK HRLN HF HRL HSN' HSM'
        go_wp2_with fail
        refine (HATk.out _ HRMk.out).mono ?_; rintro e w3 ⟨v3, rfl, ho3, hb3'⟩
        have HB3 := Lib.hid (HB.out.kept hb3')
        have HBW3 : Hid (Below wr.heap.size wr w3) := Lib.hid hb3'
        rcases ho3.shape with ⟨rfl, e0⟩ | ⟨b, cap, rfl, hbb, hcc⟩
        · have := HLk.out; rw [e0] at this; simp at this; omega
        rw [HLk.out] at ho3 hcc ⊢
        by_cases hcut : c < C
        · have hdc : decide ((c : Int) < (C : Int)) = true := decide_eq_true (by omega)
          obtain ⟨q, hq⟩ : ∃ q, q = c := ⟨_, rfl⟩
          have hrun : ∀ w' : World, (Instr.slice 29 (.slice (some ⟨b, 0, none⟩) C cap) none (some (.int .i64 c)) none).run Tryz.prog w' = .ok (.slice (some ⟨b, 0, none⟩) q cap) w' := by
            rw [hq]; exact (ho3.cs.upto hcc c (by rw [HLk.out]; omega)).1
          have HMD : Hid (Calls Tryz.prog 91 #[.slice (some ⟨b, 0, none⟩) q cap] w3 fun e w' => e = .returned (.tuple #[]) ∧ OwnCs w' wr.heap.size (.slice (some ⟨b, 0, none⟩) q cap) (mendEnd (rw.take c)) ∧ Below wr.heap.size w3 w') := Lib.hid (by
            have hlt2 : (rw.take c).length = q := by rw [List.length_take, HLk.out]; omega
            have := refMend_any (rw.take c) wr.heap.size b cap w3 (by rw [hlt2, hq]; exact ho3.take c (by rw [HLk.out]; omega)) HBW3.out.size (by rw [hlt2]; omega) (begun_take HGk.out c (by rw [HLk.out]; omega))
            rwa [hlt2] at this)
          have HPL : Hid ((mendEnd (rw.take c)).length = q) := Lib.hid (by rw [mendEnd_length, List.length_take, HLk.out]; omega)
          have HFIT : Hid (fk = mendEnd (rw.take c) ++ blankRow 0 a) := Lib.hid (by rw [HFk.out]; exact fit_less (by rw [HLk.out]; omega) a)
          generalize mendEnd (rw.take c) = p at HMD HPL HFIT
          obtain ⟨n, hn⟩ : ∃ n : Nat, n = 0 := ⟨_, rfl⟩
          rw [← hn] at HFIT
          have hw : IntKind.i64.wrap ((c : Int) - (q : Int)) = (n : Int) := by rw [IntKind.wrap_i64]; omega
          have HBLn := Lib.hid (HBL.out n (by omega))
          have HQ40 : Hid (q + n ≤ 40) := Lib.hid (by omega)
          clear ho3 hb3' hq hn
          go_wp2_with fail
          refine HMD.out.mono ?_; rintro e w4 ⟨rfl, ho4, hb4⟩
          have HB4 := Lib.hid (HB.out.kept (HBW3.out.trans hb4))
          have HBW4 : Hid (Below wr.heap.size wr w4) := Lib.hid (HBW3.out.trans hb4)
          have HO4 := Lib.hid ho4
          clear ho4 hb4
          obtain ⟨d0, d1, d2, j0, j1, j2⟩ := HB4.out.three.two.cells
          clear c0 c1 c2 k0 k1 k2 x0 x1 x2
          go_wp2_with fail
          refine (HBLn.out _).mono ?_; rintro e w5 ⟨v5, rfl, ho5, hb5⟩
          have HO45 := Lib.hid (HO4.out.kept hb5)
          have HBW5 : Hid (Below wr.heap.size wr w5) := Lib.hid (HBW4.out.trans (hb5.mono HBW4.out.size))
          have HC5 := Lib.hid ho5.cs
          clear ho5 hb5 d0 d1 d2 j0 j1 j2
          go_wp2_with (at_builtin; first
            | (refine wp_append_cs rfl rfl (w.heap.size + 4) (.slice Av pl cv) (.slice A6 c c6) (mt k) fk rfl HB6.out.own rfl HO6.out.cs (by rw [HRLk.out]; have := HSK.out; omega) HB6.out.size ?_; intro v4 w4 ho4 hg4 hat4; obtain ⟨A4, c4, rfl⟩ := own_shape ho4; rw [List.length_append, HRLk.out, hpl] at ho4 ⊢; obtain ⟨hb4, s2', t2'⟩ := HB6.out.more ho4 hg4; have s2 : w4.cell? ⟨w.heap.size + 1 + 1 + 1, 2, none⟩ = some (.slice Av pl cv) := s2'; have t2 : w4.frozen? ⟨w.heap.size + 1 + 1 + 1, 2, none⟩ = false := t2'; have HB7 := Lib.hid hb4; clear ho4 hg4 hat4 hb4 s2' t2')
            | (refine wp_append_cs rfl rfl wr.heap.size _ _ p (blankRow n a) rfl HO45.out rfl HC5.out (by rw [HPL.out, blankRow_length]; have := HQ40.out; omega) HBW5.out.size ?_; intro v6 w6 ho6 hg6 hat6; have hbw6 : Below wr.heap.size wr w6 := below_cs HBW5.out hg6 HBW5.out.size HO45.out; rw [← HFIT.out] at ho6; obtain ⟨A6, c6, rfl⟩ := own_shape ho6; rw [HRLk.out] at ho6 ⊢; have HB6 := Lib.hid (HB.out.kept hbw6); have HO6 := Lib.hid ho6; have r2 : w6.cell? ⟨w.heap.size + 1 + 1 + 1, 2, none⟩ = some (.slice Av pl cv) := Blk.cell HB6.out.x 2; clear ho6 hg6 hat6 hbw6))
          have HB5 : Hid (Boxes4 w (w4.setCell ⟨w.heap.size + 3, 2, none⟩ (.slice A4 (pl + c) c4)) R C (.slice A l.length cp) a r c (.slice A4 (pl + c) c4) (mt (k + 1))) := Lib.hid (by rw [HSNk.out]; exact HB7.out)
          clear r2 s2 t2
          generalize hws : w4.setCell ⟨w.heap.size + 3, 2, none⟩ (.slice A4 (pl + c) c4) = w5 at HB5
          rw [show w.heap.size + 3 = w.heap.size + 1 + 1 + 1 from rfl] at hws
          try rw [hws]
          clear hws
          go_wp2_with fail
          go_roundw
          case rel => exact ⟨k + 1, _, hlt, rfl, HB5⟩
          case measure => simp [intOf]; omega
        · have hdc : decide ((c : Int) < (C : Int)) = false := decide_eq_false (by omega)
          obtain ⟨n, hn⟩ : ∃ n : Nat, n = c - C := ⟨_, rfl⟩
          have hw : IntKind.i64.wrap ((c : Int) - (C : Int)) = (n : Int) := by rw [IntKind.wrap_i64]; omega
          have HFIT : Hid (fk = rw ++ blankRow n a) := Lib.hid (by rw [HFk.out, fit_more (by rw [HLk.out]; omega) a, HLk.out, hn])
          have HBLn := Lib.hid (HBL.out n (by omega))
          obtain ⟨w4, HW4⟩ : ∃ w4, Hid (w4 = w3) := ⟨_, Lib.hid rfl⟩
          have HBW4 : Hid (Below wr.heap.size wr w4) := Lib.hid (by rw [HW4.out]; exact HBW3.out)
          have HB4 := Lib.hid (HB.out.kept HBW4.out)
          have HO4 : Hid (OwnCs w4 wr.heap.size (.slice (some ⟨b, 0, none⟩) C cap) rw) := Lib.hid (by rw [HW4.out]; exact ho3)
          rw [← HW4.out]
          obtain ⟨p, hp⟩ : ∃ p, p = rw := ⟨_, rfl⟩
          rw [← hp] at HO4 HFIT
          have HPL : Hid (p.length = C) := Lib.hid (by rw [hp, HLk.out])
          have HQ40 : Hid (C + n ≤ 40) := Lib.hid (by omega)
          clear ho3 hb3' hn hp
          obtain ⟨d0, d1, d2, j0, j1, j2⟩ := HB4.out.three.two.cells
          clear c0 c1 c2 k0 k1 k2 x0 x1 x2
          go_wp2_with fail
          refine (HBLn.out _).mono ?_; rintro e w5 ⟨v5, rfl, ho5, hb5⟩
          have HO45 := Lib.hid (HO4.out.kept hb5)
          have HBW5 : Hid (Below wr.heap.size wr w5) := Lib.hid (HBW4.out.trans (hb5.mono HBW4.out.size))
          have HC5 := Lib.hid ho5.cs
          clear ho5 hb5 d0 d1 d2 j0 j1 j2
          go_wp2_with (at_builtin; first
            | (refine wp_append_cs rfl rfl (w.heap.size + 4) (.slice Av pl cv) (.slice A6 c c6) (mt k) fk rfl HB6.out.own rfl HO6.out.cs (by rw [HRLk.out]; have := HSK.out; omega) HB6.out.size ?_; intro v4 w4 ho4 hg4 hat4; obtain ⟨A4, c4, rfl⟩ := own_shape ho4; rw [List.length_append, HRLk.out, hpl] at ho4 ⊢; obtain ⟨hb4, s2', t2'⟩ := HB6.out.more ho4 hg4; have s2 : w4.cell? ⟨w.heap.size + 1 + 1 + 1, 2, none⟩ = some (.slice Av pl cv) := s2'; have t2 : w4.frozen? ⟨w.heap.size + 1 + 1 + 1, 2, none⟩ = false := t2'; have HB7 := Lib.hid hb4; clear ho4 hg4 hat4 hb4 s2' t2')
            | (refine wp_append_cs rfl rfl wr.heap.size _ _ p (blankRow n a) rfl HO45.out rfl HC5.out (by rw [HPL.out, blankRow_length]; have := HQ40.out; omega) HBW5.out.size ?_; intro v6 w6 ho6 hg6 hat6; have hbw6 : Below wr.heap.size wr w6 := below_cs HBW5.out hg6 HBW5.out.size HO45.out; rw [← HFIT.out] at ho6; obtain ⟨A6, c6, rfl⟩ := own_shape ho6; rw [HRLk.out] at ho6 ⊢; have HB6 := Lib.hid (HB.out.kept hbw6); have HO6 := Lib.hid ho6; have r2 : w6.cell? ⟨w.heap.size + 1 + 1 + 1, 2, none⟩ = some (.slice Av pl cv) := Blk.cell HB6.out.x 2; clear ho6 hg6 hat6 hbw6))
          have HB5 : Hid (Boxes4 w (w4.setCell ⟨w.heap.size + 3, 2, none⟩ (.slice A4 (pl + c) c4)) R C (.slice A l.length cp) a r c (.slice A4 (pl + c) c4) (mt (k + 1))) := Lib.hid (by rw [HSNk.out]; exact HB7.out)
          clear r2 s2 t2
          generalize hws : w4.setCell ⟨w.heap.size + 3, 2, none⟩ (.slice A4 (pl + c) c4) = w5 at HB5
          rw [show w.heap.size + 3 = w.heap.size + 1 + 1 + 1 from rfl] at hws
          try rw [hws]
          clear hws
          go_wp2_with fail
          go_roundw
          case rel => exact ⟨k + 1, _, hlt, rfl, HB5⟩
          case measure => simp [intOf]; omega
      · have hd1 : decide ((R : Int) ≤ (k : Int)) = true := decide_eq_true (by omega)
        rw [if_neg hin] at HFk
        have HROW : Hid (F k = blankRow c a) := HFk
        clear HAT
        have HCAL := Lib.hid (HBL.out c (by omega) wr.drew)
        rw [HROW.out] at HSNk HRLk
        go_wp2_with fail
        go_region_law (first
          | (have h9 := HC3.out; refine step_append_cs rfl rfl (w.heap.size + 4) (.slice Av pl cv) v3 (mt k) (blankRow c a) (by simp [Act.eval]) HB3.out.own (by simp [Act.eval]) h9 (by rw [HRLk.out]; have := HSK.out; omega) (HB3.out.size) ?_; intro v4 w4 ho4 hg4 hat4; obtain ⟨A4, c4, rfl⟩ := own_shape ho4; rw [List.length_append, HRLk.out, hpl] at ho4 ⊢; obtain ⟨hb4, s2', t2'⟩ := HB3.out.more ho4 hg4; have s2 : w4.cell? ⟨w.heap.size + 1 + 1 + 1, 2, none⟩ = some (.slice Av pl cv) := s2'; have t2 : w4.frozen? ⟨w.heap.size + 1 + 1 + 1, 2, none⟩ = false := t2'; have HB4 := Lib.hid hb4; clear ho4 hg4 hat4 hb4 s2' t2')
          | (go_simp; go_at_call 80; refine HCAL.out.mono ?_; rintro e w3 ⟨v3, rfl, ho3, hb3'⟩; have hb3'' : Below wr.heap.size wr w3 := (Below.refl _ _).drew.trans hb3'; have HC3 := Lib.hid ho3.cs; have HB3 := Lib.hid (HB.out.kept hb3''); have r2 : w3.cell? ⟨w.heap.size + 1 + 1 + 1, 2, none⟩ = some (.slice Av pl cv) := Blk.cell HB3.out.x 2; clear ho3 hb3' hb3''))
        all_goals
          have HB5 : Hid (Boxes4 w (w4.setCell ⟨w.heap.size + 3, 2, none⟩ (.slice A4 (pl + c) c4)) R C (.slice A l.length cp) a r c (.slice A4 (pl + c) c4) (mt (k + 1))) := Lib.hid (by rw [HSNk.out]; exact HB4.out)
          clear c0 c1 c2 k0 k1 k2 x0 x1 x2 r2 s2 t2
          generalize hws : w4.setCell ⟨w.heap.size + 3, 2, none⟩ (.slice A4 (pl + c) c4) = w5 at HB5
          rw [show w.heap.size + 3 = w.heap.size + 1 + 1 + 1 from rfl] at hws
          try rw [hws]
          clear hws
          go_wp2_with fail
          go_roundw
          case rel => exact ⟨k + 1, _, hlt, rfl, HB5⟩
          case measure => simp [intOf]; omega
    · have hkr : k = r := by omega
      subst hkr
      rw [← HLA'.out] at HB x2
      have hd : decide ((k : Int) < (k : Int)) = false := decide_eq_false (by omega)
      obtain ⟨res, HRE⟩ : ∃ q, Hid ((Row.fitted rs k c a).flatten = q) := ⟨_, Lib.hid rfl⟩
      rw [HRE.out] at HB x2
      obtain ⟨z0, z1, z2, y0, y1, y2⟩ := gzero HB.out.three.z
      have HF := Lib.hid (gput_box HB.out.three.z k c (.slice Av res.length cv))
      have HO8 : Hid (OwnCs (gput wr (w.heap.size + 2) k c (.slice Av res.length cv)) (w.heap.size + 4) (.slice Av res.length cv) res) := Lib.hid (gput_own HB.out.own (by omega) _ _ _)
      have HB8 : Hid (Below w.heap.size w (gput wr (w.heap.size + 2) k c (.slice Av res.length cv))) := Lib.hid (gput_below HB.out.three.two.below (by omega) _ _ _)
      go_wp2_with fail
      show bodyPost _ _ _ _ _ (gput wr (w.heap.size + 2) k c (.slice Av res.length cv))
      clear z0 z1 z2 y0 y1 y2
      generalize gput wr (w.heap.size + 2) k c (.slice Av res.length cv) = wF at HF HO8 HB8 ⊢
      have z0 : wF.cell? ⟨w.heap.size + 1 + 1, 0, none⟩ = some (.int .i64 k) := Blk.cell HF.out 0
      have z1 : wF.cell? ⟨w.heap.size + 1 + 1, 1, none⟩ = some (.int .i64 c) := Blk.cell HF.out 1
      have z2 : wF.cell? ⟨w.heap.size + 1 + 1, 2, none⟩ = some (.slice Av res.length cv) := Blk.cell HF.out 2
      exact bodyPost_ret (v := .agg #[.int .i64 k, .int .i64 c, .slice Av res.length cv]) (by simp [results, Tryz.results51, go_sem, z0, z1, z2]) rfl ⟨_, rfl, by rw [HRE.out]; exact HO8.out.low (by omega), HB8.out⟩
end Row
end Go.Proofs.YtmilpdhnblmflaaGreatDoor
end
