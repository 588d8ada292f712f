/- Joined texts: PatRefD, PatRefP. -/
import Derived.Test.YtjcfbeiljdohcaaGreatDoorJB32
namespace Go.Proofs.YtjcfbeiljdohcaaGreatDoor
set_option maxRecDepth 100000
section
open Go.RowKit
namespace Pat
open Go.Proofs.YtjcfbeiljdohcaaGreatDoor.Row Go.Proofs.YtjcfbeiljdohcaaGreatDoor.Scr Agb
theorem psize_any (r c : Int) (w : World) : Calls Tryz.prog 49 #[.int .i64 r, .int .i64 c] w fun e w' => e = .returned (.bool (Row.rng r 1 40 && Row.rng c 1 40)) ∧ w = w' := by
  have H1 := Lib.hid (fun W => btw_at r 1 40 (Row.rng r 1 40) rfl W)
  have H2 := Lib.hid (fun W => btw_at c 1 40 (Row.rng c 1 40) rfl W)
  generalize Row.rng r 1 40 = a at H1 ⊢
  generalize Row.rng c 1 40 = b at H2 ⊢
  cases a with
  | false =>
    go_enter Tryz.func49, Tryz.ntmps49
    go_wp2_with fail
    refine (H1.out _).mono ?_; rintro e w' ⟨rfl, rfl⟩
    go_wp2_with fail
    go_ret
    exact ⟨rfl, rfl⟩
  | true =>
    go_enter Tryz.func49, Tryz.ntmps49
    go_wp2_with fail
    refine (H1.out _).mono ?_; rintro e w' ⟨rfl, rfl⟩
    go_wp2_with fail
    refine (H2.out _).mono ?_; rintro e w' ⟨rfl, rfl⟩
    go_wp2_with fail
    go_ret
    exact ⟨ret_bool2 (by simp), rfl⟩
theorem rise_all (R : Int) : ∀ (l : List Int) (lo : Int), riseB R lo l = true ↔ ∀ j, j < l.length → lo ≤ l.getD j 0 ∧ l.getD j 0 < R ∧ (0 < j → l.getD (j - 1) 0 < l.getD j 0)
  | [], lo => ⟨fun _ j h => absurd h (by simp), fun _ => rfl⟩
  | i :: l, lo => by
    have ih := rise_all R l (i + 1)
    unfold riseB
    rw [Bool.and_eq_true, Bool.and_eq_true, decide_eq_true_eq, decide_eq_true_eq, ih]
    constructor
    · rintro ⟨h1, h2, h3⟩ j hj
      match j with
      | 0 => exact ⟨h1, h2, fun h => absurd h (by omega)⟩
      | 1 =>
        have := h3 0 (by simpa using hj)
        exact ⟨by show lo ≤ l.getD 0 0; omega, this.2.1, fun _ => by show i < l.getD 0 0; omega⟩
      | j + 2 =>
        have h4 := h3 (j + 1) (by rw [List.length_cons] at hj; omega)
        exact ⟨by show lo ≤ l.getD (j + 1) 0; omega, h4.2.1, fun _ => h4.2.2 (by omega)⟩
    · intro h
      have h0 := h 0 (by simp)
      refine ⟨h0.1, h0.2.1, fun j => ?_⟩
      induction j with
      | zero =>
        intro hj
        have h1 := h 1 (by simpa using hj)
        have h2 : i < l.getD 0 0 := h1.2.2 (by omega)
        exact ⟨by omega, h1.2.1, fun q => absurd q (by omega)⟩
      | succ j hi =>
        intro hj
        have h1 := h (j + 2) (by rw [List.length_cons]; omega)
        have h2 : l.getD j 0 < l.getD (j + 1) 0 := h1.2.2 (by omega)
        have h3 := hi (by omega)
        exact ⟨by omega, h1.2.1, fun _ => h2⟩
noncomputable def restB (R C : Nat) (f : Bool) (nn : List Int) (l : List Cl) (h : Nat) : Bool :=
  (!f || decide (nn.length = 0)) && (decide (h ≤ R) && (decide (l.length = h * C) && (riseB R 0 nn && (List.range h).all fun i => rowB (Row.rowAt l C i))))
theorem rest_all {R C : Nat} {f : Bool} {nn : List Int} {l : List Cl} {h : Nat} : restB R C f nn l h = true ↔ (f = true → nn.length = 0) ∧ h ≤ R ∧ l.length = h * C ∧
    (∀ j, j < nn.length → 0 ≤ nn.getD j 0 ∧ nn.getD j 0 < R ∧ (0 < j → nn.getD (j - 1) 0 < nn.getD j 0)) ∧ ∀ j, j < h → RowOk (Row.rowAt l C j) := by
  unfold restB
  rw [Bool.and_eq_true, Bool.and_eq_true, Bool.and_eq_true, Bool.and_eq_true, Bool.or_eq_true, decide_eq_true_eq, decide_eq_true_eq, decide_eq_true_eq, rise_all, List.all_eq_true]
  constructor
  · rintro ⟨h1, h2, h3, h4, h5⟩
    refine ⟨fun q => ?_, h2, h3, h4, fun j hj => rowB_iff.1 (h5 j (List.mem_range.2 hj))⟩
    rcases h1 with h1 | h1
    · rw [q] at h1; cases h1
    · exact h1
  · rintro ⟨h1, h2, h3, h4, h5⟩
    refine ⟨?_, h2, h3, h4, fun j hj => rowB_iff.2 (h5 j (List.mem_range.1 hj))⟩
    cases f
    · exact .inl rfl
    · exact .inr (h1 rfl)
set_option maxHeartbeats 64000000 in
theorem refPatch_t (R C p q m : Int) (f : Bool) (T : ByteArray) (nn : List Int) (l : List Cl) (Au Ay : Option Addr) (cu cy : Nat) (bS bP bQ bM bT bR : Bool) (w : World)
    (hu : Sl w (.slice Au nn.length cu) nn) (hy : Rm w (.slice Ay l.length cy) l) (hs : Short l) (hT : Tabs w) (hn : nn.length ≤ 1000000)
    (hS : (Row.rng R 1 40 && Row.rng C 1 40) = bS) (hP : Row.rng p 0 (R - 1) = bP) (hQ : Row.rng q 0 (C - 1) = bQ) (hM : Row.rng m 0 1023 = bM)
    (HT : Hid (TellsB 31 #[.string T] bT w)) (hR : ∀ R' C' : Nat, R = R' → C = C' → restB R' C' f nn l (if f = true then R' else nn.length) = bR) :
    Calls Tryz.prog 20 #[.agg #[.int .i64 R, .int .i64 C, .bool f, .slice Au nn.length cu, .slice Ay l.length cy, .int .i64 p, .int .i64 q, .int .i64 m, .string T]] w fun e w' => e = .returned (.bool (bS && (bP && (bQ && (bM && (bT && bR)))))) ∧ Below w.heap.size w w' := by
  have HB := Lib.hid ((Below.refl w.heap.size w).alloc (Nat.le_refl _) (.cells #[.int .i64 R, .int .i64 C, .bool f, .slice Au nn.length cu, .slice Ay l.length cy, .int .i64 p, .int .i64 q, .int .i64 m, .string T] 36))
  have HX := Lib.hid (new_alloc w (.cells #[.int .i64 R, .int .i64 C, .bool f, .slice Au nn.length cu, .slice Ay l.length cy, .int .i64 p, .int .i64 q, .int .i64 m, .string T] 36) _ rfl)
  have HSZ : Hid (TellsP 49 #[.int .i64 R, .int .i64 C] bS) := Lib.hid (by rw [← hS]; exact psize_any R C)
  have HP : Hid (TellsP 30 #[.int .i64 p, .int .i64 (R - 1)] bP) := Lib.hid (by rw [← hP]; exact pnum_any _ _)
  have HQ : Hid (TellsP 30 #[.int .i64 q, .int .i64 (C - 1)] bQ) := Lib.hid (by rw [← hQ]; exact pnum_any _ _)
  have HM : Hid (TellsP 30 #[.int .i64 m, .int .i64 1023] bM) := Lib.hid (by rw [← hM]; exact pnum_any _ _)
  have HSB : Hid (bS = true → (1 ≤ R ∧ R ≤ 40) ∧ (1 ≤ C ∧ C ≤ 40)) := Lib.hid fun h => by
    rw [h, Bool.and_eq_true] at hS
    exact ⟨rng_yes.1 hS.1, rng_yes.1 hS.2⟩
  have HR := Lib.hid hR
  have HU := Lib.hid hu
  have HY := Lib.hid hy
  have HSH := Lib.hid hs
  have HTB := Lib.hid hT
  clear hS hP hQ hM hR hu hy hs hT
  cases bS with
  | false =>
    go_enter Tryz.func20, Tryz.ntmps20
    go_wp2_with fail
    refine (HSZ.out _).mono ?_; rintro e w1 ⟨rfl, rfl⟩
    go_wp2_with fail
    go_ret
    exact ⟨rfl, HB.out⟩
  | true =>
    have hRC := HSB.out rfl
    obtain ⟨R, rfl⟩ := Int.eq_ofNat_of_zero_le (show 0 ≤ R by omega)
    obtain ⟨C, rfl⟩ := Int.eq_ofNat_of_zero_le (show 0 ≤ C by omega)
    have HRE := Lib.hid (HR.out R C rfl rfl)
    have HC40 : Hid (C ≤ 40 ∧ R ≤ 40) := Lib.hid (by omega)
    clear HR
    have hw1 : IntKind.i64.wrap (R - 1) = R - 1 := by rw [IntKind.wrap_i64]; omega
    have hw2 : IntKind.i64.wrap (C - 1) = C - 1 := by rw [IntKind.wrap_i64]; omega
    go_enter Tryz.func20, Tryz.ntmps20
    go_wp2_with fail
    refine (HSZ.out _).mono ?_; rintro e w1 ⟨rfl, rfl⟩
    go_wp2_with fail
    refine (HP.out _).mono ?_; rintro e w1 ⟨rfl, rfl⟩
    cases bP with
    | false =>
      go_wp2_with fail
      go_ret
      exact ⟨rfl, HB.out⟩
    | true =>
      go_wp2_with fail
      refine (HQ.out _).mono ?_; rintro e w1 ⟨rfl, rfl⟩
      cases bQ with
      | false =>
        go_wp2_with fail
        go_ret
        exact ⟨rfl, HB.out⟩
      | true =>
        go_wp2_with fail
        refine (HM.out _).mono ?_; rintro e w1 ⟨rfl, rfl⟩
        cases bM with
        | false =>
          go_wp2_with fail
          go_ret
          exact ⟨rfl, HB.out⟩
        | true =>
          go_wp2_with fail
          refine (HT.out _ HB.out).mono ?_; rintro e w2 ⟨rfl, hb⟩
          have HB2 := Lib.hid (HB.out.trans (hb.mono HB.out.size))
          have HX2 := Lib.hid (Blk.kept HX.out hb)
          clear hb HB HX HSZ HP HQ HM HT HSB
          cases bT with
          | false =>
            go_wp2_with fail
            go_ret
            exact ⟨rfl, HB2.out⟩
          | true =>
            cases f with
            | false =>
              have HRR : Hid (restB R C false nn l nn.length = bR) := HRE
              have HFN : Hid (false = true → nn.length = 0) := Lib.hid fun h => by cases h
              by_cases h1 : nn.length ≤ R
              · have hd1 : decide ((R : Int) < (nn.length : Int)) = false := decide_eq_false (by omega)
                obtain ⟨pn, hpn⟩ : ∃ x, nn.length * C = x := ⟨_, rfl⟩
                have hpb : nn.length * C ≤ 40 * 40 := Nat.mul_le_mul (by omega) (by omega)
                have hw3 : IntKind.i64.wrap ((nn.length : Int) * (C : Int)) = (pn : Int) := by rw [← Int.natCast_mul, hpn, IntKind.wrap_i64]; omega
                have HPN := Lib.hid hpn
                clear hpn hpb
                by_cases h2 : l.length = pn
                · have hd2 : ((l.length : Int) != (pn : Int)) = false := by rw [bne_eq_false_iff_eq]; omega
                  have HH1 := Lib.hid h1
                  have HH2 := Lib.hid h2
                  clear h1 h2
                  have hnd : decide (R < nn.length) = false := decide_eq_false (by have := HH1.out; omega)
                  have hnp : ¬ R < nn.length := by have := HH1.out; omega
                  have x0 : w2.cell? ⟨w.heap.size, 0, none⟩ = some (.int .i64 R) := Blk.cell HX2.out 0
                  have x1 : w2.cell? ⟨w.heap.size, 1, none⟩ = some (.int .i64 C) := Blk.cell HX2.out 1
                  have x2 : w2.cell? ⟨w.heap.size, 2, none⟩ = some (.bool false) := Blk.cell HX2.out 2
                  have x3 : w2.cell? ⟨w.heap.size, 3, none⟩ = some (.slice Au nn.length cu) := Blk.cell HX2.out 3
                  have x4 : w2.cell? ⟨w.heap.size, 4, none⟩ = some (.slice Ay l.length cy) := Blk.cell HX2.out 4
                  go_wp2_with fail
                  clear x0 x1 x2 x3 x4 hd1 hd2 hw3
                  go_loopw [4] (fun i wr => ∃ k : Nat, k ≤ nn.length ∧ i = .int .i64 k ∧ Hid (∀ j, j < k → 0 ≤ nn.getD j 0 ∧ nn.getD j 0 < R ∧ (0 < j → nn.getD (j - 1) 0 < nn.getD j 0)) ∧ Hid (Below w2.heap.size w2 wr)) (fun i _ => nn.length - (intOf i).toNat)
                  case atStart => exact ⟨0, by omega, rfl, Lib.hid fun j hj => absurd hj (by omega), Lib.hid (Below.refl _ _)⟩
                  case round =>
                    obtain ⟨k, hk, rfl, HAL, HBL⟩ := hrel
                    have HBW := Lib.hid (HB2.out.trans (HBL.out.mono HB2.out.size))
                    have hX := Blk.kept HX2.out HBL.out
                    have x0 : wr.cell? ⟨w.heap.size, 0, none⟩ = some (.int .i64 R) := Blk.cell hX 0
                    have x1 : wr.cell? ⟨w.heap.size, 1, none⟩ = some (.int .i64 C) := Blk.cell hX 1
                    have x3 : wr.cell? ⟨w.heap.size, 3, none⟩ = some (.slice Au nn.length cu) := Blk.cell hX 3
                    have x4 : wr.cell? ⟨w.heap.size, 4, none⟩ = some (.slice Ay l.length cy) := Blk.cell hX 4
                    clear hX
                    by_cases hlt : k < nn.length
                    · obtain ⟨an, rfl, hE⟩ := HU.out.get k hlt
                      have hE := cell_kept HBW.out hE
                      have HNM := Lib.hid (fun W => pnum_any (nn.getD k 0) ((R : Int) - 1) W)
                      obtain ⟨b, hb⟩ : ∃ b, Row.rng (nn.getD k 0) 0 ((R : Int) - 1) = b := ⟨_, rfl⟩
                      rw [hb] at HNM
                      have HBB := Lib.hid hb
                      clear hb x4
                      cases b with
                      | false =>
                        have HF : Hid (bR = false) := Lib.hid (by
                          rw [← HRR.out]
                          cases z : restB R C false nn l nn.length
                          · first | rfl | exact z
                          · have h3 := (rest_all.1 z).2.2.2.1 k hlt
                            exact absurd ⟨h3.1, by omega⟩ (rng_no.1 HBB.out))
                        generalize nn.getD k 0 = vk at hE HNM
                        go_wp2_with fail
                        go_quiet ((go_at_call 30; exact (HNM.out _).mono fun e w2 k => ⟨k.1, _, k.2.symm⟩))
                        go_wp2_with fail
                        go_ret
                        exact ⟨ret_bool2 (by rw [HF.out]; rfl), below_drewN HBW.out _⟩
                      | true =>
                        have hvr := rng_yes.1 HBB.out
                        by_cases hk0 : k = 0
                        · subst hk0
                          have HAN : Hid (∀ j, j < 0 + 1 → 0 ≤ nn.getD j 0 ∧ nn.getD j 0 < R ∧ (0 < j → nn.getD (j - 1) 0 < nn.getD j 0)) := Lib.hid fun j hj => by
                            obtain rfl : j = 0 := by omega
                            exact ⟨hvr.1, by omega, fun h => absurd h (by omega)⟩
                          clear hvr
                          rw [show an.add 0 = an by simp [Addr.add]] at hE
                          generalize nn.getD 0 0 = vk at hE HNM
                          go_wp2_with fail
                          go_quiet ((go_at_call 30; exact (HNM.out _).mono fun e w2 k => ⟨k.1, _, k.2.symm⟩))
                          go_wp2_with fail
                          go_roundw
                          case rel => exact ⟨0 + 1, by omega, by go_num, HAN, Lib.hid (below_drewN HBL.out _)⟩
                          case measure => simp [intOf]; omega
                        · obtain ⟨k', hk'⟩ : ∃ k', k' + 1 = k := ⟨k - 1, by omega⟩
                          obtain ⟨an2, e2, hE2⟩ := HU.out.get k' (by omega)
                          injection e2 with e2
                          subst e2
                          have hE2 := cell_kept HBW.out hE2
                          have hwk : IntKind.i64.wrap ((k : Int) - 1) = (k' : Int) := by rw [IntKind.wrap_i64]; omega
                          have hwk2 : wrap64 ((k : Int) - 1) = (k' : Int) := by unfold wrap64; omega
                          have hkz : ((k : Int) - 1) = (k' : Int) := by omega
                          have hk0p : 0 < k := by omega
                          have hkp : k' < nn.length := by omega
                          have hg0 : decide (0 < (k : Int)) = true := decide_eq_true (by omega)
                          have hkm : k - 1 = k' := by omega
                          by_cases hge : nn.getD k 0 ≤ nn.getD k' 0
                          · have HF : Hid (bR = false) := Lib.hid (by
                              rw [← HRR.out]
                              cases z : restB R C false nn l nn.length
                              · first | rfl | exact z
                              · have h3 := ((rest_all.1 z).2.2.2.1 k hlt).2.2 (by omega)
                                rw [hkm] at h3
                                omega)
                            clear hvr hkm hk' HAL hk0
                            generalize nn.getD k 0 = vk at hE HNM hge
                            generalize nn.getD k' 0 = vj at hE2 hge
                            go_wp2_with fail
                            go_quiet ((go_at_call 30; exact (HNM.out _).mono fun e w2 k => ⟨k.1, _, k.2.symm⟩))
                            go_wp2_with fail
                            go_ret
                            exact ⟨ret_bool2 (by rw [HF.out]; rfl), below_drewN HBW.out _⟩
                          · have HAN : Hid (∀ j, j < k + 1 → 0 ≤ nn.getD j 0 ∧ nn.getD j 0 < R ∧ (0 < j → nn.getD (j - 1) 0 < nn.getD j 0)) := Lib.hid fun j hj => by
                              by_cases e : j = k
                              · rw [e, hkm]; exact ⟨hvr.1, by omega, fun _ => by omega⟩
                              · exact HAL.out j (by omega)
                            clear hvr hkm hk' HAL hk0
                            have hge2 : decide (nn.getD k 0 ≤ nn.getD k' 0) = false := decide_eq_false hge
                            generalize nn.getD k 0 = vk at hE HNM hge hge2
                            generalize nn.getD k' 0 = vj at hE2 hge hge2
                            go_wp2_with fail
                            go_quiet ((go_at_call 30; exact (HNM.out _).mono fun e w2 k => ⟨k.1, _, k.2.symm⟩))
                            go_wp2_with fail
                            go_roundw
                            case rel => exact ⟨k + 1, by omega, by go_num, HAN, Lib.hid (below_drewN HBL.out _)⟩
                            case measure => simp [intOf]; omega
                    · have HALL : Hid (∀ j, j < nn.length → 0 ≤ nn.getD j 0 ∧ nn.getD j 0 < R ∧ (0 < j → nn.getD (j - 1) 0 < nn.getD j 0)) := Lib.hid fun j hj => HAL.out j (by omega)
                      have hX3 := Lib.hid (Blk.kept HX2.out HBL.out)
                      clear HAL HBL
                      go_wp2_with fail
                      clear x0 x1 x3 x4
                      obtain ⟨w3, hw3e⟩ : ∃ w3, w3 = wr := ⟨_, rfl⟩
                      subst hw3e
                      go_loopw [5] (fun i wr => ∃ k : Nat, k ≤ nn.length ∧ i = .int .i64 k ∧ Hid (∀ j, j < k → RowOk (Row.rowAt l C j)) ∧ Hid (Below w3.heap.size w3 wr)) (fun i _ => nn.length - (intOf i).toNat)
                      case atStart => exact ⟨0, by omega, rfl, Lib.hid fun j hj => absurd hj (by omega), Lib.hid (Below.refl _ _)⟩
                      case round =>
                        obtain ⟨k, hk, rfl, HAL, HBL⟩ := hrel
                        have HBV := Lib.hid (HBW.out.trans (HBL.out.mono HBW.out.size))
                        have hX := Blk.kept hX3.out HBL.out
                        have x1 : wr.cell? ⟨w.heap.size, 1, none⟩ = some (.int .i64 C) := Blk.cell hX 1
                        have x4 : wr.cell? ⟨w.heap.size, 4, none⟩ = some (.slice Ay l.length cy) := Blk.cell hX 4
                        clear hX
                        by_cases hlt : k < nn.length
                        · have hc := HC40.out
                          have hi1 : (k + 1) * C ≤ l.length := by rw [HH2.out, ← HPN.out]; exact Nat.mul_le_mul_right _ hlt
                          have hsm : (k + 1) * C ≤ 40 * 40 := Nat.mul_le_mul (by have := HH1.out; omega) hc.1
                          obtain ⟨A', c', hs, hm⟩ := HY.out.row C k hi1 _ _ rfl rfl
                          have hrl : (Row.rowAt l C k).length ≤ 1000000 := by unfold Row.rowAt; rw [List.length_take]; omega
                          have hsh : Short (Row.rowAt l C k) := fun j hj => by
                            have e : g (Row.rowAt l C k) j = g l (k * C + j) := by
                              unfold Row.rowAt at hj ⊢
                              rw [List.length_take] at hj
                              rw [g_take (by omega), g_drop]
                            rw [e]
                            refine HSH.out _ ?_
                            unfold Row.rowAt at hj
                            rw [List.length_take, List.length_drop] at hj
                            omega
                          obtain ⟨i1, hi1'⟩ : ∃ q, k + 1 = q := ⟨_, rfl⟩
                          have hle : k * C ≤ i1 * C := Nat.mul_le_mul_right _ (by omega)
                          rw [hi1'] at hs hi1 hsm
                          obtain ⟨pk, hpk⟩ : ∃ q, k * C = q := ⟨_, rfl⟩
                          obtain ⟨qk, hqk⟩ : ∃ q, i1 * C = q := ⟨_, rfl⟩
                          have y1 : IntKind.i64.wrap ((k : Int) + 1) = (i1 : Int) := by rw [IntKind.wrap_i64]; omega
                          have y2 : IntKind.i64.wrap ((k : Int) * (C : Int)) = (pk : Int) := by rw [← Int.natCast_mul, hpk, IntKind.wrap_i64]; omega
                          have y3 : IntKind.i64.wrap ((i1 : Int) * (C : Int)) = (qk : Int) := by rw [← Int.natCast_mul, hqk, IntKind.wrap_i64]; omega
                          rw [hpk, hqk] at hs
                          have HI1 := Lib.hid hi1'
                          have HMK := Lib.hid hm
                          clear hpk hqk hi1 hi1' hm hsm hle hc
                          by_cases hok : RowOk (Row.rowAt l C k)
                          · have HCALL := Lib.hid (refRow_any (Row.rowAt l C k) true _ _ (HMK.out.kept HBV.out).cs hsh (HTB.out.kept HBV.out) hrl ⟨fun _ => hok, fun _ => rfl⟩)
                            have HAN : Hid (∀ j, j < k + 1 → RowOk (Row.rowAt l C j)) := Lib.hid fun j hj => by
                              by_cases e : j = k
                              · rw [e]; exact hok
                              · exact HAL.out j (by omega)
                            clear hok hsh hrl HAL HMK
                            go_wp2_with fail
                            refine HCALL.out.mono ?_; rintro e w5 ⟨rfl, hb⟩
                            have HB5 := Lib.hid (HBL.out.trans (hb.mono HBL.out.size))
                            clear hb
                            go_wp2_with fail
                            go_roundw
                            case rel => exact ⟨i1, by have := HI1.out; omega, rfl, by rw [← HI1.out]; exact HAN, HB5⟩
                            case measure => have := HI1.out; simp [intOf]; omega
                          · have HCALL := Lib.hid (refRow_any (Row.rowAt l C k) false _ _ (HMK.out.kept HBV.out).cs hsh (HTB.out.kept HBV.out) hrl ⟨fun h => (by cases h), fun h => absurd h hok⟩)
                            have HF : Hid (bR = false) := Lib.hid (by
                              rw [← HRR.out]
                              cases z : restB R C false nn l nn.length
                              · first | rfl | exact z
                              · exact absurd ((rest_all.1 z).2.2.2.2 k hlt) hok)
                            clear hok hsh hrl HAL HMK
                            go_wp2_with fail
                            refine HCALL.out.mono ?_; rintro e w5 ⟨rfl, hb⟩
                            have HB5 := Lib.hid (HBV.out.trans (hb.mono HBV.out.size))
                            clear hb
                            go_wp2_with fail
                            go_ret
                            exact ⟨ret_bool2 (by rw [HF.out]; rfl), HB5.out⟩
                        · have HF : Hid (bR = true) := Lib.hid (by
                            rw [← HRR.out]
                            refine rest_all.2 ⟨HFN.out, HH1.out, by rw [HH2.out, HPN.out], HALL.out, fun j hj => HAL.out j (by omega)⟩)
                          clear HAL HALL
                          go_wp2_with fail
                          go_ret
                          exact ⟨ret_bool2 (by rw [HF.out]; rfl), HBV.out⟩
                · have hd2 : ((l.length : Int) != (pn : Int)) = true := by rw [bne_iff_ne]; omega
                  have HF : Hid (bR = false) := Lib.hid (by
                    rw [← HRR.out]
                    cases z : restB R C false nn l nn.length
                    · first | rfl | exact z
                    · exact absurd ((rest_all.1 z).2.2.1.trans HPN.out) h2)
                  have x0 : w2.cell? ⟨w.heap.size, 0, none⟩ = some (.int .i64 R) := Blk.cell HX2.out 0
                  have x1 : w2.cell? ⟨w.heap.size, 1, none⟩ = some (.int .i64 C) := Blk.cell HX2.out 1
                  have x2 : w2.cell? ⟨w.heap.size, 2, none⟩ = some (.bool false) := Blk.cell HX2.out 2
                  have x3 : w2.cell? ⟨w.heap.size, 3, none⟩ = some (.slice Au nn.length cu) := Blk.cell HX2.out 3
                  have x4 : w2.cell? ⟨w.heap.size, 4, none⟩ = some (.slice Ay l.length cy) := Blk.cell HX2.out 4
                  clear h2
                  go_wp2_with fail
                  go_ret
                  exact ⟨ret_bool2 (by rw [HF.out]; rfl), HB2.out⟩
              · have hd1 : decide ((R : Int) < (nn.length : Int)) = true := decide_eq_true (by omega)
                have HF : Hid (bR = false) := Lib.hid (by
                  rw [← HRR.out]
                  cases z : restB R C false nn l nn.length
                  · first | rfl | exact z
                  · exact absurd (rest_all.1 z).2.1 h1)
                have x0 : w2.cell? ⟨w.heap.size, 0, none⟩ = some (.int .i64 R) := Blk.cell HX2.out 0
                have x2 : w2.cell? ⟨w.heap.size, 2, none⟩ = some (.bool false) := Blk.cell HX2.out 2
                have x3 : w2.cell? ⟨w.heap.size, 3, none⟩ = some (.slice Au nn.length cu) := Blk.cell HX2.out 3
                have hrn : R < nn.length := by omega
                have hrd : decide (R < nn.length) = true := decide_eq_true hrn
                clear h1
                go_wp2_with fail
                go_ret
                exact ⟨ret_bool2 (by rw [HF.out]; rfl), HB2.out⟩
            | true =>
              have HRR : Hid (restB R C true nn l R = bR) := HRE
              by_cases hn0 : nn.length = 0
              · have HFN : Hid (nn.length = 0) := Lib.hid hn0
                have hdn : decide (0 < (nn.length : Int)) = false := decide_eq_false (by omega)
                have hnz : ¬ 0 < nn.length := by omega
                have hnzd : decide (0 < nn.length) = false := decide_eq_false hnz
                clear hn0
                by_cases h1 : R ≤ R
                · have hd1 : decide ((R : Int) < (R : Int)) = false := decide_eq_false (by omega)
                  obtain ⟨pn, hpn⟩ : ∃ x, R * C = x := ⟨_, rfl⟩
                  have hpb : R * C ≤ 40 * 40 := Nat.mul_le_mul (by omega) (by omega)
                  have hw3 : IntKind.i64.wrap ((R : Int) * (C : Int)) = (pn : Int) := by rw [← Int.natCast_mul, hpn, IntKind.wrap_i64]; omega
                  have HPN := Lib.hid hpn
                  clear hpn hpb
                  by_cases h2 : l.length = pn
                  · have hd2 : ((l.length : Int) != (pn : Int)) = false := by rw [bne_eq_false_iff_eq]; omega
                    have HH1 := Lib.hid h1
                    have HH2 := Lib.hid h2
                    clear h1 h2
                    have hnd : decide (R < R) = false := decide_eq_false (by have := HH1.out; omega)
                    have hnp : ¬ R < R := by have := HH1.out; omega
                    have x0 : w2.cell? ⟨w.heap.size, 0, none⟩ = some (.int .i64 R) := Blk.cell HX2.out 0
                    have x1 : w2.cell? ⟨w.heap.size, 1, none⟩ = some (.int .i64 C) := Blk.cell HX2.out 1
                    have x2 : w2.cell? ⟨w.heap.size, 2, none⟩ = some (.bool true) := Blk.cell HX2.out 2
                    have x3 : w2.cell? ⟨w.heap.size, 3, none⟩ = some (.slice Au nn.length cu) := Blk.cell HX2.out 3
                    have x4 : w2.cell? ⟨w.heap.size, 4, none⟩ = some (.slice Ay l.length cy) := Blk.cell HX2.out 4
                    go_wp2_with fail
                    clear x0 x1 x2 x3 x4 hd1 hd2 hw3
                    go_loopw [4] (fun i wr => ∃ k : Nat, k ≤ nn.length ∧ i = .int .i64 k ∧ Hid (∀ j, j < k → 0 ≤ nn.getD j 0 ∧ nn.getD j 0 < R ∧ (0 < j → nn.getD (j - 1) 0 < nn.getD j 0)) ∧ Hid (Below w2.heap.size w2 wr)) (fun i _ => nn.length - (intOf i).toNat)
                    case atStart => exact ⟨0, by omega, rfl, Lib.hid fun j hj => absurd hj (by omega), Lib.hid (Below.refl _ _)⟩
                    case round =>
                      obtain ⟨k, hk, rfl, HAL, HBL⟩ := hrel
                      have HBW := Lib.hid (HB2.out.trans (HBL.out.mono HB2.out.size))
                      have hX := Blk.kept HX2.out HBL.out
                      have x0 : wr.cell? ⟨w.heap.size, 0, none⟩ = some (.int .i64 R) := Blk.cell hX 0
                      have x1 : wr.cell? ⟨w.heap.size, 1, none⟩ = some (.int .i64 C) := Blk.cell hX 1
                      have x3 : wr.cell? ⟨w.heap.size, 3, none⟩ = some (.slice Au nn.length cu) := Blk.cell hX 3
                      have x4 : wr.cell? ⟨w.heap.size, 4, none⟩ = some (.slice Ay l.length cy) := Blk.cell hX 4
                      clear hX
                      by_cases hlt : k < nn.length
                      · exact absurd hlt (by have := HFN.out; omega)
                      · have HALL : Hid (∀ j, j < nn.length → 0 ≤ nn.getD j 0 ∧ nn.getD j 0 < R ∧ (0 < j → nn.getD (j - 1) 0 < nn.getD j 0)) := Lib.hid fun j hj => HAL.out j (by omega)
                        have hX3 := Lib.hid (Blk.kept HX2.out HBL.out)
                        clear HAL HBL
                        go_wp2_with fail
                        clear x0 x1 x3 x4
                        obtain ⟨w3, hw3e⟩ : ∃ w3, w3 = wr := ⟨_, rfl⟩
                        subst hw3e
                        go_loopw [5] (fun i wr => ∃ k : Nat, k ≤ R ∧ i = .int .i64 k ∧ Hid (∀ j, j < k → RowOk (Row.rowAt l C j)) ∧ Hid (Below w3.heap.size w3 wr)) (fun i _ => R - (intOf i).toNat)
                        case atStart => exact ⟨0, by omega, rfl, Lib.hid fun j hj => absurd hj (by omega), Lib.hid (Below.refl _ _)⟩
                        case round =>
                          obtain ⟨k, hk, rfl, HAL, HBL⟩ := hrel
                          have HBV := Lib.hid (HBW.out.trans (HBL.out.mono HBW.out.size))
                          have hX := Blk.kept hX3.out HBL.out
                          have x1 : wr.cell? ⟨w.heap.size, 1, none⟩ = some (.int .i64 C) := Blk.cell hX 1
                          have x4 : wr.cell? ⟨w.heap.size, 4, none⟩ = some (.slice Ay l.length cy) := Blk.cell hX 4
                          clear hX
                          by_cases hlt : k < R
                          · have hc := HC40.out
                            have hi1 : (k + 1) * C ≤ l.length := by rw [HH2.out, ← HPN.out]; exact Nat.mul_le_mul_right _ hlt
                            have hsm : (k + 1) * C ≤ 40 * 40 := Nat.mul_le_mul (by have := HH1.out; omega) hc.1
                            obtain ⟨A', c', hs, hm⟩ := HY.out.row C k hi1 _ _ rfl rfl
                            have hrl : (Row.rowAt l C k).length ≤ 1000000 := by unfold Row.rowAt; rw [List.length_take]; omega
                            have hsh : Short (Row.rowAt l C k) := fun j hj => by
                              have e : g (Row.rowAt l C k) j = g l (k * C + j) := by
                                unfold Row.rowAt at hj ⊢
                                rw [List.length_take] at hj
                                rw [g_take (by omega), g_drop]
                              rw [e]
                              refine HSH.out _ ?_
                              unfold Row.rowAt at hj
                              rw [List.length_take, List.length_drop] at hj
                              omega
                            obtain ⟨i1, hi1'⟩ : ∃ q, k + 1 = q := ⟨_, rfl⟩
                            have hle : k * C ≤ i1 * C := Nat.mul_le_mul_right _ (by omega)
                            rw [hi1'] at hs hi1 hsm
                            obtain ⟨pk, hpk⟩ : ∃ q, k * C = q := ⟨_, rfl⟩
                            obtain ⟨qk, hqk⟩ : ∃ q, i1 * C = q := ⟨_, rfl⟩
                            have y1 : IntKind.i64.wrap ((k : Int) + 1) = (i1 : Int) := by rw [IntKind.wrap_i64]; omega
                            have y2 : IntKind.i64.wrap ((k : Int) * (C : Int)) = (pk : Int) := by rw [← Int.natCast_mul, hpk, IntKind.wrap_i64]; omega
                            have y3 : IntKind.i64.wrap ((i1 : Int) * (C : Int)) = (qk : Int) := by rw [← Int.natCast_mul, hqk, IntKind.wrap_i64]; omega
                            rw [hpk, hqk] at hs
                            have HI1 := Lib.hid hi1'
                            have HMK := Lib.hid hm
                            clear hpk hqk hi1 hi1' hm hsm hle hc
                            by_cases hok : RowOk (Row.rowAt l C k)
                            · have HCALL := Lib.hid (refRow_any (Row.rowAt l C k) true _ _ (HMK.out.kept HBV.out).cs hsh (HTB.out.kept HBV.out) hrl ⟨fun _ => hok, fun _ => rfl⟩)
                              have HAN : Hid (∀ j, j < k + 1 → RowOk (Row.rowAt l C j)) := Lib.hid fun j hj => by
                                by_cases e : j = k
                                · rw [e]; exact hok
                                · exact HAL.out j (by omega)
                              clear hok hsh hrl HAL HMK
                              go_wp2_with fail
                              refine HCALL.out.mono ?_; rintro e w5 ⟨rfl, hb⟩
                              have HB5 := Lib.hid (HBL.out.trans (hb.mono HBL.out.size))
                              clear hb
                              go_wp2_with fail
                              go_roundw
                              case rel => exact ⟨i1, by have := HI1.out; omega, rfl, by rw [← HI1.out]; exact HAN, HB5⟩
                              case measure => have := HI1.out; simp [intOf]; omega
                            · have HCALL := Lib.hid (refRow_any (Row.rowAt l C k) false _ _ (HMK.out.kept HBV.out).cs hsh (HTB.out.kept HBV.out) hrl ⟨fun h => (by cases h), fun h => absurd h hok⟩)
                              have HF : Hid (bR = false) := Lib.hid (by
                                rw [← HRR.out]
                                cases z : restB R C true nn l R
                                · first | rfl | exact z
                                · exact absurd ((rest_all.1 z).2.2.2.2 k hlt) hok)
                              clear hok hsh hrl HAL HMK
                              go_wp2_with fail
                              refine HCALL.out.mono ?_; rintro e w5 ⟨rfl, hb⟩
                              have HB5 := Lib.hid (HBV.out.trans (hb.mono HBV.out.size))
                              clear hb
                              go_wp2_with fail
                              go_ret
                              exact ⟨ret_bool2 (by rw [HF.out]; rfl), HB5.out⟩
                          · have HF : Hid (bR = true) := Lib.hid (by
                              rw [← HRR.out]
                              refine rest_all.2 ⟨fun _ => HFN.out, HH1.out, by rw [HH2.out, HPN.out], HALL.out, fun j hj => HAL.out j (by omega)⟩)
                            clear HAL HALL
                            go_wp2_with fail
                            go_ret
                            exact ⟨ret_bool2 (by rw [HF.out]; rfl), HBV.out⟩
                  · have hd2 : ((l.length : Int) != (pn : Int)) = true := by rw [bne_iff_ne]; omega
                    have HF : Hid (bR = false) := Lib.hid (by
                      rw [← HRR.out]
                      cases z : restB R C true nn l R
                      · first | rfl | exact z
                      · exact absurd ((rest_all.1 z).2.2.1.trans HPN.out) h2)
                    have x0 : w2.cell? ⟨w.heap.size, 0, none⟩ = some (.int .i64 R) := Blk.cell HX2.out 0
                    have x1 : w2.cell? ⟨w.heap.size, 1, none⟩ = some (.int .i64 C) := Blk.cell HX2.out 1
                    have x2 : w2.cell? ⟨w.heap.size, 2, none⟩ = some (.bool true) := Blk.cell HX2.out 2
                    have x3 : w2.cell? ⟨w.heap.size, 3, none⟩ = some (.slice Au nn.length cu) := Blk.cell HX2.out 3
                    have x4 : w2.cell? ⟨w.heap.size, 4, none⟩ = some (.slice Ay l.length cy) := Blk.cell HX2.out 4
                    clear h2
                    go_wp2_with fail
                    go_ret
                    exact ⟨ret_bool2 (by rw [HF.out]; rfl), HB2.out⟩
                · exact absurd (Nat.le_refl R) h1
              · have hdn : decide (0 < (nn.length : Int)) = true := decide_eq_true (by omega)
                have HF : Hid (bR = false) := Lib.hid (by
                  rw [← HRR.out]
                  cases z : restB R C true nn l R
                  · rfl
                  · exact absurd ((rest_all.1 z).1 rfl) hn0)
                have x0 : w2.cell? ⟨w.heap.size, 0, none⟩ = some (.int .i64 R) := Blk.cell HX2.out 0
                have x2 : w2.cell? ⟨w.heap.size, 2, none⟩ = some (.bool true) := Blk.cell HX2.out 2
                have x3 : w2.cell? ⟨w.heap.size, 3, none⟩ = some (.slice Au nn.length cu) := Blk.cell HX2.out 3
                have hnz : 0 < nn.length := by omega
                have hnzd : decide (0 < nn.length) = true := decide_eq_true hnz
                clear hn0
                go_wp2_with fail
                go_ret
                exact ⟨ret_bool2 (by rw [HF.out]; rfl), HB2.out⟩
end Pat
end
section
open Go.RowKit
namespace Pat
open Go.Proofs.YtjcfbeiljdohcaaGreatDoor.Row Go.Proofs.YtjcfbeiljdohcaaGreatDoor.Scr Agb
noncomputable def restP (p : Pt) : Bool := if 0 ≤ p.rows ∧ 0 ≤ p.cols then restB p.rows.toNat p.cols.toNat p.all p.at_ p.cells (if p.all = true then p.rows.toNat else p.at_.length) else false
theorem patchB_eq (p : Pt) : patchB p = ((Row.rng p.rows 1 40 && Row.rng p.cols 1 40) && (Row.rng p.row 0 (p.rows - 1) && (Row.rng p.col 0 (p.cols - 1) && (Row.rng p.modes 0 1023 && (titleB p.title && restP p))))) := by
  cases hs : (Row.rng p.rows 1 40 && Row.rng p.cols 1 40)
  · unfold patchB
    rw [hs]; rfl
  · have h := hs
    rw [Bool.and_eq_true] at h
    have h1 := rng_yes.1 h.1
    have h2 := rng_yes.1 h.2
    obtain ⟨rows, cols, all, at_, cells, row, col, modes, title⟩ := p
    simp only at h1 h2 hs
    obtain ⟨R, rfl⟩ := Int.eq_ofNat_of_zero_le (show 0 ≤ rows by omega)
    obtain ⟨C, rfl⟩ := Int.eq_ofNat_of_zero_le (show 0 ≤ cols by omega)
    have hh : hasR ⟨R, C, all, at_, cells, row, col, modes, title⟩ = ((if all = true then R else at_.length : Nat) : Int) := by
      unfold hasR; cases all <;> rfl
    unfold patchB restP restB
    simp only
    rw [hh, hs, if_pos (show 0 ≤ (R : Int) ∧ 0 ≤ (C : Int) from ⟨by omega, by omega⟩)]
    simp only [Int.toNat_natCast]
    generalize (if all = true then R else at_.length) = n
    rw [show decide (((n : Nat) : Int) ≤ ((R : Nat) : Int)) = decide (n ≤ R) from decide_eq_decide.2 (by omega),
      show decide (((cells.length : Nat) : Int) = ((n : Nat) : Int) * ((C : Nat) : Int)) = decide (cells.length = n * C) from decide_eq_decide.2 (by rw [← Int.natCast_mul]; omega)]
theorem refPatch_any (p : Pt) (u x : Value) (w : World) (hu : Sl w u p.at_) (hy : Rm w x p.cells) (hs : Short p.cells) (hT : Tabs w) (hn : p.at_.length ≤ 1000000) (ht : p.title.length ≤ 1000000000) :
    Calls Tryz.prog 20 #[pagg p u x] w fun e w' => e = .returned (.bool (patchB p)) ∧ Below w.heap.size w w' := by
  rw [patchB_eq]
  obtain ⟨Au, cu, rfl, _⟩ := id hu.room
  obtain ⟨Ay, cy, rfl, _⟩ := id hy.2
  refine refPatch_t p.rows p.cols p.row p.col p.modes p.all ⟨p.title.toArray⟩ p.at_ p.cells Au Ay cu cy _ _ _ _ (titleB p.title) (restP p) w hu hy hs hT hn rfl rfl rfl rfl (Lib.hid fun W hb => refTitle_any p.title W ht (hT.kept hb)) fun R' C' e1 e2 => ?_
  unfold restP
  rw [e1, e2, if_pos (show 0 ≤ (R' : Int) ∧ 0 ≤ (C' : Int) from ⟨by omega, by omega⟩)]
  simp only [Int.toNat_natCast]
end Pat
end
end Go.Proofs.YtjcfbeiljdohcaaGreatDoor
