/- An act on both sides, whatever it is: they are alike, and the grid behind it is short. -/
import Derived.Test.YtenhgkhonaglaaaDoorJ1
import Derived.Test.YtenhgkhonaglaaaDoorJ2
import Derived.Test.YtenhgkhonaglaaaDoorJ3
import Derived.Test.YtenhgkhonaglaaaDoorJ4
import Derived.Test.YtenhgkhonaglaaaDoorJ5
import Derived.Test.YtenhgkhonaglaaaDoorJ7
import Derived.Test.YtenhgkhonaglaaaDoorJ8
import Derived.Test.YtenhgkhonaglaaaDoorJ9
import Derived.Test.YtenhgkhonaglaaaDoorJ12
import Derived.Test.YtenhgkhonaglaaaDoorGrdStepU0
import Derived.Test.YtenhgkhonaglaaaDoorGrdStepU1
import Derived.Test.YtenhgkhonaglaaaDoorGrdStepD2
import Derived.Test.YtenhgkhonaglaaaDoorGrdStepD3
import Derived.Test.YtenhgkhonaglaaaDoorGrdStepR4
import Derived.Test.YtenhgkhonaglaaaDoorGrdStepR5
import Derived.Test.YtenhgkhonaglaaaDoorGrdStepWi
import Derived.Test.YtenhgkhonaglaaaDoorGrdStepNw
import Derived.Test.YtenhgkhonaglaaaDoorGrdStepRoF
import Derived.Test.YtenhgkhonaglaaaDoorGrdStepRo0
import Derived.Test.YtenhgkhonaglaaaDoorGrdStepRo3
namespace Go.Proofs.YtenhgkhonaglaaaDoor
set_option maxRecDepth 100000
open Go.RowKit
namespace Row
open Utf Wid

/-- Texts within the bound of what comes in. -/
def Bnd (l : List Cl) : Prop := ∀ i, i < l.length → (g l i).comb.length ≤ 1048576
theorem Bnd.held {l : List Cl} (h : Bnd l) : Held l := fun i hi => Nat.le_trans (h i hi) (by decide)
theorem Bnd.short {l : List Cl} (h : Bnd l) : Short l := fun i hi => Nat.le_trans (h i hi) (by decide)
theorem Rws.bnd {R C : Nat} {rs : List (List Cl)} (h : Rws R C rs) : Bnd rs.flatten := fun i hi => by have := h.short i hi; omega
/-- A number brought within bounds. -/
def wi (i : Int) (n : Nat) : Nat := (i % 18446744073709551616).toNat % n
theorem wi_lt (i : Int) {n : Nat} (h : 0 < n) : wi i n < n := Nat.mod_lt _ h
theorem lawWithin_any (i : Int) (n : Nat) (h0 : 0 < n) (hn : n ≤ 1000000) (w : World) : Calls Tryd.prog 7 #[.int .i64 i, .int .i64 n] w fun e w' => e = .returned (.int .i64 (wi i n)) ∧ w = w' := by
  have h1 : IntKind.u64.wrap i = i % 18446744073709551616 := by rw [IntKind.wrap_u64]
  have h2 : IntKind.u64.wrap (n : Int) = (n : Int) := by rw [IntKind.wrap_u64]; omega
  have hb : 0 ≤ i % 18446744073709551616 := Int.emod_nonneg _ (by decide)
  have hlt : (wi i n) < n := Nat.mod_lt _ h0
  obtain ⟨q, hq⟩ : ∃ q : Nat, i % 18446744073709551616 = (q : Int) := ⟨(i % 18446744073709551616).toNat, by omega⟩
  have h3 : (q : Int) % (n : Int) = ((wi i n : Nat) : Int) := by unfold wi; rw [hq]; simp
  rw [hq] at h1
  have hne : ((n : Int) == 0) = false := by rw [beq_eq_false_iff_ne]; omega
  generalize wi i n = k at h3 hlt ⊢
  clear hb hq
  go_enter Tryd.func7, Tryd.ntmps7
  go_wp2_with fail
  go_ret
  exact ⟨rfl, rfl⟩
/-- What an act leaves. -/
def Went (w : World) (e : Ending) (w' : World) : Prop := ∃ R' C' m, Stands w R' C' m e w' ∧ Bnd m ∧ m.length ≤ 3000
theorem went {w : World} {f : Nat} {args : Array Value} {R C : Int} {m : List Cl} (h : Calls Tryd.prog f args w (Stands w R C m)) (hs : Bnd m) (hl : m.length ≤ 3000) : Calls Tryd.prog f args w (Went w) :=
  h.mono fun _ _ k => ⟨R, C, m, k, hs, hl⟩
theorem up_tells (R C : Int) (l : List Cl) (q : Look) (i k n : Int) (y : Value) (w : World) (hy : Rm w y l) (hs : Held l) : ∃ ur uc um ucode, Tells 14 #[.agg #[.int .i64 R, .int .i64 C, y], .int .i64 i, .int .i64 k, .int .i64 n, .agg #[.int .i64 q.fg, .int .i64 q.bg, .int .i64 q.flags]] w ur uc um ucode := by
  by_cases h : MvOk ⟨R, C, l⟩ i k n q
  · obtain ⟨hg, ha, ⟨h1, h2⟩, h3, h4, h5⟩ := h
    obtain ⟨R', C', rs, e, hR⟩ := hg.parted
    injection e with e1 e2 e3
    subst e1 e2 e3
    obtain ⟨top, rfl⟩ := Int.eq_ofNat_of_zero_le h1
    obtain ⟨bot, rfl⟩ := Int.eq_ofNat_of_zero_le (show 0 ≤ k by omega)
    obtain ⟨m, rfl⟩ := Int.eq_ofNat_of_zero_le h4
    have h3 : (bot : Int) < (R' : Int) := h3
    exact ⟨_, _, _, _, up_fits R' C' rs q top bot m y w hR hy hs ha (by omega) (by omega) (by omega)⟩
  · exact ⟨0, 0, [], 1, tells_none (up_bad R C l q i k n y w hy hs h)⟩
theorem sides_yes {r c : Int} (h : sidesOk r c = true) : (1 ≤ r ∧ r ≤ 40) ∧ 1 ≤ c ∧ c ≤ 40 := by
  unfold sidesOk rng at h
  simp only [Bool.and_eq_true, decide_eq_true_eq] at h
  exact h
attribute [local irreducible] Calls
theorem go_up0 (R C : Int) (l r : List Cl) (q : Look) (dd i k n : Int) (x v : Value) (w : World) (hx : Rm w x l) (hv : Rm w v r) (hs : Bnd l) (hl : l.length ≤ 3000) (hT : Tabs w) (HWI : Hid (∀ w', Calls Tryd.prog 7 #[.int .i64 dd, .int .i64 9] w' fun e w'' => e = .returned (.int .i64 0) ∧ w' = w'')) : Calls Tryd.prog 8 #[.agg #[.int .i64 R, .int .i64 C, x], .agg #[.int .i64 dd, .int .i64 i, .int .i64 k, .int .i64 n, .int .i64 q.fg, .int .i64 q.bg, .int .i64 q.flags, v]] w (Went w) := by
  obtain ⟨hxc, A, cp, rfl, hcp⟩ := hx
  have hx : Rm w (.slice A l.length cp) l := ⟨hxc, A, cp, rfl, hcp⟩
  have HGb := fun (b : Bool) (hb : b = true ↔ GridOk ⟨R, C, l⟩) => Lib.hid (fun w' (h : Below w.heap.size w w') => refGrid_any ⟨R, C, l⟩ b (.slice A l.length cp) w' (hx.kept h) hs.short (hT.kept h) (by show l.length ≤ 1000000; omega) hb)
  have HCb := fun (b : Bool) (hb : b = true ↔ GridOk ⟨R, C, l⟩) => Lib.hid (fun y w' (h : Rm w' y l) => gridCheck_any ⟨R, C, l⟩ b y w' h hs.held hb)
  have hl6 : l.length ≤ 1000000 := by omega
  by_cases hg : GridOk ⟨R, C, l⟩
  · cases hpen : attrOk q with
    | false => exact went (step_up0_B1 (hx := hx) (hv := hv) (hl := hl6) (HG := HGb true ⟨fun _ => hg, fun _ => rfl⟩) (HCK := HCb true ⟨fun _ => hg, fun _ => rfl⟩) (HAT := Lib.hid (attr_at q false hpen)) (HB1 := Lib.hid (between_any i 1 40)) (HB2 := Lib.hid (between_any k 1 40)) (HWI := HWI) (HSZ := Lib.hid rfl) (HD := Lib.hid fun y w' h => tells_none (up_bad R C l q i k n y w' h hs.held (fun h => by have := h.2.1; rw [hpen] at this; cases this)))) hs hl
    | true =>
      by_cases hrg : (0 ≤ i ∧ i ≤ k) ∧ k < R
      · have hrb : true = (decide (0 ≤ i) && (decide (i ≤ k) && decide (k < R))) := by rw [decide_eq_true hrg.1.1, decide_eq_true hrg.1.2, decide_eq_true hrg.2]; rfl
        by_cases hn : 0 ≤ n ∧ n ≤ 9999
        · obtain ⟨R', C', rs, e, hR⟩ := hg.parted
          injection e with e1 e2 e3
          subst e1 e2 e3
          obtain ⟨⟨h1, h2⟩, h3⟩ := hrg
          obtain ⟨top, rfl⟩ := Int.eq_ofNat_of_zero_le h1
          obtain ⟨bot, rfl⟩ := Int.eq_ofNat_of_zero_le (show 0 ≤ k by omega)
          obtain ⟨m, rfl⟩ := Int.eq_ofNat_of_zero_le hn.1
          have h3 : bot < R' := by omega
          have hM := moved_rws hR (top := top) h3 ((m : Int)) hpen
          have hsm := hM.small
          have hwb : IntKind.i64.wrap (-(m : Int)) = -(m : Int) := by rw [IntKind.wrap_i64]; omega
          exact went (step_up0_F (hx := hx) (hv := hv) (hl := hl6) (HG := HGb true ⟨fun _ => hg, fun _ => rfl⟩) (HCK := HCb true ⟨fun _ => hg, fun _ => rfl⟩) (HAT := Lib.hid (attr_at q true hpen)) (HB1 := Lib.hid (between_any top 1 40)) (HB2 := Lib.hid (between_any bot 1 40)) (HWI := HWI) (HSZ := Lib.hid rfl) (hm := by omega) (HD := Lib.hid fun y w' h => up_fits R' C' rs q top bot m y w' hR h hR.held hpen (by omega) h3 (by omega)) (HRG := Lib.hid fun w' => region_any R' C' A rs.flatten.length cp top bot true w' hrb) (HNM := Lib.hid fun w' => by have := num_any m 9999 w'; rwa [rngY hn] at this) (HP := Lib.hid fun w' h => refMove_any R' C' rs q top bot m _ w' hR h (by omega) h3 ⟨by omega, by omega⟩)) hM.bnd (by omega)
        · exact went (step_up0_B3 (hx := hx) (hv := hv) (hl := hl6) (HG := HGb true ⟨fun _ => hg, fun _ => rfl⟩) (HCK := HCb true ⟨fun _ => hg, fun _ => rfl⟩) (HAT := Lib.hid (attr_at q true hpen)) (HB1 := Lib.hid (between_any i 1 40)) (HB2 := Lib.hid (between_any k 1 40)) (HWI := HWI) (HSZ := Lib.hid rfl) (HD := Lib.hid fun y w' h => tells_none (up_bad R C l q i k n y w' h hs.held (fun h => hn h.2.2.2.2))) (HRG := Lib.hid fun w' => region_any R C A l.length cp i k true w' (hrb)) (HNM := Lib.hid fun w' => by have := num_any n 9999 w'; rwa [rngN hn] at this)) hs hl
      · have hrb : false = (decide (0 ≤ i) && (decide (i ≤ k) && decide (k < R))) := by
          symm
          rw [Bool.and_eq_false_iff, Bool.and_eq_false_iff]
          by_cases h1 : 0 ≤ i
          · by_cases h2 : i ≤ k
            · exact .inr (.inr (decide_eq_false fun h3 => hrg ⟨⟨h1, h2⟩, h3⟩))
            · exact .inr (.inl (decide_eq_false h2))
          · exact .inl (decide_eq_false h1)
        exact went (step_up0_B2 (hx := hx) (hv := hv) (hl := hl6) (HG := HGb true ⟨fun _ => hg, fun _ => rfl⟩) (HCK := HCb true ⟨fun _ => hg, fun _ => rfl⟩) (HAT := Lib.hid (attr_at q true hpen)) (HB1 := Lib.hid (between_any i 1 40)) (HB2 := Lib.hid (between_any k 1 40)) (HWI := HWI) (HSZ := Lib.hid rfl) (HD := Lib.hid fun y w' h => tells_none (up_bad R C l q i k n y w' h hs.held (fun h => hrg ⟨h.2.2.1, h.2.2.2.1⟩))) (HRG := Lib.hid fun w' => region_any R C A l.length cp i k false w' (hrb))) hs hl
  · exact went (step_up0_B0 (hx := hx) (hv := hv) (hl := hl6) (HG := HGb false ⟨fun h => (by cases h), fun h => absurd h hg⟩) (HCK := HCb false ⟨fun h => (by cases h), fun h => absurd h hg⟩) (HAT := Lib.hid (attr_any q)) (HB1 := Lib.hid (between_any i 1 40)) (HB2 := Lib.hid (between_any k 1 40)) (HWI := HWI) (HSZ := Lib.hid rfl) (HD := Lib.hid fun y w' h => tells_none (up_bad R C l q i k n y w' h hs.held (fun h => hg h.1)))) hs hl
theorem go_up1 (R C : Int) (l r : List Cl) (q : Look) (dd i k n : Int) (x v : Value) (w : World) (hx : Rm w x l) (hv : Rm w v r) (hs : Bnd l) (hl : l.length ≤ 3000) (hT : Tabs w) (HWI : Hid (∀ w', Calls Tryd.prog 7 #[.int .i64 dd, .int .i64 9] w' fun e w'' => e = .returned (.int .i64 1) ∧ w' = w'')) : Calls Tryd.prog 8 #[.agg #[.int .i64 R, .int .i64 C, x], .agg #[.int .i64 dd, .int .i64 i, .int .i64 k, .int .i64 n, .int .i64 q.fg, .int .i64 q.bg, .int .i64 q.flags, v]] w (Went w) := by
  obtain ⟨hxc, A, cp, rfl, hcp⟩ := hx
  have hx : Rm w (.slice A l.length cp) l := ⟨hxc, A, cp, rfl, hcp⟩
  have HGb := fun (b : Bool) (hb : b = true ↔ GridOk ⟨R, C, l⟩) => Lib.hid (fun w' (h : Below w.heap.size w w') => refGrid_any ⟨R, C, l⟩ b (.slice A l.length cp) w' (hx.kept h) hs.short (hT.kept h) (by show l.length ≤ 1000000; omega) hb)
  have HCb := fun (b : Bool) (hb : b = true ↔ GridOk ⟨R, C, l⟩) => Lib.hid (fun y w' (h : Rm w' y l) => gridCheck_any ⟨R, C, l⟩ b y w' h hs.held hb)
  have hl6 : l.length ≤ 1000000 := by omega
  by_cases hg : GridOk ⟨R, C, l⟩
  · cases hpen : attrOk q with
    | false => exact went (step_up1_B1 (hx := hx) (hv := hv) (hl := hl6) (HG := HGb true ⟨fun _ => hg, fun _ => rfl⟩) (HCK := HCb true ⟨fun _ => hg, fun _ => rfl⟩) (HAT := Lib.hid (attr_at q false hpen)) (HB1 := Lib.hid (between_any i 1 40)) (HB2 := Lib.hid (between_any k 1 40)) (HWI := HWI) (HSZ := Lib.hid rfl) (HD := Lib.hid fun y w' h => tells_none (up_bad R C l q i k n y w' h hs.held (fun h => by have := h.2.1; rw [hpen] at this; cases this)))) hs hl
    | true =>
      by_cases hrg : (0 ≤ i ∧ i ≤ k) ∧ k < R
      · have hrb : true = (decide (0 ≤ i) && (decide (i ≤ k) && decide (k < R))) := by rw [decide_eq_true hrg.1.1, decide_eq_true hrg.1.2, decide_eq_true hrg.2]; rfl
        by_cases hn : 0 ≤ n ∧ n ≤ 9999
        · obtain ⟨R', C', rs, e, hR⟩ := hg.parted
          injection e with e1 e2 e3
          subst e1 e2 e3
          obtain ⟨⟨h1, h2⟩, h3⟩ := hrg
          obtain ⟨top, rfl⟩ := Int.eq_ofNat_of_zero_le h1
          obtain ⟨bot, rfl⟩ := Int.eq_ofNat_of_zero_le (show 0 ≤ k by omega)
          obtain ⟨m, rfl⟩ := Int.eq_ofNat_of_zero_le hn.1
          have h3 : bot < R' := by omega
          have hM := moved_rws hR (top := top) h3 ((m : Int)) hpen
          have hsm := hM.small
          have hwb : IntKind.i64.wrap (-(m : Int)) = -(m : Int) := by rw [IntKind.wrap_i64]; omega
          exact went (step_up1_F (hx := hx) (hv := hv) (hl := hl6) (HG := HGb true ⟨fun _ => hg, fun _ => rfl⟩) (HCK := HCb true ⟨fun _ => hg, fun _ => rfl⟩) (HAT := Lib.hid (attr_at q true hpen)) (HB1 := Lib.hid (between_any top 1 40)) (HB2 := Lib.hid (between_any bot 1 40)) (HWI := HWI) (HSZ := Lib.hid rfl) (hm := by omega) (HD := Lib.hid fun y w' h => up_fits R' C' rs q top bot m y w' hR h hR.held hpen (by omega) h3 (by omega)) (HRG := Lib.hid fun w' => region_any R' C' A rs.flatten.length cp top bot true w' hrb) (HNM := Lib.hid fun w' => by have := num_any m 9999 w'; rwa [rngY hn] at this) (HP := Lib.hid fun w' h => refMove_any R' C' rs q top bot m _ w' hR h (by omega) h3 ⟨by omega, by omega⟩)) hM.bnd (by omega)
        · exact went (step_up1_B3 (hx := hx) (hv := hv) (hl := hl6) (HG := HGb true ⟨fun _ => hg, fun _ => rfl⟩) (HCK := HCb true ⟨fun _ => hg, fun _ => rfl⟩) (HAT := Lib.hid (attr_at q true hpen)) (HB1 := Lib.hid (between_any i 1 40)) (HB2 := Lib.hid (between_any k 1 40)) (HWI := HWI) (HSZ := Lib.hid rfl) (HD := Lib.hid fun y w' h => tells_none (up_bad R C l q i k n y w' h hs.held (fun h => hn h.2.2.2.2))) (HRG := Lib.hid fun w' => region_any R C A l.length cp i k true w' (hrb)) (HNM := Lib.hid fun w' => by have := num_any n 9999 w'; rwa [rngN hn] at this)) hs hl
      · have hrb : false = (decide (0 ≤ i) && (decide (i ≤ k) && decide (k < R))) := by
          symm
          rw [Bool.and_eq_false_iff, Bool.and_eq_false_iff]
          by_cases h1 : 0 ≤ i
          · by_cases h2 : i ≤ k
            · exact .inr (.inr (decide_eq_false fun h3 => hrg ⟨⟨h1, h2⟩, h3⟩))
            · exact .inr (.inl (decide_eq_false h2))
          · exact .inl (decide_eq_false h1)
        exact went (step_up1_B2 (hx := hx) (hv := hv) (hl := hl6) (HG := HGb true ⟨fun _ => hg, fun _ => rfl⟩) (HCK := HCb true ⟨fun _ => hg, fun _ => rfl⟩) (HAT := Lib.hid (attr_at q true hpen)) (HB1 := Lib.hid (between_any i 1 40)) (HB2 := Lib.hid (between_any k 1 40)) (HWI := HWI) (HSZ := Lib.hid rfl) (HD := Lib.hid fun y w' h => tells_none (up_bad R C l q i k n y w' h hs.held (fun h => hrg ⟨h.2.2.1, h.2.2.2.1⟩))) (HRG := Lib.hid fun w' => region_any R C A l.length cp i k false w' (hrb))) hs hl
  · exact went (step_up1_B0 (hx := hx) (hv := hv) (hl := hl6) (HG := HGb false ⟨fun h => (by cases h), fun h => absurd h hg⟩) (HCK := HCb false ⟨fun h => (by cases h), fun h => absurd h hg⟩) (HAT := Lib.hid (attr_any q)) (HB1 := Lib.hid (between_any i 1 40)) (HB2 := Lib.hid (between_any k 1 40)) (HWI := HWI) (HSZ := Lib.hid rfl) (HD := Lib.hid fun y w' h => tells_none (up_bad R C l q i k n y w' h hs.held (fun h => hg h.1)))) hs hl
theorem go_down2 (R C : Int) (l r : List Cl) (q : Look) (dd i k n : Int) (x v : Value) (w : World) (hx : Rm w x l) (hv : Rm w v r) (hs : Bnd l) (hl : l.length ≤ 3000) (hT : Tabs w) (HWI : Hid (∀ w', Calls Tryd.prog 7 #[.int .i64 dd, .int .i64 9] w' fun e w'' => e = .returned (.int .i64 2) ∧ w' = w'')) : Calls Tryd.prog 8 #[.agg #[.int .i64 R, .int .i64 C, x], .agg #[.int .i64 dd, .int .i64 i, .int .i64 k, .int .i64 n, .int .i64 q.fg, .int .i64 q.bg, .int .i64 q.flags, v]] w (Went w) := by
  obtain ⟨hxc, A, cp, rfl, hcp⟩ := hx
  have hx : Rm w (.slice A l.length cp) l := ⟨hxc, A, cp, rfl, hcp⟩
  have HGb := fun (b : Bool) (hb : b = true ↔ GridOk ⟨R, C, l⟩) => Lib.hid (fun w' (h : Below w.heap.size w w') => refGrid_any ⟨R, C, l⟩ b (.slice A l.length cp) w' (hx.kept h) hs.short (hT.kept h) (by show l.length ≤ 1000000; omega) hb)
  have HCb := fun (b : Bool) (hb : b = true ↔ GridOk ⟨R, C, l⟩) => Lib.hid (fun y w' (h : Rm w' y l) => gridCheck_any ⟨R, C, l⟩ b y w' h hs.held hb)
  have hl6 : l.length ≤ 1000000 := by omega
  by_cases hg : GridOk ⟨R, C, l⟩
  · cases hpen : attrOk q with
    | false => exact went (step_down2_B1 (hx := hx) (hv := hv) (hl := hl6) (HG := HGb true ⟨fun _ => hg, fun _ => rfl⟩) (HCK := HCb true ⟨fun _ => hg, fun _ => rfl⟩) (HAT := Lib.hid (attr_at q false hpen)) (HB1 := Lib.hid (between_any i 1 40)) (HB2 := Lib.hid (between_any k 1 40)) (HWI := HWI) (HSZ := Lib.hid rfl) (HU := Lib.hid fun y w' h => up_tells R C l q i k n y w' h hs.held) (HBY := Lib.hid rfl) (HD := Lib.hid fun y w' h => tells_none (down_bad R C l q i k n y w' h hs.held (fun h => by have := h.2.1; rw [hpen] at this; cases this)))) hs hl
    | true =>
      by_cases hrg : (0 ≤ i ∧ i ≤ k) ∧ k < R
      · have hrb : true = (decide (0 ≤ i) && (decide (i ≤ k) && decide (k < R))) := by rw [decide_eq_true hrg.1.1, decide_eq_true hrg.1.2, decide_eq_true hrg.2]; rfl
        by_cases hn : 0 ≤ n ∧ n ≤ 9999
        · obtain ⟨R', C', rs, e, hR⟩ := hg.parted
          injection e with e1 e2 e3
          subst e1 e2 e3
          obtain ⟨⟨h1, h2⟩, h3⟩ := hrg
          obtain ⟨top, rfl⟩ := Int.eq_ofNat_of_zero_le h1
          obtain ⟨bot, rfl⟩ := Int.eq_ofNat_of_zero_le (show 0 ≤ k by omega)
          obtain ⟨m, rfl⟩ := Int.eq_ofNat_of_zero_le hn.1
          have h3 : bot < R' := by omega
          have hM := moved_rws hR (top := top) h3 ((-(m : Int))) hpen
          have hsm := hM.small
          have hwb : IntKind.i64.wrap (-(m : Int)) = -(m : Int) := by rw [IntKind.wrap_i64]; omega
          exact went (step_down2_F (hx := hx) (hv := hv) (hl := hl6) (HG := HGb true ⟨fun _ => hg, fun _ => rfl⟩) (HCK := HCb true ⟨fun _ => hg, fun _ => rfl⟩) (HAT := Lib.hid (attr_at q true hpen)) (HB1 := Lib.hid (between_any top 1 40)) (HB2 := Lib.hid (between_any bot 1 40)) (HWI := HWI) (HSZ := Lib.hid rfl) (HU := Lib.hid fun y w' h => up_tells R' C' _ q top bot m y w' h hs.held) (HBY := Lib.hid hwb) (hm := by omega) (HD := Lib.hid fun y w' h => down_fits R' C' rs q top bot m y w' hR h hR.held hpen (by omega) h3 (by omega)) (HRG := Lib.hid fun w' => region_any R' C' A rs.flatten.length cp top bot true w' hrb) (HNM := Lib.hid fun w' => by have := num_any m 9999 w'; rwa [rngY hn] at this) (HP := Lib.hid fun w' h => refMove_any R' C' rs q top bot (-(m : Int)) _ w' hR h (by omega) h3 ⟨by omega, by omega⟩)) hM.bnd (by omega)
        · exact went (step_down2_B3 (hx := hx) (hv := hv) (hl := hl6) (HG := HGb true ⟨fun _ => hg, fun _ => rfl⟩) (HCK := HCb true ⟨fun _ => hg, fun _ => rfl⟩) (HAT := Lib.hid (attr_at q true hpen)) (HB1 := Lib.hid (between_any i 1 40)) (HB2 := Lib.hid (between_any k 1 40)) (HWI := HWI) (HSZ := Lib.hid rfl) (HU := Lib.hid fun y w' h => up_tells R C l q i k n y w' h hs.held) (HBY := Lib.hid rfl) (HD := Lib.hid fun y w' h => tells_none (down_bad R C l q i k n y w' h hs.held (fun h => hn h.2.2.2.2))) (HRG := Lib.hid fun w' => region_any R C A l.length cp i k true w' (hrb)) (HNM := Lib.hid fun w' => by have := num_any n 9999 w'; rwa [rngN hn] at this)) hs hl
      · have hrb : false = (decide (0 ≤ i) && (decide (i ≤ k) && decide (k < R))) := by
          symm
          rw [Bool.and_eq_false_iff, Bool.and_eq_false_iff]
          by_cases h1 : 0 ≤ i
          · by_cases h2 : i ≤ k
            · exact .inr (.inr (decide_eq_false fun h3 => hrg ⟨⟨h1, h2⟩, h3⟩))
            · exact .inr (.inl (decide_eq_false h2))
          · exact .inl (decide_eq_false h1)
        exact went (step_down2_B2 (hx := hx) (hv := hv) (hl := hl6) (HG := HGb true ⟨fun _ => hg, fun _ => rfl⟩) (HCK := HCb true ⟨fun _ => hg, fun _ => rfl⟩) (HAT := Lib.hid (attr_at q true hpen)) (HB1 := Lib.hid (between_any i 1 40)) (HB2 := Lib.hid (between_any k 1 40)) (HWI := HWI) (HSZ := Lib.hid rfl) (HU := Lib.hid fun y w' h => up_tells R C l q i k n y w' h hs.held) (HBY := Lib.hid rfl) (HD := Lib.hid fun y w' h => tells_none (down_bad R C l q i k n y w' h hs.held (fun h => hrg ⟨h.2.2.1, h.2.2.2.1⟩))) (HRG := Lib.hid fun w' => region_any R C A l.length cp i k false w' (hrb))) hs hl
  · exact went (step_down2_B0 (hx := hx) (hv := hv) (hl := hl6) (HG := HGb false ⟨fun h => (by cases h), fun h => absurd h hg⟩) (HCK := HCb false ⟨fun h => (by cases h), fun h => absurd h hg⟩) (HAT := Lib.hid (attr_any q)) (HB1 := Lib.hid (between_any i 1 40)) (HB2 := Lib.hid (between_any k 1 40)) (HWI := HWI) (HSZ := Lib.hid rfl) (HU := Lib.hid fun y w' h => up_tells R C l q i k n y w' h hs.held) (HBY := Lib.hid rfl) (HD := Lib.hid fun y w' h => tells_none (down_bad R C l q i k n y w' h hs.held (fun h => hg h.1)))) hs hl
theorem go_down3 (R C : Int) (l r : List Cl) (q : Look) (dd i k n : Int) (x v : Value) (w : World) (hx : Rm w x l) (hv : Rm w v r) (hs : Bnd l) (hl : l.length ≤ 3000) (hT : Tabs w) (HWI : Hid (∀ w', Calls Tryd.prog 7 #[.int .i64 dd, .int .i64 9] w' fun e w'' => e = .returned (.int .i64 3) ∧ w' = w'')) : Calls Tryd.prog 8 #[.agg #[.int .i64 R, .int .i64 C, x], .agg #[.int .i64 dd, .int .i64 i, .int .i64 k, .int .i64 n, .int .i64 q.fg, .int .i64 q.bg, .int .i64 q.flags, v]] w (Went w) := by
  obtain ⟨hxc, A, cp, rfl, hcp⟩ := hx
  have hx : Rm w (.slice A l.length cp) l := ⟨hxc, A, cp, rfl, hcp⟩
  have HGb := fun (b : Bool) (hb : b = true ↔ GridOk ⟨R, C, l⟩) => Lib.hid (fun w' (h : Below w.heap.size w w') => refGrid_any ⟨R, C, l⟩ b (.slice A l.length cp) w' (hx.kept h) hs.short (hT.kept h) (by show l.length ≤ 1000000; omega) hb)
  have HCb := fun (b : Bool) (hb : b = true ↔ GridOk ⟨R, C, l⟩) => Lib.hid (fun y w' (h : Rm w' y l) => gridCheck_any ⟨R, C, l⟩ b y w' h hs.held hb)
  have hl6 : l.length ≤ 1000000 := by omega
  by_cases hg : GridOk ⟨R, C, l⟩
  · cases hpen : attrOk q with
    | false => exact went (step_down3_B1 (hx := hx) (hv := hv) (hl := hl6) (HG := HGb true ⟨fun _ => hg, fun _ => rfl⟩) (HCK := HCb true ⟨fun _ => hg, fun _ => rfl⟩) (HAT := Lib.hid (attr_at q false hpen)) (HB1 := Lib.hid (between_any i 1 40)) (HB2 := Lib.hid (between_any k 1 40)) (HWI := HWI) (HSZ := Lib.hid rfl) (HU := Lib.hid fun y w' h => up_tells R C l q i k n y w' h hs.held) (HBY := Lib.hid rfl) (HD := Lib.hid fun y w' h => tells_none (down_bad R C l q i k n y w' h hs.held (fun h => by have := h.2.1; rw [hpen] at this; cases this)))) hs hl
    | true =>
      by_cases hrg : (0 ≤ i ∧ i ≤ k) ∧ k < R
      · have hrb : true = (decide (0 ≤ i) && (decide (i ≤ k) && decide (k < R))) := by rw [decide_eq_true hrg.1.1, decide_eq_true hrg.1.2, decide_eq_true hrg.2]; rfl
        by_cases hn : 0 ≤ n ∧ n ≤ 9999
        · obtain ⟨R', C', rs, e, hR⟩ := hg.parted
          injection e with e1 e2 e3
          subst e1 e2 e3
          obtain ⟨⟨h1, h2⟩, h3⟩ := hrg
          obtain ⟨top, rfl⟩ := Int.eq_ofNat_of_zero_le h1
          obtain ⟨bot, rfl⟩ := Int.eq_ofNat_of_zero_le (show 0 ≤ k by omega)
          obtain ⟨m, rfl⟩ := Int.eq_ofNat_of_zero_le hn.1
          have h3 : bot < R' := by omega
          have hM := moved_rws hR (top := top) h3 ((-(m : Int))) hpen
          have hsm := hM.small
          have hwb : IntKind.i64.wrap (-(m : Int)) = -(m : Int) := by rw [IntKind.wrap_i64]; omega
          exact went (step_down3_F (hx := hx) (hv := hv) (hl := hl6) (HG := HGb true ⟨fun _ => hg, fun _ => rfl⟩) (HCK := HCb true ⟨fun _ => hg, fun _ => rfl⟩) (HAT := Lib.hid (attr_at q true hpen)) (HB1 := Lib.hid (between_any top 1 40)) (HB2 := Lib.hid (between_any bot 1 40)) (HWI := HWI) (HSZ := Lib.hid rfl) (HU := Lib.hid fun y w' h => up_tells R' C' _ q top bot m y w' h hs.held) (HBY := Lib.hid hwb) (hm := by omega) (HD := Lib.hid fun y w' h => down_fits R' C' rs q top bot m y w' hR h hR.held hpen (by omega) h3 (by omega)) (HRG := Lib.hid fun w' => region_any R' C' A rs.flatten.length cp top bot true w' hrb) (HNM := Lib.hid fun w' => by have := num_any m 9999 w'; rwa [rngY hn] at this) (HP := Lib.hid fun w' h => refMove_any R' C' rs q top bot (-(m : Int)) _ w' hR h (by omega) h3 ⟨by omega, by omega⟩)) hM.bnd (by omega)
        · exact went (step_down3_B3 (hx := hx) (hv := hv) (hl := hl6) (HG := HGb true ⟨fun _ => hg, fun _ => rfl⟩) (HCK := HCb true ⟨fun _ => hg, fun _ => rfl⟩) (HAT := Lib.hid (attr_at q true hpen)) (HB1 := Lib.hid (between_any i 1 40)) (HB2 := Lib.hid (between_any k 1 40)) (HWI := HWI) (HSZ := Lib.hid rfl) (HU := Lib.hid fun y w' h => up_tells R C l q i k n y w' h hs.held) (HBY := Lib.hid rfl) (HD := Lib.hid fun y w' h => tells_none (down_bad R C l q i k n y w' h hs.held (fun h => hn h.2.2.2.2))) (HRG := Lib.hid fun w' => region_any R C A l.length cp i k true w' (hrb)) (HNM := Lib.hid fun w' => by have := num_any n 9999 w'; rwa [rngN hn] at this)) hs hl
      · have hrb : false = (decide (0 ≤ i) && (decide (i ≤ k) && decide (k < R))) := by
          symm
          rw [Bool.and_eq_false_iff, Bool.and_eq_false_iff]
          by_cases h1 : 0 ≤ i
          · by_cases h2 : i ≤ k
            · exact .inr (.inr (decide_eq_false fun h3 => hrg ⟨⟨h1, h2⟩, h3⟩))
            · exact .inr (.inl (decide_eq_false h2))
          · exact .inl (decide_eq_false h1)
        exact went (step_down3_B2 (hx := hx) (hv := hv) (hl := hl6) (HG := HGb true ⟨fun _ => hg, fun _ => rfl⟩) (HCK := HCb true ⟨fun _ => hg, fun _ => rfl⟩) (HAT := Lib.hid (attr_at q true hpen)) (HB1 := Lib.hid (between_any i 1 40)) (HB2 := Lib.hid (between_any k 1 40)) (HWI := HWI) (HSZ := Lib.hid rfl) (HU := Lib.hid fun y w' h => up_tells R C l q i k n y w' h hs.held) (HBY := Lib.hid rfl) (HD := Lib.hid fun y w' h => tells_none (down_bad R C l q i k n y w' h hs.held (fun h => hrg ⟨h.2.2.1, h.2.2.2.1⟩))) (HRG := Lib.hid fun w' => region_any R C A l.length cp i k false w' (hrb))) hs hl
  · exact went (step_down3_B0 (hx := hx) (hv := hv) (hl := hl6) (HG := HGb false ⟨fun h => (by cases h), fun h => absurd h hg⟩) (HCK := HCb false ⟨fun h => (by cases h), fun h => absurd h hg⟩) (HAT := Lib.hid (attr_any q)) (HB1 := Lib.hid (between_any i 1 40)) (HB2 := Lib.hid (between_any k 1 40)) (HWI := HWI) (HSZ := Lib.hid rfl) (HU := Lib.hid fun y w' h => up_tells R C l q i k n y w' h hs.held) (HBY := Lib.hid rfl) (HD := Lib.hid fun y w' h => tells_none (down_bad R C l q i k n y w' h hs.held (fun h => hg h.1)))) hs hl
theorem go_size4 (R C : Int) (l r : List Cl) (q : Look) (dd i k n : Int) (x v : Value) (w : World) (hx : Rm w x l) (hv : Rm w v r) (hs : Bnd l) (hl : l.length ≤ 3000) (hT : Tabs w) (HWI : Hid (∀ w', Calls Tryd.prog 7 #[.int .i64 dd, .int .i64 9] w' fun e w'' => e = .returned (.int .i64 4) ∧ w' = w'')) : Calls Tryd.prog 8 #[.agg #[.int .i64 R, .int .i64 C, x], .agg #[.int .i64 dd, .int .i64 i, .int .i64 k, .int .i64 n, .int .i64 q.fg, .int .i64 q.bg, .int .i64 q.flags, v]] w (Went w) := by
  obtain ⟨hxc, A, cp, rfl, hcp⟩ := hx
  have hx : Rm w (.slice A l.length cp) l := ⟨hxc, A, cp, rfl, hcp⟩
  have HGb := fun (b : Bool) (hb : b = true ↔ GridOk ⟨R, C, l⟩) => Lib.hid (fun w' (h : Below w.heap.size w w') => refGrid_any ⟨R, C, l⟩ b (.slice A l.length cp) w' (hx.kept h) hs.short (hT.kept h) (by show l.length ≤ 1000000; omega) hb)
  have HCb := fun (b : Bool) (hb : b = true ↔ GridOk ⟨R, C, l⟩) => Lib.hid (fun y w' (h : Rm w' y l) => gridCheck_any ⟨R, C, l⟩ b y w' h hs.held hb)
  have hl6 : l.length ≤ 1000000 := by omega
  by_cases hg : GridOk ⟨R, C, l⟩
  · cases hsd : sidesOk i k with
    | true =>
      cases hpen : attrOk q with
      | true =>
        obtain ⟨R', C', rs, e, hR⟩ := hg.parted
        injection e with e1 e2 e3
        subst e1 e2 e3
        obtain ⟨⟨h1, h2⟩, h3, h4⟩ := sides_yes hsd
        obtain ⟨a, rfl⟩ := Int.eq_ofNat_of_zero_le (show 0 ≤ i by omega)
        obtain ⟨b, rfl⟩ := Int.eq_ofNat_of_zero_le (show 0 ≤ k by omega)
        have hM := fitted_rws hR (r := a) (c := b) (by omega) (by omega) (by omega) (by omega) hpen
        have hsm := hM.small
        exact went (step_size4_F (n := n) (hx := hx) (hv := hv) (hl := hl6) (HG := HGb true ⟨fun _ => hg, fun _ => rfl⟩) (HCK := HCb true ⟨fun _ => hg, fun _ => rfl⟩) (HAT := Lib.hid (attr_at q true hpen)) (HB1 := Lib.hid (between_any a 1 40)) (HB2 := Lib.hid (between_any b 1 40)) (HWI := HWI) (HSZ := Lib.hid hsd) (hm := by omega) (HD := Lib.hid fun y w' h => resize_fits R' C' a b rs q y w' hR h hR.held hpen (by omega) (by omega) (by omega) (by omega)) (HP := Lib.hid fun w' h => refResize_any R' C' rs q a b _ w' hR h (by omega) (by omega) (by omega) (by omega))) hM.bnd (by omega)
      | false => exact went (step_size4_B1 (n := n) (hx := hx) (hv := hv) (hl := hl6) (HG := HGb true ⟨fun _ => hg, fun _ => rfl⟩) (HCK := HCb true ⟨fun _ => hg, fun _ => rfl⟩) (HAT := Lib.hid (attr_at q false hpen)) (HB1 := Lib.hid (between_any i 1 40)) (HB2 := Lib.hid (between_any k 1 40)) (HWI := HWI) (HSZ := Lib.hid rfl) (HD := Lib.hid fun y w' h => tells_none (resize_unseen R C l q i k y w' h hs.held hg hsd hpen))) hs hl
    | false =>
      cases hpen : attrOk q with
      | true => exact went (step_size4_B2 (n := n) (hx := hx) (hv := hv) (hl := hl6) (HG := HGb true ⟨fun _ => hg, fun _ => rfl⟩) (HCK := HCb true ⟨fun _ => hg, fun _ => rfl⟩) (HAT := Lib.hid (attr_at q true hpen)) (HB1 := Lib.hid (between_any i 1 40)) (HB2 := Lib.hid (between_any k 1 40)) (HWI := HWI) (HSZ := Lib.hid hsd) (HD := Lib.hid fun y w' h => tells_none (resize_wide R C l q i k y w' h hs.held hg hsd))) hs hl
      | false => exact went (step_size4_B1 (n := n) (hx := hx) (hv := hv) (hl := hl6) (HG := HGb true ⟨fun _ => hg, fun _ => rfl⟩) (HCK := HCb true ⟨fun _ => hg, fun _ => rfl⟩) (HAT := Lib.hid (attr_at q false hpen)) (HB1 := Lib.hid (between_any i 1 40)) (HB2 := Lib.hid (between_any k 1 40)) (HWI := HWI) (HSZ := Lib.hid rfl) (HD := Lib.hid fun y w' h => tells_none (resize_wide R C l q i k y w' h hs.held hg hsd))) hs hl
  · exact went (step_size4_B0 (n := n) (hx := hx) (hv := hv) (hl := hl6) (HG := HGb false ⟨fun h => (by cases h), fun h => absurd h hg⟩) (HCK := HCb false ⟨fun h => (by cases h), fun h => absurd h hg⟩) (HAT := Lib.hid (attr_any q)) (HB1 := Lib.hid (between_any i 1 40)) (HB2 := Lib.hid (between_any k 1 40)) (HWI := HWI) (HSZ := Lib.hid rfl) (HD := Lib.hid fun y w' h => tells_none (resize_unfit R C l q i k y w' h hs.held hg))) hs hl
theorem go_size5 (R C : Int) (l r : List Cl) (q : Look) (dd i k n : Int) (x v : Value) (w : World) (hx : Rm w x l) (hv : Rm w v r) (hs : Bnd l) (hl : l.length ≤ 3000) (hT : Tabs w) (HWI : Hid (∀ w', Calls Tryd.prog 7 #[.int .i64 dd, .int .i64 9] w' fun e w'' => e = .returned (.int .i64 5) ∧ w' = w'')) : Calls Tryd.prog 8 #[.agg #[.int .i64 R, .int .i64 C, x], .agg #[.int .i64 dd, .int .i64 i, .int .i64 k, .int .i64 n, .int .i64 q.fg, .int .i64 q.bg, .int .i64 q.flags, v]] w (Went w) := by
  obtain ⟨hxc, A, cp, rfl, hcp⟩ := hx
  have hx : Rm w (.slice A l.length cp) l := ⟨hxc, A, cp, rfl, hcp⟩
  have HGb := fun (b : Bool) (hb : b = true ↔ GridOk ⟨R, C, l⟩) => Lib.hid (fun w' (h : Below w.heap.size w w') => refGrid_any ⟨R, C, l⟩ b (.slice A l.length cp) w' (hx.kept h) hs.short (hT.kept h) (by show l.length ≤ 1000000; omega) hb)
  have HCb := fun (b : Bool) (hb : b = true ↔ GridOk ⟨R, C, l⟩) => Lib.hid (fun y w' (h : Rm w' y l) => gridCheck_any ⟨R, C, l⟩ b y w' h hs.held hb)
  have hl6 : l.length ≤ 1000000 := by omega
  by_cases hg : GridOk ⟨R, C, l⟩
  · cases hsd : sidesOk i k with
    | true =>
      cases hpen : attrOk q with
      | true =>
        obtain ⟨R', C', rs, e, hR⟩ := hg.parted
        injection e with e1 e2 e3
        subst e1 e2 e3
        obtain ⟨⟨h1, h2⟩, h3, h4⟩ := sides_yes hsd
        obtain ⟨a, rfl⟩ := Int.eq_ofNat_of_zero_le (show 0 ≤ i by omega)
        obtain ⟨b, rfl⟩ := Int.eq_ofNat_of_zero_le (show 0 ≤ k by omega)
        have hM := fitted_rws hR (r := a) (c := b) (by omega) (by omega) (by omega) (by omega) hpen
        have hsm := hM.small
        exact went (step_size5_F (n := n) (hx := hx) (hv := hv) (hl := hl6) (HG := HGb true ⟨fun _ => hg, fun _ => rfl⟩) (HCK := HCb true ⟨fun _ => hg, fun _ => rfl⟩) (HAT := Lib.hid (attr_at q true hpen)) (HB1 := Lib.hid (between_any a 1 40)) (HB2 := Lib.hid (between_any b 1 40)) (HWI := HWI) (HSZ := Lib.hid hsd) (hm := by omega) (HD := Lib.hid fun y w' h => resize_fits R' C' a b rs q y w' hR h hR.held hpen (by omega) (by omega) (by omega) (by omega)) (HP := Lib.hid fun w' h => refResize_any R' C' rs q a b _ w' hR h (by omega) (by omega) (by omega) (by omega))) hM.bnd (by omega)
      | false => exact went (step_size5_B1 (n := n) (hx := hx) (hv := hv) (hl := hl6) (HG := HGb true ⟨fun _ => hg, fun _ => rfl⟩) (HCK := HCb true ⟨fun _ => hg, fun _ => rfl⟩) (HAT := Lib.hid (attr_at q false hpen)) (HB1 := Lib.hid (between_any i 1 40)) (HB2 := Lib.hid (between_any k 1 40)) (HWI := HWI) (HSZ := Lib.hid rfl) (HD := Lib.hid fun y w' h => tells_none (resize_unseen R C l q i k y w' h hs.held hg hsd hpen))) hs hl
    | false =>
      cases hpen : attrOk q with
      | true => exact went (step_size5_B2 (n := n) (hx := hx) (hv := hv) (hl := hl6) (HG := HGb true ⟨fun _ => hg, fun _ => rfl⟩) (HCK := HCb true ⟨fun _ => hg, fun _ => rfl⟩) (HAT := Lib.hid (attr_at q true hpen)) (HB1 := Lib.hid (between_any i 1 40)) (HB2 := Lib.hid (between_any k 1 40)) (HWI := HWI) (HSZ := Lib.hid hsd) (HD := Lib.hid fun y w' h => tells_none (resize_wide R C l q i k y w' h hs.held hg hsd))) hs hl
      | false => exact went (step_size5_B1 (n := n) (hx := hx) (hv := hv) (hl := hl6) (HG := HGb true ⟨fun _ => hg, fun _ => rfl⟩) (HCK := HCb true ⟨fun _ => hg, fun _ => rfl⟩) (HAT := Lib.hid (attr_at q false hpen)) (HB1 := Lib.hid (between_any i 1 40)) (HB2 := Lib.hid (between_any k 1 40)) (HWI := HWI) (HSZ := Lib.hid rfl) (HD := Lib.hid fun y w' h => tells_none (resize_wide R C l q i k y w' h hs.held hg hsd))) hs hl
  · exact went (step_size5_B0 (n := n) (hx := hx) (hv := hv) (hl := hl6) (HG := HGb false ⟨fun h => (by cases h), fun h => absurd h hg⟩) (HCK := HCb false ⟨fun h => (by cases h), fun h => absurd h hg⟩) (HAT := Lib.hid (attr_any q)) (HB1 := Lib.hid (between_any i 1 40)) (HB2 := Lib.hid (between_any k 1 40)) (HWI := HWI) (HSZ := Lib.hid rfl) (HD := Lib.hid fun y w' h => tells_none (resize_unfit R C l q i k y w' h hs.held hg))) hs hl
theorem go_row6 (R C : Int) (l r : List Cl) (q : Look) (dd i k n : Int) (x v : Value) (w : World) (hx : Rm w x l) (hv : Rm w v r) (hs : Bnd l) (hl : l.length ≤ 3000) (hT : Tabs w) (HWI : Hid (∀ w', Calls Tryd.prog 7 #[.int .i64 dd, .int .i64 9] w' fun e w'' => e = .returned (.int .i64 6) ∧ w' = w'')) : Calls Tryd.prog 8 #[.agg #[.int .i64 R, .int .i64 C, x], .agg #[.int .i64 dd, .int .i64 i, .int .i64 k, .int .i64 n, .int .i64 q.fg, .int .i64 q.bg, .int .i64 q.flags, v]] w (Went w) := by
  obtain ⟨hxc, A, cp, rfl, hcp⟩ := hx
  have hx : Rm w (.slice A l.length cp) l := ⟨hxc, A, cp, rfl, hcp⟩
  have HGb := fun (b : Bool) (hb : b = true ↔ GridOk ⟨R, C, l⟩) => Lib.hid (fun w' (h : Below w.heap.size w w') => refGrid_any ⟨R, C, l⟩ b (.slice A l.length cp) w' (hx.kept h) hs.short (hT.kept h) (by show l.length ≤ 1000000; omega) hb)
  have hl6 : l.length ≤ 1000000 := by omega
  by_cases hg : GridOk ⟨R, C, l⟩
  · have hR1 : IntKind.i64.wrap (R - 1) = R - 1 := by have := hg.1.1; have := hg.1.2; rw [IntKind.wrap_i64]; simp only at *; omega
    by_cases hi : 0 ≤ i ∧ i ≤ R - 1
    · obtain ⟨R', C', rs, e, hR⟩ := hg.parted
      injection e with e1 e2 e3
      subst e1 e2 e3
      obtain ⟨a, rfl⟩ := Int.eq_ofNat_of_zero_le hi.1
      have ha : a < R' := by omega
      have hR40 := hR.r40
      have hC40 := hR.c40
      have hrl := hR.rlen ha
      exact went (step_row6_F (n := n) (hx := hx) (hv := hv) (hl := hl6) (HG := HGb true ⟨fun _ => hg, fun _ => rfl⟩) (HAT := Lib.hid (attr_any q)) (HB1 := Lib.hid (between_any a 1 40)) (HB2 := Lib.hid (between_any k 1 40)) (HWI := HWI) (HSZ := Lib.hid rfl) (hm := by omega) (HD := Lib.hid fun y w' h => row_fits R' C' rs a y w' hR h hR.held ha) (HR1 := Lib.hid hR1) (HNM := Lib.hid fun w' => by have := num_any a (R' - 1) w'; rwa [rngY hi] at this) (HP := Lib.hid fun w' h => by have := refAt_any R' C' a rs.flatten _ w' hC40 (by omega) (by rw [even_length hR.even, hR.len]; exact Nat.mul_le_mul_right C' ha) h; rwa [rowAt_flat hR.even (by rw [hR.len]; exact ha)] at this)) hs hl
    · exact went (step_row6_B3 (n := n) (hx := hx) (hv := hv) (hl := hl6) (HG := HGb true ⟨fun _ => hg, fun _ => rfl⟩) (HAT := Lib.hid (attr_any q)) (HB1 := Lib.hid (between_any i 1 40)) (HB2 := Lib.hid (between_any k 1 40)) (HWI := HWI) (HSZ := Lib.hid rfl) (HD := Lib.hid fun y w' h => (row_out R C l i y w' h hs.held hg hi).mono fun _ _ ⟨h1, h2⟩ => ⟨_, h1, OwnCs.nil _ _, h2⟩) (HR1 := Lib.hid hR1) (HNM := Lib.hid fun w' => by have := num_any i (R - 1) w'; rwa [rngN hi] at this)) hs hl
  · exact went (step_row6_B0 (n := n) (hx := hx) (hv := hv) (hl := hl6) (HG := HGb false ⟨fun h => (by cases h), fun h => absurd h hg⟩) (HAT := Lib.hid (attr_any q)) (HB1 := Lib.hid (between_any i 1 40)) (HB2 := Lib.hid (between_any k 1 40)) (HWI := HWI) (HSZ := Lib.hid rfl) (HD := Lib.hid fun y w' h => (row_unfit R C l i y w' h hs.held hg).mono fun _ _ ⟨h1, h2⟩ => ⟨_, h1, OwnCs.nil _ _, h2⟩)) hs hl
theorem go_with7 (R C : Int) (l r : List Cl) (q : Look) (dd i k n : Int) (x v : Value) (w : World) (hx : Rm w x l) (hv : Rm w v r) (hs : Bnd l) (hsr : Bnd r) (hl : l.length ≤ 3000) (hr : r.length ≤ 3000) (hT : Tabs w) (HWI : Hid (∀ w', Calls Tryd.prog 7 #[.int .i64 dd, .int .i64 9] w' fun e w'' => e = .returned (.int .i64 7) ∧ w' = w'')) : Calls Tryd.prog 8 #[.agg #[.int .i64 R, .int .i64 C, x], .agg #[.int .i64 dd, .int .i64 i, .int .i64 k, .int .i64 n, .int .i64 q.fg, .int .i64 q.bg, .int .i64 q.flags, v]] w (Went w) := by
  obtain ⟨hxc, A, cp, rfl, hcp⟩ := hx
  have hx : Rm w (.slice A l.length cp) l := ⟨hxc, A, cp, rfl, hcp⟩
  have HGb := fun (b : Bool) (hb : b = true ↔ GridOk ⟨R, C, l⟩) => Lib.hid (fun w' (h : Below w.heap.size w w') => refGrid_any ⟨R, C, l⟩ b (.slice A l.length cp) w' (hx.kept h) hs.short (hT.kept h) (by show l.length ≤ 1000000; omega) hb)
  have HCb := fun (b : Bool) (hb : b = true ↔ GridOk ⟨R, C, l⟩) => Lib.hid (fun y w' (h : Rm w' y l) => gridCheck_any ⟨R, C, l⟩ b y w' h hs.held hb)
  have hl6 : l.length ≤ 1000000 := by omega
  by_cases hg : GridOk ⟨R, C, l⟩
  · by_cases hm : RowOk r
    · by_cases hc : (r.length : Int) = C
      · have hR1 : IntKind.i64.wrap (R - 1) = R - 1 := by have := hg.1.1; have := hg.1.2; rw [IntKind.wrap_i64]; simp only at *; omega
        by_cases hi : 0 ≤ i ∧ i ≤ R - 1
        · obtain ⟨R', C', rs, e, hR⟩ := hg.parted
          injection e with e1 e2 e3
          subst e1 e2 e3
          obtain ⟨a, rfl⟩ := Int.eq_ofNat_of_zero_le hi.1
          have ha : a < R' := by omega
          have hc' : r.length = C' := by omega
          have hM := set_rws hR ha hm hc'
          have hsm := hM.small
          have hR40 := hR.r40
          have hC40 := hR.c40
          exact went (step_with7_F (n := n) (hx := hx) (hv := hv) (hl := hl6) (HG := HGb true ⟨fun _ => hg, fun _ => rfl⟩) (HCK := HCb true ⟨fun _ => hg, fun _ => rfl⟩) (HAT := Lib.hid (attr_any q)) (HB1 := Lib.hid (between_any a 1 40)) (HB2 := Lib.hid (between_any k 1 40)) (HWI := HWI) (HSZ := Lib.hid rfl) (hm := by omega) (HD := Lib.hid fun y w' h h2 => with_fits R' C' rs a y v r w' hR h hR.held h2 hsr.held hm hc' ha) (HRW := Lib.hid fun w' h => refRow_any r true v w' (hv.kept h).cs hsr.short (hT.kept h) (by omega) ⟨fun _ => hm, fun _ => rfl⟩) (HLC := Lib.hid hc) (HR1 := Lib.hid hR1) (HNM := Lib.hid fun w' => by have := num_any a (R' - 1) w'; rwa [rngY hi] at this) (HP := Lib.hid fun w' h h2 => by have := refWith_any R' C' a rs.flatten r _ v w' hC40 (by omega) (by rw [even_length hR.even, hR.len]; exact Nat.mul_le_mul_right C' ha) (by omega) h.cs h2.cs hc'; rwa [putting_row hR.even (by rw [hR.len]; exact ha) hc'] at this)) hM.bnd (by omega)
        · exact went (step_with7_B3 (n := n) (hx := hx) (hv := hv) (hl := hl6) (HG := HGb true ⟨fun _ => hg, fun _ => rfl⟩) (HCK := HCb true ⟨fun _ => hg, fun _ => rfl⟩) (HAT := Lib.hid (attr_any q)) (HB1 := Lib.hid (between_any i 1 40)) (HB2 := Lib.hid (between_any k 1 40)) (HWI := HWI) (HSZ := Lib.hid rfl) (HD := Lib.hid fun y w' h h2 => tells_none (with_out R C l i y v r w' h hs.held h2 hsr.held (by omega) hg hm hc hi)) (HRW := Lib.hid fun w' h => refRow_any r true v w' (hv.kept h).cs hsr.short (hT.kept h) (by omega) ⟨fun _ => hm, fun _ => rfl⟩) (HLC := Lib.hid hc) (HR1 := Lib.hid hR1) (HNM := Lib.hid fun w' => by have := num_any i (R - 1) w'; rwa [rngN hi] at this)) hs hl
      · exact went (step_with7_B2 (n := n) (hx := hx) (hv := hv) (hl := hl6) (HG := HGb true ⟨fun _ => hg, fun _ => rfl⟩) (HCK := HCb true ⟨fun _ => hg, fun _ => rfl⟩) (HAT := Lib.hid (attr_any q)) (HB1 := Lib.hid (between_any i 1 40)) (HB2 := Lib.hid (between_any k 1 40)) (HWI := HWI) (HSZ := Lib.hid rfl) (HD := Lib.hid fun y w' h h2 => tells_none (with_thin R C l i y v r w' h hs.held h2 hsr.held (by omega) hg hm hc)) (HRW := Lib.hid fun w' h => refRow_any r true v w' (hv.kept h).cs hsr.short (hT.kept h) (by omega) ⟨fun _ => hm, fun _ => rfl⟩) (HLC := Lib.hid hc)) hs hl
    · exact went (step_with7_B1 (n := n) (hx := hx) (hv := hv) (hl := hl6) (HG := HGb true ⟨fun _ => hg, fun _ => rfl⟩) (HCK := HCb true ⟨fun _ => hg, fun _ => rfl⟩) (HAT := Lib.hid (attr_any q)) (HB1 := Lib.hid (between_any i 1 40)) (HB2 := Lib.hid (between_any k 1 40)) (HWI := HWI) (HSZ := Lib.hid rfl) (HD := Lib.hid fun y w' h h2 => tells_none (with_odd R C l i y v r w' h hs.held h2 hsr.held (by omega) hg hm)) (HRW := Lib.hid fun w' h => refRow_any r false v w' (hv.kept h).cs hsr.short (hT.kept h) (by omega) ⟨fun h => (by cases h), fun h => absurd h hm⟩)) hs hl
  · exact went (step_with7_B0 (n := n) (hx := hx) (hv := hv) (hl := hl6) (HG := HGb false ⟨fun h => (by cases h), fun h => absurd h hg⟩) (HCK := HCb false ⟨fun h => (by cases h), fun h => absurd h hg⟩) (HAT := Lib.hid (attr_any q)) (HB1 := Lib.hid (between_any i 1 40)) (HB2 := Lib.hid (between_any k 1 40)) (HWI := HWI) (HSZ := Lib.hid rfl) (HD := Lib.hid fun y w' h h2 => tells_none (with_unfit R C l i y v r w' h hs.held h2 hg))) hs hl
theorem go_new8 (R C : Int) (l r : List Cl) (q : Look) (dd i k n : Int) (x v : Value) (w : World) (hx : Rm w x l) (hv : Rm w v r) (hs : Bnd l) (hl : l.length ≤ 3000) (hT : Tabs w) (HWI : Hid (∀ w', Calls Tryd.prog 7 #[.int .i64 dd, .int .i64 9] w' fun e w'' => e = .returned (.int .i64 8) ∧ w' = w'')) : Calls Tryd.prog 8 #[.agg #[.int .i64 R, .int .i64 C, x], .agg #[.int .i64 dd, .int .i64 i, .int .i64 k, .int .i64 n, .int .i64 q.fg, .int .i64 q.bg, .int .i64 q.flags, v]] w (Went w) := by
  obtain ⟨hxc, A, cp, rfl, hcp⟩ := hx
  have hx : Rm w (.slice A l.length cp) l := ⟨hxc, A, cp, rfl, hcp⟩
  have HGb := fun (b : Bool) (hb : b = true ↔ GridOk ⟨R, C, l⟩) => Lib.hid (fun w' (h : Below w.heap.size w w') => refGrid_any ⟨R, C, l⟩ b (.slice A l.length cp) w' (hx.kept h) hs.short (hT.kept h) (by show l.length ≤ 1000000; omega) hb)
  have HCb := fun (b : Bool) (hb : b = true ↔ GridOk ⟨R, C, l⟩) => Lib.hid (fun y w' (h : Rm w' y l) => gridCheck_any ⟨R, C, l⟩ b y w' h hs.held hb)
  have hl6 : l.length ≤ 1000000 := by omega
  by_cases hg : GridOk ⟨R, C, l⟩
  · cases hsd : sidesOk i k with
    | true =>
      cases hpen : attrOk q with
      | true =>
        obtain ⟨⟨h1, h2⟩, h3, h4⟩ := sides_yes hsd
        obtain ⟨a, rfl⟩ := Int.eq_ofNat_of_zero_le (show 0 ≤ i by omega)
        obtain ⟨b, rfl⟩ := Int.eq_ofNat_of_zero_le (show 0 ≤ k by omega)
        have hM := news_rws (r := a) (c := b) (by omega) (by omega) (by omega) (by omega) hpen
        have hsm := hM.small
        exact went (step_new8_F_t (n := n) (hx := hx) (hv := hv) (hl := hl6) (HG := HGb true ⟨fun _ => hg, fun _ => rfl⟩) (HCK := HCb true ⟨fun _ => hg, fun _ => rfl⟩) (HAT := Lib.hid (attr_at q true hpen)) (HB1 := Lib.hid (between_any a 1 40)) (HB2 := Lib.hid (between_any b 1 40)) (HWI := HWI) (HSZ := Lib.hid hsd) (hm := by omega) (HD := Lib.hid fun w' => new_fits a b q w' hpen (by omega) (by omega) (by omega) (by omega)) (HP := Lib.hid fun w' => by have := refNew_any a b q w' (by omega) (by omega); rwa [← news_flat] at this)) hM.bnd (by omega)
      | false => exact went (step_new8_B0_t (n := n) (hx := hx) (hv := hv) (hl := hl6) (HG := HGb true ⟨fun _ => hg, fun _ => rfl⟩) (HCK := HCb true ⟨fun _ => hg, fun _ => rfl⟩) (HAT := Lib.hid (attr_at q false hpen)) (HB1 := Lib.hid (between_any i 1 40)) (HB2 := Lib.hid (between_any k 1 40)) (HWI := HWI) (HSZ := Lib.hid rfl) (HD := Lib.hid fun w' => tells_none (new_unseen q i k w' hsd hpen))) hs hl
    | false =>
      cases hpen : attrOk q with
      | true => exact went (step_new8_B1_t (n := n) (hx := hx) (hv := hv) (hl := hl6) (HG := HGb true ⟨fun _ => hg, fun _ => rfl⟩) (HCK := HCb true ⟨fun _ => hg, fun _ => rfl⟩) (HAT := Lib.hid (attr_at q true hpen)) (HB1 := Lib.hid (between_any i 1 40)) (HB2 := Lib.hid (between_any k 1 40)) (HWI := HWI) (HSZ := Lib.hid hsd) (HD := Lib.hid fun w' => tells_none (new_wide q i k w' hsd))) hs hl
      | false => exact went (step_new8_B0_t (n := n) (hx := hx) (hv := hv) (hl := hl6) (HG := HGb true ⟨fun _ => hg, fun _ => rfl⟩) (HCK := HCb true ⟨fun _ => hg, fun _ => rfl⟩) (HAT := Lib.hid (attr_at q false hpen)) (HB1 := Lib.hid (between_any i 1 40)) (HB2 := Lib.hid (between_any k 1 40)) (HWI := HWI) (HSZ := Lib.hid rfl) (HD := Lib.hid fun w' => tells_none (new_wide q i k w' hsd))) hs hl
  · cases hsd : sidesOk i k with
    | true =>
      cases hpen : attrOk q with
      | true =>
        obtain ⟨⟨h1, h2⟩, h3, h4⟩ := sides_yes hsd
        obtain ⟨a, rfl⟩ := Int.eq_ofNat_of_zero_le (show 0 ≤ i by omega)
        obtain ⟨b, rfl⟩ := Int.eq_ofNat_of_zero_le (show 0 ≤ k by omega)
        have hM := news_rws (r := a) (c := b) (by omega) (by omega) (by omega) (by omega) hpen
        have hsm := hM.small
        exact went (step_new8_F_f (n := n) (hx := hx) (hv := hv) (hl := hl6) (HG := HGb false ⟨fun h => (by cases h), fun h => absurd h hg⟩) (HCK := HCb false ⟨fun h => (by cases h), fun h => absurd h hg⟩) (HAT := Lib.hid (attr_at q true hpen)) (HB1 := Lib.hid (between_any a 1 40)) (HB2 := Lib.hid (between_any b 1 40)) (HWI := HWI) (HSZ := Lib.hid hsd) (hm := by omega) (HD := Lib.hid fun w' => new_fits a b q w' hpen (by omega) (by omega) (by omega) (by omega)) (HP := Lib.hid fun w' => by have := refNew_any a b q w' (by omega) (by omega); rwa [← news_flat] at this)) hM.bnd (by omega)
      | false => exact went (step_new8_B0_f (n := n) (hx := hx) (hv := hv) (hl := hl6) (HG := HGb false ⟨fun h => (by cases h), fun h => absurd h hg⟩) (HCK := HCb false ⟨fun h => (by cases h), fun h => absurd h hg⟩) (HAT := Lib.hid (attr_at q false hpen)) (HB1 := Lib.hid (between_any i 1 40)) (HB2 := Lib.hid (between_any k 1 40)) (HWI := HWI) (HSZ := Lib.hid rfl) (HD := Lib.hid fun w' => tells_none (new_unseen q i k w' hsd hpen))) hs hl
    | false =>
      cases hpen : attrOk q with
      | true => exact went (step_new8_B1_f (n := n) (hx := hx) (hv := hv) (hl := hl6) (HG := HGb false ⟨fun h => (by cases h), fun h => absurd h hg⟩) (HCK := HCb false ⟨fun h => (by cases h), fun h => absurd h hg⟩) (HAT := Lib.hid (attr_at q true hpen)) (HB1 := Lib.hid (between_any i 1 40)) (HB2 := Lib.hid (between_any k 1 40)) (HWI := HWI) (HSZ := Lib.hid hsd) (HD := Lib.hid fun w' => tells_none (new_wide q i k w' hsd))) hs hl
      | false => exact went (step_new8_B0_f (n := n) (hx := hx) (hv := hv) (hl := hl6) (HG := HGb false ⟨fun h => (by cases h), fun h => absurd h hg⟩) (HCK := HCb false ⟨fun h => (by cases h), fun h => absurd h hg⟩) (HAT := Lib.hid (attr_at q false hpen)) (HB1 := Lib.hid (between_any i 1 40)) (HB2 := Lib.hid (between_any k 1 40)) (HWI := HWI) (HSZ := Lib.hid rfl) (HD := Lib.hid fun w' => tells_none (new_wide q i k w' hsd))) hs hl
theorem step_any (R C : Int) (l r : List Cl) (q : Look) (dd i k n : Int) (x v : Value) (w : World) (hx : Rm w x l) (hv : Rm w v r) (hs : Bnd l) (hsr : Bnd r) (hl : l.length ≤ 3000) (hr : r.length ≤ 3000) (hT : Tabs w) : Calls Tryd.prog 8 #[.agg #[.int .i64 R, .int .i64 C, x], .agg #[.int .i64 dd, .int .i64 i, .int .i64 k, .int .i64 n, .int .i64 q.fg, .int .i64 q.bg, .int .i64 q.flags, v]] w (Went w) := by
  have hlt := wi_lt dd (n := 9) (by decide)
  have hW := fun w' => lawWithin_any dd 9 (by decide) (by decide) w'
  generalize wi dd 9 = d at hlt hW
  rcases (by omega : d = 0 ∨ d = 1 ∨ d = 2 ∨ d = 3 ∨ d = 4 ∨ d = 5 ∨ d = 6 ∨ d = 7 ∨ d = 8) with rfl | rfl | rfl | rfl | rfl | rfl | rfl | rfl | rfl
  · exact go_up0 R C l r q dd i k n x v w hx hv hs hl hT (Lib.hid hW)
  · exact go_up1 R C l r q dd i k n x v w hx hv hs hl hT (Lib.hid hW)
  · exact go_down2 R C l r q dd i k n x v w hx hv hs hl hT (Lib.hid hW)
  · exact go_down3 R C l r q dd i k n x v w hx hv hs hl hT (Lib.hid hW)
  · exact go_size4 R C l r q dd i k n x v w hx hv hs hl hT (Lib.hid hW)
  · exact go_size5 R C l r q dd i k n x v w hx hv hs hl hT (Lib.hid hW)
  · exact go_row6 R C l r q dd i k n x v w hx hv hs hl hT (Lib.hid hW)
  · exact go_with7 R C l r q dd i k n x v w hx hv hs hsr hl hr hT (Lib.hid hW)
  · exact go_new8 R C l r q dd i k n x v w hx hv hs hl hT (Lib.hid hW)
end Row
end Go.Proofs.YtenhgkhonaglaaaDoor
