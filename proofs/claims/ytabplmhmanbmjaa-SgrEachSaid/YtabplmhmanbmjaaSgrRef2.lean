/- How cells look, the reference's side: attributes, numbers told, plain, a colour's numbers read and told. -/
import Derived.Test.YtabplmhmanbmjaaSgrRef
namespace Go.Proofs.Ytabplmhmanbmjaa
set_option maxRecDepth 100000
open Go.RowKit
namespace Sgr

def vals (a : Look) : Array Value := #[.int .i64 a.fg, .int .i64 a.bg, .int .i64 a.flags]
theorem num255_any (n : Int) (w : World) : Calls Try.prog 21 #[.int .i64 n, .int .i64 255] w fun e w' => e = .returned (.bool (rng n 0 255)) ∧ w = w' := by
  by_cases h : 0 ≤ n
  · by_cases k : n ≤ 255
    · have H : Hid (rng n 0 255 = true) := Lib.hid (by unfold rng; rw [decide_eq_true h, decide_eq_true k]; rfl)
      go_enter Try.func21, Try.ntmps21
      go_wp2_with fail
      go_ret
      exact ⟨ret_bool H.out.symm, rfl⟩
    · have H : Hid (rng n 0 255 = false) := Lib.hid (by unfold rng; rw [decide_eq_false k, Bool.and_false])
      have hd : decide (n ≤ 255) = false := decide_eq_false k
      go_enter Try.func21, Try.ntmps21
      go_wp2_with fail
      go_ret
      exact ⟨ret_bool H.out.symm, rfl⟩
  · have H : Hid (rng n 0 255 = false) := Lib.hid (by unfold rng; rw [decide_eq_false h, Bool.false_and])
    have hd : decide (0 ≤ n) = false := decide_eq_false h
    go_enter Try.func21, Try.ntmps21
    go_wp2_with fail
    go_ret
    exact ⟨ret_bool H.out.symm, rfl⟩
set_option maxHeartbeats 800000 in
theorem attr_any (a : Look) (w : World) : Calls Try.prog 7 #[.agg #[.int .i64 a.fg, .int .i64 a.bg, .int .i64 a.flags]] w fun e w' => e = .returned (.bool (attrOk a)) ∧ Below w.heap.size w w' := by
  have hb : Below w.heap.size w (w.alloc (.cells #[.int .i64 a.fg, .int .i64 a.bg, .int .i64 a.flags] 29)) := (Below.refl _ _).alloc (Nat.le_refl _) _
  have HB := Lib.hid hb
  clear hb
  cases h1 : colourOk a.fg with
  | false =>
    have HE : Hid (attrOk a = false) := Lib.hid (by unfold attrOk; rw [h1]; rfl)
    have H1 := Lib.hid h1
    clear h1
    go_enter Try.func7, Try.ntmps7
    go_wp2_with fail
    refine (colour_ok _ _).mono ?_; rw [H1.out]; rintro e w' ⟨rfl, rfl⟩
    go_wp2_with fail
    go_ret
    exact ⟨ret_bool HE.out.symm, HB.out⟩
  | true =>
    have H1 := Lib.hid h1
    cases h2 : colourOk a.bg with
    | false =>
      have HE : Hid (attrOk a = false) := Lib.hid (by unfold attrOk; rw [h1, h2]; rfl)
      have H2 := Lib.hid h2
      clear h1 h2
      go_enter Try.func7, Try.ntmps7
      go_wp2_with fail
      refine (colour_ok a.fg _).mono ?_; rw [H1.out]; rintro e w' ⟨rfl, rfl⟩
      go_wp2_with fail
      refine (colour_ok a.bg _).mono ?_; rw [H2.out]; rintro e w' ⟨rfl, rfl⟩
      go_wp2_with fail
      go_ret
      exact ⟨ret_bool HE.out.symm, HB.out⟩
    | true =>
      have HE : Hid (attrOk a = rng a.flags 0 255) := Lib.hid (by unfold attrOk; rw [h1, h2]; rfl)
      have H2 := Lib.hid h2
      clear h1 h2
      go_enter Try.func7, Try.ntmps7
      go_wp2_with fail
      refine (colour_ok a.fg _).mono ?_; rw [H1.out]; rintro e w' ⟨rfl, rfl⟩
      go_wp2_with fail
      refine (colour_ok a.bg _).mono ?_; rw [H2.out]; rintro e w' ⟨rfl, rfl⟩
      go_wp2_with fail
      refine (num255_any _ _).mono ?_; rintro e w' ⟨rfl, rfl⟩
      go_wp2_with fail
      go_ret
      exact ⟨ret_bool HE.out.symm, HB.out⟩

theorem all_getD {l : List Int} {f : Int → Bool} {k : Nat} (h : k < l.length) : (l.drop k).all f = (f (l.getD k 0) && (l.drop (k + 1)).all f) := by
  rw [List.drop_eq_getElem_cons h, List.all_cons]
  simp [List.getD, h]
set_option maxHeartbeats 800000 in
theorem params_any (l : List Int) (x : Value) (w : World) (hx : Src w x l.length (ints l)) (hl : l.length ≤ 1000000000) :
    Calls Try.prog 16 #[x, .int .i64 32] w fun e w' => e = .returned (.bool (decide (l.length ≤ 32) && paramsOk l)) ∧ w = w' := by
  obtain ⟨A, c, rfl, hA⟩ := hx.form
  have HA := Lib.hid hA
  clear hA hx
  go_enter Try.func16, Try.ntmps16
  go_wp2_with fail
  go_loopw [5] (fun i wr => ∃ k : Nat, k ≤ l.length ∧ i = .int .i64 k ∧ wr = w ∧ Hid (paramsOk l = (l.drop k).all fun n => rng n (-1) 9999)) (fun i _ => l.length - (intOf i).toNat)
  case atStart => exact ⟨0, by omega, rfl, rfl, Lib.hid (by rw [List.drop_zero]; rfl)⟩
  case round =>
    obtain ⟨k, hk, rfl, rfl, HB⟩ := hrel
    by_cases hlt : k < l.length ∧ k ≤ 32
    · obtain ⟨hlt, h32⟩ := hlt
      have hd32 : decide ((k : Int) ≤ 32) = true := decide_eq_true (by omega)
      obtain ⟨ad, rfl, hE⟩ := HA.out k hlt
      rw [ints_get hlt] at hE
      have HS := Lib.hid (all_getD (f := fun n => rng n (-1) 9999) hlt)
      generalize l.getD k 0 = y at hE HS
      cases hy : rng y (-1) 9999 with
      | false =>
        have HY := Lib.hid hy
        have HF : Hid ((decide (l.length ≤ 32) && paramsOk l) = false) := Lib.hid (by rw [HB.out, HS.out, hy, Bool.false_and, Bool.and_false])
        clear hy
        go_wp2_with fail
        refine (between_any y (-1) 9999 _).mono ?_; rw [HY.out]; rintro e w' ⟨rfl, rfl⟩
        go_wp2_with fail
        go_ret
        exact ⟨ret_bool HF.out.symm, rfl⟩
      | true =>
        have HY := Lib.hid hy
        have HT : Hid (paramsOk l = (l.drop (k + 1)).all fun n => rng n (-1) 9999) := Lib.hid (by rw [HB.out, HS.out, hy, Bool.true_and])
        clear hy
        go_wp2_with fail
        refine (between_any y (-1) 9999 _).mono ?_; rw [HY.out]; rintro e w' ⟨rfl, rfl⟩
        go_wp2_with fail
        go_roundw
        case rel => exact ⟨k + 1, by omega, by go_num, by trivial, HT⟩
        case measure => simp [intOf]; omega
    · by_cases hkl : k < l.length
      · have hk6 : decide ((k : Int) ≤ 32) = false := decide_eq_false (by omega)
        have hk7 : decide ((l.length : Int) ≤ 32) = false := decide_eq_false (by omega)
        have HF : Hid ((decide (l.length ≤ 32) && paramsOk l) = false) := Lib.hid (by rw [decide_eq_false (by omega), Bool.false_and])
        clear hlt
        go_wp2_with fail
        go_ret
        exact ⟨ret_bool HF.out.symm, rfl⟩
      · have hk6 : decide (k < l.length) = false := decide_eq_false hkl
        have hP : paramsOk l = true := by rw [HB.out, List.drop_eq_nil_of_le (by omega)]; rfl
        have HF : Hid ((decide (l.length ≤ 32) && paramsOk l) = decide ((l.length : Int) ≤ 32)) := Lib.hid (by
          rw [hP, Bool.and_true, decide_eq_decide]; omega)
        clear hlt hP hkl
        go_wp2_with fail
        go_ret
        exact ⟨ret_bool (by rw [HF.out]), rfl⟩
end Sgr
end Go.Proofs.Ytabplmhmanbmjaa
