/- The developers' Apply: obey, the numbers as they are meant, the loop. -/
import Derived.Test.YtabplmhmanbmjaaSgrDev3
namespace Go.Proofs.Ytabplmhmanbmjaa
set_option maxRecDepth 100000
open Go.RowKit
namespace Sd
open Sgr
set_option maxHeartbeats 3200000 in
theorem obey_any (a : Look) (o : Ord) (w : World) : Calls Try.prog 28 #[.agg #[.int .i64 a.fg, .int .i64 a.bg, .int .i64 a.flags], ordVal o] w fun e w' => e = .returned (.agg #[.int .i64 (obeyOf a o).fg, .int .i64 (obeyOf a o).bg, .int .i64 (obeyOf a o).flags]) ∧ Below w.heap.size w w' := by
  cases o with
  | void =>
    simp only [ordVal, obeyOf]
    go_enter Try.func28, Try.ntmps28
    go_wp2_with fail
    refine bodyPost_ret (v := .agg #[.int .i64 a.fg, .int .i64 a.bg, .int .i64 a.flags]) (by simp [results, Try.results28, go_sem]) rfl ⟨rfl, ?_⟩
    go_grown
  | plain =>
    simp only [ordVal, obeyOf, bare]
    go_enter Try.func28, Try.ntmps28
    go_wp2_with fail
    refine bodyPost_ret (v := .agg #[.int .i64 (-1), .int .i64 (-1), .int .i64 0]) (by simp [results, Try.results28, go_sem]) rfl ⟨rfl, ?_⟩
    go_grown
  | on f =>
    simp only [ordVal, obeyOf, addFlag]
    go_enter Try.func28, Try.ntmps28
    go_wp2_with fail
    refine bodyPost_ret (v := .agg #[.int .i64 a.fg, .int .i64 a.bg, .int .i64 (bits .or .i64 a.flags f)]) (by simp [results, Try.results28, go_sem]) rfl ⟨rfl, ?_⟩
    go_grown
  | off f =>
    simp only [ordVal, obeyOf, subFlag]
    go_enter Try.func28, Try.ntmps28
    go_wp2_with fail
    refine bodyPost_ret (v := .agg #[.int .i64 a.fg, .int .i64 a.bg, .int .i64 (bits .andNot .i64 a.flags f)]) (by simp [results, Try.results28, go_sem]) rfl ⟨rfl, ?_⟩
    go_grown
  | front c =>
    simp only [ordVal, obeyOf]
    go_enter Try.func28, Try.ntmps28
    go_wp2_with fail
    refine bodyPost_ret (v := .agg #[.int .i64 c, .int .i64 a.bg, .int .i64 a.flags]) (by simp [results, Try.results28, go_sem]) rfl ⟨rfl, ?_⟩
    go_grown
  | back c =>
    simp only [ordVal, obeyOf]
    go_enter Try.func28, Try.ntmps28
    go_wp2_with fail
    refine bodyPost_ret (v := .agg #[.int .i64 a.fg, .int .i64 c, .int .i64 a.flags]) (by simp [results, Try.results28, go_sem]) rfl ⟨rfl, ?_⟩
    go_grown

/-! ### the numbers as they are meant -/
theorem make_ints (n : Nat) (hn : n ≤ 1000000) (w : World) : ∃ wm, (Instr.makeSlice 30 (.int .i64 n) (.int .i64 n)).run Try.prog w = .ok (.slice (some ⟨w.heap.size, 0, none⟩) n n) wm ∧
    wm.ownsRow w.heap.size 3 1 (.slice (some ⟨w.heap.size, 0, none⟩) n n) n (ints (List.replicate n 0)) ∧ Below w.heap.size w wm := by
  obtain ⟨i, hi, hz, h1, h2⟩ := Try.int_row
  obtain ⟨wm, hr, ho, hg⟩ := run_make_full (P := Try.prog) w w.heap.size 30 3 i _ 1 Try.underlying30 hi hz h1 .i64 .i64 n (by rw [h2]; omega) (by simp only [maxLen]; omega) (Nat.le_refl _)
  refine ⟨wm, hr, ?_, ⟨hg.os, hg.tape, hg.output, hg.size, fun k hk => hg.block k hk (by simp)⟩⟩
  rw [Nat.mul_one, show (Value.int .i64 0).cells = #[.int .i64 0] from rfl, toList_madeCells_one] at ho
  unfold ints
  rw [List.map_replicate]; exact ho
theorem clear_new (b n c : Nat) : ∀ g, g < b → Clear g (.slice (some ⟨b, 0, none⟩) n c) := fun g hg ad n' c' e => by
  injection e with e1 _ _
  obtain rfl : (⟨b, 0, none⟩ : Addr) = ad := by simpa using e1
  show b ≠ g
  omega
def soFar (l : List Int) (k : Nat) : List Int := (zeros l).take k ++ List.replicate (l.length - k) 0
theorem soFar_set {l : List Int} {k : Nat} (h : k < l.length) : (ints (soFar l k)).set k (.int .i64 (max 0 (l.getD k 0))) = ints (soFar l (k + 1)) := by
  have hz : (zeros l).length = l.length := by simp [zeros]
  have hg : (zeros l)[k]'(by omega) = max 0 (l.getD k 0) := by simp [zeros, List.getD, h]
  have hm : k - min k (zeros l).length = 0 := by omega
  unfold soFar ints
  rw [show l.length - k = (l.length - (k + 1)) + 1 by omega, List.replicate_succ, ← hg]
  rw [← List.map_set, List.set_append_right _ _ (by rw [List.length_take]; omega), List.length_take, hm, List.set_cons_zero, List.take_succ_eq_append_getElem (by omega), List.append_assoc]
  rfl
theorem soFar_len (l : List Int) (k : Nat) (h : k ≤ l.length) : (soFar l k).length = l.length := by unfold soFar; simp [zeros]; omega
theorem meant_len (l : List Int) : (meantOf l).length ≤ max l.length 1 := by
  unfold meantOf; split
  · simp; omega
  · simp [zeros]; omega
set_option maxHeartbeats 1600000 in
theorem meant_any (l : List Int) (x : Value) (w : World) (hx : Sl w x l) (hl : l.length ≤ 1000000) :
    Calls Try.prog 26 #[x] w fun e w' => ∃ V, e = .returned V ∧ Sl w' V (meantOf l) ∧ (∀ g, g < w.heap.size → Clear g V) ∧ Below w.heap.size w w' := by
  obtain ⟨A, c, rfl, hc⟩ := hx.room
  have HG := Lib.hid hx.get
  by_cases h0 : l = []
  · subst h0
    obtain ⟨wm, hm, ho, hb⟩ := make_ints 1 (by decide) w
    have HO : Hid (Sl wm (.slice (some ⟨w.heap.size, 0, none⟩) 1 1) (meantOf [])) := Lib.hid (Sl.own (xs := [0]) ho)
    have HB := Lib.hid hb
    have hm1 : (Instr.makeSlice 30 (.int .i64 1) (.int .i64 1)).run Try.prog w = .ok (.slice (some ⟨w.heap.size, 0, none⟩) 1 1) wm := hm
    clear hx hc ho hb hl hm
    simp only [List.length_nil]
    go_enter Try.func26, Try.ntmps26
    go_wp2_with fail
    go_rounds 1
    go_ret
    exact ⟨_, rfl, HO.out, clear_new _ _ _, HB.out⟩
  have hp : 0 < l.length := List.length_pos_iff.2 h0
  have HM : Hid (meantOf l = zeros l) := Lib.hid (by unfold meantOf; rw [if_neg h0])
  obtain ⟨wm, hm, ho, hb⟩ := make_ints l.length hl w
  have HO := Lib.hid ho
  have HB := Lib.hid hb
  have hd1 : decide ((l.length : Int) < 1) = false := decide_eq_false (by omega)
  clear hx hc ho hb h0
  go_enter Try.func26, Try.ntmps26
  go_wp2_with fail
  clear hm
  go_loopw [12] (fun i wr => ∃ k : Nat, k ≤ l.length ∧ i = .int .i64 k ∧ wr.ownsRow w.heap.size 3 1 (.slice (some ⟨w.heap.size, 0, none⟩) l.length l.length) l.length (ints (soFar l k)) ∧ Below w.heap.size w wr) (fun i _ => l.length - (intOf i).toNat)
  case atStart => exact ⟨0, by omega, rfl, by unfold soFar; exact HO.out, HB.out⟩
  case round =>
    obtain ⟨k, hk, rfl, hown, hbl⟩ := hrel
    by_cases hlt : k < l.length
    · obtain ⟨ad, rfl, hE⟩ := HG.out k hlt
      have hE := cell_kept hbl hE
      have hsl : (ints (soFar l k)).length = l.length := by rw [ints_length, soFar_len l k hk]
      obtain ⟨u0, hcl⟩ : ∃ u0, wr.cell? ⟨w.heap.size, k, none⟩ = some u0 := ⟨_, by rw [hown.cellAt k (by omega), List.getElem?_eq_getElem (by omega)]⟩
      have hfr := hown.frozenAt k
      have hst := hown.stored k (.int .i64 (max 0 (l.getD k 0)))
      rw [soFar_set hlt] at hst
      have HST := Lib.hid hst
      clear hst hsl
      generalize l.getD k 0 = y at *
      by_cases hy : y < 0
      · have HMX : Hid (max 0 y = 0) := Lib.hid (by omega)
        go_wp2_with fail
        go_roundw
        case rel =>
          have h := HST.out
          rw [HMX.out] at h
          exact ⟨k + 1, by omega, by go_num, h.1, hbl.setCell (Nat.le_refl _) _⟩
        case measure => simp [intOf]; omega
      · have HMX : Hid (max 0 y = y) := Lib.hid (by omega)
        have hdy : decide (y < 0) = false := decide_eq_false hy
        go_wp2_with fail
        go_roundw
        case rel =>
          have h := HST.out
          rw [HMX.out] at h
          exact ⟨k + 1, by omega, by go_num, h.1, hbl.setCell (Nat.le_refl _) _⟩
        case measure => simp [intOf]; omega
    · have hk' : k = l.length := by omega
      have hd : decide (k < l.length) = false := decide_eq_false hlt
      have HE : Hid (soFar l k = zeros l) := Lib.hid (by unfold soFar; rw [hk', Nat.sub_self, List.take_of_length_le (by simp [zeros])]; simp)
      clear hlt hk'
      go_wp2_with fail
      go_ret
      refine ⟨_, rfl, ?_, clear_new _ _ _, hbl⟩
      rw [HM.out]
      rw [HE.out] at hown
      have hz : (zeros l).length = l.length := by simp [zeros]
      rw [← hz] at hown ⊢
      exact Sl.own hown
end Sd
end Go.Proofs.Ytabplmhmanbmjaa
