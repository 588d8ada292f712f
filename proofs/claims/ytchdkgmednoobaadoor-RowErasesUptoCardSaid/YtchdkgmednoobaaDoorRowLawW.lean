/- What the laws on rows share: a number brought within bounds, the law that wakes; that a row that may be has short texts. -/
import Derived.Test.YtchdkgmednoobaaDoorRowAsk
import Derived.Test.YtchdkgmednoobaaDoorRowIns
import Derived.Test.YtchdkgmednoobaaDoorRowRow
namespace Go.Proofs.YtchdkgmednoobaaDoor
set_option maxRecDepth 100000
open Go.RowKit
namespace Row
open Utf Wid

theorem num_eq (n : Int) (w : World) : Calls Tryd.prog 7 #[.int .i64 n] w fun e w' => e = .returned (.int .i64 n) ∧ w = w' := by
  go_enter Tryd.func7, Tryd.ntmps7
  go_wp2_with fail
  go_ret
  exact ⟨rfl, rfl⟩
/-- A number brought within bounds. -/
def wi (i : Int) (n : Nat) : Nat := (i % 18446744073709551616).toNat % n
theorem wi_lt (i : Int) {n : Nat} (h : 0 < n) : wi i n < n := Nat.mod_lt _ h
theorem lawWithin_any (i : Int) (n : Nat) (h0 : 0 < n) (hn : n ≤ 1000000) (w : World) : Calls Tryd.prog 10 #[.int .i64 i, .int .i64 n] w fun e w' => e = .returned (.int .i64 (wi i n)) ∧ w = w' := by
  have h1 : IntKind.u64.wrap i = i % 18446744073709551616 := by rw [IntKind.wrap_u64]
  have h2 : IntKind.u64.wrap (n : Int) = (n : Int) := by rw [IntKind.wrap_u64]; omega
  have hb : 0 ≤ i % 18446744073709551616 := Int.emod_nonneg _ (by decide)
  have hlt : (wi i n) < n := Nat.mod_lt _ h0
  obtain ⟨q, hq⟩ : ∃ q : Nat, i % 18446744073709551616 = (q : Int) := ⟨(i % 18446744073709551616).toNat, by omega⟩
  have h3 : (q : Int) % (n : Int) = ((wi i n : Nat) : Int) := by unfold wi; rw [hq]; simp
  rw [hq] at h1
  have hne : ((n : Int) == 0) = false := by rw [beq_eq_false_iff_ne]; omega
  generalize wi i n = k at h3 hlt ⊢
  clear hb hq
  go_enter Tryd.func10, Tryd.ntmps10
  go_wp2_with fail
  go_ret
  exact ⟨rfl, rfl⟩

theorem dec_four (l : List UInt8) : (dec l).2 ≤ 4 := by
  rcases decodeN_cases l.length (l.getD 0 0).toNat (l.getD 1 0).toNat (l.getD 2 0).toNat (l.getD 3 0).toNat (byte_lt _) (byte_lt _) (byte_lt _) (byte_lt _) with e | ⟨_, e⟩ | ⟨_, _, _, e⟩ | ⟨_, _, _, _, e⟩ | ⟨_, _, _, _, _, e⟩
  all_goals
    unfold dec
    rw [e]
    exact Nat.le_of_ble_eq_true rfl
theorem marks_long : ∀ (k : Nat) (l : List UInt8) (n : Nat), l.length ≤ k → marks l = some n → l.length ≤ 4 * n
  | 0, l, n, h, _ => by omega
  | k + 1, l, n, h, hm => by
    by_cases hl : l = []
    · subst hl; simp
    · rw [marks_step hl] at hm
      have h1 := dec_pos hl
      have h2 := dec_le hl
      have h4 := dec_four l
      by_cases hw : wid (dec l).1 = 0
      · rw [if_pos hw] at hm
        obtain ⟨m, hm', hmn⟩ := Option.map_eq_some_iff.1 hm
        have := marks_long k (l.drop (dec l).2) m (by rw [List.length_drop]; omega) hm'
        rw [List.length_drop] at this
        omega
      · rw [if_neg hw] at hm; cases hm
theorem combOk_short {m : List UInt8} (h : combOk m = true) : m.length ≤ 8 := by
  unfold combOk at h
  cases hm : marks m with
  | none => rw [hm] at h; cases h
  | some n =>
    rw [hm] at h
    have h2 : n ≤ 2 := of_decide_eq_true h
    have := marks_long m.length m n (Nat.le_refl _) hm
    omega
theorem good_texts {l : List Cl} (h : Good l) : ∀ i, i < l.length → (g l i).comb.length ≤ 8 := by
  intro i hi
  have hk := okAt_kind (h i hi)
  cases hc : combOk (g l i).comb with
  | true => exact combOk_short hc
  | false => exact absurd (kind_bad hc) hk
theorem RowOk.held {l : List Cl} (h : RowOk l) : Held l := fun i hi => by have := good_texts h.2.2 i hi; omega
theorem RowOk.short {l : List Cl} (h : RowOk l) : Short l := fun i hi => by have := good_texts h.2.2 i hi; omega

/-! ### the law wakes -/
def plainA : Look := ⟨-1, -1, 0⟩
theorem three_ok : RowOk (List.replicate 3 (blank plainA)) := ⟨by simp, by simp, good_blanks (by decide) 3⟩
theorem wide_mid : mid (List.replicate 3 (blank plainA)) 1 (1 + 2) (cellsOf 19968 plainA) = [blank plainA, ⟨19968, [], 1, plainA⟩, sec plainA] := by rfl
set_option maxHeartbeats 800000 in
theorem wakes_any (w : World) : Calls Tryd.prog 16 #[] w fun e w' => e = .returned (.bool true) ∧ Below w.heap.size w w' := by
  have HB := Lib.hid (fun w' => rowBlank_fits 3 plainA w' (by decide) (by decide) (by decide))
  have HP := Lib.hid (fun x w' (h : Cs w' x (List.replicate 3 (blank plainA))) => put_fits (List.replicate 3 (blank plainA)) plainA 1 2 19968 x w' h three_ok.held (by simp) three_ok (by decide) (by decide) (by decide) (by simp))
  rw [wide_mid] at HP
  have HB : Hid (∀ w', Calls Tryd.prog 28 #[.int .i64 3, .agg #[.int .i64 (-1), .int .i64 (-1), .int .i64 0]] w' fun e w'' => ∃ v, e = .returned (.tuple #[v, .int .i64 0]) ∧ OwnCs w'' w'.heap.size v (List.replicate 3 (blank plainA)) ∧ Below w'.heap.size w' w'') := HB
  have HP : Hid (∀ x w', Cs w' x (List.replicate 3 (blank plainA)) → Calls Tryd.prog 11 #[x, .int .i64 1, .int .i64 19968, .agg #[.int .i64 (-1), .int .i64 (-1), .int .i64 0]] w' fun e w'' => ∃ v, e = .returned (.tuple #[v, .int .i64 0]) ∧ OwnCs w'' w'.heap.size v [blank plainA, ⟨19968, [], 1, plainA⟩, sec plainA] ∧ Below w'.heap.size w' w'') := HP
  go_enter Tryd.func16, Tryd.ntmps16
  go_wp2_with fail
  refine (HB.out _).mono ?_; rintro e w1 ⟨v1, rfl, ho1, hb1⟩
  have HC1 := Lib.hid ho1.cs
  have HB1 := Lib.hid hb1
  clear ho1 hb1
  go_wp2_with fail
  refine (HP.out _ _ HC1.out).mono ?_; rintro e w2 ⟨v2, rfl, ho2, hb2⟩
  have HB2 : Hid (Below w.heap.size w w2) := Lib.hid (HB1.out.trans (hb2.mono HB1.out.size))
  rcases ho2.shape with ⟨_, e⟩ | ⟨b, cap, rfl, _, _⟩
  · cases e
  · have c1 : w2.cell? ⟨b, 8, none⟩ = some (.int .i64 1) := ho2.cell (k := 1) (j := 2) (by simp) (by decide)
    have c2 : w2.cell? ⟨b, 14, none⟩ = some (.int .i64 2) := ho2.cell (k := 2) (j := 2) (by simp) (by decide)
    clear ho2 hb2
    go_wp2_with fail
    refine (num_eq _ _).mono ?_; rintro e w' ⟨rfl, rfl⟩
    go_wp2_with fail
    refine (num_eq _ _).mono ?_; rintro e w' ⟨rfl, rfl⟩
    go_wp2_with fail
    go_ret
    exact ⟨rfl, HB2.out⟩
end Row
end Go.Proofs.YtchdkgmednoobaaDoor
