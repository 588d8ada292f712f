/- That a row that may be has short texts. -/
import Derived.Test.YthkfcfmnccfbnaaRowCheck
namespace Go.Proofs.Ythkfcfmnccfbnaa
set_option maxRecDepth 100000
open Go.RowKit
namespace Row
open Utf Wid

theorem dec_four (l : List UInt8) : (dec l).2 ≤ 4 := by
  rcases decodeN_cases l.length (l.getD 0 0).toNat (l.getD 1 0).toNat (l.getD 2 0).toNat (l.getD 3 0).toNat (byte_lt _) (byte_lt _) (byte_lt _) (byte_lt _) with e | ⟨_, e⟩ | ⟨_, _, _, e⟩ | ⟨_, _, _, _, e⟩ | ⟨_, _, _, _, _, e⟩
  all_goals
    unfold dec
    rw [e]
    exact Nat.le_of_ble_eq_true rfl
theorem marks_long : ∀ (k : Nat) (l : List UInt8) (n : Nat), l.length ≤ k → marks l = some n → l.length ≤ 4 * n
  | 0, l, n, h, _ => by omega
  | k + 1, l, n, h, hm => by
    by_cases hl : l = []
    · subst hl; simp
    · rw [marks_step hl] at hm
      have h1 := dec_pos hl
      have h2 := dec_le hl
      have h4 := dec_four l
      by_cases hw : wid (dec l).1 = 0
      · rw [if_pos hw] at hm
        obtain ⟨m, hm', hmn⟩ := Option.map_eq_some_iff.1 hm
        have := marks_long k (l.drop (dec l).2) m (by rw [List.length_drop]; omega) hm'
        rw [List.length_drop] at this
        omega
      · rw [if_neg hw] at hm; cases hm
theorem combOk_short {m : List UInt8} (h : combOk m = true) : m.length ≤ 8 := by
  unfold combOk at h
  cases hm : marks m with
  | none => rw [hm] at h; cases h
  | some n =>
    rw [hm] at h
    have h2 : n ≤ 2 := of_decide_eq_true h
    have := marks_long m.length m n (Nat.le_refl _) hm
    omega
theorem good_texts {l : List Cl} (h : Good l) : ∀ i, i < l.length → (g l i).comb.length ≤ 8 := by
  intro i hi
  have hk := okAt_kind (h i hi)
  cases hc : combOk (g l i).comb with
  | true => exact combOk_short hc
  | false => exact absurd (kind_bad hc) hk
theorem RowOk.held {l : List Cl} (h : RowOk l) : Held l := fun i hi => by have := good_texts h.2.2 i hi; omega
end Row
end Go.Proofs.Ythkfcfmnccfbnaa
