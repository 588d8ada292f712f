/- Contracts on a slice of texts: how much they weigh, whether that is more than is played. -/
import Derived.Test.YtkkpdfjbgiijlaaDoorSrc
namespace Go.Proofs.YtkkpdfjbgiijlaaDoor
open Go.RowKit

/-- A slice of texts. -/
def Strs (w : World) (x : Value) (ss : List ByteArray) : Prop := Src w x ss.length (ss.map Value.string)
theorem Strs.at_ {w : World} {x : Value} {ss : List ByteArray} (h : Strs w x ss) : ∃ A c, x = .slice A ss.length c ∧ ∀ k, k < ss.length → ∃ ad, A = some ad ∧ w.cell? (ad.add k) = some (.string (ss.getD k ByteArray.empty)) := by
  obtain ⟨A, c, rfl, hf⟩ := h.form
  refine ⟨A, c, rfl, fun k hk => ?_⟩
  obtain ⟨ad, e, hc⟩ := hf k hk
  exact ⟨ad, e, by rw [hc]; simp [hk]⟩
/-- Each of them, and how many they are, is at most T. -/
def Light (ss : List ByteArray) (k : Nat) (T : Nat) : Prop := ss.length ≤ T ∧ ∀ j, j < k → (ss.getD j ByteArray.empty).size ≤ T
/-- What the weight says. -/
def Weighs (ss : List ByteArray) (e : Ending) : Prop := ∃ T : Nat, T < 281474976710656 ∧ e = .returned (.int .i64 T) ∧ (T ≤ 4000 → Light ss ss.length 4000)

end Go.Proofs.YtkkpdfjbgiijlaaDoor
