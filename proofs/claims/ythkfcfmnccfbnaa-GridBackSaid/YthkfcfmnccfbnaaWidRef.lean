/- Contracts of the reference on widths: between, Width. -/
import Derived.Test.YthkfcfmnccfbnaaSrc
import Derived.Test.YthkfcfmnccfbnaaWidPlain
namespace Go.Proofs.Ythkfcfmnccfbnaa
open Go.RowKit

namespace Wid

theorem pairs_step (r a b : Int) (l : List Int) : pairs r (a :: b :: l) = (within r a b || pairs r l) := rfl
theorem drop_two {l : List Int} {k : Nat} (h : k + 1 < l.length) : l.drop k = l.getD k 0 :: l.getD (k + 1) 0 :: l.drop (k + 2) := by
  rw [List.drop_eq_getElem_cons (by omega), List.drop_eq_getElem_cons (by omega)]
  simp [List.getD, show k < l.length by omega, h]
theorem pairs_short {r : Int} {l : List Int} (h : l.length ≤ 1) : pairs r l = false := by
  match l, h with
  | [], _ => rfl
  | [_], _ => rfl

def noneL : List Int := [127, 159, 55296, 57343]
def markL : List Int := [768, 879, 6832, 6911, 8203, 8207, 8400, 8447, 65024, 65039, 65056, 65071]
def wideL : List Int := [4352, 4447, 11904, 12350, 12353, 42191, 44032, 55203, 63744, 64255, 65072, 65135, 65280, 65376, 65504, 65510, 127744, 128591, 129280, 129535, 131072, 262141]
theorem none_pairs (r : Int) (h : decide (r < 32) = false) (k : decide (1114111 < r) = false) : isNone r = pairs r noneL := by
  unfold isNone; rw [h, k]; simp [noneL, pairs]
theorem mark_pairs (r : Int) : isMark r = pairs r markL := by simp [isMark, markL, pairs]
theorem wide_pairs (r : Int) : isWide r = pairs r wideL := by simp [isWide, wideL, pairs]
end Wid
end Go.Proofs.Ythkfcfmnccfbnaa
