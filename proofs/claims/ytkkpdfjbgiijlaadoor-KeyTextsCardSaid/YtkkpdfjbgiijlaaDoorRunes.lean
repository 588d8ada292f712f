/- Runes of a text by range: what the model's own step decodes, as plain lists; an iterator's world. -/
import Derived.Test.YtkkpdfjbgiijlaaDoorBase
import Derived.Test.YtkkpdfjbgiijlaaDoorUtfPlain
import Derived.Laws.RangeAny
import Derived.Laws.Runes
import Derived.LoopTactic
import Derived.Lib.OthersKept
namespace Go.Proofs.YtkkpdfjbgiijlaaDoor
open Go.RowKit
namespace Utf

theorem dec_at (s : ByteArray) (pos : Nat) : Utf8.decode s pos = dec (s.data.toList.drop pos) := by
  rw [← Lib.decodeL_drop, Lib.decodeL_N]; rfl
theorem drop_ne {s : ByteArray} {pos : Nat} (h : pos < s.size) : s.data.toList.drop pos ≠ [] := by
  intro e
  have : (s.data.toList.drop pos).length = 0 := by rw [e]; rfl
  rw [List.length_drop] at this
  have : s.data.toList.length = s.size := rfl
  omega
theorem below_iter {B : Nat} {a w : World} (h : Below B a w) (hB : B ≤ w.heap.size) (s : ByteArray) (pos : Nat) : Below B a (w.iter s pos) := h.alloc hB _
theorem extract_list (s : ByteArray) (i j : Nat) : (s.extract i j).data.toList = (s.data.toList.take j).drop i := by
  rw [ByteArray.data_extract, Array.toList_extract]; simp [List.drop_take]
theorem own_moved {w : World} {B e n : Nat} {v : Value} {xs : List Value} {k : Nat} {s : ByteArray} {pos : Nat} (h : w.ownsRow B e 1 v n xs) (hk : w.heap[k]? = some (.stringIter s pos)) (q : Nat) : (w.iterAt k s q).ownsRow B e 1 v n xs := by
  refine ⟨h.1, ?_⟩
  rcases h.2 with h0 | ⟨g, cap, cur, hv, hb, hg, rest⟩
  · exact .inl h0
  · refine .inr ⟨g, cap, cur, hv, hb, ?_, rest⟩
    have hne : g ≠ k := by rintro rfl; rw [hk] at hg; cases hg
    rw [Lib.iterAt_other w k g s q hne]; exact hg
theorem take_more (l : List UInt8) (a b : Nat) : l.take (a + b) = l.take a ++ (l.drop a).take b := List.take_add
theorem own_len {l : List UInt8} (h : own l = true) : 3 ≤ l.length := by
  match l with
  | [] => simp [own] at h
  | [_] => simp [own] at h
  | [_, _] => simp [own] at h
  | _ :: _ :: _ :: _ => simp
theorem own_take {l : List UInt8} (h : 3 ≤ l.length) : own l = (l.take 3 == [239, 191, 189]) := by
  match l, h with
  | a :: b :: c :: r, _ =>
    show (a == 239 && (b == 191 && c == 189)) = ([a, b, c] == [239, 191, 189])
    simp
theorem dec_small (l : List UInt8) : (dec l).1 ≤ 1114111 := by
  rcases decodeN_cases l.length (l.getD 0 0).toNat (l.getD 1 0).toNat (l.getD 2 0).toNat (l.getD 3 0).toNat (byte_lt _) (byte_lt _) (byte_lt _) (byte_lt _) with e | ⟨h1, e⟩ | ⟨hn, h1, h2, e⟩ | ⟨hn, h1, h2, h3, e⟩ | ⟨hn, h1, h2, h3, h4, e⟩
  · unfold dec; rw [e]; decide
  · unfold dec; rw [e]; show _ ≤ _; simp only; omega
  · unfold dec; rw [e]; simp only; omega
  · unfold dec; rw [e]; simp only; omega
  · unfold dec; rw [e]; simp only
    have q := follows_iff.1 h2
    unfold more at h1
    unfold low high at q
    simp only [if_true] at q
    repeat' split at h1
    all_goals (repeat' split at q)
    all_goals omega
end Utf
end Go.Proofs.YtkkpdfjbgiijlaaDoor
