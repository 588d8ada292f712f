/- Contract of the reference's All. -/
import Derived.Test.YthoakfnilacmnaaDoorUtfRefC
namespace Go.Proofs.YthoakfnilacmnaaDoor
open Go.RowKit
namespace Utf

theorem take_byte (s : ByteArray) {k : Nat} (h : k < s.size) : s.data.toList.take (k + 1) = s.data.toList.take k ++ [s[k]] := by
  rw [List.take_succ_eq_append_getElem (by simpa using h)]; rfl

set_option maxHeartbeats 800000 in
theorem refAll_any (p s : ByteArray) (w : World) (hp : fits p.data.toList = true) (hs : s.size ≤ 1000000) :
    Calls Tryd.prog 17 #[.string p, .string s] w (Gives w (all p.data.toList s.data.toList)) := by
  go_enter Tryd.func17, Tryd.ntmps17
  go_wp2_with fail
  go_loopw [0, 6, 7] (fun t v i wr => ∃ (k : Nat) (X : List Int × List UInt8), k ≤ s.size ∧ i = .int .i64 k ∧ Hid (all p.data.toList (s.data.toList.take k) = X) ∧ t = .string ⟨X.2.toArray⟩ ∧
    wr.ownsRow w.heap.size 3 1 v X.1.length (ints X.1) ∧ Below w.heap.size w wr) (fun _ _ i _ => s.size - (intOf i).toNat)
  case atStart => exact ⟨0, ([], p.data.toList), by omega, rfl, Lib.hid rfl, rfl, World.ownsRow_nil _ _ _ _, Below.refl _ _⟩
  case round =>
    obtain ⟨k, X, hk, rfl, HX, rfl, hown, hbl⟩ := hrel
    have hfit : fits X.2 = true := by rw [← HX.out]; exact all_fits _ hp
    have hlen : X.1.length ≤ 2 * s.size := by
      rw [← HX.out]
      have := all_len p.data.toList (s.data.toList.take k)
      simp at this
      omega
    by_cases hlt : k < s.size
    · have HT : Hid (all p.data.toList (s.data.toList.take (k + 1)) = (X.1 ++ (next X.2 s[k]).1, (next X.2 s[k]).2)) := Lib.hid (by rw [take_byte s hlt, all_snoc, HX.out])
      have hnl := next_len X.2 s[k]
      go_wp2_with fail
      refine (next_any _ X.2 rfl s[k] rfl _ hfit).mono ?_; rintro e w1 ⟨v1, rfl, ho1, hb1⟩
      go_wp2_with (at_builtin; refine wp_append_ints rfl rfl w.heap.size _ _ X.1 rfl (own_kept hown hb1) _ _ (next X.2 s[k]).1 rfl (Src.own ho1) (by omega) (by have := hbl.size; have := hb1.size; omega) ?_; intro v2 w2 ho2 hg2 hat2)
      go_roundw
      case rel => exact ⟨k + 1, _, by omega, by go_num, HT, rfl, by rw [List.length_append]; exact ho2, below_own (hbl.trans (hb1.mono hbl.size)) hg2 (by have := hbl.size; have := hb1.size; omega) (own_kept hown hb1)⟩
      case measure => simp [intOf]; omega
    · have hE : X = all p.data.toList s.data.toList := by
        rw [← HX.out, List.take_of_length_le (by show s.size ≤ k; omega)]
      have HE := Lib.hid hE
      clear hE
      go_wp2_with fail
      go_ret2
      rw [← HE.out]
      exact ⟨_, rfl, hown, hbl⟩
end Utf
end Go.Proofs.YthoakfnilacmnaaDoor
