/- Contracts on a slice of texts: how much they weigh, whether that is more than is played. -/
import Derived.Test.YtjodbmfjdpbbnaaDoorSrc
namespace Go.Proofs.YtjodbmfjdpbbnaaDoor
open Go.RowKit

/-- A slice of texts. -/
def Strs (w : World) (x : Value) (ss : List ByteArray) : Prop := Src w x ss.length (ss.map Value.string)
theorem Strs.at_ {w : World} {x : Value} {ss : List ByteArray} (h : Strs w x ss) : ∃ A c, x = .slice A ss.length c ∧ ∀ k, k < ss.length → ∃ ad, A = some ad ∧ w.cell? (ad.add k) = some (.string (ss.getD k ByteArray.empty)) := by
  obtain ⟨A, c, rfl, hf⟩ := h.form
  refine ⟨A, c, rfl, fun k hk => ?_⟩
  obtain ⟨ad, e, hc⟩ := hf k hk
  exact ⟨ad, e, by rw [hc]; simp [hk]⟩
/-- Each of them, and how many they are, is at most T. -/
def Light (ss : List ByteArray) (k : Nat) (T : Nat) : Prop := ss.length ≤ T ∧ ∀ j, j < k → (ss.getD j ByteArray.empty).size ≤ T
/-- What the weight says. -/
def Weighs (ss : List ByteArray) (e : Ending) : Prop := ∃ T : Nat, T < 281474976710656 ∧ e = .returned (.int .i64 T) ∧ (T ≤ 4000 → Light ss ss.length 4000)

set_option maxRecDepth 100000 in
set_option maxHeartbeats 800000 in
theorem texts_any {x : Value} (ss : List ByteArray) (w : World) (hx : Strs w x ss) (hn : ss.length ≤ 140737488355328) (hs : ∀ k, k < ss.length → (ss.getD k ByteArray.empty).size ≤ 140737488355328) :
    Calls Tryd.prog 34 #[x] w fun e w' => Weighs ss e ∧ w = w' := by
  obtain ⟨A, c, rfl, ha⟩ := hx.at_
  have ha' := Lib.hid ha
  have hs' := Lib.hid hs
  clear ha hs hx
  go_enter Tryd.func34, Tryd.ntmps34
  go_wp2_with fail
  go_loop [3, 4] (fun t i => ∃ (k T : Nat), k ≤ ss.length ∧ i = .int .i64 k ∧ t = .int .i64 T ∧ T < 281474976710656 ∧ (k < ss.length → T ≤ 140737488355328 + 1048576) ∧ Light ss k T) (fun _ i => ss.length - (intOf i).toNat)
  case atStart => exact ⟨0, ss.length, by omega, rfl, rfl, by omega, by omega, by omega, fun j h => by omega⟩
  case round =>
    obtain ⟨k, T, hk, rfl, rfl, hT, hT2, hl⟩ := hrel
    by_cases hlt : k < ss.length
    · by_cases hb : T < 1048576
      · obtain ⟨ad, rfl, h1⟩ := ha'.out k hlt
        have hsz := hs'.out k hlt
        have HL : Hid (Light ss (k + 1) (T + (ss.getD k ByteArray.empty).size)) := Lib.hid ⟨by have := hl.1; omega, fun j hj => by
          by_cases e : j = k
          · subst e; omega
          · have := hl.2 j (by omega); omega⟩
        generalize ss.getD k ByteArray.empty = p at h1 hsz HL
        have hb1 : decide ((T : Int) < 1048576) = true := decide_eq_true (by omega)
        have HT := Lib.hid hT
        clear hl hT hT2
        go_wp2_with fail
        go_round
        case rel => exact ⟨k + 1, T + p.size, by omega, by go_num, by go_num, by omega, by omega, HL.out⟩
        case measure => simp [intOf]; omega
      · have hb1 : decide ((T : Int) < 1048576) = false := decide_eq_false (by omega)
        have HB := Lib.hid hb
        have HT := Lib.hid hT
        clear hl hT2 hb hT
        go_wp2_with fail
        go_ret
        exact ⟨⟨T, HT.out, rfl, fun h => by have := HB.out; omega⟩, rfl⟩
    · have hb1 : decide ((k : Int) < (ss.length : Int)) = false := decide_eq_false (by omega)
      have HL := Lib.hid hl
      clear hl hT2
      go_wp2_with fail
      go_ret
      exact ⟨⟨T, hT, rfl, fun h => ⟨by have := HL.out.1; omega, fun j hj => by have := HL.out.2 j (by omega); omega⟩⟩, rfl⟩
set_option maxHeartbeats 800000 in
theorem heavy_any {x : Value} (ss : List ByteArray) (w : World) (hx : Strs w x ss) (hn : ss.length ≤ 140737488355328) (hs : ∀ k, k < ss.length → (ss.getD k ByteArray.empty).size ≤ 140737488355328) :
    Calls Tryd.prog 19 #[.agg #[x]] w fun e w' => (∃ b : Bool, e = .returned (.bool b) ∧ (b = false → Light ss ss.length 4000)) ∧ Below w.heap.size w w' := by
  have hx' := Lib.hid hx
  have hn' := Lib.hid hn
  have hs' := Lib.hid hs
  clear hx hn hs
  go_enter Tryd.func19, Tryd.ntmps19
  go_wp2_with fail
  refine (texts_any ss _ (Src.kept hx'.out ((Below.refl _ _).alloc (Nat.le_refl _) _)) hn'.out hs'.out).mono ?_
  rintro e w' ⟨⟨T, hT, rfl, hL⟩, rfl⟩
  have HL := Lib.hid hL
  clear hL hT
  go_wp2_with fail
  go_ret
  exact ⟨⟨_, rfl, fun h => HL.out (by have := of_decide_eq_false h; omega)⟩, (Below.refl _ _).alloc (Nat.le_refl _) _⟩
end Go.Proofs.YtjodbmfjdpbbnaaDoor
