/- Whether the keys' laws' argument weighs much. -/
import Derived.Test.YtkkpdfjbgiijlaaDoorKeyRef
import Derived.Test.YtkkpdfjbgiijlaaDoorTexts
namespace Go.Proofs.YtkkpdfjbgiijlaaDoor
set_option maxRecDepth 100000
open Go.RowKit Tri KeyM
namespace Key

/-- The argument's box. -/
abbrev abx (x : Value) (m : Int) (y : Value) : Obj := .cells #[x, .int .i64 m, y] 25 (0, 0)
/-- What a no means. -/
def Few (K : List T3) (S : List ByteArray) : Prop := K.length ≤ 4000 ∧ ∀ j, j < S.length → (S.getD j ByteArray.empty).size ≤ 4000
def Weighed (K : List T3) (S : List ByteArray) (w : World) (e : Ending) (w' : World) : Prop := ∃ b : Bool, e = .returned (.bool b) ∧ (b = false → Few K S) ∧ Below w.heap.size w w'
set_option maxHeartbeats 1600000 in
theorem heavy_key (A : Option Addr) (c : Nat) (m : Int) (y : Value) (K : List T3) (S : List ByteArray) (w : World) (hy : Strs w y S) (hn : K.length ≤ 140737488355328) (hm : S.length ≤ 140737488355328) (hs : ∀ k, k < S.length → (S.getD k ByteArray.empty).size ≤ 140737488355328) :
    Calls Tryd.prog 6 #[.agg #[.slice A K.length c, .int .i64 m, y]] w (Weighed K S w) := by
  obtain ⟨A', c', rfl, hat⟩ := hy.at_
  have HAT := Lib.hid hat
  have HSZ := Lib.hid hs
  have HN := Lib.hid hn
  have HM := Lib.hid hm
  have HB0 : Hid (Below w.heap.size w (w.alloc (abx (.slice A K.length c) m (.slice A' S.length c')))) := Lib.hid ((Below.refl _ _).alloc (Nat.le_refl _) _)
  have HP0 : Hid ((w.alloc (abx (.slice A K.length c) m (.slice A' S.length c'))).heap[w.heap.size]? = some (abx (.slice A K.length c) m (.slice A' S.length c'))) := Lib.hid (heap_alloc_new _ _)
  clear hat hs hn hm hy
  go_enter Tryd.func6, Tryd.ntmps6
  go_wp2_with fail
  have hc2 : (w.alloc (abx (.slice A K.length c) m (.slice A' S.length c'))).cell? ⟨w.heap.size, 2, none⟩ = some (.slice A' S.length c') := Blk.cell HP0.out 2
  generalize w.alloc (abx (.slice A K.length c) m (.slice A' S.length c')) = wa at HB0 HP0 hc2 ⊢
  go_loopw [3, 4] (fun n i wr => ∃ k s : Nat, k ≤ S.length ∧ i = .int .i64 k ∧ n = .int .i64 s ∧ Hid (s ≤ 300000000000000 ∧ K.length ≤ s ∧ ∀ j, j < k → (S.getD j ByteArray.empty).size ≤ s) ∧ wr = wa) (fun _ i _ => S.length - (intOf i).toNat)
  case atStart => exact ⟨0, K.length, by omega, rfl, rfl, Lib.hid ⟨by have := HN.out; omega, Nat.le_refl _, fun j hj => absurd hj (by omega)⟩, rfl⟩
  case round =>
    obtain ⟨k, s, hk, rfl, rfl, HS, rfl⟩ := hrel
    have HL : Hid (∀ b : Bool, b = decide (4000 < (s : Int)) → (k = S.length ∨ 1048576 ≤ s) → Weighed K S w (.returned (.bool b)) wr) := Lib.hid fun b hb h2 => by
      refine ⟨b, rfl, fun hf => ?_, HB0.out⟩
      obtain ⟨_, q2, q3⟩ := HS.out
      rw [hf] at hb
      have := of_decide_eq_false hb.symm
      have hkt : k = S.length := by omega
      exact ⟨by omega, fun j hj => by have := q3 j (by omega); omega⟩
    by_cases hlt : k < S.length
    · by_cases hs : s < 1048576
      · obtain ⟨ad, rfl, h1⟩ := HAT.out k hlt
        have h1 := cell_kept HB0.out h1
        have hsz := HSZ.out k hlt
        have HS' : Hid (s + (S.getD k ByteArray.empty).size ≤ 300000000000000 ∧ K.length ≤ s + (S.getD k ByteArray.empty).size ∧ ∀ j, j < k + 1 → (S.getD j ByteArray.empty).size ≤ s + (S.getD k ByteArray.empty).size) := Lib.hid (by
          obtain ⟨q0, q1, q2⟩ := HS.out
          refine ⟨by omega, by omega, fun j hj => ?_⟩
          by_cases e : j = k
          · subst e; omega
          · have := q2 j (by omega); omega)
        have hwk : IntKind.i64.wrap ((k : Int) + 1) = ((k + 1 : Nat) : Int) := by rw [IntKind.wrap_i64]; have := HM.out; omega
        have hws : IntKind.i64.wrap ((s : Int) + ((S.getD k ByteArray.empty).size : Int)) = ((s + (S.getD k ByteArray.empty).size : Nat) : Int) := by rw [IntKind.wrap_i64]; omega
        have hd : decide ((s : Int) < 1048576) = true := decide_eq_true (by omega)
        clear hsz hs
        generalize S.getD k ByteArray.empty = p at h1 hws HS'
        generalize s + p.size = s' at hws HS'
        go_wp2_with fail
        go_roundw
        case rel => exact ⟨k + 1, s', by omega, rfl, rfl, HS', by first | rfl | trivial⟩
        case measure => simp [intOf]; omega
      · have hd : decide ((s : Int) < 1048576) = false := decide_eq_false (by omega)
        go_wp2_with fail
        go_ret
        exact HL.out _ rfl (.inr (by omega))
    · have hkt : k = S.length := by omega
      have hd : decide ((k : Int) < (S.length : Int)) = false := decide_eq_false (by omega)
      go_wp2_with fail
      go_ret
      exact HL.out _ rfl (.inl hkt)
theorem num_key (n : Int) (w : World) : Calls Tryd.prog 11 #[.int .i64 n] w fun e w' => e = .returned (.int .i64 n) ∧ w = w' := by
  go_enter Tryd.func11, Tryd.ntmps11
  go_wp2_with fail
  go_ret
  exact ⟨rfl, rfl⟩
end Key
end Go.Proofs.YtkkpdfjbgiijlaaDoor
