/- Whether the laws' argument weighs much; numbers of errors. -/
import Derived.Test.YthkfcfmnccfbnaaGrdAsk
namespace Go.Proofs.Ythkfcfmnccfbnaa
set_option maxRecDepth 100000
open Go.RowKit
namespace Row

theorem num_eq (n : Int) (w : World) : Calls Try.prog 5 #[.int .i64 n] w fun e w' => e = .returned (.int .i64 n) ∧ w = w' := by
  go_enter Try.func5, Try.ntmps5
  go_wp2_with fail
  go_ret
  exact ⟨rfl, rfl⟩
/-- The argument's box. -/
abbrev pbox (r c : Int) (x y : Value) : Obj := .cells #[.int .i64 r, .int .i64 c, x, y] 27 (0, 0)
/-- A test: what it answers, and what its no means. -/
def Weighed (l : List Cl) (t : List ActG) (w : World) (e : Ending) (w' : World) : Prop :=
  ∃ b : Bool, e = .returned (.bool b) ∧ (b = false → l.length ≤ 3000 ∧ t.length ≤ 3000 ∧ ∀ k, k < t.length → (t.getD k noAct).r.length ≤ 3000) ∧ Below w.heap.size w w'
set_option maxHeartbeats 1600000 in
theorem heavy_any {bnd : Nat} (r c : Int) (x y : Value) (l : List Cl) (t : List ActG) (w : World) (hx : Rm w x l) (hy : Acts bnd w y t) (hn : l.length ≤ 140737488355328) (hm : t.length ≤ 140737488355328) :
    Calls Try.prog 4 #[.agg #[.int .i64 r, .int .i64 c, x, y]] w (Weighed l t w) := by
  obtain ⟨_, A, cp, rfl, _⟩ := hx
  obtain ⟨A', c', rfl, hact⟩ := hy.form
  have HAC := Lib.hid hact
  have HY := Lib.hid (fun k (hk : k < t.length) => And.intro (hy.2 k hk).1 (hy.2 k hk).2.1.1)
  have HB0 : Hid (Below w.heap.size w (w.alloc (pbox r c (.slice A l.length cp) (.slice A' t.length c')))) := Lib.hid ((Below.refl _ _).alloc (Nat.le_refl _) _)
  have HP0 : Hid ((w.alloc (pbox r c (.slice A l.length cp) (.slice A' t.length c'))).heap[w.heap.size]? = some (pbox r c (.slice A l.length cp) (.slice A' t.length c'))) := Lib.hid (new_alloc _ _ _ rfl)
  obtain ⟨s0, HS0⟩ : ∃ s, Hid (s = l.length + t.length) := ⟨_, Lib.hid rfl⟩
  have hw0 : IntKind.i64.wrap ((l.length : Int) + (t.length : Int)) = (s0 : Int) := by rw [IntKind.wrap_i64]; have := HS0.out; omega
  have HN := Lib.hid hn
  have HM := Lib.hid hm
  clear hact hy hn hm
  go_enter Try.func4, Try.ntmps4
  go_wp2_with fail
  have hc1 : (w.alloc (pbox r c (.slice A l.length cp) (.slice A' t.length c'))).cell? ⟨w.heap.size, 3, none⟩ = some (.slice A' t.length c') := Blk.cell HP0.out 3
  generalize w.alloc (pbox r c (.slice A l.length cp) (.slice A' t.length c')) = wa at HB0 HP0 hc1 ⊢
  go_loopw [3, 4] (fun n i wr => ∃ k s : Nat, k ≤ t.length ∧ i = .int .i64 k ∧ n = .int .i64 s ∧ Hid (s ≤ 500000000000000 ∧ l.length ≤ s ∧ t.length ≤ s ∧ ∀ j, j < k → (t.getD j noAct).r.length ≤ s) ∧ wr = wa) (fun _ i _ => t.length - (intOf i).toNat)
  case atStart => exact ⟨0, s0, by omega, rfl, rfl, Lib.hid ⟨by have := HS0.out; have := HN.out; have := HM.out; omega, by have := HS0.out; omega, by have := HS0.out; omega, fun j hj => absurd hj (by omega)⟩, rfl⟩
  case round =>
    obtain ⟨k, s, hk, rfl, rfl, HS, rfl⟩ := hrel
    have HL : Hid (∀ b : Bool, b = decide (3000 < (s : Int)) → (b = false → k = t.length ∨ s < 1048576) → (k = t.length ∨ 1048576 ≤ s) → Weighed l t w (.returned (.bool b)) wr) := Lib.hid fun b hb h1 h2 => by
      refine ⟨b, rfl, fun hf => ?_, HB0.out⟩
      obtain ⟨_, q1, q2, q3⟩ := HS.out
      rw [hf] at hb
      have := of_decide_eq_false hb.symm
      have hkt : k = t.length := by omega
      exact ⟨by omega, by omega, fun j hj => by have := q3 j (by omega); omega⟩
    by_cases hlt : k < t.length
    · by_cases hs : s < 1048576
      · obtain ⟨ad, rfl, hat⟩ := HAC.out k hlt
        obtain ⟨hrm, hrl⟩ := HY.out k hlt
        have hat := hat.kept HB0.out
        generalize hact : t.getD k noAct = ac at hat hrm hrl
        obtain ⟨d1, d2, d3, d4, ⟨e1, e2, e3⟩, v, rr⟩ := ac
        have hrl' : rr.length ≤ 140737488355328 := hrl
        have hrm' : Rm w v rr := hrm
        clear hrl hrm
        obtain ⟨_, A3, c3, rfl, _⟩ := hrm'
        have h7 := hat.next 6 rfl
        have hwk : IntKind.i64.wrap ((k : Int) + 1) = ((k + 1 : Nat) : Int) := by rw [IntKind.wrap_i64]; have := HM.out; omega
        have hws : IntKind.i64.wrap ((s : Int) + (rr.length : Int)) = ((s + rr.length : Nat) : Int) := by rw [IntKind.wrap_i64]; omega
        have HS' : Hid (s + rr.length ≤ 500000000000000 ∧ l.length ≤ s + rr.length ∧ t.length ≤ s + rr.length ∧ ∀ j, j < k + 1 → (t.getD j noAct).r.length ≤ s + rr.length) := Lib.hid (by
          obtain ⟨q0, q1, q2, q3⟩ := HS.out
          refine ⟨by omega, by omega, by omega, fun j hj => ?_⟩
          by_cases e : j = k
          · subst e; rw [hact]; show rr.length ≤ _; omega
          · have := q3 j (by omega); omega)
        have hd : decide ((s : Int) < 1048576) = true := decide_eq_true (by omega)
        clear hat hrl' hact hs
        generalize s + rr.length = s' at hws HS'
        go_wp2_with fail
        go_roundw
        case rel => exact ⟨k + 1, s', by omega, rfl, rfl, HS', by first | rfl | trivial⟩
        case measure => simp [intOf]; omega
      · have hd : decide ((s : Int) < 1048576) = false := decide_eq_false (by omega)
        go_wp2_with fail
        go_ret
        exact HL.out _ rfl (fun h => by simp at h; omega) (.inr (by omega))
    · have hkt : k = t.length := by omega
      have hd : decide ((k : Int) < (t.length : Int)) = false := decide_eq_false (by omega)
      go_wp2_with fail
      go_ret
      exact HL.out _ rfl (fun _ => .inl hkt) (.inl hkt)
end Row
end Go.Proofs.Ythkfcfmnccfbnaa
