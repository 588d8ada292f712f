/- Joined texts: PdChunk. -/
import Derived.Test.YtjcfbeiljdohcaaDoorJM14
namespace Go.Proofs.YtjcfbeiljdohcaaDoor
set_option maxRecDepth 100000
section
open Go.RowKit
namespace Pat
open Go.Proofs.YtjcfbeiljdohcaaDoor.Row
attribute [local go_sem] Oper.semAt_some
set_option maxHeartbeats 1600000 in
theorem chunk0_in (n : Nat) (l B1 B2 : Nat) (C : Nat) (J Jx : List (Lt 0) → World → Prop)
    (W : World) (h1 : W.cell? ⟨B1, 0, none⟩ = some (.slice none 0 0)) (h2 : W.cell? ⟨B2, 0, none⟩ = some (.int .i64 C)) (h0 : J [] W) :
    CallsIn Fence.wide n Tryd.prog 49 #[.func (.yield l) #[] #[], .pointer (some ⟨B1, 0, none⟩), .pointer (some ⟨B2, 0, none⟩)] W fun e W' => (∃ v, e = .returned v) ∧
      ((∃ ys, upto 0 ys ∧ J ys W') ∨ (∃ pre, before 0 pre ∧ Jx pre W')) := by
  refine callsIn_of_wp Tryd.func49 rfl trivial ?_ rfl
  simp only [Tryd.ntmps49, List.size_toArray, List.length_cons, List.length_nil, Nat.reduceAdd, Nat.reduceSub, Array.replicate_succ, Array.replicate_zero, List.push_toArray, List.append_toArray, List.nil_append, List.cons_append]
  gi_wp2
  gi_loopw [4] (fun i wr => i = .int .i64 0 ∧ wr = W) (fun _ _ => 0)
  case atStart => exact ⟨rfl, rfl⟩
  case round =>
    obtain ⟨rfl, rfl⟩ := hrel
    gi_wp2
    go_end0
    exact ⟨⟨_, rfl⟩, .inl ⟨[], rfl, h0⟩⟩
theorem chunkA_stops (n : Nat) (hn : 1 ≤ n) (B1 B2 : Nat) (A : Option Addr) (R C c : Nat) (hR : R ≤ 40) (hC1 : 1 ≤ C) (hC : C ≤ 40) (hc : R * C ≤ c) (hA : A = none → R = 0 ∧ c = 0) (cv : Nat → Value)
    (hcv : ∀ i, i < R → ∀ w' : World, (Instr.slice 28 (.slice A (R * C) c) (some (.int .i64 ((i * C : Nat) : Int))) (some (.int .i64 (((i + 1) * C : Nat) : Int))) (some (.int .i64 (((i + 1) * C : Nat) : Int)))).run Tryd.prog w' = .ok (cv i) w')
    (w : World) (hB1 : B1 < w.heap.size) (hB2 : B2 < w.heap.size) (h1 : w.cell? ⟨B1, 0, none⟩ = some (.slice A (R * C) c)) (h2 : w.cell? ⟨B2, 0, none⟩ = some (.int .i64 C)) :
    SeqStopsK Fence.wide n Tryd.prog 49 #[.pointer (some ⟨B1, 0, none⟩), .pointer (some ⟨B2, 0, none⟩)] (fun x : Lt R => #[cv x.1]) (Two B1 B2) (upto R) (before R) R w := by
  cases A with
  | some ad => exact chunk_stops n hn B1 B2 ad R C c hR hC1 hC hc cv hcv w hB1 hB2 h1 h2
  | none =>
    obtain ⟨rfl, rfl⟩ := hA rfl
    rw [Nat.zero_mul] at h1
    exact fun l J Jx W hW hJ _ hY h0 => chunk0_in n l B1 B2 C J Jx W ((hW.cell (p := ⟨B1, 0, none⟩) hB1).trans h1) ((hW.cell (p := ⟨B2, 0, none⟩) hB2).trans h2) h0
end Pat
end
end Go.Proofs.YtjcfbeiljdohcaaDoor
