/- Joined texts: GrdChunk. -/
import Derived.Test.YtjcfbeiljdohcaaDoorJM6
import Derived.RangeFuncNested
import Derived.RangeFuncBound
import Derived.RangeFuncCalls
import Derived.RangeFuncLeaves
import Derived.Shelf.Abstract
import Derived.Shelf.RegionOpen
import Derived.OwnWalkIn
import Derived.TacticsInMore
import Derived.LoopNIn
import Derived.LoopIn
namespace Go.Proofs.YtjcfbeiljdohcaaDoor
set_option maxRecDepth 100000
section
open Go.RowKit
namespace Row
attribute [local go_sem] Oper.semAt_some
def Chunks (w : World) (A : Option Addr) (n c : Nat) (l : List Cl) (R C : Nat) (cv : Nat → Value) : Prop :=
  ∀ i, i < R → (∀ w' : World, (Instr.slice 28 (.slice A n c) (some (.int .i64 ((i * C : Nat) : Int))) (some (.int .i64 (((i + 1) * C : Nat) : Int))) (some (.int .i64 (((i + 1) * C : Nat) : Int)))).run Tryd.prog w' = .ok (cv i) w') ∧ Rm w (cv i) (rowAt l C i)
theorem chunks_some {w : World} {A : Option Addr} {n c : Nat} {l : List Cl} (h : Rm w (.slice A n c) l) (R C : Nat) (hl : l.length = R * C) (hC : 1 ≤ C) : ∃ cv, Chunks w A n c l R C cv := by
  obtain ⟨en, hc⟩ := h.room
  refine ⟨fun i => .slice (if C = 0 then A else A.map (·.add (i * C * 6))) C C, fun i hi => ?_⟩
  have h2 : (i + 1) * C ≤ R * C := Nat.mul_le_mul_right C hi
  have hs1 : (i + 1) * C = i * C + C := Nat.succ_mul i C
  have hu : Tryd.prog.underlying 28 = some (.slice (Tryd.prog.elem 28)) := by kernel_rfl
  refine ⟨fun w' => ?_, ?_⟩
  · rw [run_slice_lhm w' 28 A n c hu .i64 .i64 .i64 _ _ _ (by omega) (by omega) (by omega) (by omega)]
    have hs : (sizeOf (Tryd.prog.elem 28)).run Tryd.prog w' = .ok 6 w' := by kernel_rfl
    rw [hs]
    simp only [Result.andThen, sliced, Int.toNat_natCast]
    rw [hs1, Nat.add_sub_cancel_left, if_neg (by omega), if_neg (by omega)]
  · show Rm w (.slice (if C = 0 then A else A.map (·.add (i * C * 6))) C C) _
    rw [if_neg (by omega)]
    have hlen : (rowAt l C i).length = C := by unfold rowAt; rw [List.length_take, List.length_drop]; omega
    have hcs := h.cs
    have hl0 : 0 < l.length := by omega
    rcases hcs.2.2 with ⟨e, h0⟩ | ⟨ad, c2, e, hcell⟩
    · exact absurd h0 (by omega)
    · injection e with e1 e2 e3
      subst e1; subst e3
      refine ⟨?_, _, _, by rw [hlen], by rw [hlen]; exact Nat.le_refl _⟩
      have := Cs.of (w := w) (ad := ad.add (i * C * 6)) (c := C) (l := rowAt l C i) fun j u hu => by
        rw [Go.Deep.add_add]
        refine hcs.flat.2 (i * C * 6 + j) u (flat_part (lo := i * C) (hi := (i + 1) * C) (by omega) (by omega) ?_)
        have e : (i + 1) * C - i * C = C := by omega
        rw [e]; exact hu
      rwa [hlen] at this
theorem Chunks.kept {w w' : World} {A : Option Addr} {n c R C : Nat} {l : List Cl} {cv : Nat → Value} (h : Chunks w A n c l R C cv) (hb : Below w.heap.size w w') : Chunks w' A n c l R C cv :=
  fun i hi => ⟨(h i hi).1, (h i hi).2.kept hb⟩
abbrev Lt (R : Nat) := { i : Nat // i < R }
def upto (R : Nat) (xs : List (Lt R)) : Prop := xs.map (·.1) = List.range R
def before (R : Nat) (xs : List (Lt R)) : Prop := ∃ k, k ≤ R ∧ xs.map (·.1) = List.range k
theorem upto_mem {R : Nat} {xs : List (Lt R)} (h : upto R xs) {i : Nat} (hi : i < R) : ∃ x ∈ xs, x.1 = i := by
  have : i ∈ xs.map (·.1) := by rw [h]; exact List.mem_range.2 hi
  obtain ⟨x, h1, h2⟩ := List.mem_map.1 this
  exact ⟨x, h1, h2⟩
def Two (B1 B2 : Nat) (W W' : World) : Prop := W'.heap[B1]? = W.heap[B1]? ∧ W'.heap[B2]? = W.heap[B2]?
theorem Two.refl (B1 B2 : Nat) (W : World) : Two B1 B2 W W := ⟨rfl, rfl⟩
theorem Two.trans {B1 B2 : Nat} {X Y Z : World} (h : Two B1 B2 X Y) (k : Two B1 B2 Y Z) : Two B1 B2 X Z := ⟨k.1.trans h.1, k.2.trans h.2⟩
theorem Two.below {B1 B2 n : Nat} {W W' : World} (h : Below n W W') (h1 : B1 < n) (h2 : B2 < n) : Two B1 B2 W W' := ⟨h.block _ h1, h.block _ h2⟩
theorem Two.cell {B1 B2 : Nat} {W W' : World} (h : Two B1 B2 W W') {v : Value} : (W.cell? ⟨B1, 0, none⟩ = some v → W'.cell? ⟨B1, 0, none⟩ = some v) ∧ (W.cell? ⟨B2, 0, none⟩ = some v → W'.cell? ⟨B2, 0, none⟩ = some v) := by
  unfold World.cell?
  simp only
  rw [h.1, h.2]
  exact ⟨fun h => h, fun h => h⟩
theorem two_b {B1 B2 : Nat} {w : World} (h1 : B1 < w.heap.size) (h2 : B2 < w.heap.size) (W : World) (l : Nat) (o o' : Obj) (hl : w.heap.size ≤ l) (_ : W.heap[l]? = some o) (_ : o.isCells = false) (_ : o.isWalk = false) : Two B1 B2 W (W.putObj l o') :=
  ⟨World.putObj_heap_other (by omega), World.putObj_heap_other (by omega)⟩
set_option maxHeartbeats 4000000 in
theorem chunk1_in (n : Nat) (hn : 1 ≤ n) (l B1 B2 : Nat) (ad : Addr) (R C c : Nat) (hR : R ≤ 40) (hC1 : 1 ≤ C) (hC : C ≤ 40) (hc : R * C ≤ c) (cv : Nat → Value)
    (hcv : ∀ i, i < R → ∀ w' : World, (Instr.slice 28 (.slice (some ad) (R * C) c) (some (.int .i64 ((i * C : Nat) : Int))) (some (.int .i64 (((i + 1) * C : Nat) : Int))) (some (.int .i64 (((i + 1) * C : Nat) : Int)))).run Tryd.prog w' = .ok (cv i) w')
    (J Jx : List (Lt R) → World → Prop) (hJa : ∀ pre W, J pre W → ∀ q, J pre (W.drewN q))
    (hY : ∀ pre x W, J pre W → pre.length < R → YieldAt Fence.wide (n - 1) Tryd.prog l #[cv x.1] W fun e W' =>
      (e = .returned (.bool true) ∧ J (pre ++ [x]) W' ∧ Two B1 B2 W W') ∨ (e = .returned (.bool false) ∧ Jx (pre ++ [x]) W'))
    (W : World) (h1 : W.cell? ⟨B1, 0, none⟩ = some (.slice (some ad) (R * C) c)) (h2 : W.cell? ⟨B2, 0, none⟩ = some (.int .i64 C)) (h0 : J [] W) :
    CallsIn Fence.wide n Tryd.prog 49 #[.func (.yield l) #[] #[], .pointer (some ⟨B1, 0, none⟩), .pointer (some ⟨B2, 0, none⟩)] W fun e W' => (∃ v, e = .returned v) ∧
      ((∃ ys, upto R ys ∧ J ys W') ∨ (∃ pre, before R pre ∧ Jx pre W')) := by
  refine callsIn_of_wp Tryd.func49 rfl trivial ?_ rfl
  simp only [Tryd.ntmps49, List.size_toArray, List.length_cons, List.length_nil, Nat.reduceAdd, Nat.reduceSub, Array.replicate_succ, Array.replicate_zero, List.push_toArray, List.append_toArray, List.nil_append, List.cons_append]
  gi_wp2
  gi_loopw [4] (fun i wr => ∃ k : Nat, k ≤ R ∧ i = .int .i64 ((k * C : Nat) : Int) ∧ (∃ pre : List (Lt R), pre.map (·.1) = List.range k ∧ J pre wr) ∧ Two B1 B2 W wr)
    (fun i _ => R * C - (intOf i).toNat)
  case atStart => exact ⟨0, Nat.zero_le _, by simp, ⟨[], rfl, h0⟩, Two.refl _ _ _⟩
  case round =>
    obtain ⟨k, hk, rfl, ⟨pre, hpre, hJs⟩, hnx⟩ := hrel
    have g1 : wr.cell? ⟨B1, 0, none⟩ = _ := hnx.cell.1 h1
    have g2 : wr.cell? ⟨B2, 0, none⟩ = _ := hnx.cell.2 h2
    have hpl : pre.length = k := by have := congrArg List.length hpre; simpa using this
    by_cases hlt : k < R
    · have hs1 : (k + 1) * C = k * C + C := Nat.succ_mul k C
      have hle : (k + 1) * C ≤ R * C := Nat.mul_le_mul_right C hlt
      have hcvk := hcv k hlt
      obtain ⟨p, hp⟩ : ∃ p, p = k * C := ⟨_, rfl⟩
      obtain ⟨m, hm⟩ : ∃ m, m = R * C := ⟨_, rfl⟩
      rw [hs1] at hcvk hle
      rw [← hp, ← hm] at hcvk hle
      rw [← hm] at g1
      rw [← hp]
      have HP := Lib.hid hp
      have HM := Lib.hid hm
      have HS1 := Lib.hid hs1
      have hmx : m ≤ 1600 := by rw [hm]; exact Nat.mul_le_mul hR hC
      have hcx : m ≤ c := by omega
      clear hp hm hs1 hcv
      rw [Int.natCast_add] at hcvk
      have d1 : decide ((p : Int) < (m : Int)) = true := decide_eq_true (by omega)
      have d2 : ¬ c = p := by omega
      gi_wp2
      have HY : ∀ q, YieldAt Fence.wide (n - 1) Tryd.prog l #[cv k] (wr.drewN q) fun e W' => (e = .returned (.bool true) ∧ J (pre ++ [⟨k, hlt⟩]) W' ∧ Two B1 B2 (wr.drewN q) W') ∨ (e = .returned (.bool false) ∧ Jx (pre ++ [⟨k, hlt⟩]) W') :=
        fun q => hY pre ⟨k, hlt⟩ (wr.drewN q) (hJa _ _ hJs q) (by omega)
      gi_quiet (fail)
      obtain ⟨fn, tmps, assign, body, hy, hR'⟩ := HY nq
      gi_wp2
      refine hR'.mono ?_
      rintro e W3 (⟨rfl, hJ3, hk3⟩ | ⟨rfl, hJx3⟩)
      · have g2' : W3.cell? ⟨B2, 0, none⟩ = some (.int .i64 C) := hk3.cell.2 g2
        gi_wp2
        go_roundw
        case rel => exact ⟨k + 1, hlt, by rw [HS1.out, ← HP.out]; go_num, ⟨pre ++ [⟨k, hlt⟩], by rw [List.map_append, hpre, List.range_succ]; rfl, hJ3⟩, hnx.trans hk3⟩
        case measure => rw [← HM.out]; simp [intOf]; omega
      · gi_wp2
        refine bodyPost_ret (results_none rfl _ _ _) rfl ?_
        exact ⟨⟨_, rfl⟩, .inr ⟨_, ⟨k + 1, hlt, by rw [List.map_append, hpre, List.range_succ]; rfl⟩, hJx3⟩⟩
    · obtain rfl : k = R := by omega
      gi_wp2
      go_end0
      exact ⟨⟨_, rfl⟩, .inl ⟨pre, hpre, hJs⟩⟩
theorem chunk_stops (n : Nat) (hn : 1 ≤ n) (B1 B2 : Nat) (ad : Addr) (R C c : Nat) (hR : R ≤ 40) (hC1 : 1 ≤ C) (hC : C ≤ 40) (hc : R * C ≤ c) (cv : Nat → Value)
    (hcv : ∀ i, i < R → ∀ w' : World, (Instr.slice 28 (.slice (some ad) (R * C) c) (some (.int .i64 ((i * C : Nat) : Int))) (some (.int .i64 (((i + 1) * C : Nat) : Int))) (some (.int .i64 (((i + 1) * C : Nat) : Int)))).run Tryd.prog w' = .ok (cv i) w')
    (w : World) (hB1 : B1 < w.heap.size) (hB2 : B2 < w.heap.size) (h1 : w.cell? ⟨B1, 0, none⟩ = some (.slice (some ad) (R * C) c)) (h2 : w.cell? ⟨B2, 0, none⟩ = some (.int .i64 C)) :
    SeqStopsK Fence.wide n Tryd.prog 49 #[.pointer (some ⟨B1, 0, none⟩), .pointer (some ⟨B2, 0, none⟩)] (fun x : Lt R => #[cv x.1]) (Two B1 B2) (upto R) (before R) R w := fun l J Jx W hW hJ _ hY h0 =>
  chunk1_in n hn l B1 B2 ad R C c hR hC1 hC hc cv hcv J Jx (fun pre W' h q => hJ pre W' _ none h ⟨rfl, rfl, rfl, Nat.le_refl _, fun _ _ _ => rfl⟩ (fun r e => by cases e)) hY W
    ((hW.cell (p := ⟨B1, 0, none⟩) hB1).trans h1) ((hW.cell (p := ⟨B2, 0, none⟩) hB2).trans h2) h0
set_option maxHeartbeats 800000 in
theorem chunk_any (A : Option Addr) (m c C : Nat) (hC : 1 ≤ C) (w : World) :
    Calls Tryd.prog 36 #[.slice A m c, .int .i64 C] w fun e w' =>
      e = .returned (.func (.func 49) #[] #[.pointer (some ⟨w.heap.size, 0, none⟩), .pointer (some ⟨w.heap.size + 1, 0, none⟩)]) ∧
        w' = (w.alloc (.cells #[.slice A m c] 28)).alloc (.cells #[.int .i64 C] 3) := by
  have d1 : decide ((C : Int) < 1) = false := decide_eq_false (by omega)
  go_enter Tryd.func36, Tryd.ntmps36
  go_wp2_with fail
  go_ret
  exact ⟨rfl, rfl⟩
theorem others_below {W W' : World} (h : Below W.heap.size W W') : KeepsOthers W W' := ⟨h.size, fun k o hk _ => by rw [h.block k (Array.getElem?_eq_some_iff.1 hk).1]; exact hk⟩
end Row
end
end Go.Proofs.YtjcfbeiljdohcaaDoor
