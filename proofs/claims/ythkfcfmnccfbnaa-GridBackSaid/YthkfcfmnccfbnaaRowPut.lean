/- The developers' Put, Erase and Blank. -/
import Derived.Test.YthkfcfmnccfbnaaRowOps2
namespace Go.Proofs.Ythkfcfmnccfbnaa
set_option maxRecDepth 100000
open Go.RowKit
namespace Row
open Utf Wid

theorem rng_yes {n lo hi : Int} (h : lo ≤ n) (k : n ≤ hi) : rng n lo hi = true := by unfold rng; rw [decide_eq_true h, decide_eq_true k]; rfl
theorem rng_no {n lo hi : Int} (h : ¬ (lo ≤ n ∧ n ≤ hi)) : rng n lo hi = false := by
  unfold rng
  rw [Bool.and_eq_false_iff]
  by_cases k : lo ≤ n
  · exact .inr (decide_eq_false fun k2 => h ⟨k, k2⟩)
  · exact .inl (decide_eq_false k)
def attrV (a : Look) : Value := .agg #[.int .i64 a.fg, .int .i64 a.bg, .int .i64 a.flags]
theorem fit_yes {l : List Cl} {a : Look} (h : RowOk l) (ha : attrOk a = true) (hs : Held l) (hl : l.length ≤ 1000) (x : Value) (w : World) (hx : Cs w x l) :
    Calls Try.prog 41 #[x, .agg #[.int .i64 a.fg, .int .i64 a.bg, .int .i64 a.flags]] w fun e w' => e = .returned (.bool true) ∧ Below w.heap.size w w' :=
  fit_any l a true x w hx hs (by omega) ⟨fun _ => ⟨h, ha⟩, fun _ => rfl⟩
theorem fit_no {l : List Cl} {a : Look} (h : ¬ (RowOk l ∧ attrOk a = true)) (hs : Held l) (hl : l.length ≤ 1000) (x : Value) (w : World) (hx : Cs w x l) :
    Calls Try.prog 41 #[x, .agg #[.int .i64 a.fg, .int .i64 a.bg, .int .i64 a.flags]] w fun e w' => e = .returned (.bool false) ∧ Below w.heap.size w w' :=
  fit_any l a false x w hx hs (by omega) ⟨(fun h => by cases h), fun k => absurd k h⟩
/-- The box that a function lays its attribute into, behind calls that only made blocks. -/
theorem box_kept {w w1 : World} {a : Look} (hb : Below (w.alloc (.cells #[.int .i64 a.fg, .int .i64 a.bg, .int .i64 a.flags] 33)).heap.size (w.alloc (.cells #[.int .i64 a.fg, .int .i64 a.bg, .int .i64 a.flags] 33)) w1) :
    w1.heap[w.heap.size]? = some (.cells #[.int .i64 a.fg, .int .i64 a.bg, .int .i64 a.flags] 33 (0, 0)) ∧ Below w.heap.size w w1 :=
  ⟨Blk.kept (heap_alloc_new _ _) hb, ((Below.refl _ _).alloc (Nat.le_refl _) _).trans (hb.mono (by simp))⟩
end Row
end Go.Proofs.Ythkfcfmnccfbnaa
