/- Joined texts: GrdNew, GrdBad, GrdResize. -/
import Derived.Test.YtceaoadlhdgnmaaGreatDoorM8
import Derived.Deep.DeepCutAuto
namespace Go.Proofs.YtceaoadlhdgnmaaGreatDoor
set_option maxRecDepth 100000
section
open Go.RowKit
namespace Row
end Row
end
section
open Go.RowKit
namespace Row
def MvOk (G : Gr) (top bot n : Int) (a : Look) : Prop := GridOk G ∧ attrOk a = true ∧ (0 ≤ top ∧ top ≤ bot) ∧ bot < G.rows ∧ (0 ≤ n ∧ n ≤ 9999)
theorem gzero {w : World} {b : Nat} (h : w.heap[b]? = some (gbox 0 0 (.slice none 0 0))) : w.cell? ⟨b, 0, none⟩ = some (.int .i64 0) ∧ w.cell? ⟨b, 1, none⟩ = some (.int .i64 0) ∧ w.cell? ⟨b, 2, none⟩ = some (.slice none 0 0) ∧ w.frozen? ⟨b, 0, none⟩ = false ∧ w.frozen? ⟨b, 1, none⟩ = false ∧ w.frozen? ⟨b, 2, none⟩ = false :=
  ⟨Blk.cell h 0, Blk.cell h 1, Blk.cell h 2, Blk.free h 0, Blk.free h 1, Blk.free h 2⟩
end Row
end
section
open Go.RowKit
namespace Row
structure Fits (wr : World) (cv : Nat → Value) (l : List Cl) (rs : List (List Cl)) (R C c m : Nat) (a : Look) (g k : Nat) (xs : List Ln) : Prop where
  len : xs.length = m
  done : ∀ j, j < k → ∃ v, xs.getD j default = .kept v (fitRow (rowOf rs j) c a) ∧ Rm wr v (fitRow (rowOf rs j) c a) ∧ Off g v
  left : ∀ j, k ≤ j → j < m → xs.getD j default = .kept (cv j) (rowAt l C j)
  old : ∀ i, i < R → Rm wr (cv i) (rowAt l C i) ∧ Off g (cv i)
theorem Fits.kept {wr w2 : World} {cv : Nat → Value} {l : List Cl} {rs : List (List Cl)} {R C c m g k : Nat} {a : Look} {xs : List Ln} (h : Fits wr cv l rs R C c m a g k xs) (hb : Below wr.heap.size wr w2) : Fits w2 cv l rs R C c m a g k xs :=
  ⟨h.len, fun j hj => by obtain ⟨v, e, h1, h2⟩ := h.done j hj; exact ⟨v, e, h1.kept hb, h2⟩, h.left, fun i hi => ⟨(h.old i hi).1.kept hb, (h.old i hi).2⟩⟩
theorem Fits.grown {wr w2 : World} {cv : Nat → Value} {l : List Cl} {rs : List (List Cl)} {R C c m g k : Nat} {a : Look} {xs : List Ln} (h : Fits wr cv l rs R C c m a g k xs) (hg : wr.grownBy w2 (some g)) : Fits w2 cv l rs R C c m a g k xs :=
  ⟨h.len, fun j hj => by obtain ⟨v, e, h1, h2⟩ := h.done j hj; exact ⟨v, e, h1.grown hg (fun k e => by cases e; exact h2), h2⟩, h.left, fun i hi => ⟨(h.old i hi).1.grown hg (fun k e => by cases e; exact (h.old i hi).2), (h.old i hi).2⟩⟩
theorem Fits.stored {wr : World} {cv : Nat → Value} {l : List Cl} {rs : List (List Cl)} {R C c m g k : Nat} {a : Look} {xs : List Ln} (h : Fits wr cv l rs R C c m a g k xs) (hk : k < m) {v : Value} (hv : Rm wr v (fitRow (rowOf rs k) c a)) (ho : Off g v) (u : Value) :
    Fits (wr.setCell ⟨g, k, none⟩ u) cv l rs R C c m a g (k + 1) (xs.set k (.kept v (fitRow (rowOf rs k) c a))) := by
  refine ⟨by rw [List.length_set]; exact h.len, fun j hj => ?_, fun j h1 h2 => ?_, fun i hi => ⟨(h.old i hi).1.set (h.old i hi).2 _ _, (h.old i hi).2⟩⟩
  · by_cases e : k = j
    · subst e
      exact ⟨v, getD_set_same (by rw [h.len]; exact hk) _, hv.set ho _ _, ho⟩
    · obtain ⟨v', e', h1, h2⟩ := h.done j (by omega)
      exact ⟨v', by rw [getD_set_ne e]; exact e', h1.set h2 _ _, h2⟩
  · rw [getD_set_ne (by omega)]; exact h.left j (by omega) h2
theorem Fits.start {wr : World} {cv : Nat → Value} {l : List Cl} {rs : List (List Cl)} {R C c m g : Nat} {a : Look} (hm : m ≤ R) (h : ∀ i, i < R → Rm wr (cv i) (rowAt l C i) ∧ Off g (cv i)) : Fits wr cv l rs R C c m a g 0 ((keptOf cv l C (List.range R)).take m) := by
  refine ⟨by rw [List.length_take, keptOf_length, List.length_range]; omega, fun j hj => absurd hj (by omega), fun j _ h2 => ?_, h⟩
  rw [← kept_get (cv := cv) (l := l) (C := C) (show j < R by omega)]
  simp [h2]
def Lined (w : World) (R C m : Nat) (x : Value) (a : Look) (l : List Cl) (s : Value) (wx : World) : Prop :=
  ∃ (cv : Nat → Value) (g gc : Nat), s = .slice (some ⟨g, 0, none⟩) m gc ∧ w.heap.size + 3 ≤ g ∧ Boxes3 w wx R C x a ∧ OwnL wx (w.heap.size + 3) (.slice (some ⟨g, 0, none⟩) R gc) (keptOf cv l C (List.range R)) ∧ (∀ i, i < R → Rm wx (cv i) (rowAt l C i) ∧ Off g (cv i))
end Row
end
end Go.Proofs.YtceaoadlhdgnmaaGreatDoor
