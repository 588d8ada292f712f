/- Joined texts: RowFar. -/
import Derived.Test.YtceaoadlhdgnmaaGreatDoorK2
section
/- Cells that are scribbled over: no other block is touched. -/
namespace Go.Proofs.YtceaoadlhdgnmaaGreatDoor
set_option maxRecDepth 100000
open Go.RowKit
namespace Row

/-- No block but this one is changed. -/
def Only (b : Nat) (w w' : World) : Prop := w.heap.size ≤ w'.heap.size ∧ ∀ (g : Nat) (o : Obj), g ≠ b → w.heap[g]? = some o → w'.heap[g]? = some o
theorem Only.refl (b : Nat) (w : World) : Only b w w := ⟨Nat.le_refl _, fun _ _ _ h => h⟩
theorem Only.set {b : Nat} {w w' : World} (h : Only b w w') (j : Nat) (u : Value) : Only b w (w'.setCell ⟨b, j, none⟩ u) :=
  ⟨by simpa [World.setCell] using h.1, fun g o hg e => Blk.other (h.2 g o hg e) hg j u⟩
theorem Only.put {b : Nat} {w w' : World} (h : Only b w w') (k : Nat) (c : Cl) : Only b w (putCell w' b k c) :=
  (((((h.set _ _).set _ _).set _ _).set _ _).set _ _).set _ _
theorem OwnCs.only {w w' : World} {base b : Nat} {v : Value} {l : List Cl} (h : OwnCs w base v l) (ho : Only b w w') (hv : v.ownBlock ≠ some b) : OwnCs w' base v l := by
  refine ⟨h.1, ?_⟩
  rcases h.2 with h0 | ⟨g, cap, cur, rfl, hb, hg, rest⟩
  · exact .inl h0
  · exact .inr ⟨g, cap, cur, rfl, hb, ho.2 g _ (fun e => hv (by subst e; rfl)) hg, rest⟩

end Row
end Go.Proofs.YtceaoadlhdgnmaaGreatDoor
end
