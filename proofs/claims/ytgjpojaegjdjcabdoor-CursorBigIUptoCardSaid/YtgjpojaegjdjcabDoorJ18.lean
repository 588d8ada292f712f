/- Joined texts: RowFar. -/
import Derived.Test.YtgjpojaegjdjcabDoorJ1
import Derived.Test.YtgjpojaegjdjcabDoorJ2
section
/- Cells that are scribbled over: no other block is touched. -/
namespace Go.Proofs.YtgjpojaegjdjcabDoor
set_option maxRecDepth 100000
open Go.RowKit
namespace Row

/-- No block but this one is changed. -/
def Only (b : Nat) (w w' : World) : Prop := w.heap.size ≤ w'.heap.size ∧ ∀ (g : Nat) (o : Obj), g ≠ b → w.heap[g]? = some o → w'.heap[g]? = some o
theorem Only.refl (b : Nat) (w : World) : Only b w w := ⟨Nat.le_refl _, fun _ _ _ h => h⟩
theorem Only.set {b : Nat} {w w' : World} (h : Only b w w') (j : Nat) (u : Value) : Only b w (w'.setCell ⟨b, j, none⟩ u) :=
  ⟨by simpa [World.setCell] using h.1, fun g o hg e => Blk.other (h.2 g o hg e) hg j u⟩
theorem Only.put {b : Nat} {w w' : World} (h : Only b w w') (k : Nat) (c : Cl) : Only b w (putCell w' b k c) :=
  (((((h.set _ _).set _ _).set _ _).set _ _).set _ _).set _ _
theorem OwnCs.only {w w' : World} {base b : Nat} {v : Value} {l : List Cl} (h : OwnCs w base v l) (ho : Only b w w') (hv : v.ownBlock ≠ some b) : OwnCs w' base v l := by
  refine ⟨h.1, ?_⟩
  rcases h.2 with h0 | ⟨g, cap, cur, rfl, hb, hg, rest⟩
  · exact .inl h0
  · exact .inr ⟨g, cap, cur, rfl, hb, ho.2 g _ (fun e => hv (by subst e; rfl)) hg, rest⟩

set_option maxHeartbeats 1600000 in
theorem cells_far (l : List Cl) (x : Value) (base : Nat) (w : World) (hx : OwnCs w base x l) (hn : l.length ≤ 100000000) :
    Calls Tryd.prog 61 #[x] w fun e w' => e = .returned (.tuple #[]) ∧ Below base w w' ∧ ∀ b2 v2 m, v2.ownBlock ≠ x.ownBlock ∨ v2 = .slice none 0 0 → OwnCs w b2 v2 m → OwnCs w' b2 v2 m := by
  rcases hx.shape with ⟨rfl, h0⟩ | ⟨b, cap, rfl, hb, _⟩
  · clear hx
    go_enter Tryd.func61, Tryd.ntmps61
    go_wp2_with fail
    go_rounds 1
    go_end0
    exact ⟨rfl, Below.refl _ _, fun _ _ _ _ h => h⟩
  · have HG := Lib.hid hb
    clear hb
    go_enter Tryd.func61, Tryd.ntmps61
    go_wp2_with fail
    go_loopw [2] (fun i wr => ∃ (k : Nat) (ys : List Cl), k ≤ l.length ∧ ys.length = l.length ∧ i = .int .i64 k ∧ OwnCs wr base (.slice (some ⟨b, 0, none⟩) l.length cap) ys ∧ Hid (Below base w wr) ∧ Hid (Only b w wr)) (fun i _ => l.length - (intOf i).toNat)
    case atStart => exact ⟨0, l, by omega, rfl, rfl, hx, Lib.hid (Below.refl _ _), Lib.hid (Only.refl _ _)⟩
    case round =>
      obtain ⟨k, ys, hk, hyl, rfl, hown, hbl, hon⟩ := hrel
      by_cases hlt : k < l.length
      · have hky : k < ys.length := by omega
        have d0 := hown.cell hky (show 0 < 6 by decide)
        have d1 := hown.cell hky (show 1 < 6 by decide)
        have d2 := hown.cell hky (show 2 < 6 by decide)
        have d3 := hown.cell hky (show 3 < 6 by decide)
        have d4 := hown.cell hky (show 4 < 6 by decide)
        have d5 := hown.cell hky (show 5 < 6 by decide)
        have f0 := hown.free (k * 6)
        have f1 := hown.free (k * 6 + 1)
        have f2 := hown.free (k * 6 + 2)
        have f3 := hown.free (k * 6 + 3)
        have f4 := hown.free (k * 6 + 4)
        have f5 := hown.free (k * 6 + 5)
        simp only [cvals, Nat.add_zero, List.getElem?_cons_zero, List.getElem?_cons_succ] at d0 d1 d2 d3 d4 d5
        have HP := Lib.hid (hown.put hky ⟨-9, [], 0, ⟨0, 0, 0⟩⟩)
        have HB := Lib.hid (below_put hbl.out HG.out k ⟨-9, [], 0, ⟨0, 0, 0⟩⟩)
        have HO := Lib.hid (hon.out.put k ⟨-9, [], 0, ⟨0, 0, 0⟩⟩)
        have HL : Hid ((ys.set k ⟨-9, [], 0, ⟨0, 0, 0⟩⟩).length = l.length) := Lib.hid (by rw [List.length_set]; exact hyl)
        generalize ys.set k ⟨-9, [], 0, ⟨0, 0, 0⟩⟩ = zs at HP HL
        generalize g ys k = cc at d0 d1 d2 d3 d4 d5
        obtain ⟨rune, cb, wide, ⟨fg, bg, fl⟩⟩ := cc
        have hyl' := Lib.hid hyl
        clear hown hky hyl hyl' hbl hon
        go_wp2_with fail
        go_roundw
        case rel => exact ⟨k + 1, zs, by omega, HL.out, by go_num, HP.out, Lib.hid HB.out, Lib.hid HO.out⟩
        case measure => simp [intOf]; omega
      · have hd : decide (k < l.length) = false := decide_eq_false hlt
        clear hlt
        go_wp2_with fail
        go_end0
        refine ⟨rfl, hbl.out, fun b2 v2 m hv h => ?_⟩
        rcases hv with hv | rfl
        · exact h.only hon.out hv
        · have := h.shape
          rcases this with ⟨_, rfl⟩ | ⟨_, _, e, _⟩
          · exact OwnCs.nil _ _
          · injection e with e; cases e
end Row
end Go.Proofs.YtgjpojaegjdjcabDoor
end
