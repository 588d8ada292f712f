/- A block of cells written out; a slice of numbers with its room, and its tail. -/
import Derived.Test.YtkkpdfjbgiijlaaDoorSrc
import Derived.OneCell
import Derived.Deep.Slices
namespace Go.Proofs.YtkkpdfjbgiijlaaDoor
open Go.RowKit
namespace Blk
theorem lt {w : World} {b : Nat} {o : Obj} (h : w.heap[b]? = some o) : b < w.heap.size := (Array.getElem?_eq_some_iff.1 h).1
theorem cell {w : World} {b : Nat} {cs : Array Value} {t : TypeId} (h : w.heap[b]? = some (.cells cs t (0, 0))) (j : Nat) : w.cell? ⟨b, j, none⟩ = cs[j]? := cell_of_row w b j cs t _ h
theorem free {w : World} {b : Nat} {cs : Array Value} {t : TypeId} (h : w.heap[b]? = some (.cells cs t (0, 0))) (j : Nat) : w.frozen? ⟨b, j, none⟩ = false := frozen_of_row w b j cs t h
theorem set {w : World} {b : Nat} {cs : Array Value} {t : TypeId} (h : w.heap[b]? = some (.cells cs t (0, 0))) (j : Nat) (u : Value) : (w.setCell ⟨b, j, none⟩ u).heap[b]? = some (.cells (cs.setIfInBounds j u) t (0, 0)) := heap_setCell_same w b j cs t u h
theorem other {w : World} {b g : Nat} {o : Obj} (h : w.heap[b]? = some o) (hn : b ≠ g) (j : Nat) (u : Value) : (w.setCell ⟨g, j, none⟩ u).heap[b]? = some o := by
  rw [heap_setCell_other w ⟨g, j, none⟩ b u hn]; exact h
theorem kept {w w' : World} {b : Nat} {o : Obj} (h : w.heap[b]? = some o) (hb : Below w.heap.size w w') : w'.heap[b]? = some o := (hb.block b (lt h)).trans h
theorem low {w : World} {base b2 e C n : Nat} {v : Value} {xs : List Value} (h : w.ownsRow base e C v n xs) (hb : b2 ≤ base) : w.ownsRow b2 e C v n xs := by
  refine ⟨h.1, ?_⟩
  rcases h.2 with h0 | ⟨g, cap, cur, h1, h2, rest⟩
  · exact .inl h0
  · exact .inr ⟨g, cap, cur, h1, Nat.le_trans hb h2, rest⟩
end Blk

/-- A slice that reads as these numbers, within its room. -/
structure Sl (w : World) (x : Value) (l : List Int) : Prop where
  src : Src w x l.length (ints l)
  room : ∃ A c, x = .slice A l.length c ∧ l.length ≤ c
theorem Sl.kept {w w' : World} {x : Value} {l : List Int} (h : Sl w x l) (hb : Below w.heap.size w w') : Sl w' x l := ⟨h.src.kept hb, h.room⟩
theorem Sl.drewN {w : World} {x : Value} {l : List Int} (h : Sl w x l) (q : Nat) : Sl (w.drewN q) x l := ⟨h.src.drewN q, h.room⟩
theorem Sl.nil (w : World) : Sl w (.slice none 0 0) [] := ⟨⟨rfl, .inl ⟨rfl, rfl⟩⟩, none, 0, rfl, by simp⟩
theorem Sl.made (w : World) (xs : List Int) (e : TypeId) : Sl (w.alloc (.cells (ints xs).toArray e)) (.slice (some ⟨w.heap.size, 0, none⟩) xs.length xs.length) xs :=
  ⟨Src.made w (ints xs) e xs.length xs.length (ints_length _), _, _, rfl, Nat.le_refl _⟩
theorem Sl.own {w : World} {base : Nat} {e : TypeId} {v : Value} {xs : List Int} (h : w.ownsRow base e 1 v xs.length (ints xs)) : Sl w v xs := by
  refine ⟨Src.own h, ?_⟩
  rcases h.2 with ⟨rfl, h0⟩ | ⟨g, cap, cur, rfl, _, _, hc, _⟩
  · exact ⟨none, 0, by rw [h0], by omega⟩
  · exact ⟨_, _, rfl, hc⟩
/-- By its cells. -/
theorem Sl.get {w : World} {A : Option Addr} {n c : Nat} {l : List Int} (h : Sl w (.slice A n c) l) : ∀ k, k < l.length → ∃ ad, A = some ad ∧ w.cell? (ad.add k) = some (.int .i64 (l.getD k 0)) := by
  intro k hk
  obtain ⟨A', c', e, hf⟩ := h.src.form
  injection e with e1 e2 e3
  subst e1
  obtain ⟨ad, rfl, hc⟩ := hf k hk
  exact ⟨ad, rfl, by rw [hc, ints_get hk]⟩
theorem ints_drop (l : List Int) (k : Nat) : (ints l).drop k = ints (l.drop k) := by unfold ints; rw [List.map_drop]
/-- It lies in no block g. -/
def Clear (g : Nat) (v : Value) : Prop := ∀ ad n c, v = .slice (some ad) n c → ad.block ≠ g
theorem Clear.nil (g : Nat) : Clear g (.slice none 0 0) := fun _ _ _ e => by cases e
theorem Sl.set {w : World} {x : Value} {l : List Int} {g : Nat} (h : Sl w x l) (hc : Clear g x) (j : Nat) (u : Value) : Sl (w.setCell ⟨g, j, none⟩ u) x l := by
  refine ⟨⟨h.src.1, ?_⟩, h.room⟩
  rcases h.src.2 with h0 | ⟨ad, c, rfl, hf⟩
  · exact .inl h0
  · refine .inr ⟨ad, c, rfl, fun k v hv => ?_⟩
    have hb := hc ad _ c rfl
    rw [World.cell?_setCell_other _ _ _ _ (fun e => hb (by rw [← add_block ad k, ← e]))]
    exact hf k v hv
/-- Its tail: the value is one, whatever world it is cut in. -/
theorem Sl.tail {w : World} {A : Option Addr} {n c : Nat} {l : List Int} (h : Sl w (.slice A n c) l) (k : Nat) (hk : k ≤ l.length) (i : Int) (hi : i = k) :
    ∃ V, (∀ w' : World, (Instr.slice 27 (.slice A n c) (some (.int .i64 i)) none none).run Tryd.prog w' = .ok V w') ∧ Sl w V (l.drop k) ∧ ∀ g, Clear g (.slice A n c) → Clear g V := by
  obtain ⟨A', c', e, hc⟩ := h.room
  injection e with e1 e2 e3
  subst e1; subst e2; subst e3; subst hi
  have hu : Tryd.prog.underlying 27 = some (.slice (Tryd.prog.elem 27)) := by kernel_rfl
  refine ⟨.slice (if c = k then A else A.map (·.add k)) (l.length - k) (c - k), fun w' => ?_, ⟨⟨by rw [ints_length], ?_⟩, ?_⟩, ?_⟩
  · rw [run_slice_l w' 27 A l.length c hu .i64 k (by omega) (by omega)]
    have hs : (sizeOf (Tryd.prog.elem 27)).run Tryd.prog w' = .ok 1 w' := by kernel_rfl
    rw [hs]
    simp [Result.andThen, sliced]
  · rw [List.length_drop]
    rcases h.src.2 with ⟨e, h0⟩ | ⟨ad, c2, e, hcell⟩
    · injection e with e1 e2 e3
      subst e1; subst e3
      left
      refine ⟨?_, by omega⟩
      have : k = 0 := by omega
      subst this
      simp [h0]
    · injection e with e1 e2 e3
      subst e1; subst e3
      right
      by_cases hck : c = k
      · rw [if_pos hck]
        refine ⟨ad, c - k, rfl, fun j u hu => ?_⟩
        have : l.drop k = [] := List.drop_eq_nil_of_le (by omega)
        rw [this] at hu
        simp [ints] at hu
      · rw [if_neg hck]
        refine ⟨ad.add k, c - k, rfl, fun j u hu => ?_⟩
        rw [Go.Deep.add_add]
        refine hcell (k + j) u ?_
        rw [← ints_drop, List.getElem?_drop] at hu
        exact hu
  · exact ⟨_, _, by rw [List.length_drop], by rw [List.length_drop]; omega⟩
  · intro g hg ad n' c' e
    injection e with e1 e2 e3
    split at e1
    · subst e1; exact hg ad _ c rfl
    · cases A with
      | none => cases e1
      | some a =>
        have : ad = a.add k := by simpa using e1.symm
        rw [this, add_block]; exact hg a _ c rfl
end Go.Proofs.YtkkpdfjbgiijlaaDoor
