/- The developers' Resize, where a grid may be resized. -/
import Derived.Test.YthkfcfmnccfbnaaGrdUp
import Derived.Test.YthkfcfmnccfbnaaGrdFit
namespace Go.Proofs.Ythkfcfmnccfbnaa
set_option maxRecDepth 100000
open Go.RowKit
namespace Row

theorem Boxes.set {w w2 : World} {r c : Int} {x : Value} {a : Look} (h : Boxes w w2 r c x a) {b : Nat} (hb : w.heap.size + 2 ≤ b) (j : Nat) (u : Value) : Boxes w (w2.setCell ⟨b, j, none⟩ u) r c x a :=
  ⟨Blk.other h.g (by omega) _ _, Blk.other h.a (by omega) _ _, h.below.setCell (p := ⟨b, j, none⟩) (by show w.heap.size ≤ b; omega) _⟩
theorem Boxes3.set {w w2 : World} {r c : Int} {x : Value} {a : Look} (h : Boxes3 w w2 r c x a) {b : Nat} (hb : w.heap.size + 3 ≤ b) (j : Nat) (u : Value) : Boxes3 w (w2.setCell ⟨b, j, none⟩ u) r c x a :=
  ⟨h.two.set (by omega) _ _, Blk.other h.z (by omega) _ _⟩
theorem Boxes3.grown {w w2 w3 : World} {r c : Int} {x : Value} {a : Look} (h : Boxes3 w w2 r c x a) {row : Option Nat} (hg : w2.grownBy w3 row) (hr : ∀ k, row = some k → w.heap.size + 3 ≤ k) : Boxes3 w w3 r c x a :=
  ⟨⟨box_grown h.two.g hg (fun e => by have := hr _ e.symm; omega), box_grown h.two.a hg (fun e => by have := hr _ e.symm; omega), h.two.below.grown hg h.base (fun k e => by have := hr k e; omega)⟩, box_grown h.z hg (fun e => by have := hr _ e.symm; omega)⟩
theorem OwnL.n {w : World} {base b n cap : Nat} {l : List Ln} (h : OwnL w base (.slice (some ⟨b, 0, none⟩) n cap) l) : n = l.length := by
  rcases h.2 with ⟨e, _⟩ | ⟨_, _, _, e, _⟩
  · injection e with e; cases e
  · injection e
theorem OwnL.shape {w : World} {base : Nat} {v : Value} {l : List Ln} (h : OwnL w base v l) (h0 : 0 < l.length) : ∃ g cap, v = .slice (some ⟨g, 0, none⟩) l.length cap ∧ base ≤ g ∧ l.length ≤ cap := by
  rcases h.2 with ⟨rfl, h1⟩ | ⟨g, cap, cur, rfl, hb, hg, hc, _⟩
  · omega
  · exact ⟨g, cap, rfl, hb, hc⟩
theorem OwnL.take {w : World} {base b n cap : Nat} {l : List Ln} (h : OwnL w base (.slice (some ⟨b, 0, none⟩) n cap) l) (k : Nat) (hk : k ≤ l.length) : OwnL w base (.slice (some ⟨b, 0, none⟩) k cap) (l.take k) := by
  have hn : n = l.length := h.n
  have hl : (l.take k).length = k := by rw [List.length_take]; omega
  refine ⟨by rw [lvs_length, hl, Nat.mul_one], ?_⟩
  rcases h.2 with ⟨e, _⟩ | ⟨g', cap', cur, e, h1, h2, h3, h4, h5, h6⟩
  · injection e with e; cases e
  · injection e with e1 e2 e3
    injection e1 with e1
    injection e1 with e1
    subst e1; subst e3
    refine .inr ⟨b, cap, cur, by rw [hl], h1, h2, by omega, h4, h5, ?_⟩
    rw [hl, lvs_take, ← h6, Nat.mul_one, Nat.mul_one, List.take_take, Nat.min_eq_left (by omega)]
theorem OwnL.cell {w : World} {base b n cap : Nat} {l : List Ln} (h : OwnL w base (.slice (some ⟨b, 0, none⟩) n cap) l) {k : Nat} (hk : k < l.length) : w.cell? ⟨b, k, none⟩ = some (lv (l.getD k default)) := by
  have hn : n = l.length := h.n
  subst hn
  rw [World.ownsRow.cellAt h k (by omega), lvs_get hk]
theorem OwnL.free {w : World} {base b n cap : Nat} {l : List Ln} (h : OwnL w base (.slice (some ⟨b, 0, none⟩) n cap) l) (j : Nat) : w.frozen? ⟨b, j, none⟩ = false := by
  have hn : n = l.length := h.n
  subst hn
  exact World.ownsRow.frozenAt h j
theorem OwnL.put {w : World} {base b n cap : Nat} {l : List Ln} (h : OwnL w base (.slice (some ⟨b, 0, none⟩) n cap) l) (k : Nat) (x : Ln) : OwnL (w.setCell ⟨b, k, none⟩ (lv x)) base (.slice (some ⟨b, 0, none⟩) n cap) (l.set k x) := by
  have hn : n = l.length := h.n
  subst hn
  have s := (World.ownsRow.stored h k (lv x)).1
  unfold OwnL
  rw [List.length_set]
  have e : lvs (l.set k x) = (lvs l).set k (lv x) := by unfold lvs; rw [List.map_set]
  rw [e]; exact s
theorem getD_set_same {l : List Ln} {k : Nat} (h : k < l.length) (x : Ln) : (l.set k x).getD k default = x := by simp [h]
theorem getD_set_ne {l : List Ln} {j k : Nat} (h : k ≠ j) (x : Ln) : (l.set k x).getD j default = l.getD j default := by simp [List.getElem?_set_ne h]
theorem lnsOk_of {w : World} {c : Nat} {l : List Ln} (h : ∀ j, j < l.length → LnOk w c (l.getD j default)) : LnsOk w c l := by
  intro x hx
  obtain ⟨i, hi, rfl⟩ := List.getElem_of_mem hx
  have := h i hi
  simpa [hi] using this
theorem rowOf_rowsOfL {c i : Nat} {l : List Ln} (h : i < l.length) : rowOf (rowsOfL c l) i = lrow c (l.getD i default) := by
  simp [rowOf, rowsOfL, h]
/-- Fitted rows, and empty ones below. -/
theorem fit_lns {rs : List (List Cl)} {r c m : Nat} {a : Look} {xs : List Ln} (hm : m = min r rs.length) (hx : xs.length = m) (h : ∀ j, j < m → lrow c (xs.getD j default) = fitRow (rowOf rs j) c a) :
    rowsOfL c (xs ++ List.replicate (r - m) (.empty a)) = Row.fitted rs r c a := by
  have hl : (rowsOfL c (xs ++ List.replicate (r - m) (.empty a))).length = r := by
    unfold rowsOfL; rw [List.length_map, List.length_append, List.length_replicate]; omega
  refine rows_ext (by rw [hl]; unfold Row.fitted; rw [List.length_map, List.length_range]) fun i hi => ?_
  rw [hl] at hi
  unfold Row.fitted
  rw [rowOf_map _ hi, rowsOfL_append, rowsOfL_rep]
  have hxl : (rowsOfL c xs).length = m := by unfold rowsOfL; rw [List.length_map, hx]
  by_cases h1 : i < m
  · rw [rowOf_append_left (by omega), rowOf_rowsOfL (by omega), h i h1, if_pos (by omega)]
  · rw [rowOf_append_right (by omega), hxl, rowOf_rep _ (by omega), if_neg (by omega)]
theorem kept_get {cv : Nat → Value} {l : List Cl} {C R j : Nat} (h : j < R) : (keptOf cv l C (List.range R)).getD j default = .kept (cv j) (rowAt l C j) := by
  unfold keptOf; simp [h]
theorem Cs.move {w w' : World} {x : Value} {l : List Cl} (h : Cs w x l) (k : ∀ (ad : Addr) (n c : Nat) (j : Nat) (u : Value), x = .slice (some ad) n c → w.cell? (ad.add j) = some u → w'.cell? (ad.add j) = some u) : Cs w' x l := by
  refine ⟨h.1, h.2.1, ?_⟩
  rcases h.2.2 with h0 | ⟨ad, c, rfl, hc⟩
  · exact .inl h0
  · refine .inr ⟨ad, c, rfl, fun i r hr j u hu => ?_⟩
    have := hc i r hr j u hu
    rw [Go.Deep.add_add] at this ⊢
    exact k ad _ _ _ _ rfl this
theorem Rm.set {w : World} {x : Value} {l : List Cl} {g : Nat} (h : Rm w x l) (ho : Off g x) (j : Nat) (u : Value) : Rm (w.setCell ⟨g, j, none⟩ u) x l :=
  ⟨h.1.move fun ad n c i v e hv => by rw [World.cell?_setCell_other _ _ _ _ (fun e2 => ho ad n c e (by rw [← add_block ad i, ← e2]))]; exact hv, h.2⟩
theorem Rm.grown {w w' : World} {x : Value} {l : List Cl} {row : Option Nat} (h : Rm w x l) (hg : w.grownBy w' row) (ho : ∀ k, row = some k → Off k x) : Rm w' x l :=
  ⟨h.1.move fun ad n c i v e hv => by
    have hb := World.block_lt_of_cell? w _ hv
    have hk := hg.block (ad.add i).block hb (fun e2 => ho _ e2.symm ad n c e (add_block ad i).symm)
    unfold World.cell? at hv ⊢
    rw [hk]; exact hv, h.2⟩
/-- What was there lies in no later block. -/
theorem Rm.off {w : World} {x : Value} {l : List Cl} {g : Nat} (h : Rm w x l) (h0 : 0 < l.length) (hg : w.heap.size ≤ g) : Off g x := by
  intro ad n c e
  subst e
  have := h.1.flat.2 0 (.int .i64 (Row.g l 0).rune) (by have := flat_get h0 (show 0 < 6 by decide); simpa [cvals] using this)
  have hb := World.block_lt_of_cell? w _ this
  rw [add_block] at hb
  omega
end Row
end Go.Proofs.Ythkfcfmnccfbnaa
