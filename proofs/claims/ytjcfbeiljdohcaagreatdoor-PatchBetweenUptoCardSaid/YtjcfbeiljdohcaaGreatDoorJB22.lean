/- Joined texts: GrdFit, GrdRes, GrdResize, ScrSize, RowShort, GrdHeld. -/
import Derived.Test.YtjcfbeiljdohcaaGreatDoorJB21
import Derived.Deep.DeepCutAuto
import Derived.Deep.RegionLaw
import Derived.Deep.CutRange
namespace Go.Proofs.YtjcfbeiljdohcaaGreatDoor
set_option maxRecDepth 100000
section
open Go.RowKit
namespace Row
theorem cutL_end {l : List Cl} {p : Nat} (h : l.length ≤ p) : cutL l p = l := by unfold cutL; rw [if_neg (by omega)]
theorem fit_same {l : List Cl} (a : Look) : fitRow l l.length a = l := by
  unfold fitRow; rw [if_neg (Nat.lt_irrefl _), Nat.sub_self]; simp
theorem fit_long {l : List Cl} {n : Nat} (h : l.length < n) (a : Look) : fitRow l n a = l ++ List.replicate (n - l.length) (blank a) := by
  unfold fitRow; rw [if_neg (by omega)]
theorem fit_cut {l : List Cl} (hg : Good l) {n : Nat} (h1 : 1 ≤ n) (h : n ≤ l.length) (a : Look) : (repl l n l.length (List.replicate (l.length - n) (blank a))).take n = fitRow l n a := by
  rcases Nat.lt_or_ge n l.length with hn | hn
  · have hr : repl l n l.length (List.replicate (l.length - n) (blank a)) = mid l n l.length (List.replicate (l.length - n) (blank a)) := by
      unfold repl; rw [if_neg (by omega)]
    rw [hr]
    unfold mid
    rw [cutL_end (l := cutL l n) (by rw [cutL_length]; exact Nat.le_refl _)]
    have ht : ((cutL l n).take n).length = n := by rw [List.length_take, cutL_length]; omega
    rw [List.take_left' ht]
    unfold fitRow
    rw [if_pos hn, Nat.sub_eq_zero_of_le (by omega), List.replicate_zero, List.append_nil]
    have hlen : (l.take n).length = n := by rw [List.length_take]; omega
    have hlast : g (l.take n) (n - 1) = g l (n - 1) := g_take (by omega)
    refine ext_g (by rw [ht, mendEnd_length, hlen]) fun i hi => ?_
    rw [ht] at hi
    rw [g_take hi, cutL_g]
    unfold mendEnd
    rw [hlen, hlast]
    have hwide : (g l n).wide = 2 ↔ (g l (n - 1)).wide = 1 := by
      constructor
      · intro hw
        obtain ⟨_, h2, _⟩ := good_ahead hg hn (kind_of_wide2 (okAt_kind (hg n hn)) hw)
        exact kind_2 h2
      · intro hw
        have hk := kind_of_wide1 (okAt_kind (hg (n - 1) (by omega))) hw
        rcases hg (n - 1) (by omega) with e | ⟨_, _, e⟩ | ⟨e, _⟩
        · omega
        · rw [show n - 1 + 1 = n from by omega] at e; rw [e]; rfl
        · omega
    by_cases hw : (g l n).wide = 2
    · rw [if_pos (c := _ ∧ _) ⟨by intro e; rw [e] at hlen; simp at hlen; omega, hwide.1 hw⟩]
      by_cases e : i = n - 1
      · subst e
        rw [if_pos ⟨by omega, hn, hw, .inr rfl⟩, g_set_same (by omega)]
      · rw [if_neg (by omega), g_set_ne (by omega), g_take hi]
    · rw [if_neg (fun h => hw h.2.2.1), if_neg (fun h => hw (hwide.2 h.2)), g_take hi]
  · have e : n = l.length := by omega
    subst e
    rw [fit_same, Nat.sub_self]
    unfold repl
    rw [if_pos ⟨rfl, rfl⟩, List.take_of_length_le (Nat.le_refl _)]
theorem two_of {w : World} {a b : Value} {p q : List Cl} (h1 : Cs w a p) (h2 : Cs w b q) : ∀ k, k < [p, q].length → Cs w ([a, b].getD k undef) ([p, q].getD k []) := by
  intro k hk
  have hk : k < 2 := hk
  rcases (by omega : k = 0 ∨ k = 1) with rfl | rfl
  · exact h1
  · exact h2
def Off (g : Nat) (v : Value) : Prop := ∀ ad n c, v = .slice (some ad) n c → ad.block ≠ g
theorem OwnCs.off {w : World} {base g : Nat} {v : Value} {l : List Cl} (h : OwnCs w base v l) (hg : g < base) : Off g v := by
  rcases h.shape with ⟨rfl, _⟩ | ⟨b, cap, rfl, hb, _⟩
  · intro ad n c e; cases e
  · intro ad n c e
    injection e with e1 _ _
    injection e1 with e1
    rw [← e1]
    show b ≠ g
    omega
theorem off_same {g : Nat} {A : Option Addr} {n c : Nat} (h : Off g (.slice A n c)) (n' c' : Nat) : Off g (.slice A n' c') := by
  intro ad n2 c2 e
  injection e with e1 _ _
  subst e1
  exact h ad n c rfl
end Row
end
section
open Go.RowKit
namespace Row
theorem Boxes.set {w w2 : World} {r c : Int} {x : Value} {a : Look} (h : Boxes w w2 r c x a) {b : Nat} (hb : w.heap.size + 2 ≤ b) (j : Nat) (u : Value) : Boxes w (w2.setCell ⟨b, j, none⟩ u) r c x a :=
  ⟨Blk.other h.g (by omega) _ _, Blk.other h.a (by omega) _ _, h.below.setCell (p := ⟨b, j, none⟩) (by show w.heap.size ≤ b; omega) _⟩
theorem Boxes3.set {w w2 : World} {r c : Int} {x : Value} {a : Look} (h : Boxes3 w w2 r c x a) {b : Nat} (hb : w.heap.size + 3 ≤ b) (j : Nat) (u : Value) : Boxes3 w (w2.setCell ⟨b, j, none⟩ u) r c x a :=
  ⟨h.two.set (by omega) _ _, Blk.other h.z (by omega) _ _⟩
theorem Boxes3.grown {w w2 w3 : World} {r c : Int} {x : Value} {a : Look} (h : Boxes3 w w2 r c x a) {row : Option Nat} (hg : w2.grownBy w3 row) (hr : ∀ k, row = some k → w.heap.size + 3 ≤ k) : Boxes3 w w3 r c x a :=
  ⟨⟨box_grown h.two.g hg (fun e => by have := hr _ e.symm; omega), box_grown h.two.a hg (fun e => by have := hr _ e.symm; omega), h.two.below.grown hg h.base (fun k e => by have := hr k e; omega)⟩, box_grown h.z hg (fun e => by have := hr _ e.symm; omega)⟩
theorem OwnL.n {w : World} {base b n cap : Nat} {l : List Ln} (h : OwnL w base (.slice (some ⟨b, 0, none⟩) n cap) l) : n = l.length := by
  rcases h.2 with ⟨e, _⟩ | ⟨_, _, _, e, _⟩
  · injection e with e; cases e
  · injection e
theorem OwnL.shape {w : World} {base : Nat} {v : Value} {l : List Ln} (h : OwnL w base v l) (h0 : 0 < l.length) : ∃ g cap, v = .slice (some ⟨g, 0, none⟩) l.length cap ∧ base ≤ g ∧ l.length ≤ cap := by
  rcases h.2 with ⟨rfl, h1⟩ | ⟨g, cap, cur, rfl, hb, hg, hc, _⟩
  · omega
  · exact ⟨g, cap, rfl, hb, hc⟩
theorem OwnL.take {w : World} {base b n cap : Nat} {l : List Ln} (h : OwnL w base (.slice (some ⟨b, 0, none⟩) n cap) l) (k : Nat) (hk : k ≤ l.length) : OwnL w base (.slice (some ⟨b, 0, none⟩) k cap) (l.take k) := by
  have hn : n = l.length := h.n
  have hl : (l.take k).length = k := by rw [List.length_take]; omega
  refine ⟨by rw [lvs_length, hl, Nat.mul_one], ?_⟩
  rcases h.2 with ⟨e, _⟩ | ⟨g', cap', cur, e, h1, h2, h3, h4, h5, h6⟩
  · injection e with e; cases e
  · injection e with e1 e2 e3
    injection e1 with e1
    injection e1 with e1
    subst e1; subst e3
    refine .inr ⟨b, cap, cur, by rw [hl], h1, h2, by omega, h4, h5, ?_⟩
    rw [hl, lvs_take, ← h6, Nat.mul_one, Nat.mul_one, List.take_take, Nat.min_eq_left (by omega)]
theorem OwnL.cell {w : World} {base b n cap : Nat} {l : List Ln} (h : OwnL w base (.slice (some ⟨b, 0, none⟩) n cap) l) {k : Nat} (hk : k < l.length) : w.cell? ⟨b, k, none⟩ = some (lv (l.getD k default)) := by
  have hn : n = l.length := h.n
  subst hn
  rw [World.ownsRow.cellAt h k (by omega), lvs_get hk]
theorem OwnL.free {w : World} {base b n cap : Nat} {l : List Ln} (h : OwnL w base (.slice (some ⟨b, 0, none⟩) n cap) l) (j : Nat) : w.frozen? ⟨b, j, none⟩ = false := by
  have hn : n = l.length := h.n
  subst hn
  exact World.ownsRow.frozenAt h j
theorem OwnL.put {w : World} {base b n cap : Nat} {l : List Ln} (h : OwnL w base (.slice (some ⟨b, 0, none⟩) n cap) l) (k : Nat) (x : Ln) : OwnL (w.setCell ⟨b, k, none⟩ (lv x)) base (.slice (some ⟨b, 0, none⟩) n cap) (l.set k x) := by
  have hn : n = l.length := h.n
  subst hn
  have s := (World.ownsRow.stored h k (lv x)).1
  unfold OwnL
  rw [List.length_set]
  have e : lvs (l.set k x) = (lvs l).set k (lv x) := by unfold lvs; rw [List.map_set]
  rw [e]; exact s
theorem getD_set_same {l : List Ln} {k : Nat} (h : k < l.length) (x : Ln) : (l.set k x).getD k default = x := by simp [h]
theorem getD_set_ne {l : List Ln} {j k : Nat} (h : k ≠ j) (x : Ln) : (l.set k x).getD j default = l.getD j default := by simp [List.getElem?_set_ne h]
theorem lnsOk_of {w : World} {c : Nat} {l : List Ln} (h : ∀ j, j < l.length → LnOk w c (l.getD j default)) : LnsOk w c l := by
  intro x hx
  obtain ⟨i, hi, rfl⟩ := List.getElem_of_mem hx
  have := h i hi
  simpa [hi] using this
theorem rowOf_rowsOfL {c i : Nat} {l : List Ln} (h : i < l.length) : rowOf (rowsOfL c l) i = lrow c (l.getD i default) := by
  simp [rowOf, rowsOfL, h]
theorem fit_lns {rs : List (List Cl)} {r c m : Nat} {a : Look} {xs : List Ln} (hm : m = min r rs.length) (hx : xs.length = m) (h : ∀ j, j < m → lrow c (xs.getD j default) = fitRow (rowOf rs j) c a) :
    rowsOfL c (xs ++ List.replicate (r - m) (.empty a)) = Row.fitted rs r c a := by
  have hl : (rowsOfL c (xs ++ List.replicate (r - m) (.empty a))).length = r := by
    unfold rowsOfL; rw [List.length_map, List.length_append, List.length_replicate]; omega
  refine rows_ext (by rw [hl]; unfold Row.fitted; rw [List.length_map, List.length_range]) fun i hi => ?_
  rw [hl] at hi
  unfold Row.fitted
  rw [rowOf_map _ hi, rowsOfL_append, rowsOfL_rep]
  have hxl : (rowsOfL c xs).length = m := by unfold rowsOfL; rw [List.length_map, hx]
  by_cases h1 : i < m
  · rw [rowOf_append_left (by omega), rowOf_rowsOfL (by omega), h i h1, if_pos (by omega)]
  · rw [rowOf_append_right (by omega), hxl, rowOf_rep _ (by omega), if_neg (by omega)]
theorem kept_get {cv : Nat → Value} {l : List Cl} {C R j : Nat} (h : j < R) : (keptOf cv l C (List.range R)).getD j default = .kept (cv j) (rowAt l C j) := by
  unfold keptOf; simp [h]
theorem Cs.move {w w' : World} {x : Value} {l : List Cl} (h : Cs w x l) (k : ∀ (ad : Addr) (n c : Nat) (j : Nat) (u : Value), x = .slice (some ad) n c → w.cell? (ad.add j) = some u → w'.cell? (ad.add j) = some u) : Cs w' x l := by
  refine ⟨h.1, h.2.1, ?_⟩
  rcases h.2.2 with h0 | ⟨ad, c, rfl, hc⟩
  · exact .inl h0
  · refine .inr ⟨ad, c, rfl, fun i r hr j u hu => ?_⟩
    have := hc i r hr j u hu
    rw [Go.Deep.add_add] at this ⊢
    exact k ad _ _ _ _ rfl this
theorem Rm.set {w : World} {x : Value} {l : List Cl} {g : Nat} (h : Rm w x l) (ho : Off g x) (j : Nat) (u : Value) : Rm (w.setCell ⟨g, j, none⟩ u) x l :=
  ⟨h.1.move fun ad n c i v e hv => by rw [World.cell?_setCell_other _ _ _ _ (fun e2 => ho ad n c e (by rw [← add_block ad i, ← e2]))]; exact hv, h.2⟩
theorem Rm.grown {w w' : World} {x : Value} {l : List Cl} {row : Option Nat} (h : Rm w x l) (hg : w.grownBy w' row) (ho : ∀ k, row = some k → Off k x) : Rm w' x l :=
  ⟨h.1.move fun ad n c i v e hv => by
    have hb := World.block_lt_of_cell? w _ hv
    have hk := hg.block (ad.add i).block hb (fun e2 => ho _ e2.symm ad n c e (add_block ad i).symm)
    unfold World.cell? at hv ⊢
    rw [hk]; exact hv, h.2⟩
theorem Rm.off {w : World} {x : Value} {l : List Cl} {g : Nat} (h : Rm w x l) (h0 : 0 < l.length) (hg : w.heap.size ≤ g) : Off g x := by
  intro ad n c e
  subst e
  have := h.1.flat.2 0 (.int .i64 (Row.g l 0).rune) (by have := flat_get h0 (show 0 < 6 by decide); simpa [cvals] using this)
  have hb := World.block_lt_of_cell? w _ this
  rw [add_block] at hb
  omega
end Row
end
section
open Go.RowKit
namespace Row
structure Fits (wr : World) (cv : Nat → Value) (l : List Cl) (rs : List (List Cl)) (R C c m : Nat) (a : Look) (g k : Nat) (xs : List Ln) : Prop where
  len : xs.length = m
  done : ∀ j, j < k → ∃ v, xs.getD j default = .kept v (fitRow (rowOf rs j) c a) ∧ Rm wr v (fitRow (rowOf rs j) c a) ∧ Off g v
  left : ∀ j, k ≤ j → j < m → xs.getD j default = .kept (cv j) (rowAt l C j)
  old : ∀ i, i < R → Rm wr (cv i) (rowAt l C i) ∧ Off g (cv i)
theorem Fits.kept {wr w2 : World} {cv : Nat → Value} {l : List Cl} {rs : List (List Cl)} {R C c m g k : Nat} {a : Look} {xs : List Ln} (h : Fits wr cv l rs R C c m a g k xs) (hb : Below wr.heap.size wr w2) : Fits w2 cv l rs R C c m a g k xs :=
  ⟨h.len, fun j hj => by obtain ⟨v, e, h1, h2⟩ := h.done j hj; exact ⟨v, e, h1.kept hb, h2⟩, h.left, fun i hi => ⟨(h.old i hi).1.kept hb, (h.old i hi).2⟩⟩
theorem Fits.grown {wr w2 : World} {cv : Nat → Value} {l : List Cl} {rs : List (List Cl)} {R C c m g k : Nat} {a : Look} {xs : List Ln} (h : Fits wr cv l rs R C c m a g k xs) (hg : wr.grownBy w2 (some g)) : Fits w2 cv l rs R C c m a g k xs :=
  ⟨h.len, fun j hj => by obtain ⟨v, e, h1, h2⟩ := h.done j hj; exact ⟨v, e, h1.grown hg (fun k e => by cases e; exact h2), h2⟩, h.left, fun i hi => ⟨(h.old i hi).1.grown hg (fun k e => by cases e; exact (h.old i hi).2), (h.old i hi).2⟩⟩
theorem Fits.stored {wr : World} {cv : Nat → Value} {l : List Cl} {rs : List (List Cl)} {R C c m g k : Nat} {a : Look} {xs : List Ln} (h : Fits wr cv l rs R C c m a g k xs) (hk : k < m) {v : Value} (hv : Rm wr v (fitRow (rowOf rs k) c a)) (ho : Off g v) (u : Value) :
    Fits (wr.setCell ⟨g, k, none⟩ u) cv l rs R C c m a g (k + 1) (xs.set k (.kept v (fitRow (rowOf rs k) c a))) := by
  refine ⟨by rw [List.length_set]; exact h.len, fun j hj => ?_, fun j h1 h2 => ?_, fun i hi => ⟨(h.old i hi).1.set (h.old i hi).2 _ _, (h.old i hi).2⟩⟩
  · by_cases e : k = j
    · subst e
      exact ⟨v, getD_set_same (by rw [h.len]; exact hk) _, hv.set ho _ _, ho⟩
    · obtain ⟨v', e', h1, h2⟩ := h.done j (by omega)
      exact ⟨v', by rw [getD_set_ne e]; exact e', h1.set h2 _ _, h2⟩
  · rw [getD_set_ne (by omega)]; exact h.left j (by omega) h2
theorem Fits.start {wr : World} {cv : Nat → Value} {l : List Cl} {rs : List (List Cl)} {R C c m g : Nat} {a : Look} (hm : m ≤ R) (h : ∀ i, i < R → Rm wr (cv i) (rowAt l C i) ∧ Off g (cv i)) : Fits wr cv l rs R C c m a g 0 ((keptOf cv l C (List.range R)).take m) := by
  refine ⟨by rw [List.length_take, keptOf_length, List.length_range]; omega, fun j hj => absurd hj (by omega), fun j _ h2 => ?_, h⟩
  rw [← kept_get (cv := cv) (l := l) (C := C) (show j < R by omega)]
  simp [h2]
def Lined (w : World) (R C m : Nat) (x : Value) (a : Look) (l : List Cl) (s : Value) (wx : World) : Prop :=
  ∃ (cv : Nat → Value) (g gc : Nat), s = .slice (some ⟨g, 0, none⟩) m gc ∧ w.heap.size + 3 ≤ g ∧ Boxes3 w wx R C x a ∧ OwnL wx (w.heap.size + 3) (.slice (some ⟨g, 0, none⟩) R gc) (keptOf cv l C (List.range R)) ∧ (∀ i, i < R → Rm wx (cv i) (rowAt l C i) ∧ Off g (cv i))
end Row
end
section
open Go.RowKit
namespace Scr
open Go.Proofs.YtjcfbeiljdohcaaGreatDoor.Row
theorem rowsOf_flatten {c : Nat} : ∀ {rs : List (List Cl)}, Even c rs → rowsOf c rs.length rs.flatten = rs
  | [], _ => rfl
  | r :: rs, h => by
    rw [List.length_cons, rowsOf, List.flatten_cons, List.take_left' h.head, List.drop_left' h.head, rowsOf_flatten h.tail]
theorem parts_of {G : Gr} (h : gridB G = true) : ∃ (R C : Nat) (rs : List (List Cl)), G = ⟨R, C, rs.flatten⟩ ∧ Rws R C rs ∧ ∀ r c, fitG G r c = ⟨r, c, (fitted rs r c plain).flatten⟩ := by
  obtain ⟨R, C, rs, rfl, hr⟩ := ((gridB_iff G).1 h).parted
  refine ⟨R, C, rs, rfl, hr, fun r c => ?_⟩
  unfold fitG
  show (⟨r, c, (fitted (rowsOf ((C : Int).toNat) ((R : Int).toNat) rs.flatten) r c plain).flatten⟩ : Gr) = _
  rw [Int.toNat_natCast, Int.toNat_natCast, ← hr.len, rowsOf_flatten hr.even]
structure Rz (w0 : World) (s : S) (x y z : Value) (w : World) : Prop where
  bel : Below w0.heap.size w0 w
  b0 : SBox w w0.heap.size s x y z
  b1 : w.heap[w0.heap.size + 1]? = some (.cells zarr 101 (0, 0))
theorem Rz.kept {w0 w w' : World} {s : S} {x y z : Value} (h : Rz w0 s x y z w) (hb : Below w.heap.size w w') : Rz w0 s x y z w' := ⟨h.bel.trans (hb.mono h.bel.size), h.b0.kept hb, Blk.kept h.b1 hb⟩
theorem Rz.up {w0 w : World} {s : S} {x y z : Value} (h : Rz w0 s x y z w) : w0.heap.size + 2 ≤ w.heap.size := Blk.lt h.b1
theorem Rz.start (w : World) (s : S) (x y z : Value) : Rz w s x y z ((w.alloc (.cells (sarr s x y z) 101)).alloc (.cells zarr 101)) :=
  ⟨(bel_alloc w _).alloc (by simp) _, heap_alloc2_old _ _ _, heap_alloc2_new _ _ _⟩
theorem Rz.main {w0 w : World} {s : S} {x y z : Value} (h : Rz w0 s x y z w) (R C : Int) (l : List Cl) (v : Value) : Rz w0 { s with main := ⟨R, C, l⟩ } v y z (gput w w0.heap.size R C v) :=
  ⟨gput_below h.bel (Nat.le_refl _) _ _ v, h.b0.putMain R C l v, gput_other h.b1 (by omega) _ _ _⟩
theorem Rz.other {w0 w : World} {s : S} {x y z : Value} (h : Rz w0 s x y z w) (R C : Int) (l : List Cl) (v : Value) : Rz w0 { s with other := ⟨R, C, l⟩ } x v z (oput w w0.heap.size R C v) :=
  ⟨oput_below h.bel (Nat.le_refl _) _ _ v, h.b0.putOther R C l v, oput_other h.b1 (by omega) _ _ _⟩
theorem Rz.tabs {w0 w : World} {s : S} {x y z : Value} (h : Rz w0 s x y z w) (l : List Bool) (v : Value) : Rz w0 { s with tabs := l } x y v (w.setCell ⟨w0.heap.size, 39, none⟩ v) :=
  ⟨h.bel.setCell (Nat.le_refl _) _, h.b0.putTabs l v, Blk.other h.b1 (by omega) _ _⟩
def kput (w : World) (b p : Nat) (n m : Int) (q : Bool) : World := ((w.setCell ⟨b, p, none⟩ (.int .i64 n)).setCell ⟨b, p + 1, none⟩ (.int .i64 m)).setCell ⟨b, p + 2, none⟩ (.bool q)
theorem SBox.putCur {w : World} {b : Nat} {s : S} {x y z : Value} (h : SBox w b s x y z) (n m : Int) (q : Bool) : SBox (kput w b 7 n m q) b { s with cur := { s.cur with row := n, col := m, wrap := q } } x y z := Blk.set (Blk.set (Blk.set h 7 _) 8 _) 9 _
theorem SBox.putSaved {w : World} {b : Nat} {s : S} {x y z : Value} (h : SBox w b s x y z) (n m : Int) (q : Bool) : SBox (kput w b 17 n m q) b { s with saved := { s.saved with row := n, col := m, wrap := q } } x y z := Blk.set (Blk.set (Blk.set h 17 _) 18 _) 19 _
theorem SBox.putToo {w : World} {b : Nat} {s : S} {x y z : Value} (h : SBox w b s x y z) (n m : Int) (q : Bool) : SBox (kput w b 27 n m q) b { s with too := { s.too with row := n, col := m, wrap := q } } x y z := Blk.set (Blk.set (Blk.set h 27 _) 28 _) 29 _
theorem kput_other {w : World} {g b p : Nat} {o : Obj} (h : w.heap[b]? = some o) (hn : b ≠ g) (n m : Int) (q : Bool) : (kput w g p n m q).heap[b]? = some o := Blk.other (Blk.other (Blk.other h hn _ _) hn _ _) hn _ _
theorem kput_below {B g p : Nat} {a w : World} (h : Below B a w) (hB : B ≤ g) (n m : Int) (q : Bool) : Below B a (kput w g p n m q) := ((h.setCell hB _).setCell hB _).setCell hB _
theorem kput_cs {w : World} {base g p : Nat} {x : Value} {l : List Cl} (h : OwnCs w base x l) (hg : g < base) (n m : Int) (q : Bool) : OwnCs (kput w g p n m q) base x l := ((h.set hg _ _).set hg _ _).set hg _ _
theorem kput_bs {w : World} {base g p : Nat} {x : Value} {l : List Bool} (h : Tab.OwnB w base x l) (hg : g < base) (n m : Int) (q : Bool) : Tab.OwnB (kput w g p n m q) base x l := ownB_set (ownB_set (ownB_set h hg _ _) hg _ _) hg _ _
theorem Rz.cur {w0 w : World} {s : S} {x y z : Value} (h : Rz w0 s x y z w) (n m : Int) (q : Bool) : Rz w0 { s with cur := { s.cur with row := n, col := m, wrap := q } } x y z (kput w w0.heap.size 7 n m q) :=
  ⟨kput_below h.bel (Nat.le_refl _) _ _ _, h.b0.putCur n m q, kput_other h.b1 (by omega) _ _ _⟩
theorem Rz.saved {w0 w : World} {s : S} {x y z : Value} (h : Rz w0 s x y z w) (n m : Int) (q : Bool) : Rz w0 { s with saved := { s.saved with row := n, col := m, wrap := q } } x y z (kput w w0.heap.size 17 n m q) :=
  ⟨kput_below h.bel (Nat.le_refl _) _ _ _, h.b0.putSaved n m q, kput_other h.b1 (by omega) _ _ _⟩
theorem Rz.too {w0 w : World} {s : S} {x y z : Value} (h : Rz w0 s x y z w) (n m : Int) (q : Bool) : Rz w0 { s with too := { s.too with row := n, col := m, wrap := q } } x y z (kput w w0.heap.size 27 n m q) :=
  ⟨kput_below h.bel (Nat.le_refl _) _ _ _, h.b0.putToo n m q, kput_other h.b1 (by omega) _ _ _⟩
end Scr
end
section
open Go.RowKit
namespace Row
open Utf Wid
theorem dec_four (l : List UInt8) : (dec l).2 ≤ 4 := by
  rcases decodeN_cases l.length (l.getD 0 0).toNat (l.getD 1 0).toNat (l.getD 2 0).toNat (l.getD 3 0).toNat (byte_lt _) (byte_lt _) (byte_lt _) (byte_lt _) with e | ⟨_, e⟩ | ⟨_, _, _, e⟩ | ⟨_, _, _, _, e⟩ | ⟨_, _, _, _, _, e⟩
  all_goals
    unfold dec
    rw [e]
    exact Nat.le_of_ble_eq_true rfl
theorem marks_long : ∀ (k : Nat) (l : List UInt8) (n : Nat), l.length ≤ k → marks l = some n → l.length ≤ 4 * n
  | 0, l, n, h, _ => by omega
  | k + 1, l, n, h, hm => by
    by_cases hl : l = []
    · subst hl; simp
    · rw [marks_step hl] at hm
      have h1 := dec_pos hl
      have h2 := dec_le hl
      have h4 := dec_four l
      by_cases hw : wid (dec l).1 = 0
      · rw [if_pos hw] at hm
        obtain ⟨m, hm', hmn⟩ := Option.map_eq_some_iff.1 hm
        have := marks_long k (l.drop (dec l).2) m (by rw [List.length_drop]; omega) hm'
        rw [List.length_drop] at this
        omega
      · rw [if_neg hw] at hm; cases hm
theorem combOk_short {m : List UInt8} (h : combOk m = true) : m.length ≤ 8 := by
  unfold combOk at h
  cases hm : marks m with
  | none => rw [hm] at h; cases h
  | some n =>
    rw [hm] at h
    have h2 : n ≤ 2 := of_decide_eq_true h
    have := marks_long m.length m n (Nat.le_refl _) hm
    omega
theorem good_texts {l : List Cl} (h : Good l) : ∀ i, i < l.length → (g l i).comb.length ≤ 8 := by
  intro i hi
  have hk := okAt_kind (h i hi)
  cases hc : combOk (g l i).comb with
  | true => exact combOk_short hc
  | false => exact absurd (kind_bad hc) hk
theorem RowOk.held {l : List Cl} (h : RowOk l) : Held l := fun i hi => by have := good_texts h.2.2 i hi; omega
end Row
end
section
open Go.RowKit
namespace Row
theorem flat_g {c : Nat} : ∀ {rs : List (List Cl)} (_ : Even c rs) (q j : Nat), q < rs.length → j < c → g rs.flatten (q * c + j) = g (rowOf rs q) j
  | [], _, q, j, h, _ => absurd h (by simp)
  | r :: rs, he, 0, j, _, hj => by
    rw [List.flatten_cons, Nat.zero_mul, Nat.zero_add, g_append_left (by rw [he.head]; exact hj)]; rfl
  | r :: rs, he, q + 1, j, h, hj => by
    rw [List.flatten_cons, g_append_right (by rw [he.head, Nat.succ_mul]; omega), he.head, show (q + 1) * c + j - c = q * c + j from by rw [Nat.succ_mul]; omega, flat_g he.tail q j (by simpa using h) hj]
    rfl
theorem split_at {c n i : Nat} (h : i < n * c) : ∃ q j, q < n ∧ j < c ∧ i = q * c + j := by
  have hc : 0 < c := by
    rcases Nat.eq_zero_or_pos c with e | e
    · subst e; simp at h
    · exact e
  refine ⟨i / c, i % c, Nat.div_lt_of_lt_mul (by rw [Nat.mul_comm]; exact h), Nat.mod_lt _ hc, ?_⟩
  have := Nat.div_add_mod i c
  rw [Nat.mul_comm c] at this
  omega
theorem Rws.short {R C : Nat} {rs : List (List Cl)} (h : Rws R C rs) : ∀ i, i < rs.flatten.length → (g rs.flatten i).comb.length ≤ 8 := by
  intro i hi
  rw [even_length h.even, h.len] at hi
  obtain ⟨q, j, hq, hj, rfl⟩ := split_at hi
  rw [flat_g h.even q j (by rw [h.len]; exact hq) hj]
  exact good_texts (h.ok q hq).2.2 j (by rw [h.rlen hq]; exact hj)
theorem Rws.held {R C : Nat} {rs : List (List Cl)} (h : Rws R C rs) : Held rs.flatten := fun i hi => by have := h.short i hi; omega
theorem back_cells {R C : Nat} {rs : List (List Cl)} (h : Rws R C rs) {n : Nat} {a : Look} (ha : attrOk a = true) {i : Nat} (h1 : n * C ≤ i) (h2 : i < R * C) :
    g (moved (moved rs 0 (R - 1) n C a) 0 (R - 1) (-(n : Int)) C a).flatten i = g rs.flatten i := by
  have hR := h.r1
  have m1 := moved_rws h (top := 0) (bot := R - 1) (by omega) (n : Int) ha
  have m2 := moved_rws m1 (top := 0) (bot := R - 1) (by omega) (-(n : Int)) ha
  obtain ⟨q, j, hq, hj, rfl⟩ := split_at h2
  have hnq : n ≤ q := by
    rcases Nat.lt_or_ge q n with e | e
    · exfalso
      have : (q + 1) * C ≤ n * C := Nat.mul_le_mul_right C e
      rw [Nat.succ_mul] at this
      omega
    · exact e
  rw [flat_g m2.even q j (by rw [m2.len]; exact hq) hj, flat_g h.even q j (by rw [h.len]; exact hq) hj]
  have := back_rows (rs := rs) (n := n) (c := C) (a := a) hnq (by rw [h.len]; exact hq)
  rw [h.len] at this
  rw [this]
end Row
end
end Go.Proofs.YtjcfbeiljdohcaaGreatDoor
