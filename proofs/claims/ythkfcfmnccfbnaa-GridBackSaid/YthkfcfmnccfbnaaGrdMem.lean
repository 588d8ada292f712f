/- Grids in memory: a part of a slice of cells; the beginning of own cells. -/
import Derived.Test.YthkfcfmnccfbnaaRowHelp
import Derived.Test.YthkfcfmnccfbnaaGrdPlain
namespace Go.Proofs.Ythkfcfmnccfbnaa
set_option maxRecDepth 100000
open Go.RowKit
namespace Row

theorem rngY {n lo hi : Int} (h : lo ≤ n ∧ n ≤ hi) : rng n lo hi = true := by unfold rng; rw [decide_eq_true h.1, decide_eq_true h.2]; rfl
theorem rngN {n lo hi : Int} (h : ¬ (lo ≤ n ∧ n ≤ hi)) : rng n lo hi = false := by
  unfold rng
  rw [Bool.and_eq_false_iff]
  by_cases k : lo ≤ n
  · exact .inr (decide_eq_false fun e => h ⟨k, e⟩)
  · exact .inl (decide_eq_false k)
/-- Cells, within their room. -/
def Rm (w : World) (x : Value) (l : List Cl) : Prop := Cs w x l ∧ ∃ A c, x = .slice A l.length c ∧ l.length ≤ c
theorem Rm.cs {w : World} {x : Value} {l : List Cl} (h : Rm w x l) : Cs w x l := h.1
theorem Rm.kept {w w' : World} {x : Value} {l : List Cl} (h : Rm w x l) (hb : Below w.heap.size w w') : Rm w' x l := ⟨h.1.kept hb, h.2⟩
theorem Rm.nil (w : World) : Rm w (.slice none 0 0) [] := ⟨Cs.nil w, none, 0, rfl, Nat.le_refl _⟩
theorem OwnCs.rm {w : World} {base : Nat} {v : Value} {l : List Cl} (h : OwnCs w base v l) : Rm w v l := by
  refine ⟨h.cs, ?_⟩
  rcases h.shape with ⟨rfl, rfl⟩ | ⟨g, cap, rfl, _, hc⟩
  · exact ⟨none, 0, rfl, Nat.le_refl _⟩
  · exact ⟨_, _, rfl, hc⟩
theorem Rm.room {w : World} {A : Option Addr} {n c : Nat} {l : List Cl} (h : Rm w (.slice A n c) l) : n = l.length ∧ l.length ≤ c := by
  obtain ⟨_, A', c', e, hc⟩ := h
  injection e with e1 e2 e3
  exact ⟨e2, by omega⟩
theorem flat_part {l : List Cl} {lo hi : Nat} (h1 : lo ≤ hi) (h2 : hi ≤ l.length) {j : Nat} {u : Value} (hu : (Row.flat ((l.drop lo).take (hi - lo)))[j]? = some u) : (Row.flat l)[lo * 6 + j]? = some u := by
  have hj : j < (Row.flat ((l.drop lo).take (hi - lo))).length := (List.getElem?_eq_some_iff.1 hu).1
  have hs : Row.flat l = Row.flat (l.take lo) ++ (Row.flat ((l.drop lo).take (hi - lo)) ++ Row.flat ((l.drop lo).drop (hi - lo))) := by
    rw [← flat_append, List.take_append_drop, ← flat_append, List.take_append_drop]
  have hl : (Row.flat (l.take lo)).length = lo * 6 := by rw [flat_length, List.length_take, Nat.min_eq_left (by omega)]
  rw [hs, List.getElem?_append_right (by omega), hl, Nat.add_sub_cancel_left, List.getElem?_append_left hj]
  exact hu
/-- A part of it. -/
theorem Rm.span {w : World} {A : Option Addr} {n c : Nat} {l : List Cl} (h : Rm w (.slice A n c) l) (lo hi : Nat) (h1 : lo ≤ hi) (h2 : hi ≤ l.length) (i j : Int) (ei : i = lo) (ej : j = hi) :
    ∃ A' c', (∀ w' : World, (Instr.slice 22 (.slice A n c) (some (.int .i64 i)) (some (.int .i64 j)) none).run Try.prog w' = .ok (.slice A' (hi - lo) c') w') ∧ Rm w (.slice A' (hi - lo) c') ((l.drop lo).take (hi - lo)) := by
  subst ei; subst ej
  obtain ⟨en, hc⟩ := h.room
  have hu : Try.prog.underlying 22 = some (.slice (Try.prog.elem 22)) := by kernel_rfl
  have hlen : ((l.drop lo).take (hi - lo)).length = hi - lo := by rw [List.length_take, List.length_drop]; omega
  refine ⟨if c = lo then A else A.map (·.add (lo * 6)), c - lo, fun w' => ?_, ?_, ?_⟩
  · rw [run_slice_lh w' 22 A n c hu .i64 .i64 lo hi (by omega) (by omega) (by omega)]
    have hs : (sizeOf (Try.prog.elem 22)).run Try.prog w' = .ok 6 w' := by kernel_rfl
    rw [hs]
    simp [Result.andThen, sliced]
  · have hcs := h.cs
    rcases hcs.2.2 with ⟨e, h0⟩ | ⟨ad, c2, e, hcell⟩
    · injection e with e1 e2 e3
      subst e1; subst e3
      have h0 : l.length = 0 := h0
      have e4 : hi - lo = 0 := by omega
      have e5 : lo = 0 := by omega
      subst e5
      have : (l.drop 0).take (hi - 0) = [] := List.eq_nil_of_length_eq_zero (by rw [hlen]; exact e4)
      rw [this, e4, if_pos rfl]
      exact Cs.nil w
    · injection e with e1 e2 e3
      subst e1; subst e3
      by_cases hck : c = lo
      · rw [if_pos hck]
        have hd : (l.drop lo).take (hi - lo) = [] := List.eq_nil_of_length_eq_zero (by rw [hlen]; omega)
        have := Cs.of (w := w) (ad := ad) (c := c - lo) (l := (l.drop lo).take (hi - lo)) fun j u hu => by rw [hd] at hu; simp [Row.flat] at hu
        rwa [hlen] at this
      · rw [if_neg hck]
        have := Cs.of (w := w) (ad := ad.add (lo * 6)) (c := c - lo) (l := (l.drop lo).take (hi - lo)) fun j u hu => by
          rw [Go.Deep.add_add]
          subst en
          exact hcs.flat.2 (lo * 6 + j) u (flat_part h1 h2 hu)
        rwa [hlen] at this
  · exact ⟨_, _, by rw [hlen], by rw [hlen]; omega⟩
/-- Its row i, where it is a grid's cells. -/
theorem Rm.row {w : World} {A : Option Addr} {n c : Nat} {l : List Cl} (h : Rm w (.slice A n c) l) (C i : Nat) (h2 : (i + 1) * C ≤ l.length) (p q : Int) (ep : p = ((i * C : Nat) : Int)) (eq : q = (((i + 1) * C : Nat) : Int)) :
    ∃ A' c', (∀ w' : World, (Instr.slice 22 (.slice A n c) (some (.int .i64 p)) (some (.int .i64 q)) none).run Try.prog w' = .ok (.slice A' C c') w') ∧ Rm w (.slice A' C c') (rowAt l C i) := by
  have e : (i + 1) * C - i * C = C := by rw [Nat.succ_mul]; omega
  obtain ⟨A', c', hr, hm⟩ := h.span (i * C) ((i + 1) * C) (by rw [Nat.succ_mul]; omega) h2 p q ep eq
  rw [e] at hr hm
  exact ⟨A', c', hr, hm⟩
/-- The beginning of own cells is own. -/
theorem OwnCs.take {w : World} {base b n cap : Nat} {l : List Cl} (h : OwnCs w base (.slice (some ⟨b, 0, none⟩) n cap) l) (k : Nat) (hk : k ≤ l.length) : OwnCs w base (.slice (some ⟨b, 0, none⟩) k cap) (l.take k) := by
  have hn : n = l.length := h.n
  have hl : (l.take k).length = k := by rw [List.length_take]; omega
  refine ⟨by rw [flat_length], ?_⟩
  rcases h.2 with ⟨e, _⟩ | ⟨g', cap', cur, e, h1, h2, h3, h4, h5, h6⟩
  · injection e with e; cases e
  · injection e with e1 e2 e3
    injection e1 with e1
    injection e1 with e1
    subst e1; subst e3
    refine .inr ⟨b, cap, cur, by rw [hl], h1, h2, by omega, h4, h5, ?_⟩
    have e7 : Row.flat l = Row.flat (l.take k) ++ Row.flat (l.drop k) := by rw [← flat_append, List.take_append_drop]
    have e8 : (Row.flat l).take (k * 6) = Row.flat (l.take k) := by rw [e7, List.take_left' (by rw [flat_length, hl])]
    rw [hl, ← e8, ← h6, List.take_take, Nat.min_eq_left (by omega)]
theorem OwnCs.set {w : World} {base g : Nat} {v : Value} {l : List Cl} (h : OwnCs w base v l) (hg : g < base) (j : Nat) (u : Value) : OwnCs (w.setCell ⟨g, j, none⟩ u) base v l := by
  refine ⟨h.1, ?_⟩
  rcases h.2 with h0 | ⟨b, cap, cur, rfl, hb, hc, rest⟩
  · exact .inl h0
  · exact .inr ⟨b, cap, cur, rfl, hb, Blk.other hc (by omega) j u, rest⟩
theorem new_alloc (w : World) (o : Obj) (k : Nat) (h : w.heap.size = k) : (w.alloc o).heap[k]? = some o := by subst h; exact heap_alloc_new w o
theorem old_alloc {w : World} {k : Nat} {o : Obj} (h : w.heap[k]? = some o) (o' : Obj) : (w.alloc o').heap[k]? = some o := Blk.kept h ((Below.refl _ _).alloc (Nat.le_refl _) _)
/-- A grid's box. -/
abbrev gbox (R C : Int) (v : Value) : Obj := .cells #[.int .i64 R, .int .i64 C, v] 24 (0, 0)
/-- A grid stored whole. -/
def gput (w : World) (g : Nat) (R C : Int) (v : Value) : World := ((w.setCell ⟨g, 0, none⟩ (.int .i64 R)).setCell ⟨g, 1, none⟩ (.int .i64 C)).setCell ⟨g, 2, none⟩ v
theorem gput_box {w : World} {g : Nat} {R0 C0 : Int} {v0 : Value} (h : w.heap[g]? = some (gbox R0 C0 v0)) (R C : Int) (v : Value) : (gput w g R C v).heap[g]? = some (gbox R C v) := Blk.set (Blk.set (Blk.set h 0 _) 1 _) 2 _
theorem gput_other {w : World} {g b : Nat} {o : Obj} (h : w.heap[b]? = some o) (hn : b ≠ g) (R C : Int) (v : Value) : (gput w g R C v).heap[b]? = some o := Blk.other (Blk.other (Blk.other h hn _ _) hn _ _) hn _ _
theorem gput_own {w : World} {base g : Nat} {x : Value} {l : List Cl} (h : OwnCs w base x l) (hg : g < base) (R C : Int) (v : Value) : OwnCs (gput w g R C v) base x l := ((h.set hg _ _).set hg _ _).set hg _ _
theorem gput_below {B g : Nat} {a w : World} (h : Below B a w) (hB : B ≤ g) (R C : Int) (v : Value) : Below B a (gput w g R C v) := ((h.setCell hB _).setCell hB _).setCell hB _
end Row
end Go.Proofs.Ythkfcfmnccfbnaa
