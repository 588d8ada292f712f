/- Four grids named at once: their places come in whatever order, and are filled one behind the other. -/
import Derived.Test.YtceaoadlhdgnmaaGreatDoorM2
import Derived.Laws.CopyOwn
import Derived.Deep.RegionHeld3
namespace Go.Proofs.YtceaoadlhdgnmaaGreatDoor
set_option maxRecDepth 100000
open Go.RowKit
namespace Quad
open Go.Proofs.YtceaoadlhdgnmaaGreatDoor.Row

/-- A grid as it lies in memory. -/
structure Gv where
  R : Int
  C : Int
  v : Value
def Gv.arr (g : Gv) : Array Value := #[.int .i64 g.R, .int .i64 g.C, g.v]
def Gv.box (g : Gv) : Obj := gbox g.R g.C g.v
def zg : Gv := ⟨0, 0, .slice none 0 0⟩
theorem sizeG : (Tryz.prog.info? 29).map (·.size) = some 3 := by kernel_rfl
/-- The world in which that box holds this grid. -/
structure Stg (w : World) (b : Nat) (g : Gv) (w' : World) : Prop where
  box : w'.heap[b]? = some g.box
  other : ∀ i, i ≠ b → w'.heap[i]? = w.heap[i]?
  size : w'.heap.size = w.heap.size
  below : ∀ (B : Nat) (u : World), B ≤ b → Below B u w → Below B u w'
theorem step_storeG {w : World} {ops : Array Oper} {o : Oper} {a : Act} {K : Act → World → Prop} {Q : Exit → Act → World → Prop} {E : Prop} {x y : Operand} (hgd : o.guard = none) (ho : o.op = .store 29 x y)
    {b : Nat} {g old : Gv} (hx : a.eval x = .pointer (some ⟨b, 0, none⟩)) (hy : a.eval y = .agg g.arr) (hA1 : g.v.oneCell' = true) (hg : w.heap[b]? = some old.box)
    (hK : ∀ w', Stg w b g w' → K (a.put o.dst undef) w') : if Region.wanted o (yielded ops a.tmps) = true then Oper.wp Tryz.prog o a w K Q else E := by
  have hw : Region.wanted o (yielded ops a.tmps) = true := by simp [Region.wanted, hgd]
  rw [if_pos hw]
  have h1 : g.arr.all (·.oneCell') = true := by
    simp only [Gv.arr, List.all_toArray, List.all_cons, List.all_nil, hA1, Bool.and_true]
    rfl
  exact wp_store_row 29 x y ho b g.arr hx hy _ old.arr hg sizeG rfl h1 (hK _ ⟨setRow_heap _ _ _ _ _ _ hg, fun i hi => setRow_other _ _ _ _ hi, size_setRow _ _ _, fun B u hB h => below_setRow h hB _⟩)
theorem step_allocG {w : World} {ops : Array Oper} {o : Oper} {a : Act} {K : Act → World → Prop} {Q : Exit → Act → World → Prop} {E : Prop} (hgd : o.guard = none) (ho : o.op = .alloc 29)
    (hK : K (a.put o.dst (.pointer (some ⟨w.heap.size, 0, none⟩))) (w.alloc zg.box)) : if Region.wanted o (yielded ops a.tmps) = true then Oper.wp Tryz.prog o a w K Q else E := by
  have hw : Region.wanted o (yielded ops a.tmps) = true := by simp [Region.wanted, hgd]
  rw [if_pos hw]
  unfold Oper.wp
  simp only [ho, execOp, Sem.run_bind]
  exact hK

/-- What the region's last eight operations are: four places made, four stores, each behind its place and the stores ahead. -/
structure Four (ops : Array Oper) : Prop where
  sz : ops.size = 16
  al : ∀ j, j < 4 → ∃ o, ops[8 + j]? = some o ∧ o.guard = none ∧ o.op = .alloc 29 ∧ o.dst = some (9 + j) ∧ (o.after.all fun e => decide (e.on < 8)) = true
  st : ∀ j, j < 4 → ∃ o, ops[12 + j]? = some o ∧ o.guard = none ∧ o.op = .store 29 (.tmp (9 + j)) (.tmp (61 + 2 * j)) ∧ o.dst = none ∧ (o.after.all fun e => decide (e.on < 12 + j)) = true ∧
    (o.after.any fun e => Region.binds .any e && decide (e.on = 8 + j)) = true ∧ ∀ i, i < j → (o.after.any fun e => Region.binds .any e && decide (e.on = 12 + i)) = true
def rem (k : Nat) (A : Nat → Option Nat) : Nat := (bif (A 0).isSome then 0 else 1) + (bif (A 1).isSome then 0 else 1) + (bif (A 2).isSome then 0 else 1) + (bif (A 3).isSome then 0 else 1) + (4 - k)
def upd (A : Nat → Option Nat) (j b : Nat) : Nat → Option Nat := fun i => if i = j then some b else A i
theorem upd_same (A : Nat → Option Nat) (j b : Nat) : upd A j b j = some b := if_pos rfl
theorem upd_ne {A : Nat → Option Nat} {i j b : Nat} (h : i ≠ j) : upd A j b i = A i := if_neg h
theorem four {j : Nat} (h : j < 4) : j = 0 ∨ j = 1 ∨ j = 2 ∨ j = 3 := by omega
theorem rem_upd {k j b : Nat} {A : Nat → Option Nat} (hj : j < 4) (hA : A j = none) : rem k A = rem k (upd A j b) + 1 := by
  unfold rem upd
  rcases four hj with rfl | rfl | rfl | rfl <;> simp [hA] <;> omega
theorem rem_zero {k : Nat} {A : Nat → Option Nat} (hk : k ≤ 4) (h : rem k A = 0) : k = 4 ∧ ∀ j, j < 4 → (A j).isSome = true := by
  unfold rem at h
  cases h0 : (A 0).isSome <;> cases h1 : (A 1).isSome <;> cases h2 : (A 2).isSome <;> cases h3 : (A 3).isSome <;> rw [h0, h1, h2, h3] at h <;> simp at h
  refine ⟨by omega, fun j hj => ?_⟩
  rcases four hj with rfl | rfl | rfl | rfl <;> assumption

/-- How it stands: which places are there, how many are filled. -/
structure QI (a0 : Act) (w0 : World) (gs : Nat → Gv) (k : Nat) (A : Nat → Option Nat) (l : Array Bool) (a : Act) (w : World) : Prop where
  lsz : l.size = 16
  l8 : ∀ i, i < 8 → l.getD i false = true
  lA : ∀ j, j < 4 → l.getD (8 + j) false = (A j).isSome
  lS : ∀ j, j < 4 → l.getD (12 + j) false = decide (j < k)
  k4 : k ≤ 4
  kA : ∀ j, j < k → (A j).isSome = true
  df : a.defers = a0.defers
  sz : a.tmps.size = a0.tmps.size
  tO : ∀ i, i < 9 ∨ 13 ≤ i → a.tmps[i]? = a0.tmps[i]?
  tA : ∀ j b, j < 4 → A j = some b → a.tmps[9 + j]? = some (.pointer (some ⟨b, 0, none⟩))
  bel : Below w0.heap.size w0 w
  bx : ∀ j b, j < 4 → A j = some b → w0.heap.size ≤ b ∧ w.heap[b]? = some (if j < k then (gs j).box else zg.box)
  inj : ∀ i j b, i < 4 → j < 4 → A i = some b → A j = some b → i = j
theorem getD_all {l : Array Bool} (hs : l.size = 16) {i : Nat} (hi : i < 16) (d : Bool) : l.getD i d = l.getD i false := by
  unfold Array.getD
  rw [dif_pos (by omega), dif_pos (by omega)]
theorem getD_set {l : Array Bool} {i j : Nat} (hi : i < l.size) : (l.setIfInBounds i true).getD j false = if j = i then true else l.getD j false := by
  by_cases h : j = i
  · subst h
    simp [Array.getD, hi]
  · rw [if_neg h]
    exact getD_set_ne false (Ne.symm h)
theorem QI.alloc {a0 : Act} {w0 : World} {gs : Nat → Gv} {k : Nat} {A : Nat → Option Nat} {l : Array Bool} {a : Act} {w : World} (h : QI a0 w0 gs k A l a w) (hsz : 13 ≤ a0.tmps.size) {j : Nat} (hj : j < 4) (hA : A j = none) :
    QI a0 w0 gs k (upd A j w.heap.size) (l.setIfInBounds (8 + j) true) (a.put (some (9 + j)) (.pointer (some ⟨w.heap.size, 0, none⟩))) (w.alloc zg.box) := by
  have hkj : ¬ j < k := fun c => by have := h.kA j c; rw [hA] at this; cases this
  have hlt : ∀ i b, i < 4 → A i = some b → b < w.heap.size := fun i b hi hb => Blk.lt (h.bx i b hi hb).2
  refine ⟨by rw [Array.size_setIfInBounds]; exact h.lsz, fun i hi => ?_, fun i hi => ?_, fun i hi => ?_, h.k4, fun i hi => ?_, h.df, ?_, fun i hi => ?_, fun i b hi hb => ?_, h.bel.trans ((Below.refl _ _).alloc (Nat.le_refl _) _ |>.mono h.bel.size), fun i b hi hb => ?_, fun i m b hi hm hb hc => ?_⟩
  · rw [getD_set (by have := h.lsz; omega), if_neg (by omega)]; exact h.l8 i hi
  · rw [getD_set (by have := h.lsz; omega)]
    by_cases e : i = j
    · subst e; rw [if_pos rfl, upd_same]; rfl
    · rw [if_neg (by omega), upd_ne e]; exact h.lA i hi
  · rw [getD_set (by have := h.lsz; omega), if_neg (by omega)]; exact h.lS i hi
  · rw [upd_ne (by rintro rfl; exact hkj hi)]; exact h.kA i hi
  · show (a.tmps.setIfInBounds _ _).size = _
    rw [Array.size_setIfInBounds]; exact h.sz
  · show (a.tmps.setIfInBounds _ _)[i]? = _
    rw [Array.getElem?_setIfInBounds_ne (by omega)]; exact h.tO i hi
  · show (a.tmps.setIfInBounds _ _)[9 + i]? = _
    by_cases e : i = j
    · subst e
      rw [upd_same] at hb
      injection hb with hb
      rw [Array.getElem?_setIfInBounds_self_of_lt (by rw [h.sz]; omega), hb]
    · rw [upd_ne e] at hb
      rw [Array.getElem?_setIfInBounds_ne (by omega)]; exact h.tA i b hi hb
  · by_cases e : i = j
    · subst e
      rw [upd_same] at hb
      injection hb with hb
      subst hb
      refine ⟨h.bel.size, ?_⟩
      rw [if_neg hkj]
      exact heap_alloc_new w _
    · rw [upd_ne e] at hb
      exact ⟨(h.bx i b hi hb).1, Blk.kept (h.bx i b hi hb).2 ((Below.refl _ _).alloc (Nat.le_refl _) _)⟩
  · by_cases e : i = j
    · by_cases f : m = j
      · omega
      · subst e
        rw [upd_same] at hb
        rw [upd_ne f] at hc
        injection hb with hb
        have := hlt m b hm hc
        omega
    · by_cases f : m = j
      · subst f
        rw [upd_same] at hc
        rw [upd_ne e] at hb
        injection hc with hc
        have := hlt i b hi hb
        omega
      · rw [upd_ne e] at hb
        rw [upd_ne f] at hc
        exact h.inj i m b hi hm hb hc
theorem QI.store {a0 : Act} {w0 : World} {gs : Nat → Gv} {k : Nat} {A : Nat → Option Nat} {l : Array Bool} {a : Act} {w w' : World} (h : QI a0 w0 gs k A l a w) (hk : k < 4) {b : Nat} (hA : A k = some b) (hs : Stg w b (gs k) w') :
    QI a0 w0 gs (k + 1) A (l.setIfInBounds (12 + k) true) a w' := by
  refine ⟨by rw [Array.size_setIfInBounds]; exact h.lsz, fun i hi => ?_, fun i hi => ?_, fun i hi => ?_, by omega, fun i hi => ?_, h.df, h.sz, h.tO, h.tA, hs.below _ _ (h.bx k b hk hA).1 h.bel, fun i c hi hc => ?_, h.inj⟩
  · rw [getD_set (by have := h.lsz; omega), if_neg (by omega)]; exact h.l8 i hi
  · rw [getD_set (by have := h.lsz; omega), if_neg (by omega)]; exact h.lA i hi
  · rw [getD_set (by have := h.lsz; omega)]
    by_cases e : i = k
    · subst e; rw [if_pos rfl, decide_eq_true (by omega)]
    · rw [if_neg (by omega), h.lS i hi]
      by_cases f : i < k
      · rw [decide_eq_true f, decide_eq_true (by omega)]
      · rw [decide_eq_false f, decide_eq_false (by omega)]
  · by_cases e : i = k
    · subst e; rw [hA]; rfl
    · exact h.kA i (by omega)
  · refine ⟨(h.bx i c hi hc).1, ?_⟩
    by_cases e : i = k
    · subst e
      rw [hA] at hc
      injection hc with hc
      subst hc
      rw [if_pos (by omega)]
      exact hs.box
    · have hne : c ≠ b := by rintro rfl; exact e (h.inj i k c hi hk hc hA)
      rw [hs.other c hne, (h.bx i c hi hc).2]
      by_cases f : i < k
      · rw [if_pos f, if_pos (by omega)]
      · rw [if_neg f, if_neg (by omega)]
/-- What is there at the end. -/
structure Fin4 (w0 : World) (gs : Nat → Gv) (b0 b1 b2 b3 : Nat) (w : World) : Prop where
  bel : Below w0.heap.size w0 w
  ge : w0.heap.size ≤ b0 ∧ w0.heap.size ≤ b1 ∧ w0.heap.size ≤ b2 ∧ w0.heap.size ≤ b3
  ne : b0 ≠ b1 ∧ b0 ≠ b2 ∧ b0 ≠ b3 ∧ b1 ≠ b2 ∧ b1 ≠ b3 ∧ b2 ≠ b3
  x0 : w.heap[b0]? = some (gs 0).box
  x1 : w.heap[b1]? = some (gs 1).box
  x2 : w.heap[b2]? = some (gs 2).box
  x3 : w.heap[b3]? = some (gs 3).box
theorem quad {ops : Array Oper} (hF : Four ops) {S : World → Prop} {Q : Exit → Act → World → Prop} {a0 : Act} {w0 : World} {gs : Nat → Gv} (hsz : 13 ≤ a0.tmps.size) (hS : ∀ W, Below w0.heap.size w0 W → S W)
    (hv : ∀ j, j < 4 → a0.eval (.tmp (61 + 2 * j)) = .agg (gs j).arr) (h1 : ∀ j, j < 4 → (gs j).v.oneCell' = true)
    (hQ : ∀ w b0 b1 b2 b3, Fin4 w0 gs b0 b1 b2 b3 w → Q .normal ((((a0.put (some 9) (.pointer (some ⟨b0, 0, none⟩))).put (some 10) (.pointer (some ⟨b1, 0, none⟩))).put (some 11) (.pointer (some ⟨b2, 0, none⟩))).put (some 12) (.pointer (some ⟨b3, 0, none⟩))) w) :
    ∀ (fuel k : Nat) (A : Nat → Option Nat) (l : Array Bool) (a : Act) (w : World), QI a0 w0 gs k A l a w → fuel = rem k A → wpAnyH Tryz.prog .any ops Q S fuel l a w := by
  intro fuel
  induction fuel with
  | zero =>
    intro k A l a w h hf
    obtain ⟨rfl, hA⟩ := rem_zero h.k4 hf.symm
    obtain ⟨b0, e0⟩ := Option.isSome_iff_exists.1 (hA 0 (by omega))
    obtain ⟨b1, e1⟩ := Option.isSome_iff_exists.1 (hA 1 (by omega))
    obtain ⟨b2, e2⟩ := Option.isSome_iff_exists.1 (hA 2 (by omega))
    obtain ⟨b3, e3⟩ := Option.isSome_iff_exists.1 (hA 3 (by omega))
    refine ⟨?_, ?_⟩
    · refine List.eq_nil_iff_forall_not_mem.2 fun i hi => ?_
      obtain ⟨hun, o, ho, _⟩ := mem_ready.1 hi
      have hi16 : i < 16 := by have := (Array.getElem?_eq_some_iff.1 ho).1; rw [hF.sz] at this; exact this
      rw [getD_all h.lsz hi16] at hun
      by_cases c8 : i < 8
      · rw [h.l8 i c8] at hun; cases hun
      · by_cases c12 : i < 12
        · have := h.lA (i - 8) (by omega)
          rw [show 8 + (i - 8) = i by omega, hA _ (by omega), hun] at this
          cases this
        · have := h.lS (i - 12) (by omega)
          rw [show 12 + (i - 12) = i by omega, hun, decide_eq_true (by omega)] at this
          cases this
    · have ea : a = ((((a0.put (some 9) (.pointer (some ⟨b0, 0, none⟩))).put (some 10) (.pointer (some ⟨b1, 0, none⟩))).put (some 11) (.pointer (some ⟨b2, 0, none⟩))).put (some 12) (.pointer (some ⟨b3, 0, none⟩))) := by
        have ht : a.tmps = (((a0.tmps.setIfInBounds 9 (.pointer (some ⟨b0, 0, none⟩))).setIfInBounds 10 (.pointer (some ⟨b1, 0, none⟩))).setIfInBounds 11 (.pointer (some ⟨b2, 0, none⟩))).setIfInBounds 12 (.pointer (some ⟨b3, 0, none⟩)) := by
          refine Array.ext_getElem? fun i => ?_
          simp only [Array.getElem?_setIfInBounds, Array.size_setIfInBounds]
          by_cases c : i < 9 ∨ 13 ≤ i
          · rw [h.tO i c, if_neg (by omega), if_neg (by omega), if_neg (by omega), if_neg (by omega)]
          · rcases (by omega : i = 9 ∨ i = 10 ∨ i = 11 ∨ i = 12) with rfl | rfl | rfl | rfl
            · rw [h.tA 0 b0 (by omega) e0]; simp; omega
            · rw [h.tA 1 b1 (by omega) e1]; simp; omega
            · rw [h.tA 2 b2 (by omega) e2]; simp; omega
            · rw [h.tA 3 b3 (by omega) e3]; simp; omega
        have hd := h.df
        cases a with
        | mk t d =>
          simp only at ht hd
          subst ht hd
          rfl
      rw [ea]
      have g := fun j b hj hb => h.bx j b hj hb
      have q0 := g 0 b0 (by omega) e0
      have q1 := g 1 b1 (by omega) e1
      have q2 := g 2 b2 (by omega) e2
      have q3 := g 3 b3 (by omega) e3
      have ij : ∀ i j b c, i < 4 → j < 4 → i ≠ j → A i = some b → A j = some c → b ≠ c := fun i j b c hi hj hn hb hc e => by
        subst e
        exact hn (h.inj i j b hi hj hb hc)
      exact hQ w b0 b1 b2 b3 ⟨h.bel, ⟨q0.1, q1.1, q2.1, q3.1⟩, ⟨ij 0 1 _ _ (by omega) (by omega) (by omega) e0 e1, ij 0 2 _ _ (by omega) (by omega) (by omega) e0 e2, ij 0 3 _ _ (by omega) (by omega) (by omega) e0 e3, ij 1 2 _ _ (by omega) (by omega) (by omega) e1 e2, ij 1 3 _ _ (by omega) (by omega) (by omega) e1 e3, ij 2 3 _ _ (by omega) (by omega) (by omega) e2 e3⟩, q0.2, q1.2, q2.2, q3.2⟩
  | succ fuel ih =>
    intro k A l a w h hf
    refine ⟨fun hnil => ?_, fun i hi => ?_⟩
    · exfalso
      by_cases hall : ∀ j, j < 4 → (A j).isSome = true
      · have hk : k < 4 := by
          refine Classical.byContradiction fun c => ?_
          have : k = 4 := by have := h.k4; omega
          subst this
          unfold rem at hf
          rw [hall 0 (by omega), hall 1 (by omega), hall 2 (by omega), hall 3 (by omega)] at hf
          simp at hf
        obtain ⟨o, ho, _, _, _, haf, _⟩ := hF.st k hk
        have : 12 + k ∈ Region.ready .any ops l := mem_ready.2 ⟨by rw [getD_all h.lsz (by omega), h.lS k hk, decide_eq_false (by omega)], o, ho, fun e he _ => by
          have hlt := of_decide_eq_true (List.all_eq_true.1 (by rw [← Array.all_toList] at haf; exact haf) e (Array.mem_toList_iff.2 he))
          by_cases c8 : e.on < 8
          · exact h.l8 _ c8
          · by_cases c12 : e.on < 12
            · have q := h.lA (e.on - 8) (by omega)
              rw [show 8 + (e.on - 8) = e.on by omega, hall _ (by omega)] at q
              exact q
            · have q := h.lS (e.on - 12) (by omega)
              rw [show 12 + (e.on - 12) = e.on by omega, decide_eq_true (by omega)] at q
              exact q⟩
        rw [hnil] at this
        cases this
      · obtain ⟨j, hj⟩ := Classical.not_forall.1 hall
        have hj4 : j < 4 := Classical.byContradiction fun c => hj fun d => absurd d c
        have hA : (A j).isSome = false := by
          cases e : (A j).isSome
          · rfl
          · exact absurd (fun _ => e) hj
        obtain ⟨o, ho, _, _, _, haf⟩ := hF.al j hj4
        have : 8 + j ∈ Region.ready .any ops l := mem_ready.2 ⟨by rw [getD_all h.lsz (by omega), h.lA j hj4, hA], o, ho, fun e he _ => by
          have hlt := of_decide_eq_true (List.all_eq_true.1 (by rw [← Array.all_toList] at haf; exact haf) e (Array.mem_toList_iff.2 he))
          exact h.l8 _ hlt⟩
        rw [hnil] at this
        cases this
    · obtain ⟨hun, o, ho, haft⟩ := mem_ready.1 hi
      have hi16 : i < 16 := by have := (Array.getElem?_eq_some_iff.1 ho).1; rw [hF.sz] at this; exact this
      rw [getD_all h.lsz hi16] at hun
      by_cases c8 : i < 8
      · rw [h.l8 i c8] at hun; cases hun
      · by_cases c12 : i < 12
        · obtain ⟨j, rfl⟩ : ∃ j, i = 8 + j := ⟨i - 8, by omega⟩
          have hj : j < 4 := by omega
          have hA : A j = none := by
            rw [h.lA j hj] at hun
            cases e : A j with
            | none => rfl
            | some b => rw [e] at hun; cases hun
          obtain ⟨o', ho', hg, hop, hd, _⟩ := hF.al j hj
          rw [ho] at ho'
          injection ho' with ho'
          subst ho'
          refine wpOp_step ho fun K hK => step_allocG hg hop (hK _ _ ?_)
          rw [hd]
          have hq := h.alloc hsz hj hA
          exact ⟨hS _ hq.bel, ih k _ _ _ _ hq (by have := rem_upd (k := k) (b := w.heap.size) hj hA; omega)⟩
        · obtain ⟨j, rfl⟩ : ∃ j, i = 12 + j := ⟨i - 12, by omega⟩
          have hj : j < 4 := by omega
          obtain ⟨o', ho', hg, hop, hd, _, ha8, ha12⟩ := hF.st j hj
          rw [ho] at ho'
          injection ho' with ho'
          subst ho'
          have pick : ∀ m, m < 16 → (o.after.any fun e => Region.binds .any e && decide (e.on = m)) = true → l.getD m false = true := fun m hm hany => by
            rw [← Array.any_toList] at hany
            obtain ⟨e, he, hb⟩ := List.any_eq_true.1 hany
            rw [Bool.and_eq_true] at hb
            have := haft e (Array.mem_toList_iff.1 he) hb.1
            rw [of_decide_eq_true hb.2] at this
            exact this
          have hjk : j = k := by
            have h1 : ¬ j < k := fun c => by rw [h.lS j hj, decide_eq_true c] at hun; cases hun
            have h2 : ¬ k < j := fun c => by
              have := pick (12 + k) (by omega) (ha12 k c)
              rw [h.lS k (by omega), decide_eq_false (by omega)] at this
              cases this
            omega
          subst hjk
          have hs := pick (8 + j) (by omega) ha8
          rw [h.lA j hj] at hs
          obtain ⟨b, hA⟩ := Option.isSome_iff_exists.1 hs
          have hbx := h.bx j b hj hA
          rw [if_neg (by omega)] at hbx
          have hx : a.eval (.tmp (9 + j)) = .pointer (some ⟨b, 0, none⟩) := by
            show a.tmps.getD (9 + j) undef = _
            rw [Array.getD_eq_getD_getElem?, h.tA j b hj hA]
            rfl
          have hy : a.eval (.tmp (61 + 2 * j)) = .agg (gs j).arr := by
            rw [← hv j hj]
            show a.tmps.getD (61 + 2 * j) undef = a0.tmps.getD (61 + 2 * j) undef
            rw [Array.getD_eq_getD_getElem?, Array.getD_eq_getD_getElem?, h.tO _ (by omega)]
          refine wpOp_step ho fun K hK => step_storeG hg hop hx hy (h1 j hj) hbx.2 (fun w' hw' => hK _ _ ?_)
          rw [hd]
          have hq := h.store hj hA hw'
          refine ⟨hS _ hq.bel, ih (j + 1) A _ _ _ hq ?_⟩
          unfold rem at hf ⊢
          omega
theorem quad_start {ops : Array Oper} {S : World → Prop} {Q : Exit → Act → World → Prop} {a0 : Act} {w0 : World} {gs : Nat → Gv} {l : Array Bool} (hF : Four ops) (hsz : 13 ≤ a0.tmps.size) (hS : ∀ W, Below w0.heap.size w0 W → S W)
    (hv : ∀ j, j < 4 → a0.eval (.tmp (61 + 2 * j)) = .agg (gs j).arr) (h1 : ∀ j, j < 4 → (gs j).v.oneCell' = true) (hl : l.size = 16) (h8 : ∀ i, i < 16 → l.getD i false = decide (i < 8))
    (hQ : ∀ w b0 b1 b2 b3, Fin4 w0 gs b0 b1 b2 b3 w → Q .normal ((((a0.put (some 9) (.pointer (some ⟨b0, 0, none⟩))).put (some 10) (.pointer (some ⟨b1, 0, none⟩))).put (some 11) (.pointer (some ⟨b2, 0, none⟩))).put (some 12) (.pointer (some ⟨b3, 0, none⟩))) w) :
    wpAnyH Tryz.prog .any ops Q S 8 l a0 w0 :=
  quad hF hsz hS hv h1 hQ 8 0 (fun _ => none) l a0 w0 ⟨hl, fun i hi => by rw [h8 i (by omega), decide_eq_true hi], fun j hj => by rw [h8 _ (by omega), decide_eq_false (by omega)]; rfl, fun j hj => by rw [h8 _ (by omega), decide_eq_false (by omega), decide_eq_false (by omega)],
    by omega, fun j hj => absurd hj (by omega), rfl, rfl, fun _ _ => rfl, fun j b _ e => (by cases e), Below.refl _ _, fun j b _ e => (by cases e), fun i j b _ _ e => (by cases e)⟩ rfl
end Quad
end Go.Proofs.YtceaoadlhdgnmaaGreatDoor
