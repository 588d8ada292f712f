/- Joined texts: Mask. -/
import Derived.Test.YtjcfbeiljdohcaaDoorJM3
import Derived.OrdersIn
import Derived.Orders
import Derived.RegionTactic
namespace Go.Proofs.YtjcfbeiljdohcaaDoor
set_option maxRecDepth 100000
section
open Go.RowKit
namespace Msk
section
variable {P : Program} {ops : Array Oper}
theorem getD_any {l : Array Bool} {i : Nat} (h : i < l.size) : l.getD i true = l.getD i false := by
  unfold Array.getD; rw [dif_pos h, dif_pos h]
theorem getD_put {l : Array Bool} {i j : Nat} (hi : i < l.size) : (l.setIfInBounds i true).getD j false = if j = i then true else l.getD j false := by
  by_cases h : j = i
  · subst h
    simp [Array.getD, hi]
  · rw [if_neg h]
    exact getD_set_ne false (Ne.symm h)
def Low (ops : Array Oper) : Prop := ∀ (i : Nat) (o : Oper), ops[i]? = some o → ∀ e ∈ o.after, e.on < i
theorem low_of (h : (List.range ops.size).all (fun i => match ops[i]? with | some o => o.after.toList.all fun e => decide (e.on < i) | none => true) = true) : Low ops := by
  intro i o ho e he
  have hi : i < ops.size := (Array.getElem?_eq_some_iff.1 ho).1
  have := List.all_eq_true.1 h i (List.mem_range.2 hi)
  rw [ho] at this
  exact of_decide_eq_true (List.all_eq_true.1 this e (Array.mem_toList_iff.2 he))
theorem all_come {l : Array Bool} (hl : Low ops) (hs : l.size = ops.size) (h : Region.ready .any ops l = []) : ∀ i, i < ops.size → l.getD i false = true := by
  intro i
  induction i using Nat.strongRecOn with
  | ind i ih =>
    intro hi
    cases hc : l.getD i false with
    | true => rfl
    | false =>
      have ho : ops[i]? = some ops[i] := Array.getElem?_eq_getElem hi
      have : i ∈ Region.ready .any ops l := mem_ready.2 ⟨by rw [getD_any (by omega)]; exact hc, ops[i], ho, fun e he _ => ih e.on (hl i _ ho e he) (by have := hl i _ ho e he; omega)⟩
      rw [h] at this; cases this
structure May (ops : Array Oper) (l : Array Bool) (i : Nat) (o : Oper) : Prop where
  op : ops[i]? = some o
  lt : i < l.size
  un : l.getD i false = false
  ok : ∀ e ∈ o.after, Region.binds .any e = true → l.getD e.on false = true
theorem may_of {l : Array Bool} (hs : l.size = ops.size) {i : Nat} (h : i ∈ Region.ready .any ops l) : ∃ o, May ops l i o := by
  obtain ⟨h1, o, ho, h2⟩ := mem_ready.1 h
  have hi : i < ops.size := (Array.getElem?_eq_some_iff.1 ho).1
  exact ⟨o, ho, by omega, by rw [← getD_any (by omega)]; exact h1, h2⟩
theorem May.has {l : Array Bool} {i : Nat} {o : Oper} (h : May ops l i o) (j : Nat) (hj : (o.after.toList.any fun e => Region.binds .any e && decide (e.on = j)) = true) : l.getD j false = true := by
  obtain ⟨e, he, hb⟩ := List.any_eq_true.1 hj
  rw [Bool.and_eq_true] at hb
  have := h.ok e (Array.mem_toList_iff.1 he) hb.1
  rwa [of_decide_eq_true hb.2] at this
theorem anyIn_mask {F : Fence} {n : Nat} {Q : Exit → Act → World → Prop} (I : Array Bool → Act → World → Prop) (hsz : ∀ l a w, I l a w → l.size = ops.size)
    (hstep : ∀ i o l a w, May ops l i o → I l a w → ∀ K : Act → World → Prop, (∀ a' w', I (l.setIfInBounds i true) a' w' → K a' w') → if Region.wanted o (yielded ops a.tmps) = true then Oper.wpIn F n P o a w K Q else (∀ f, o.about P w a.eval = some f → F.fn f) ∧ K (a.put o.dst undef) w)
    (hend : ∀ l a w, I l a w → Region.ready .any ops l = [] → Q .normal a w) :
    ∀ (fuel : Nat) (l : Array Bool) (a : Act) (w : World) (S : List Nat), S.length ≤ fuel → (∀ i, i < ops.size → l.getD i false = false → i ∈ S) → I l a w → wpAnyIn F n P .any ops Q fuel l a w := by
  intro fuel
  induction fuel with
  | zero =>
    intro l a w S hS hm hI
    have hr : Region.ready .any ops l = [] := by
      refine List.eq_nil_iff_forall_not_mem.2 fun i hi => ?_
      obtain ⟨o, h⟩ := may_of (hsz _ _ _ hI) hi
      have := hm i (by have := hsz _ _ _ hI; have := h.lt; omega) h.un
      rw [List.eq_nil_of_length_eq_zero (Nat.le_zero.1 hS)] at this
      cases this
    exact ⟨hr, hend _ _ _ hI hr⟩
  | succ fuel ih =>
    intro l a w S hS hm hI
    refine ⟨fun hr => hend _ _ _ hI hr, fun i hi => ?_⟩
    obtain ⟨o, h⟩ := may_of (hsz _ _ _ hI) hi
    refine wpOpIn_step h.op fun K hK => hstep i o l a w h hI K fun a' w' hI' => hK _ _ ?_
    have hin : i ∈ S := hm i (by have := hsz _ _ _ hI; have := h.lt; omega) h.un
    refine ih _ _ _ (S.erase i) (by rw [List.length_erase_of_mem hin]; omega) (fun j hj hu => ?_) hI'
    rw [getD_put h.lt] at hu
    by_cases e : j = i
    · rw [if_pos e] at hu; cases hu
    · rw [if_neg e] at hu
      exact (List.mem_erase_of_ne e).2 (hm j hj hu)
theorem any_mask {Q : Exit → Act → World → Prop} (I : Array Bool → Act → World → Prop) (hsz : ∀ l a w, I l a w → l.size = ops.size)
    (hstep : ∀ i o l a w, May ops l i o → I l a w → ∀ K : Act → World → Prop, (∀ a' w', I (l.setIfInBounds i true) a' w' → K a' w') → if Region.wanted o (yielded ops a.tmps) = true then Oper.wp P o a w K Q else K (a.put o.dst undef) w)
    (hend : ∀ l a w, I l a w → Region.ready .any ops l = [] → Q .normal a w) :
    ∀ (fuel : Nat) (l : Array Bool) (a : Act) (w : World) (S : List Nat), S.length ≤ fuel → (∀ i, i < ops.size → l.getD i false = false → i ∈ S) → I l a w → wpAny P .any ops Q fuel l a w := by
  intro fuel
  induction fuel with
  | zero =>
    intro l a w S hS hm hI
    have hr : Region.ready .any ops l = [] := by
      refine List.eq_nil_iff_forall_not_mem.2 fun i hi => ?_
      obtain ⟨o, h⟩ := may_of (hsz _ _ _ hI) hi
      have := hm i (by have := hsz _ _ _ hI; have := h.lt; omega) h.un
      rw [List.eq_nil_of_length_eq_zero (Nat.le_zero.1 hS)] at this
      cases this
    exact ⟨hr, hend _ _ _ hI hr⟩
  | succ fuel ih =>
    intro l a w S hS hm hI
    refine ⟨fun hr => hend _ _ _ hI hr, fun i hi => ?_⟩
    obtain ⟨o, h⟩ := may_of (hsz _ _ _ hI) hi
    refine wpOp_step h.op fun K hK => hstep i o l a w h hI K fun a' w' hI' => hK _ _ ?_
    have hin : i ∈ S := hm i (by have := hsz _ _ _ hI; have := h.lt; omega) h.un
    refine ih _ _ _ (S.erase i) (by rw [List.length_erase_of_mem hin]; omega) (fun j hj hu => ?_) hI'
    rw [getD_put h.lt] at hu
    by_cases e : j = i
    · rw [if_pos e] at hu; cases hu
    · rw [if_neg e] at hu
      exact (List.mem_erase_of_ne e).2 (hm j hj hu)
theorem start {n : Nat} : ∀ i, i < n → (Array.replicate n false).getD i false = false → i ∈ List.range n := fun _ hi _ => List.mem_range.2 hi
def Has (l : Array Bool) (a : Act) (vs : List (Nat × Nat × Value)) : Prop := ∀ x ∈ vs, l.getD x.1 false = true → a.tmps[x.2.1]? = some x.2.2
def Stay (a : Act) (n : Nat) (vs : List (Nat × Value)) : Prop := a.tmps.size = n ∧ ∀ x ∈ vs, a.tmps[x.1]? = some x.2
theorem Has.put {l : Array Bool} {a : Act} {vs : List (Nat × Nat × Value)} (h : Has l a vs) {i d n : Nat} {v : Value} (hi : i < l.size) (hd : d < n) (hn : a.tmps.size = n) (hv : ∀ x ∈ vs, (x.1 = i → x.2 = (d, v)) ∧ (x.1 ≠ i → x.2.1 ≠ d)) : Has (l.setIfInBounds i true) (a.put (some d) v) vs := by
  intro x hx hb
  show (a.tmps.setIfInBounds d v)[x.2.1]? = _
  rw [getD_put hi] at hb
  by_cases e : x.1 = i
  · rw [(hv x hx).1 e]
    simp only
    rw [Array.getElem?_setIfInBounds_self_of_lt (by omega)]
  · rw [if_neg e] at hb
    rw [Array.getElem?_setIfInBounds_ne (Ne.symm ((hv x hx).2 e))]
    exact h x hx hb
theorem Has.none {l : Array Bool} {a : Act} {vs : List (Nat × Nat × Value)} (h : Has l a vs) {i : Nat} (hi : i < l.size) (hv : ∀ x ∈ vs, x.1 ≠ i) : Has (l.setIfInBounds i true) a vs := by
  intro x hx hb
  rw [getD_put hi, if_neg (hv x hx)] at hb
  exact h x hx hb
theorem Stay.put {a : Act} {n : Nat} {vs : List (Nat × Value)} (h : Stay a n vs) {d : Nat} {v : Value} (hv : ∀ x ∈ vs, x.1 ≠ d) : Stay (a.put (some d) v) n vs := by
  refine ⟨by show (a.tmps.setIfInBounds d v).size = n; rw [Array.size_setIfInBounds]; exact h.1, fun x hx => ?_⟩
  show (a.tmps.setIfInBounds d v)[x.1]? = _
  rw [Array.getElem?_setIfInBounds_ne (Ne.symm (hv x hx))]
  exact h.2 x hx
theorem eval_of {a : Act} {d : Nat} {v : Value} (h : a.tmps[d]? = some v) : a.eval (.tmp d) = v := by
  show a.tmps.getD d undef = v
  rw [Array.getD_eq_getD_getElem?, h]; rfl
end
end Msk
end
end Go.Proofs.YtjcfbeiljdohcaaDoor
