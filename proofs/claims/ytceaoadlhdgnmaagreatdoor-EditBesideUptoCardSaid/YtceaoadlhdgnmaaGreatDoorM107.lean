/- Joined texts: RowInsP, RowRefIn. -/
import Derived.Test.YtceaoadlhdgnmaaGreatDoorM8
import Derived.Test.YtceaoadlhdgnmaaGreatDoorM101
import Derived.Deep.RegionHeld3
namespace Go.Proofs.YtceaoadlhdgnmaaGreatDoor
set_option maxRecDepth 100000
section
namespace Row
theorem cutL_bound {l : List Cl} {p : Nat} (h : Bound l p) : cutL l p = l := by
  unfold cutL
  rw [if_neg fun q => h q.2.1 q.1 q.2.2]
theorem cutL_past (l : List Cl) {p : Nat} (h : l.length ≤ p) : cutL l p = l := by
  unfold cutL
  rw [if_neg fun q => by omega]
theorem begun_append {a b : List Cl} (ha : Good a) (hb : Begun b) : Begun (a ++ b) := by
  intro i hi
  rw [List.length_append] at hi ⊢
  by_cases h : i < a.length
  · have hr := (good_iff a).1 ha i h
    rw [g_append_left h]
    refine ⟨fun h1 _ => ?_, fun h1 => ?_⟩
    · rw [g_append_left (hr.2.1 h1).1]; exact (hr.2.1 h1).2.1
    · rw [g_append_left (by omega)]; exact hr.2.2 h1
  · obtain ⟨h1, h2⟩ := hb (i - a.length) (by omega)
    rw [g_append_right (by omega)]
    refine ⟨fun h3 h4 => ?_, fun h3 => ?_⟩
    · rw [g_append_right (by omega), show i + 1 - a.length = i - a.length + 1 by omega]; exact h1 h3 (by omega)
    · obtain ⟨h4, h5⟩ := h2 h3
      rw [g_append_right (by omega), show i - 1 - a.length = i - a.length - 1 by omega]; exact ⟨by omega, h5⟩
def insRaw (l : List Cl) (p m : Nat) (a : Look) : List Cl := (cutL l p).take p ++ List.replicate m (blank a) ++ ((cutL l p).drop p).take (l.length - m - p)
def delRaw (l : List Cl) (p m : Nat) (a : Look) : List Cl := (cutL (cutL l p) (p + m)).take p ++ (cutL (cutL l p) (p + m)).drop (p + m) ++ List.replicate m (blank a)
theorem insRaw_length {l : List Cl} {p m : Nat} (a : Look) (h : p + m ≤ l.length) : (insRaw l p m a).length = l.length := by
  unfold insRaw
  rw [List.length_append, List.length_append, List.length_take, List.length_take, List.length_drop, List.length_replicate, cutL_length]
  omega
theorem insRaw_begun {l : List Cl} {p m : Nat} {a : Look} (h : Good l) (ha : attrOk a = true) (hp : p + m ≤ l.length) : Begun (insRaw l p m a) := by
  have hc := good_cut h p
  have hb := bound_cut l p
  unfold insRaw
  exact begun_append (good_append (good_take hc hb) (good_blanks ha m)) (begun_take (good_drop hc hb) _ (by rw [List.length_drop, cutL_length]; omega))
theorem wide_pair {l : List Cl} (h : Good l) {i : Nat} (hi : i + 1 < l.length) : (g l i).wide = 1 ↔ (g l (i + 1)).wide = 2 := by
  constructor
  · intro h1; exact (((good_iff l).1 h i (by omega)).2.1 h1).2.1
  · intro h1; have := (((good_iff l).1 h (i + 1) hi).2.2 h1).2; rwa [Nat.add_sub_cancel] at this
theorem insRaw_g {l : List Cl} {p m i : Nat} {a : Look} (h : p + m ≤ l.length) (hi : i < l.length) : g (insRaw l p m a) i = if i < p then g (cutL l p) i else if i < p + m then blank a else g (cutL l p) (i - m) := by
  have h1 : ((cutL l p).take p).length = p := by rw [List.length_take, cutL_length]; omega
  have h2 : (List.replicate m (blank a)).length = m := List.length_replicate
  unfold insRaw
  by_cases c1 : i < p
  · rw [if_pos c1, List.append_assoc, g_append_left (by omega), g_take c1]
  · rw [if_neg c1]
    by_cases c2 : i < p + m
    · rw [if_pos c2, g_append_left (by rw [List.length_append]; omega), g_append_right (by omega), h1, g_eq (by omega), List.getElem_replicate]
    · rw [if_neg c2, g_append_right (by rw [List.length_append]; omega), List.length_append, h1, h2, g_take (by omega), g_drop]
      congr 1; omega
def cutEnd (l : List Cl) (m : Nat) : List Cl := (cutL l (l.length - m)).take (l.length - m)
theorem insertOf_raw {l : List Cl} {p m : Nat} {a : Look} (hm : 1 ≤ m) (hp : p + m ≤ l.length) : insertOf l p m a = (cutL (cutEnd l m) p).take p ++ (List.replicate m (blank a) ++ (cutL (cutEnd l m) p).drop p) := by
  have e1 : repl l (l.length - m) l.length [] = cutEnd l m := by
    unfold repl mid cutEnd
    rw [if_neg (by rintro ⟨q, _⟩; omega), cutL_past (cutL l (l.length - m)) (by rw [cutL_length]; exact Nat.le_refl _)]
    rw [List.drop_of_length_le (by rw [cutL_length]; exact Nat.le_refl _), List.append_nil, List.append_nil]
  unfold insertOf
  rw [e1]
  unfold repl mid
  rw [if_neg (by rintro ⟨_, q⟩; have := congrArg List.length q; rw [List.length_replicate] at this; simp at this; omega), cutL_bound (bound_cut _ _)]
theorem cutEnd_length {l : List Cl} {m : Nat} : (cutEnd l m).length = l.length - m := by
  unfold cutEnd
  rw [List.length_take, cutL_length]; omega
theorem cutEnd_g {l : List Cl} {m i : Nat} (hm : 1 ≤ m) (hl : m ≤ l.length) (h : Good l) (hi : i < l.length - m) : g (cutEnd l m) i = if i + 1 = l.length - m ∧ (g l i).wide = 1 then blank (g l i).a else g l i := by
  unfold cutEnd
  rw [g_take hi, cutL_g]
  by_cases c : i + 1 = l.length - m ∧ (g l i).wide = 1
  · rw [if_pos c]
    have hw : (g l (l.length - m)).wide = 2 := by rw [← c.1]; exact (wide_pair h (by omega)).1 c.2
    rw [if_pos ⟨by omega, by omega, hw, by omega⟩]
  · rw [if_neg c, if_neg]
    rintro ⟨_, q2, q3, q4⟩
    rcases q4 with q4 | q4
    · omega
    · refine c ⟨by omega, ?_⟩
      rw [q4]
      have e : l.length - m - 1 + 1 = l.length - m := by omega
      exact (wide_pair h (by omega)).2 (by rw [e]; exact q3)
theorem insert_same {l : List Cl} {p m : Nat} {a : Look} (h : Good l) (hm : 1 ≤ m) (hp : p + m ≤ l.length) : mendEnd (insRaw l p m a) = insertOf l p m a := by
  have hL := insRaw_length a hp
  have hlen : (cutEnd l m).length = l.length - m := cutEnd_length
  have hcl : (cutL (cutEnd l m) p).length = l.length - m := by rw [cutL_length, hlen]
  rw [insertOf_raw hm hp]
  have ht : ((cutL (cutEnd l m) p).take p).length = p := by rw [List.length_take, hcl]; omega
  have hr : (List.replicate m (blank a)).length = m := List.length_replicate
  refine ext_g ?_ fun i hi => ?_
  · rw [mendEnd_length, hL, List.length_append, List.length_append, ht, hr, List.length_drop, hcl]; omega
  rw [mendEnd_length, hL] at hi
  -- cells of the page's
  have hlast : g (insRaw l p m a) (l.length - 1) = if l.length - 1 < p + m then blank a else g (cutL l p) (l.length - 1 - m) := by
    rw [insRaw_g hp (by omega), if_neg (by omega)]
  have hne : insRaw l p m a ≠ [] := by intro e; rw [e] at hL; simp at hL; omega
  have hcut : ∀ j, j < l.length - m → g (cutL (cutEnd l m) p) j = if 0 < p ∧ p < l.length - m ∧ (g l p).wide = 2 ∧ (j = p ∨ j = p - 1) then blank (g l j).a else g (cutEnd l m) j := by
    intro j hj
    rw [cutL_g, hlen]
    by_cases c : 0 < p ∧ p < l.length - m
    · have hgp := cutEnd_g hm (by omega) h c.2
      have hw : (g (cutEnd l m) p).wide = 2 ↔ (g l p).wide = 2 := by
        rw [hgp]
        split
        · rename_i q
          constructor
          · intro q2; exact absurd (show (0 : Int) = 2 from q2) (by decide)
          · intro q2; rw [q.2] at q2; exact absurd q2 (by decide)
        · exact Iff.rfl
      by_cases c2 : (g l p).wide = 2 ∧ (j = p ∨ j = p - 1)
      · rw [if_pos ⟨c.1, c.2, hw.2 c2.1, c2.2⟩, if_pos ⟨c.1, c.2, c2.1, c2.2⟩]
        rw [cutEnd_g hm (by omega) h hj]
        split
        · rfl
        · rfl
      · rw [if_neg fun q => c2 ⟨hw.1 q.2.2.1, q.2.2.2⟩, if_neg fun q => c2 ⟨q.2.2.1, q.2.2.2⟩]
    · rw [if_neg fun q => c ⟨q.1, q.2.1⟩, if_neg fun q => c ⟨q.1, q.2.1⟩]
  have hRHS : g ((cutL (cutEnd l m) p).take p ++ (List.replicate m (blank a) ++ (cutL (cutEnd l m) p).drop p)) i = if i < p then g (cutL (cutEnd l m) p) i else if i < p + m then blank a else g (cutL (cutEnd l m) p) (i - m) := by
    by_cases c1 : i < p
    · rw [if_pos c1, g_append_left (by omega), g_take c1]
    · rw [if_neg c1, g_append_right (by omega), ht]
      by_cases c2 : i < p + m
      · rw [if_pos c2, g_append_left (by omega), g_eq (by omega), List.getElem_replicate]
      · rw [if_neg c2, g_append_right (by omega), hr, g_drop]
        congr 1; omega
  rw [hRHS]
  have hcutp : ∀ j, j < l.length → g (cutL l p) j = if 0 < p ∧ p < l.length ∧ (g l p).wide = 2 ∧ (j = p ∨ j = p - 1) then blank (g l j).a else g l j := fun j _ => cutL_g l p j
  -- the raw cell at i, and whether it is mended
  by_cases hmd : i = l.length - 1 ∧ ¬ l.length - 1 < p + m
  · obtain ⟨e, hge⟩ := hmd
    have hj : l.length - 1 - m < l.length - m := by omega
    have hjl : l.length - 1 - m < l.length := by omega
    have hE : g (mendEnd (insRaw l p m a)) i = if (g (cutL l p) (l.length - 1 - m)).wide = 1 then blank (g (cutL l p) (l.length - 1 - m)).a else g (cutL l p) (l.length - 1 - m) := by
      unfold mendEnd
      rw [hL, hlast, if_neg hge]
      by_cases c : (g (cutL l p) (l.length - 1 - m)).wide = 1
      · rw [if_pos ⟨hne, c⟩, if_pos c, e, g_set_same (by rw [hL]; omega)]
      · rw [if_neg fun q => c q.2, if_neg c, e, hlast, if_neg hge]
    rw [hE, e, if_neg (show ¬ l.length - 1 < p by omega), if_neg hge, hcut _ hj, hcutp _ hjl, cutEnd_g hm (by omega) h hj]
    by_cases c : 0 < p ∧ p < l.length - m ∧ (g l p).wide = 2 ∧ (l.length - 1 - m = p ∨ l.length - 1 - m = p - 1)
    · rw [if_pos (show 0 < p ∧ p < l.length ∧ (g l p).wide = 2 ∧ (l.length - 1 - m = p ∨ l.length - 1 - m = p - 1) from ⟨c.1, by omega, c.2.2⟩), if_pos c, if_neg (show ¬ (blank (g l (l.length - 1 - m)).a).wide = 1 from fun q => absurd (show (0 : Int) = 1 from q) (by decide))]
    · rw [if_neg (show ¬ (0 < p ∧ p < l.length ∧ (g l p).wide = 2 ∧ (l.length - 1 - m = p ∨ l.length - 1 - m = p - 1)) from fun q => c ⟨q.1, by omega, q.2.2⟩), if_neg c]
      by_cases c2 : (g l (l.length - 1 - m)).wide = 1
      · rw [if_pos c2, if_pos ⟨by omega, c2⟩]
      · rw [if_neg c2, if_neg fun q => c2 q.2]
  · have hE : g (mendEnd (insRaw l p m a)) i = g (insRaw l p m a) i := by
      unfold mendEnd
      rw [hL]
      split
      · rename_i q
        by_cases e : i = l.length - 1
        · exfalso
          have hlt : l.length - 1 < p + m := by
            rcases Nat.lt_or_ge (l.length - 1) (p + m) with k | k
            · exact k
            · exact absurd ⟨e, by omega⟩ hmd
          rw [hlast, if_pos hlt] at q
          exact absurd (show (0 : Int) = 1 from q.2) (by decide)
        · rw [g_set_ne fun k => e k.symm]
      · rfl
    rw [hE, insRaw_g hp hi]
    by_cases c1 : i < p
    · rw [if_pos c1, if_pos c1, hcut i (by omega), hcutp i hi, cutEnd_g hm (by omega) h (by omega)]
      by_cases c : 0 < p ∧ p < l.length ∧ (g l p).wide = 2 ∧ (i = p ∨ i = p - 1)
      · rw [if_pos c]
        by_cases c2 : p < l.length - m
        · rw [if_pos ⟨c.1, c2, c.2.2⟩]
        · have e : p = l.length - m := by omega
          have ei : i + 1 = p := by omega
          have hw1 : (g l i).wide = 1 := (wide_pair h (by omega)).2 (by rw [ei]; exact c.2.2.1)
          rw [if_neg fun q => c2 q.2.1, if_pos ⟨by omega, hw1⟩]
      · rw [if_neg c, if_neg fun q => c ⟨q.1, by omega, q.2.2⟩, if_neg]
        rintro ⟨q1, q2⟩
        have e : p = i + 1 := by omega
        refine c ⟨by omega, by omega, ?_, by omega⟩
        rw [e]; exact (wide_pair h (by omega)).1 q2
    · rw [if_neg c1, if_neg c1]
      by_cases c2 : i < p + m
      · rw [if_pos c2, if_pos c2]
      · rw [if_neg c2, if_neg c2]
        have hj : i - m < l.length - m := by omega
        rw [hcut _ hj, hcutp _ (by omega), cutEnd_g hm (by omega) h hj]
        by_cases c : 0 < p ∧ p < l.length - m ∧ (g l p).wide = 2 ∧ (i - m = p ∨ i - m = p - 1)
        · rw [if_pos (show 0 < p ∧ p < l.length ∧ (g l p).wide = 2 ∧ (i - m = p ∨ i - m = p - 1) from ⟨c.1, by omega, c.2.2⟩), if_pos c]
        · rw [if_neg (show ¬ (0 < p ∧ p < l.length ∧ (g l p).wide = 2 ∧ (i - m = p ∨ i - m = p - 1)) from fun q => c ⟨q.1, by omega, q.2.2⟩), if_neg c, if_neg]
          rintro ⟨q1, q2⟩
          exact hmd ⟨by omega, by omega⟩
theorem insert_none (l : List Cl) (p : Nat) (a : Look) : insertOf l p 0 a = l := by
  unfold insertOf repl
  rw [if_pos ⟨by omega, rfl⟩, if_pos ⟨rfl, rfl⟩]
end Row
end
section
open Go.RowKit
namespace Row
open Utf Wid
theorem Cs.none {w : World} {x : Value} (h : Cs w x []) (w' : World) : Cs w' x [] := by
  rcases h.2.2 with ⟨e, h0⟩ | ⟨ad, c2, e, _⟩
  · subst e; exact Cs.nil w'
  · subst e
    exact Cs.of (w := w') (ad := ad) (c := c2) (l := []) fun j u hu => by simp [Row.flat] at hu
theorem Rm.grownE {w w' : World} {x : Value} {l : List Cl} {row : Option Nat} (h : Rm w x l) (hg : w.grownBy w' row) (ho : ∀ k, row = some k → 0 < l.length → Off k x) : Cs w' x l := by
  rcases Nat.eq_zero_or_pos l.length with h0 | h0
  · have : l = [] := List.eq_nil_of_length_eq_zero h0
    subst this
    exact h.cs.none w'
  · exact (h.grown hg fun k e => ho k e h0).cs
theorem OwnCs.someB {w : World} {base : Nat} {v : Value} {l : List Cl} (h : OwnCs w base v l) (hl : 1 ≤ l.length) : ∃ b cap, v = .slice (some ⟨b, 0, none⟩) l.length cap ∧ base ≤ b ∧ l.length ≤ cap := by
  rcases h.shape with ⟨_, e⟩ | ⟨b, cap, e, h1, h2⟩
  · rw [e] at hl; simp at hl
  · exact ⟨b, cap, e, h1, h2⟩
set_option maxHeartbeats 3200000 in
theorem refInsert_any (l : List Cl) (a : Look) (k n m : Nat) (hm : m = min n (l.length - k)) (x : Value) (w : World) (hx : Cs w x l) (hl : l.length ≤ 500) (h : Good l) (ha : attrOk a = true) (hk : k ≤ l.length) :
    Calls Tryz.prog 90 #[x, .int .i64 k, .int .i64 n, .agg #[.int .i64 a.fg, .int .i64 a.bg, .int .i64 a.flags]] w fun e w' => ∃ v, e = .returned v ∧ OwnCs w' w.heap.size v (insertOf l k m a) ∧ Below w.heap.size w w' := by
  have hb0 : Below w.heap.size w (w.alloc (.cells #[.int .i64 a.fg, .int .i64 a.bg, .int .i64 a.flags] 31)) := (Below.refl _ _).alloc (Nat.le_refl _) _
  have hk0 : (w.alloc (.cells #[.int .i64 a.fg, .int .i64 a.bg, .int .i64 a.flags] 31)).heap[w.heap.size]? = some (.cells #[.int .i64 a.fg, .int .i64 a.bg, .int .i64 a.flags] 31 (0, 0)) := heap_alloc_new _ _
  have HB0 := Lib.hid hb0
  have HK0 := Lib.hid hk0
  have HCP := Lib.hid (copyCells_any l x _ (hx.kept hb0) (by omega))
  obtain ⟨A, c, rfl, _⟩ := hx.form
  have hw1 : IntKind.i64.wrap ((l.length : Int) - (k : Int)) = ((l.length - k : Nat) : Int) := by rw [IntKind.wrap_i64]; omega
  have hmin : min (n : Int) ((l.length - k : Nat) : Int) = (m : Int) := by omega
  by_cases h0 : m = 0
  · subst h0
    have HM : Hid (insertOf l k 0 a = l) := Lib.hid (insert_none l k a)
    rw [HM.out]
    clear hx hb0 hk0 h ha hm
    go_enter Tryz.func90, Tryz.ntmps90
    go_wp2_with fail
    refine HCP.out.mono ?_; rintro e w1 ⟨v1, rfl, ho1, hb1⟩
    have HO1 : Hid (OwnCs w1 w.heap.size v1 l) := Lib.hid (ho1.low (by simp))
    have HB1 : Hid (Below w.heap.size w w1) := Lib.hid (HB0.out.trans (hb1.mono (by simp)))
    clear ho1 hb1
    go_wp2_with fail
    go_ret
    exact ⟨_, rfl, HO1.out, HB1.out⟩
  have hne : l ≠ [] := by rintro rfl; simp at hm; omega
  have hkm : k + m ≤ l.length := by omega
  have HCUT := Lib.hid (fun v base w' (q : OwnCs w' base v l) (hb : base ≤ w'.heap.size) => refCut_any l base v k w' q hb (by omega) (by omega) hne)
  have HBK := Lib.hid (fun w' => refBlank_any m a w' (by omega))
  have HCC := Lib.hid (fun y w' (q : Cs w' y ((cutL l k).take k)) => copyCells_any ((cutL l k).take k) y w' q (by rw [List.length_take]; omega))
  have hraw := insRaw_begun (p := k) (m := m) h ha hkm
  have HRL := Lib.hid (insRaw_length a hkm)
  have HMD := Lib.hid (fun base b cap w' (q : OwnCs w' base (.slice (some ⟨b, 0, none⟩) (insRaw l k m a).length cap) (insRaw l k m a)) (hb : base ≤ w'.heap.size) => refMend_any (insRaw l k m a) base b cap w' q hb (by rw [insRaw_length a hkm]; omega) hraw)
  have HSM : Hid (mendEnd (insRaw l k m a) = insertOf l k m a) := Lib.hid (insert_same h (by omega) hkm)
  have HRW : Hid (insRaw l k m a = (cutL l k).take k ++ List.replicate m (blank a) ++ ((cutL l k).drop k).take (l.length - m - k)) := Lib.hid rfl
  have hcl : (cutL l k).length = l.length := cutL_length l k
  generalize insRaw l k m a = raw at HMD HSM HRW HRL
  generalize insertOf l k m a = res at HSM ⊢
  generalize hcq : cutL l k = cq at HCUT HCC HRW hcl
  have hbm : ((m : Int) == 0) = false := by rw [beq_eq_false_iff_ne]; omega
  have hw2 : IntKind.i64.wrap ((l.length : Int) - (m : Int)) = ((l.length - m : Nat) : Int) := by rw [IntKind.wrap_i64]; omega
  clear hx hne hb0 hk0 hraw hcq h ha hm
  go_enter Tryz.func90, Tryz.ntmps90
  go_wp2_with fail
  refine HCP.out.mono ?_; rintro e w1 ⟨v1, rfl, ho1, hb1⟩
  have HO1 : Hid (OwnCs w1 (w.heap.size + 1) v1 l) := Lib.hid (ho1.low (by simp))
  have HB1 : Hid (Below w.heap.size w w1) := Lib.hid (HB0.out.trans (hb1.mono (by simp)))
  have HZ1 : Hid (w.heap.size + 1 ≤ w1.heap.size) := Lib.hid (by have := hb1.size; simpa using this)
  have HZB : Hid (Below (w.heap.size + 1) (w.alloc (.cells #[.int .i64 a.fg, .int .i64 a.bg, .int .i64 a.flags] 31)) w1) := Lib.hid (hb1.mono (by simp))
  clear ho1 hb1
  go_wp2_with fail
  refine (HCUT.out _ _ _ HO1.out HZ1.out).mono ?_; rintro e w3 ⟨rfl, ho3, hb3⟩
  have HZA : Hid (Below (w.heap.size + 1) (w.alloc (.cells #[.int .i64 a.fg, .int .i64 a.bg, .int .i64 a.flags] 31)) w3) := Lib.hid (HZB.out.trans hb3)
  have HZ3 : Hid (w.heap.size + 1 ≤ w3.heap.size) := Lib.hid (Nat.le_trans HZ1.out hb3.size)
  obtain ⟨b, cap, rfl, hbb, hcap⟩ := ho3.someB (by omega)
  rw [hcl] at ho3 hcap ⊢
  obtain ⟨hsl1, hcs1⟩ := ho3.cs.upto hcap k (by omega)
  obtain ⟨A2, c2, hsl2, hrm2⟩ := ho3.rm.span k (l.length - m) (by omega) (by omega) (k : Int) ((l.length - m : Nat) : Int) rfl rfl
  have HCS1 := Lib.hid hcs1
  have HRM2 := Lib.hid hrm2
  clear hb3 ho3 hcs1 hrm2
  have HS3 : Hid (w.heap.size + 1 ≤ w3.heap.size) := HZ3
  clear HZ3
  obtain ⟨wa, hwa⟩ : ∃ W, w.alloc (.cells #[.int .i64 a.fg, .int .i64 a.bg, .int .i64 a.flags] 31) = W := ⟨_, rfl⟩
  have HWA : Hid (w.heap.size + 1 ≤ wa.heap.size) := Lib.hid (by rw [← hwa]; simp)
  have HZ3 : Hid (Below (w.heap.size + 1) wa w3) := Lib.hid (by rw [← hwa]; exact HZA.out)
  have HKK : Hid (∀ W, Below (w.heap.size + 1) wa W → W.cell? ⟨w.heap.size, 0, none⟩ = some (.int .i64 a.fg) ∧ W.cell? ⟨w.heap.size, 1, none⟩ = some (.int .i64 a.bg) ∧ W.cell? ⟨w.heap.size, 2, none⟩ = some (.int .i64 a.flags)) := Lib.hid fun W hb => by
    have q0 : wa.heap[w.heap.size]? = some (.cells #[.int .i64 a.fg, .int .i64 a.bg, .int .i64 a.flags] 31 (0, 0)) := by rw [← hwa]; exact HK0.out
    have q := (hb.block w.heap.size (Nat.lt_succ_self _)).trans q0
    exact ⟨Blk.cell q 0, Blk.cell q 1, Blk.cell q 2⟩
  rw [hwa] at HB0
  clear hwa
  have q3 := HKK.out w3.drew HZ3.out.drew
  go_upto_region 6 with (fail)
  refine wp_region_held_drew (S := fun w' => w'.cell? ⟨w.heap.size, 0, none⟩ = some (.int .i64 a.fg) ∧ w'.cell? ⟨w.heap.size, 1, none⟩ = some (.int .i64 a.bg) ∧ w'.cell? ⟨w.heap.size, 2, none⟩ = some (.int .i64 a.flags)) (by kernel_rfl) q3 (fun hHeld => ?_)
  refine wpAnyH_take (i := 0) (v := ?_) rfl (by kernel_rfl) (by kernel_rfl) (by kernel_rfl) (fun _ _ _ h => h) (Or.inl ⟨by rfl, ?_⟩) (by assumption) ?_
  rotate_left
  · intro w' hSw; first | (go_simp; done) | (go_simp; with_reducible rfl)
  simp only [Act.put, List.getElem_toArray, List.getElem_cons_zero, List.setIfInBounds_toArray, List.set_cons_zero, List.set_cons_succ]
  refine wpAnyH_take (i := 1) (v := ?_) rfl (by kernel_rfl) (by kernel_rfl) (by kernel_rfl) (fun _ _ _ h => h) (Or.inl ⟨by rfl, ?_⟩) (by assumption) ?_
  rotate_left
  · intro w' hSw; first | (go_simp; done) | (go_simp; with_reducible rfl)
  simp only [Act.put, List.getElem_toArray, List.getElem_cons_zero, List.getElem_cons_succ, List.setIfInBounds_toArray, List.set_cons_zero, List.set_cons_succ]
  refine wpAnyH_take (i := 2) (v := ?_) rfl (by kernel_rfl) (by kernel_rfl) (by kernel_rfl) (fun _ _ _ h => h) (Or.inl ⟨by rfl, ?_⟩) (by assumption) ?_
  rotate_left
  · intro w' hSw; first | (go_simp; done) | (go_simp; with_reducible rfl)
  simp only [Act.put, List.getElem_toArray, List.getElem_cons_zero, List.getElem_cons_succ, List.setIfInBounds_toArray, List.set_cons_zero, List.set_cons_succ]
  refine wpAnyH_take (i := 4) (v := ?_) rfl (by kernel_rfl) (by kernel_rfl) (by kernel_rfl) (fun _ _ _ h => h) (Or.inl ⟨by rfl, ?_⟩) (by assumption) ?_
  rotate_left
  · intro w' hSw; first | (go_simp; done) | (go_simp; with_reducible rfl)
  simp only [Act.put, List.getElem_toArray, List.getElem_cons_zero, List.getElem_cons_succ, List.setIfInBounds_toArray, List.set_cons_zero, List.set_cons_succ]
  refine wpAnyH_take (i := 5) (v := ?_) rfl (by kernel_rfl) (by kernel_rfl) (by kernel_rfl) (fun _ _ _ h => h) (Or.inl ⟨by rfl, ?_⟩) (by assumption) ?_
  rotate_left
  · intro w' hSw; first | (go_simp; done) | (go_simp; with_reducible rfl)
  simp only [Act.put, List.getElem_toArray, List.getElem_cons_zero, List.getElem_cons_succ, List.setIfInBounds_toArray, List.set_cons_zero, List.set_cons_succ]
  refine wpAnyH_ready (rs := [3]) (by kernel_rfl) (by simp) ?_
  refine AllReadyH.cons rfl (fun K hK => ?_) ?_
  · go_simp
    go_at_call 105
    refine (HCC.out _ w3.drew (HCS1.out.kept (Below.refl _ _).drew)).mono ?_; rintro e w4 ⟨v4, rfl, ho, hb⟩
    have HO4 : Hid (OwnCs w4 (w.heap.size + 1) v4 (cq.take k)) := Lib.hid (ho.low (show w.heap.size + 1 ≤ w3.heap.size from HS3.out))
    have HV4 : Hid (∀ q, v4.ownBlock = some q → w3.heap.size ≤ q) := Lib.hid fun q e => (ho.lt q e).1
    have HZ4 : Hid (Below (w.heap.size + 1) wa w4) := Lib.hid (HZ3.out.trans (((Below.refl _ _).drew.trans hb).mono HS3.out))
    have HR4 := Lib.hid (HRM2.out.kept ((Below.refl w3.heap.size w3).drew.trans hb))
    have q4 := HKK.out w4 HZ4.out
    clear ho hb
    refine hK.out _ _ q4 (fun hHeld => ?_)
    clear hK K
    refine wpAnyH_ready (rs := [6]) (by kernel_rfl) (by simp) ?_
    refine AllReadyH.cons rfl (fun K hK => ?_) ?_
    · go_simp
      go_at_call 113
      refine (HBK.out w4).mono ?_; rintro e w5 ⟨v5, rfl, ho, hb⟩
      have HO5 := Lib.hid (HO4.out.kept hb)
      have HC5 := Lib.hid ho.cs
      have HZ5 : Hid (Below (w.heap.size + 1) wa w5) := Lib.hid (HZ4.out.trans (hb.mono (Nat.le_trans HWA.out HZ4.out.size)))
      have HR5 := Lib.hid (HR4.out.kept hb)
      have q5 := HKK.out w5 HZ5.out
      clear ho hb
      refine hK.out _ _ q5 (fun hHeld => ?_)
      clear hK K
      refine wpAnyH_ready (rs := [7]) (by kernel_rfl) (by simp) ?_
      refine AllReadyH.cons rfl (fun K hK => ?_) ?_
      · refine step_append_cs rfl rfl (w.heap.size + 1) v4 v5 (cq.take k) (List.replicate m (blank a)) (by simp [Act.eval]) HO5.out (by simp [Act.eval]) HC5.out (by rw [List.length_take, List.length_replicate]; omega) (Nat.le_trans HWA.out HZ5.out.size) ?_; intro v6 w6 ho6 hg6 hat6
        have HO6 := Lib.hid ho6
        have HZ6 : Hid (Below (w.heap.size + 1) wa w6) := Lib.hid (below_cs HZ5.out hg6 (Nat.le_trans HWA.out HZ5.out.size) HO5.out)
        have HR6 : Hid (Cs w6 (.slice A2 (l.length - m - k) c2) ((cq.drop k).take (l.length - m - k))) := Lib.hid (HR5.out.grownE hg6 (fun q e h0 => HRM2.out.off h0 (HV4.out q e)))
        have q6 := HKK.out w6 HZ6.out
        clear ho6 hg6 hat6
        refine hK.out _ _ q6 (fun hHeld => ?_)
        clear hK K
        refine wpAnyH_take (i := 8) (v := ?_) rfl (by kernel_rfl) (by kernel_rfl) (by kernel_rfl) (fun _ _ _ h => h) (Or.inl ⟨by rfl, ?_⟩) (by assumption) ?_
        rotate_left
        · intro w' hSw; first | (go_simp; done) | (go_simp; with_reducible rfl)
        simp only [Act.put, List.getElem_toArray, List.getElem_cons_zero, List.getElem_cons_succ, List.setIfInBounds_toArray, List.set_cons_zero, List.set_cons_succ]
        refine wpAnyH_done (by kernel_rfl) ?_ _
        obtain ⟨b6, cap6, rfl, hbb6, _⟩ : ∃ b cap, v6 = .slice (some ⟨b, 0, none⟩) (cq.take k ++ List.replicate m (blank a)).length cap ∧ w.heap.size + 1 ≤ b ∧ True := (by obtain ⟨b, cap, e, h1, _⟩ := HO6.out.someB (by rw [List.length_append, List.length_replicate]; omega); exact ⟨b, cap, e, h1, trivial⟩)
        clear q4 q5 q6 hHeld HO4 HO5 HZ4 HZ5 HR4 HR5 HV4
        go_wp2_with (at_builtin; refine wp_append_cs rfl rfl (w.heap.size + 1) _ _ (cq.take k ++ List.replicate m (blank a)) ((cq.drop k).take (l.length - m - k)) rfl HO6.out rfl HR6.out (by rw [List.length_append, List.length_take, List.length_take, List.length_drop, List.length_replicate]; omega) (Nat.le_trans HWA.out HZ6.out.size) ?_; intro v7 w7 ho7 hg7 hat7; have HO7 : Hid (OwnCs w7 (w.heap.size + 1) v7 raw) := Lib.hid (by rw [HRW.out]; exact ho7); have HZ7 : Hid (Below (w.heap.size + 1) wa w7) := Lib.hid (below_cs HZ6.out hg7 (Nat.le_trans HWA.out HZ6.out.size) HO6.out); clear ho7 hg7 hat7)
        obtain ⟨b7, cap7, rfl, hbb7, _⟩ := HO7.out.someB (by rw [HRL.out]; omega)
        refine (HMD.out (w.heap.size + 1) b7 cap7 w7 HO7.out (Nat.le_trans HWA.out HZ7.out.size)).mono ?_; rintro e w8 ⟨rfl, ho, hb⟩
        rw [HSM.out] at ho
        have HO8 := Lib.hid (ho.low (Nat.le_succ w.heap.size))
        have HB8 : Hid (Below w.heap.size w w8) := Lib.hid (HB0.out.trans ((HZ7.out.trans hb).mono (Nat.le_succ _)))
        clear ho hb
        go_wp2_with fail
        go_ret
        exact ⟨_, rfl, HO8.out, HB8.out⟩
      exact AllReadyH.nil
    exact AllReadyH.nil
  exact AllReadyH.nil
end Row
end
end Go.Proofs.YtceaoadlhdgnmaaGreatDoor
