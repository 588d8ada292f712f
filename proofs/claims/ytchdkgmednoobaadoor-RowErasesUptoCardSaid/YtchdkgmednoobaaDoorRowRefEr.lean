/- The page's Erase of a row. -/
import Derived.Test.YtchdkgmednoobaaDoorRowRefOps
namespace Go.Proofs.YtchdkgmednoobaaDoor
set_option maxRecDepth 100000
open Go.RowKit
namespace Row
open Utf Wid

/-- Blank from low to below k, else as it was. -/
def Wiped (m ys : List Cl) (low k : Nat) (c : Cl) : Prop := ys.length = m.length ∧ ∀ i, i < m.length → g ys i = if low ≤ i ∧ i < k then c else g m i
theorem Wiped.start (m : List Cl) (low : Nat) (c : Cl) : Wiped m m low low c := ⟨rfl, fun i _ => by rw [if_neg (by omega)]⟩
theorem Wiped.step {m ys : List Cl} {low k : Nat} {c : Cl} (h : Wiped m ys low k c) (h1 : low ≤ k) (h2 : k < m.length) : Wiped m (ys.set k c) low (k + 1) c := by
  refine ⟨by rw [List.length_set]; exact h.1, fun i hi => ?_⟩
  by_cases hik : i = k
  · subst hik
    rw [g_set_same (by rw [h.1]; exact hi), if_pos ⟨h1, Nat.lt_succ_self _⟩]
  · rw [g_set_ne (fun e => hik e.symm), h.2 i hi]
    by_cases hc : low ≤ i ∧ i < k
    · rw [if_pos hc, if_pos (by omega)]
    · rw [if_neg hc, if_neg (by omega)]
theorem Wiped.done {l ys : List Cl} {low high : Nat} {a : Look} (h1 : low ≤ high) (h2 : high ≤ l.length) (h : Wiped (cutL (cutL l low) high) ys low high (blank a)) : ys = mid l low high (List.replicate (high - low) (blank a)) := by
  have hm : (cutL (cutL l low) high).length = l.length := by rw [cutL_length, cutL_length]
  have hlen := mid_length h1 h2 (List.replicate (high - low) (blank a))
  rw [List.length_replicate] at hlen
  refine ext_g (by rw [h.1, hm]; omega) fun i hi => ?_
  rw [h.1] at hi
  rw [mid_g h1 h2 (List.length_replicate), h.2 i hi]
  by_cases hc : low ≤ i ∧ i < high
  · rw [if_pos hc, if_pos hc, g_eq (by rw [List.length_replicate]; omega), List.getElem_replicate]
  · rw [if_neg hc, if_neg hc]

set_option maxHeartbeats 1600000 in
theorem refErase_any (l : List Cl) (a : Look) (low high : Nat) (x : Value) (w : World) (hx : Cs w x l) (hl : l.length ≤ 1000) (h1 : low ≤ high) (h2 : high ≤ l.length) :
    Calls Tryd.prog 57 #[x, .int .i64 low, .int .i64 high, .agg #[.int .i64 a.fg, .int .i64 a.bg, .int .i64 a.flags]] w fun e w' => ∃ v, e = .returned v ∧ OwnCs w' w.heap.size v (repl l low high (List.replicate (high - low) (blank a))) ∧ Below w.heap.size w w' := by
  have hb0 : Below w.heap.size w (w.alloc (.cells #[.int .i64 a.fg, .int .i64 a.bg, .int .i64 a.flags] 32)) := (Below.refl _ _).alloc (Nat.le_refl _) _
  have hk0 : (w.alloc (.cells #[.int .i64 a.fg, .int .i64 a.bg, .int .i64 a.flags] 32)).heap[w.heap.size]? = some (.cells #[.int .i64 a.fg, .int .i64 a.bg, .int .i64 a.flags] 32 (0, 0)) := heap_alloc_new _ _
  have HB0 := Lib.hid hb0
  have HCP := Lib.hid (copyCells_any l x _ (hx.kept hb0) (by omega))
  have HK0 := Lib.hid hk0
  by_cases he : low = high
  · subst he
    have HM : Hid (repl l low low (List.replicate (low - low) (blank a)) = l) := Lib.hid (by rw [Nat.sub_self]; unfold repl; rw [if_pos ⟨rfl, rfl⟩])
    rw [HM.out]
    clear hx hb0 hk0
    go_enter Tryd.func57, Tryd.ntmps57
    go_wp2_with fail
    refine HCP.out.mono ?_; rintro e w1 ⟨v1, rfl, ho1, hb1⟩
    have HO1 : Hid (OwnCs w1 w.heap.size v1 l) := Lib.hid (ho1.low (by simp))
    have HB1 : Hid (Below w.heap.size w w1) := Lib.hid (HB0.out.trans (hb1.mono (by simp)))
    clear ho1 hb1
    go_wp2_with fail
    go_ret
    exact ⟨_, rfl, HO1.out, HB1.out⟩
  · have hne : l ≠ [] := by rintro rfl; simp at h2; omega
    have hne1 : cutL l low ≠ [] := by
      intro e
      have := congrArg List.length e
      rw [cutL_length] at this
      exact hne (List.eq_nil_of_length_eq_zero this)
    have HC1 := Lib.hid (fun v base w' (h : OwnCs w' base v l) (hb : base ≤ w'.heap.size) => refCut_any l base v low w' h hb hl (by omega) hne)
    have HC2 := Lib.hid (fun v base w' (h : OwnCs w' base v (cutL l low)) (hb : base ≤ w'.heap.size) => refCut_any (cutL l low) base v high w' h hb (by rw [cutL_length]; omega) (by omega) hne1)
    have HD := Lib.hid (fun ys => Wiped.done (l := l) (ys := ys) (a := a) h1 h2)
    have HRP : Hid (repl l low high (List.replicate (high - low) (blank a)) = mid l low high (List.replicate (high - low) (blank a))) := Lib.hid (by unfold repl; rw [if_neg fun q => he q.1])
    rw [HRP.out]
    have HRB : Hid (∀ w', Calls Tryd.prog 61 #[.agg #[.int .i64 a.fg, .int .i64 a.bg, .int .i64 a.flags]] w' fun e w'' => e = .returned (.agg #[.int .i64 32, .string ⟨#[]⟩, .int .i64 0, .int .i64 (-1), .int .i64 a.bg, .int .i64 0]) ∧ Below w'.heap.size w' w'') := Lib.hid (fun w' => refblank_any a w')
    have hml : (cutL (cutL l low) high).length = l.length := by rw [cutL_length, cutL_length]
    generalize mid l low high (List.replicate (high - low) (blank a)) = res at HD ⊢
    generalize cutL (cutL l low) high = m at HC2 HD hml
    generalize cutL l low = l1 at HC1 HC2
    have hb1 : ((low : Int) == (high : Int)) = false := by rw [beq_eq_false_iff_ne]; omega
    have hlow : low < high := by omega
    clear hx hne hne1 hb0 hk0 HRP he
    go_enter Tryd.func57, Tryd.ntmps57
    go_wp2_with fail
    refine HCP.out.mono ?_; rintro e w1 ⟨v1, rfl, ho1, hb1⟩
    have HO1 : Hid (OwnCs w1 (w.heap.size + 1) v1 l) := Lib.hid (ho1.low (by simp))
    have HK1 := Lib.hid (Blk.kept HK0.out hb1)
    have HB1 : Hid (Below w.heap.size w w1) := Lib.hid (HB0.out.trans (hb1.mono (by simp)))
    have HZ1 : Hid (w.heap.size + 1 ≤ w1.heap.size) := Lib.hid (by have := hb1.size; simpa using this)
    clear ho1 hb1
    go_wp2_with fail
    refine (HC1.out _ _ _ HO1.out HZ1.out).mono ?_; rintro e w3 ⟨rfl, ho3, hb3⟩
    have HO3 := Lib.hid ho3
    have HK3 := Lib.hid ((hb3.block w.heap.size (Nat.lt_succ_self _)).trans HK1.out)
    have HB3 : Hid (Below w.heap.size w w3) := Lib.hid (HB1.out.trans (hb3.mono (Nat.le_succ _)))
    have HZ3 : Hid (w.heap.size + 1 ≤ w3.heap.size) := Lib.hid (Nat.le_trans HZ1.out hb3.size)
    clear ho3 hb3
    go_wp2_with fail
    refine (HC2.out _ _ _ HO3.out HZ3.out).mono ?_; rintro e w4 ⟨rfl, ho4, hb4⟩
    have HK4 := Lib.hid ((hb4.block w.heap.size (Nat.lt_succ_self _)).trans HK3.out)
    have HB4 : Hid (Below w.heap.size w w4) := Lib.hid (HB3.out.trans (hb4.mono (Nat.le_succ _)))
    have HZ4 : Hid (w.heap.size + 1 ≤ w4.heap.size) := Lib.hid (Nat.le_trans HZ3.out hb4.size)
    have hshape : ∃ b cap, v1 = .slice (some ⟨b, 0, none⟩) l.length cap ∧ w.heap.size + 1 ≤ b := by
      rcases ho4.shape with ⟨_, e⟩ | ⟨b, cap, e, h, _⟩
      · have h0 : l.length = 0 := by rw [← hml, e]; rfl
        omega
      · exact ⟨b, cap, by rw [e, hml], h⟩
    obtain ⟨b, cap, rfl, hbb⟩ := hshape
    have HBB : Hid (w.heap.size ≤ b) := Lib.hid (by omega)
    have HBB1 : Hid (w.heap.size + 1 ≤ b) := Lib.hid hbb
    have HO4 := Lib.hid ho4
    clear hb4 ho4 hbb
    go_wp2_with fail
    go_loopw [9] (fun i wr => ∃ (k : Nat) (ys : List Cl), low ≤ k ∧ k ≤ high ∧ i = .int .i64 k ∧ Hid (Wiped m ys low k (blank a)) ∧ Hid (OwnCs wr (w.heap.size + 1) (.slice (some ⟨b, 0, none⟩) l.length cap) ys) ∧ Hid (Below (w.heap.size + 1) w4 wr)) (fun i _ => high - (intOf i).toNat)
    case atStart => exact ⟨low, m, Nat.le_refl _, h1, rfl, Lib.hid (Wiped.start m low _), HO4, Lib.hid (Below.refl _ _)⟩
    case round =>
      obtain ⟨k, ys, hlk, hk, rfl, HW, HO, HBW⟩ := hrel
      by_cases hlt : k < high
      · have hkk := (HBW.out.block w.heap.size (Nat.lt_succ_self _)).trans HK4.out
        have hzw : w.heap.size + 1 ≤ wr.heap.size := Nat.le_trans HZ4.out HBW.out.size
        obtain ⟨q0, q1, q2⟩ := box_cells hkk
        have hyl : k < ys.length := by rw [HW.out.1, hml]; omega
        have HW2 : Hid (Wiped m (ys.set k (blank a)) low (k + 1) (blank a)) := Lib.hid (HW.out.step hlk (by omega))
        clear hkk
        go_wp2_with fail
        refine (HRB.out _).mono ?_; rintro e w5 ⟨rfl, hb5⟩
        have HO5 := Lib.hid (HO.out.kept hb5)
        have HB5 : Hid (Below (w.heap.size + 1) w4 w5) := Lib.hid (HBW.out.trans (hb5.mono hzw))
        obtain ⟨fp, hfp⟩ : ∃ f, g ys k = f := ⟨_, rfl⟩
        obtain ⟨pr, pc, px, ⟨p1, p2, p3⟩⟩ := fp
        obtain ⟨d0, d1, d2, d3, d4, d5, f0, f1, f2, f3, f4, f5⟩ := first_facts HO5.out hyl hfp
        have HO6 : Hid (OwnCs (putCell w5 b k ⟨32, [], 0, ⟨-1, a.bg, 0⟩⟩) (w.heap.size + 1) (.slice (some ⟨b, 0, none⟩) l.length cap) (ys.set k (blank a))) := Lib.hid (HO5.out.put hyl (blank a))
        have HB6 : Hid (Below (w.heap.size + 1) w4 (putCell w5 b k ⟨32, [], 0, ⟨-1, a.bg, 0⟩⟩)) := Lib.hid (below_put HB5.out HBB1.out k _)
        clear hb5 hfp q0 q1 q2
        go_wp2_with fail
        go_roundw
        case rel => exact ⟨k + 1, _, by omega, by omega, by go_num, HW2, HO6, HB6⟩
        case measure => simp [intOf]; omega
      · have hkn : k = high := by omega
        subst hkn
        have HR := Lib.hid (HD.out ys HW.out)
        go_wp2_with fail
        go_ret
        exact ⟨_, rfl, by rw [← HR.out]; exact HO.out.low (Nat.le_succ _), HB4.out.trans (HBW.out.mono (Nat.le_succ _))⟩
end Row
end Go.Proofs.YtchdkgmednoobaaDoor
