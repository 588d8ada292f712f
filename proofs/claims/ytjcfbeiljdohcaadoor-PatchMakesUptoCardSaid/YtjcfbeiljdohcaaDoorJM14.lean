/- Joined texts: GrdCheck. -/
import Derived.Test.YtjcfbeiljdohcaaDoorJM11
import Derived.Test.YtjcfbeiljdohcaaDoorJM13
namespace Go.Proofs.YtjcfbeiljdohcaaDoor
set_option maxRecDepth 100000
section
open Go.RowKit
namespace Row
attribute [local go_sem] Oper.semAt_some
theorem ownFrom_size {β : Type} (B n : Nat) : OwnFrom B (fun (_ : β) W => n ≤ W.heap.size) := fun _ _ _ _ hs hg _ => Nat.le_trans hs hg.size
theorem held_part {l : List Cl} (h : Held l) (C i : Nat) : Held (rowAt l C i) := by
  intro j hj
  unfold rowAt at hj ⊢
  rw [List.length_take, List.length_drop] at hj
  rw [g_take (by omega), g_drop]
  exact h _ (by omega)
set_option maxHeartbeats 1600000 in
theorem gridCheck_thin (r c : Int) (l : List Cl) (x : Value) (w : World) (hx : Rm w x l) (h : sidesOk r c = false) :
    Calls Tryd.prog 59 #[.agg #[.int .i64 r, .int .i64 c, x]] w fun e w' => e = .returned (.int .i64 1) ∧ Below w.heap.size w w' := by
  obtain ⟨_, A, cp, rfl, _⟩ := hx
  have H := Lib.hid h
  clear h
  go_enter Tryd.func59, Tryd.ntmps59
  go_wp2_with fail
  refine (sides_at _ _ _ H.out _).mono ?_; rintro e w' ⟨rfl, rfl⟩
  go_wp2_with fail
  go_returns
  exact ⟨rfl, by repeat (first | exact Below.refl _ _ | refine Below.alloc ?_ (Nat.le_refl _) _ | refine Below.alloc ?_ (by simp) _ | refine Below.setCell ?_ (by simp) _)⟩
set_option maxHeartbeats 1600000 in
theorem gridCheck_odd (R C : Nat) (l : List Cl) (x : Value) (w : World) (hx : Rm w x l) (h : sidesOk R C = true) (hR : R ≤ 40) (hC : C ≤ 40) (hl : l.length ≠ R * C) :
    Calls Tryd.prog 59 #[.agg #[.int .i64 R, .int .i64 C, x]] w fun e w' => e = .returned (.int .i64 1) ∧ Below w.heap.size w w' := by
  obtain ⟨_, A, cp, rfl, _⟩ := hx
  have H := Lib.hid h
  have hm : R * C ≤ 1600 := Nat.mul_le_mul hR hC
  obtain ⟨m, hmm⟩ : ∃ m, m = R * C := ⟨_, rfl⟩
  have hw : IntKind.i64.wrap ((R : Int) * (C : Int)) = (m : Int) := by rw [hmm, ← Int.natCast_mul, IntKind.wrap_i64]; omega
  rw [← hmm] at hm hl
  clear h hmm
  go_enter Tryd.func59, Tryd.ntmps59
  go_wp2_with fail
  refine (sides_at _ _ _ H.out _).mono ?_; rintro e w' ⟨rfl, rfl⟩
  go_wp2_with fail
  go_returns
  exact ⟨rfl, by repeat (first | exact Below.refl _ _ | refine Below.alloc ?_ (Nat.le_refl _) _ | refine Below.alloc ?_ (by simp) _ | refine Below.setCell ?_ (by simp) _)⟩
set_option maxHeartbeats 4000000 in
theorem gridCheck_even (R C : Nat) (l : List Cl) (x : Value) (w : World) (b : Bool) (hx : Rm w x l) (hs : Held l) (h : sidesOk R C = true) (hR1 : 1 ≤ R) (hR : R ≤ 40) (hC1 : 1 ≤ C) (hC : C ≤ 40) (hl : l.length = R * C)
    (hb : b = true ↔ ∀ i, i < R → RowOk (rowAt l C i)) :
    Calls Tryd.prog 59 #[.agg #[.int .i64 R, .int .i64 C, x]] w fun e w' => e = .returned (.int .i64 (bif b then 0 else 1)) ∧ Below w.heap.size w w' := by
  have hm : R * C ≤ 1600 := Nat.mul_le_mul hR hC
  have hm1 : 1 ≤ R * C := Nat.mul_pos hR1 hC1
  obtain ⟨_, A, cp, rfl, hcp⟩ := hx
  have hx : Rm w (.slice A l.length cp) l := ⟨by assumption, A, cp, rfl, hcp⟩
  have hA : ∃ ad, A = some ad := by
    obtain ⟨A', c', e, hf⟩ := hx.cs.form
    injection e with e1 e2 e3
    obtain ⟨ad, e, _⟩ := hf 0 (by omega)
    exact ⟨ad, by rw [e1, e]⟩
  obtain ⟨ad, rfl⟩ := hA
  obtain ⟨cv, hcv⟩ := chunks_some hx R C hl hC1
  rw [hl] at hx hcv hcp ⊢
  have HCV := Lib.hid hcv
  have HH : Hid (∀ i, i < R → Held (rowAt l C i) ∧ (rowAt l C i).length ≤ 1000000) := Lib.hid fun i hi => ⟨held_part hs C i, by unfold rowAt; rw [List.length_take]; omega⟩
  have H := Lib.hid h
  obtain ⟨m, hmm⟩ : ∃ m, m = R * C := ⟨_, rfl⟩
  have hw : IntKind.i64.wrap ((R : Int) * (C : Int)) = (m : Int) := by rw [hmm, ← Int.natCast_mul, IntKind.wrap_i64]; omega
  have HM := Lib.hid hmm
  have HB := Lib.hid hb
  have HX := Lib.hid hx
  rw [← hmm] at HX hcp hm ⊢
  clear h hs hb hcv hx hmm
  refine (callsIn_wide (n := 6)).1 ?_
  refine callsIn_of_wp_marks Tryd.func59 rfl trivial ?_ rfl
  simp only [Tryd.ntmps59, List.size_toArray, List.length_cons, List.length_nil, Nat.reduceAdd, Nat.reduceSub, Array.replicate_succ, Array.replicate_zero, List.push_toArray, List.append_toArray, List.nil_append, List.cons_append]
  gi_wp2_with (refine ⟨trivial, ?_⟩; first
    | (gi_at_call 64; refine (callsIn_wide.2 (sides_at _ _ _ H.out _)).mono ?_; rintro e w' ⟨rfl, rfl⟩)
    | (gi_at_call 36; refine (callsIn_wide.2 (chunk_any _ _ _ C hC1 _)).mono ?_; rintro e w' ⟨rfl, rfl⟩))
  have hb0 : Below w.heap.size w ((((w.alloc (.cells #[.int .i64 R, .int .i64 C, .slice (some ad) m cp] 30)).alloc (.cells #[.int .i64 0] 36)).alloc (.cells #[.slice (some ad) m cp] 28)).alloc (.cells #[.int .i64 C] 3)) := by
    repeat (first | exact Below.refl _ _ | refine Below.alloc ?_ (Nat.le_refl _) _ | refine Below.alloc ?_ (by first | (simp; done) | (simp; omega)) _)
  have c1 : ((((w.alloc (.cells #[.int .i64 R, .int .i64 C, .slice (some ad) m cp] 30)).alloc (.cells #[.int .i64 0] 36)).alloc (.cells #[.slice (some ad) m cp] 28)).alloc (.cells #[.int .i64 C] 3)).heap[w.heap.size + 1]? = some (.cells #[.int .i64 0] 36 (0, 0)) :=
    old_alloc (old_alloc (new_alloc _ _ _ (by simp)) _) _
  have c2 : ((((w.alloc (.cells #[.int .i64 R, .int .i64 C, .slice (some ad) m cp] 30)).alloc (.cells #[.int .i64 0] 36)).alloc (.cells #[.slice (some ad) m cp] 28)).alloc (.cells #[.int .i64 C] 3)).heap[w.heap.size + 1 + 1]? = some (.cells #[.slice (some ad) m cp] 28 (0, 0)) :=
    old_alloc (new_alloc _ _ _ (by simp)) _
  have c3 : ((((w.alloc (.cells #[.int .i64 R, .int .i64 C, .slice (some ad) m cp] 30)).alloc (.cells #[.int .i64 0] 36)).alloc (.cells #[.slice (some ad) m cp] 28)).alloc (.cells #[.int .i64 C] 3)).heap[w.heap.size + 1 + 1 + 1]? = some (.cells #[.int .i64 C] 3 (0, 0)) :=
    new_alloc _ _ _ (by simp)
  have hsz : ((((w.alloc (.cells #[.int .i64 R, .int .i64 C, .slice (some ad) m cp] 30)).alloc (.cells #[.int .i64 0] 36)).alloc (.cells #[.slice (some ad) m cp] 28)).alloc (.cells #[.int .i64 C] 3)).heap.size = w.heap.size + 4 := by simp
  generalize ((((w.alloc (.cells #[.int .i64 R, .int .i64 C, .slice (some ad) m cp] 30)).alloc (.cells #[.int .i64 0] 36)).alloc (.cells #[.slice (some ad) m cp] 28)).alloc (.cells #[.int .i64 C] 3)) = w0 at hb0 c1 c2 c3 hsz ⊢
  have q2 := Blk.cell c2 0
  have q3 := Blk.cell c3 0
  simp only [List.getElem?_toArray, List.getElem?_cons_zero] at q2 q3
  rw [HM.out] at q2
  refine wpIn_rangeFunc_ownG rfl (by omega) (gf := 49) (lb := #[.pointer (some ⟨w.heap.size + 1 + 1, 0, none⟩), .pointer (some ⟨w.heap.size + 1 + 1 + 1, 0, none⟩)]) rfl trivial (enters_of Tryd.func49 (by kernel_rfl) rfl)
    (chunk_stops (6 - 1) (by omega) (w.heap.size + 1 + 1) (w.heap.size + 1 + 1 + 1) ad R C cp hR hC1 hC (by rw [← HM.out]; exact hcp) cv (fun i hi => (HCV.out i hi).1) w0 (by omega) (by omega) q2 q3) (fun h k => h.trans k) (two_b (by omega) (by omega)) (Below.refl _ _) (fun _ => rfl)
    (fun pre W => (∀ y ∈ pre, RowOk (rowAt l C y.1)) ∧ (Boxed W (w.heap.size + 1) 36 (.int .i64 0) ∧ (Below w.heap.size w W ∧ w0.heap.size ≤ W.heap.size)))
    (fun c _ W => c = .ret ∧ (¬ (∀ i, i < R → RowOk (rowAt l C i))) ∧ (Boxed W (w.heap.size + 1) 36 (.int .i64 1) ∧ Below w.heap.size w W))
    (OwnFrom.and (ownFrom_pure _ _) (OwnFrom.and ((boxed_own _ _ _).from _) (OwnFrom.and (ownFrom_below (Nat.le_refl _) (by omega)) (ownFrom_size _ _))))
    (fun c => OwnFrom.and (ownFrom_pure _ _) (OwnFrom.and (ownFrom_pure _ _) (OwnFrom.and ((boxed_own _ _ _).from _) (ownFrom_below (Nat.le_refl _) (by omega)))))
    ⟨fun _ h => (by cases h), c1, hb0, Nat.le_refl _⟩
    (fun y => { tmps := #[.agg #[.int .i64 R, .int .i64 C, .slice (some ad) m cp], .pointer (some ⟨w.heap.size, 0, none⟩), .pointer (some ⟨w.heap.size + 1, 0, none⟩), cv y.1, undef, .pointer (some ⟨w.heap.size, 0, none⟩), .int .i64 R,
      .pointer (some ⟨w.heap.size, 1, none⟩), .int .i64 C, .bool true, .bool false, .bool false, .pointer (some ⟨w.heap.size, 2, none⟩), .slice (some ad) m cp, .int .i64 m, .pointer (some ⟨w.heap.size, 0, none⟩), .int .i64 R,
      .pointer (some ⟨w.heap.size, 1, none⟩), .int .i64 C, .int .i64 m, .bool false, .bool false, .pointer (some ⟨w.heap.size, 2, none⟩), .slice (some ad) m cp, .pointer (some ⟨w.heap.size, 1, none⟩), .int .i64 C,
      .func (.func 49) #[] #[.pointer (some ⟨w.heap.size + 1 + 1, 0, none⟩), .pointer (some ⟨w.heap.size + 1 + 1 + 1, 0, none⟩)], cv y.1, undef, undef, undef, undef, undef], defers := [] }) ?assign ?body ?done ?stop
  case assign =>
    intro l x W K hK
    gi_wp2
    exact hK
  case body =>
    rintro l' pre ⟨i, hi⟩ W ⟨hok, hbx, hB, hS0⟩ hlt
    have hcs := ((HCV.out i hi).2.kept hB).cs
    obtain ⟨hh, hll⟩ := HH.out i hi
    have hc := hbx.cell
    have hf := hbx.frozen
    by_cases hrow : RowOk (rowAt l C i)
    · gi_wp2_with (refine ⟨trivial, ?_⟩; gi_at_call 76; refine (CallsIn.inRound l' (callsIn_wide.2 (rowCheck_any (rowAt l C i) true (cv i) W hcs hh hll ⟨fun _ => hrow, fun _ => rfl⟩))).mono ?_; rintro e w1 ⟨rfl, hb1⟩)
      refine ⟨(others_below hb1).from _, Two.below hb1 (by omega) (by omega), fun y hy => ?_, (hb1.block _ hbx.lt).trans hbx, hB.trans (hb1.mono hB.size), Nat.le_trans hS0 hb1.size⟩
      rcases List.mem_append.1 hy with hy | hy
      · exact hok y hy
      · obtain rfl : y = ⟨i, hi⟩ := by simpa using hy
        exact hrow
    · gi_wp2_with (refine ⟨trivial, ?_⟩; gi_at_call 76; refine (CallsIn.inRound l' (callsIn_wide.2 (rowCheck_any (rowAt l C i) false (cv i) W hcs hh hll ⟨(fun h => by cases h), fun h => absurd h hrow⟩))).mono ?_; rintro e w1 ⟨rfl, hb1⟩; have hbx1 : Boxed w1 (w.heap.size + 1) 36 (.int .i64 0) := (hb1.block _ hbx.lt).trans hbx; have hc1 := hbx1.cell; have hf1 := hbx1.frozen)
      exact ⟨((others_below hb1).trans (KeepsOthers.setCell _ _ _)).from _, rfl, fun h => hrow (h i hi), hbx1.set _, (hB.trans (hb1.mono hB.size)).setCell (p := ⟨w.heap.size + 1, 0, none⟩) (Nat.le_succ _) _⟩
  case done =>
    rintro D ys W hD hS ⟨hok, hbx, hB, hS0⟩ hK
    have hbt : b = true := HB.out.2 fun i hi => by
      obtain ⟨y, hy, rfl⟩ := upto_mem hS hi
      exact hok y hy
    subst hbt
    have hc := hbx.cell
    have hf := hbx.frozen
    gi_wp2
    have hK' : (W.setCell ⟨w.heap.size + 1, 0, none⟩ (.int .i64 0)).heap[D]? = some (.deferred (some [])) := (KeepsOthers.setCell W ⟨w.heap.size + 1, 0, none⟩ (.int .i64 0)).same D _ hK rfl
    have hb2 := hbx.set (.int .i64 0)
    have hB2 : Below w.heap.size w (W.setCell ⟨w.heap.size + 1, 0, none⟩ (.int .i64 0)) := hB.setCell (p := ⟨w.heap.size + 1, 0, none⟩) (Nat.le_succ _) _
    generalize W.setCell ⟨w.heap.size + 1, 0, none⟩ (.int .i64 0) = W2 at hK' hb2 hB2 ⊢
    have hb3 : Boxed (W2.putObj D (.deferred none)) (w.heap.size + 1) 36 (.int .i64 0) := (World.putObj_heap_other (by omega)).trans hb2
    have hc3 := hb3.cell
    refine ⟨by simp, .inl ⟨_, _, rfl, run_takeDeferred hK', ?_⟩⟩
    exact ⟨_, by simp [results, Tryd.results59, go_sem, hc3]; try rfl, rfl, hB2.trans (belowK_b (w := w) (Nat.le_refl _) W2 D _ _ (by omega) hK' rfl rfl)⟩
  case stop =>
    rintro D c pre W hD _ ⟨rfl, hno, hbx, hB⟩ hK
    have hbf : b = false := by
      cases b
      · rfl
      · exact absurd (HB.out.1 rfl) hno
    subst hbf
    have hc := hbx.cell
    gi_wp2
    have hb3 : Boxed (W.putObj D (.deferred none)) (w.heap.size + 1) 36 (.int .i64 1) := (World.putObj_heap_other (by omega)).trans hbx
    have hc3 := hb3.cell
    refine ⟨by simp, .inl ⟨_, _, rfl, run_takeDeferred hK, ?_⟩⟩
    exact ⟨_, by simp [results, Tryd.results59, go_sem, hc3]; try rfl, rfl, hB.trans (belowK_b (w := w) (Nat.le_refl _) W D _ _ (by omega) hK rfl rfl)⟩
theorem gridCheck_any (G : Gr) (b : Bool) (x : Value) (w : World) (hx : Rm w x G.cells) (hs : Held G.cells) (hb : b = true ↔ GridOk G) :
    Calls Tryd.prog 59 #[.agg #[.int .i64 G.rows, .int .i64 G.cols, x]] w fun e w' => e = .returned (.int .i64 (bif b then 0 else 1)) ∧ Below w.heap.size w w' := by
  obtain ⟨r, c, l⟩ := G
  simp only at hx hs ⊢
  cases h : sidesOk r c with
  | false =>
    have hbf : b = false := by
      cases b
      · rfl
      · have := hb.1 rfl
        have := (sidesOk_iff r c).2 ⟨this.1, this.2.1⟩
        rw [h] at this; cases this
    subst hbf
    exact gridCheck_thin r c l x w hx h
  | true =>
    obtain ⟨⟨h1, h2⟩, h3, h4⟩ := (sidesOk_iff r c).1 h
    obtain ⟨R, rfl⟩ := Int.eq_ofNat_of_zero_le (show 0 ≤ r by omega)
    obtain ⟨C, rfl⟩ := Int.eq_ofNat_of_zero_le (show 0 ≤ c by omega)
    by_cases hl : l.length = R * C
    · refine gridCheck_even R C l x w b hx hs h (by omega) (by omega) (by omega) (by omega) hl ?_
      rw [hb]
      unfold GridOk
      simp only [Int.toNat_natCast]
      constructor
      · intro k i hi; exact k.2.2.2 i (by omega)
      · intro k; exact ⟨⟨h1, h2⟩, ⟨h3, h4⟩, by rw [hl, Int.natCast_mul], fun i hi => k i (by omega)⟩
    · have hbf : b = false := by
        cases b
        · rfl
        · have := (hb.1 rfl).2.2.1
          simp only [← Int.natCast_mul] at this
          exact absurd (by omega) hl
      subst hbf
      exact gridCheck_odd R C l x w hx h (by omega) (by omega) hl
end Row
end
end Go.Proofs.YtjcfbeiljdohcaaDoor
