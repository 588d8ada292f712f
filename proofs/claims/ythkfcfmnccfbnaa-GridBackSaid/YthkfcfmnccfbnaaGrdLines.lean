/- The developers' lines of a grid: all of them kept. -/
import Derived.Test.YthkfcfmnccfbnaaGrdCheck
import Derived.Test.YthkfcfmnccfbnaaGrdLaid
import Derived.Maps.AppendAt
import Derived.RangeFuncBox
namespace Go.Proofs.Ythkfcfmnccfbnaa
set_option maxRecDepth 100000
open Go.RowKit
namespace Row
attribute [local go_sem] Oper.semAt_some

def keptOf (cv : Nat → Value) (l : List Cl) (C : Nat) (is : List Nat) : List Ln := is.map fun i => Ln.kept (cv i) (rowAt l C i)
theorem keptOf_length (cv : Nat → Value) (l : List Cl) (C : Nat) (is : List Nat) : (keptOf cv l C is).length = is.length := List.length_map _
/-- Between two rounds. -/
def LI (w w0 : World) (b R C m cp : Nat) (ad : Addr) (cv : Nat → Value) (l : List Cl) (pre : List (Lt R)) (W : World) : Prop :=
  (∃ v, Boxed W b 50 v ∧ W.ownsRow w.heap.size 54 1 v (keptOf cv l C (pre.map (·.1))).length (lvs (keptOf cv l C (pre.map (·.1)))) ∧ True) ∧
    (Boxed W (b + 1) 22 (.slice (some ad) m cp) ∧ (Boxed W (b + 1 + 1) 3 (.int .i64 C) ∧ (Below w.heap.size w W ∧ w0.heap.size ≤ W.heap.size)))
set_option maxHeartbeats 4000000 in
theorem lines_any (R C : Nat) (l : List Cl) (x : Value) (w : World) (hx : Rm w x l) (hR1 : 1 ≤ R) (hR : R ≤ 40) (hC1 : 1 ≤ C) (hC : C ≤ 40) (hl : l.length = R * C) :
    Calls Try.prog 16 #[.agg #[.int .i64 R, .int .i64 C, x]] w fun e w' => ∃ v cv, e = .returned v ∧ OwnL w' w.heap.size v (keptOf cv l C (List.range R)) ∧ (∀ i, i < R → Rm w (cv i) (rowAt l C i)) ∧ Below w.heap.size w w' := by
  obtain ⟨ii, hi, hz, h1, h16⟩ := line_row
  have hm : R * C ≤ 1600 := Nat.mul_le_mul hR hC
  have hm1 : 1 ≤ R * C := Nat.mul_pos hR1 hC1
  obtain ⟨_, A, cp, rfl, hcp⟩ := hx
  have hx : Rm w (.slice A l.length cp) l := ⟨by assumption, A, cp, rfl, hcp⟩
  have hA : ∃ ad, A = some ad := by
    obtain ⟨A', c', e, hf⟩ := hx.cs.form
    injection e with e1 e2 e3
    obtain ⟨ad, e, _⟩ := hf 0 (by omega)
    exact ⟨ad, by rw [e1, e]⟩
  obtain ⟨ad, rfl⟩ := hA
  obtain ⟨cv, hcv⟩ := chunks_some hx R C hl hC1
  rw [hl] at hx hcv hcp ⊢
  have HCV := Lib.hid hcv
  obtain ⟨m, hmm⟩ : ∃ m, m = R * C := ⟨_, rfl⟩
  have HM := Lib.hid hmm
  rw [← hmm] at hcp hm ⊢
  have hlast := Lib.hid (show ∀ w', Below w.heap.size w w' → ∀ v, OwnL w' w.heap.size v (keptOf cv l C (List.range R)) → ∃ v' cv', Ending.returned v = .returned v' ∧ OwnL w' w.heap.size v' (keptOf cv' l C (List.range R)) ∧ (∀ i, i < R → Rm w (cv' i) (rowAt l C i)) ∧ Below w.heap.size w w' from fun w' hb v ho => ⟨v, cv, rfl, ho, fun i hi => (hcv i hi).2, hb⟩)
  clear hcv hx hmm
  refine (callsIn_wide (n := 6)).1 ?_
  refine callsIn_of_wp_marks Try.func16 rfl trivial ?_ rfl
  simp only [Try.ntmps16, List.size_toArray, List.length_cons, List.length_nil, Nat.reduceAdd, Nat.reduceSub, Array.replicate_succ, Array.replicate_zero, List.push_toArray, List.append_toArray, List.nil_append, List.cons_append]
  gi_wp2_with (first
    | (gi_at_make; refine wpListIn_make_own _ rfl _ _ _ rfl w.heap.size 54 ii _ 1 Try.underlying50 hi hz h1 .i64 .i64 (R : Int) R rfl rfl rfl (by rw [h16]; omega) (by simp only [maxLen]; omega) (by simp) ?_; intro w1 ho1 hg1; have HO1 := Lib.hid ho1; have hb1 : Below (w.heap.size + 1) (w.alloc (gbox R C (.slice (some ad) m cp))) w1 := (Below.refl (w.heap.size + 1) _).grown hg1 (by simp) (fun k hk => by cases hk); have hgb : w1.heap[w.heap.size]? = some (gbox R C (.slice (some ad) m cp)) := (hb1.block w.heap.size (by omega)).trans (new_alloc _ _ _ rfl); have g1 : w1.cell? ⟨w.heap.size, 1, none⟩ = some (.int .i64 C) := Blk.cell hgb 1; have g2 : w1.cell? ⟨w.heap.size, 2, none⟩ = some (.slice (some ad) m cp) := Blk.cell hgb 2; have hsz1 : w.heap.size + 1 ≤ w1.heap.size := (by have := hb1.size; rwa [World.size_alloc] at this); have hlt1 : w.heap.size < w1.heap.size := hsz1; have HB1 := Lib.hid hb1; clear ho1 hg1 hb1 hgb)
    | (refine ⟨trivial, ?_⟩; gi_at_call 13; refine (callsIn_wide.2 (chunk_any _ _ _ C hC1 _)).mono ?_; rintro e w' ⟨rfl, rfl⟩))
  have hO : OwnL w1 w.heap.size (.slice (some ⟨w.heap.size + 1, 0, none⟩) 0 R) [] := by
    have := HO1.out; rwa [World.size_alloc] at this
  have hbw : Below w.heap.size w w1 := ((Below.refl _ w).alloc (Nat.le_refl _) _).trans (HB1.out.mono (Nat.le_succ _))
  have hB0 : Below w.heap.size w (((w1.alloc (.cells #[.slice (some ⟨w.heap.size + 1, 0, none⟩) 0 R] 50)).alloc (.cells #[.slice (some ad) m cp] 22)).alloc (.cells #[.int .i64 C] 3)) :=
    ((hbw.alloc hbw.size _).alloc (by have := hbw.size; simp; omega) _).alloc (by have := hbw.size; simp; omega) _
  have c1 : Boxed (((w1.alloc (.cells #[.slice (some ⟨w.heap.size + 1, 0, none⟩) 0 R] 50)).alloc (.cells #[.slice (some ad) m cp] 22)).alloc (.cells #[.int .i64 C] 3)) w1.heap.size 50 (.slice (some ⟨w.heap.size + 1, 0, none⟩) 0 R) :=
    ((Boxed.new w1 _ _).alloc _).alloc _
  have c2 : Boxed (((w1.alloc (.cells #[.slice (some ⟨w.heap.size + 1, 0, none⟩) 0 R] 50)).alloc (.cells #[.slice (some ad) m cp] 22)).alloc (.cells #[.int .i64 C] 3)) (w1.heap.size + 1) 22 (.slice (some ad) m cp) :=
    Boxed.alloc (by have := Boxed.new (w1.alloc (.cells #[.slice (some ⟨w.heap.size + 1, 0, none⟩) 0 R] 50)) 22 (.slice (some ad) m cp); rwa [World.size_alloc] at this) _
  have c3 : Boxed (((w1.alloc (.cells #[.slice (some ⟨w.heap.size + 1, 0, none⟩) 0 R] 50)).alloc (.cells #[.slice (some ad) m cp] 22)).alloc (.cells #[.int .i64 C] 3)) (w1.heap.size + 1 + 1) 3 (.int .i64 C) := by
    have := Boxed.new ((w1.alloc (.cells #[.slice (some ⟨w.heap.size + 1, 0, none⟩) 0 R] 50)).alloc (.cells #[.slice (some ad) m cp] 22)) 3 (.int .i64 C); rwa [World.size_alloc, World.size_alloc] at this
  have hO0 : OwnL (((w1.alloc (.cells #[.slice (some ⟨w.heap.size + 1, 0, none⟩) 0 R] 50)).alloc (.cells #[.slice (some ad) m cp] 22)).alloc (.cells #[.int .i64 C] 3)) w.heap.size (.slice (some ⟨w.heap.size + 1, 0, none⟩) 0 R) [] :=
    hO.kept ((((Below.refl _ w1).alloc (Nat.le_refl _) _).alloc (by simp) _).alloc (by simp; omega) _)
  have hsz : (((w1.alloc (.cells #[.slice (some ⟨w.heap.size + 1, 0, none⟩) 0 R] 50)).alloc (.cells #[.slice (some ad) m cp] 22)).alloc (.cells #[.int .i64 C] 3)).heap.size = w1.heap.size + 3 := by simp
  have hle : w.heap.size ≤ w1.heap.size := hbw.size
  clear hO hbw g1 g2 HO1 HB1
  generalize (((w1.alloc (.cells #[.slice (some ⟨w.heap.size + 1, 0, none⟩) 0 R] 50)).alloc (.cells #[.slice (some ad) m cp] 22)).alloc (.cells #[.int .i64 C] 3)) = w0 at hB0 c1 c2 c3 hO0 hsz ⊢
  generalize w1.heap.size = b at c1 c2 c3 hsz hle ⊢
  have q2 := c2.cell
  have q3 := c3.cell
  rw [HM.out] at q2
  refine wpIn_rangeFunc_ownG rfl (by omega) (gf := 25) (lb := #[.pointer (some ⟨b + 1, 0, none⟩), .pointer (some ⟨b + 1 + 1, 0, none⟩)]) rfl trivial (enters_of Try.func25 (by kernel_rfl) rfl)
    (chunk_stops (6 - 1) (by omega) (b + 1) (b + 1 + 1) ad R C cp hR hC1 hC (by rw [← HM.out]; exact hcp) cv (fun i hi => (HCV.out i hi).1) w0 (by omega) (by omega) q2 q3) (fun h k => h.trans k) (two_b (by omega) (by omega)) (Below.refl _ _) (fun _ => rfl)
    (LI w w0 b R C m cp ad cv l)
    (fun _ _ _ => False)
    (OwnFrom.and ((holdsRow_own w.heap.size b 50 54 1 (fun pre : List (Lt R) => (keptOf cv l C (pre.map (·.1))).length) (fun pre => lvs (keptOf cv l C (pre.map (·.1)))) (fun _ _ => True)).from _)
      (OwnFrom.and ((boxed_own _ _ _).from _) (OwnFrom.and ((boxed_own _ _ _).from _) (OwnFrom.and (ownFrom_below (Nat.le_refl _) (by omega)) (ownFrom_size _ _)))))
    (fun _ _ _ _ _ hs _ _ => hs)
    ⟨⟨_, c1, hO0, trivial⟩, c2, c3, hB0, Nat.le_refl _⟩
    (fun y => { tmps := #[.agg #[.int .i64 R, .int .i64 C, .slice (some ad) m cp], .pointer (some ⟨w.heap.size, 0, none⟩), .slice none 0 0, .pointer (some ⟨b, 0, none⟩), cv y.1, .pointer (some ⟨w.heap.size, 0, none⟩), .int .i64 R, .slice (some ⟨w.heap.size + 1, 0, none⟩) 0 R,
      .pointer (some ⟨w.heap.size, 2, none⟩), .slice (some ad) m cp, .pointer (some ⟨w.heap.size, 1, none⟩), .int .i64 C,
      .func (.func 25) #[] #[.pointer (some ⟨b + 1, 0, none⟩), .pointer (some ⟨b + 1 + 1, 0, none⟩)], cv y.1, undef, undef, undef, undef, undef, undef], defers := [] }) ?assign ?body ?done ?stop
  case assign =>
    intro l x W K hK
    gi_wp2
    exact hK
  case body =>
    rintro l' pre ⟨i, hi'⟩ W ⟨⟨v, hv, hrow, _⟩, d1, d2, hB, hS0⟩ hlt
    have hc := hv.cell
    have hpl : (keptOf cv l C (pre.map (·.1))).length = pre.length := by rw [keptOf_length, List.length_map]
    have hsn : keptOf cv l C ((pre ++ [(⟨i, hi'⟩ : Lt R)]).map (·.1)) = keptOf cv l C (pre.map (·.1)) ++ [.kept (cv i) (rowAt l C i)] := by unfold keptOf; rw [List.map_append, List.map_append]; rfl
    gi_wp2_with (gi_at_builtin; refine wpListIn_append_own _ rfl _ _ 50 rfl w.heap.size 54 ii .nilIface 1 16 Try.underlying50 hi hz h1 h16 rfl (by decide) _ _ _ rfl (hrow.alloc _) ⟨W.heap.size, 0, none⟩ 1 1 [.iface 57 (cv i)] rfl rfl (cell_one_new _ _ _) (by simp [Value.oneCell']) (by simp only [maxLen]; omega) (by omega) (by have := hB.size; simp; omega) ?_; intro v' w1 hown' hgrow _; obtain ⟨g', cap', rfl⟩ := ownsRow_succ hown'; obtain ⟨hv1, hv2, hr2, hk2, hb2⟩ := hv.appended (by decide) hrow hB.size hle hown' hgrow; have hc1 := hv1.cell; have hf1 := hv1.frozen)
    have e1 := ((d1.alloc _).kept hgrow (d1.not_row (by decide) hrow)).other (show b + 1 ≠ b by omega) (.slice (some ⟨g', 0, none⟩) ((keptOf cv l C (pre.map (·.1))).length + 1) cap')
    have e2 := ((d2.alloc _).kept hgrow (d2.not_row (by decide) hrow)).other (show b + 1 + 1 ≠ b by omega) (.slice (some ⟨g', 0, none⟩) ((keptOf cv l C (pre.map (·.1))).length + 1) cap')
    refine ⟨hk2.from _, ⟨e1.trans d1.symm, e2.trans d2.symm⟩, ⟨⟨_, hv2, ?_, trivial⟩, e1, e2, hB.trans hb2, Nat.le_trans hS0 hk2.size⟩⟩
    rw [hsn, lvs_append, List.length_append]
    exact hr2
  case done =>
    rintro D ys W hD hS ⟨⟨v, hv, hrow, _⟩, d1, d2, hB, hS0⟩ hK
    have hc := hv.cell
    rw [show ys.map (·.1) = List.range R from hS] at hrow
    gi_wp2
    refine ⟨by simp, .inl ⟨_, _, rfl, run_takeDeferred hK, ?_⟩⟩
    refine ⟨_, results_tmp rfl _ _ _, ?_⟩
    exact hlast.out (W.putObj D (.deferred none)) (hB.trans (belowK_b (w := w) (Nat.le_refl _) W D _ _ (by omega) hK rfl rfl)) v (ownsRow_putObj hrow _ hK rfl)
  case stop =>
    rintro D c pre W _ _ h _
    exact h.elim
end Row
end Go.Proofs.Ythkfcfmnccfbnaa
