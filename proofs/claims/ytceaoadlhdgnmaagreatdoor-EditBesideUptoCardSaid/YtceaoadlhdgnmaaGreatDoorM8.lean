/- Joined texts: GrdCheck, GrdRoom, GrdLines, GrdUp, GrdRes. -/
import Derived.Test.YtceaoadlhdgnmaaGreatDoorM3
import Derived.Test.YtceaoadlhdgnmaaGreatDoorM7
import Derived.Maps.AppendAt
import Derived.RangeFuncBox
import Derived.Deep.RegionLaw
namespace Go.Proofs.YtceaoadlhdgnmaaGreatDoor
set_option maxRecDepth 100000
section
open Go.RowKit
namespace Row
attribute [local go_sem] Oper.semAt_some
theorem ownFrom_size {β : Type} (B n : Nat) : OwnFrom B (fun (_ : β) W => n ≤ W.heap.size) := fun _ _ _ _ hs hg _ => Nat.le_trans hs hg.size
theorem held_part {l : List Cl} (h : Held l) (C i : Nat) : Held (rowAt l C i) := by
  intro j hj
  unfold rowAt at hj ⊢
  rw [List.length_take, List.length_drop] at hj
  rw [g_take (by omega), g_drop]
  exact h _ (by omega)
set_option maxHeartbeats 1600000 in
theorem gridCheck_thin (r c : Int) (l : List Cl) (x : Value) (w : World) (hx : Rm w x l) (h : sidesOk r c = false) :
    Calls Tryz.prog 155 #[.agg #[.int .i64 r, .int .i64 c, x]] w fun e w' => e = .returned (.int .i64 1) ∧ Below w.heap.size w w' := by
  obtain ⟨_, A, cp, rfl, _⟩ := hx
  have H := Lib.hid h
  clear h
  go_enter Tryz.func155, Tryz.ntmps155
  go_wp2_with fail
  refine (sides_at _ _ _ H.out _).mono ?_; rintro e w' ⟨rfl, rfl⟩
  go_wp2_with fail
  go_returns
  exact ⟨rfl, by repeat (first | exact Below.refl _ _ | refine Below.alloc ?_ (Nat.le_refl _) _ | refine Below.alloc ?_ (by simp) _ | refine Below.setCell ?_ (by simp) _)⟩
set_option maxHeartbeats 1600000 in
theorem gridCheck_odd (R C : Nat) (l : List Cl) (x : Value) (w : World) (hx : Rm w x l) (h : sidesOk R C = true) (hR : R ≤ 40) (hC : C ≤ 40) (hl : l.length ≠ R * C) :
    Calls Tryz.prog 155 #[.agg #[.int .i64 R, .int .i64 C, x]] w fun e w' => e = .returned (.int .i64 1) ∧ Below w.heap.size w w' := by
  obtain ⟨_, A, cp, rfl, _⟩ := hx
  have H := Lib.hid h
  have hm : R * C ≤ 1600 := Nat.mul_le_mul hR hC
  obtain ⟨m, hmm⟩ : ∃ m, m = R * C := ⟨_, rfl⟩
  have hw : IntKind.i64.wrap ((R : Int) * (C : Int)) = (m : Int) := by rw [hmm, ← Int.natCast_mul, IntKind.wrap_i64]; omega
  rw [← hmm] at hm hl
  clear h hmm
  go_enter Tryz.func155, Tryz.ntmps155
  go_wp2_with fail
  refine (sides_at _ _ _ H.out _).mono ?_; rintro e w' ⟨rfl, rfl⟩
  go_wp2_with fail
  go_returns
  exact ⟨rfl, by repeat (first | exact Below.refl _ _ | refine Below.alloc ?_ (Nat.le_refl _) _ | refine Below.alloc ?_ (by simp) _ | refine Below.setCell ?_ (by simp) _)⟩
set_option maxHeartbeats 4000000 in
theorem gridCheck_even (R C : Nat) (l : List Cl) (x : Value) (w : World) (b : Bool) (hx : Rm w x l) (hs : Held l) (h : sidesOk R C = true) (hR1 : 1 ≤ R) (hR : R ≤ 40) (hC1 : 1 ≤ C) (hC : C ≤ 40) (hl : l.length = R * C)
    (hb : b = true ↔ ∀ i, i < R → RowOk (rowAt l C i)) :
    Calls Tryz.prog 155 #[.agg #[.int .i64 R, .int .i64 C, x]] w fun e w' => e = .returned (.int .i64 (bif b then 0 else 1)) ∧ Below w.heap.size w w' := by
  have hm : R * C ≤ 1600 := Nat.mul_le_mul hR hC
  have hm1 : 1 ≤ R * C := Nat.mul_pos hR1 hC1
  obtain ⟨_, A, cp, rfl, hcp⟩ := hx
  have hx : Rm w (.slice A l.length cp) l := ⟨by assumption, A, cp, rfl, hcp⟩
  have hA : ∃ ad, A = some ad := by
    obtain ⟨A', c', e, hf⟩ := hx.cs.form
    injection e with e1 e2 e3
    obtain ⟨ad, e, _⟩ := hf 0 (by omega)
    exact ⟨ad, by rw [e1, e]⟩
  obtain ⟨ad, rfl⟩ := hA
  obtain ⟨cv, hcv⟩ := chunks_some hx R C hl hC1
  rw [hl] at hx hcv hcp ⊢
  have HCV := Lib.hid hcv
  have HH : Hid (∀ i, i < R → Held (rowAt l C i) ∧ (rowAt l C i).length ≤ 1000000) := Lib.hid fun i hi => ⟨held_part hs C i, by unfold rowAt; rw [List.length_take]; omega⟩
  have H := Lib.hid h
  obtain ⟨m, hmm⟩ : ∃ m, m = R * C := ⟨_, rfl⟩
  have hw : IntKind.i64.wrap ((R : Int) * (C : Int)) = (m : Int) := by rw [hmm, ← Int.natCast_mul, IntKind.wrap_i64]; omega
  have HM := Lib.hid hmm
  have HB := Lib.hid hb
  have HX := Lib.hid hx
  rw [← hmm] at HX hcp hm ⊢
  clear h hs hb hcv hx hmm
  refine (callsIn_wide (n := 6)).1 ?_
  refine callsIn_of_wp_marks Tryz.func155 rfl trivial ?_ rfl
  simp only [Tryz.ntmps155, List.size_toArray, List.length_cons, List.length_nil, Nat.reduceAdd, Nat.reduceSub, Array.replicate_succ, Array.replicate_zero, List.push_toArray, List.append_toArray, List.nil_append, List.cons_append]
  gi_wp2_with (refine ⟨trivial, ?_⟩; first
    | (gi_at_call 149; refine (callsIn_wide.2 (sides_at _ _ _ H.out _)).mono ?_; rintro e w' ⟨rfl, rfl⟩)
    | (gi_at_call 182; refine (callsIn_wide.2 (chunk_any _ _ _ C hC1 _)).mono ?_; rintro e w' ⟨rfl, rfl⟩))
  have hb0 : Below w.heap.size w ((((w.alloc (.cells #[.int .i64 R, .int .i64 C, .slice (some ad) m cp] 29)).alloc (.cells #[.int .i64 0] 38)).alloc (.cells #[.slice (some ad) m cp] 27)).alloc (.cells #[.int .i64 C] 3)) := by
    repeat (first | exact Below.refl _ _ | refine Below.alloc ?_ (Nat.le_refl _) _ | refine Below.alloc ?_ (by first | (simp; done) | (simp; omega)) _)
  have c1 : ((((w.alloc (.cells #[.int .i64 R, .int .i64 C, .slice (some ad) m cp] 29)).alloc (.cells #[.int .i64 0] 38)).alloc (.cells #[.slice (some ad) m cp] 27)).alloc (.cells #[.int .i64 C] 3)).heap[w.heap.size + 1]? = some (.cells #[.int .i64 0] 38 (0, 0)) :=
    old_alloc (old_alloc (new_alloc _ _ _ (by simp)) _) _
  have c2 : ((((w.alloc (.cells #[.int .i64 R, .int .i64 C, .slice (some ad) m cp] 29)).alloc (.cells #[.int .i64 0] 38)).alloc (.cells #[.slice (some ad) m cp] 27)).alloc (.cells #[.int .i64 C] 3)).heap[w.heap.size + 1 + 1]? = some (.cells #[.slice (some ad) m cp] 27 (0, 0)) :=
    old_alloc (new_alloc _ _ _ (by simp)) _
  have c3 : ((((w.alloc (.cells #[.int .i64 R, .int .i64 C, .slice (some ad) m cp] 29)).alloc (.cells #[.int .i64 0] 38)).alloc (.cells #[.slice (some ad) m cp] 27)).alloc (.cells #[.int .i64 C] 3)).heap[w.heap.size + 1 + 1 + 1]? = some (.cells #[.int .i64 C] 3 (0, 0)) :=
    new_alloc _ _ _ (by simp)
  have hsz : ((((w.alloc (.cells #[.int .i64 R, .int .i64 C, .slice (some ad) m cp] 29)).alloc (.cells #[.int .i64 0] 38)).alloc (.cells #[.slice (some ad) m cp] 27)).alloc (.cells #[.int .i64 C] 3)).heap.size = w.heap.size + 4 := by simp
  generalize ((((w.alloc (.cells #[.int .i64 R, .int .i64 C, .slice (some ad) m cp] 29)).alloc (.cells #[.int .i64 0] 38)).alloc (.cells #[.slice (some ad) m cp] 27)).alloc (.cells #[.int .i64 C] 3)) = w0 at hb0 c1 c2 c3 hsz ⊢
  have q2 := Blk.cell c2 0
  have q3 := Blk.cell c3 0
  simp only [List.getElem?_toArray, List.getElem?_cons_zero] at q2 q3
  rw [HM.out] at q2
  refine wpIn_rangeFunc_ownG rfl (by omega) (gf := 205) (lb := #[.pointer (some ⟨w.heap.size + 1 + 1, 0, none⟩), .pointer (some ⟨w.heap.size + 1 + 1 + 1, 0, none⟩)]) rfl trivial (enters_of Tryz.func205 (by kernel_rfl) rfl)
    (chunk_stops (6 - 1) (by omega) (w.heap.size + 1 + 1) (w.heap.size + 1 + 1 + 1) ad R C cp hR hC1 hC (by rw [← HM.out]; exact hcp) cv (fun i hi => (HCV.out i hi).1) w0 (by omega) (by omega) q2 q3) (fun h k => h.trans k) (two_b (by omega) (by omega)) (Below.refl _ _) (fun _ => rfl)
    (fun pre W => (∀ y ∈ pre, RowOk (rowAt l C y.1)) ∧ (Boxed W (w.heap.size + 1) 38 (.int .i64 0) ∧ (Below w.heap.size w W ∧ w0.heap.size ≤ W.heap.size)))
    (fun c _ W => c = .ret ∧ (¬ (∀ i, i < R → RowOk (rowAt l C i))) ∧ (Boxed W (w.heap.size + 1) 38 (.int .i64 1) ∧ Below w.heap.size w W))
    (OwnFrom.and (ownFrom_pure _ _) (OwnFrom.and ((boxed_own _ _ _).from _) (OwnFrom.and (ownFrom_below (Nat.le_refl _) (by omega)) (ownFrom_size _ _))))
    (fun c => OwnFrom.and (ownFrom_pure _ _) (OwnFrom.and (ownFrom_pure _ _) (OwnFrom.and ((boxed_own _ _ _).from _) (ownFrom_below (Nat.le_refl _) (by omega)))))
    ⟨fun _ h => (by cases h), c1, hb0, Nat.le_refl _⟩
    (fun y => { tmps := #[.agg #[.int .i64 R, .int .i64 C, .slice (some ad) m cp], .pointer (some ⟨w.heap.size, 0, none⟩), .pointer (some ⟨w.heap.size + 1, 0, none⟩), cv y.1, undef, .pointer (some ⟨w.heap.size, 0, none⟩), .int .i64 R,
      .pointer (some ⟨w.heap.size, 1, none⟩), .int .i64 C, .bool true, .bool false, .bool false, .pointer (some ⟨w.heap.size, 2, none⟩), .slice (some ad) m cp, .int .i64 m, .pointer (some ⟨w.heap.size, 0, none⟩), .int .i64 R,
      .pointer (some ⟨w.heap.size, 1, none⟩), .int .i64 C, .int .i64 m, .bool false, .bool false, .pointer (some ⟨w.heap.size, 2, none⟩), .slice (some ad) m cp, .pointer (some ⟨w.heap.size, 1, none⟩), .int .i64 C,
      .func (.func 205) #[] #[.pointer (some ⟨w.heap.size + 1 + 1, 0, none⟩), .pointer (some ⟨w.heap.size + 1 + 1 + 1, 0, none⟩)], cv y.1, undef, undef, undef, undef, undef], defers := [] }) ?assign ?body ?done ?stop
  case assign =>
    intro l x W K hK
    gi_wp2
    exact hK
  case body =>
    rintro l' pre ⟨i, hi⟩ W ⟨hok, hbx, hB, hS0⟩ hlt
    have hcs := ((HCV.out i hi).2.kept hB).cs
    obtain ⟨hh, hll⟩ := HH.out i hi
    have hc := hbx.cell
    have hf := hbx.frozen
    by_cases hrow : RowOk (rowAt l C i)
    · gi_wp2_with (refine ⟨trivial, ?_⟩; gi_at_call 163; refine (CallsIn.inRound l' (callsIn_wide.2 (rowCheck_any (rowAt l C i) true (cv i) W hcs hh hll ⟨fun _ => hrow, fun _ => rfl⟩))).mono ?_; rintro e w1 ⟨rfl, hb1⟩)
      refine ⟨(others_below hb1).from _, Two.below hb1 (by omega) (by omega), fun y hy => ?_, (hb1.block _ hbx.lt).trans hbx, hB.trans (hb1.mono hB.size), Nat.le_trans hS0 hb1.size⟩
      rcases List.mem_append.1 hy with hy | hy
      · exact hok y hy
      · obtain rfl : y = ⟨i, hi⟩ := by simpa using hy
        exact hrow
    · gi_wp2_with (refine ⟨trivial, ?_⟩; gi_at_call 163; refine (CallsIn.inRound l' (callsIn_wide.2 (rowCheck_any (rowAt l C i) false (cv i) W hcs hh hll ⟨(fun h => by cases h), fun h => absurd h hrow⟩))).mono ?_; rintro e w1 ⟨rfl, hb1⟩; have hbx1 : Boxed w1 (w.heap.size + 1) 38 (.int .i64 0) := (hb1.block _ hbx.lt).trans hbx; have hc1 := hbx1.cell; have hf1 := hbx1.frozen)
      exact ⟨((others_below hb1).trans (KeepsOthers.setCell _ _ _)).from _, rfl, fun h => hrow (h i hi), hbx1.set _, (hB.trans (hb1.mono hB.size)).setCell (p := ⟨w.heap.size + 1, 0, none⟩) (Nat.le_succ _) _⟩
  case done =>
    rintro D ys W hD hS ⟨hok, hbx, hB, hS0⟩ hK
    have hbt : b = true := HB.out.2 fun i hi => by
      obtain ⟨y, hy, rfl⟩ := upto_mem hS hi
      exact hok y hy
    subst hbt
    have hc := hbx.cell
    have hf := hbx.frozen
    gi_wp2
    have hK' : (W.setCell ⟨w.heap.size + 1, 0, none⟩ (.int .i64 0)).heap[D]? = some (.deferred (some [])) := (KeepsOthers.setCell W ⟨w.heap.size + 1, 0, none⟩ (.int .i64 0)).same D _ hK rfl
    have hb2 := hbx.set (.int .i64 0)
    have hB2 : Below w.heap.size w (W.setCell ⟨w.heap.size + 1, 0, none⟩ (.int .i64 0)) := hB.setCell (p := ⟨w.heap.size + 1, 0, none⟩) (Nat.le_succ _) _
    generalize W.setCell ⟨w.heap.size + 1, 0, none⟩ (.int .i64 0) = W2 at hK' hb2 hB2 ⊢
    have hb3 : Boxed (W2.putObj D (.deferred none)) (w.heap.size + 1) 38 (.int .i64 0) := (World.putObj_heap_other (by omega)).trans hb2
    have hc3 := hb3.cell
    refine ⟨by simp, .inl ⟨_, _, rfl, run_takeDeferred hK', ?_⟩⟩
    exact ⟨_, by simp [results, Tryz.results155, go_sem, hc3]; try rfl, rfl, hB2.trans (belowK_b (w := w) (Nat.le_refl _) W2 D _ _ (by omega) hK' rfl rfl)⟩
  case stop =>
    rintro D c pre W hD _ ⟨rfl, hno, hbx, hB⟩ hK
    have hbf : b = false := by
      cases b
      · rfl
      · exact absurd (HB.out.1 rfl) hno
    subst hbf
    have hc := hbx.cell
    gi_wp2
    have hb3 : Boxed (W.putObj D (.deferred none)) (w.heap.size + 1) 38 (.int .i64 1) := (World.putObj_heap_other (by omega)).trans hbx
    have hc3 := hb3.cell
    refine ⟨by simp, .inl ⟨_, _, rfl, run_takeDeferred hK, ?_⟩⟩
    exact ⟨_, by simp [results, Tryz.results155, go_sem, hc3]; try rfl, rfl, hB.trans (belowK_b (w := w) (Nat.le_refl _) W D _ _ (by omega) hK rfl rfl)⟩
theorem gridCheck_any (G : Gr) (b : Bool) (x : Value) (w : World) (hx : Rm w x G.cells) (hs : Held G.cells) (hb : b = true ↔ GridOk G) :
    Calls Tryz.prog 155 #[.agg #[.int .i64 G.rows, .int .i64 G.cols, x]] w fun e w' => e = .returned (.int .i64 (bif b then 0 else 1)) ∧ Below w.heap.size w w' := by
  obtain ⟨r, c, l⟩ := G
  simp only at hx hs ⊢
  cases h : sidesOk r c with
  | false =>
    have hbf : b = false := by
      cases b
      · rfl
      · have := hb.1 rfl
        have := (sidesOk_iff r c).2 ⟨this.1, this.2.1⟩
        rw [h] at this; cases this
    subst hbf
    exact gridCheck_thin r c l x w hx h
  | true =>
    obtain ⟨⟨h1, h2⟩, h3, h4⟩ := (sidesOk_iff r c).1 h
    obtain ⟨R, rfl⟩ := Int.eq_ofNat_of_zero_le (show 0 ≤ r by omega)
    obtain ⟨C, rfl⟩ := Int.eq_ofNat_of_zero_le (show 0 ≤ c by omega)
    by_cases hl : l.length = R * C
    · refine gridCheck_even R C l x w b hx hs h (by omega) (by omega) (by omega) (by omega) hl ?_
      rw [hb]
      unfold GridOk
      simp only [Int.toNat_natCast]
      constructor
      · intro k i hi; exact k.2.2.2 i (by omega)
      · intro k; exact ⟨⟨h1, h2⟩, ⟨h3, h4⟩, by rw [hl, Int.natCast_mul], fun i hi => k i (by omega)⟩
    · have hbf : b = false := by
        cases b
        · rfl
        · have := (hb.1 rfl).2.2.1
          simp only [← Int.natCast_mul] at this
          exact absurd (by omega) hl
      subst hbf
      exact gridCheck_odd R C l x w hx h (by omega) (by omega) hl
end Row
end
section
open Go.RowKit
namespace Row
abbrev abox (a : Look) : Obj := .cells #[.int .i64 a.fg, .int .i64 a.bg, .int .i64 a.flags] 31 (0, 0)
structure Boxes (w w2 : World) (r c : Int) (x : Value) (a : Look) : Prop where
  g : w2.heap[w.heap.size]? = some (gbox r c x)
  a : w2.heap[w.heap.size + 1]? = some (abox a)
  below : Below w.heap.size w w2
theorem Boxes.new (w : World) (r c : Int) (x : Value) (a : Look) : Boxes w ((w.alloc (gbox r c x)).alloc (abox a)) r c x a :=
  ⟨old_alloc (new_alloc _ _ _ rfl) _, new_alloc _ _ _ (by simp), ((Below.refl _ _).alloc (Nat.le_refl _) _).alloc (by simp) _⟩
theorem Boxes.kept {w w2 w3 : World} {r c : Int} {x : Value} {a : Look} (h : Boxes w w2 r c x a) (hb : Below w2.heap.size w2 w3) : Boxes w w3 r c x a :=
  ⟨Blk.kept h.g hb, Blk.kept h.a hb, h.below.trans (hb.mono h.below.size)⟩
theorem Boxes.alloc {w w2 : World} {r c : Int} {x : Value} {a : Look} (h : Boxes w w2 r c x a) (o : Obj) : Boxes w (w2.alloc o) r c x a := h.kept ((Below.refl _ _).alloc (Nat.le_refl _) _)
theorem Boxes.cells {w w2 : World} {r c : Int} {x : Value} {a : Look} (h : Boxes w w2 r c x a) :
    w2.cell? ⟨w.heap.size, 0, none⟩ = some (.int .i64 r) ∧ w2.cell? ⟨w.heap.size, 1, none⟩ = some (.int .i64 c) ∧ w2.cell? ⟨w.heap.size, 2, none⟩ = some x ∧
    w2.cell? ⟨w.heap.size + 1, 0, none⟩ = some (.int .i64 a.fg) ∧ w2.cell? ⟨w.heap.size + 1, 1, none⟩ = some (.int .i64 a.bg) ∧ w2.cell? ⟨w.heap.size + 1, 2, none⟩ = some (.int .i64 a.flags) :=
  ⟨Blk.cell h.g 0, Blk.cell h.g 1, Blk.cell h.g 2, Blk.cell h.a 0, Blk.cell h.a 1, Blk.cell h.a 2⟩
set_option maxHeartbeats 1600000 in
theorem room_fits (r c : Int) (l : List Cl) (a : Look) (top bot n : Int) (x : Value) (w : World) (hx : Rm w x l) (hs : Held l) (hg : GridOk ⟨r, c, l⟩) (ha : attrOk a = true) (ht : 0 ≤ top ∧ top ≤ bot) (hb : bot < r) (hn : 0 ≤ n ∧ n ≤ 9999) :
    Calls Tryz.prog 188 #[.agg #[.int .i64 r, .int .i64 c, x], .int .i64 top, .int .i64 bot, .int .i64 n, .agg #[.int .i64 a.fg, .int .i64 a.bg, .int .i64 a.flags]] w fun e w' => e = .returned (.tuple #[.int .i64 (min n (bot + 1 - top)), .int .i64 0]) ∧ Below w.heap.size w w' := by
  have HBX := Lib.hid (Boxes.new w r c x a)
  have HCK := Lib.hid (gridCheck_any ⟨r, c, l⟩ true x _ (hx.kept (((Below.refl _ w).alloc (Nat.le_refl _) (gbox r c x)).alloc (by simp) (abox a))) hs ⟨fun _ => hg, fun _ => rfl⟩)
  have HPT := Lib.hid (fun w' => paints_at a true ha w')
  have HR1 : Hid (rng top 0 bot = true) := Lib.hid (rngY ht)
  have hd : decide (r ≤ bot) = false := decide_eq_false (by omega)
  have HR2 : Hid (rng n 0 9999 = true) := Lib.hid (rngY hn)
  have hr40 := hg.1.2
  simp only at hr40
  have w1 : IntKind.i64.wrap (bot + 1) = bot + 1 := by rw [IntKind.wrap_i64]; omega
  have w2 : IntKind.i64.wrap (bot + 1 - top) = bot + 1 - top := by rw [IntKind.wrap_i64]; omega
  obtain ⟨_, A, cp, rfl, _⟩ := hx
  clear hs hg ha
  go_enter Tryz.func188, Tryz.ntmps188
  go_wp2_with fail
  refine HCK.out.mono ?_; rintro e w2 ⟨rfl, hb2⟩
  have HX2 := Lib.hid (HBX.out.kept hb2)
  clear hb2 HCK HBX
  obtain ⟨c0, c1, c2, k0, k1, k2⟩ := HX2.out.cells
  go_wp2_with fail
  refine (HPT.out _).mono ?_; rintro e w3 ⟨rfl, hb3⟩
  have HX3 := Lib.hid (HX2.out.kept hb3)
  clear hb3 c0 c1 c2 k0 k1 k2
  obtain ⟨c0, c1, c2, k0, k1, k2⟩ := HX3.out.cells
  go_wp2_with fail
  refine (gridIn_at top _ _ _ HR1.out _).mono ?_; rintro e w' ⟨rfl, rfl⟩
  go_wp2_with fail
  refine (gridIn_at n _ _ _ HR2.out _).mono ?_; rintro e w' ⟨rfl, rfl⟩
  go_wp2_with fail
  go_ret2
  exact ⟨rfl, HX3.out.below⟩
end Row
end
section
open Go.RowKit
namespace Row
attribute [local go_sem] Oper.semAt_some
def keptOf (cv : Nat → Value) (l : List Cl) (C : Nat) (is : List Nat) : List Ln := is.map fun i => Ln.kept (cv i) (rowAt l C i)
theorem keptOf_length (cv : Nat → Value) (l : List Cl) (C : Nat) (is : List Nat) : (keptOf cv l C is).length = is.length := List.length_map _
def LI (w w0 : World) (b R C m cp : Nat) (ad : Addr) (cv : Nat → Value) (l : List Cl) (pre : List (Lt R)) (W : World) : Prop :=
  (∃ v, Boxed W b 167 v ∧ W.ownsRow w.heap.size 207 1 v (keptOf cv l C (pre.map (·.1))).length (lvs (keptOf cv l C (pre.map (·.1)))) ∧ True) ∧
    (Boxed W (b + 1) 27 (.slice (some ad) m cp) ∧ (Boxed W (b + 1 + 1) 3 (.int .i64 C) ∧ (Below w.heap.size w W ∧ w0.heap.size ≤ W.heap.size)))
set_option maxHeartbeats 4000000 in
theorem lines_any (R C : Nat) (l : List Cl) (x : Value) (w : World) (hx : Rm w x l) (hR1 : 1 ≤ R) (hR : R ≤ 40) (hC1 : 1 ≤ C) (hC : C ≤ 40) (hl : l.length = R * C) :
    Calls Tryz.prog 189 #[.agg #[.int .i64 R, .int .i64 C, x]] w fun e w' => ∃ v cv, e = .returned v ∧ OwnL w' w.heap.size v (keptOf cv l C (List.range R)) ∧ (∀ i, i < R → Rm w (cv i) (rowAt l C i)) ∧ Below w.heap.size w w' := by
  obtain ⟨ii, hi, hz, h1, h16⟩ := line_row
  have hm : R * C ≤ 1600 := Nat.mul_le_mul hR hC
  have hm1 : 1 ≤ R * C := Nat.mul_pos hR1 hC1
  obtain ⟨_, A, cp, rfl, hcp⟩ := hx
  have hx : Rm w (.slice A l.length cp) l := ⟨by assumption, A, cp, rfl, hcp⟩
  have hA : ∃ ad, A = some ad := by
    obtain ⟨A', c', e, hf⟩ := hx.cs.form
    injection e with e1 e2 e3
    obtain ⟨ad, e, _⟩ := hf 0 (by omega)
    exact ⟨ad, by rw [e1, e]⟩
  obtain ⟨ad, rfl⟩ := hA
  obtain ⟨cv, hcv⟩ := chunks_some hx R C hl hC1
  rw [hl] at hx hcv hcp ⊢
  have HCV := Lib.hid hcv
  obtain ⟨m, hmm⟩ : ∃ m, m = R * C := ⟨_, rfl⟩
  have HM := Lib.hid hmm
  rw [← hmm] at hcp hm ⊢
  have hlast := Lib.hid (show ∀ w', Below w.heap.size w w' → ∀ v, OwnL w' w.heap.size v (keptOf cv l C (List.range R)) → ∃ v' cv', Ending.returned v = .returned v' ∧ OwnL w' w.heap.size v' (keptOf cv' l C (List.range R)) ∧ (∀ i, i < R → Rm w (cv' i) (rowAt l C i)) ∧ Below w.heap.size w w' from fun w' hb v ho => ⟨v, cv, rfl, ho, fun i hi => (hcv i hi).2, hb⟩)
  clear hcv hx hmm
  refine (callsIn_wide (n := 6)).1 ?_
  refine callsIn_of_wp_marks Tryz.func189 rfl trivial ?_ rfl
  simp only [Tryz.ntmps189, List.size_toArray, List.length_cons, List.length_nil, Nat.reduceAdd, Nat.reduceSub, Array.replicate_succ, Array.replicate_zero, List.push_toArray, List.append_toArray, List.nil_append, List.cons_append]
  gi_wp2_with (first
    | (gi_at_make; refine wpListIn_make_own _ rfl _ _ _ rfl w.heap.size 207 ii _ 1 Tryz.underlying167 hi hz h1 .i64 .i64 (R : Int) R rfl rfl rfl (by rw [h16]; omega) (by simp only [maxLen]; omega) (by simp) ?_; intro w1 ho1 hg1; have HO1 := Lib.hid ho1; have hb1 : Below (w.heap.size + 1) (w.alloc (gbox R C (.slice (some ad) m cp))) w1 := (Below.refl (w.heap.size + 1) _).grown hg1 (by simp) (fun k hk => by cases hk); have hgb : w1.heap[w.heap.size]? = some (gbox R C (.slice (some ad) m cp)) := (hb1.block w.heap.size (by omega)).trans (new_alloc _ _ _ rfl); have g1 : w1.cell? ⟨w.heap.size, 1, none⟩ = some (.int .i64 C) := Blk.cell hgb 1; have g2 : w1.cell? ⟨w.heap.size, 2, none⟩ = some (.slice (some ad) m cp) := Blk.cell hgb 2; have hsz1 : w.heap.size + 1 ≤ w1.heap.size := (by have := hb1.size; rwa [World.size_alloc] at this); have hlt1 : w.heap.size < w1.heap.size := hsz1; have HB1 := Lib.hid hb1; clear ho1 hg1 hb1 hgb)
    | (refine ⟨trivial, ?_⟩; gi_at_call 182; refine (callsIn_wide.2 (chunk_any _ _ _ C hC1 _)).mono ?_; rintro e w' ⟨rfl, rfl⟩))
  have hO : OwnL w1 w.heap.size (.slice (some ⟨w.heap.size + 1, 0, none⟩) 0 R) [] := by
    have := HO1.out; rwa [World.size_alloc] at this
  have hbw : Below w.heap.size w w1 := ((Below.refl _ w).alloc (Nat.le_refl _) _).trans (HB1.out.mono (Nat.le_succ _))
  have hB0 : Below w.heap.size w (((w1.alloc (.cells #[.slice (some ⟨w.heap.size + 1, 0, none⟩) 0 R] 167)).alloc (.cells #[.slice (some ad) m cp] 27)).alloc (.cells #[.int .i64 C] 3)) :=
    ((hbw.alloc hbw.size _).alloc (by have := hbw.size; simp; omega) _).alloc (by have := hbw.size; simp; omega) _
  have c1 : Boxed (((w1.alloc (.cells #[.slice (some ⟨w.heap.size + 1, 0, none⟩) 0 R] 167)).alloc (.cells #[.slice (some ad) m cp] 27)).alloc (.cells #[.int .i64 C] 3)) w1.heap.size 167 (.slice (some ⟨w.heap.size + 1, 0, none⟩) 0 R) :=
    ((Boxed.new w1 _ _).alloc _).alloc _
  have c2 : Boxed (((w1.alloc (.cells #[.slice (some ⟨w.heap.size + 1, 0, none⟩) 0 R] 167)).alloc (.cells #[.slice (some ad) m cp] 27)).alloc (.cells #[.int .i64 C] 3)) (w1.heap.size + 1) 27 (.slice (some ad) m cp) :=
    Boxed.alloc (by have := Boxed.new (w1.alloc (.cells #[.slice (some ⟨w.heap.size + 1, 0, none⟩) 0 R] 167)) 27 (.slice (some ad) m cp); rwa [World.size_alloc] at this) _
  have c3 : Boxed (((w1.alloc (.cells #[.slice (some ⟨w.heap.size + 1, 0, none⟩) 0 R] 167)).alloc (.cells #[.slice (some ad) m cp] 27)).alloc (.cells #[.int .i64 C] 3)) (w1.heap.size + 1 + 1) 3 (.int .i64 C) := by
    have := Boxed.new ((w1.alloc (.cells #[.slice (some ⟨w.heap.size + 1, 0, none⟩) 0 R] 167)).alloc (.cells #[.slice (some ad) m cp] 27)) 3 (.int .i64 C); rwa [World.size_alloc, World.size_alloc] at this
  have hO0 : OwnL (((w1.alloc (.cells #[.slice (some ⟨w.heap.size + 1, 0, none⟩) 0 R] 167)).alloc (.cells #[.slice (some ad) m cp] 27)).alloc (.cells #[.int .i64 C] 3)) w.heap.size (.slice (some ⟨w.heap.size + 1, 0, none⟩) 0 R) [] :=
    hO.kept ((((Below.refl _ w1).alloc (Nat.le_refl _) _).alloc (by simp) _).alloc (by simp; omega) _)
  have hsz : (((w1.alloc (.cells #[.slice (some ⟨w.heap.size + 1, 0, none⟩) 0 R] 167)).alloc (.cells #[.slice (some ad) m cp] 27)).alloc (.cells #[.int .i64 C] 3)).heap.size = w1.heap.size + 3 := by simp
  have hle : w.heap.size ≤ w1.heap.size := hbw.size
  clear hO hbw g1 g2 HO1 HB1
  generalize (((w1.alloc (.cells #[.slice (some ⟨w.heap.size + 1, 0, none⟩) 0 R] 167)).alloc (.cells #[.slice (some ad) m cp] 27)).alloc (.cells #[.int .i64 C] 3)) = w0 at hB0 c1 c2 c3 hO0 hsz ⊢
  generalize w1.heap.size = b at c1 c2 c3 hsz hle ⊢
  have q2 := c2.cell
  have q3 := c3.cell
  rw [HM.out] at q2
  refine wpIn_rangeFunc_ownG rfl (by omega) (gf := 205) (lb := #[.pointer (some ⟨b + 1, 0, none⟩), .pointer (some ⟨b + 1 + 1, 0, none⟩)]) rfl trivial (enters_of Tryz.func205 (by kernel_rfl) rfl)
    (chunk_stops (6 - 1) (by omega) (b + 1) (b + 1 + 1) ad R C cp hR hC1 hC (by rw [← HM.out]; exact hcp) cv (fun i hi => (HCV.out i hi).1) w0 (by omega) (by omega) q2 q3) (fun h k => h.trans k) (two_b (by omega) (by omega)) (Below.refl _ _) (fun _ => rfl)
    (LI w w0 b R C m cp ad cv l)
    (fun _ _ _ => False)
    (OwnFrom.and ((holdsRow_own w.heap.size b 167 207 1 (fun pre : List (Lt R) => (keptOf cv l C (pre.map (·.1))).length) (fun pre => lvs (keptOf cv l C (pre.map (·.1)))) (fun _ _ => True)).from _)
      (OwnFrom.and ((boxed_own _ _ _).from _) (OwnFrom.and ((boxed_own _ _ _).from _) (OwnFrom.and (ownFrom_below (Nat.le_refl _) (by omega)) (ownFrom_size _ _)))))
    (fun _ _ _ _ _ hs _ _ => hs)
    ⟨⟨_, c1, hO0, trivial⟩, c2, c3, hB0, Nat.le_refl _⟩
    (fun y => { tmps := #[.agg #[.int .i64 R, .int .i64 C, .slice (some ad) m cp], .pointer (some ⟨w.heap.size, 0, none⟩), .slice none 0 0, .pointer (some ⟨b, 0, none⟩), cv y.1, .pointer (some ⟨w.heap.size, 0, none⟩), .int .i64 R, .slice (some ⟨w.heap.size + 1, 0, none⟩) 0 R,
      .pointer (some ⟨w.heap.size, 2, none⟩), .slice (some ad) m cp, .pointer (some ⟨w.heap.size, 1, none⟩), .int .i64 C,
      .func (.func 205) #[] #[.pointer (some ⟨b + 1, 0, none⟩), .pointer (some ⟨b + 1 + 1, 0, none⟩)], cv y.1, undef, undef, undef, undef, undef, undef], defers := [] }) ?assign ?body ?done ?stop
  case assign =>
    intro l x W K hK
    gi_wp2
    exact hK
  case body =>
    rintro l' pre ⟨i, hi'⟩ W ⟨⟨v, hv, hrow, _⟩, d1, d2, hB, hS0⟩ hlt
    have hc := hv.cell
    have hpl : (keptOf cv l C (pre.map (·.1))).length = pre.length := by rw [keptOf_length, List.length_map]
    have hsn : keptOf cv l C ((pre ++ [(⟨i, hi'⟩ : Lt R)]).map (·.1)) = keptOf cv l C (pre.map (·.1)) ++ [.kept (cv i) (rowAt l C i)] := by unfold keptOf; rw [List.map_append, List.map_append]; rfl
    gi_wp2_with (gi_at_builtin; refine wpListIn_append_own _ rfl _ _ 167 rfl w.heap.size 207 ii .nilIface 1 16 Tryz.underlying167 hi hz h1 h16 rfl (by decide) _ _ _ rfl (hrow.alloc _) ⟨W.heap.size, 0, none⟩ 1 1 [.iface 234 (cv i)] rfl rfl (cell_one_new _ _ _) (by simp [Value.oneCell']) (by simp only [maxLen]; omega) (by omega) (by have := hB.size; simp; omega) ?_; intro v' w1 hown' hgrow _; obtain ⟨g', cap', rfl⟩ := ownsRow_succ hown'; obtain ⟨hv1, hv2, hr2, hk2, hb2⟩ := hv.appended (by decide) hrow hB.size hle hown' hgrow; have hc1 := hv1.cell; have hf1 := hv1.frozen)
    have e1 := ((d1.alloc _).kept hgrow (d1.not_row (by decide) hrow)).other (show b + 1 ≠ b by omega) (.slice (some ⟨g', 0, none⟩) ((keptOf cv l C (pre.map (·.1))).length + 1) cap')
    have e2 := ((d2.alloc _).kept hgrow (d2.not_row (by decide) hrow)).other (show b + 1 + 1 ≠ b by omega) (.slice (some ⟨g', 0, none⟩) ((keptOf cv l C (pre.map (·.1))).length + 1) cap')
    refine ⟨hk2.from _, ⟨e1.trans d1.symm, e2.trans d2.symm⟩, ⟨⟨_, hv2, ?_, trivial⟩, e1, e2, hB.trans hb2, Nat.le_trans hS0 hk2.size⟩⟩
    rw [hsn, lvs_append, List.length_append]
    exact hr2
  case done =>
    rintro D ys W hD hS ⟨⟨v, hv, hrow, _⟩, d1, d2, hB, hS0⟩ hK
    have hc := hv.cell
    rw [show ys.map (·.1) = List.range R from hS] at hrow
    gi_wp2
    refine ⟨by simp, .inl ⟨_, _, rfl, run_takeDeferred hK, ?_⟩⟩
    refine ⟨_, results_tmp rfl _ _ _, ?_⟩
    exact hlast.out (W.putObj D (.deferred none)) (hB.trans (belowK_b (w := w) (Nat.le_refl _) W D _ _ (by omega) hK rfl rfl)) v (ownsRow_putObj hrow _ hK rfl)
  case stop =>
    rintro D c pre W _ _ h _
    exact h.elim
end Row
end
section
open Go.RowKit
namespace Row
structure Boxes3 (w w2 : World) (r c : Int) (x : Value) (a : Look) : Prop where
  two : Boxes w w2 r c x a
  z : w2.heap[w.heap.size + 2]? = some (gbox 0 0 (.slice none 0 0))
theorem Boxes3.new (w : World) (r c : Int) (x : Value) (a : Look) : Boxes3 w (((w.alloc (gbox r c x)).alloc (abox a)).alloc (gbox 0 0 (.slice none 0 0))) r c x a :=
  ⟨(Boxes.new w r c x a).alloc _, new_alloc _ _ _ (by simp)⟩
theorem Boxes3.kept {w w2 w3 : World} {r c : Int} {x : Value} {a : Look} (h : Boxes3 w w2 r c x a) (hb : Below w2.heap.size w2 w3) : Boxes3 w w3 r c x a := ⟨h.two.kept hb, Blk.kept h.z hb⟩
theorem Boxes3.drew {w w2 : World} {r c : Int} {x : Value} {a : Look} (h : Boxes3 w w2 r c x a) : Boxes3 w w2.drew r c x a := h.kept (Below.refl _ _).drew
theorem Boxes3.alloc {w w2 : World} {r c : Int} {x : Value} {a : Look} (h : Boxes3 w w2 r c x a) (o : Obj) : Boxes3 w (w2.alloc o) r c x a := h.kept ((Below.refl _ _).alloc (Nat.le_refl _) _)
theorem Boxes3.size {w w2 : World} {r c : Int} {x : Value} {a : Look} (h : Boxes3 w w2 r c x a) : w.heap.size + 3 ≤ w2.heap.size := Blk.lt h.z
theorem Boxes3.base : ∀ {w w2 : World} {r c : Int} {x : Value} {a : Look}, Boxes3 w w2 r c x a → w.heap.size ≤ w2.heap.size := fun h => h.two.below.size
theorem Sv.part_upto {w : World} {v : Value} {l : List Ln} (h : Sv w v l) (k : Nat) (hk : k ≤ l.length) :
    ∃ A' c', (∀ w' : World, (Instr.slice 167 v none (some (.int .i64 k)) none).run Tryz.prog w' = .ok (.slice A' k c') w') ∧ Sv w (.slice A' k c') (l.take k) := by
  obtain ⟨_, A, c, rfl, hc⟩ := h
  have h : Sv w (.slice A l.length c) l := ⟨by assumption, _, _, rfl, hc⟩
  exact ⟨A, c, h.run_upto k hk, h.upto k hk⟩
theorem Sv.part_from {w : World} {v : Value} {l : List Ln} (h : Sv w v l) (k : Nat) (hk : k ≤ l.length) :
    ∃ A' c', (∀ w' : World, (Instr.slice 167 v (some (.int .i64 k)) none none).run Tryz.prog w' = .ok (.slice A' (l.length - k) c') w') ∧ Sv w (.slice A' (l.length - k) c') (l.drop k) := by
  obtain ⟨_, A, c, rfl, hc⟩ := h
  have h : Sv w (.slice A l.length c) l := ⟨by assumption, _, _, rfl, hc⟩
  exact ⟨_, _, h.run_from k hk, h.from k hk⟩
theorem Sv.part_mid {w : World} {v : Value} {l : List Ln} (h : Sv w v l) (lo hi : Nat) (h1 : lo ≤ hi) (h2 : hi ≤ l.length) :
    ∃ A' c', (∀ w' : World, (Instr.slice 167 v (some (.int .i64 lo)) (some (.int .i64 hi)) none).run Tryz.prog w' = .ok (.slice A' (hi - lo) c') w') ∧ Sv w (.slice A' (hi - lo) c') ((l.drop lo).take (hi - lo)) := by
  obtain ⟨_, A, c, rfl, hc⟩ := h
  have h : Sv w (.slice A l.length c) l := ⟨by assumption, _, _, rfl, hc⟩
  exact ⟨_, _, h.run_mid lo hi h1 h2, h.mid lo hi h1 h2⟩
theorem four_of {w : World} {a b c d : Value} {p q r s : List Ln} (h1 : Sv w a p) (h2 : Sv w b q) (h3 : Sv w c r) (h4 : Sv w d s) : ∀ k, k < [p, q, r, s].length → Sv w ([a, b, c, d].getD k undef) ([p, q, r, s].getD k []) := by
  intro k hk
  have hk : k < 4 := hk
  rcases (by omega : k = 0 ∨ k = 1 ∨ k = 2 ∨ k = 3) with rfl | rfl | rfl | rfl
  · exact h1
  · exact h2
  · exact h3
  · exact h4
theorem rows_kept {R C : Nat} {rs : List (List Cl)} (h : Rws R C rs) (cv : Nat → Value) : rowsOfL C (keptOf cv rs.flatten C (List.range R)) = rs := by
  refine rows_ext (by unfold rowsOfL; rw [List.length_map, keptOf_length, List.length_range, h.len]) fun i hi => ?_
  unfold rowsOfL at hi ⊢
  rw [List.length_map, keptOf_length, List.length_range] at hi
  rw [← rowAt_flat h.even (by rw [h.len]; exact hi)]
  unfold rowOf keptOf
  simp [hi, lrow]
theorem kept_ok {w : World} {R C : Nat} {rs : List (List Cl)} (h : Rws R C rs) {cv : Nat → Value} (hcv : ∀ i, i < R → Rm w (cv i) (rowAt rs.flatten C i)) : LnsOk w C (keptOf cv rs.flatten C (List.range R)) := by
  intro x hx
  obtain ⟨i, hi, rfl⟩ := List.mem_map.1 hx
  have hi := List.mem_range.1 hi
  exact ⟨hcv i hi, by rw [rowAt_flat h.even (by rw [h.len]; exact hi)]; exact h.rlen hi⟩
def upLns (l : List Ln) (top bot m : Nat) (a : Look) : List Ln := [l.take top, (l.drop (top + m)).take (bot + 1 - (top + m)), List.replicate m (.empty a), l.drop (bot + 1)].flatten
def downLns (l : List Ln) (top bot m : Nat) (a : Look) : List Ln := [l.take top, List.replicate m (.empty a), (l.drop top).take (bot + 1 - m - top), l.drop (bot + 1)].flatten
theorem rowsOfL_append (c : Nat) (a b : List Ln) : rowsOfL c (a ++ b) = rowsOfL c a ++ rowsOfL c b := List.map_append
theorem rowsOfL_take (c k : Nat) (a : List Ln) : rowsOfL c (a.take k) = (rowsOfL c a).take k := List.map_take
theorem rowsOfL_drop (c k : Nat) (a : List Ln) : rowsOfL c (a.drop k) = (rowsOfL c a).drop k := List.map_drop
theorem rowsOfL_rep (c k : Nat) (a : Look) : rowsOfL c (List.replicate k (.empty a)) = List.replicate k (blankRow c a) := by unfold rowsOfL; rw [List.map_replicate]; rfl
theorem up_lns (l : List Ln) (top bot m c : Nat) (a : Look) : rowsOfL c (upLns l top bot m a) = upRows (rowsOfL c l) top bot m c a := by
  unfold upLns upRows
  simp only [List.flatten_cons, List.flatten_nil, List.append_nil, rowsOfL_append, rowsOfL_take, rowsOfL_drop, rowsOfL_rep]
theorem down_lns (l : List Ln) (top bot m c : Nat) (a : Look) : rowsOfL c (downLns l top bot m a) = downRows (rowsOfL c l) top bot m c a := by
  unfold downLns downRows
  simp only [List.flatten_cons, List.flatten_nil, List.append_nil, rowsOfL_append, rowsOfL_take, rowsOfL_drop, rowsOfL_rep]
theorem up_ok {w : World} {c : Nat} {l : List Ln} (h : LnsOk w c l) (top bot m : Nat) {a : Look} (ha : attrOk a = true) : LnsOk w c (upLns l top bot m a) := by
  intro x hx
  simp only [upLns, List.flatten_cons, List.flatten_nil, List.append_nil, List.mem_append] at hx
  rcases hx with hx | hx | hx | hx
  · exact h x (List.mem_of_mem_take hx)
  · exact h x (List.mem_of_mem_drop (List.mem_of_mem_take hx))
  · rw [(List.mem_replicate.1 hx).2]; exact ha
  · exact h x (List.mem_of_mem_drop hx)
theorem down_ok {w : World} {c : Nat} {l : List Ln} (h : LnsOk w c l) (top bot m : Nat) {a : Look} (ha : attrOk a = true) : LnsOk w c (downLns l top bot m a) := by
  intro x hx
  simp only [downLns, List.flatten_cons, List.flatten_nil, List.append_nil, List.mem_append] at hx
  rcases hx with hx | hx | hx | hx
  · exact h x (List.mem_of_mem_take hx)
  · rw [(List.mem_replicate.1 hx).2]; exact ha
  · exact h x (List.mem_of_mem_drop (List.mem_of_mem_take hx))
  · exact h x (List.mem_of_mem_drop hx)
theorem up_len {l : List Ln} {top bot m : Nat} (a : Look) (h1 : top + m ≤ bot + 1) (h2 : bot + 1 ≤ l.length) : (upLns l top bot m a).length = l.length := by
  simp only [upLns, List.flatten_cons, List.flatten_nil, List.append_nil, List.length_append, List.length_take, List.length_drop, List.length_replicate]; omega
theorem down_len {l : List Ln} {top bot m : Nat} (a : Look) (h1 : top + m ≤ bot + 1) (h2 : bot + 1 ≤ l.length) : (downLns l top bot m a).length = l.length := by
  simp only [downLns, List.flatten_cons, List.flatten_nil, List.append_nil, List.length_append, List.length_take, List.length_drop, List.length_replicate]; omega
set_option maxHeartbeats 4000000 in
theorem up_fits (R C : Nat) (rs : List (List Cl)) (a : Look) (top bot n : Nat) (x : Value) (w : World) (h : Rws R C rs) (hx : Rm w x rs.flatten) (hs : Held rs.flatten) (ha : attrOk a = true) (ht : top ≤ bot) (hb : bot < R) (hn : n ≤ 9999) :
    Calls Tryz.prog 167 #[.agg #[.int .i64 R, .int .i64 C, x], .int .i64 top, .int .i64 bot, .int .i64 n, .agg #[.int .i64 a.fg, .int .i64 a.bg, .int .i64 a.flags]] w fun e w' =>
      ∃ v, e = .returned (.tuple #[.agg #[.int .i64 R, .int .i64 C, v], .int .i64 0]) ∧ OwnCs w' w.heap.size v (moved rs top bot n C a).flatten ∧ Below w.heap.size w w' := by
  have hlen := h.len
  have hR40 := h.r40
  have hC1 := h.c1
  have hC40 := h.c40
  have hfl : rs.flatten.length = R * C := by rw [even_length h.even, hlen]
  obtain ⟨m, hm⟩ : ∃ m, m = min n (bot + 1 - top) := ⟨_, rfl⟩
  have hmi : min (n : Int) ((bot : Int) + 1 - (top : Int)) = (m : Int) := by omega
  have HBX := Lib.hid (Boxes3.new w R C x a)
  have HRM := Lib.hid (fun w' (k : Rm w' x rs.flatten) => room_fits R C rs.flatten a top bot n x w' k hs h.grid ha ⟨by omega, by omega⟩ (by omega) ⟨by omega, by omega⟩)
  rw [hmi] at HRM
  have HLI := Lib.hid (fun w' (k : Rm w' x rs.flatten) => lines_any R C rs.flatten x w' k h.r1 hR40 hC1 hC40 hfl)
  have HEM := Lib.hid (fun w' => empties_any m a w' (by omega))
  have HFIN : Hid (∀ (w' : World) (lns : List Ln), rowsOfL C lns = rs → (rowsOfL C (upLns lns top bot m a)).flatten = (moved rs top bot n C a).flatten) := Lib.hid fun _ lns e => by rw [up_lns, e, up_rows ht (by omega) hm]
  have HKE := Lib.hid (fun (w' : World) (cv : Nat → Value) (k : ∀ i, i < R → Rm w' (cv i) (rowAt rs.flatten C i)) => And.intro (kept_ok h k) (rows_kept h cv))
  clear hs h hfl
  obtain ⟨l, HL⟩ : ∃ l, Hid (rs.flatten = l) := ⟨_, Lib.hid rfl⟩
  rw [HL.out] at hx HRM HLI HKE
  have HX := Lib.hid hx
  obtain ⟨en, hen⟩ : ∃ q, q = bot + 1 := ⟨_, rfl⟩
  obtain ⟨lo, hlo⟩ : ∃ q, q = top + m := ⟨_, rfl⟩
  have hw1 : IntKind.i64.wrap ((bot : Int) + 1) = (en : Int) := by rw [IntKind.wrap_i64]; omega
  have hw2 : IntKind.i64.wrap ((top : Int) + (m : Int)) = (lo : Int) := by rw [IntKind.wrap_i64]; omega
  have HUP : Hid (∀ lns, upLns lns top bot m a = [lns.take top, (lns.drop lo).take (en - lo), List.replicate m (.empty a), lns.drop en].flatten) := Lib.hid fun lns => by rw [hen, hlo]; rfl
  have HUL : Hid (∀ lns : List Ln, lns.length = R → (upLns lns top bot m a).length = R) := Lib.hid fun lns e => by rw [up_len a (by omega) (by omega), e]
  have HUO : Hid (∀ (w' : World) (lns : List Ln), LnsOk w' C lns → LnsOk w' C (upLns lns top bot m a)) := Lib.hid fun w' lns k => up_ok k top bot m ha
  obtain ⟨_, A, cp, rfl, _⟩ := hx
  have htl : top ≤ R := by omega
  have hloe : lo ≤ en := by omega
  have heR : en ≤ R := by omega
  clear hm hmi hen hlo ht hb hn ha hlen
  go_enter Tryz.func167, Tryz.ntmps167
  go_wp2_with fail
  refine (HRM.out _ (HX.out.kept HBX.out.two.below)).mono ?_; rintro e w2 ⟨rfl, hb2⟩
  have HX2 := Lib.hid (HBX.out.kept hb2)
  clear hb2 HBX
  obtain ⟨c0, c1, c2, k0, k1, k2⟩ := HX2.out.two.cells
  go_wp2_with fail
  refine (HLI.out _ (HX.out.kept HX2.out.two.below)).mono ?_; rintro e w3 ⟨v3, cv, rfl, ho3, hcv, hb3⟩
  have HX3 := Lib.hid (HX2.out.kept hb3)
  have HK3 := Lib.hid (HKE.out w2 cv hcv)
  have HK3' := Lib.hid (HK3.out.1.kept hb3)
  have hll : (keptOf cv l C (List.range R)).length = R := by rw [keptOf_length, List.length_range]
  generalize keptOf cv l C (List.range R) = lns at ho3 HK3 HK3' hll
  have HS3 := Lib.hid ho3.sv
  obtain ⟨A1, e1, hr1, hp1⟩ := ho3.sv.part_upto top (by omega)
  obtain ⟨A2, e2, hr2, hp2⟩ := ho3.sv.part_mid lo en hloe (by omega)
  obtain ⟨A4, e4, hr4, hp4⟩ := ho3.sv.part_from en (by omega)
  obtain ⟨n2, hn2⟩ : ∃ q, en - lo = q := ⟨_, rfl⟩
  obtain ⟨n4, hn4⟩ : ∃ q, lns.length - en = q := ⟨_, rfl⟩
  rw [hn2] at HUP hr2 hp2
  rw [hn4] at hr4 hp4
  have HP1 := Lib.hid hp1
  have HP2 := Lib.hid hp2
  have HP4 := Lib.hid hp4
  obtain ⟨A3, e3, rfl⟩ := own_shape ho3
  rw [hll] at hr1 hr2 hr4
  have HLL := Lib.hid hll
  have hsv := HS3.out
  clear hb3 hcv ho3 hn2 hn4 hsv HS3 HKE c0 c1 c2 k0 k1 k2 hp1 hp2 hp4
  obtain ⟨c0, c1, c2, k0, k1, k2⟩ := HX3.out.two.cells
  rw [hll]
  clear hll
  go_wp2_with fail
  have HX3D : Hid (Boxes3 w w3.drew R C (.slice A l.length cp) a) := Lib.hid HX3.out.drew
  have HEM3 := Lib.hid (HEM.out w3.drew)
  have HLA := Lib.hid (fun (v : Value) (w' : World) (lns' : List Ln) (k : Sv w' v lns') (k2 : LnsOk w' C lns') (k3 : lns'.length = R) => (show _ from k3 ▸ laid_any lns' C v w' k k2 hC1 hC40 (by omega) : Calls Tryz.prog 151 #[v, .int .i64 C] w' fun e w'' => ∃ v', e = .returned (.agg #[.int .i64 R, .int .i64 C, v']) ∧ OwnCs w'' w'.heap.size v' (rowsOfL C lns').flatten ∧ Below w'.heap.size w' w''))
  have HCC := Lib.hid (fun (xs : List Value) (x : Value) (w' : World) hxl hxx hcc => concatL_any [lns.take top, (lns.drop lo).take n2, List.replicate m (.empty a), lns.drop en] xs x w' hxl hxx hcc (by rw [← HUP.out, HUL.out lns HLL.out]; omega) (by simp))
  rw [← HUP.out] at HCC
  have HUO3 := Lib.hid (HUO.out w3 lns HK3'.out)
  have HUL3 := Lib.hid (HUL.out lns HLL.out)
  have HF3 := Lib.hid (HFIN.out w3 lns HK3.out.2)
  generalize upLns lns top bot m a = ups at HCC HUO3 HUL3 HF3
  have HLU := Lib.hid (fun v w' k k2 => HLA.out v w' ups k k2 HUL3.out)
  rw [HF3.out] at HLU
  obtain ⟨res, HRS⟩ : ∃ q, Hid ((moved rs top bot n C a).flatten = q) := ⟨_, Lib.hid rfl⟩
  rw [HRS.out] at HLU
  clear HLA HF3
  clear HRM HLI HEM
  go_region_law (first
    | (have h := HS5.out; go_simp; go_at_call 151; refine (HLU.out _ _ h HO5.out).mono ?_; rintro e w6 ⟨v6, rfl, ho6, hb6⟩; obtain ⟨A8, e8, rfl⟩ := own_shape ho6; have HX6 := Lib.hid (HX5.out.kept hb6); have HO6 := Lib.hid (ho6.low HX5.out.size); have zk := HX6.out.size; have z0 : w6.cell? ⟨w.heap.size + 1 + 1, 0, none⟩ = some (.int .i64 0) := Blk.cell HX6.out.z 0; have z1 : w6.cell? ⟨w.heap.size + 1 + 1, 1, none⟩ = some (.int .i64 0) := Blk.cell HX6.out.z 1; have z2 : w6.cell? ⟨w.heap.size + 1 + 1, 2, none⟩ = some (.slice none 0 0) := Blk.cell HX6.out.z 2; have y0 : w6.frozen? ⟨w.heap.size + 1 + 1, 0, none⟩ = false := Blk.free HX6.out.z 0; have y1 : w6.frozen? ⟨w.heap.size + 1 + 1, 1, none⟩ = false := Blk.free HX6.out.z 1; have y2 : w6.frozen? ⟨w.heap.size + 1 + 1, 2, none⟩ = false := Blk.free HX6.out.z 2; clear ho6 hb6)
    | (have h := HB4.out; go_simp; go_at_call 190; have hba : Below w4.heap.size w4 (w4.alloc (.cells #[.slice A1 top e1, .slice A2 n2 e2, .slice A5 m e5, .slice A4 n4 e4] 167)) := (Below.refl _ _).alloc (Nat.le_refl _) _; refine (HCC.out [.slice A1 top e1, .slice A2 n2 e2, .slice A5 m e5, .slice A4 n4 e4] _ _ rfl (Src.made w4 _ _ 4 4 rfl) (four_of ((HP1.out.kept h).kept hba) ((HP2.out.kept h).kept hba) (HS4.out.kept hba) ((HP4.out.kept h).kept hba))).mono ?_; rintro e w5 ⟨v5, rfl, ho5, hb5⟩; have HX5 := Lib.hid ((HX4.out.alloc _).kept hb5); have hb45 : Below w4.heap.size w4 w5 := hba.trans (hb5.mono (by simp)); have HO5 := Lib.hid (HUO3.out.kept (h.trans (hb45.mono h.size))); have HS5 := Lib.hid ho5.sv; obtain ⟨A7, e7, rfl⟩ := own_shape ho5; rw [HUL3.out] at HS5 ⊢; have q1 : w5.cell? ⟨w.heap.size, 1, none⟩ = some (.int .i64 C) := HX5.out.two.cells.2.1; clear ho5 hb5 hba hb45)
    | (go_simp; go_at_call 152; refine HEM3.out.mono ?_; rintro e w4 ⟨v4, rfl, ho4, hb4⟩; have hb4' : Below w3.heap.size w3 w4 := (Below.refl _ _).drew.trans hb4; obtain ⟨A5, e5, rfl⟩ := own_shape ho4; have HX4 := Lib.hid (HX3.out.kept hb4'); have hs4 := ho4.sv; rw [List.length_replicate] at hs4; have HS4 := Lib.hid hs4; have HB4 := Lib.hid hb4'; have q1 : w4.cell? ⟨w.heap.size, 1, none⟩ = some (.int .i64 C) := HX4.out.two.cells.2.1; have zl4 : w.heap.size < w4.heap.size := (by have := HX4.out.size; omega); clear ho4 hb4 hb4' hs4))
  all_goals
    have HF := Lib.hid (gput_box HX6.out.z R C (.slice A8 res.length e8))
    have HO7 : Hid (OwnCs (gput w6 (w.heap.size + 2) R C (.slice A8 res.length e8)) (w.heap.size + 3) (.slice A8 res.length e8) res) := Lib.hid (gput_own HO6.out (Nat.lt_succ_self _) _ _ _)
    have HB7 : Hid (Below w.heap.size w (gput w6 (w.heap.size + 2) R C (.slice A8 res.length e8))) := Lib.hid (gput_below HX6.out.two.below (by omega) _ _ _)
    clear z0 z1 z2 y0 y1 y2 q1 c0 c1 c2 k0 k1 k2 hr1 hr2 hr4
    go_wp2_with fail
    show bodyPost _ _ _ _ _ (gput w6 (w.heap.size + 2) R C (.slice A8 res.length e8))
    generalize gput w6 (w.heap.size + 2) R C (.slice A8 res.length e8) = wF at HF HO7 HB7 ⊢
    have z0 : wF.cell? ⟨w.heap.size + 1 + 1, 0, none⟩ = some (.int .i64 R) := Blk.cell HF.out 0
    have z1 : wF.cell? ⟨w.heap.size + 1 + 1, 1, none⟩ = some (.int .i64 C) := Blk.cell HF.out 1
    have z2 : wF.cell? ⟨w.heap.size + 1 + 1, 2, none⟩ = some (.slice A8 res.length e8) := Blk.cell HF.out 2
    exact bodyPost_ret (v := .tuple #[.agg #[.int .i64 R, .int .i64 C, .slice A8 res.length e8], .int .i64 0]) (by simp [results, Tryz.results167, go_sem, z0, z1, z2]) rfl ⟨_, rfl, by rw [HRS.out]; exact HO7.out.low (by omega), HB7.out⟩
end Row
end
section
open Go.RowKit
namespace Row
theorem Boxes.set {w w2 : World} {r c : Int} {x : Value} {a : Look} (h : Boxes w w2 r c x a) {b : Nat} (hb : w.heap.size + 2 ≤ b) (j : Nat) (u : Value) : Boxes w (w2.setCell ⟨b, j, none⟩ u) r c x a :=
  ⟨Blk.other h.g (by omega) _ _, Blk.other h.a (by omega) _ _, h.below.setCell (p := ⟨b, j, none⟩) (by show w.heap.size ≤ b; omega) _⟩
theorem Boxes3.set {w w2 : World} {r c : Int} {x : Value} {a : Look} (h : Boxes3 w w2 r c x a) {b : Nat} (hb : w.heap.size + 3 ≤ b) (j : Nat) (u : Value) : Boxes3 w (w2.setCell ⟨b, j, none⟩ u) r c x a :=
  ⟨h.two.set (by omega) _ _, Blk.other h.z (by omega) _ _⟩
theorem Boxes3.grown {w w2 w3 : World} {r c : Int} {x : Value} {a : Look} (h : Boxes3 w w2 r c x a) {row : Option Nat} (hg : w2.grownBy w3 row) (hr : ∀ k, row = some k → w.heap.size + 3 ≤ k) : Boxes3 w w3 r c x a :=
  ⟨⟨box_grown h.two.g hg (fun e => by have := hr _ e.symm; omega), box_grown h.two.a hg (fun e => by have := hr _ e.symm; omega), h.two.below.grown hg h.base (fun k e => by have := hr k e; omega)⟩, box_grown h.z hg (fun e => by have := hr _ e.symm; omega)⟩
theorem OwnL.n {w : World} {base b n cap : Nat} {l : List Ln} (h : OwnL w base (.slice (some ⟨b, 0, none⟩) n cap) l) : n = l.length := by
  rcases h.2 with ⟨e, _⟩ | ⟨_, _, _, e, _⟩
  · injection e with e; cases e
  · injection e
theorem OwnL.shape {w : World} {base : Nat} {v : Value} {l : List Ln} (h : OwnL w base v l) (h0 : 0 < l.length) : ∃ g cap, v = .slice (some ⟨g, 0, none⟩) l.length cap ∧ base ≤ g ∧ l.length ≤ cap := by
  rcases h.2 with ⟨rfl, h1⟩ | ⟨g, cap, cur, rfl, hb, hg, hc, _⟩
  · omega
  · exact ⟨g, cap, rfl, hb, hc⟩
theorem OwnL.take {w : World} {base b n cap : Nat} {l : List Ln} (h : OwnL w base (.slice (some ⟨b, 0, none⟩) n cap) l) (k : Nat) (hk : k ≤ l.length) : OwnL w base (.slice (some ⟨b, 0, none⟩) k cap) (l.take k) := by
  have hn : n = l.length := h.n
  have hl : (l.take k).length = k := by rw [List.length_take]; omega
  refine ⟨by rw [lvs_length, hl, Nat.mul_one], ?_⟩
  rcases h.2 with ⟨e, _⟩ | ⟨g', cap', cur, e, h1, h2, h3, h4, h5, h6⟩
  · injection e with e; cases e
  · injection e with e1 e2 e3
    injection e1 with e1
    injection e1 with e1
    subst e1; subst e3
    refine .inr ⟨b, cap, cur, by rw [hl], h1, h2, by omega, h4, h5, ?_⟩
    rw [hl, lvs_take, ← h6, Nat.mul_one, Nat.mul_one, List.take_take, Nat.min_eq_left (by omega)]
theorem OwnL.cell {w : World} {base b n cap : Nat} {l : List Ln} (h : OwnL w base (.slice (some ⟨b, 0, none⟩) n cap) l) {k : Nat} (hk : k < l.length) : w.cell? ⟨b, k, none⟩ = some (lv (l.getD k default)) := by
  have hn : n = l.length := h.n
  subst hn
  rw [World.ownsRow.cellAt h k (by omega), lvs_get hk]
theorem OwnL.free {w : World} {base b n cap : Nat} {l : List Ln} (h : OwnL w base (.slice (some ⟨b, 0, none⟩) n cap) l) (j : Nat) : w.frozen? ⟨b, j, none⟩ = false := by
  have hn : n = l.length := h.n
  subst hn
  exact World.ownsRow.frozenAt h j
theorem OwnL.put {w : World} {base b n cap : Nat} {l : List Ln} (h : OwnL w base (.slice (some ⟨b, 0, none⟩) n cap) l) (k : Nat) (x : Ln) : OwnL (w.setCell ⟨b, k, none⟩ (lv x)) base (.slice (some ⟨b, 0, none⟩) n cap) (l.set k x) := by
  have hn : n = l.length := h.n
  subst hn
  have s := (World.ownsRow.stored h k (lv x)).1
  unfold OwnL
  rw [List.length_set]
  have e : lvs (l.set k x) = (lvs l).set k (lv x) := by unfold lvs; rw [List.map_set]
  rw [e]; exact s
theorem getD_set_same {l : List Ln} {k : Nat} (h : k < l.length) (x : Ln) : (l.set k x).getD k default = x := by simp [h]
theorem getD_set_ne {l : List Ln} {j k : Nat} (h : k ≠ j) (x : Ln) : (l.set k x).getD j default = l.getD j default := by simp [List.getElem?_set_ne h]
theorem kept_get {cv : Nat → Value} {l : List Cl} {C R j : Nat} (h : j < R) : (keptOf cv l C (List.range R)).getD j default = .kept (cv j) (rowAt l C j) := by
  unfold keptOf; simp [h]
theorem Cs.move {w w' : World} {x : Value} {l : List Cl} (h : Cs w x l) (k : ∀ (ad : Addr) (n c : Nat) (j : Nat) (u : Value), x = .slice (some ad) n c → w.cell? (ad.add j) = some u → w'.cell? (ad.add j) = some u) : Cs w' x l := by
  refine ⟨h.1, h.2.1, ?_⟩
  rcases h.2.2 with h0 | ⟨ad, c, rfl, hc⟩
  · exact .inl h0
  · refine .inr ⟨ad, c, rfl, fun i r hr j u hu => ?_⟩
    have := hc i r hr j u hu
    rw [Go.Deep.add_add] at this ⊢
    exact k ad _ _ _ _ rfl this
theorem Rm.set {w : World} {x : Value} {l : List Cl} {g : Nat} (h : Rm w x l) (ho : Off g x) (j : Nat) (u : Value) : Rm (w.setCell ⟨g, j, none⟩ u) x l :=
  ⟨h.1.move fun ad n c i v e hv => by rw [World.cell?_setCell_other _ _ _ _ (fun e2 => ho ad n c e (by rw [← add_block ad i, ← e2]))]; exact hv, h.2⟩
theorem Rm.grown {w w' : World} {x : Value} {l : List Cl} {row : Option Nat} (h : Rm w x l) (hg : w.grownBy w' row) (ho : ∀ k, row = some k → Off k x) : Rm w' x l :=
  ⟨h.1.move fun ad n c i v e hv => by
    have hb := World.block_lt_of_cell? w _ hv
    have hk := hg.block (ad.add i).block hb (fun e2 => ho _ e2.symm ad n c e (add_block ad i).symm)
    unfold World.cell? at hv ⊢
    rw [hk]; exact hv, h.2⟩
theorem Rm.off {w : World} {x : Value} {l : List Cl} {g : Nat} (h : Rm w x l) (h0 : 0 < l.length) (hg : w.heap.size ≤ g) : Off g x := by
  intro ad n c e
  subst e
  have := h.1.flat.2 0 (.int .i64 (Row.g l 0).rune) (by have := flat_get h0 (show 0 < 6 by decide); simpa [cvals] using this)
  have hb := World.block_lt_of_cell? w _ this
  rw [add_block] at hb
  omega
end Row
end
end Go.Proofs.YtceaoadlhdgnmaaGreatDoor
