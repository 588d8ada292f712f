/- Joined texts: GrdCheck, GrdRoom, GrdLines, GrdUp, GrdRes. -/
import Derived.Test.YtgjpojaegjdjcabDoorJ1
import Derived.Test.YtgjpojaegjdjcabDoorJ2
import Derived.Test.YtgjpojaegjdjcabDoorJ3
import Derived.Test.YtgjpojaegjdjcabDoorJ4
import Derived.Test.YtgjpojaegjdjcabDoorJ5
import Derived.Test.YtgjpojaegjdjcabDoorJ7
import Derived.Maps.AppendAt
import Derived.RangeFuncBox
import Derived.Deep.RegionLaw
section
/- The developers' Check of a grid. -/
namespace Go.Proofs.YtgjpojaegjdjcabDoor
set_option maxRecDepth 100000
open Go.RowKit
namespace Row
attribute [local go_sem] Oper.semAt_some

theorem ownFrom_size {β : Type} (B n : Nat) : OwnFrom B (fun (_ : β) W => n ≤ W.heap.size) := fun _ _ _ _ hs hg _ => Nat.le_trans hs hg.size
theorem held_part {l : List Cl} (h : Held l) (C i : Nat) : Held (rowAt l C i) := by
  intro j hj
  unfold rowAt at hj ⊢
  rw [List.length_take, List.length_drop] at hj
  rw [g_take (by omega), g_drop]
  exact h _ (by omega)
set_option maxHeartbeats 1600000 in
theorem gridCheck_thin (r c : Int) (l : List Cl) (x : Value) (w : World) (hx : Rm w x l) (h : sidesOk r c = false) :
    Calls Tryd.prog 74 #[.agg #[.int .i64 r, .int .i64 c, x]] w fun e w' => e = .returned (.int .i64 1) ∧ Below w.heap.size w w' := by
  obtain ⟨_, A, cp, rfl, _⟩ := hx
  have H := Lib.hid h
  clear h
  go_enter Tryd.func74, Tryd.ntmps74
  go_wp2_with fail
  refine (sides_at _ _ _ H.out _).mono ?_; rintro e w' ⟨rfl, rfl⟩
  go_wp2_with fail
  go_returns
  exact ⟨rfl, by repeat (first | exact Below.refl _ _ | refine Below.alloc ?_ (Nat.le_refl _) _ | refine Below.alloc ?_ (by simp) _ | refine Below.setCell ?_ (by simp) _)⟩
set_option maxHeartbeats 1600000 in
theorem gridCheck_odd (R C : Nat) (l : List Cl) (x : Value) (w : World) (hx : Rm w x l) (h : sidesOk R C = true) (hR : R ≤ 40) (hC : C ≤ 40) (hl : l.length ≠ R * C) :
    Calls Tryd.prog 74 #[.agg #[.int .i64 R, .int .i64 C, x]] w fun e w' => e = .returned (.int .i64 1) ∧ Below w.heap.size w w' := by
  obtain ⟨_, A, cp, rfl, _⟩ := hx
  have H := Lib.hid h
  have hm : R * C ≤ 1600 := Nat.mul_le_mul hR hC
  obtain ⟨m, hmm⟩ : ∃ m, m = R * C := ⟨_, rfl⟩
  have hw : IntKind.i64.wrap ((R : Int) * (C : Int)) = (m : Int) := by rw [hmm, ← Int.natCast_mul, IntKind.wrap_i64]; omega
  rw [← hmm] at hm hl
  clear h hmm
  go_enter Tryd.func74, Tryd.ntmps74
  go_wp2_with fail
  refine (sides_at _ _ _ H.out _).mono ?_; rintro e w' ⟨rfl, rfl⟩
  go_wp2_with fail
  go_returns
  exact ⟨rfl, by repeat (first | exact Below.refl _ _ | refine Below.alloc ?_ (Nat.le_refl _) _ | refine Below.alloc ?_ (by simp) _ | refine Below.setCell ?_ (by simp) _)⟩
set_option maxHeartbeats 4000000 in
theorem gridCheck_even (R C : Nat) (l : List Cl) (x : Value) (w : World) (b : Bool) (hx : Rm w x l) (hs : Held l) (h : sidesOk R C = true) (hR1 : 1 ≤ R) (hR : R ≤ 40) (hC1 : 1 ≤ C) (hC : C ≤ 40) (hl : l.length = R * C)
    (hb : b = true ↔ ∀ i, i < R → RowOk (rowAt l C i)) :
    Calls Tryd.prog 74 #[.agg #[.int .i64 R, .int .i64 C, x]] w fun e w' => e = .returned (.int .i64 (bif b then 0 else 1)) ∧ Below w.heap.size w w' := by
  have hm : R * C ≤ 1600 := Nat.mul_le_mul hR hC
  have hm1 : 1 ≤ R * C := Nat.mul_pos hR1 hC1
  obtain ⟨_, A, cp, rfl, hcp⟩ := hx
  have hx : Rm w (.slice A l.length cp) l := ⟨by assumption, A, cp, rfl, hcp⟩
  have hA : ∃ ad, A = some ad := by
    obtain ⟨A', c', e, hf⟩ := hx.cs.form
    injection e with e1 e2 e3
    obtain ⟨ad, e, _⟩ := hf 0 (by omega)
    exact ⟨ad, by rw [e1, e]⟩
  obtain ⟨ad, rfl⟩ := hA
  obtain ⟨cv, hcv⟩ := chunks_some hx R C hl hC1
  rw [hl] at hx hcv hcp ⊢
  have HCV := Lib.hid hcv
  have HH : Hid (∀ i, i < R → Held (rowAt l C i) ∧ (rowAt l C i).length ≤ 1000000) := Lib.hid fun i hi => ⟨held_part hs C i, by unfold rowAt; rw [List.length_take]; omega⟩
  have H := Lib.hid h
  obtain ⟨m, hmm⟩ : ∃ m, m = R * C := ⟨_, rfl⟩
  have hw : IntKind.i64.wrap ((R : Int) * (C : Int)) = (m : Int) := by rw [hmm, ← Int.natCast_mul, IntKind.wrap_i64]; omega
  have HM := Lib.hid hmm
  have HB := Lib.hid hb
  have HX := Lib.hid hx
  rw [← hmm] at HX hcp hm ⊢
  clear h hs hb hcv hx hmm
  refine (callsIn_wide (n := 6)).1 ?_
  refine callsIn_of_wp_marks Tryd.func74 rfl trivial ?_ rfl
  simp only [Tryd.ntmps74, List.size_toArray, List.length_cons, List.length_nil, Nat.reduceAdd, Nat.reduceSub, Array.replicate_succ, Array.replicate_zero, List.push_toArray, List.append_toArray, List.nil_append, List.cons_append]
  gi_wp2_with (refine ⟨trivial, ?_⟩; first
    | (gi_at_call 85; refine (callsIn_wide.2 (sides_at _ _ _ H.out _)).mono ?_; rintro e w' ⟨rfl, rfl⟩)
    | (gi_at_call 86; refine (callsIn_wide.2 (chunk_any _ _ _ C hC1 _)).mono ?_; rintro e w' ⟨rfl, rfl⟩))
  have hb0 : Below w.heap.size w ((((w.alloc (.cells #[.int .i64 R, .int .i64 C, .slice (some ad) m cp] 30)).alloc (.cells #[.int .i64 0] 39)).alloc (.cells #[.slice (some ad) m cp] 28)).alloc (.cells #[.int .i64 C] 3)) := by
    repeat (first | exact Below.refl _ _ | refine Below.alloc ?_ (Nat.le_refl _) _ | refine Below.alloc ?_ (by first | (simp; done) | (simp; omega)) _)
  have c1 : ((((w.alloc (.cells #[.int .i64 R, .int .i64 C, .slice (some ad) m cp] 30)).alloc (.cells #[.int .i64 0] 39)).alloc (.cells #[.slice (some ad) m cp] 28)).alloc (.cells #[.int .i64 C] 3)).heap[w.heap.size + 1]? = some (.cells #[.int .i64 0] 39 (0, 0)) :=
    old_alloc (old_alloc (new_alloc _ _ _ (by simp)) _) _
  have c2 : ((((w.alloc (.cells #[.int .i64 R, .int .i64 C, .slice (some ad) m cp] 30)).alloc (.cells #[.int .i64 0] 39)).alloc (.cells #[.slice (some ad) m cp] 28)).alloc (.cells #[.int .i64 C] 3)).heap[w.heap.size + 1 + 1]? = some (.cells #[.slice (some ad) m cp] 28 (0, 0)) :=
    old_alloc (new_alloc _ _ _ (by simp)) _
  have c3 : ((((w.alloc (.cells #[.int .i64 R, .int .i64 C, .slice (some ad) m cp] 30)).alloc (.cells #[.int .i64 0] 39)).alloc (.cells #[.slice (some ad) m cp] 28)).alloc (.cells #[.int .i64 C] 3)).heap[w.heap.size + 1 + 1 + 1]? = some (.cells #[.int .i64 C] 3 (0, 0)) :=
    new_alloc _ _ _ (by simp)
  have hsz : ((((w.alloc (.cells #[.int .i64 R, .int .i64 C, .slice (some ad) m cp] 30)).alloc (.cells #[.int .i64 0] 39)).alloc (.cells #[.slice (some ad) m cp] 28)).alloc (.cells #[.int .i64 C] 3)).heap.size = w.heap.size + 4 := by simp
  generalize ((((w.alloc (.cells #[.int .i64 R, .int .i64 C, .slice (some ad) m cp] 30)).alloc (.cells #[.int .i64 0] 39)).alloc (.cells #[.slice (some ad) m cp] 28)).alloc (.cells #[.int .i64 C] 3)) = w0 at hb0 c1 c2 c3 hsz ⊢
  have q2 := Blk.cell c2 0
  have q3 := Blk.cell c3 0
  simp only [List.getElem?_toArray, List.getElem?_cons_zero] at q2 q3
  rw [HM.out] at q2
  refine wpIn_rangeFunc_ownG rfl (by omega) (gf := 95) (lb := #[.pointer (some ⟨w.heap.size + 1 + 1, 0, none⟩), .pointer (some ⟨w.heap.size + 1 + 1 + 1, 0, none⟩)]) rfl trivial (enters_of Tryd.func95 (by kernel_rfl) rfl)
    (chunk_stops (6 - 1) (by omega) (w.heap.size + 1 + 1) (w.heap.size + 1 + 1 + 1) ad R C cp hR hC1 hC (by rw [← HM.out]; exact hcp) cv (fun i hi => (HCV.out i hi).1) w0 (by omega) (by omega) q2 q3) (fun h k => h.trans k) (two_b (by omega) (by omega)) (Below.refl _ _) (fun _ => rfl)
    (fun pre W => (∀ y ∈ pre, RowOk (rowAt l C y.1)) ∧ (Boxed W (w.heap.size + 1) 39 (.int .i64 0) ∧ (Below w.heap.size w W ∧ w0.heap.size ≤ W.heap.size)))
    (fun c _ W => c = .ret ∧ (¬ (∀ i, i < R → RowOk (rowAt l C i))) ∧ (Boxed W (w.heap.size + 1) 39 (.int .i64 1) ∧ Below w.heap.size w W))
    (OwnFrom.and (ownFrom_pure _ _) (OwnFrom.and ((boxed_own _ _ _).from _) (OwnFrom.and (ownFrom_below (Nat.le_refl _) (by omega)) (ownFrom_size _ _))))
    (fun c => OwnFrom.and (ownFrom_pure _ _) (OwnFrom.and (ownFrom_pure _ _) (OwnFrom.and ((boxed_own _ _ _).from _) (ownFrom_below (Nat.le_refl _) (by omega)))))
    ⟨fun _ h => (by cases h), c1, hb0, Nat.le_refl _⟩
    (fun y => { tmps := #[.agg #[.int .i64 R, .int .i64 C, .slice (some ad) m cp], .pointer (some ⟨w.heap.size, 0, none⟩), .pointer (some ⟨w.heap.size + 1, 0, none⟩), cv y.1, undef, .pointer (some ⟨w.heap.size, 0, none⟩), .int .i64 R,
      .pointer (some ⟨w.heap.size, 1, none⟩), .int .i64 C, .bool true, .bool false, .bool false, .pointer (some ⟨w.heap.size, 2, none⟩), .slice (some ad) m cp, .int .i64 m, .pointer (some ⟨w.heap.size, 0, none⟩), .int .i64 R,
      .pointer (some ⟨w.heap.size, 1, none⟩), .int .i64 C, .int .i64 m, .bool false, .bool false, .pointer (some ⟨w.heap.size, 2, none⟩), .slice (some ad) m cp, .pointer (some ⟨w.heap.size, 1, none⟩), .int .i64 C,
      .func (.func 95) #[] #[.pointer (some ⟨w.heap.size + 1 + 1, 0, none⟩), .pointer (some ⟨w.heap.size + 1 + 1 + 1, 0, none⟩)], cv y.1, undef, undef, undef, undef, undef], defers := [] }) ?assign ?body ?done ?stop
  case assign =>
    intro l x W K hK
    gi_wp2
    exact hK
  case body =>
    rintro l' pre ⟨i, hi⟩ W ⟨hok, hbx, hB, hS0⟩ hlt
    have hcs := ((HCV.out i hi).2.kept hB).cs
    obtain ⟨hh, hll⟩ := HH.out i hi
    have hc := hbx.cell
    have hf := hbx.frozen
    by_cases hrow : RowOk (rowAt l C i)
    · gi_wp2_with (refine ⟨trivial, ?_⟩; gi_at_call 87; refine (CallsIn.inRound l' (callsIn_wide.2 (rowCheck_any (rowAt l C i) true (cv i) W hcs hh hll ⟨fun _ => hrow, fun _ => rfl⟩))).mono ?_; rintro e w1 ⟨rfl, hb1⟩)
      refine ⟨(others_below hb1).from _, Two.below hb1 (by omega) (by omega), fun y hy => ?_, (hb1.block _ hbx.lt).trans hbx, hB.trans (hb1.mono hB.size), Nat.le_trans hS0 hb1.size⟩
      rcases List.mem_append.1 hy with hy | hy
      · exact hok y hy
      · obtain rfl : y = ⟨i, hi⟩ := by simpa using hy
        exact hrow
    · gi_wp2_with (refine ⟨trivial, ?_⟩; gi_at_call 87; refine (CallsIn.inRound l' (callsIn_wide.2 (rowCheck_any (rowAt l C i) false (cv i) W hcs hh hll ⟨(fun h => by cases h), fun h => absurd h hrow⟩))).mono ?_; rintro e w1 ⟨rfl, hb1⟩; have hbx1 : Boxed w1 (w.heap.size + 1) 39 (.int .i64 0) := (hb1.block _ hbx.lt).trans hbx; have hc1 := hbx1.cell; have hf1 := hbx1.frozen)
      exact ⟨((others_below hb1).trans (KeepsOthers.setCell _ _ _)).from _, rfl, fun h => hrow (h i hi), hbx1.set _, (hB.trans (hb1.mono hB.size)).setCell (p := ⟨w.heap.size + 1, 0, none⟩) (Nat.le_succ _) _⟩
  case done =>
    rintro D ys W hD hS ⟨hok, hbx, hB, hS0⟩ hK
    have hbt : b = true := HB.out.2 fun i hi => by
      obtain ⟨y, hy, rfl⟩ := upto_mem hS hi
      exact hok y hy
    subst hbt
    have hc := hbx.cell
    have hf := hbx.frozen
    gi_wp2
    have hK' : (W.setCell ⟨w.heap.size + 1, 0, none⟩ (.int .i64 0)).heap[D]? = some (.deferred (some [])) := (KeepsOthers.setCell W ⟨w.heap.size + 1, 0, none⟩ (.int .i64 0)).same D _ hK rfl
    have hb2 := hbx.set (.int .i64 0)
    have hB2 : Below w.heap.size w (W.setCell ⟨w.heap.size + 1, 0, none⟩ (.int .i64 0)) := hB.setCell (p := ⟨w.heap.size + 1, 0, none⟩) (Nat.le_succ _) _
    generalize W.setCell ⟨w.heap.size + 1, 0, none⟩ (.int .i64 0) = W2 at hK' hb2 hB2 ⊢
    have hb3 : Boxed (W2.putObj D (.deferred none)) (w.heap.size + 1) 39 (.int .i64 0) := (World.putObj_heap_other (by omega)).trans hb2
    have hc3 := hb3.cell
    refine ⟨by simp, .inl ⟨_, _, rfl, run_takeDeferred hK', ?_⟩⟩
    exact ⟨_, by simp [results, Tryd.results74, go_sem, hc3]; try rfl, rfl, hB2.trans (belowK_b (w := w) (Nat.le_refl _) W2 D _ _ (by omega) hK' rfl rfl)⟩
  case stop =>
    rintro D c pre W hD _ ⟨rfl, hno, hbx, hB⟩ hK
    have hbf : b = false := by
      cases b
      · rfl
      · exact absurd (HB.out.1 rfl) hno
    subst hbf
    have hc := hbx.cell
    gi_wp2
    have hb3 : Boxed (W.putObj D (.deferred none)) (w.heap.size + 1) 39 (.int .i64 1) := (World.putObj_heap_other (by omega)).trans hbx
    have hc3 := hb3.cell
    refine ⟨by simp, .inl ⟨_, _, rfl, run_takeDeferred hK, ?_⟩⟩
    exact ⟨_, by simp [results, Tryd.results74, go_sem, hc3]; try rfl, rfl, hB.trans (belowK_b (w := w) (Nat.le_refl _) W D _ _ (by omega) hK rfl rfl)⟩
/-- Check: no error of a grid that may be, the other of what may not. -/
theorem gridCheck_any (G : Gr) (b : Bool) (x : Value) (w : World) (hx : Rm w x G.cells) (hs : Held G.cells) (hb : b = true ↔ GridOk G) :
    Calls Tryd.prog 74 #[.agg #[.int .i64 G.rows, .int .i64 G.cols, x]] w fun e w' => e = .returned (.int .i64 (bif b then 0 else 1)) ∧ Below w.heap.size w w' := by
  obtain ⟨r, c, l⟩ := G
  simp only at hx hs ⊢
  cases h : sidesOk r c with
  | false =>
    have hbf : b = false := by
      cases b
      · rfl
      · have := hb.1 rfl
        have := (sidesOk_iff r c).2 ⟨this.1, this.2.1⟩
        rw [h] at this; cases this
    subst hbf
    exact gridCheck_thin r c l x w hx h
  | true =>
    obtain ⟨⟨h1, h2⟩, h3, h4⟩ := (sidesOk_iff r c).1 h
    obtain ⟨R, rfl⟩ := Int.eq_ofNat_of_zero_le (show 0 ≤ r by omega)
    obtain ⟨C, rfl⟩ := Int.eq_ofNat_of_zero_le (show 0 ≤ c by omega)
    by_cases hl : l.length = R * C
    · refine gridCheck_even R C l x w b hx hs h (by omega) (by omega) (by omega) (by omega) hl ?_
      rw [hb]
      unfold GridOk
      simp only [Int.toNat_natCast]
      constructor
      · intro k i hi; exact k.2.2.2 i (by omega)
      · intro k; exact ⟨⟨h1, h2⟩, ⟨h3, h4⟩, by rw [hl, Int.natCast_mul], fun i hi => k i (by omega)⟩
    · have hbf : b = false := by
        cases b
        · rfl
        · have := (hb.1 rfl).2.2.1
          simp only [← Int.natCast_mul] at this
          exact absurd (by omega) hl
      subst hbf
      exact gridCheck_odd R C l x w hx h (by omega) (by omega) hl
end Row
end Go.Proofs.YtgjpojaegjdjcabDoor
end
section
/- The developers' room: how many rows move. -/
namespace Go.Proofs.YtgjpojaegjdjcabDoor
set_option maxRecDepth 100000
open Go.RowKit
namespace Row

abbrev abox (a : Look) : Obj := .cells #[.int .i64 a.fg, .int .i64 a.bg, .int .i64 a.flags] 32 (0, 0)
/-- A grid's and a look's boxes, laid by the call and kept. -/
structure Boxes (w w2 : World) (r c : Int) (x : Value) (a : Look) : Prop where
  g : w2.heap[w.heap.size]? = some (gbox r c x)
  a : w2.heap[w.heap.size + 1]? = some (abox a)
  below : Below w.heap.size w w2
theorem Boxes.new (w : World) (r c : Int) (x : Value) (a : Look) : Boxes w ((w.alloc (gbox r c x)).alloc (abox a)) r c x a :=
  ⟨old_alloc (new_alloc _ _ _ rfl) _, new_alloc _ _ _ (by simp), ((Below.refl _ _).alloc (Nat.le_refl _) _).alloc (by simp) _⟩
theorem Boxes.kept {w w2 w3 : World} {r c : Int} {x : Value} {a : Look} (h : Boxes w w2 r c x a) (hb : Below w2.heap.size w2 w3) : Boxes w w3 r c x a :=
  ⟨Blk.kept h.g hb, Blk.kept h.a hb, h.below.trans (hb.mono h.below.size)⟩
theorem Boxes.alloc {w w2 : World} {r c : Int} {x : Value} {a : Look} (h : Boxes w w2 r c x a) (o : Obj) : Boxes w (w2.alloc o) r c x a := h.kept ((Below.refl _ _).alloc (Nat.le_refl _) _)
theorem Boxes.cells {w w2 : World} {r c : Int} {x : Value} {a : Look} (h : Boxes w w2 r c x a) :
    w2.cell? ⟨w.heap.size, 0, none⟩ = some (.int .i64 r) ∧ w2.cell? ⟨w.heap.size, 1, none⟩ = some (.int .i64 c) ∧ w2.cell? ⟨w.heap.size, 2, none⟩ = some x ∧
    w2.cell? ⟨w.heap.size + 1, 0, none⟩ = some (.int .i64 a.fg) ∧ w2.cell? ⟨w.heap.size + 1, 1, none⟩ = some (.int .i64 a.bg) ∧ w2.cell? ⟨w.heap.size + 1, 2, none⟩ = some (.int .i64 a.flags) :=
  ⟨Blk.cell h.g 0, Blk.cell h.g 1, Blk.cell h.g 2, Blk.cell h.a 0, Blk.cell h.a 1, Blk.cell h.a 2⟩
end Row
end Go.Proofs.YtgjpojaegjdjcabDoor
end
section
/- The developers' lines of a grid: all of them kept. -/
namespace Go.Proofs.YtgjpojaegjdjcabDoor
set_option maxRecDepth 100000
open Go.RowKit
namespace Row
attribute [local go_sem] Oper.semAt_some

def keptOf (cv : Nat → Value) (l : List Cl) (C : Nat) (is : List Nat) : List Ln := is.map fun i => Ln.kept (cv i) (rowAt l C i)
theorem keptOf_length (cv : Nat → Value) (l : List Cl) (C : Nat) (is : List Nat) : (keptOf cv l C is).length = is.length := List.length_map _
end Row
end Go.Proofs.YtgjpojaegjdjcabDoor
end
section
/- The developers' Up and Down, where rows may move. -/
namespace Go.Proofs.YtgjpojaegjdjcabDoor
set_option maxRecDepth 100000
open Go.RowKit
namespace Row

/-- The boxes, and that of the answer. -/
structure Boxes3 (w w2 : World) (r c : Int) (x : Value) (a : Look) : Prop where
  two : Boxes w w2 r c x a
  z : w2.heap[w.heap.size + 2]? = some (gbox 0 0 (.slice none 0 0))
theorem Boxes3.new (w : World) (r c : Int) (x : Value) (a : Look) : Boxes3 w (((w.alloc (gbox r c x)).alloc (abox a)).alloc (gbox 0 0 (.slice none 0 0))) r c x a :=
  ⟨(Boxes.new w r c x a).alloc _, new_alloc _ _ _ (by simp)⟩
theorem Boxes3.kept {w w2 w3 : World} {r c : Int} {x : Value} {a : Look} (h : Boxes3 w w2 r c x a) (hb : Below w2.heap.size w2 w3) : Boxes3 w w3 r c x a := ⟨h.two.kept hb, Blk.kept h.z hb⟩
theorem Boxes3.drew {w w2 : World} {r c : Int} {x : Value} {a : Look} (h : Boxes3 w w2 r c x a) : Boxes3 w w2.drew r c x a := h.kept (Below.refl _ _).drew
theorem Boxes3.alloc {w w2 : World} {r c : Int} {x : Value} {a : Look} (h : Boxes3 w w2 r c x a) (o : Obj) : Boxes3 w (w2.alloc o) r c x a := h.kept ((Below.refl _ _).alloc (Nat.le_refl _) _)
theorem Boxes3.size {w w2 : World} {r c : Int} {x : Value} {a : Look} (h : Boxes3 w w2 r c x a) : w.heap.size + 3 ≤ w2.heap.size := Blk.lt h.z
theorem Boxes3.base : ∀ {w w2 : World} {r c : Int} {x : Value} {a : Look}, Boxes3 w w2 r c x a → w.heap.size ≤ w2.heap.size := fun h => h.two.below.size

/-- The lines of a grid are its rows. -/
theorem rows_kept {R C : Nat} {rs : List (List Cl)} (h : Rws R C rs) (cv : Nat → Value) : rowsOfL C (keptOf cv rs.flatten C (List.range R)) = rs := by
  refine rows_ext (by unfold rowsOfL; rw [List.length_map, keptOf_length, List.length_range, h.len]) fun i hi => ?_
  unfold rowsOfL at hi ⊢
  rw [List.length_map, keptOf_length, List.length_range] at hi
  rw [← rowAt_flat h.even (by rw [h.len]; exact hi)]
  unfold rowOf keptOf
  simp [hi, lrow]
theorem kept_ok {w : World} {R C : Nat} {rs : List (List Cl)} (h : Rws R C rs) {cv : Nat → Value} (hcv : ∀ i, i < R → Rm w (cv i) (rowAt rs.flatten C i)) : LnsOk w C (keptOf cv rs.flatten C (List.range R)) := by
  intro x hx
  obtain ⟨i, hi, rfl⟩ := List.mem_map.1 hx
  have hi := List.mem_range.1 hi
  exact ⟨hcv i hi, by rw [rowAt_flat h.even (by rw [h.len]; exact hi)]; exact h.rlen hi⟩
def upLns (l : List Ln) (top bot m : Nat) (a : Look) : List Ln := [l.take top, (l.drop (top + m)).take (bot + 1 - (top + m)), List.replicate m (.empty a), l.drop (bot + 1)].flatten
def downLns (l : List Ln) (top bot m : Nat) (a : Look) : List Ln := [l.take top, List.replicate m (.empty a), (l.drop top).take (bot + 1 - m - top), l.drop (bot + 1)].flatten
theorem rowsOfL_append (c : Nat) (a b : List Ln) : rowsOfL c (a ++ b) = rowsOfL c a ++ rowsOfL c b := List.map_append
theorem rowsOfL_take (c k : Nat) (a : List Ln) : rowsOfL c (a.take k) = (rowsOfL c a).take k := List.map_take
theorem rowsOfL_drop (c k : Nat) (a : List Ln) : rowsOfL c (a.drop k) = (rowsOfL c a).drop k := List.map_drop
theorem rowsOfL_rep (c k : Nat) (a : Look) : rowsOfL c (List.replicate k (.empty a)) = List.replicate k (blankRow c a) := by unfold rowsOfL; rw [List.map_replicate]; rfl
theorem up_lns (l : List Ln) (top bot m c : Nat) (a : Look) : rowsOfL c (upLns l top bot m a) = upRows (rowsOfL c l) top bot m c a := by
  unfold upLns upRows
  simp only [List.flatten_cons, List.flatten_nil, List.append_nil, rowsOfL_append, rowsOfL_take, rowsOfL_drop, rowsOfL_rep]
theorem down_lns (l : List Ln) (top bot m c : Nat) (a : Look) : rowsOfL c (downLns l top bot m a) = downRows (rowsOfL c l) top bot m c a := by
  unfold downLns downRows
  simp only [List.flatten_cons, List.flatten_nil, List.append_nil, rowsOfL_append, rowsOfL_take, rowsOfL_drop, rowsOfL_rep]
theorem up_ok {w : World} {c : Nat} {l : List Ln} (h : LnsOk w c l) (top bot m : Nat) {a : Look} (ha : attrOk a = true) : LnsOk w c (upLns l top bot m a) := by
  intro x hx
  simp only [upLns, List.flatten_cons, List.flatten_nil, List.append_nil, List.mem_append] at hx
  rcases hx with hx | hx | hx | hx
  · exact h x (List.mem_of_mem_take hx)
  · exact h x (List.mem_of_mem_drop (List.mem_of_mem_take hx))
  · rw [(List.mem_replicate.1 hx).2]; exact ha
  · exact h x (List.mem_of_mem_drop hx)
theorem down_ok {w : World} {c : Nat} {l : List Ln} (h : LnsOk w c l) (top bot m : Nat) {a : Look} (ha : attrOk a = true) : LnsOk w c (downLns l top bot m a) := by
  intro x hx
  simp only [downLns, List.flatten_cons, List.flatten_nil, List.append_nil, List.mem_append] at hx
  rcases hx with hx | hx | hx | hx
  · exact h x (List.mem_of_mem_take hx)
  · rw [(List.mem_replicate.1 hx).2]; exact ha
  · exact h x (List.mem_of_mem_drop (List.mem_of_mem_take hx))
  · exact h x (List.mem_of_mem_drop hx)
theorem up_len {l : List Ln} {top bot m : Nat} (a : Look) (h1 : top + m ≤ bot + 1) (h2 : bot + 1 ≤ l.length) : (upLns l top bot m a).length = l.length := by
  simp only [upLns, List.flatten_cons, List.flatten_nil, List.append_nil, List.length_append, List.length_take, List.length_drop, List.length_replicate]; omega
theorem down_len {l : List Ln} {top bot m : Nat} (a : Look) (h1 : top + m ≤ bot + 1) (h2 : bot + 1 ≤ l.length) : (downLns l top bot m a).length = l.length := by
  simp only [downLns, List.flatten_cons, List.flatten_nil, List.append_nil, List.length_append, List.length_take, List.length_drop, List.length_replicate]; omega

end Row
end Go.Proofs.YtgjpojaegjdjcabDoor
end
section
/- The developers' Resize, where a grid may be resized. -/
namespace Go.Proofs.YtgjpojaegjdjcabDoor
set_option maxRecDepth 100000
open Go.RowKit
namespace Row

theorem Boxes.set {w w2 : World} {r c : Int} {x : Value} {a : Look} (h : Boxes w w2 r c x a) {b : Nat} (hb : w.heap.size + 2 ≤ b) (j : Nat) (u : Value) : Boxes w (w2.setCell ⟨b, j, none⟩ u) r c x a :=
  ⟨Blk.other h.g (by omega) _ _, Blk.other h.a (by omega) _ _, h.below.setCell (p := ⟨b, j, none⟩) (by show w.heap.size ≤ b; omega) _⟩
theorem Boxes3.set {w w2 : World} {r c : Int} {x : Value} {a : Look} (h : Boxes3 w w2 r c x a) {b : Nat} (hb : w.heap.size + 3 ≤ b) (j : Nat) (u : Value) : Boxes3 w (w2.setCell ⟨b, j, none⟩ u) r c x a :=
  ⟨h.two.set (by omega) _ _, Blk.other h.z (by omega) _ _⟩
theorem Boxes3.grown {w w2 w3 : World} {r c : Int} {x : Value} {a : Look} (h : Boxes3 w w2 r c x a) {row : Option Nat} (hg : w2.grownBy w3 row) (hr : ∀ k, row = some k → w.heap.size + 3 ≤ k) : Boxes3 w w3 r c x a :=
  ⟨⟨box_grown h.two.g hg (fun e => by have := hr _ e.symm; omega), box_grown h.two.a hg (fun e => by have := hr _ e.symm; omega), h.two.below.grown hg h.base (fun k e => by have := hr k e; omega)⟩, box_grown h.z hg (fun e => by have := hr _ e.symm; omega)⟩
theorem getD_set_same {l : List Ln} {k : Nat} (h : k < l.length) (x : Ln) : (l.set k x).getD k default = x := by simp [h]
theorem getD_set_ne {l : List Ln} {j k : Nat} (h : k ≠ j) (x : Ln) : (l.set k x).getD j default = l.getD j default := by simp [List.getElem?_set_ne h]
theorem lnsOk_of {w : World} {c : Nat} {l : List Ln} (h : ∀ j, j < l.length → LnOk w c (l.getD j default)) : LnsOk w c l := by
  intro x hx
  obtain ⟨i, hi, rfl⟩ := List.getElem_of_mem hx
  have := h i hi
  simpa [hi] using this
theorem rowOf_rowsOfL {c i : Nat} {l : List Ln} (h : i < l.length) : rowOf (rowsOfL c l) i = lrow c (l.getD i default) := by
  simp [rowOf, rowsOfL, h]
/-- Fitted rows, and empty ones below. -/
theorem fit_lns {rs : List (List Cl)} {r c m : Nat} {a : Look} {xs : List Ln} (hm : m = min r rs.length) (hx : xs.length = m) (h : ∀ j, j < m → lrow c (xs.getD j default) = fitRow (rowOf rs j) c a) :
    rowsOfL c (xs ++ List.replicate (r - m) (.empty a)) = Row.fitted rs r c a := by
  have hl : (rowsOfL c (xs ++ List.replicate (r - m) (.empty a))).length = r := by
    unfold rowsOfL; rw [List.length_map, List.length_append, List.length_replicate]; omega
  refine rows_ext (by rw [hl]; unfold Row.fitted; rw [List.length_map, List.length_range]) fun i hi => ?_
  rw [hl] at hi
  unfold Row.fitted
  rw [rowOf_map _ hi, rowsOfL_append, rowsOfL_rep]
  have hxl : (rowsOfL c xs).length = m := by unfold rowsOfL; rw [List.length_map, hx]
  by_cases h1 : i < m
  · rw [rowOf_append_left (by omega), rowOf_rowsOfL (by omega), h i h1, if_pos (by omega)]
  · rw [rowOf_append_right (by omega), hxl, rowOf_rep _ (by omega), if_neg (by omega)]
theorem kept_get {cv : Nat → Value} {l : List Cl} {C R j : Nat} (h : j < R) : (keptOf cv l C (List.range R)).getD j default = .kept (cv j) (rowAt l C j) := by
  unfold keptOf; simp [h]
theorem Cs.move {w w' : World} {x : Value} {l : List Cl} (h : Cs w x l) (k : ∀ (ad : Addr) (n c : Nat) (j : Nat) (u : Value), x = .slice (some ad) n c → w.cell? (ad.add j) = some u → w'.cell? (ad.add j) = some u) : Cs w' x l := by
  refine ⟨h.1, h.2.1, ?_⟩
  rcases h.2.2 with h0 | ⟨ad, c, rfl, hc⟩
  · exact .inl h0
  · refine .inr ⟨ad, c, rfl, fun i r hr j u hu => ?_⟩
    have := hc i r hr j u hu
    rw [Go.Deep.add_add] at this ⊢
    exact k ad _ _ _ _ rfl this
theorem Rm.set {w : World} {x : Value} {l : List Cl} {g : Nat} (h : Rm w x l) (ho : Off g x) (j : Nat) (u : Value) : Rm (w.setCell ⟨g, j, none⟩ u) x l :=
  ⟨h.1.move fun ad n c i v e hv => by rw [World.cell?_setCell_other _ _ _ _ (fun e2 => ho ad n c e (by rw [← add_block ad i, ← e2]))]; exact hv, h.2⟩
theorem Rm.grown {w w' : World} {x : Value} {l : List Cl} {row : Option Nat} (h : Rm w x l) (hg : w.grownBy w' row) (ho : ∀ k, row = some k → Off k x) : Rm w' x l :=
  ⟨h.1.move fun ad n c i v e hv => by
    have hb := World.block_lt_of_cell? w _ hv
    have hk := hg.block (ad.add i).block hb (fun e2 => ho _ e2.symm ad n c e (add_block ad i).symm)
    unfold World.cell? at hv ⊢
    rw [hk]; exact hv, h.2⟩
/-- What was there lies in no later block. -/
theorem Rm.off {w : World} {x : Value} {l : List Cl} {g : Nat} (h : Rm w x l) (h0 : 0 < l.length) (hg : w.heap.size ≤ g) : Off g x := by
  intro ad n c e
  subst e
  have := h.1.flat.2 0 (.int .i64 (Row.g l 0).rune) (by have := flat_get h0 (show 0 < 6 by decide); simpa [cvals] using this)
  have hb := World.block_lt_of_cell? w _ this
  rw [add_block] at hb
  omega
end Row
end Go.Proofs.YtgjpojaegjdjcabDoor
end
