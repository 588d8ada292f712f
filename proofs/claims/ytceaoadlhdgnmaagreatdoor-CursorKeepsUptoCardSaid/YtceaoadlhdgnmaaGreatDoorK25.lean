/- Joined texts: ScrSame2. -/
import Derived.Test.YtceaoadlhdgnmaaGreatDoorK17
import Derived.Test.YtceaoadlhdgnmaaGreatDoorK20
import Derived.Test.YtceaoadlhdgnmaaGreatDoorK24
section
/- What the laws on screens ask of each answer: the page's; what was handed in stayed, also when the answer is written over. -/
namespace Go.Proofs.YtceaoadlhdgnmaaGreatDoor
set_option maxRecDepth 100000
open Go.RowKit
namespace Scr
open Go.Proofs.YtceaoadlhdgnmaaGreatDoor.Row

/-- The four boxes: the answer, the page's, what was handed in, what it was; the answer's own memory; what was handed in lies below it. -/
structure Sm (base : Nat) (w0 : World) (X : S) (x y z x' y' z' : Value) (s : S) (xi yi zi xs ys zs : Value) (w : World) : Prop where
  bel : Below base w0 w
  b0 : SBox w w0.heap.size X x y z
  b1 : SBox w (w0.heap.size + 1) X x' y' z'
  b2 : SBox w (w0.heap.size + 2) s xi yi zi
  b3 : SBox w (w0.heap.size + 3) s xs ys zs
  own : Own w base X x y z
  want : In w X x' y' z'
  bx : Boxes w0 w
theorem boxes_bel {w w' : World} (h : Below w.heap.size w w') : Boxes w w' := fun _ _ e => Blk.kept e h
theorem Sm.kept {base : Nat} {w0 w w' : World} {X : S} {x y z x' y' z' : Value} {s : S} {xi yi zi xs ys zs : Value} (h : Sm base w0 X x y z x' y' z' s xi yi zi xs ys zs w) (hs : base ≤ w.heap.size) (hb : Below w.heap.size w w') : Sm base w0 X x y z x' y' z' s xi yi zi xs ys zs w' :=
  ⟨h.bel.trans (hb.mono hs), h.b0.kept hb, h.b1.kept hb, h.b2.kept hb, h.b3.kept hb, h.own.kept hb, h.want.kept hb, h.bx.trans (boxes_bel hb)⟩
/-- Behind an answer that was written over: the boxes of what was handed in. -/
structure Sm2 (base : Nat) (w0 : World) (s : S) (xi yi zi xs ys zs : Value) (w : World) : Prop where
  bel : Below base w0 w
  b2 : SBox w (w0.heap.size + 2) s xi yi zi
  b3 : SBox w (w0.heap.size + 3) s xs ys zs
  bx : Boxes w0 w
theorem four_old (w : World) (a b c d : Obj) : ((((w.alloc a).alloc b).alloc c).alloc d).heap[w.heap.size]? = some a := old_alloc (old_alloc (old_alloc (new_alloc _ _ _ rfl) _) _) _
theorem four_1 (w : World) (a b c d : Obj) : ((((w.alloc a).alloc b).alloc c).alloc d).heap[w.heap.size + 1]? = some b := old_alloc (old_alloc (new_alloc _ _ _ (by simp)) _) _
theorem four_2 (w : World) (a b c d : Obj) : ((((w.alloc a).alloc b).alloc c).alloc d).heap[w.heap.size + 2]? = some c := old_alloc (new_alloc _ _ _ (by simp)) _
theorem four_3 (w : World) (a b c d : Obj) : ((((w.alloc a).alloc b).alloc c).alloc d).heap[w.heap.size + 3]? = some d := new_alloc _ _ _ (by simp)
theorem four_below (w : World) (a b c d : Obj) : Below w.heap.size w ((((w.alloc a).alloc b).alloc c).alloc d) := (((bel_alloc w _).alloc (by simp) _).alloc (by simp; omega) _).alloc (by simp; omega) _
theorem Sm.start {base : Nat} {w : World} {X : S} {x y z x' y' z' : Value} {s : S} {xi yi zi xs ys zs : Value} (hb : base ≤ w.heap.size) (hx : Own w base X x y z) (hw : In w X x' y' z') :
    Sm base w X x y z x' y' z' s xi yi zi xs ys zs ((((w.alloc (.cells (sarr X x y z) 36)).alloc (.cells (sarr X x' y' z') 36)).alloc (.cells (sarr s xi yi zi) 36)).alloc (.cells (sarr s xs ys zs) 36)) :=
  ⟨(four_below _ _ _ _ _).mono hb, four_old _ _ _ _ _, four_1 _ _ _ _ _, four_2 _ _ _ _ _, four_3 _ _ _ _ _, hx.kept (four_below _ _ _ _ _), hw.kept (four_below _ _ _ _ _), boxes_bel (four_below _ _ _ _ _)⟩
set_option maxHeartbeats 6400000 in
theorem same_yes (base : Nat) (X : S) (x y z x' y' z' : Value) (s : S) (xi yi zi xs ys zs : Value) (w : World) (hb : base ≤ w.heap.size) (hx : Own w base X x y z) (hw : In w X x' y' z')
    (hi : ∀ w', Below base w w' → In w' s xi yi zi) (hs : ∀ w', Below base w w' → In w' s xs ys zs) (hl : Lens X) (hl2 : Lens s) :
    Calls Tryz.prog 21 #[sv X x y z, .int .i64 0, .bool true, sv X x' y' z', sv s xi yi zi, sv s xs ys zs] w fun e w' => e = .returned (.bool true) ∧ Below base w w' ∧ Boxes w w' := by
  have H0 := Lib.hid (Sm.start (s := s) (xi := xi) (yi := yi) (zi := zi) (xs := xs) (ys := ys) (zs := zs) hb hx hw)
  have HB := Lib.hid hb
  have HI := Lib.hid hi
  have HS := Lib.hid hs
  have HL := Lib.hid hl
  have HL2 := Lib.hid hl2
  clear hb hx hw hi hs hl hl2
  go_enter Tryz.func21, Tryz.ntmps21
  go_upto_region 5 with (fail)
  change Code.wp _ _ _ _ ((((w.alloc (.cells (sarr X x y z) 36)).alloc (.cells (sarr X x' y' z') 36)).alloc (.cells (sarr s xi yi zi) 36)).alloc (.cells (sarr s xs ys zs) 36))
  have HU : Hid (base ≤ ((((w.alloc (.cells (sarr X x y z) 36)).alloc (.cells (sarr X x' y' z') 36)).alloc (.cells (sarr s xi yi zi) 36)).alloc (.cells (sarr s xs ys zs) 36)).heap.size) := Lib.hid (Nat.le_trans HB.out (four_below _ _ _ _ _).size)
  generalize ((((w.alloc (.cells (sarr X x y z) 36)).alloc (.cells (sarr X x' y' z') 36)).alloc (.cells (sarr s xi yi zi) 36)).alloc (.cells (sarr s xs ys zs) 36)) = w1 at H0 HU ⊢
  go_wp2_with fail
  refine (num8 0 w1).mono ?_; rintro e w1' ⟨rfl, rfl⟩
  go_wp2_with (first
    | (refine wp_loadS (b := w.heap.size) (s := X) rfl rfl rfl H0.out.b0 ?_)
    | (refine wp_loadS (b := w.heap.size + 1) (s := X) rfl rfl rfl H0.out.b1 ?_))
  refine (eqScreen_same X x y z x' y' z' w1 H0.out.own.in_ H0.out.want HL.out).mono ?_; rintro e w2 ⟨rfl, hb⟩
  have H2 := Lib.hid (H0.out.kept HU.out hb)
  have HU2 : Hid (base ≤ w2.heap.size) := Lib.hid (Nat.le_trans HU.out hb.size)
  clear hb H0 HU
  go_wp2_with (first
    | (refine wp_loadS (b := w.heap.size + 2) (s := s) rfl rfl rfl H2.out.b2 ?_)
    | (refine wp_loadS (b := w.heap.size + 3) (s := s) rfl rfl rfl H2.out.b3 ?_))
  refine (eqScreen_same s xi yi zi xs ys zs w2 (HI.out _ H2.out.bel) (HS.out _ H2.out.bel) HL2.out).mono ?_; rintro e w3 ⟨rfl, hb⟩
  have H3 := Lib.hid (H2.out.kept HU2.out hb)
  have HU3 : Hid (base ≤ w3.heap.size) := Lib.hid (Nat.le_trans HU2.out hb.size)
  clear hb H2 HU2
  go_wp2_with (refine wp_loadS (b := w.heap.size) (s := X) rfl rfl rfl H3.out.b0 ?_)
  refine (screen_over X x y z base w3 H3.out.own HL.out HU3.out).mono ?_; rintro e w4 ⟨rfl, hbl, hbx⟩
  have H4 : Hid (Sm2 base w s xi yi zi xs ys zs w4) := Lib.hid ⟨H3.out.bel.trans hbl, hbx _ _ H3.out.b2, hbx _ _ H3.out.b3, H3.out.bx.trans hbx⟩
  have HU4 : Hid (base ≤ w4.heap.size) := Lib.hid (Nat.le_trans HU3.out hbl.size)
  clear hbl hbx H3 HU3
  go_wp2_with (first
    | (refine wp_loadS (b := w.heap.size + 2) (s := s) rfl rfl rfl H4.out.b2 ?_)
    | (refine wp_loadS (b := w.heap.size + 3) (s := s) rfl rfl rfl H4.out.b3 ?_))
  refine (eqScreen_same s xi yi zi xs ys zs w4 (HI.out _ H4.out.bel) (HS.out _ H4.out.bel) HL2.out).mono ?_; rintro e w5 ⟨rfl, hb⟩
  have H5 := Lib.hid (And.intro (H4.out.bel.trans (hb.mono HU4.out)) (H4.out.bx.trans (boxes_bel hb)))
  clear hb H4 HU4
  go_wp2_with fail
  go_ret
  exact ⟨rfl, H5.out.1, H5.out.2⟩
theorem own_nil (w : World) (base : Nat) : Own w base noS nilS nilS nilS := ⟨OwnCs.nil _ _, OwnCs.nil _ _, Tab.OwnB.nil _ _⟩
theorem lens_no : Lens noS := ⟨Nat.zero_le _, Nat.zero_le _, Nat.zero_le _⟩
set_option maxHeartbeats 6400000 in
theorem same_no (base : Nat) (W : S) (x' y' z' : Value) (s : S) (xi yi zi xs ys zs : Value) (w : World) (hb : base ≤ w.heap.size)
    (hi : ∀ w', Below base w w' → In w' s xi yi zi) (hs : ∀ w', Below base w w' → In w' s xs ys zs) (hl2 : Lens s) :
    Calls Tryz.prog 21 #[sv noS nilS nilS nilS, .int .i64 1, .bool false, sv W x' y' z', sv s xi yi zi, sv s xs ys zs] w fun e w' => e = .returned (.bool true) ∧ Below base w w' ∧ Boxes w w' := by
  have HB := Lib.hid hb
  have HI := Lib.hid hi
  have HS := Lib.hid hs
  have HL := Lib.hid lens_no
  have HL2 := Lib.hid hl2
  have HO : Hid (((((w.alloc (.cells (sarr noS nilS nilS nilS) 36)).alloc (.cells (sarr W x' y' z') 36)).alloc (.cells (sarr s xi yi zi) 36)).alloc (.cells (sarr s xs ys zs) 36)).heap[w.heap.size + 1]? = some (.cells (sarr W x' y' z') 36 (0, 0))) := Lib.hid (four_1 _ _ _ _ _)
  have HK : Hid (∀ w1, Sto ((((w.alloc (.cells (sarr noS nilS nilS nilS) 36)).alloc (.cells (sarr W x' y' z') 36)).alloc (.cells (sarr s xi yi zi) 36)).alloc (.cells (sarr s xs ys zs) 36)) (w.heap.size + 1) zarr w1 → Sm base w noS nilS nilS nilS nilS nilS nilS s xi yi zi xs ys zs w1) := Lib.hid fun w1 h1 =>
    ⟨h1.below _ _ (by omega) ((four_below _ _ _ _ _).mono hb), (h1.other _ (by omega)).trans (four_old _ _ _ _ _), h1.box, (h1.other _ (by omega)).trans (four_2 _ _ _ _ _), (h1.other _ (by omega)).trans (four_3 _ _ _ _ _), own_nil _ _, (own_nil _ base).in_, fun g A e => (h1.other _ (by have := Blk.lt e; omega)).trans (boxes_bel (four_below _ _ _ _ _) g A e)⟩
  clear hb hi hs hl2
  go_enter Tryz.func21, Tryz.ntmps21
  go_upto_region 5 with (refine wp_storeS_then (b := w.heap.size + 1) (A := zarr) (T := Sm base w noS nilS nilS nilS nilS nilS nilS s xi yi zi xs ys zs) rfl rfl rfl rfl rfl (sarr_one rfl rfl rfl) HO.out rfl HK.out ?_; intro w1 H0)
  have HU : Hid (base ≤ w1.heap.size) := Lib.hid (Nat.le_trans HB.out (by have := Blk.lt H0.out.b0; omega))
  go_wp2_with fail
  refine (num8 1 w1).mono ?_; rintro e w1' ⟨rfl, rfl⟩
  go_wp2_with (first
    | (refine wp_loadS (b := w.heap.size) (s := noS) rfl rfl rfl H0.out.b0 ?_)
    | (refine wp_loadS (b := w.heap.size + 1) (s := noS) rfl rfl rfl H0.out.b1 ?_))
  refine (eqScreen_same noS nilS nilS nilS nilS nilS nilS w1 H0.out.own.in_ H0.out.want HL.out).mono ?_; rintro e w2 ⟨rfl, hb⟩
  have H2 := Lib.hid (H0.out.kept HU.out hb)
  have HU2 : Hid (base ≤ w2.heap.size) := Lib.hid (Nat.le_trans HU.out hb.size)
  clear hb H0 HU
  go_wp2_with (first
    | (refine wp_loadS (b := w.heap.size + 2) (s := s) rfl rfl rfl H2.out.b2 ?_)
    | (refine wp_loadS (b := w.heap.size + 3) (s := s) rfl rfl rfl H2.out.b3 ?_))
  refine (eqScreen_same s xi yi zi xs ys zs w2 (HI.out _ H2.out.bel) (HS.out _ H2.out.bel) HL2.out).mono ?_; rintro e w3 ⟨rfl, hb⟩
  have H3 := Lib.hid (H2.out.kept HU2.out hb)
  have HU3 : Hid (base ≤ w3.heap.size) := Lib.hid (Nat.le_trans HU2.out hb.size)
  clear hb H2 HU2
  go_wp2_with (refine wp_loadS (b := w.heap.size) (s := noS) rfl rfl rfl H3.out.b0 ?_)
  refine (screen_over noS nilS nilS nilS base w3 H3.out.own HL.out HU3.out).mono ?_; rintro e w4 ⟨rfl, hbl, hbx⟩
  have H4 : Hid (Sm2 base w s xi yi zi xs ys zs w4) := Lib.hid ⟨H3.out.bel.trans hbl, hbx _ _ H3.out.b2, hbx _ _ H3.out.b3, H3.out.bx.trans hbx⟩
  have HU4 : Hid (base ≤ w4.heap.size) := Lib.hid (Nat.le_trans HU3.out hbl.size)
  clear hbl hbx H3 HU3
  go_wp2_with (first
    | (refine wp_loadS (b := w.heap.size + 2) (s := s) rfl rfl rfl H4.out.b2 ?_)
    | (refine wp_loadS (b := w.heap.size + 3) (s := s) rfl rfl rfl H4.out.b3 ?_))
  refine (eqScreen_same s xi yi zi xs ys zs w4 (HI.out _ H4.out.bel) (HS.out _ H4.out.bel) HL2.out).mono ?_; rintro e w5 ⟨rfl, hb⟩
  have H5 := Lib.hid (And.intro (H4.out.bel.trans (hb.mono HU4.out)) (H4.out.bx.trans (boxes_bel hb)))
  clear hb H4 HU4
  go_wp2_with fail
  go_ret
  exact ⟨rfl, H5.out.1, H5.out.2⟩
end Scr
end Go.Proofs.YtceaoadlhdgnmaaGreatDoor
end
