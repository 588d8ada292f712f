/- Joined texts: ScrSame3, ScrMs. -/
import Derived.Test.YtceaoadlhdgnmaaGreatDoorM118
namespace Go.Proofs.YtceaoadlhdgnmaaGreatDoor
set_option maxRecDepth 100000
section
open Go.RowKit
namespace Scr
open Go.Proofs.YtceaoadlhdgnmaaGreatDoor.Row
def Far (w w' : World) (x y z : Value) : Prop := ∀ (g : Nat) (o : Obj), x.ownBlock ≠ some g → y.ownBlock ≠ some g → z.ownBlock ≠ some g → w.heap[g]? = some o → w'.heap[g]? = some o
set_option maxHeartbeats 1600000 in
theorem screen_over2 (s : S) (x y z : Value) (base : Nat) (w : World) (h : Own w base s x y z) (hl : Lens s) (hb : base ≤ w.heap.size) :
    Calls Tryz.prog 68 #[sv s x y z] w fun e w' => e = .returned (.tuple #[]) ∧ Below base w w' ∧ Boxes w w' ∧ Far w w' x y z := by
  have HA := Lib.hid (h.kept (bel_alloc w (.cells (sarr s x y z) 36)))
  have H0 : Hid (SBox (w.alloc (.cells (sarr s x y z) 36)) w.heap.size s x y z) := Lib.hid (SBox.new w s x y z)
  have HB0 : Hid (Below base w (w.alloc (.cells (sarr s x y z) 36))) := Lib.hid ((Below.refl _ _).alloc hb _)
  have HX0 := Lib.hid (boxes_alloc w (.cells (sarr s x y z) 36))
  have HL := Lib.hid hl
  clear h hl
  go_enter Tryz.func68, Tryz.ntmps68
  go_wp2_with fail
  refine (cells_over s.main.cells x base _ HA.out.m (by have := HL.out.m; omega)).mono ?_; rintro e w1 ⟨rfl, hbl, hsh, hon⟩
  have HF1 : Hid (∀ g o, x.ownBlock ≠ some g → w.heap[g]? = some o → w1.heap[g]? = some o) := Lib.hid fun g o h1 e => hon g o h1 (old_alloc e _)
  have HX1 : Hid (Boxes w w1) := Lib.hid (HX0.out.trans fun g A e => hon _ _ (scr_ne HA.out.m e) e)
  have H1 : Hid (SBox w1 w.heap.size s x y z) := Lib.hid (hon _ _ (scr_ne HA.out.m H0.out) H0.out)
  have HB1 := Lib.hid (HB0.out.trans hbl)
  have HO1 := Lib.hid (hsh.1 _ _ _ HA.out.o)
  have HT1 := Lib.hid (hsh.2 _ _ _ HA.out.t)
  clear hbl hsh hon HA H0 HB0 HX0
  have c1 : ∀ j, w1.cell? ⟨w.heap.size, j, none⟩ = (sarr s x y z)[j]? := H1.out.cell
  go_wp2_with fail
  obtain ⟨m', hm', ho'⟩ := HO1.out
  refine (cells_over m' y base _ ho' (by have := HL.out.o; omega)).mono ?_; rintro e w2 ⟨rfl, hbl, hsh, hon⟩
  have HF2 : Hid (∀ g o, x.ownBlock ≠ some g → y.ownBlock ≠ some g → w.heap[g]? = some o → w2.heap[g]? = some o) := Lib.hid fun g o h1 h2 e => hon g o h2 (HF1.out g o h1 e)
  have HX2 : Hid (Boxes w w2) := Lib.hid (HX1.out.trans fun g A e => hon _ _ (scr_ne ho' e) e)
  have H2 : Hid (SBox w2 w.heap.size s x y z) := Lib.hid (hon _ _ (scr_ne ho' H1.out) H1.out)
  have HB2 := Lib.hid (HB1.out.trans hbl)
  have HT2 := Lib.hid (hsh.2 _ _ _ HT1.out)
  clear hbl hsh hon H1 c1 HB1 HO1 hm' ho' HX1
  have c2 : ∀ j, w2.cell? ⟨w.heap.size, j, none⟩ = (sarr s x y z)[j]? := H2.out.cell
  go_wp2_with fail
  refine (bools_over s.tabs _ HT2.out (by have := HL.out.t; omega)).mono ?_; rintro e w3 ⟨rfl, hbl, hon⟩
  have HF3 : Hid (Far w w3 x y z) := Lib.hid fun g o h1 h2 h3 e => hon g o h3 (HF2.out g o h1 h2 e)
  have HX3 : Hid (Boxes w w3) := Lib.hid (HX2.out.trans fun g A e => hon _ _ (scr_neB HT2.out e) e)
  have HB3 := Lib.hid (HB2.out.trans hbl)
  clear hbl hon
  go_wp2_with fail
  go_end0
  exact ⟨rfl, HB3.out, HX3.out, HF3.out⟩
set_option maxHeartbeats 6400000 in
theorem same_yes2 (base : Nat) (X : S) (x y z x' y' z' : Value) (s : S) (xi yi zi xs ys zs : Value) (w : World) (hb : base ≤ w.heap.size) (hx : Own w base X x y z) (hw : In w X x' y' z')
    (hi : ∀ w', Below base w w' → In w' s xi yi zi) (hs : ∀ w', Below base w w' → In w' s xs ys zs) (hl : Lens X) (hl2 : Lens s) :
    Calls Tryz.prog 21 #[sv X x y z, .int .i64 0, .bool true, sv X x' y' z', sv s xi yi zi, sv s xs ys zs] w fun e w' => e = .returned (.bool true) ∧ Below base w w' ∧ Boxes w w' ∧ Far w w' x y z := by
  have H0 := Lib.hid (Sm.start (s := s) (xi := xi) (yi := yi) (zi := zi) (xs := xs) (ys := ys) (zs := zs) hb hx hw)
  have HB := Lib.hid hb
  have HI := Lib.hid hi
  have HS := Lib.hid hs
  have HL := Lib.hid hl
  have HL2 := Lib.hid hl2
  clear hb hx hw hi hs hl hl2
  go_enter Tryz.func21, Tryz.ntmps21
  go_upto_region 5 with (fail)
  change Code.wp _ _ _ _ ((((w.alloc (.cells (sarr X x y z) 36)).alloc (.cells (sarr X x' y' z') 36)).alloc (.cells (sarr s xi yi zi) 36)).alloc (.cells (sarr s xs ys zs) 36))
  have HU : Hid (base ≤ ((((w.alloc (.cells (sarr X x y z) 36)).alloc (.cells (sarr X x' y' z') 36)).alloc (.cells (sarr s xi yi zi) 36)).alloc (.cells (sarr s xs ys zs) 36)).heap.size) := Lib.hid (Nat.le_trans HB.out (four_below _ _ _ _ _).size)
  have HK1 : Hid (∀ (g : Nat) (o : Obj), w.heap[g]? = some o → ((((w.alloc (.cells (sarr X x y z) 36)).alloc (.cells (sarr X x' y' z') 36)).alloc (.cells (sarr s xi yi zi) 36)).alloc (.cells (sarr s xs ys zs) 36)).heap[g]? = some o) := Lib.hid fun g o e => Blk.kept e (four_below _ _ _ _ _)
  generalize ((((w.alloc (.cells (sarr X x y z) 36)).alloc (.cells (sarr X x' y' z') 36)).alloc (.cells (sarr s xi yi zi) 36)).alloc (.cells (sarr s xs ys zs) 36)) = w1 at H0 HU HK1 ⊢
  go_wp2_with fail
  refine (num8 0 w1).mono ?_; rintro e w1' ⟨rfl, rfl⟩
  go_wp2_with (first
    | (refine wp_loadS (b := w.heap.size) (s := X) rfl rfl rfl H0.out.b0 ?_)
    | (refine wp_loadS (b := w.heap.size + 1) (s := X) rfl rfl rfl H0.out.b1 ?_))
  refine (eqScreen_same X x y z x' y' z' w1 H0.out.own.in_ H0.out.want HL.out).mono ?_; rintro e w2 ⟨rfl, hb⟩
  have H2 := Lib.hid (H0.out.kept HU.out hb)
  have HK2 : Hid (∀ (g : Nat) (o : Obj), w.heap[g]? = some o → w2.heap[g]? = some o) := Lib.hid fun g o e => Blk.kept (HK1.out g o e) hb
  have HU2 : Hid (base ≤ w2.heap.size) := Lib.hid (Nat.le_trans HU.out hb.size)
  clear hb H0 HU
  go_wp2_with (first
    | (refine wp_loadS (b := w.heap.size + 2) (s := s) rfl rfl rfl H2.out.b2 ?_)
    | (refine wp_loadS (b := w.heap.size + 3) (s := s) rfl rfl rfl H2.out.b3 ?_))
  refine (eqScreen_same s xi yi zi xs ys zs w2 (HI.out _ H2.out.bel) (HS.out _ H2.out.bel) HL2.out).mono ?_; rintro e w3 ⟨rfl, hb⟩
  have H3 := Lib.hid (H2.out.kept HU2.out hb)
  have HK3 : Hid (∀ (g : Nat) (o : Obj), w.heap[g]? = some o → w3.heap[g]? = some o) := Lib.hid fun g o e => Blk.kept (HK2.out g o e) hb
  have HU3 : Hid (base ≤ w3.heap.size) := Lib.hid (Nat.le_trans HU2.out hb.size)
  clear hb H2 HU2
  go_wp2_with (refine wp_loadS (b := w.heap.size) (s := X) rfl rfl rfl H3.out.b0 ?_)
  refine (screen_over2 X x y z base w3 H3.out.own HL.out HU3.out).mono ?_; rintro e w4 ⟨rfl, hbl, hbx, hfr⟩
  have HK4 : Hid (Far w w4 x y z) := Lib.hid fun g o h1 h2 h3 e => hfr g o h1 h2 h3 (HK3.out g o e)
  have H4 : Hid (Sm2 base w s xi yi zi xs ys zs w4) := Lib.hid ⟨H3.out.bel.trans hbl, hbx _ _ H3.out.b2, hbx _ _ H3.out.b3, H3.out.bx.trans hbx⟩
  have HU4 : Hid (base ≤ w4.heap.size) := Lib.hid (Nat.le_trans HU3.out hbl.size)
  clear hbl hbx hfr H3 HU3
  go_wp2_with (first
    | (refine wp_loadS (b := w.heap.size + 2) (s := s) rfl rfl rfl H4.out.b2 ?_)
    | (refine wp_loadS (b := w.heap.size + 3) (s := s) rfl rfl rfl H4.out.b3 ?_))
  refine (eqScreen_same s xi yi zi xs ys zs w4 (HI.out _ H4.out.bel) (HS.out _ H4.out.bel) HL2.out).mono ?_; rintro e w5 ⟨rfl, hb⟩
  have H5 := Lib.hid (And.intro (H4.out.bel.trans (hb.mono HU4.out)) (H4.out.bx.trans (boxes_bel hb)))
  have HK5 : Hid (Far w w5 x y z) := Lib.hid fun g o h1 h2 h3 e => Blk.kept (HK4.out g o h1 h2 h3 e) hb
  clear hb H4 HU4
  go_wp2_with fail
  go_ret
  exact ⟨rfl, H5.out.1, H5.out.2, HK5.out⟩
set_option maxHeartbeats 6400000 in
theorem same_no2 (base : Nat) (W : S) (x' y' z' : Value) (s : S) (xi yi zi xs ys zs : Value) (w : World) (hb : base ≤ w.heap.size)
    (hi : ∀ w', Below base w w' → In w' s xi yi zi) (hs : ∀ w', Below base w w' → In w' s xs ys zs) (hl2 : Lens s) :
    Calls Tryz.prog 21 #[sv noS nilS nilS nilS, .int .i64 1, .bool false, sv W x' y' z', sv s xi yi zi, sv s xs ys zs] w fun e w' => e = .returned (.bool true) ∧ Below base w w' ∧ Boxes w w' ∧ Far w w' nilS nilS nilS := by
  have HB := Lib.hid hb
  have HI := Lib.hid hi
  have HS := Lib.hid hs
  have HL := Lib.hid lens_no
  have HL2 := Lib.hid hl2
  have HO : Hid (((((w.alloc (.cells (sarr noS nilS nilS nilS) 36)).alloc (.cells (sarr W x' y' z') 36)).alloc (.cells (sarr s xi yi zi) 36)).alloc (.cells (sarr s xs ys zs) 36)).heap[w.heap.size + 1]? = some (.cells (sarr W x' y' z') 36 (0, 0))) := Lib.hid (four_1 _ _ _ _ _)
  have HKS : Hid (∀ w1, Sto ((((w.alloc (.cells (sarr noS nilS nilS nilS) 36)).alloc (.cells (sarr W x' y' z') 36)).alloc (.cells (sarr s xi yi zi) 36)).alloc (.cells (sarr s xs ys zs) 36)) (w.heap.size + 1) zarr w1 → ∀ (g : Nat) (o : Obj), w.heap[g]? = some o → w1.heap[g]? = some o) := Lib.hid fun w1 h1 g o e => (h1.other _ (by have := Blk.lt e; omega)).trans (Blk.kept e (four_below _ _ _ _ _))
  have HK : Hid (∀ w1, Sto ((((w.alloc (.cells (sarr noS nilS nilS nilS) 36)).alloc (.cells (sarr W x' y' z') 36)).alloc (.cells (sarr s xi yi zi) 36)).alloc (.cells (sarr s xs ys zs) 36)) (w.heap.size + 1) zarr w1 → Sm base w noS nilS nilS nilS nilS nilS nilS s xi yi zi xs ys zs w1) := Lib.hid fun w1 h1 =>
    ⟨h1.below _ _ (by omega) ((four_below _ _ _ _ _).mono hb), (h1.other _ (by omega)).trans (four_old _ _ _ _ _), h1.box, (h1.other _ (by omega)).trans (four_2 _ _ _ _ _), (h1.other _ (by omega)).trans (four_3 _ _ _ _ _), own_nil _ _, (own_nil _ base).in_, fun g A e => (h1.other _ (by have := Blk.lt e; omega)).trans (boxes_bel (four_below _ _ _ _ _) g A e)⟩
  clear hb hi hs hl2
  go_enter Tryz.func21, Tryz.ntmps21
  go_upto_region 5 with (refine wp_storeS_then (b := w.heap.size + 1) (A := zarr) (T := fun w1 => Sm base w noS nilS nilS nilS nilS nilS nilS s xi yi zi xs ys zs w1 ∧ ∀ (g : Nat) (o : Obj), w.heap[g]? = some o → w1.heap[g]? = some o) rfl rfl rfl rfl rfl (sarr_one rfl rfl rfl) HO.out rfl (fun w1 k => ⟨HK.out w1 k, HKS.out w1 k⟩) ?_; intro w1 H00; have H0 := Lib.hid H00.out.1; have HK1 := Lib.hid H00.out.2; clear H00)
  have HU : Hid (base ≤ w1.heap.size) := Lib.hid (Nat.le_trans HB.out (by have := Blk.lt H0.out.b0; omega))
  go_wp2_with fail
  refine (num8 1 w1).mono ?_; rintro e w1' ⟨rfl, rfl⟩
  go_wp2_with (first
    | (refine wp_loadS (b := w.heap.size) (s := noS) rfl rfl rfl H0.out.b0 ?_)
    | (refine wp_loadS (b := w.heap.size + 1) (s := noS) rfl rfl rfl H0.out.b1 ?_))
  refine (eqScreen_same noS nilS nilS nilS nilS nilS nilS w1 H0.out.own.in_ H0.out.want HL.out).mono ?_; rintro e w2 ⟨rfl, hb⟩
  have H2 := Lib.hid (H0.out.kept HU.out hb)
  have HK2 : Hid (∀ (g : Nat) (o : Obj), w.heap[g]? = some o → w2.heap[g]? = some o) := Lib.hid fun g o e => Blk.kept (HK1.out g o e) hb
  have HU2 : Hid (base ≤ w2.heap.size) := Lib.hid (Nat.le_trans HU.out hb.size)
  clear hb H0 HU
  go_wp2_with (first
    | (refine wp_loadS (b := w.heap.size + 2) (s := s) rfl rfl rfl H2.out.b2 ?_)
    | (refine wp_loadS (b := w.heap.size + 3) (s := s) rfl rfl rfl H2.out.b3 ?_))
  refine (eqScreen_same s xi yi zi xs ys zs w2 (HI.out _ H2.out.bel) (HS.out _ H2.out.bel) HL2.out).mono ?_; rintro e w3 ⟨rfl, hb⟩
  have H3 := Lib.hid (H2.out.kept HU2.out hb)
  have HK3 : Hid (∀ (g : Nat) (o : Obj), w.heap[g]? = some o → w3.heap[g]? = some o) := Lib.hid fun g o e => Blk.kept (HK2.out g o e) hb
  have HU3 : Hid (base ≤ w3.heap.size) := Lib.hid (Nat.le_trans HU2.out hb.size)
  clear hb H2 HU2
  go_wp2_with (refine wp_loadS (b := w.heap.size) (s := noS) rfl rfl rfl H3.out.b0 ?_)
  refine (screen_over2 noS nilS nilS nilS base w3 H3.out.own HL.out HU3.out).mono ?_; rintro e w4 ⟨rfl, hbl, hbx, hfr⟩
  have HK4 : Hid (Far w w4 nilS nilS nilS) := Lib.hid fun g o h1 h2 h3 e => hfr g o h1 h2 h3 (HK3.out g o e)
  have H4 : Hid (Sm2 base w s xi yi zi xs ys zs w4) := Lib.hid ⟨H3.out.bel.trans hbl, hbx _ _ H3.out.b2, hbx _ _ H3.out.b3, H3.out.bx.trans hbx⟩
  have HU4 : Hid (base ≤ w4.heap.size) := Lib.hid (Nat.le_trans HU3.out hbl.size)
  clear hbl hbx hfr H3 HU3
  go_wp2_with (first
    | (refine wp_loadS (b := w.heap.size + 2) (s := s) rfl rfl rfl H4.out.b2 ?_)
    | (refine wp_loadS (b := w.heap.size + 3) (s := s) rfl rfl rfl H4.out.b3 ?_))
  refine (eqScreen_same s xi yi zi xs ys zs w4 (HI.out _ H4.out.bel) (HS.out _ H4.out.bel) HL2.out).mono ?_; rintro e w5 ⟨rfl, hb⟩
  have H5 := Lib.hid (And.intro (H4.out.bel.trans (hb.mono HU4.out)) (H4.out.bx.trans (boxes_bel hb)))
  have HK5 : Hid (Far w w5 nilS nilS nilS) := Lib.hid fun g o h1 h2 h3 e => Blk.kept (HK4.out g o h1 h2 h3 e) hb
  clear hb H4 HU4
  go_wp2_with fail
  go_ret
  exact ⟨rfl, H5.out.1, H5.out.2, HK5.out⟩
theorem same_any2 (may : Bool) (base : Nat) (X W : S) (x y z x' y' z' : Value) (code : Int) (s : S) (xi yi zi xs ys zs : Value) (w : World) (hb : base ≤ w.heap.size) (hc : code = codeB may)
    (h1 : may = true → W = X ∧ Own w base X x y z ∧ In w X x' y' z' ∧ Lens X) (h0 : may = false → X = noS ∧ x = nilS ∧ y = nilS ∧ z = nilS)
    (hi : ∀ w', Below base w w' → In w' s xi yi zi) (hs : ∀ w', Below base w w' → In w' s xs ys zs) (hl2 : Lens s) :
    Calls Tryz.prog 21 #[sv X x y z, .int .i64 code, .bool may, sv W x' y' z', sv s xi yi zi, sv s xs ys zs] w fun e w' => e = .returned (.bool true) ∧ Below base w w' ∧ Boxes w w' ∧ Far w w' x y z := by
  subst hc
  cases may
  · obtain ⟨rfl, rfl, rfl, rfl⟩ := h0 rfl
    exact same_no2 base W x' y' z' s xi yi zi xs ys zs w hb hi hs hl2
  · obtain ⟨rfl, h2, h3, h4⟩ := h1 rfl
    exact same_yes2 base W x y z x' y' z' s xi yi zi xs ys zs w hb h2 h3 hi hs h4 hl2
theorem own_far {w w' : World} {base : Nat} {s : S} {a b c x y z : Value} (h : Own w base s a b c) (hf : Far w w' x y z) (hx : ∀ k, x.ownBlock = some k → k < base) (hy : ∀ k, y.ownBlock = some k → k < base) (hz : ∀ k, z.ownBlock = some k → k < base) : Own w' base s a b c := by
  have kk : ∀ (g : Nat) (o : Obj), base ≤ g → w.heap[g]? = some o → w'.heap[g]? = some o := fun g o hg e =>
    hf g o (fun q => by have := hx g q; omega) (fun q => by have := hy g q; omega) (fun q => by have := hz g q; omega) e
  have k1 : ∀ {v : Value} {l : List Cl}, OwnCs w base v l → OwnCs w' base v l := fun {v l} hv => by
    refine ⟨hv.1, ?_⟩
    rcases hv.2 with h0 | ⟨g, cap, cur, rfl, hg, hc, rest⟩
    · exact .inl h0
    · exact .inr ⟨g, cap, cur, rfl, hg, kk g _ hg hc, rest⟩
  refine ⟨k1 h.m, k1 h.o, h.t.1, ?_⟩
  rcases h.t.2 with h0 | ⟨g, cap, cur, hv, hg, hc, rest⟩
  · exact .inl h0
  · exact .inr ⟨g, cap, cur, hv, hg, kk g _ hg hc, rest⟩
end Scr
end
section
open Go.RowKit
namespace Scr
open Go.Proofs.YtceaoadlhdgnmaaGreatDoor.Row
structure Ms (w : World) (v : Value) (n m k r : Int) (L O : List (Nat × Sc)) (W : World) : Prop where
  run : Run w W v n m k r
  box : ∀ p, p ∈ L → SBox W p.1 p.2.s p.2.x p.2.y p.2.z
  own : ∀ p, p ∈ O → Own W p.1 p.2.s p.2.x p.2.y p.2.z
section
variable {w W W' : World} {v : Value} {n m k r : Int} {L O : List (Nat × Sc)}
theorem Ms.bx (h : Ms w v n m k r L O W) (i : Nat) {b : Nat} {e : Sc} (hp : L[i]? = some (b, e)) : SBox W b e.s e.x e.y e.z := h.box _ (List.mem_of_getElem? hp)
theorem Ms.ow (h : Ms w v n m k r L O W) (i : Nat) {b : Nat} {e : Sc} (hp : O[i]? = some (b, e)) : Own W b e.s e.x e.y e.z := h.own _ (List.mem_of_getElem? hp)
theorem Ms.kept (h : Ms w v n m k r L O W) (hb : Below W.heap.size W W') : Ms w v n m k r L O W' := ⟨h.run.kept hb, fun p hp => (h.box p hp).kept hb, fun p hp => (h.own p hp).kept hb⟩
theorem Ms.lt (h : Ms w v n m k r L O W) : ∀ p, p ∈ L → p.1 < W.heap.size := fun p hp => Blk.lt (h.box p hp)
theorem Ms.more (h : Ms w v n m k r L O W) {B : Nat} {e : Sc} (ho : Own W B e.s e.x e.y e.z) (hs : Sto (W.alloc (.cells zarr 36)) W.heap.size (sarr e.s e.x e.y e.z) W') : Ms w v n m k r ((W.heap.size, e) :: L) ((B, e) :: O) W' := by
  obtain ⟨h1, h2⟩ := bx_sto ho.in_ hs
  refine ⟨h.run.kept h2, fun p hp => ?_, fun p hp => ?_⟩
  · rcases List.mem_cons.1 hp with rfl | hp
    · exact h1.box
    · exact (h.box p hp).kept h2
  · rcases List.mem_cons.1 hp with rfl | hp
    · exact ho.kept h2
    · exact (h.own p hp).kept h2
theorem Ms.fresh (h : Ms w v n m k r L O W) : Ms w v n m k r ((W.heap.size, ⟨noS, nilS, nilS, nilS⟩) :: L) O (W.alloc (.cells zarr 36)) := by
  have h2 := bel_alloc W (.cells zarr 36)
  refine ⟨h.run.kept h2, fun p hp => ?_, fun p hp => (h.own p hp).kept h2⟩
  rcases List.mem_cons.1 hp with rfl | hp
  · exact heap_alloc_new _ _
  · exact (h.box p hp).kept h2
theorem Ms.put (h : Ms w v n m k r L O W) {b B : Nat} {e old : Sc} {L' : List (Nat × Sc)} (hb : SBox W b old.s old.x old.y old.z) (hw : w.heap.size < b) (ho : Own W B e.s e.x e.y e.z) (hs : Sto W b (sarr e.s e.x e.y e.z) W')
    (hL : ∀ p, p ∈ L' → p = (b, e) ∨ (p ∈ L ∧ p.1 ≠ b)) : Ms w v n m k r L' ((B, e) :: O) W' := by
  refine ⟨⟨hs.below _ _ (Nat.le_of_lt hw) h.run.bel, (hs.other _ (by omega)).trans h.run.box⟩, fun p hp => ?_, fun p hp => ?_⟩
  · rcases hL p hp with rfl | ⟨h1, h2⟩
    · exact hs.box
    · exact hs.boxed h2 (h.box p h1)
  · rcases List.mem_cons.1 hp with rfl | hp
    · exact hs.own2 hb ho
    · exact hs.own2 hb (h.own p hp)
theorem Ms.of (h : Ms w v n m k r L O W) {L' O' : List (Nat × Sc)} (hL : ∀ p, p ∈ L' → p ∈ L) (hO : ∀ p, p ∈ O' → p ∈ O) : Ms w v n m k r L' O' W := ⟨h.run, fun p hp => h.box p (hL p hp), fun p hp => h.own p (hO p hp)⟩
theorem Ms.after (h : Ms w v n m k r L O W) {B : Nat} {x y z : Value} {O' : List (Nat × Sc)} (hB : w.heap.size < B) (hb : Below B W W') (hx : Boxes W W') (hf : Far W W' x y z)
    (hO : ∀ p, p ∈ O' → p ∈ O ∧ (Lt3 p.2.x p.2.y p.2.z B ∨ Lt3 x y z p.1)) : Ms w v n m k r L O' W' := by
  refine ⟨⟨h.run.bel.trans (hb.mono (Nat.le_of_lt hB)), (hb.block _ hB).trans h.run.box⟩, fun p hp => hx _ _ (h.box p hp), fun p hp => ?_⟩
  obtain ⟨h1, h2⟩ := hO p hp
  rcases h2 with h2 | h2
  · exact (h.own p h1).keptB h2 hb
  · exact own_far (h.own p h1) hf h2.x h2.y h2.z
end
theorem Lt3.mono {x y z : Value} {B B2 : Nat} (h : Lt3 x y z B) (hb : B ≤ B2) : Lt3 x y z B2 := ⟨fun k q => Nat.lt_of_lt_of_le (h.x k q) hb, fun k q => Nat.lt_of_lt_of_le (h.y k q) hb, fun k q => Nat.lt_of_lt_of_le (h.z k q) hb⟩
end Scr
end
end Go.Proofs.YtceaoadlhdgnmaaGreatDoor
