/- What the joined texts left out. -/
import Derived.Test.YtceaoadlhdgnmaaGreatDoorMRestR
import Derived.Test.YtceaoadlhdgnmaaGreatDoorM112
import Derived.Test.YtceaoadlhdgnmaaGreatDoorM226
import Derived.Test.YtceaoadlhdgnmaaGreatDoorM320
import Derived.Lib.ValidU
import Derived.Lib.Walk
import Derived.Laws.Rows
import Derived.Laws.Tables
import Derived.RangeFuncNested
import Derived.RangeFuncBound
import Derived.RangeFuncCalls
import Derived.RangeFuncLeaves
import Derived.Shelf.Abstract
import Derived.Shelf.RegionOpen
import Derived.OwnWalkIn
import Derived.TacticsInMore
import Derived.LoopNIn
import Derived.LoopIn
import Derived.Laws.CopyOwn
import Derived.Lib.AppendZerosOnto
import Derived.Deep.RegionLaw
import Derived.Maps.AppendAt
import Derived.RangeFuncBox
import Derived.Shelf.Strings.BuilderRune
import Derived.Shelf.Strings.BuilderF
import Derived.Lib.SliceRun
import Derived.Laws.CopyRow
import Derived.Deep.DeepCutAuto
import Derived.Deep.CutRange
import Derived.BigQuiet
import Derived.Deep.RegionHeld3
import Derived.BigRegion
import Derived.StillTailTactics
import Derived.RegionTactic
section
namespace Go.Proofs.YtceaoadlhdgnmaaGreatDoor
namespace Scr
open Go.Proofs.YtceaoadlhdgnmaaGreatDoor.Row Utf Wid

theorem sizeB_iff {r c : Int} : sizeB r c = true ↔ (1 ≤ r ∧ r ≤ 40) ∧ (1 ≤ c ∧ c ≤ 40) := by unfold sizeB; rw [Bool.and_eq_true, rng_iff, rng_iff]
end Scr
end Go.Proofs.YtceaoadlhdgnmaaGreatDoor
end
section
namespace Go.Proofs.YtceaoadlhdgnmaaGreatDoor
set_option maxRecDepth 100000
open Go.RowKit
namespace Scr
open Go.Proofs.YtceaoadlhdgnmaaGreatDoor.Row

theorem ownB_gput {w : World} {base g : Nat} {x : Value} {l : List Bool} (h : Tab.OwnB w base x l) (hg : g < base) (R C : Int) (v : Value) : Tab.OwnB (gput w g R C v) base x l := ownB_set (ownB_set (ownB_set h hg _ _) hg _ _) hg _ _
theorem ownB_oput {w : World} {base g : Nat} {x : Value} {l : List Bool} (h : Tab.OwnB w base x l) (hg : g < base) (R C : Int) (v : Value) : Tab.OwnB (oput w g R C v) base x l := ownB_set (ownB_set (ownB_set h hg _ _) hg _ _) hg _ _
end Scr
end Go.Proofs.YtceaoadlhdgnmaaGreatDoor
end
section
namespace Go.Proofs.YtceaoadlhdgnmaaGreatDoor
set_option maxRecDepth 100000
open Go.RowKit
namespace Scr
open Go.Proofs.YtceaoadlhdgnmaaGreatDoor.Row

set_option maxHeartbeats 1600000 in
theorem screen_over (s : S) (x y z : Value) (base : Nat) (w : World) (h : Own w base s x y z) (hl : Lens s) (hb : base ≤ w.heap.size) :
    Calls Tryz.prog 68 #[sv s x y z] w fun e w' => e = .returned (.tuple #[]) ∧ Below base w w' ∧ Boxes w w' := by
  have HA := Lib.hid (h.kept (bel_alloc w (.cells (sarr s x y z) 36)))
  have H0 : Hid (SBox (w.alloc (.cells (sarr s x y z) 36)) w.heap.size s x y z) := Lib.hid (SBox.new w s x y z)
  have HB0 : Hid (Below base w (w.alloc (.cells (sarr s x y z) 36))) := Lib.hid ((Below.refl _ _).alloc hb _)
  have HX0 := Lib.hid (boxes_alloc w (.cells (sarr s x y z) 36))
  have HL := Lib.hid hl
  clear h hl
  go_enter Tryz.func68, Tryz.ntmps68
  go_wp2_with fail
  refine (cells_over s.main.cells x base _ HA.out.m (by have := HL.out.m; omega)).mono ?_; rintro e w1 ⟨rfl, hbl, hsh, hon⟩
  have HX1 : Hid (Boxes w w1) := Lib.hid (HX0.out.trans fun g A e => hon _ _ (scr_ne HA.out.m e) e)
  have H1 : Hid (SBox w1 w.heap.size s x y z) := Lib.hid (hon _ _ (scr_ne HA.out.m H0.out) H0.out)
  have HB1 := Lib.hid (HB0.out.trans hbl)
  have HO1 := Lib.hid (hsh.1 _ _ _ HA.out.o)
  have HT1 := Lib.hid (hsh.2 _ _ _ HA.out.t)
  clear hbl hsh hon HA H0 HB0 HX0
  have c1 : ∀ j, w1.cell? ⟨w.heap.size, j, none⟩ = (sarr s x y z)[j]? := H1.out.cell
  go_wp2_with fail
  obtain ⟨m', hm', ho'⟩ := HO1.out
  refine (cells_over m' y base _ ho' (by have := HL.out.o; omega)).mono ?_; rintro e w2 ⟨rfl, hbl, hsh, hon⟩
  have HX2 : Hid (Boxes w w2) := Lib.hid (HX1.out.trans fun g A e => hon _ _ (scr_ne ho' e) e)
  have H2 : Hid (SBox w2 w.heap.size s x y z) := Lib.hid (hon _ _ (scr_ne ho' H1.out) H1.out)
  have HB2 := Lib.hid (HB1.out.trans hbl)
  have HT2 := Lib.hid (hsh.2 _ _ _ HT1.out)
  clear hbl hsh hon H1 c1 HB1 HO1 hm' ho' HX1
  have c2 : ∀ j, w2.cell? ⟨w.heap.size, j, none⟩ = (sarr s x y z)[j]? := H2.out.cell
  go_wp2_with fail
  refine (bools_over s.tabs _ HT2.out (by have := HL.out.t; omega)).mono ?_; rintro e w3 ⟨rfl, hbl, hon⟩
  have HX3 : Hid (Boxes w w3) := Lib.hid (HX2.out.trans fun g A e => hon _ _ (scr_neB HT2.out e) e)
  have HB3 := Lib.hid (HB2.out.trans hbl)
  clear hbl hon
  go_wp2_with fail
  go_end0
  exact ⟨rfl, HB3.out, HX3.out⟩
end Scr
end Go.Proofs.YtceaoadlhdgnmaaGreatDoor
end
section
namespace Go.Proofs.YtceaoadlhdgnmaaGreatDoor
set_option maxRecDepth 100000
namespace Scr
open Go.Proofs.YtceaoadlhdgnmaaGreatDoor.Row Wid

theorem wipeN_low {lo hi : Int} {a : Look} {G : Gr} : ∀ {k : Nat}, (∀ i, i < k → ¬ loC lo G.cols i < hiC hi G.cols i) → wipeN lo hi a k G = G
  | 0, _ => rfl
  | k + 1, h => by
    show wipeRow lo hi a (wipeN lo hi a k G) k = G
    rw [wipeN_low fun i hi => h i (by omega)]
    unfold wipeRow
    rw [if_neg (h k (by omega))]
theorem wipeN_high {lo hi : Int} {a : Look} {G : Gr} {k : Nat} : ∀ {n : Nat}, (∀ i, k ≤ i → i < k + n → ¬ loC lo G.cols i < hiC hi G.cols i) → wipeN lo hi a (k + n) G = wipeN lo hi a k G
  | 0, _ => rfl
  | n + 1, h => by
    have hs := wipeN_sides lo hi a (k + n) G
    have e : wipeN lo hi a (k + (n + 1)) G = wipeRow lo hi a (wipeN lo hi a (k + n) G) (k + n) := rfl
    rw [e]
    unfold wipeRow
    rw [hs.2, if_neg (h (k + n) (by omega) (by omega))]
    exact wipeN_high fun i h1 h2 => h i h1 (by omega)

theorem withLine_put (s : S) (r : List Cl) : withLine s r = putG s (withRow (seenG s) s.cur.row.toNat r) := rfl
end Scr
end Go.Proofs.YtceaoadlhdgnmaaGreatDoor
end
section
namespace Go.Proofs.YtceaoadlhdgnmaaGreatDoor
set_option maxRecDepth 100000
open Go.RowKit
namespace Scr
open Go.Proofs.YtceaoadlhdgnmaaGreatDoor.Row

set_option maxHeartbeats 6400000 in
theorem same_yes (base : Nat) (X : S) (x y z x' y' z' : Value) (s : S) (xi yi zi xs ys zs : Value) (w : World) (hb : base ≤ w.heap.size) (hx : Own w base X x y z) (hw : In w X x' y' z')
    (hi : ∀ w', Below base w w' → In w' s xi yi zi) (hs : ∀ w', Below base w w' → In w' s xs ys zs) (hl : Lens X) (hl2 : Lens s) :
    Calls Tryz.prog 21 #[sv X x y z, .int .i64 0, .bool true, sv X x' y' z', sv s xi yi zi, sv s xs ys zs] w fun e w' => e = .returned (.bool true) ∧ Below base w w' ∧ Boxes w w' := by
  have H0 := Lib.hid (Sm.start (s := s) (xi := xi) (yi := yi) (zi := zi) (xs := xs) (ys := ys) (zs := zs) hb hx hw)
  have HB := Lib.hid hb
  have HI := Lib.hid hi
  have HS := Lib.hid hs
  have HL := Lib.hid hl
  have HL2 := Lib.hid hl2
  clear hb hx hw hi hs hl hl2
  go_enter Tryz.func21, Tryz.ntmps21
  go_upto_region 5 with (fail)
  change Code.wp _ _ _ _ ((((w.alloc (.cells (sarr X x y z) 36)).alloc (.cells (sarr X x' y' z') 36)).alloc (.cells (sarr s xi yi zi) 36)).alloc (.cells (sarr s xs ys zs) 36))
  have HU : Hid (base ≤ ((((w.alloc (.cells (sarr X x y z) 36)).alloc (.cells (sarr X x' y' z') 36)).alloc (.cells (sarr s xi yi zi) 36)).alloc (.cells (sarr s xs ys zs) 36)).heap.size) := Lib.hid (Nat.le_trans HB.out (four_below _ _ _ _ _).size)
  generalize ((((w.alloc (.cells (sarr X x y z) 36)).alloc (.cells (sarr X x' y' z') 36)).alloc (.cells (sarr s xi yi zi) 36)).alloc (.cells (sarr s xs ys zs) 36)) = w1 at H0 HU ⊢
  go_wp2_with fail
  refine (num8 0 w1).mono ?_; rintro e w1' ⟨rfl, rfl⟩
  go_wp2_with (first
    | (refine wp_loadS (b := w.heap.size) (s := X) rfl rfl rfl H0.out.b0 ?_)
    | (refine wp_loadS (b := w.heap.size + 1) (s := X) rfl rfl rfl H0.out.b1 ?_))
  refine (eqScreen_same X x y z x' y' z' w1 H0.out.own.in_ H0.out.want HL.out).mono ?_; rintro e w2 ⟨rfl, hb⟩
  have H2 := Lib.hid (H0.out.kept HU.out hb)
  have HU2 : Hid (base ≤ w2.heap.size) := Lib.hid (Nat.le_trans HU.out hb.size)
  clear hb H0 HU
  go_wp2_with (first
    | (refine wp_loadS (b := w.heap.size + 2) (s := s) rfl rfl rfl H2.out.b2 ?_)
    | (refine wp_loadS (b := w.heap.size + 3) (s := s) rfl rfl rfl H2.out.b3 ?_))
  refine (eqScreen_same s xi yi zi xs ys zs w2 (HI.out _ H2.out.bel) (HS.out _ H2.out.bel) HL2.out).mono ?_; rintro e w3 ⟨rfl, hb⟩
  have H3 := Lib.hid (H2.out.kept HU2.out hb)
  have HU3 : Hid (base ≤ w3.heap.size) := Lib.hid (Nat.le_trans HU2.out hb.size)
  clear hb H2 HU2
  go_wp2_with (refine wp_loadS (b := w.heap.size) (s := X) rfl rfl rfl H3.out.b0 ?_)
  refine (screen_over X x y z base w3 H3.out.own HL.out HU3.out).mono ?_; rintro e w4 ⟨rfl, hbl, hbx⟩
  have H4 : Hid (Sm2 base w s xi yi zi xs ys zs w4) := Lib.hid ⟨H3.out.bel.trans hbl, hbx _ _ H3.out.b2, hbx _ _ H3.out.b3, H3.out.bx.trans hbx⟩
  have HU4 : Hid (base ≤ w4.heap.size) := Lib.hid (Nat.le_trans HU3.out hbl.size)
  clear hbl hbx H3 HU3
  go_wp2_with (first
    | (refine wp_loadS (b := w.heap.size + 2) (s := s) rfl rfl rfl H4.out.b2 ?_)
    | (refine wp_loadS (b := w.heap.size + 3) (s := s) rfl rfl rfl H4.out.b3 ?_))
  refine (eqScreen_same s xi yi zi xs ys zs w4 (HI.out _ H4.out.bel) (HS.out _ H4.out.bel) HL2.out).mono ?_; rintro e w5 ⟨rfl, hb⟩
  have H5 := Lib.hid (And.intro (H4.out.bel.trans (hb.mono HU4.out)) (H4.out.bx.trans (boxes_bel hb)))
  clear hb H4 HU4
  go_wp2_with fail
  go_ret
  exact ⟨rfl, H5.out.1, H5.out.2⟩
set_option maxHeartbeats 6400000 in
theorem same_no (base : Nat) (W : S) (x' y' z' : Value) (s : S) (xi yi zi xs ys zs : Value) (w : World) (hb : base ≤ w.heap.size)
    (hi : ∀ w', Below base w w' → In w' s xi yi zi) (hs : ∀ w', Below base w w' → In w' s xs ys zs) (hl2 : Lens s) :
    Calls Tryz.prog 21 #[sv noS nilS nilS nilS, .int .i64 1, .bool false, sv W x' y' z', sv s xi yi zi, sv s xs ys zs] w fun e w' => e = .returned (.bool true) ∧ Below base w w' ∧ Boxes w w' := by
  have HB := Lib.hid hb
  have HI := Lib.hid hi
  have HS := Lib.hid hs
  have HL := Lib.hid lens_no
  have HL2 := Lib.hid hl2
  have HO : Hid (((((w.alloc (.cells (sarr noS nilS nilS nilS) 36)).alloc (.cells (sarr W x' y' z') 36)).alloc (.cells (sarr s xi yi zi) 36)).alloc (.cells (sarr s xs ys zs) 36)).heap[w.heap.size + 1]? = some (.cells (sarr W x' y' z') 36 (0, 0))) := Lib.hid (four_1 _ _ _ _ _)
  have HK : Hid (∀ w1, Sto ((((w.alloc (.cells (sarr noS nilS nilS nilS) 36)).alloc (.cells (sarr W x' y' z') 36)).alloc (.cells (sarr s xi yi zi) 36)).alloc (.cells (sarr s xs ys zs) 36)) (w.heap.size + 1) zarr w1 → Sm base w noS nilS nilS nilS nilS nilS nilS s xi yi zi xs ys zs w1) := Lib.hid fun w1 h1 =>
    ⟨h1.below _ _ (by omega) ((four_below _ _ _ _ _).mono hb), (h1.other _ (by omega)).trans (four_old _ _ _ _ _), h1.box, (h1.other _ (by omega)).trans (four_2 _ _ _ _ _), (h1.other _ (by omega)).trans (four_3 _ _ _ _ _), own_nil _ _, (own_nil _ base).in_, fun g A e => (h1.other _ (by have := Blk.lt e; omega)).trans (boxes_bel (four_below _ _ _ _ _) g A e)⟩
  clear hb hi hs hl2
  go_enter Tryz.func21, Tryz.ntmps21
  go_upto_region 5 with (refine wp_storeS_then (b := w.heap.size + 1) (A := zarr) (T := Sm base w noS nilS nilS nilS nilS nilS nilS s xi yi zi xs ys zs) rfl rfl rfl rfl rfl (sarr_one rfl rfl rfl) HO.out rfl HK.out ?_; intro w1 H0)
  have HU : Hid (base ≤ w1.heap.size) := Lib.hid (Nat.le_trans HB.out (by have := Blk.lt H0.out.b0; omega))
  go_wp2_with fail
  refine (num8 1 w1).mono ?_; rintro e w1' ⟨rfl, rfl⟩
  go_wp2_with (first
    | (refine wp_loadS (b := w.heap.size) (s := noS) rfl rfl rfl H0.out.b0 ?_)
    | (refine wp_loadS (b := w.heap.size + 1) (s := noS) rfl rfl rfl H0.out.b1 ?_))
  refine (eqScreen_same noS nilS nilS nilS nilS nilS nilS w1 H0.out.own.in_ H0.out.want HL.out).mono ?_; rintro e w2 ⟨rfl, hb⟩
  have H2 := Lib.hid (H0.out.kept HU.out hb)
  have HU2 : Hid (base ≤ w2.heap.size) := Lib.hid (Nat.le_trans HU.out hb.size)
  clear hb H0 HU
  go_wp2_with (first
    | (refine wp_loadS (b := w.heap.size + 2) (s := s) rfl rfl rfl H2.out.b2 ?_)
    | (refine wp_loadS (b := w.heap.size + 3) (s := s) rfl rfl rfl H2.out.b3 ?_))
  refine (eqScreen_same s xi yi zi xs ys zs w2 (HI.out _ H2.out.bel) (HS.out _ H2.out.bel) HL2.out).mono ?_; rintro e w3 ⟨rfl, hb⟩
  have H3 := Lib.hid (H2.out.kept HU2.out hb)
  have HU3 : Hid (base ≤ w3.heap.size) := Lib.hid (Nat.le_trans HU2.out hb.size)
  clear hb H2 HU2
  go_wp2_with (refine wp_loadS (b := w.heap.size) (s := noS) rfl rfl rfl H3.out.b0 ?_)
  refine (screen_over noS nilS nilS nilS base w3 H3.out.own HL.out HU3.out).mono ?_; rintro e w4 ⟨rfl, hbl, hbx⟩
  have H4 : Hid (Sm2 base w s xi yi zi xs ys zs w4) := Lib.hid ⟨H3.out.bel.trans hbl, hbx _ _ H3.out.b2, hbx _ _ H3.out.b3, H3.out.bx.trans hbx⟩
  have HU4 : Hid (base ≤ w4.heap.size) := Lib.hid (Nat.le_trans HU3.out hbl.size)
  clear hbl hbx H3 HU3
  go_wp2_with (first
    | (refine wp_loadS (b := w.heap.size + 2) (s := s) rfl rfl rfl H4.out.b2 ?_)
    | (refine wp_loadS (b := w.heap.size + 3) (s := s) rfl rfl rfl H4.out.b3 ?_))
  refine (eqScreen_same s xi yi zi xs ys zs w4 (HI.out _ H4.out.bel) (HS.out _ H4.out.bel) HL2.out).mono ?_; rintro e w5 ⟨rfl, hb⟩
  have H5 := Lib.hid (And.intro (H4.out.bel.trans (hb.mono HU4.out)) (H4.out.bx.trans (boxes_bel hb)))
  clear hb H4 HU4
  go_wp2_with fail
  go_ret
  exact ⟨rfl, H5.out.1, H5.out.2⟩
end Scr
end Go.Proofs.YtceaoadlhdgnmaaGreatDoor
end
section
namespace Go.Proofs.YtceaoadlhdgnmaaGreatDoor
set_option maxRecDepth 100000
open Go.RowKit
namespace Scr
open Go.Proofs.YtceaoadlhdgnmaaGreatDoor.Row

/-- Taken first, held. -/
theorem yields_loadS {ops : Array Oper} {T : World → Prop} {o : Oper} {a : Act} {x : Operand} {p : Addr} {s : S} {x0 y0 z0 : Value} (hgd : Region.wanted o (yielded ops a.tmps) = true) (ho : o.op = .load 36 x) (hx : a.eval x = .pointer (some p))
    (h : ∀ w, T w → At w p (sarr s x0 y0 z0).toList) : YieldsIf Tryz.prog ops T o (.agg (sarr s x0 y0 z0)) a := Or.inl ⟨hgd, fun w hT => run_load_op ho hx (h w hT)⟩
end Scr
end Go.Proofs.YtceaoadlhdgnmaaGreatDoor
end
section
namespace Go.Proofs.YtceaoadlhdgnmaaGreatDoor
set_option maxRecDepth 100000
open Go.RowKit
namespace Scr
open Go.Proofs.YtceaoadlhdgnmaaGreatDoor.Row

theorem within8 (i : Int) (n : Nat) (h0 : 0 < n) (hn : n ≤ 1000000) (w : World) : Calls Tryz.prog 23 #[.int .i64 i, .int .i64 n] w fun e w' => e = .returned (.int .i64 (wi8 i n)) ∧ w' = w := by
  have h1 : IntKind.u64.wrap i = i % 18446744073709551616 := by rw [IntKind.wrap_u64]
  have h2 : IntKind.u64.wrap (n : Int) = (n : Int) := by rw [IntKind.wrap_u64]; omega
  have hb : 0 ≤ i % 18446744073709551616 := Int.emod_nonneg _ (by decide)
  have hlt : (wi8 i n) < n := Nat.mod_lt _ h0
  obtain ⟨q, hq⟩ : ∃ q : Nat, i % 18446744073709551616 = (q : Int) := ⟨(i % 18446744073709551616).toNat, by omega⟩
  have h3 : (q : Int) % (n : Int) = ((wi8 i n : Nat) : Int) := by unfold wi8; rw [hq]; simp
  rw [hq] at h1
  have hne : ((n : Int) == 0) = false := by rw [beq_eq_false_iff_ne]; omega
  generalize wi8 i n = k at h3 hlt ⊢
  clear hb hq
  go_enter Tryz.func23, Tryz.ntmps23
  go_wp2_with fail
  go_ret
  exact ⟨rfl, rfl⟩
/-- Same, whether there may be an answer or not. -/
theorem same_any (may : Bool) (base : Nat) (X W : S) (x y z x' y' z' : Value) (code : Int) (s : S) (xi yi zi xs ys zs : Value) (w : World) (hb : base ≤ w.heap.size) (hc : code = codeB may)
    (h1 : may = true → W = X ∧ Own w base X x y z ∧ In w X x' y' z' ∧ Lens X) (h0 : may = false → X = noS ∧ x = nilS ∧ y = nilS ∧ z = nilS)
    (hi : ∀ w', Below base w w' → In w' s xi yi zi) (hs : ∀ w', Below base w w' → In w' s xs ys zs) (hl2 : Lens s) :
    Calls Tryz.prog 21 #[sv X x y z, .int .i64 code, .bool may, sv W x' y' z', sv s xi yi zi, sv s xs ys zs] w fun e w' => e = .returned (.bool true) ∧ Below base w w' ∧ Boxes w w' := by
  subst hc
  cases may
  · obtain ⟨rfl, rfl, rfl, rfl⟩ := h0 rfl
    exact same_no base W x' y' z' s xi yi zi xs ys zs w hb hi hs hl2
  · obtain ⟨rfl, h2, h3, h4⟩ := h1 rfl
    exact same_yes base W x y z x' y' z' s xi yi zi xs ys zs w hb h2 h3 hi hs h4 hl2
theorem nat_of_size {R C : Int} (h : sizeB R C = true) : ∃ r c : Nat, R = (r : Int) ∧ C = (c : Int) ∧ 1 ≤ r ∧ r ≤ 40 ∧ 1 ≤ c ∧ c ≤ 40 := by
  have h := sizeB_iff.1 h
  obtain ⟨r, rfl⟩ := Int.eq_ofNat_of_zero_le (show 0 ≤ R by omega)
  obtain ⟨c, rfl⟩ := Int.eq_ofNat_of_zero_le (show 0 ≤ C by omega)
  exact ⟨r, c, rfl, rfl, by omega, by omega, by omega, by omega⟩
theorem refNewD (R C : Int) (w : World) (hs : sizeB R C = true) : Calls Tryz.prog 69 #[.int .i64 R, .int .i64 C] w fun e w' => ∃ x y z, e = .returned (sv (newS R.toNat C.toNat) x y z) ∧ Own w' w.heap.size (newS R.toNat C.toNat) x y z ∧ Below w.heap.size w w' := by
  obtain ⟨r, c, rfl, rfl, h1, h2, h3, h4⟩ := nat_of_size hs
  rw [Int.toNat_natCast, Int.toNat_natCast]
  exact refNew8 r c w h1 h2 h3 h4
theorem newS_lens {R C : Int} (h : sizeB R C = true) : Lens (newS R.toNat C.toNat) := by
  obtain ⟨r, c, rfl, rfl, h1, h2, h3, h4⟩ := nat_of_size h
  rw [Int.toNat_natCast, Int.toNat_natCast]
  exact (newS_ok h1 h2 h3 h4).lens8
theorem belq (w : World) (n : Nat) : Below w.heap.size w (w.drewN n) := ⟨rfl, rfl, rfl, Nat.le_refl _, fun _ _ => rfl⟩
end Scr
end Go.Proofs.YtceaoadlhdgnmaaGreatDoor
end
section
namespace Go.Proofs.YtceaoadlhdgnmaaGreatDoor
set_option maxRecDepth 100000
open Go.RowKit
namespace Scr
open Go.Proofs.YtceaoadlhdgnmaaGreatDoor.Row

set_option maxHeartbeats 800000 in
theorem refIn_any (l : List Int) (b c : Nat) (n : Int) (w : World) (h : Kv w b l) (hl : l.length ≤ 1000) :
    Calls Tryz.prog 112 #[.slice (some ⟨b, 0, none⟩) l.length c, .int .i64 n] w fun e w' => ∃ r, e = .returned (.int .i64 r) ∧ (0 ≤ r ↔ ∃ i, i < l.length ∧ l.getD i 0 = n) ∧ w' = w := by
  have HA := Lib.hid h
  obtain ⟨m, hm⟩ : ∃ m, l.length = m := ⟨_, rfl⟩
  have HM := Lib.hid hm
  rw [hm] at hl ⊢
  clear hm h
  go_enter Tryz.func112, Tryz.ntmps112
  go_wp2_with fail
  go_loopw [5] (fun i wr => ∃ k : Nat, k ≤ m ∧ i = .int .i64 k ∧ wr = w ∧ Hid (∀ j, j < k → l.getD j 0 ≠ n)) (fun i _ => m - (intOf i).toNat)
  case atStart => exact ⟨0, by omega, rfl, rfl, Lib.hid (fun j hj => absurd hj (by omega))⟩
  case round =>
    obtain ⟨k, hk, rfl, rfl, HB⟩ := hrel
    by_cases hlt : k < m
    · have hE := HA.out k (by rw [HM.out]; exact hlt)
      by_cases he : l.getD k 0 = n
      · have HI : Hid (∃ i, i < m ∧ l.getD i 0 = n) := Lib.hid ⟨k, hlt, he⟩
        rw [he] at hE
        clear he
        go_wp2_with fail
        go_ret
        exact ⟨_, rfl, ⟨fun _ => HI.out, fun _ => Int.natCast_nonneg k⟩, rfl⟩
      · have HN : Hid (∀ j, j < k + 1 → l.getD j 0 ≠ n) := Lib.hid fun j hj => by
          by_cases e : j = k
          · subst e; exact he
          · exact HB.out j (by omega)
        have hne : (l.getD k 0 == n) = false := by rw [beq_eq_false_iff_ne]; exact he
        generalize l.getD k 0 = y at hE hne
        clear he
        go_wp2_with fail
        go_roundw
        case rel => exact ⟨k + 1, by omega, by go_num, by trivial, HN⟩
        case measure => simp [intOf]; omega
    · have HI : Hid (¬ ∃ i, i < m ∧ l.getD i 0 = n) := Lib.hid fun ⟨i, hi, e⟩ => HB.out i (by omega) e
      have hd : decide (k < m) = false := decide_eq_false hlt
      clear hlt
      go_wp2_with fail
      go_ret
      exact ⟨_, rfl, ⟨fun h => absurd h (by decide), fun h => absurd h HI.out⟩, rfl⟩
theorem refNumber_any (n : Int) (w : World) : Calls Tryz.prog 19 #[.int .i64 n] w fun e w' => e = .returned (.bool (numB n)) ∧ w' = w := by
  have HB := Lib.hid (Tab.between_any n (-1) 9999 w)
  have HE : Hid (numB n = Tab.rng n (-1) 9999) := Lib.hid rfl
  rw [HE.out]
  go_enter Tryz.func19, Tryz.ntmps19
  go_wp2_with fail
  refine HB.out.mono ?_; rintro e w1 ⟨rfl, rfl⟩
  go_wp2_with fail
  go_ret
  exact ⟨rfl, rfl⟩
/-- The call asked for first, or its box made first. -/
theorem Mu.start2 {wq w3 w4 w5 w6 : World} {base : Nat} {s X : S} {xi yi zi x y z : Value} (h : Below wq.heap.size wq w3) (ho3 : Own w3 base s xi yi zi) (h4 : Sto (w3.alloc (.cells zarr 36)) w3.heap.size (sarr s xi yi zi) w4)
    (hb : Below (w4.alloc (.cells zarr 36)).heap.size (w4.alloc (.cells zarr 36)) w5) (ho : Own w5 (w4.alloc (.cells zarr 36)).heap.size X x y z) (hs : Sto w5 w4.heap.size (sarr X x y z) w6) :
    Mu wq w3.heap.size w4.heap.size (w4.alloc (.cells zarr 36)).heap.size s xi yi zi X x y z w6 := by
  obtain ⟨k1, k2⟩ := bx_sto (e := ⟨s, xi, yi, zi⟩) ho3.in_ h4
  have hx : w5.heap[w4.heap.size]? = some (.cells zarr 36 (0, 0)) := Blk.kept (heap_alloc_new _ _) hb
  have h45 : Below w4.heap.size w4 w5 := (bel_alloc w4 _).trans (hb.mono (by simp))
  have ho4 := (ho3.kept k2).kept (bel_alloc w4 (.cells zarr 36))
  have hl3 : w3.heap.size < w4.heap.size := Blk.lt k1.box
  have h6 : Below w4.heap.size w4 w6 := hs.below _ _ (Nat.le_refl _) h45
  refine ⟨(h.trans (k2.mono h.size)).trans (h6.mono (by have := h.size; have := k2.size; omega)), by rw [hs.size]; exact hb.size, hs.boxed (by omega) (k1.box.kept h45), hs.box, hs.own2 hx ho, hs.own2 hx ((ho4.low (Nat.zero_le _)).kept hb), ho4.lt3, ?_⟩
  have := h.size; have := k2.size; simp; omega
theorem step_allocS {w : World} {ops : Array Oper} {o : Oper} {a : Act} {K : Act → World → Prop} {Q : Exit → Act → World → Prop} {E : Prop} (hgd : o.guard = none) (ho : o.op = .alloc 36) {n : Nat} (hn : w.heap.size = n)
    (hK : K (a.put o.dst (.pointer (some ⟨n, 0, none⟩))) (w.alloc (.cells zarr 36))) : if Region.wanted o (yielded ops a.tmps) = true then Oper.wp Tryz.prog o a w K Q else E := by
  subst hn
  have hw : Region.wanted o (yielded ops a.tmps) = true := by simp [Region.wanted, hgd]
  rw [if_pos hw]
  unfold Oper.wp
  simp only [ho, execOp, Sem.run_bind]
  exact hK
end Scr
end Go.Proofs.YtceaoadlhdgnmaaGreatDoor
end
section
namespace Go.Proofs.YtceaoadlhdgnmaaGreatDoor
set_option maxRecDepth 100000
open Go.RowKit
namespace Scr
open Go.Proofs.YtceaoadlhdgnmaaGreatDoor.Row

theorem ekbox_kv (w : World) : Kv (w.alloc ekbox) w.heap.size ekeysL := by
  have hx : (w.alloc ekbox).heap[w.heap.size]? = some ekbox := heap_alloc_new _ _
  intro i hi
  have hi : i < 9 := hi
  have : i = 0 ∨ i = 1 ∨ i = 2 ∨ i = 3 ∨ i = 4 ∨ i = 5 ∨ i = 6 ∨ i = 7 ∨ i = 8 := by omega
  rcases this with rfl | rfl | rfl | rfl | rfl | rfl | rfl | rfl | rfl
  · exact Blk.cell hx 0
  · exact Blk.cell hx 1
  · exact Blk.cell hx 2
  · exact Blk.cell hx 3
  · exact Blk.cell hx 4
  · exact Blk.cell hx 5
  · exact Blk.cell hx 6
  · exact Blk.cell hx 7
  · exact Blk.cell hx 8
theorem num11 (n : Int) (w : World) : Calls Tryz.prog 46 #[.int .i64 n] w fun e w' => e = .returned (.int .i64 n) ∧ w' = w := by
  go_enter Tryz.func46, Tryz.ntmps46
  go_wp2_with fail
  go_ret
  exact ⟨rfl, rfl⟩
theorem num11_then {w : World} {n : Int} {Q : Ending → World → Prop} (hQ : Q (.returned (.int .i64 n)) w) : Calls Tryz.prog 46 #[.int .i64 n] w Q :=
  (num11 n w).mono (by rintro e w' ⟨rfl, rfl⟩; exact hQ)
end Scr
end Go.Proofs.YtceaoadlhdgnmaaGreatDoor
end
section
namespace Go.Proofs.YtceaoadlhdgnmaaGreatDoor
set_option maxRecDepth 100000
open Go.RowKit
namespace Scr
open Go.Proofs.YtceaoadlhdgnmaaGreatDoor.Row Wid

theorem refMoveE_any (G : Gr) (v : Value) (top bot n : Int) (a : Look) (w : World) (hg : gridB G = true) (hv : Rm w v G.cells) (h0 : 0 ≤ top) (h1 : top ≤ bot) (h2 : bot < G.rows) (hn : -9999 ≤ n ∧ n ≤ 9999) :
    Calls Tryz.prog 130 #[gridV G v, .int .i64 top, .int .i64 bot, .int .i64 n, .agg #[.int .i64 a.fg, .int .i64 a.bg, .int .i64 a.flags]] w fun e w' =>
      ∃ u, e = .returned (gridV (moveG G top bot n a) u) ∧ OwnCs w' w.heap.size u (moveG G top bot n a).cells ∧ Below w.heap.size w w' := by
  obtain ⟨R, C, rs, rfl, hr, _⟩ := parts_of hg
  rw [moveG_parts hr]
  obtain ⟨t, rfl⟩ := Int.eq_ofNat_of_zero_le h0
  obtain ⟨k, rfl⟩ := Int.eq_ofNat_of_zero_le (show 0 ≤ bot by omega)
  rw [Int.toNat_natCast, Int.toNat_natCast]
  exact refMove_any R C rs a t k n v w hr hv (by omega) (by have : (k : Int) < (R : Int) := h2; omega) hn
theorem putG_tops (s : S) (G : Gr) : (putG s G).top = s.top ∧ (putG s G).bottom = s.bottom := by unfold putG; split <;> exact ⟨rfl, rfl⟩
theorem seatO_putG (s : S) (G : Gr) : seatO (putG s G) = seatO s := by
  unfold seatO putG
  cases h : s.swapped with
  | false => simp
  | true => simp
theorem seatO_noWrap (s : S) : seatO (noWrap s) = seatO s := rfl
theorem mul_lt_row {i r C : Int} (h : i + 1 ≤ r) (hC : 0 ≤ C) : i * C + C ≤ r * C := by
  have := Int.mul_le_mul_of_nonneg_right h hC
  rw [Int.add_mul, Int.one_mul] at this
  exact this
/-- Of a row alone. -/
theorem wipeN_one {lo hi : Int} {a : Look} {G : Gr} {r : Nat} {R : Nat} (hr : r < R) (hl : ∀ i, i < R → i ≠ r → ¬ loC lo G.cols i < hiC hi G.cols i) : wipeN lo hi a R G = wipeRow lo hi a G r := by
  obtain ⟨n, hn⟩ : ∃ n, R = (r + 1) + n := ⟨R - (r + 1), by omega⟩
  rw [hn, wipeN_high fun i h1 h2 => hl i (by omega) (by omega)]
  show wipeRow lo hi a (wipeN lo hi a r G) r = _
  rw [wipeN_low fun i h1 => hl i (by omega) (by omega)]
theorem wipeRow_at {lo hi : Int} {a : Look} {G : Gr} {i : Nat} {l h : Int} (h1 : loC lo G.cols i = l) (h2 : hiC hi G.cols i = h) (hlt : l < h) : wipeRow lo hi a G i = withRow G i (eraseL (rowG G i) l.toNat h.toNat a) := by
  unfold wipeRow
  rw [h1, h2, if_pos hlt]
end Scr
end Go.Proofs.YtceaoadlhdgnmaaGreatDoor
end
section
namespace Go.Proofs.YtceaoadlhdgnmaaGreatDoor
set_option maxRecDepth 100000
open Go.RowKit
namespace Scr
open Go.Proofs.YtceaoadlhdgnmaaGreatDoor.Row Wid

theorem hereS_ok {s : S} (h : Ok s) {r : Int} {n : Nat} (hr : wid r = n) (hn : n = 1 ∨ n = 2) (hf : s.cur.col + n ≤ s.main.cols) : Ok (hereS s r n) := by
  have f := h.facts
  have L := h.line
  have h12 : wid r = 1 ∨ wid r = 2 := by omega
  have hcl : (cellsOf r s.cur.a).length = n := by have := cells_length (a := s.cur.a) h12; omega
  have hm := mid_row (k := s.cur.col.toNat) (n := n) L.ok (by rw [L.len]; have := L.cI; have := f.col0; omega) (good_cells h12 f.a) hcl
  have hw := withLine_ok h hm.1 (by rw [hm.2, L.len])
  obtain ⟨hc, hmo, hco⟩ := withLine_cur s (mid (lineS s) s.cur.col.toNat (s.cur.col.toNat + n) (cellsOf r s.cur.a))
  unfold hereS
  generalize withLine s (mid (lineS s) s.cur.col.toNat (s.cur.col.toNat + n) (cellsOf r s.cur.a)) = t at hw hc hmo hco
  refine ⟨hw.m, hw.o, hw.r, hw.c, ?_, hw.k2, hw.k3, hw.g, hw.b, hw.n, hw.t, ?_⟩
  · have hk := hw.k1
    unfold cursorB at hk
    unfold cursorB passed
    simp only [Bool.and_eq_true] at hk ⊢
    have hc1 := f.c1
    have h0 := f.col0
    refine ⟨hk.1, rng_iff.2 ⟨?_, ?_⟩, ?_, hk.2.2.2⟩
    · show 0 ≤ min (s.cur.col + (n : Int)) (s.main.cols - 1); omega
    · show min (s.cur.col + (n : Int)) (s.main.cols - 1) ≤ t.main.cols - 1; rw [hco]; omega
    · show (!(decide (s.cur.col + (n : Int) = s.main.cols) && hasB s.modes 1) || (min (s.cur.col + (n : Int)) (s.main.cols - 1) == t.main.cols - 1)) = true
      by_cases he : s.cur.col + (n : Int) = s.main.cols
      · have : min (s.cur.col + (n : Int)) (s.main.cols - 1) = t.main.cols - 1 := by rw [hco]; omega
        rw [this]; simp
      · rw [decide_eq_false he]; rfl
  · show lastB r = true
    unfold lastB
    rcases h12 with e | e <;> rw [e] <;> simp
end Scr
end Go.Proofs.YtceaoadlhdgnmaaGreatDoor
end
section
namespace Go.Proofs.YtceaoadlhdgnmaaGreatDoor
set_option maxRecDepth 100000
open Go.RowKit
namespace Scr
open Go.Proofs.YtceaoadlhdgnmaaGreatDoor.Row Wid

theorem mid_ok {l x : List Cl} {k n : Nat} (h : RowOk l) (hk : k + n ≤ l.length) (hx : Row.Good x) (hl : x.length = n) : RowOk (mid l k (k + n) x) ∧ (mid l k (k + n) x).length = l.length := mid_row h hk hx hl
theorem withLine_more (s : S) (m : List Cl) : (withLine s m).title = s.title ∧ (withLine s m).top = s.top ∧ (withLine s m).bottom = s.bottom ∧ (withLine s m).last = s.last := by
  unfold withLine putG
  split <;> exact ⟨rfl, rfl, rfl, rfl⟩
theorem wrap_keeps {s : S} (h : Ok s) : Keeps s (wrapS s) := by
  have d := down_same h
  exact ⟨d.1, d.2.2.2.2.2.2.1, d.2.2.2.2.2.2.2.1, d.2.2.2.2.2.2.2.2⟩
theorem line_keeps (s : S) (m : List Cl) : Keeps s (withLine s m) := ⟨(withLine_cur s m).2.1, (withLine_more s m).1, (withLine_more s m).2.1, (withLine_more s m).2.2.1⟩
theorem body_keeps (s : S) (r : Int) (n : Nat) : Keeps s (bodyS s r n) := by
  have k := line_keeps s (mid (roomS s n) s.cur.col.toNat (s.cur.col.toNat + n) (cellsOf (shownS s.cur r) s.cur.a))
  exact ⟨k.modes, k.title, k.top, k.bottom⟩
theorem write_keeps {s : S} (h : Ok s) (r : Int) (n : Nat) : Keeps s (writeS s r n) := by
  unfold writeS
  split
  · exact Keeps.refl s
  · split
    · exact (wrap_keeps h).trans (body_keeps _ r n)
    · exact body_keeps _ r n
theorem write_last {s : S} (r : Int) (n : Nat) : writeS s r n = s ∨ (writeS s r n).last = r := by
  unfold writeS
  split
  · exact .inl rfl
  · split
    · exact .inr rfl
    · exact .inr rfl
end Scr
end Go.Proofs.YtceaoadlhdgnmaaGreatDoor
end
section
namespace Go.Proofs.YtceaoadlhdgnmaaGreatDoor
set_option maxRecDepth 100000
open Go.RowKit
namespace Scr
open Go.Proofs.YtceaoadlhdgnmaaGreatDoor.Row

theorem penSeen (s : S) (x y z : Value) (b : Nat) (w : World) (h : SBox w b s x y z) : Calls Tryz.prog 126 #[.pointer (some ⟨b, 0, none⟩)] w fun e w' => e = .returned (.pointer (some ⟨b, seatO s, none⟩)) ∧ w = w' := by
  have c0 : ∀ j, w.cell? ⟨b, j, none⟩ = (sarr s x y z)[j]? := h.cell
  clear h
  cases hs : s.swapped
  · have HO : Hid (seatO s = 0) := Lib.hid (by unfold seatO; rw [hs]; rfl)
    rw [HO.out]
    go_enter Tryz.func126, Tryz.ntmps126
    go_wp2_with fail
    go_ret
    exact ⟨rfl, rfl⟩
  · have HO : Hid (seatO s = 3) := Lib.hid (by unfold seatO; rw [hs]; rfl)
    rw [HO.out]
    go_enter Tryz.func126, Tryz.ntmps126
    go_wp2_with fail
    go_ret
    exact ⟨rfl, rfl⟩
/-- grid.Up of a grid that may be. -/
theorem upG_any (G : Gr) (v : Value) (top bot : Int) (a : Look) (w : World) (hg : gridB G = true) (hv : Rm w v G.cells) (ha : attrOk a = true) (h0 : 0 ≤ top) (h1 : top ≤ bot) (h2 : bot < G.rows) :
    Calls Tryz.prog 167 #[gridV G v, .int .i64 top, .int .i64 bot, .int .i64 1, .agg #[.int .i64 a.fg, .int .i64 a.bg, .int .i64 a.flags]] w fun e w' =>
      ∃ u, e = .returned (.tuple #[gridV (moveG G top bot 1 a) u, .int .i64 0]) ∧ OwnCs w' w.heap.size u (moveG G top bot 1 a).cells ∧ Below w.heap.size w w' := by
  obtain ⟨R, C, rs, rfl, hr, _⟩ := parts_of hg
  rw [moveG_parts hr]
  obtain ⟨t, rfl⟩ := Int.eq_ofNat_of_zero_le h0
  obtain ⟨k, rfl⟩ := Int.eq_ofNat_of_zero_le (show 0 ≤ bot by omega)
  rw [Int.toNat_natCast, Int.toNat_natCast]
  exact up_fits R C rs a t k 1 v w hr hv hr.held ha (by omega) (by have : (k : Int) < (R : Int) := h2; omega) (by omega)
end Scr
end Go.Proofs.YtceaoadlhdgnmaaGreatDoor
end
section
namespace Go.Proofs.YtceaoadlhdgnmaaGreatDoor
set_option maxRecDepth 100000
open Go.RowKit
namespace Scr
open Go.Proofs.YtceaoadlhdgnmaaGreatDoor.Row

set_option maxHeartbeats 6400000 in
theorem pdown_move (s : S) (x y z : Value) (b base : Nat) (w : World) (h : Pn w b base s x y z) (hok : Ok s) (hr : s.cur.row = s.bottom) :
    Calls Tryz.prog 128 #[.pointer (some ⟨b, 0, none⟩)] w fun e w' => e = .returned (.tuple #[]) ∧ ∃ x' y', Pn w' b base (putG (noWrap s) (moveG (seenG s) s.top s.bottom 1 s.cur.a)) x' y' z ∧ (Apart x y → Apart x' y') ∧ Below b w w' ∧ Only b w w' := by
  have F := Lib.hid hok.facts
  have H1 := Lib.hid h.wrap
  have HB1 : Hid (Below b w (w.setCell ⟨b, 9, none⟩ (.bool false))) := Lib.hid ((Below.refl b w).setCell (show b ≤ b by omega) _)
  have HO1 : Hid (Only b w (w.setCell ⟨b, 9, none⟩ (.bool false))) := Lib.hid ((Only.refl b w).set 9 _)
  have c0 : w.cell? ⟨b, 9, none⟩ = some (.bool s.cur.wrap) := h.box.cell 9
  have f0 : w.frozen? ⟨b, 9, none⟩ = false := h.box.free 9
  have HSC := Lib.hid (seat_arr (noWrap s) x y z)
  have HRM : Hid (∀ W, Own W base (noWrap s) x y z → Rm W (seenX (noWrap s) x y) (seenG s).cells) := Lib.hid fun W k => seenX_rm k.in_
  obtain ⟨X, hX⟩ : ∃ X, seenX (noWrap s) x y = X := ⟨_, rfl⟩
  rw [hX] at HSC HRM
  clear hX
  obtain ⟨AX, nX, cX, rfl⟩ : ∃ A n c, X = .slice A n c := (by obtain ⟨A, c, e, _⟩ := (HRM.out _ (H1.out.kept (Below.refl _ _).drew).own).2; exact ⟨A, _, c, e⟩)
  have HPS := Lib.hid (penSeen (noWrap s) x y z b)
  have HPN : Hid (∀ W v, Pn W b base (noWrap s) x y z → OwnCs W base v (moveG (seenG s) s.top s.bottom 1 s.cur.a).cells → Pn (pput W b (seatO (noWrap s)) (moveG (seenG s) s.top s.bottom 1 s.cur.a).rows (moveG (seenG s) s.top s.bottom 1 s.cur.a).cols v) b base (putG (noWrap s) (moveG (seenG s) s.top s.bottom 1 s.cur.a)) (putX (noWrap s) x v) (putY (noWrap s) y v) z) := Lib.hid fun W v k hv => k.seen (G := moveG (seenG s) s.top s.bottom 1 s.cur.a) hv
  have HUP : Hid (∀ W, Rm W (.slice AX nX cX) (seenG s).cells → _) := Lib.hid fun W k => upG_any (seenG s) (.slice AX nX cX) s.top s.bottom s.cur.a W F.out.g k F.out.a F.out.top0 F.out.tb (by have := F.out.gr; have := F.out.bot; omega)
  obtain ⟨p, hp⟩ : ∃ p, seatO (noWrap s) = p := ⟨_, rfl⟩
  rw [hp] at HSC HPS HPN
  have HP3 : Hid (p ≤ 3) := Lib.hid (by rw [← hp]; unfold seatO; split <;> omega)
  have HQ : Hid (∀ W, SBox W b (noWrap s) x y z → W.cell? ⟨b, 37, none⟩ = some (.int .i64 s.top) ∧ W.cell? ⟨b, 38, none⟩ = some (.int .i64 s.bottom) ∧ W.cell? ⟨b, 10, none⟩ = some (.int .i64 s.cur.a.fg) ∧ W.cell? ⟨b, 11, none⟩ = some (.int .i64 s.cur.a.bg) ∧ W.cell? ⟨b, 12, none⟩ = some (.int .i64 s.cur.a.flags)) := Lib.hid fun W k =>
    ⟨k.cell 37, k.cell 38, k.cell 10, k.cell 11, k.cell 12⟩
  have HG : Hid (∀ W, SBox W b (noWrap s) x y z → W.cell? ⟨b, p, none⟩ = some (.int .i64 (seenG s).rows) ∧ W.cell? ⟨b, p + 1, none⟩ = some (.int .i64 (seenG s).cols) ∧ W.cell? ⟨b, p + 2, none⟩ = some (.slice AX nX cX)) := Lib.hid fun W k =>
    ⟨by rw [k.cell]; exact HSC.out.1, by rw [k.cell]; exact HSC.out.2.1, by rw [k.cell]; exact HSC.out.2.2⟩
  have HQ4 : Hid (∀ W R C v, SBox W b (noWrap s) x y z → (pput W b p R C v).cell? ⟨b, 37, none⟩ = some (.int .i64 s.top) ∧ (pput W b p R C v).cell? ⟨b, 38, none⟩ = some (.int .i64 s.bottom) ∧ (pput W b p R C v).cell? ⟨b, 10, none⟩ = some (.int .i64 s.cur.a.fg) ∧ (pput W b p R C v).cell? ⟨b, 11, none⟩ = some (.int .i64 s.cur.a.bg) ∧ (pput W b p R C v).cell? ⟨b, 12, none⟩ = some (.int .i64 s.cur.a.flags)) := Lib.hid fun W R C v k => by
    have h3 := HP3.out
    rw [pput_cell h3 (by omega), pput_cell h3 (by omega), pput_cell h3 (by omega), pput_cell h3 (by omega), pput_cell h3 (by omega)]
    exact HQ.out W k
  clear hp h hok HSC
  go_enter Tryz.func128, Tryz.ntmps128
  go_upto_region 1 with (fail)
  change Code.wp _ _ _ _ (w.setCell ⟨b, 9, none⟩ (.bool false))
  clear c0 f0
  generalize w.setCell ⟨b, 9, none⟩ (.bool false) = w1 at H1 HB1 HO1 ⊢
  have q7 : w1.cell? ⟨b, 7, none⟩ = some (.int .i64 s.cur.row) := H1.out.box.cell 7
  have q2 := HQ.out w1 H1.out.box
  have qe : w1.cell? ⟨b, 38, none⟩ = some (.int .i64 s.bottom) := q2.2.1
  go_wp2_with fail
  refine (HPS.out w1 H1.out.box).mono ?_; rintro e w1' ⟨rfl, rfl⟩
  go_upto_region 2 with (fail)
  go_quiet (fail)
  clear q7 qe q2
  have HLO := Lib.hid H1.out.lo
  go_upto_region 3 with (fail)
  have HQQ := Lib.hid (bel_drewN w1 nq)
  generalize w1.drewN nq = wq at HQQ ⊢
  have H1 := Lib.hid (H1.out.kept HQQ.out)
  have HB1 := Lib.hid (HB1.out.trans (HQQ.out.mono HLO.out))
  have HO1 := Lib.hid (Only.bel HO1.out HQQ.out)
  have q2 := HQ.out wq H1.out.box
  obtain ⟨g0, g1, g2⟩ := HG.out wq H1.out.box
  have HT : Hid (∀ w2, Below wq.drew.heap.size wq.drew w2 → Pn w2 b base (noWrap s) x y z ∧ Below b w w2 ∧ Only b w w2) := Lib.hid fun w2 hb => by
    have hb' : Below wq.heap.size wq w2 := (Below.refl _ _).drew.trans hb
    exact ⟨H1.out.kept hb', HB1.out.trans (hb'.mono (by have := H1.out.lt; have := H1.out.up; omega)), Only.bel HO1.out hb'⟩
  refine wp_region_held_drew (S := fun w' => w'.cell? ⟨b, 37, none⟩ = some (.int .i64 s.top) ∧ w'.cell? ⟨b, 38, none⟩ = some (.int .i64 s.bottom) ∧ w'.cell? ⟨b, 10, none⟩ = some (.int .i64 s.cur.a.fg) ∧ w'.cell? ⟨b, 11, none⟩ = some (.int .i64 s.cur.a.bg) ∧ w'.cell? ⟨b, 12, none⟩ = some (.int .i64 s.cur.a.flags)) (by kernel_rfl) q2 (fun hHeld => ?_)
  refine wpAnyH_take (i := 0) (v := ?_) rfl (by kernel_rfl) (by kernel_rfl) (by kernel_rfl) (fun _ _ _ h => h) (Or.inl ⟨by rfl, ?_⟩) (by assumption) ?_
  rotate_left
  · intro w' hSw; first | (go_simp; done) | (go_simp; with_reducible rfl)
  simp only [Act.put, List.getElem_toArray, List.getElem_cons_zero, List.setIfInBounds_toArray, List.set_cons_zero, List.set_cons_succ]
  refine wpAnyH_take (i := 1) (v := ?_) rfl (by kernel_rfl) (by kernel_rfl) (by kernel_rfl) (fun _ _ _ h => h) (Or.inl ⟨by rfl, ?_⟩) (by assumption) ?_
  rotate_left
  · intro w' hSw; first | (go_simp; done) | (go_simp; with_reducible rfl)
  simp only [Act.put, List.getElem_toArray, List.getElem_cons_zero, List.getElem_cons_succ, List.setIfInBounds_toArray, List.set_cons_zero, List.set_cons_succ]
  refine wpAnyH_take (i := 2) (v := ?_) rfl (by kernel_rfl) (by kernel_rfl) (by kernel_rfl) (fun _ _ _ h => h) (Or.inl ⟨by rfl, ?_⟩) (by assumption) ?_
  rotate_left
  · intro w' hSw; first | (go_simp; done) | (go_simp; with_reducible rfl)
  simp only [Act.put, List.getElem_toArray, List.getElem_cons_zero, List.getElem_cons_succ, List.setIfInBounds_toArray, List.set_cons_zero, List.set_cons_succ]
  refine wpAnyH_take (i := 4) (v := ?_) rfl (by kernel_rfl) (by kernel_rfl) (by kernel_rfl) (fun _ _ _ h => h) (Or.inl ⟨by rfl, ?_⟩) (by assumption) ?_
  rotate_left
  · intro w' hSw; first | (go_simp; done) | (go_simp; with_reducible rfl)
  simp only [Act.put, List.getElem_toArray, List.getElem_cons_zero, List.getElem_cons_succ, List.setIfInBounds_toArray, List.set_cons_zero, List.set_cons_succ]
  refine wpAnyH_take (i := 5) (v := ?_) rfl (by kernel_rfl) (by kernel_rfl) (by kernel_rfl) (fun _ _ _ h => h) (Or.inl ⟨by rfl, ?_⟩) (by assumption) ?_
  rotate_left
  · intro w' hSw; first | (go_simp; done) | (go_simp; with_reducible rfl)
  simp only [Act.put, List.getElem_toArray, List.getElem_cons_zero, List.getElem_cons_succ, List.setIfInBounds_toArray, List.set_cons_zero, List.set_cons_succ]
  refine wpAnyH_take (i := 6) (v := ?_) rfl (by kernel_rfl) (by kernel_rfl) (by kernel_rfl) (fun _ _ _ h => h) (Or.inl ⟨by rfl, ?_⟩) (by assumption) ?_
  rotate_left
  · intro w' hSw; first | (go_simp; done) | (go_simp; with_reducible rfl)
  simp only [Act.put, List.getElem_toArray, List.getElem_cons_zero, List.getElem_cons_succ, List.setIfInBounds_toArray, List.set_cons_zero, List.set_cons_succ]
  refine wpAnyH_take (i := 7) (v := ?_) rfl (by kernel_rfl) (by kernel_rfl) (by kernel_rfl) (fun _ _ _ h => h) (Or.inl ⟨by rfl, ?_⟩) (by assumption) ?_
  rotate_left
  · intro w' hSw; first | (go_simp; done) | (go_simp; with_reducible rfl)
  simp only [Act.put, List.getElem_toArray, List.getElem_cons_zero, List.getElem_cons_succ, List.setIfInBounds_toArray, List.set_cons_zero, List.set_cons_succ]
  refine wpAnyH_take (i := 8) (v := ?_) rfl (by kernel_rfl) (by kernel_rfl) (by kernel_rfl) (fun _ _ _ h => h) (Or.inl ⟨by rfl, ?_⟩) (by assumption) ?_
  rotate_left
  · intro w' hSw; first | (go_simp; done) | (go_simp; with_reducible rfl)
  simp only [Act.put, List.getElem_toArray, List.getElem_cons_zero, List.getElem_cons_succ, List.setIfInBounds_toArray, List.set_cons_zero, List.set_cons_succ]
  refine wpAnyH_take (i := 9) (v := ?_) rfl (by kernel_rfl) (by kernel_rfl) (by kernel_rfl) (fun _ _ _ h => h) (Or.inl ⟨by rfl, ?_⟩) (by assumption) ?_
  rotate_left
  · intro w' hSw; first | (go_simp; done) | (go_simp; with_reducible rfl)
  simp only [Act.put, List.getElem_toArray, List.getElem_cons_zero, List.getElem_cons_succ, List.setIfInBounds_toArray, List.set_cons_zero, List.set_cons_succ]
  refine wpAnyH_take (i := 10) (v := ?_) rfl (by kernel_rfl) (by kernel_rfl) (by kernel_rfl) (fun _ _ _ h => h) (Or.inl ⟨by rfl, ?_⟩) (by assumption) ?_
  rotate_left
  · intro w' hSw; first | (go_simp; done) | (go_simp; with_reducible rfl)
  simp only [Act.put, List.getElem_toArray, List.getElem_cons_zero, List.getElem_cons_succ, List.setIfInBounds_toArray, List.set_cons_zero, List.set_cons_succ]
  refine wpAnyH_take (i := 11) (v := ?_) rfl (by kernel_rfl) (by kernel_rfl) (by kernel_rfl) (fun _ _ _ h => h) (Or.inl ⟨by rfl, ?_⟩) (by assumption) ?_
  rotate_left
  · intro w' hSw; first | (go_simp; done) | (go_simp; with_reducible rfl)
  simp only [Act.put, List.getElem_toArray, List.getElem_cons_zero, List.getElem_cons_succ, List.setIfInBounds_toArray, List.set_cons_zero, List.set_cons_succ]
  refine wpAnyH_take (i := 12) (v := ?_) rfl (by kernel_rfl) (by kernel_rfl) (by kernel_rfl) (fun _ _ _ h => h) (Or.inl ⟨by rfl, ?_⟩) (by assumption) ?_
  rotate_left
  · intro w' hSw; first | (go_simp; done) | (go_simp; with_reducible rfl)
  simp only [Act.put, List.getElem_toArray, List.getElem_cons_zero, List.getElem_cons_succ, List.setIfInBounds_toArray, List.set_cons_zero, List.set_cons_succ]
  refine wpAnyH_take (i := 13) (v := ?_) rfl (by kernel_rfl) (by kernel_rfl) (by kernel_rfl) (fun _ _ _ h => h) (Or.inl ⟨by rfl, ?_⟩) (by assumption) ?_
  rotate_left
  · intro w' hSw; first | (go_simp; done) | (go_simp; with_reducible rfl)
  simp only [Act.put, List.getElem_toArray, List.getElem_cons_zero, List.getElem_cons_succ, List.setIfInBounds_toArray, List.set_cons_zero, List.set_cons_succ]
  refine wpAnyH_take (i := 14) (v := ?_) rfl (by kernel_rfl) (by kernel_rfl) (by kernel_rfl) (fun _ _ _ h => h) (Or.inl ⟨by rfl, ?_⟩) (by assumption) ?_
  rotate_left
  · intro w' hSw; first | (go_simp; done) | (go_simp; with_reducible rfl)
  simp only [Act.put, List.getElem_toArray, List.getElem_cons_zero, List.getElem_cons_succ, List.setIfInBounds_toArray, List.set_cons_zero, List.set_cons_succ]
  refine wpAnyH_take (i := 15) (v := ?_) rfl (by kernel_rfl) (by kernel_rfl) (by kernel_rfl) (fun _ _ _ h => h) (Or.inl ⟨by rfl, ?_⟩) (by assumption) ?_
  rotate_left
  · intro w' hSw; first | (go_simp; done) | (go_simp; with_reducible rfl)
  simp only [Act.put, List.getElem_toArray, List.getElem_cons_zero, List.getElem_cons_succ, List.setIfInBounds_toArray, List.set_cons_zero, List.set_cons_succ]
  refine wpAnyH_take (i := 16) (v := ?_) rfl (by kernel_rfl) (by kernel_rfl) (by kernel_rfl) (fun _ _ _ h => h) (Or.inl ⟨by rfl, ?_⟩) (by assumption) ?_
  rotate_left
  · intro w' hSw; first | (go_simp; done) | (go_simp; with_reducible rfl)
  simp only [Act.put, List.getElem_toArray, List.getElem_cons_zero, List.getElem_cons_succ, List.setIfInBounds_toArray, List.set_cons_zero, List.set_cons_succ]
  refine wpAnyH_ready (rs := [3]) (by kernel_rfl) (by simp) ?_
  refine AllReadyH.cons rfl (fun K hK => ?_) ?_
  · go_simp
    refine hK.out _ _ q2 (fun hHeld => ?_)
    clear hK K
    refine wpAnyH_ready (rs := [17]) (by kernel_rfl) (by simp) ?_
    refine AllReadyH.cons rfl (fun K hK => ?_) ?_
    · go_simp
      go_at_call 167
      refine (HUP.out wq.drew (HRM.out _ (H1.out.kept (Below.refl _ _).drew).own)).mono ?_; rintro e w2 ⟨v, rfl, ho, hb⟩
      obtain ⟨A', n', c', rfl⟩ : ∃ A n c, v = .slice A n c := (by obtain ⟨A, c, e, _⟩ := ho.rm.2; exact ⟨A, _, c, e⟩)
      have H2 := Lib.hid (HT.out w2 hb)
      have H3 := Lib.hid (HPN.out w2 _ H2.out.1 (ho.low H1.out.up))
      have HAP : Hid (Apart (putX (noWrap s) x (.slice A' n' c')) (putY (noWrap s) y (.slice A' n' c'))) := Lib.hid (put_apart (fun k e => (H1.out.own.m.lt k e).2) (fun k e => (H1.out.own.o.lt k e).2) (fun k e => (ho.lt k e).1))
      have q3 := HQ.out w2 H2.out.1.box
      obtain ⟨r0, r1, r2⟩ := HG.out w2 H2.out.1.box
      have q4 := HQ4.out w2 (moveG (seenG s) s.top s.bottom 1 s.cur.a).rows (moveG (seenG s) s.top s.bottom 1 s.cur.a).cols (.slice A' n' c') H2.out.1.box
      have f2 : ∀ j, w2.frozen? ⟨b, j, none⟩ = false := H2.out.1.box.free
      clear ho hb
      refine hK.out _ _ q3 (fun hHeld => ?_)
      clear hK K
      refine wpAnyH_take (i := 18) (v := ?_) rfl (by kernel_rfl) (by kernel_rfl) (by kernel_rfl) (fun _ _ _ h => h) (Or.inl ⟨by rfl, ?_⟩) (by assumption) ?_
      rotate_left
      · intro w' hSw; first | (go_simp; done) | (go_simp; with_reducible rfl)
      simp only [Act.put, List.getElem_toArray, List.getElem_cons_zero, List.getElem_cons_succ, List.setIfInBounds_toArray, List.set_cons_zero, List.set_cons_succ]
      refine wpAnyH_take (i := 19) (v := ?_) rfl (by kernel_rfl) (by kernel_rfl) (by kernel_rfl) (fun _ _ _ h => h) (Or.inl ⟨by rfl, ?_⟩) (by assumption) ?_
      rotate_left
      · intro w' hSw; first | (go_simp; done) | (go_simp; with_reducible rfl)
      simp only [Act.put, List.getElem_toArray, List.getElem_cons_zero, List.getElem_cons_succ, List.setIfInBounds_toArray, List.set_cons_zero, List.set_cons_succ]
      refine wpAnyH_take (i := 20) (v := ?_) rfl (by kernel_rfl) (by kernel_rfl) (by kernel_rfl) (fun _ _ _ h => h) (Or.inl ⟨by rfl, ?_⟩) (by assumption) ?_
      rotate_left
      · intro w' hSw; first | (go_simp; done) | (go_simp; with_reducible rfl)
      simp only [Act.put, List.getElem_toArray, List.getElem_cons_zero, List.getElem_cons_succ, List.setIfInBounds_toArray, List.set_cons_zero, List.set_cons_succ]
      refine wpAnyH_take (i := 21) (v := ?_) rfl (by kernel_rfl) (by kernel_rfl) (by kernel_rfl) (fun _ _ _ h => h) (Or.inl ⟨by rfl, ?_⟩) (by assumption) ?_
      rotate_left
      · intro w' hSw; first | (go_simp; done) | (go_simp; with_reducible rfl)
      simp only [Act.put, List.getElem_toArray, List.getElem_cons_zero, List.getElem_cons_succ, List.setIfInBounds_toArray, List.set_cons_zero, List.set_cons_succ]
      refine wpAnyH_ready (rs := [22]) (by kernel_rfl) (by simp) ?_
      refine AllReadyH.cons rfl (fun K hK => ?_) ?_
      · go_simp
        refine hK.out _ _ q4 (fun hHeld => ?_)
        clear hK K
        refine wpAnyH_done (by kernel_rfl) ?_ _
        go_wp2_with fail
        exact bodyPost_ret (results_none rfl _ _ _) rfl ⟨rfl, _, _, H3.out, fun _ => HAP.out, pput_below H2.out.2.1 (Nat.le_refl _) _ _ _, pput_only H2.out.2.2 _ _ _⟩
      exact AllReadyH.nil
    exact AllReadyH.nil
  exact AllReadyH.nil
set_option maxHeartbeats 6400000 in
theorem pdown_step (s : S) (x y z : Value) (b base : Nat) (w : World) (h : Pn w b base s x y z) (hok : Ok s) (hr : ¬ s.cur.row = s.bottom) :
    Calls Tryz.prog 128 #[.pointer (some ⟨b, 0, none⟩)] w fun e w' => e = .returned (.tuple #[]) ∧ ∃ x' y', Pn w' b base (atRow (noWrap s) (min (s.cur.row + 1) (s.main.rows - 1))) x' y' z ∧ (Apart x y → Apart x' y') ∧ Below b w w' ∧ Only b w w' := by
  have F := Lib.hid hok.facts
  have H1 := Lib.hid h.wrap
  have HB1 : Hid (Below b w (w.setCell ⟨b, 9, none⟩ (.bool false))) := Lib.hid ((Below.refl b w).setCell (show b ≤ b by omega) _)
  have HO1 : Hid (Only b w (w.setCell ⟨b, 9, none⟩ (.bool false))) := Lib.hid ((Only.refl b w).set 9 _)
  have c0 : w.cell? ⟨b, 9, none⟩ = some (.bool s.cur.wrap) := h.box.cell 9
  have f0 : w.frozen? ⟨b, 9, none⟩ = false := h.box.free 9
  have HSC := Lib.hid (seat_arr (noWrap s) x y z)
  have HPS := Lib.hid (penSeen (noWrap s) x y z b)
  obtain ⟨p, hp⟩ : ∃ p, seatO (noWrap s) = p := ⟨_, rfl⟩
  rw [hp] at HSC HPS
  have hw1 : IntKind.i64.wrap (s.cur.row + 1) = s.cur.row + 1 := by have := F.out.row0; have := F.out.row1; have := F.out.r40; rw [IntKind.wrap_i64]; omega
  have hw2 : IntKind.i64.wrap (s.main.rows - 1) = s.main.rows - 1 := by have := F.out.r1; have := F.out.r40; rw [IntKind.wrap_i64]; omega
  have HP0 : Hid (∀ W, SBox W b (noWrap s) x y z → W.cell? ⟨b, p, none⟩ = some (.int .i64 s.main.rows)) := Lib.hid fun W k => by rw [k.cell, ← F.out.gr]; exact HSC.out.1
  have HV : Hid (∀ W, Pn W b base (noWrap s) x y z → Pn (W.setCell ⟨b, 7, none⟩ (.int .i64 (min (s.cur.row + 1) (s.main.rows - 1)))) b base (atRow (noWrap s) (min (s.cur.row + 1) (s.main.rows - 1))) x y z) := Lib.hid fun W k => k.row _
  clear hp h hok HSC
  go_enter Tryz.func128, Tryz.ntmps128
  go_upto_region 1 with (fail)
  change Code.wp _ _ _ _ (w.setCell ⟨b, 9, none⟩ (.bool false))
  clear c0 f0
  generalize w.setCell ⟨b, 9, none⟩ (.bool false) = w1 at H1 HB1 HO1 ⊢
  have q7 : w1.cell? ⟨b, 7, none⟩ = some (.int .i64 s.cur.row) := H1.out.box.cell 7
  have qe : w1.cell? ⟨b, 38, none⟩ = some (.int .i64 s.bottom) := H1.out.box.cell 38
  have q0 := HP0.out w1 H1.out.box
  have f1 : ∀ j, w1.frozen? ⟨b, j, none⟩ = false := H1.out.box.free
  go_wp2_with fail
  refine (HPS.out w1 H1.out.box).mono ?_; rintro e w1' ⟨rfl, rfl⟩
  go_upto_region 2 with (fail)
  go_quiet (fail)
  have HE : Hid (∀ W, Below w1.heap.size w1 W → Pn (W.setCell ⟨b, 7, none⟩ (.int .i64 (min (s.cur.row + 1) (s.main.rows - 1)))) b base (atRow (noWrap s) (min (s.cur.row + 1) (s.main.rows - 1))) x y z ∧ Below b w (W.setCell ⟨b, 7, none⟩ (.int .i64 (min (s.cur.row + 1) (s.main.rows - 1)))) ∧ Only b w (W.setCell ⟨b, 7, none⟩ (.int .i64 (min (s.cur.row + 1) (s.main.rows - 1))))) := Lib.hid fun W hb =>
    ⟨HV.out W (H1.out.kept hb), (HB1.out.trans (hb.mono (by have := H1.out.lt; have := H1.out.up; omega))).setCell (show b ≤ b by omega) _, (Only.bel HO1.out hb).set 7 _⟩
  go_upto_region 4 with (fail)
  go_region
  all_goals
    go_wp2_with fail
    go_end0
    exact ⟨rfl, _, _, (HE.out _ (by first | exact bel_drewN _ _ | exact (bel_drewN _ _).drew)).1, fun h => h, (HE.out _ (by first | exact bel_drewN _ _ | exact (bel_drewN _ _).drew)).2⟩
end Scr
end Go.Proofs.YtceaoadlhdgnmaaGreatDoor
end
section
namespace Go.Proofs.YtceaoadlhdgnmaaGreatDoor
set_option maxRecDepth 100000
open Go.RowKit
namespace Scr
open Go.Proofs.YtceaoadlhdgnmaaGreatDoor.Row

/-- walks -/
theorem walks_begin : True := trivial
end Scr
end Go.Proofs.YtceaoadlhdgnmaaGreatDoor
end
