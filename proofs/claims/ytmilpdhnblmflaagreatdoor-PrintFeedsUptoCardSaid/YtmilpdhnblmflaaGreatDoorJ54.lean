/- Joined texts: PrnOk, ScrSame3, PrnLawF. -/
import Derived.Test.YtmilpdhnblmflaaGreatDoorJ1
import Derived.Test.YtmilpdhnblmflaaGreatDoorJ2
import Derived.Test.YtmilpdhnblmflaaGreatDoorJ3
import Derived.Test.YtmilpdhnblmflaaGreatDoorJ4
import Derived.Test.YtmilpdhnblmflaaGreatDoorJ5
import Derived.Test.YtmilpdhnblmflaaGreatDoorJ6
import Derived.Test.YtmilpdhnblmflaaGreatDoorJ7
import Derived.Test.YtmilpdhnblmflaaGreatDoorJ8
import Derived.Test.YtmilpdhnblmflaaGreatDoorJ9
import Derived.Test.YtmilpdhnblmflaaGreatDoorJ10
import Derived.Test.YtmilpdhnblmflaaGreatDoorJ11
import Derived.Test.YtmilpdhnblmflaaGreatDoorJ12
import Derived.Test.YtmilpdhnblmflaaGreatDoorJ13
import Derived.Test.YtmilpdhnblmflaaGreatDoorJ14
import Derived.Test.YtmilpdhnblmflaaGreatDoorJ15
import Derived.Test.YtmilpdhnblmflaaGreatDoorJ16
import Derived.Test.YtmilpdhnblmflaaGreatDoorJ17
import Derived.Test.YtmilpdhnblmflaaGreatDoorJ18
import Derived.Test.YtmilpdhnblmflaaGreatDoorJ19
import Derived.Test.YtmilpdhnblmflaaGreatDoorJ20
import Derived.Test.YtmilpdhnblmflaaGreatDoorJ21
import Derived.Test.YtmilpdhnblmflaaGreatDoorJ22
import Derived.Test.YtmilpdhnblmflaaGreatDoorJ23
import Derived.Test.YtmilpdhnblmflaaGreatDoorJ24
import Derived.Test.YtmilpdhnblmflaaGreatDoorJ25
import Derived.Test.YtmilpdhnblmflaaGreatDoorJ26
import Derived.Test.YtmilpdhnblmflaaGreatDoorJ27
import Derived.Test.YtmilpdhnblmflaaGreatDoorJ28
import Derived.Test.YtmilpdhnblmflaaGreatDoorJ29
import Derived.Test.YtmilpdhnblmflaaGreatDoorJ30
import Derived.Test.YtmilpdhnblmflaaGreatDoorJ31
import Derived.Test.YtmilpdhnblmflaaGreatDoorJ32
import Derived.Test.YtmilpdhnblmflaaGreatDoorJ33
import Derived.Test.YtmilpdhnblmflaaGreatDoorJ34
import Derived.Test.YtmilpdhnblmflaaGreatDoorJ35
import Derived.Test.YtmilpdhnblmflaaGreatDoorJ36
import Derived.Test.YtmilpdhnblmflaaGreatDoorJ37
import Derived.Test.YtmilpdhnblmflaaGreatDoorJ38
import Derived.Test.YtmilpdhnblmflaaGreatDoorJ39
import Derived.Test.YtmilpdhnblmflaaGreatDoorJ43
import Derived.Test.YtmilpdhnblmflaaGreatDoorJ44
import Derived.Test.YtmilpdhnblmflaaGreatDoorJ45
import Derived.Test.YtmilpdhnblmflaaGreatDoorJ46
import Derived.Test.YtmilpdhnblmflaaGreatDoorJ47
import Derived.Test.YtmilpdhnblmflaaGreatDoorJ48
import Derived.Test.YtmilpdhnblmflaaGreatDoorJ49
import Derived.Test.YtmilpdhnblmflaaGreatDoorJ50
import Derived.Test.YtmilpdhnblmflaaGreatDoorJ51
import Derived.Test.YtmilpdhnblmflaaGreatDoorJ52
import Derived.Test.YtmilpdhnblmflaaGreatDoorJ53
import Derived.BigQuiet
section
/- What is printed may be; two letters on one row wake the laws. -/
namespace Go.Proofs.YtmilpdhnblmflaaGreatDoor
set_option maxRecDepth 100000
open Go.RowKit
namespace Scr
open Go.Proofs.YtmilpdhnblmflaaGreatDoor.Row Wid

theorem overL_flat {C : Nat} {rs : List (List Cl)} (he : Even C rs) {i : Nat} (hi : i < rs.length) {r : List Cl} (hr : r.length = C) : overL rs.flatten (i * C) r = (rs.set i r).flatten := by
  unfold overL
  rw [hr, show i * C + C = (i + 1) * C by rw [Nat.succ_mul], take_flat he, drop_flat he, List.set_eq_take_append_cons_drop, if_pos hi, List.flatten_append, List.flatten_cons]
theorem withLine_ok {s : S} (h : Ok s) {m : List Cl} (hm : RowOk m) (hl : m.length = (seenG s).cols.toNat) : Ok (withLine s m) := by
  have f := h.facts
  unfold withLine
  refine putG_ok h ?_ f.gr f.gc
  obtain ⟨R, C, rs, e, hr, _⟩ := parts_of f.g
  obtain ⟨i, hi⟩ := Int.eq_ofNat_of_zero_le f.row0
  have hR : (seenG s).rows = (R : Int) := by rw [e]
  have hiR : i < R := by have := f.row1; have := f.gr; omega
  have hC : (seenG s).cols.toNat = C := by rw [e]; rfl
  have hla : lineAt s = i * C := by unfold lineAt; rw [hC, hi]; rfl
  rw [hC] at hl
  rw [hla, e]
  show gridB ⟨(R : Int), (C : Int), overL rs.flatten (i * C) m⟩ = true
  rw [overL_flat hr.even (by rw [hr.len]; exact hiR) hl]
  exact (gridB_iff _).2 (set_rws hr hiR hm hl).grid
theorem mid_row {l x : List Cl} {k n : Nat} (h : RowOk l) (hk : k + n ≤ l.length) (hx : Row.Good x) (hl : x.length = n) : RowOk (mid l k (k + n) x) ∧ (mid l k (k + n) x).length = l.length := by
  have hm := mid_length (show k ≤ k + n by omega) hk x
  have e : (mid l k (k + n) x).length = l.length := by omega
  exact ⟨⟨by rw [e]; exact h.1, by rw [e]; exact h.2.1, good_mid h.2.2 _ _ hx⟩, e⟩
theorem hereS_ok {s : S} (h : Ok s) {r : Int} {n : Nat} (hr : wid r = n) (hn : n = 1 ∨ n = 2) (hf : s.cur.col + n ≤ s.main.cols) : Ok (hereS s r n) := by
  have f := h.facts
  have L := h.line
  have h12 : wid r = 1 ∨ wid r = 2 := by omega
  have hcl : (cellsOf r s.cur.a).length = n := by have := cells_length (a := s.cur.a) h12; omega
  have hm := mid_row (k := s.cur.col.toNat) (n := n) L.ok (by rw [L.len]; have := L.cI; have := f.col0; omega) (good_cells h12 f.a) hcl
  have hw := withLine_ok h hm.1 (by rw [hm.2, L.len])
  obtain ⟨hc, hmo, hco⟩ := withLine_cur s (mid (lineS s) s.cur.col.toNat (s.cur.col.toNat + n) (cellsOf r s.cur.a))
  unfold hereS
  generalize withLine s (mid (lineS s) s.cur.col.toNat (s.cur.col.toNat + n) (cellsOf r s.cur.a)) = t at hw hc hmo hco
  refine ⟨hw.m, hw.o, hw.r, hw.c, ?_, hw.k2, hw.k3, hw.g, hw.b, hw.n, hw.t, ?_⟩
  · have hk := hw.k1
    unfold cursorB at hk
    unfold cursorB passed
    simp only [Bool.and_eq_true] at hk ⊢
    have hc1 := f.c1
    have h0 := f.col0
    refine ⟨hk.1, rng_iff.2 ⟨?_, ?_⟩, ?_, hk.2.2.2⟩
    · show 0 ≤ min (s.cur.col + (n : Int)) (s.main.cols - 1); omega
    · show min (s.cur.col + (n : Int)) (s.main.cols - 1) ≤ t.main.cols - 1; rw [hco]; omega
    · show (!(decide (s.cur.col + (n : Int) = s.main.cols) && hasB s.modes 1) || (min (s.cur.col + (n : Int)) (s.main.cols - 1) == t.main.cols - 1)) = true
      by_cases he : s.cur.col + (n : Int) = s.main.cols
      · have : min (s.cur.col + (n : Int)) (s.main.cols - 1) = t.main.cols - 1 := by rw [hco]; omega
        rw [this]; simp
      · rw [decide_eq_false he]; rfl
  · show lastB r = true
    unfold lastB
    rcases h12 with e | e <;> rw [e] <;> simp
theorem num9 (n : Int) (w : World) : Calls Tryz.prog 31 #[.int .i64 n] w fun e w' => e = .returned (.int .i64 n) ∧ w' = w := by
  go_enter Tryz.func31, Tryz.ntmps31
  go_wp2_with fail
  go_ret
  exact ⟨rfl, rfl⟩
theorem num9_then {w : World} {n : Int} {Q : Ending → World → Prop} (hQ : Q (.returned (.int .i64 n)) w) : Calls Tryz.prog 31 #[.int .i64 n] w Q :=
  (num9 n w).mono (by rintro e w' ⟨rfl, rfl⟩; exact hQ)
def twoS : S := hereS (hereS (newS 1 2) 97 1) 98 1
theorem two_facts : (hereS (newS 1 2) 97 1).cur.col = 1 ∧ (hereS (newS 1 2) 97 1).cur.wrap = false ∧ (hereS (newS 1 2) 97 1).main.cols = 2 ∧ hasB (hereS (newS 1 2) 97 1).modes 2 = false ∧ setOf (hereS (newS 1 2) 97 1).cur = 0 ∧
    twoS.main.cells.length = 2 ∧ (g twoS.main.cells 1).rune = 98 ∧ twoS.cur.wrap = true := by
  refine ⟨?_, ?_, ?_, ?_, ?_, ?_, ?_, ?_⟩ <;> kernel_rfl
theorem one_facts : hasB (newS 1 2).modes 2 = false ∧ setOf (newS 1 2).cur = 0 ∧ wid 97 = 1 ∧ wid 98 = 1 := by
  refine ⟨?_, ?_, ?_, ?_⟩ <;> kernel_rfl
end Scr
end Go.Proofs.YtmilpdhnblmflaaGreatDoor
end
section
/- What the laws ask of each answer, once more: nothing but the answer's own memory is touched. -/
namespace Go.Proofs.YtmilpdhnblmflaaGreatDoor
set_option maxRecDepth 100000
open Go.RowKit
namespace Scr
open Go.Proofs.YtmilpdhnblmflaaGreatDoor.Row

/-- All blocks but these three stand. -/
def Far (w w' : World) (x y z : Value) : Prop := ∀ (g : Nat) (o : Obj), x.ownBlock ≠ some g → y.ownBlock ≠ some g → z.ownBlock ≠ some g → w.heap[g]? = some o → w'.heap[g]? = some o
set_option maxHeartbeats 1600000 in
theorem screen_over2 (s : S) (x y z : Value) (base : Nat) (w : World) (h : Own w base s x y z) (hl : Lens s) (hb : base ≤ w.heap.size) :
    Calls Tryz.prog 43 #[sv s x y z] w fun e w' => e = .returned (.tuple #[]) ∧ Below base w w' ∧ Boxes w w' ∧ Far w w' x y z := by
  have HA := Lib.hid (h.kept (bel_alloc w (.cells (sarr s x y z) 38)))
  have H0 : Hid (SBox (w.alloc (.cells (sarr s x y z) 38)) w.heap.size s x y z) := Lib.hid (SBox.new w s x y z)
  have HB0 : Hid (Below base w (w.alloc (.cells (sarr s x y z) 38))) := Lib.hid ((Below.refl _ _).alloc hb _)
  have HX0 := Lib.hid (boxes_alloc w (.cells (sarr s x y z) 38))
  have HL := Lib.hid hl
  clear h hl
  go_enter Tryz.func43, Tryz.ntmps43
  go_wp2_with fail
  refine (cells_over s.main.cells x base _ HA.out.m (by have := HL.out.m; omega)).mono ?_; rintro e w1 ⟨rfl, hbl, hsh, hon⟩
  have HF1 : Hid (∀ g o, x.ownBlock ≠ some g → w.heap[g]? = some o → w1.heap[g]? = some o) := Lib.hid fun g o h1 e => hon g o h1 (old_alloc e _)
  have HX1 : Hid (Boxes w w1) := Lib.hid (HX0.out.trans fun g A e => hon _ _ (scr_ne HA.out.m e) e)
  have H1 : Hid (SBox w1 w.heap.size s x y z) := Lib.hid (hon _ _ (scr_ne HA.out.m H0.out) H0.out)
  have HB1 := Lib.hid (HB0.out.trans hbl)
  have HO1 := Lib.hid (hsh.1 _ _ _ HA.out.o)
  have HT1 := Lib.hid (hsh.2 _ _ _ HA.out.t)
  clear hbl hsh hon HA H0 HB0 HX0
  have c1 : ∀ j, w1.cell? ⟨w.heap.size, j, none⟩ = (sarr s x y z)[j]? := H1.out.cell
  go_wp2_with fail
  obtain ⟨m', hm', ho'⟩ := HO1.out
  refine (cells_over m' y base _ ho' (by have := HL.out.o; omega)).mono ?_; rintro e w2 ⟨rfl, hbl, hsh, hon⟩
  have HF2 : Hid (∀ g o, x.ownBlock ≠ some g → y.ownBlock ≠ some g → w.heap[g]? = some o → w2.heap[g]? = some o) := Lib.hid fun g o h1 h2 e => hon g o h2 (HF1.out g o h1 e)
  have HX2 : Hid (Boxes w w2) := Lib.hid (HX1.out.trans fun g A e => hon _ _ (scr_ne ho' e) e)
  have H2 : Hid (SBox w2 w.heap.size s x y z) := Lib.hid (hon _ _ (scr_ne ho' H1.out) H1.out)
  have HB2 := Lib.hid (HB1.out.trans hbl)
  have HT2 := Lib.hid (hsh.2 _ _ _ HT1.out)
  clear hbl hsh hon H1 c1 HB1 HO1 hm' ho' HX1
  have c2 : ∀ j, w2.cell? ⟨w.heap.size, j, none⟩ = (sarr s x y z)[j]? := H2.out.cell
  go_wp2_with fail
  refine (bools_over s.tabs _ HT2.out (by have := HL.out.t; omega)).mono ?_; rintro e w3 ⟨rfl, hbl, hon⟩
  have HF3 : Hid (Far w w3 x y z) := Lib.hid fun g o h1 h2 h3 e => hon g o h3 (HF2.out g o h1 h2 e)
  have HX3 : Hid (Boxes w w3) := Lib.hid (HX2.out.trans fun g A e => hon _ _ (scr_neB HT2.out e) e)
  have HB3 := Lib.hid (HB2.out.trans hbl)
  clear hbl hon
  go_wp2_with fail
  go_end0
  exact ⟨rfl, HB3.out, HX3.out, HF3.out⟩
set_option maxHeartbeats 6400000 in
theorem same_yes2 (base : Nat) (X : S) (x y z x' y' z' : Value) (s : S) (xi yi zi xs ys zs : Value) (w : World) (hb : base ≤ w.heap.size) (hx : Own w base X x y z) (hw : In w X x' y' z')
    (hi : ∀ w', Below base w w' → In w' s xi yi zi) (hs : ∀ w', Below base w w' → In w' s xs ys zs) (hl : Lens X) (hl2 : Lens s) :
    Calls Tryz.prog 12 #[sv X x y z, .int .i64 0, .bool true, sv X x' y' z', sv s xi yi zi, sv s xs ys zs] w fun e w' => e = .returned (.bool true) ∧ Below base w w' ∧ Boxes w w' ∧ Far w w' x y z := by
  have H0 := Lib.hid (Sm.start (s := s) (xi := xi) (yi := yi) (zi := zi) (xs := xs) (ys := ys) (zs := zs) hb hx hw)
  have HB := Lib.hid hb
  have HI := Lib.hid hi
  have HS := Lib.hid hs
  have HL := Lib.hid hl
  have HL2 := Lib.hid hl2
  clear hb hx hw hi hs hl hl2
  go_enter Tryz.func12, Tryz.ntmps12
  go_upto_region 5 with (fail)
  change Code.wp _ _ _ _ ((((w.alloc (.cells (sarr X x y z) 38)).alloc (.cells (sarr X x' y' z') 38)).alloc (.cells (sarr s xi yi zi) 38)).alloc (.cells (sarr s xs ys zs) 38))
  have HU : Hid (base ≤ ((((w.alloc (.cells (sarr X x y z) 38)).alloc (.cells (sarr X x' y' z') 38)).alloc (.cells (sarr s xi yi zi) 38)).alloc (.cells (sarr s xs ys zs) 38)).heap.size) := Lib.hid (Nat.le_trans HB.out (four_below _ _ _ _ _).size)
  have HK1 : Hid (∀ (g : Nat) (o : Obj), w.heap[g]? = some o → ((((w.alloc (.cells (sarr X x y z) 38)).alloc (.cells (sarr X x' y' z') 38)).alloc (.cells (sarr s xi yi zi) 38)).alloc (.cells (sarr s xs ys zs) 38)).heap[g]? = some o) := Lib.hid fun g o e => Blk.kept e (four_below _ _ _ _ _)
  generalize ((((w.alloc (.cells (sarr X x y z) 38)).alloc (.cells (sarr X x' y' z') 38)).alloc (.cells (sarr s xi yi zi) 38)).alloc (.cells (sarr s xs ys zs) 38)) = w1 at H0 HU HK1 ⊢
  go_wp2_with fail
  refine (num8 0 w1).mono ?_; rintro e w1' ⟨rfl, rfl⟩
  go_wp2_with (first
    | (refine wp_loadS (b := w.heap.size) (s := X) rfl rfl rfl H0.out.b0 ?_)
    | (refine wp_loadS (b := w.heap.size + 1) (s := X) rfl rfl rfl H0.out.b1 ?_))
  refine (eqScreen_same X x y z x' y' z' w1 H0.out.own.in_ H0.out.want HL.out).mono ?_; rintro e w2 ⟨rfl, hb⟩
  have H2 := Lib.hid (H0.out.kept HU.out hb)
  have HK2 : Hid (∀ (g : Nat) (o : Obj), w.heap[g]? = some o → w2.heap[g]? = some o) := Lib.hid fun g o e => Blk.kept (HK1.out g o e) hb
  have HU2 : Hid (base ≤ w2.heap.size) := Lib.hid (Nat.le_trans HU.out hb.size)
  clear hb H0 HU
  go_wp2_with (first
    | (refine wp_loadS (b := w.heap.size + 2) (s := s) rfl rfl rfl H2.out.b2 ?_)
    | (refine wp_loadS (b := w.heap.size + 3) (s := s) rfl rfl rfl H2.out.b3 ?_))
  refine (eqScreen_same s xi yi zi xs ys zs w2 (HI.out _ H2.out.bel) (HS.out _ H2.out.bel) HL2.out).mono ?_; rintro e w3 ⟨rfl, hb⟩
  have H3 := Lib.hid (H2.out.kept HU2.out hb)
  have HK3 : Hid (∀ (g : Nat) (o : Obj), w.heap[g]? = some o → w3.heap[g]? = some o) := Lib.hid fun g o e => Blk.kept (HK2.out g o e) hb
  have HU3 : Hid (base ≤ w3.heap.size) := Lib.hid (Nat.le_trans HU2.out hb.size)
  clear hb H2 HU2
  go_wp2_with (refine wp_loadS (b := w.heap.size) (s := X) rfl rfl rfl H3.out.b0 ?_)
  refine (screen_over2 X x y z base w3 H3.out.own HL.out HU3.out).mono ?_; rintro e w4 ⟨rfl, hbl, hbx, hfr⟩
  have HK4 : Hid (Far w w4 x y z) := Lib.hid fun g o h1 h2 h3 e => hfr g o h1 h2 h3 (HK3.out g o e)
  have H4 : Hid (Sm2 base w s xi yi zi xs ys zs w4) := Lib.hid ⟨H3.out.bel.trans hbl, hbx _ _ H3.out.b2, hbx _ _ H3.out.b3, H3.out.bx.trans hbx⟩
  have HU4 : Hid (base ≤ w4.heap.size) := Lib.hid (Nat.le_trans HU3.out hbl.size)
  clear hbl hbx hfr H3 HU3
  go_wp2_with (first
    | (refine wp_loadS (b := w.heap.size + 2) (s := s) rfl rfl rfl H4.out.b2 ?_)
    | (refine wp_loadS (b := w.heap.size + 3) (s := s) rfl rfl rfl H4.out.b3 ?_))
  refine (eqScreen_same s xi yi zi xs ys zs w4 (HI.out _ H4.out.bel) (HS.out _ H4.out.bel) HL2.out).mono ?_; rintro e w5 ⟨rfl, hb⟩
  have H5 := Lib.hid (And.intro (H4.out.bel.trans (hb.mono HU4.out)) (H4.out.bx.trans (boxes_bel hb)))
  have HK5 : Hid (Far w w5 x y z) := Lib.hid fun g o h1 h2 h3 e => Blk.kept (HK4.out g o h1 h2 h3 e) hb
  clear hb H4 HU4
  go_wp2_with fail
  go_ret
  exact ⟨rfl, H5.out.1, H5.out.2, HK5.out⟩
set_option maxHeartbeats 6400000 in
theorem same_no2 (base : Nat) (W : S) (x' y' z' : Value) (s : S) (xi yi zi xs ys zs : Value) (w : World) (hb : base ≤ w.heap.size)
    (hi : ∀ w', Below base w w' → In w' s xi yi zi) (hs : ∀ w', Below base w w' → In w' s xs ys zs) (hl2 : Lens s) :
    Calls Tryz.prog 12 #[sv noS nilS nilS nilS, .int .i64 1, .bool false, sv W x' y' z', sv s xi yi zi, sv s xs ys zs] w fun e w' => e = .returned (.bool true) ∧ Below base w w' ∧ Boxes w w' ∧ Far w w' nilS nilS nilS := by
  have HB := Lib.hid hb
  have HI := Lib.hid hi
  have HS := Lib.hid hs
  have HL := Lib.hid lens_no
  have HL2 := Lib.hid hl2
  have HO : Hid (((((w.alloc (.cells (sarr noS nilS nilS nilS) 38)).alloc (.cells (sarr W x' y' z') 38)).alloc (.cells (sarr s xi yi zi) 38)).alloc (.cells (sarr s xs ys zs) 38)).heap[w.heap.size + 1]? = some (.cells (sarr W x' y' z') 38 (0, 0))) := Lib.hid (four_1 _ _ _ _ _)
  have HKS : Hid (∀ w1, Sto ((((w.alloc (.cells (sarr noS nilS nilS nilS) 38)).alloc (.cells (sarr W x' y' z') 38)).alloc (.cells (sarr s xi yi zi) 38)).alloc (.cells (sarr s xs ys zs) 38)) (w.heap.size + 1) zarr w1 → ∀ (g : Nat) (o : Obj), w.heap[g]? = some o → w1.heap[g]? = some o) := Lib.hid fun w1 h1 g o e => (h1.other _ (by have := Blk.lt e; omega)).trans (Blk.kept e (four_below _ _ _ _ _))
  have HK : Hid (∀ w1, Sto ((((w.alloc (.cells (sarr noS nilS nilS nilS) 38)).alloc (.cells (sarr W x' y' z') 38)).alloc (.cells (sarr s xi yi zi) 38)).alloc (.cells (sarr s xs ys zs) 38)) (w.heap.size + 1) zarr w1 → Sm base w noS nilS nilS nilS nilS nilS nilS s xi yi zi xs ys zs w1) := Lib.hid fun w1 h1 =>
    ⟨h1.below _ _ (by omega) ((four_below _ _ _ _ _).mono hb), (h1.other _ (by omega)).trans (four_old _ _ _ _ _), h1.box, (h1.other _ (by omega)).trans (four_2 _ _ _ _ _), (h1.other _ (by omega)).trans (four_3 _ _ _ _ _), own_nil _ _, (own_nil _ base).in_, fun g A e => (h1.other _ (by have := Blk.lt e; omega)).trans (boxes_bel (four_below _ _ _ _ _) g A e)⟩
  clear hb hi hs hl2
  go_enter Tryz.func12, Tryz.ntmps12
  go_upto_region 5 with (refine wp_storeS_then (b := w.heap.size + 1) (A := zarr) (T := fun w1 => Sm base w noS nilS nilS nilS nilS nilS nilS s xi yi zi xs ys zs w1 ∧ ∀ (g : Nat) (o : Obj), w.heap[g]? = some o → w1.heap[g]? = some o) rfl rfl rfl rfl rfl (sarr_one rfl rfl rfl) HO.out rfl (fun w1 k => ⟨HK.out w1 k, HKS.out w1 k⟩) ?_; intro w1 H00; have H0 := Lib.hid H00.out.1; have HK1 := Lib.hid H00.out.2; clear H00)
  have HU : Hid (base ≤ w1.heap.size) := Lib.hid (Nat.le_trans HB.out (by have := Blk.lt H0.out.b0; omega))
  go_wp2_with fail
  refine (num8 1 w1).mono ?_; rintro e w1' ⟨rfl, rfl⟩
  go_wp2_with (first
    | (refine wp_loadS (b := w.heap.size) (s := noS) rfl rfl rfl H0.out.b0 ?_)
    | (refine wp_loadS (b := w.heap.size + 1) (s := noS) rfl rfl rfl H0.out.b1 ?_))
  refine (eqScreen_same noS nilS nilS nilS nilS nilS nilS w1 H0.out.own.in_ H0.out.want HL.out).mono ?_; rintro e w2 ⟨rfl, hb⟩
  have H2 := Lib.hid (H0.out.kept HU.out hb)
  have HK2 : Hid (∀ (g : Nat) (o : Obj), w.heap[g]? = some o → w2.heap[g]? = some o) := Lib.hid fun g o e => Blk.kept (HK1.out g o e) hb
  have HU2 : Hid (base ≤ w2.heap.size) := Lib.hid (Nat.le_trans HU.out hb.size)
  clear hb H0 HU
  go_wp2_with (first
    | (refine wp_loadS (b := w.heap.size + 2) (s := s) rfl rfl rfl H2.out.b2 ?_)
    | (refine wp_loadS (b := w.heap.size + 3) (s := s) rfl rfl rfl H2.out.b3 ?_))
  refine (eqScreen_same s xi yi zi xs ys zs w2 (HI.out _ H2.out.bel) (HS.out _ H2.out.bel) HL2.out).mono ?_; rintro e w3 ⟨rfl, hb⟩
  have H3 := Lib.hid (H2.out.kept HU2.out hb)
  have HK3 : Hid (∀ (g : Nat) (o : Obj), w.heap[g]? = some o → w3.heap[g]? = some o) := Lib.hid fun g o e => Blk.kept (HK2.out g o e) hb
  have HU3 : Hid (base ≤ w3.heap.size) := Lib.hid (Nat.le_trans HU2.out hb.size)
  clear hb H2 HU2
  go_wp2_with (refine wp_loadS (b := w.heap.size) (s := noS) rfl rfl rfl H3.out.b0 ?_)
  refine (screen_over2 noS nilS nilS nilS base w3 H3.out.own HL.out HU3.out).mono ?_; rintro e w4 ⟨rfl, hbl, hbx, hfr⟩
  have HK4 : Hid (Far w w4 nilS nilS nilS) := Lib.hid fun g o h1 h2 h3 e => hfr g o h1 h2 h3 (HK3.out g o e)
  have H4 : Hid (Sm2 base w s xi yi zi xs ys zs w4) := Lib.hid ⟨H3.out.bel.trans hbl, hbx _ _ H3.out.b2, hbx _ _ H3.out.b3, H3.out.bx.trans hbx⟩
  have HU4 : Hid (base ≤ w4.heap.size) := Lib.hid (Nat.le_trans HU3.out hbl.size)
  clear hbl hbx hfr H3 HU3
  go_wp2_with (first
    | (refine wp_loadS (b := w.heap.size + 2) (s := s) rfl rfl rfl H4.out.b2 ?_)
    | (refine wp_loadS (b := w.heap.size + 3) (s := s) rfl rfl rfl H4.out.b3 ?_))
  refine (eqScreen_same s xi yi zi xs ys zs w4 (HI.out _ H4.out.bel) (HS.out _ H4.out.bel) HL2.out).mono ?_; rintro e w5 ⟨rfl, hb⟩
  have H5 := Lib.hid (And.intro (H4.out.bel.trans (hb.mono HU4.out)) (H4.out.bx.trans (boxes_bel hb)))
  have HK5 : Hid (Far w w5 nilS nilS nilS) := Lib.hid fun g o h1 h2 h3 e => Blk.kept (HK4.out g o h1 h2 h3 e) hb
  clear hb H4 HU4
  go_wp2_with fail
  go_ret
  exact ⟨rfl, H5.out.1, H5.out.2, HK5.out⟩
/-- Same, whether there may be an answer or not. -/
theorem same_any2 (may : Bool) (base : Nat) (X W : S) (x y z x' y' z' : Value) (code : Int) (s : S) (xi yi zi xs ys zs : Value) (w : World) (hb : base ≤ w.heap.size) (hc : code = codeB may)
    (h1 : may = true → W = X ∧ Own w base X x y z ∧ In w X x' y' z' ∧ Lens X) (h0 : may = false → X = noS ∧ x = nilS ∧ y = nilS ∧ z = nilS)
    (hi : ∀ w', Below base w w' → In w' s xi yi zi) (hs : ∀ w', Below base w w' → In w' s xs ys zs) (hl2 : Lens s) :
    Calls Tryz.prog 12 #[sv X x y z, .int .i64 code, .bool may, sv W x' y' z', sv s xi yi zi, sv s xs ys zs] w fun e w' => e = .returned (.bool true) ∧ Below base w w' ∧ Boxes w w' ∧ Far w w' x y z := by
  subst hc
  cases may
  · obtain ⟨rfl, rfl, rfl, rfl⟩ := h0 rfl
    exact same_no2 base W x' y' z' s xi yi zi xs ys zs w hb hi hs hl2
  · obtain ⟨rfl, h2, h3, h4⟩ := h1 rfl
    exact same_yes2 base W x y z x' y' z' s xi yi zi xs ys zs w hb h2 h3 hi hs h4 hl2
/-- What was made later than the three stands. -/
theorem own_far {w w' : World} {base : Nat} {s : S} {a b c x y z : Value} (h : Own w base s a b c) (hf : Far w w' x y z) (hx : ∀ k, x.ownBlock = some k → k < base) (hy : ∀ k, y.ownBlock = some k → k < base) (hz : ∀ k, z.ownBlock = some k → k < base) : Own w' base s a b c := by
  have kk : ∀ (g : Nat) (o : Obj), base ≤ g → w.heap[g]? = some o → w'.heap[g]? = some o := fun g o hg e =>
    hf g o (fun q => by have := hx g q; omega) (fun q => by have := hy g q; omega) (fun q => by have := hz g q; omega) e
  have k1 : ∀ {v : Value} {l : List Cl}, OwnCs w base v l → OwnCs w' base v l := fun {v l} hv => by
    refine ⟨hv.1, ?_⟩
    rcases hv.2 with h0 | ⟨g, cap, cur, rfl, hg, hc, rest⟩
    · exact .inl h0
    · exact .inr ⟨g, cap, cur, rfl, hg, kk g _ hg hc, rest⟩
  refine ⟨k1 h.m, k1 h.o, h.t.1, ?_⟩
  rcases h.t.2 with h0 | ⟨g, cap, cur, hv, hg, hc, rest⟩
  · exact .inl h0
  · exact .inr ⟨g, cap, cur, hv, hg, kk g _ hg hc, rest⟩
end Scr
end Go.Proofs.YtmilpdhnblmflaaGreatDoor
end
section
/- The law on line feeds: walked. -/
namespace Go.Proofs.YtmilpdhnblmflaaGreatDoor
set_option maxRecDepth 100000
open Go.RowKit
namespace Scr
open Go.Proofs.YtmilpdhnblmflaaGreatDoor.Row Wid

/-- Where a screen's own memory ends. -/
structure Lt8 (e : Sc) (B : Nat) : Prop where
  x : ∀ k, e.x.ownBlock = some k → k < B
  y : ∀ k, e.y.ownBlock = some k → k < B
  z : ∀ k, e.z.ownBlock = some k → k < B
theorem own_lt8 {w : World} {base : Nat} {e : Sc} (h : Own w base e.s e.x e.y e.z) : Lt8 e w.heap.size :=
  ⟨fun k q => (h.m.lt k q).2, fun k q => (h.o.lt k q).2, fun k q => (World.ownsRow.lt h.t k q).2⟩
theorem own_keptB {w w' : World} {base B : Nat} {e : Sc} (h : Own w base e.s e.x e.y e.z) (hl : Lt8 e B) (hb : Below B w w') : Own w' base e.s e.x e.y e.z := by
  have k1 : ∀ {v : Value} {l : List Cl}, OwnCs w base v l → (∀ k, v.ownBlock = some k → k < B) → OwnCs w' base v l := fun {v l} hv hlt => by
    refine ⟨hv.1, ?_⟩
    rcases hv.2 with h0 | ⟨g, cap, cur, rfl, hg, hc, rest⟩
    · exact .inl h0
    · exact .inr ⟨g, cap, cur, rfl, hg, (hb.block g (hlt g rfl)).trans hc, rest⟩
  refine ⟨k1 h.m hl.x, k1 h.o hl.y, h.t.1, ?_⟩
  rcases h.t.2 with h0 | ⟨g, cap, cur, hv, hg, hc, rest⟩
  · exact .inl h0
  · exact .inr ⟨g, cap, cur, hv, hg, (hb.block g (hl.z g (by rw [hv]; rfl))).trans hc, rest⟩
/-- The law's boxes. -/
structure Lb (w : World) (V : Value) (n m k r : Int) (b5 b6 b8 b10 b11 : Nat) (e5 e6 e8 e10 e11 : Sc) (W : World) : Prop where
  run : Run w W V n m k r
  x5 : SBox W b5 e5.s e5.x e5.y e5.z
  x6 : SBox W b6 e6.s e6.x e6.y e6.z
  x8 : SBox W b8 e8.s e8.x e8.y e8.z
  x10 : SBox W b10 e10.s e10.x e10.y e10.z
  x11 : SBox W b11 e11.s e11.x e11.y e11.z
theorem Lb.kept {w W W' : World} {V : Value} {n m k r : Int} {b5 b6 b8 b10 b11 : Nat} {e5 e6 e8 e10 e11 : Sc} (h : Lb w V n m k r b5 b6 b8 b10 b11 e5 e6 e8 e10 e11 W) (hb : Below W.heap.size W W') : Lb w V n m k r b5 b6 b8 b10 b11 e5 e6 e8 e10 e11 W' :=
  ⟨h.run.kept hb, h.x5.kept hb, h.x6.kept hb, h.x8.kept hb, h.x10.kept hb, h.x11.kept hb⟩
theorem Lb.boxes {w W W' : World} {V : Value} {n m k r : Int} {b5 b6 b8 b10 b11 B : Nat} {e5 e6 e8 e10 e11 : Sc} (h : Lb w V n m k r b5 b6 b8 b10 b11 e5 e6 e8 e10 e11 W) (hB : w.heap.size < B) (hb : Below B W W') (hx : Boxes W W') : Lb w V n m k r b5 b6 b8 b10 b11 e5 e6 e8 e10 e11 W' :=
  ⟨⟨h.run.bel.trans (hb.mono (by omega)), (hb.block _ hB).trans h.run.box⟩, hx _ _ h.x5, hx _ _ h.x6, hx _ _ h.x8, hx _ _ h.x10, hx _ _ h.x11⟩
structure Ne8 (w : World) (b5 b6 b8 b10 b11 B B2 : Nat) : Prop where
  a : b5 ≠ b10
  b : b6 ≠ b10
  c : b8 ≠ b10
  d : b5 ≠ b11
  e : b6 ≠ b11
  f : b8 ≠ b11
  g : b10 ≠ b11
  h : w.heap.size < b10
  i : w.heap.size < b11
  j : w.heap.size < B
  k : B ≤ B2
/-- .. and whose memory is whose. -/
structure Lg (w : World) (V : Value) (n m k r : Int) (b5 b6 b8 b10 b11 B B2 : Nat) (e5 e6 e8 e10 e11 : Sc) (W : World) : Prop where
  lb : Lb w V n m k r b5 b6 b8 b10 b11 e5 e6 e8 e10 e11 W
  ini : Own W 0 e5.s e5.x e5.y e5.z
  lti : Lt8 e5 B
  ownX : Own W B e6.s e6.x e6.y e6.z
  ltX : Lt8 e6 B2
  ownY : Own W B2 e8.s e8.x e8.y e8.z
  wA : In W e10.s e10.x e10.y e10.z
  ownC : Own W B2 e11.s e11.x e11.y e11.z
  ne : Ne8 w b5 b6 b8 b10 b11 B B2
  upB2 : B2 ≤ W.heap.size
section
variable {w W W' : World} {V : Value} {n m k r : Int} {b5 b6 b8 b10 b11 B B2 : Nat} {e5 e6 e8 e10 e11 : Sc}
theorem Lg.run (h : Lg w V n m k r b5 b6 b8 b10 b11 B B2 e5 e6 e8 e10 e11 W) : Run w W V n m k r := h.lb.run
theorem Lg.bel (h : Lg w V n m k r b5 b6 b8 b10 b11 B B2 e5 e6 e8 e10 e11 W) : Below w.heap.size w W := h.lb.run.bel
theorem Lg.x10 (h : Lg w V n m k r b5 b6 b8 b10 b11 B B2 e5 e6 e8 e10 e11 W) : SBox W b10 e10.s e10.x e10.y e10.z := h.lb.x10
theorem Lg.x11 (h : Lg w V n m k r b5 b6 b8 b10 b11 B B2 e5 e6 e8 e10 e11 W) : SBox W b11 e11.s e11.x e11.y e11.z := h.lb.x11
theorem Lg.kept (h : Lg w V n m k r b5 b6 b8 b10 b11 B B2 e5 e6 e8 e10 e11 W) (hb : Below W.heap.size W W') : Lg w V n m k r b5 b6 b8 b10 b11 B B2 e5 e6 e8 e10 e11 W' :=
  ⟨h.lb.kept hb, h.ini.kept hb, h.lti, h.ownX.kept hb, h.ltX, h.ownY.kept hb, h.wA.kept hb, h.ownC.kept hb, h.ne, Nat.le_trans h.upB2 hb.size⟩
theorem Lg.putA {base : Nat} {N : S} {a b c : Value} (h : Lg w V n m k r b5 b6 b8 b10 b11 B B2 e5 e6 e8 e10 e11 W) (ho : Own W base N a b c) (hs : Sto W b10 (sarr N a b c) W') : Lg w V n m k r b5 b6 b8 b10 b11 B B2 e5 e6 e8 ⟨N, a, b, c⟩ e11 W' :=
  ⟨⟨⟨hs.below _ _ (by have := h.ne.h; omega) h.lb.run.bel, (hs.other _ (by have := h.ne.h; omega)).trans h.lb.run.box⟩, hs.boxed h.ne.a h.lb.x5, hs.boxed h.ne.b h.lb.x6, hs.boxed h.ne.c h.lb.x8, hs.box, hs.boxed h.ne.g.symm h.lb.x11⟩,
    hs.own2 h.lb.x10 h.ini, h.lti, hs.own2 h.lb.x10 h.ownX, h.ltX, hs.own2 h.lb.x10 h.ownY, (hs.own2 h.lb.x10 ho).in_, hs.own2 h.lb.x10 h.ownC, h.ne, by rw [hs.size]; exact h.upB2⟩
theorem in_sto {b : Nat} {A old : Array Value} {s : S} {x y z : Value} {base : Nat} (h : Own W base s x y z) (hs : Sto W b A W') (hb : W.heap[b]? = some (.cells old 38 (0, 0))) : In W' s x y z := (hs.own2 hb h).in_
theorem Lg.putC {N : S} {a b c : Value} {base : Nat} (h : Lg w V n m k r b5 b6 b8 b10 b11 B B2 e5 e6 e8 e10 e11 W) (hA : Own W base e10.s e10.x e10.y e10.z) (ho : Own W B2 N a b c) (hs : Sto W b11 (sarr N a b c) W') : Lg w V n m k r b5 b6 b8 b10 b11 B B2 e5 e6 e8 e10 ⟨N, a, b, c⟩ W' :=
  ⟨⟨⟨hs.below _ _ (by have := h.ne.i; omega) h.lb.run.bel, (hs.other _ (by have := h.ne.i; omega)).trans h.lb.run.box⟩, hs.boxed h.ne.d h.lb.x5, hs.boxed h.ne.e h.lb.x6, hs.boxed h.ne.f h.lb.x8, hs.boxed h.ne.g h.lb.x10, hs.box⟩,
    hs.own2 h.lb.x11 h.ini, h.lti, hs.own2 h.lb.x11 h.ownX, h.ltX, hs.own2 h.lb.x11 h.ownY, (hs.own2 h.lb.x11 hA).in_, hs.own2 h.lb.x11 ho, h.ne, by rw [hs.size]; exact h.upB2⟩
/-- Behind the first answer, written over. -/
structure Lh (w : World) (V : Value) (n m k r : Int) (b5 b6 b8 b10 b11 B B2 : Nat) (e5 e6 e8 e10 e11 : Sc) (W : World) : Prop where
  lb : Lb w V n m k r b5 b6 b8 b10 b11 e5 e6 e8 e10 e11 W
  ini : Own W 0 e5.s e5.x e5.y e5.z
  lti : Lt8 e5 B
  ownY : Own W B2 e8.s e8.x e8.y e8.z
  ownC : Own W B2 e11.s e11.x e11.y e11.z
  ne : Ne8 w b5 b6 b8 b10 b11 B B2
  upB2 : B2 ≤ W.heap.size
theorem Lg.after (h : Lg w V n m k r b5 b6 b8 b10 b11 B B2 e5 e6 e8 e10 e11 W) (hb : Below B W W') (hx : Boxes W W') (hf : Far W W' e6.x e6.y e6.z) : Lh w V n m k r b5 b6 b8 b10 b11 B B2 e5 e6 e8 e10 e11 W' :=
  ⟨h.lb.boxes h.ne.j hb hx, own_keptB h.ini h.lti hb, h.lti, own_far h.ownY hf h.ltX.x h.ltX.y h.ltX.z, own_far h.ownC hf h.ltX.x h.ltX.y h.ltX.z, h.ne, Nat.le_trans h.upB2 hb.size⟩
theorem Lh.after (h : Lh w V n m k r b5 b6 b8 b10 b11 B B2 e5 e6 e8 e10 e11 W) (hb : Below B2 W W') (hx : Boxes W W') : Lb w V n m k r b5 b6 b8 b10 b11 e5 e6 e8 e10 e11 W' := h.lb.boxes (by have := h.ne.j; have := h.ne.k; omega) hb hx
end
theorem Lt8.mono {e : Sc} {B B2 : Nat} (h : Lt8 e B) (hb : B ≤ B2) : Lt8 e B2 := ⟨fun k q => Nat.lt_of_lt_of_le (h.x k q) hb, fun k q => Nat.lt_of_lt_of_le (h.y k q) hb, fun k q => Nat.lt_of_lt_of_le (h.z k q) hb⟩
theorem Lg.start {w W : World} {V : Value} {n m k r : Int} {b5 b6 b8 B B2 : Nat} {e5 e6 e8 : Sc} (hr : Run w W V n m k r) (h5 : SBox W b5 e5.s e5.x e5.y e5.z) (h6 : SBox W b6 e6.s e6.x e6.y e6.z) (h8 : SBox W b8 e8.s e8.x e8.y e8.z)
    (hi : Own W 0 e5.s e5.x e5.y e5.z) (li : Lt8 e5 B) (hx : Own W B e6.s e6.x e6.y e6.z) (lx : Lt8 e6 B2) (hy : Own W B2 e8.s e8.x e8.y e8.z) (hB : w.heap.size < B) (hBB : B ≤ B2) (h2 : B2 ≤ W.heap.size) :
    Lg w V n m k r b5 b6 b8 W.heap.size (W.heap.size + 1) B B2 e5 e6 e8 ⟨noS, nilS, nilS, nilS⟩ ⟨noS, nilS, nilS, nilS⟩ ((W.alloc (.cells zarr 38)).alloc (.cells zarr 38)) := by
  have hb : Below W.heap.size W ((W.alloc (.cells zarr 38)).alloc (.cells zarr 38)) := (bel_alloc W _).alloc (by simp) _
  have l5 := Blk.lt h5
  have l6 := Blk.lt h6
  have l8 := Blk.lt h8
  have lr := Blk.lt hr.box
  exact ⟨⟨hr.kept hb, h5.kept hb, h6.kept hb, h8.kept hb, old_alloc (new_alloc _ _ _ rfl) _, new_alloc _ _ _ (by simp)⟩, hi.kept hb, li, hx.kept hb, lx, hy.kept hb, (own_nil _ 0).in_, own_nil _ _,
    ⟨by omega, by omega, by omega, by omega, by omega, by omega, by omega, by omega, by omega, hB, hBB⟩, Nat.le_trans h2 hb.size⟩
theorem downD (s : S) (x y z : Value) (w : World) (h : In w s x y z) (hh : Holds s) (hT : Tabs w) : Calls Tryz.prog 27 #[sv s x y z] w fun e w' => ∃ X x' y' z' code, e = .returned (.tuple #[sv X x' y' z', .int .i64 code]) ∧ Ans w w' (okB s) (downS s) X x' y' z' code := by
  cases ho : okB s
  · refine (down8_no s x y z w h hh hT ho).mono ?_
    rintro e w' ⟨rfl, hb⟩
    exact ⟨noS, nilS, nilS, nilS, 1, rfl, hb, own_nil _ _, rfl, (by simp), fun _ => ⟨rfl, rfl, rfl, rfl⟩⟩
  · refine (down8_any s x y z w h hh hT ho).mono ?_
    rintro e w' ⟨x', y', z', rfl, ho, hb⟩
    exact ⟨downS s, x', y', z', 0, rfl, hb, ho, rfl, fun _ => rfl, (by simp)⟩
theorem backD (s : S) (x y z : Value) (w : World) (h : In w s x y z) (hh : Holds s) (hT : Tabs w) : Calls Tryz.prog 28 #[sv s x y z] w fun e w' => ∃ X x' y' z' code, e = .returned (.tuple #[sv X x' y' z', .int .i64 code]) ∧ Ans w w' (okB s) (backS s) X x' y' z' code := by
  cases ho : okB s
  · refine (back8_no s x y z w h hh hT ho).mono ?_
    rintro e w' ⟨rfl, hb⟩
    exact ⟨noS, nilS, nilS, nilS, 1, rfl, hb, own_nil _ _, rfl, (by simp), fun _ => ⟨rfl, rfl, rfl, rfl⟩⟩
  · refine (back8_any s x y z w h hh hT ho).mono ?_
    rintro e w' ⟨x', y', z', rfl, ho, hb⟩
    exact ⟨backS s, x', y', z', 0, rfl, hb, ho, rfl, fun _ => rfl, (by simp)⟩
set_option maxHeartbeats 3200000 in
theorem wakes9 (w : World) (hT : Tabs w) : Calls Tryz.prog 26 #[] w fun e w' => e = .returned (.bool true) ∧ Below w.heap.size w w' := by
  have HN := Lib.hid (refNew8 1 2 w (by decide) (by decide) (by decide) (by decide))
  have hok0 := newS_ok (r := 1) (c := 2) (by decide) (by decide) (by decide) (by decide)
  obtain ⟨f1, f2, f3, f4⟩ := one_facts
  obtain ⟨t1, t2, t3, t4, t5, t6, t7, t8⟩ := two_facts
  have hok1 := hereS_ok hok0 (r := 97) (n := 1) f3 (.inl rfl) (by decide)
  have HR1 := Lib.hid (fun x y z W (h : In W (newS 1 2) x y z) (t : Tabs W) => rune_here (newS 1 2) x y z 97 1 W h hok0.holds t ((ok_iff _).2 hok0) f1 (by rw [f2]; decide) f3 (.inl rfl) (by decide) rfl)
  have HR2 := Lib.hid (fun x y z W (h : In W (hereS (newS 1 2) 97 1) x y z) (t : Tabs W) => rune_here (hereS (newS 1 2) 97 1) x y z 98 1 W h hok1.holds t ((ok_iff _).2 hok1) t4 (by rw [t5]; decide) f4 (.inl rfl) (by rw [t1, t3]; decide) t2)
  have HL : Hid (twoS.main.cells.length = 2 ∧ (g twoS.main.cells 1).rune = 98 ∧ twoS.cur.wrap = true) := Lib.hid ⟨t6, t7, t8⟩
  clear f1 f2 f3 f4 t1 t2 t3 t4 t5 t6 t7 t8 hok0 hok1
  have e2 : hereS (hereS (newS 1 2) 97 1) 98 1 = twoS := rfl
  rw [e2] at HR2
  clear e2
  generalize twoS = S2 at HR2 HL
  generalize hereS (newS 1 2) 97 1 = S1 at HR1 HR2
  have HT := Lib.hid hT
  clear hT
  go_enter Tryz.func26, Tryz.ntmps26
  go_wp2_with fail
  refine HN.out.mono ?_; rintro e w1 ⟨x, y, z, rfl, ho, hb⟩
  generalize newS 1 2 = S0 at HR1 ho ⊢
  have H1 := Lib.hid (And.intro ho.in_ hb)
  clear ho hb HN
  go_wp2_with (first
    | (refine wp_allocS (n := w1.heap.size) rfl rfl rfl ?_)
    | (refine wp_storeS (b := w1.heap.size) rfl rfl rfl rfl rfl H1.out.1.one (heap_alloc_new _ _) rfl ?_; intro w2 h2; obtain ⟨hx2, hb2⟩ := bx_sto (e := ⟨S0, x, y, z⟩) H1.out.1 h2; have H2 := Lib.hid (And.intro hx2 (H1.out.2.trans (hb2.mono H1.out.2.size))); clear hx2 hb2 h2)
    | (refine wp_loadS (b := w1.heap.size) (s := S0) (x0 := x) (y0 := y) (z0 := z) rfl rfl rfl H2.out.1.box ?_))
  have HLW : Hid (w.heap.size ≤ w1.heap.size) := Lib.hid H1.out.2.size
  clear H1
  generalize w1.heap.size = b at H2 HLW ⊢
  refine (HR1.out x y z w2 H2.out.1.i (HT.out.kept H2.out.2)).mono ?_; rintro e w3 ⟨x1, y1, z1, rfl, ho, hb⟩
  have H3 : Hid (SBox w3 b S0 x y z ∧ Own w3 w2.heap.size S1 x1 y1 z1 ∧ Below w.heap.size w w3) := Lib.hid ⟨H2.out.1.box.kept hb, ho, H2.out.2.trans (hb.mono H2.out.2.size)⟩
  clear ho hb H2 HR1
  go_wp2_with (first
    | (refine wp_storeS_then (b := b) (A := sarr S1 x1 y1 z1) (T := fun W => SBox W b S1 x1 y1 z1 ∧ Own W 0 S1 x1 y1 z1 ∧ Below w.heap.size w W) rfl rfl rfl rfl rfl H3.out.2.1.in_.one H3.out.1 rfl (fun W k => ⟨k.box, k.own2 H3.out.1 (H3.out.2.1.low (Nat.zero_le _)), k.below _ _ HLW.out H3.out.2.2⟩) ?_; intro w4 H4)
    | (refine wp_loadS (b := b) (s := S1) (x0 := x1) (y0 := y1) (z0 := z1) rfl rfl rfl H4.out.1 ?_))
  clear H3
  refine (HR2.out x1 y1 z1 w4 H4.out.2.1.in_ (HT.out.kept H4.out.2.2)).mono ?_; rintro e w5 ⟨x2, y2, z2, rfl, ho, hb⟩
  have H5 : Hid (SBox w5 b S1 x1 y1 z1 ∧ Own w5 w4.heap.size S2 x2 y2 z2 ∧ Below w.heap.size w w5) := Lib.hid ⟨H4.out.1.kept hb, ho, H4.out.2.2.trans (hb.mono H4.out.2.2.size)⟩
  clear ho hb H4 HR2
  rcases H5.out.2.1.m.shape with ⟨_, e0⟩ | ⟨g2, cap, e0, _, _⟩
  · have := HL.out.1; rw [e0] at this; simp at this
  rw [HL.out.1] at e0
  subst e0
  go_wp2_with (refine wp_storeS_then (b := b) (A := sarr S2 (.slice (some ⟨g2, 0, none⟩) 2 cap) y2 z2) (T := fun W => SBox W b S2 (.slice (some ⟨g2, 0, none⟩) 2 cap) y2 z2 ∧ Own W 0 S2 (.slice (some ⟨g2, 0, none⟩) 2 cap) y2 z2 ∧ Below w.heap.size w W) rfl rfl rfl rfl rfl H5.out.2.1.in_.one H5.out.1 rfl (fun W k => ⟨k.box, k.own2 H5.out.1 (H5.out.2.1.low (Nat.zero_le _)), k.below _ _ HLW.out H5.out.2.2⟩) ?_; intro w6 H6)
  refine num9_then ?_
  go_wp2_with fail
  refine num9_then ?_
  have c2 : w6.cell? ⟨b, 2, none⟩ = some (.slice (some ⟨g2, 0, none⟩) 2 cap) := H6.out.1.cell 2
  have c9 : w6.cell? ⟨b, 9, none⟩ = some (.bool true) := by have k := H6.out.1.cell 9; rw [sarr_9, HL.out.2.2] at k; exact k
  have c6 : w6.cell? ⟨g2, 6, none⟩ = some (.int .i64 98) := by
    have k := H6.out.2.1.m.cell (k := 1) (j := 0) (by rw [HL.out.1]; decide) (by decide)
    rw [← HL.out.2.1]
    exact k
  have HB6 := Lib.hid H6.out.2.2
  clear H5 H6
  go_wp2_with fail
  go_ret
  exact ⟨rfl, HB6.out⟩
set_option maxHeartbeats 12000000 in
theorem lawFeeds_any (v : Value) (l : List Sc) (n m k r : Int) (w : World) (h : Scrs 1048576 w v l) (hl : l.length ≤ 140737488355328) (hT : Tabs w) :
    Calls Tryz.prog 5 #[.agg #[v, .int .i64 n, .int .i64 m, .int .i64 k, .int .i64 r]] w fun e w' => e = .returned (.bool true) ∧ Below w.heap.size w w' := by
  have HT := Lib.hid hT
  obtain ⟨⟨A, c, rfl, hc, hf⟩, h2⟩ := id h
  have HF := Lib.hid hf
  have H2 := Lib.hid h2
  have H0 := Lib.hid (Run.start w (.slice A l.length c) n m k r)
  have HH := Lib.hid (heavy8 (.slice A l.length c) l n m k r _ (h.kept H0.out.bel) hl (by decide))
  have HWK := Lib.hid (fun W (hW : Below w.heap.size w W) => wakes9 W (hT.kept hW))
  obtain ⟨q, hq⟩ : ∃ q, l.length = q := ⟨_, rfl⟩
  rw [hq] at HF H2 H0 HH ⊢
  clear h hT h2 hf hl hc hq
  go_enter Tryz.func5, Tryz.ntmps5
  go_wp2_with fail
  refine HH.out.mono ?_; rintro e w1 ⟨b, rfl, hw, hb⟩
  have H1 := Lib.hid (H0.out.kept hb)
  have HW := Lib.hid hw
  clear hw hb HH H0
  cases b
  case true =>
    go_wp2_with fail
    go_ret
    exact ⟨rfl, H1.out.bel⟩
  go_wp2_with fail
  go_loopw [3] (fun j wr => ∃ i : Nat, i ≤ q ∧ i ≤ 4 ∧ j = .int .i64 i ∧ Hid (Run w wr (.slice A q c) n m k r)) (fun j _ => q - (intOf j).toNat)
  case atStart => exact ⟨0, by omega, by omega, rfl, H1⟩
  case round =>
    clear H1
    obtain ⟨i, hi, hi4, rfl, HR⟩ := hrel
    have b0 : wr.cell? ⟨w.heap.size, 0, none⟩ = some (.slice A q c) := Blk.cell HR.out.box 0
    by_cases hiq : i < q
    · by_cases h4 : i < 4
      · obtain ⟨ad, rfl, hat⟩ := HF.out i hiq
        have hI := H2.out i hiq
        have hFt := fit8 hI.2 (HW.out trivial i hiq)
        generalize l.getD i noSc = sc at hat hI hFt
        have HAT := Lib.hid (show At w (ad.add (i * 43)) (sarr sc.s sc.x sc.y sc.z).toList from hat)
        have HIN : Hid (∀ W, Below w.heap.size w W → sc.in_ W) := Lib.hid fun W hb => hI.1.kept hb
        have HFT := Lib.hid hFt
        clear hat hI hFt
        obtain ⟨may, hmay⟩ : ∃ q, okB sc.s = q := ⟨_, rfl⟩
        have HMAY := Lib.hid hmay
        have HOK1 : Hid (may = true → Ok sc.s) := Lib.hid fun h => (ok_iff _).1 (hmay.trans h)
        go_wp2_with (refine wp_loadArg rfl rfl rfl (HAT.out.kept HR.out.bel) ?_)
        refine (refScreen_any sc.s sc.x sc.y sc.z wr (HIN.out _ HR.out.bel) HFT.out.sh (HT.out.kept HR.out.bel)).mono ?_; rintro e w2 ⟨rfl, hb⟩
        rw [hmay]
        have HR2 := Lib.hid (HR.out.kept hb)
        clear hb HR b0 hmay
        have b0 : w2.cell? ⟨w.heap.size, 0, none⟩ = some (.slice (some ad) q c) := Blk.cell HR2.out.box 0
        go_wp2_with (refine wp_loadArg rfl rfl rfl (HAT.out.kept HR2.out.bel) ?_)
        refine (copyScreen_any sc.s sc.x sc.y sc.z w2 (HIN.out _ HR2.out.bel) ⟨HFT.out.l.m, HFT.out.l.o, HFT.out.l.t⟩).mono ?_; rintro e w3 ⟨xi, yi, zi, rfl, ho, hb⟩
        have HO3 := Lib.hid ho
        have HI3 := Lib.hid ho.in_
        have HR3 := Lib.hid (HR2.out.kept hb)
        clear ho hb HR2 b0
        go_wp2_with (first
          | (refine wp_allocS (n := w3.heap.size) rfl rfl rfl ?_)
          | (refine wp_storeS (b := w3.heap.size) rfl rfl rfl rfl rfl HI3.out.one (heap_alloc_new _ _) rfl ?_; intro w4 h4; obtain ⟨hx4, hb4⟩ := bx_sto (e := ⟨sc.s, xi, yi, zi⟩) HI3.out h4; have HX4 := Lib.hid hx4; have HR4 := Lib.hid (HR3.out.kept hb4); have HO4 := Lib.hid (HO3.out.kept hb4); clear hx4 hb4 h4)
          | (refine wp_loadS (b := w3.heap.size) (s := sc.s) (x0 := xi) (y0 := yi) (z0 := zi) rfl rfl rfl HX4.out.box ?_))
        have HB5 : Hid (w.heap.size < w3.heap.size) := Lib.hid (Blk.lt HR3.out.box)
        clear HI3 HO3 HR3
        generalize w3.heap.size = b5 at HX4 HB5 ⊢
        refine (downD sc.s xi yi zi w4 HX4.out.i HFT.out.h (HT.out.kept HR4.out.bel)).mono ?_; rintro e w5 ⟨X, x, y, z, code, rfl, hans⟩
        have HA := Lib.hid hans
        have HI5 := Lib.hid hans.own.in_
        clear hans
        go_wp2_with (first
          | (refine wp_allocS (n := w5.heap.size) rfl rfl rfl ?_)
          | (refine wp_storeS (b := w5.heap.size) rfl rfl rfl rfl rfl HI5.out.one (heap_alloc_new _ _) rfl ?_; intro w6 h6; obtain ⟨hx6, hb6⟩ := bx_sto (e := ⟨X, x, y, z⟩) HI5.out h6; have HX6 := Lib.hid hx6; have HB46 := Lib.hid (HA.out.bel.trans (hb6.mono HA.out.bel.size)); have HO6 := Lib.hid (HA.out.own.kept hb6); have HX46 := Lib.hid (HX4.out.kept HB46.out); clear hx6 hb6 h6)
          | (refine wp_loadS (b := b5) (s := sc.s) (x0 := xi) (y0 := yi) (z0 := zi) rfl rfl rfl HX46.out.box ?_))
        have HB6 : Hid (w4.heap.size ≤ w5.heap.size) := Lib.hid HA.out.bel.size
        have HY1 : Hid (may = true → X = downS sc.s) := Lib.hid (by have h := HA.out.yes; rwa [HMAY.out] at h)
        have HN1 : Hid (may = false → X = noS ∧ x = nilS ∧ y = nilS ∧ z = nilS) := Lib.hid (by have h := HA.out.no; rwa [HMAY.out] at h)
        have HC1 : Hid (code = codeB may) := Lib.hid (by have h := HA.out.code; rwa [HMAY.out] at h)
        have HR6 := Lib.hid (HR4.out.kept HB46.out)
        have HO46 := Lib.hid ((HO4.out.low (Nat.zero_le _)).kept HB46.out)
        have HL4 : Hid (Lt8 ⟨sc.s, xi, yi, zi⟩ w4.heap.size) := Lib.hid (own_lt8 (e := ⟨sc.s, xi, yi, zi⟩) HO4.out)
        have HB54 : Hid (b5 < w4.heap.size ∧ w.heap.size < w4.heap.size) := Lib.hid ⟨Blk.lt HX4.out.box, Blk.lt HR4.out.box⟩
        clear HA HI5 HR4 HO4 HX4 HB46
        generalize w5.heap.size = b6 at HX6 HB6 ⊢
        generalize w4.heap.size = B at HB6 HO6 HL4 HB54 ⊢
        refine (backD sc.s xi yi zi w6 HX46.out.i HFT.out.h (HT.out.kept HR6.out.bel)).mono ?_; rintro e w7 ⟨Y, u, v, t, code2, rfl, hans⟩
        have HA := Lib.hid hans
        have HI7 := Lib.hid hans.own.in_
        clear hans
        go_upto_region 11 with (first
          | (refine wp_allocS (n := w7.heap.size) rfl rfl rfl ?_)
          | (refine wp_storeS (b := w7.heap.size) rfl rfl rfl rfl rfl HI7.out.one (heap_alloc_new _ _) rfl ?_; intro w8 h8; obtain ⟨hx8, hb8⟩ := bx_sto (e := ⟨Y, u, v, t⟩) HI7.out h8; have HX8 := Lib.hid hx8; have HB68 := Lib.hid (HA.out.bel.trans (hb8.mono HA.out.bel.size)); have HO8 := Lib.hid (HA.out.own.kept hb8); clear hx8 hb8 h8)
          | (refine wp_allocS (n := w8.heap.size) rfl rfl rfl ?_)
          | (refine wp_allocS1 (w := w8) rfl rfl ?_))
        go_simp
        have HY2 : Hid (may = true → Y = backS sc.s) := Lib.hid (by have h := HA.out.yes; rwa [HMAY.out] at h)
        have HN2 : Hid (may = false → Y = noS ∧ u = nilS ∧ v = nilS ∧ t = nilS) := Lib.hid (by have h := HA.out.no; rwa [HMAY.out] at h)
        have HC2 : Hid (code2 = codeB may) := Lib.hid (by have h := HA.out.code; rwa [HMAY.out] at h)
        have HG := Lib.hid (Lg.start (e5 := ⟨sc.s, xi, yi, zi⟩) (e6 := ⟨X, x, y, z⟩) (e8 := ⟨Y, u, v, t⟩) (HR6.out.kept HB68.out) (HX46.out.box.kept HB68.out) (HX6.out.box.kept HB68.out) HX8.out.box (HO46.out.kept HB68.out) HL4.out (HO6.out.kept HB68.out) (own_lt8 (e := ⟨X, x, y, z⟩) HO6.out) HO8.out HB54.out.2 (Nat.le_trans HB6.out (Nat.le_of_lt (Blk.lt HX6.out.box))) HB68.out.size)
        change Code.wp _ _ _ _ ((w8.alloc (.cells zarr 38)).alloc (.cells zarr 38))
        clear HA HX46 HX6 HO6 HO46 HL4 HX8 HB68 HO8 HB6 HB54 HB5 HR6 HI7
        generalize (w8.alloc (.cells zarr 38)).alloc (.cells zarr 38) = wg at HG ⊢
        generalize w8.heap.size + 1 = b11 at HG ⊢
        generalize w8.heap.size = b10 at HG ⊢
        generalize w7.heap.size = b8 at HG ⊢
        generalize w6.heap.size = B2 at HG ⊢
        go_upto_if 47 with (fail)
        go_cut [4] from 47 to 59 (fun s4 wx => s4 = .bool may ∧ ∃ A2 a1 a2 a3 C2 c1 c2 c3, Hid (Lg w (.slice (some ad) q c) n m k r b5 b6 b8 b10 b11 B B2 ⟨sc.s, xi, yi, zi⟩ ⟨X, x, y, z⟩ ⟨Y, u, v, t⟩ ⟨A2, a1, a2, a3⟩ ⟨C2, c1, c2, c3⟩ wx) ∧ Hid (may = true → A2 = downS sc.s ∧ C2 = backS sc.s))
        case first =>
          cases may
          · go_wp2_with fail
            go_meet
            exact ⟨rfl, _, _, _, _, _, _, _, _, HG, Lib.hid (fun h => by cases h)⟩
          · have HOKT := Lib.hid (HOK1.out rfl)
            have HQ : Hid (∀ W, Run w W (.slice (some ad) q c) n m k r → W.cell? ⟨w.heap.size, 0, none⟩ = some (.slice (some ad) q c) ∧ Hid (Below w.heap.size w W)) := Lib.hid fun W h => ⟨Blk.cell h.box 0, Lib.hid h.bel⟩
            have q0 := HQ.out _ (HG.out.kept (Below.refl _ _).drew).run
            have HNN := Lib.hid HN1.out
            clear HY1 HN1 HC1 HY2 HN2 HC2 HNN HOK1
            go_upto_region 12 with (fail)
            refine wp_region_held_drew (S := fun w' => w'.cell? ⟨w.heap.size, 0, none⟩ = some (.slice (some ad) q c) ∧ Hid (Below w.heap.size w w')) (by kernel_rfl) q0 (fun hHeld => ?_)
            refine wpAnyH_take (i := 0) (v := ?_) rfl (by kernel_rfl) (by kernel_rfl) (by kernel_rfl) (fun _ _ _ h => h) (Or.inl ⟨by rfl, ?_⟩) (by assumption) ?_
            rotate_left
            · intro w' hSw; first | (go_simp; done) | (go_simp; with_reducible rfl)
            simp only [Act.put, List.getElem_toArray, List.getElem_cons_zero, List.setIfInBounds_toArray, List.set_cons_zero, List.set_cons_succ]
            refine wpAnyH_take (i := 1) (v := ?_) rfl (by kernel_rfl) (by kernel_rfl) (by kernel_rfl) (fun _ _ _ h => h) (Or.inl ⟨by rfl, ?_⟩) (by assumption) ?_
            rotate_left
            · intro w' hSw; first | (go_simp; done) | (go_simp; with_reducible rfl)
            simp only [Act.put, List.getElem_toArray, List.getElem_cons_zero, List.getElem_cons_succ, List.setIfInBounds_toArray, List.set_cons_zero, List.set_cons_succ]
            refine wpAnyH_take (i := 2) (v := ?_) rfl (by kernel_rfl) (by kernel_rfl) (by kernel_rfl) (fun _ _ _ h => h) (Or.inl ⟨by rfl, ?_⟩) (by assumption) ?_
            rotate_left
            · intro w' hSw; first | (go_simp; done) | (go_simp; with_reducible rfl)
            simp only [Act.put, List.getElem_toArray, List.getElem_cons_zero, List.getElem_cons_succ, List.setIfInBounds_toArray, List.set_cons_zero, List.set_cons_succ]
            refine wpAnyH_take (i := 3) (v := ?_) rfl (by kernel_rfl) (by kernel_rfl) (by kernel_rfl) (fun _ _ _ h => h) (Or.inl ⟨by rfl, ?_⟩) (by assumption) ?_
            rotate_left
            · intro w' hSw; first | (go_simp; done) | (go_simp; with_reducible rfl)
            simp only [Act.put, List.getElem_toArray, List.getElem_cons_zero, List.getElem_cons_succ, List.setIfInBounds_toArray, List.set_cons_zero, List.set_cons_succ]
            refine wpAnyH_take (i := 4) (v := sv sc.s sc.x sc.y sc.z) rfl (by kernel_rfl) (by kernel_rfl) (by kernel_rfl) (fun _ _ _ h => h) (yields_loadS rfl rfl rfl (fun w' hS => HAT.out.kept hS.2.out)) (by assumption) ?_
            simp only [Act.put, List.getElem_toArray, List.getElem_cons_zero, List.getElem_cons_succ, List.setIfInBounds_toArray, List.set_cons_zero, List.set_cons_succ]
            refine wpAnyH_take (i := 6) (v := ?_) rfl (by kernel_rfl) (by kernel_rfl) (by kernel_rfl) (fun _ _ _ h => h) (Or.inl ⟨by rfl, ?_⟩) (by assumption) ?_
            rotate_left
            · intro w' hSw; first | (go_simp; done) | (go_simp; with_reducible rfl)
            simp only [Act.put, List.getElem_toArray, List.getElem_cons_zero, List.getElem_cons_succ, List.setIfInBounds_toArray, List.set_cons_zero, List.set_cons_succ]
            refine wpAnyH_take (i := 7) (v := ?_) rfl (by kernel_rfl) (by kernel_rfl) (by kernel_rfl) (fun _ _ _ h => h) (Or.inl ⟨by rfl, ?_⟩) (by assumption) ?_
            rotate_left
            · intro w' hSw; first | (go_simp; done) | (go_simp; with_reducible rfl)
            simp only [Act.put, List.getElem_toArray, List.getElem_cons_zero, List.getElem_cons_succ, List.setIfInBounds_toArray, List.set_cons_zero, List.set_cons_succ]
            refine wpAnyH_take (i := 8) (v := ?_) rfl (by kernel_rfl) (by kernel_rfl) (by kernel_rfl) (fun _ _ _ h => h) (Or.inl ⟨by rfl, ?_⟩) (by assumption) ?_
            rotate_left
            · intro w' hSw; first | (go_simp; done) | (go_simp; with_reducible rfl)
            simp only [Act.put, List.getElem_toArray, List.getElem_cons_zero, List.getElem_cons_succ, List.setIfInBounds_toArray, List.set_cons_zero, List.set_cons_succ]
            refine wpAnyH_take (i := 9) (v := ?_) rfl (by kernel_rfl) (by kernel_rfl) (by kernel_rfl) (fun _ _ _ h => h) (Or.inl ⟨by rfl, ?_⟩) (by assumption) ?_
            rotate_left
            · intro w' hSw; first | (go_simp; done) | (go_simp; with_reducible rfl)
            simp only [Act.put, List.getElem_toArray, List.getElem_cons_zero, List.getElem_cons_succ, List.setIfInBounds_toArray, List.set_cons_zero, List.set_cons_succ]
            refine wpAnyH_take (i := 10) (v := sv sc.s sc.x sc.y sc.z) rfl (by kernel_rfl) (by kernel_rfl) (by kernel_rfl) (fun _ _ _ h => h) (yields_loadS rfl rfl rfl (fun w' hS => HAT.out.kept hS.2.out)) (by assumption) ?_
            simp only [Act.put, List.getElem_toArray, List.getElem_cons_zero, List.getElem_cons_succ, List.setIfInBounds_toArray, List.set_cons_zero, List.set_cons_succ]
            refine wpAnyH_ready (rs := [5]) (by kernel_rfl) (by simp) ?_
            refine AllReadyH.cons rfl (fun K hK => ?_) ?_
            · go_simp
              go_at_call 29
              refine (refDown8 sc.s sc.x sc.y sc.z wg.drew (HIN.out _ (HG.out.bel.drew)) HOKT.out).mono ?_; rintro e w10 ⟨a1, a2, a3, rfl, ho, hb⟩
              have H10 := Lib.hid (HG.out.kept ((Below.refl _ _).drew.trans hb))
              have HA10 := Lib.hid ho
              have q10 := HQ.out w10 H10.out.run
              clear ho hb
              refine hK.out _ _ q10 (fun hHeld => ?_)
              clear hK K
              refine wpAnyH_ready (rs := [11]) (by kernel_rfl) (by simp) ?_
              refine AllReadyH.cons rfl (fun K hK => ?_) ?_
              · go_simp
                go_at_call 30
                refine (refBack8 sc.s sc.x sc.y sc.z w10 (HIN.out _ H10.out.bel) HOKT.out).mono ?_; rintro e w11 ⟨c1, c2, c3, rfl, ho, hb⟩
                have H11 := Lib.hid (H10.out.kept hb)
                have HA11 := Lib.hid (HA10.out.kept hb)
                have HC11 := Lib.hid (ho.low H10.out.upB2)
                have q11 := HQ.out w11 H11.out.run
                clear ho hb
                refine hK.out _ _ q11 (fun hHeld => ?_)
                clear hK K
                refine wpAnyH_ready (rs := [12]) (by kernel_rfl) (by simp) ?_
                refine AllReadyH.cons rfl (fun K hK => ?_) ?_
                · refine step_storeS (b := b10) (A := sarr (downS sc.s) a1 a2 a3) rfl rfl rfl rfl rfl HA11.out.in_.one H11.out.x10 rfl ?_; intro w12 h12
                  have H12 := Lib.hid (H11.out.putA HA11.out h12)
                  have HA12 := Lib.hid (h12.own2 H11.out.x10 HA11.out)
                  have HC12 := Lib.hid (h12.own2 H11.out.x10 HC11.out)
                  have q12 := HQ.out w12 H12.out.run
                  clear h12
                  refine hK.out _ _ q12 (fun hHeld => ?_)
                  clear hK K
                  refine wpAnyH_ready (rs := [13]) (by kernel_rfl) (by simp) ?_
                  refine AllReadyH.cons rfl (fun K hK => ?_) ?_
                  · refine step_storeS (b := b11) (A := sarr (backS sc.s) c1 c2 c3) rfl rfl rfl rfl rfl HC12.out.in_.one H12.out.x11 rfl ?_; intro w13 h13
                    have H13 := Lib.hid (H12.out.putC HA12.out HC12.out h13)
                    have q13 := HQ.out w13 H13.out.run
                    clear h13
                    refine hK.out _ _ q13 (fun hHeld => ?_)
                    clear hK K
                    refine wpAnyH_done (by kernel_rfl) ?_ _
                    go_wp2_with fail
                    go_meet
                    exact ⟨rfl, _, _, _, _, _, _, _, _, H13, Lib.hid fun _ => ⟨rfl, rfl⟩⟩
                  exact AllReadyH.nil
                exact AllReadyH.nil
              exact AllReadyH.nil
            exact AllReadyH.nil
        case rest =>
          obtain ⟨rfl, A2, a1, a2, a3, C2, c1, c2, c3, H9, HDC⟩ := hcut
          rename World => w9
          clear HG
          have HS1 : Hid (∀ W, Lg w (.slice (some ad) q c) n m k r b5 b6 b8 b10 b11 B B2 ⟨sc.s, xi, yi, zi⟩ ⟨X, x, y, z⟩ ⟨Y, u, v, t⟩ ⟨A2, a1, a2, a3⟩ ⟨C2, c1, c2, c3⟩ W → Calls Tryz.prog 12 #[sv X x y z, .int .i64 code, .bool may, sv A2 a1 a2 a3, sv sc.s xi yi zi, sv sc.s sc.x sc.y sc.z] W fun e w' => e = .returned (.bool true) ∧ Below B W w' ∧ Boxes W w' ∧ Far W w' x y z) := Lib.hid fun W h =>
            same_any2 may B X A2 x y z a1 a2 a3 code sc.s xi yi zi sc.x sc.y sc.z W (Nat.le_trans h.ne.k h.upB2) HC1.out (fun hm => ⟨(HDC.out hm).1.trans (HY1.out hm).symm, h.ownX, ((HDC.out hm).1.trans (HY1.out hm).symm) ▸ h.wA, by rw [HY1.out hm]; exact (downS_ok (HOK1.out hm)).lens8⟩) HN1.out
              (fun W' hb => (own_keptB h.ini h.lti hb).in_) (fun W' hb => HIN.out W' (h.bel.trans (hb.mono (Nat.le_of_lt h.ne.j)))) HFT.out.l
          have HS2 : Hid (∀ W, Lh w (.slice (some ad) q c) n m k r b5 b6 b8 b10 b11 B B2 ⟨sc.s, xi, yi, zi⟩ ⟨X, x, y, z⟩ ⟨Y, u, v, t⟩ ⟨A2, a1, a2, a3⟩ ⟨C2, c1, c2, c3⟩ W → Calls Tryz.prog 12 #[sv Y u v t, .int .i64 code2, .bool may, sv C2 c1 c2 c3, sv sc.s xi yi zi, sv sc.s sc.x sc.y sc.z] W fun e w' => e = .returned (.bool true) ∧ Below B2 W w' ∧ Boxes W w' ∧ Far W w' u v t) := Lib.hid fun W h =>
            same_any2 may B2 Y C2 u v t c1 c2 c3 code2 sc.s xi yi zi sc.x sc.y sc.z W h.upB2 HC2.out (fun hm => ⟨(HDC.out hm).2.trans (HY2.out hm).symm, h.ownY, ((HDC.out hm).2.trans (HY2.out hm).symm) ▸ h.ownC.in_, by rw [HY2.out hm]; exact (backS_ok (HOK1.out hm)).lens8⟩) HN2.out
              (fun W' hb => (own_keptB h.ini (h.lti.mono h.ne.k) hb).in_) (fun W' hb => HIN.out W' (h.lb.run.bel.trans (hb.mono (Nat.le_of_lt (Nat.lt_of_lt_of_le h.ne.j h.ne.k))))) HFT.out.l
          have HQ : Hid (∀ W, Lb w (.slice (some ad) q c) n m k r b5 b6 b8 b10 b11 ⟨sc.s, xi, yi, zi⟩ ⟨X, x, y, z⟩ ⟨Y, u, v, t⟩ ⟨A2, a1, a2, a3⟩ ⟨C2, c1, c2, c3⟩ W → W.cell? ⟨w.heap.size, 0, none⟩ = some (.slice (some ad) q c) ∧ Hid (SBox W b5 sc.s xi yi zi ∧ SBox W b6 X x y z ∧ SBox W b8 Y u v t ∧ SBox W b10 A2 a1 a2 a3 ∧ SBox W b11 C2 c1 c2 c3 ∧ Below w.heap.size w W)) := Lib.hid fun W h => ⟨Blk.cell h.run.box 0, Lib.hid ⟨h.x5, h.x6, h.x8, h.x10, h.x11, h.run.bel⟩⟩
          have q9 := HQ.out _ (H9.out.kept (Below.refl _ _).drew).lb
          clear HY1 HN1 HC1 HY2 HN2 HC2 HDC HMAY HOK1
          go_upto_region 13 with (fail)
          go_cut [85] from 60 to 85 (fun s85 wx => s85 = .bool false ∧ Hid (Run w wx (.slice (some ad) q c) n m k r))
          case first =>
            refine wp_region_held_drew (S := fun w' => w'.cell? ⟨w.heap.size, 0, none⟩ = some (.slice (some ad) q c) ∧ Hid (SBox w' b5 sc.s xi yi zi ∧ SBox w' b6 X x y z ∧ SBox w' b8 Y u v t ∧ SBox w' b10 A2 a1 a2 a3 ∧ SBox w' b11 C2 c1 c2 c3 ∧ Below w.heap.size w w')) (by kernel_rfl) q9 (fun hHeld => ?_)
            refine wpAnyH_take (i := 0) (v := sv X x y z) rfl (by kernel_rfl) (by kernel_rfl) (by kernel_rfl) (fun _ _ _ h => h) (yields_loadS rfl rfl rfl (fun w' hS => hS.2.out.2.1.at)) (by assumption) ?_
            simp only [Act.put, List.getElem_toArray, List.getElem_cons_zero, List.setIfInBounds_toArray, List.set_cons_zero, List.set_cons_succ]
            refine wpAnyH_take (i := 1) (v := ?_) rfl (by kernel_rfl) (by kernel_rfl) (by kernel_rfl) (fun _ _ _ h => h) (Or.inl ⟨by rfl, ?_⟩) (by assumption) ?_
            rotate_left
            · intro w' hSw; first | (go_simp; done) | (go_simp; with_reducible rfl)
            simp only [Act.put, List.getElem_toArray, List.getElem_cons_zero, List.getElem_cons_succ, List.setIfInBounds_toArray, List.set_cons_zero, List.set_cons_succ]
            refine wpAnyH_take (i := 2) (v := ?_) rfl (by kernel_rfl) (by kernel_rfl) (by kernel_rfl) (fun _ _ _ h => h) (Or.inl ⟨by rfl, ?_⟩) (by assumption) ?_
            rotate_left
            · intro w' hSw; first | (go_simp; done) | (go_simp; with_reducible rfl)
            simp only [Act.put, List.getElem_toArray, List.getElem_cons_zero, List.getElem_cons_succ, List.setIfInBounds_toArray, List.set_cons_zero, List.set_cons_succ]
            refine wpAnyH_take (i := 3) (v := sv A2 a1 a2 a3) rfl (by kernel_rfl) (by kernel_rfl) (by kernel_rfl) (fun _ _ _ h => h) (yields_loadS rfl rfl rfl (fun w' hS => hS.2.out.2.2.2.1.at)) (by assumption) ?_
            simp only [Act.put, List.getElem_toArray, List.getElem_cons_zero, List.getElem_cons_succ, List.setIfInBounds_toArray, List.set_cons_zero, List.set_cons_succ]
            refine wpAnyH_take (i := 4) (v := sv sc.s xi yi zi) rfl (by kernel_rfl) (by kernel_rfl) (by kernel_rfl) (fun _ _ _ h => h) (yields_loadS rfl rfl rfl (fun w' hS => hS.2.out.1.at)) (by assumption) ?_
            simp only [Act.put, List.getElem_toArray, List.getElem_cons_zero, List.getElem_cons_succ, List.setIfInBounds_toArray, List.set_cons_zero, List.set_cons_succ]
            refine wpAnyH_take (i := 5) (v := ?_) rfl (by kernel_rfl) (by kernel_rfl) (by kernel_rfl) (fun _ _ _ h => h) (Or.inl ⟨by rfl, ?_⟩) (by assumption) ?_
            rotate_left
            · intro w' hSw; first | (go_simp; done) | (go_simp; with_reducible rfl)
            simp only [Act.put, List.getElem_toArray, List.getElem_cons_zero, List.getElem_cons_succ, List.setIfInBounds_toArray, List.set_cons_zero, List.set_cons_succ]
            refine wpAnyH_take (i := 6) (v := ?_) rfl (by kernel_rfl) (by kernel_rfl) (by kernel_rfl) (fun _ _ _ h => h) (Or.inl ⟨by rfl, ?_⟩) (by assumption) ?_
            rotate_left
            · intro w' hSw; first | (go_simp; done) | (go_simp; with_reducible rfl)
            simp only [Act.put, List.getElem_toArray, List.getElem_cons_zero, List.getElem_cons_succ, List.setIfInBounds_toArray, List.set_cons_zero, List.set_cons_succ]
            refine wpAnyH_take (i := 7) (v := ?_) rfl (by kernel_rfl) (by kernel_rfl) (by kernel_rfl) (fun _ _ _ h => h) (Or.inl ⟨by rfl, ?_⟩) (by assumption) ?_
            rotate_left
            · intro w' hSw; first | (go_simp; done) | (go_simp; with_reducible rfl)
            simp only [Act.put, List.getElem_toArray, List.getElem_cons_zero, List.getElem_cons_succ, List.setIfInBounds_toArray, List.set_cons_zero, List.set_cons_succ]
            refine wpAnyH_take (i := 8) (v := ?_) rfl (by kernel_rfl) (by kernel_rfl) (by kernel_rfl) (fun _ _ _ h => h) (Or.inl ⟨by rfl, ?_⟩) (by assumption) ?_
            rotate_left
            · intro w' hSw; first | (go_simp; done) | (go_simp; with_reducible rfl)
            simp only [Act.put, List.getElem_toArray, List.getElem_cons_zero, List.getElem_cons_succ, List.setIfInBounds_toArray, List.set_cons_zero, List.set_cons_succ]
            refine wpAnyH_take (i := 9) (v := sv sc.s sc.x sc.y sc.z) rfl (by kernel_rfl) (by kernel_rfl) (by kernel_rfl) (fun _ _ _ h => h) (yields_loadS rfl rfl rfl (fun w' hS => HAT.out.kept hS.2.out.2.2.2.2.2)) (by assumption) ?_
            simp only [Act.put, List.getElem_toArray, List.getElem_cons_zero, List.getElem_cons_succ, List.setIfInBounds_toArray, List.set_cons_zero, List.set_cons_succ]
            refine wpAnyH_ready (rs := [10]) (by kernel_rfl) (by simp) ?_
            refine AllReadyH.cons rfl (fun K hK => ?_) ?_
            · go_simp
              go_at_call 12
              refine (HS1.out w9.drew (H9.out.kept (Below.refl _ _).drew)).mono ?_; rintro e w12 ⟨rfl, hb, hbx, hfr⟩
              have H12 := Lib.hid ((H9.out.kept (Below.refl _ _).drew).after hb hbx hfr)
              have q12 := HQ.out w12 H12.out.lb
              clear hb hbx hfr
              refine hK.out _ _ q12 (fun hHeld => ?_)
              clear hK K
              refine wpAnyH_take (i := 11) (v := ?_) rfl (by kernel_rfl) (by kernel_rfl) (by kernel_rfl) (fun _ _ _ h => h) (Or.inl ⟨by rfl, ?_⟩) (by assumption) ?_
              rotate_left
              · intro w' hSw; first | (go_simp; done) | (go_simp; with_reducible rfl)
              simp only [Act.put, List.getElem_toArray, List.getElem_cons_zero, List.getElem_cons_succ, List.setIfInBounds_toArray, List.set_cons_zero, List.set_cons_succ]
              refine wpAnyH_take (i := 12) (v := ?_) rfl (by kernel_rfl) (by kernel_rfl) (by kernel_rfl) (fun _ _ _ h => h) (Or.inl ⟨by rfl, ?_⟩) (by assumption) ?_
              rotate_left
              · intro w' hSw; first | (go_simp; done) | (go_simp; with_reducible rfl)
              simp only [Act.put, List.getElem_toArray, List.getElem_cons_zero, List.getElem_cons_succ, List.setIfInBounds_toArray, List.set_cons_zero, List.set_cons_succ]
              refine wpAnyH_take (i := 13) (v := sv Y u v t) rfl (by kernel_rfl) (by kernel_rfl) (by kernel_rfl) (fun _ _ _ h => h) (yields_loadS rfl rfl rfl (fun w' hS => hS.2.out.2.2.1.at)) (by assumption) ?_
              simp only [Act.put, List.getElem_toArray, List.getElem_cons_zero, List.getElem_cons_succ, List.setIfInBounds_toArray, List.set_cons_zero, List.set_cons_succ]
              refine wpAnyH_take (i := 14) (v := ?_) rfl (by kernel_rfl) (by kernel_rfl) (by kernel_rfl) (fun _ _ _ h => h) (Or.inl ⟨by rfl, ?_⟩) (by assumption) ?_
              rotate_left
              · intro w' hSw; first | (go_simp; done) | (go_simp; with_reducible rfl)
              simp only [Act.put, List.getElem_toArray, List.getElem_cons_zero, List.getElem_cons_succ, List.setIfInBounds_toArray, List.set_cons_zero, List.set_cons_succ]
              refine wpAnyH_take (i := 15) (v := ?_) rfl (by kernel_rfl) (by kernel_rfl) (by kernel_rfl) (fun _ _ _ h => h) (Or.inl ⟨by rfl, ?_⟩) (by assumption) ?_
              rotate_left
              · intro w' hSw; first | (go_simp; done) | (go_simp; with_reducible rfl)
              simp only [Act.put, List.getElem_toArray, List.getElem_cons_zero, List.getElem_cons_succ, List.setIfInBounds_toArray, List.set_cons_zero, List.set_cons_succ]
              refine wpAnyH_take (i := 16) (v := sv C2 c1 c2 c3) rfl (by kernel_rfl) (by kernel_rfl) (by kernel_rfl) (fun _ _ _ h => h) (yields_loadS rfl rfl rfl (fun w' hS => hS.2.out.2.2.2.2.1.at)) (by assumption) ?_
              simp only [Act.put, List.getElem_toArray, List.getElem_cons_zero, List.getElem_cons_succ, List.setIfInBounds_toArray, List.set_cons_zero, List.set_cons_succ]
              refine wpAnyH_take (i := 17) (v := sv sc.s xi yi zi) rfl (by kernel_rfl) (by kernel_rfl) (by kernel_rfl) (fun _ _ _ h => h) (yields_loadS rfl rfl rfl (fun w' hS => hS.2.out.1.at)) (by assumption) ?_
              simp only [Act.put, List.getElem_toArray, List.getElem_cons_zero, List.getElem_cons_succ, List.setIfInBounds_toArray, List.set_cons_zero, List.set_cons_succ]
              refine wpAnyH_take (i := 18) (v := ?_) rfl (by kernel_rfl) (by kernel_rfl) (by kernel_rfl) (fun _ _ _ h => h) (Or.inl ⟨by rfl, ?_⟩) (by assumption) ?_
              rotate_left
              · intro w' hSw; first | (go_simp; done) | (go_simp; with_reducible rfl)
              simp only [Act.put, List.getElem_toArray, List.getElem_cons_zero, List.getElem_cons_succ, List.setIfInBounds_toArray, List.set_cons_zero, List.set_cons_succ]
              refine wpAnyH_take (i := 19) (v := ?_) rfl (by kernel_rfl) (by kernel_rfl) (by kernel_rfl) (fun _ _ _ h => h) (Or.inl ⟨by rfl, ?_⟩) (by assumption) ?_
              rotate_left
              · intro w' hSw; first | (go_simp; done) | (go_simp; with_reducible rfl)
              simp only [Act.put, List.getElem_toArray, List.getElem_cons_zero, List.getElem_cons_succ, List.setIfInBounds_toArray, List.set_cons_zero, List.set_cons_succ]
              refine wpAnyH_take (i := 20) (v := ?_) rfl (by kernel_rfl) (by kernel_rfl) (by kernel_rfl) (fun _ _ _ h => h) (Or.inl ⟨by rfl, ?_⟩) (by assumption) ?_
              rotate_left
              · intro w' hSw; first | (go_simp; done) | (go_simp; with_reducible rfl)
              simp only [Act.put, List.getElem_toArray, List.getElem_cons_zero, List.getElem_cons_succ, List.setIfInBounds_toArray, List.set_cons_zero, List.set_cons_succ]
              refine wpAnyH_take (i := 21) (v := ?_) rfl (by kernel_rfl) (by kernel_rfl) (by kernel_rfl) (fun _ _ _ h => h) (Or.inl ⟨by rfl, ?_⟩) (by assumption) ?_
              rotate_left
              · intro w' hSw; first | (go_simp; done) | (go_simp; with_reducible rfl)
              simp only [Act.put, List.getElem_toArray, List.getElem_cons_zero, List.getElem_cons_succ, List.setIfInBounds_toArray, List.set_cons_zero, List.set_cons_succ]
              refine wpAnyH_take (i := 22) (v := sv sc.s sc.x sc.y sc.z) rfl (by kernel_rfl) (by kernel_rfl) (by kernel_rfl) (fun _ _ _ h => h) (yields_loadS rfl rfl rfl (fun w' hS => HAT.out.kept hS.2.out.2.2.2.2.2)) (by assumption) ?_
              simp only [Act.put, List.getElem_toArray, List.getElem_cons_zero, List.getElem_cons_succ, List.setIfInBounds_toArray, List.set_cons_zero, List.set_cons_succ]
              refine wpAnyH_ready (rs := [23]) (by kernel_rfl) (by simp) ?_
              refine AllReadyH.cons rfl (fun K hK => ?_) ?_
              · go_simp
                go_at_call 12
                refine (HS2.out w12 H12.out).mono ?_; rintro e w13 ⟨rfl, hb, hbx, hfr⟩
                have H13 := Lib.hid (H12.out.after hb hbx)
                have q13 := HQ.out w13 H13.out
                clear hb hbx hfr
                refine hK.out _ _ q13 (fun hHeld => ?_)
                clear hK K
                refine wpAnyH_take (i := 24) (v := ?_) rfl (by kernel_rfl) (by kernel_rfl) (by kernel_rfl) (fun _ _ _ h => h) (Or.inl ⟨by rfl, ?_⟩) (by assumption) ?_
                rotate_left
                · intro w' hSw; first | (go_simp; done) | (go_simp; with_reducible rfl)
                simp only [Act.put, List.getElem_toArray, List.getElem_cons_zero, List.getElem_cons_succ, List.setIfInBounds_toArray, List.set_cons_zero, List.set_cons_succ]
                refine wpAnyH_take (i := 25) (v := ?_) rfl (by kernel_rfl) (by kernel_rfl) (by kernel_rfl) (fun _ _ _ h => h) (Or.inl ⟨by rfl, ?_⟩) (by assumption) ?_
                rotate_left
                · intro w' hSw; first | (go_simp; done) | (go_simp; with_reducible rfl)
                simp only [Act.put, List.getElem_toArray, List.getElem_cons_zero, List.getElem_cons_succ, List.setIfInBounds_toArray, List.set_cons_zero, List.set_cons_succ]
                refine wpAnyH_done (by kernel_rfl) ?_ _
                go_wp2_with fail
                go_meet
                exact ⟨rfl, Lib.hid H13.out.run⟩
              exact AllReadyH.nil
            exact AllReadyH.nil
          case rest =>
            obtain ⟨rfl, HR⟩ := hcut
            rename World => wz
            clear HS1 HS2 HQ q9 H9
            go_wp2_with fail
            go_roundw
            case rel => exact ⟨i + 1, by omega, by omega, by simp, HR⟩
            all_goals simp [intOf]
            all_goals omega
      · go_wp2_with fail
        refine (HWK.out wr HR.out.bel).mono ?_; rintro e w2 ⟨rfl, hb⟩
        go_wp2_with fail
        go_ret
        exact ⟨rfl, HR.out.bel.trans (hb.mono HR.out.bel.size)⟩
    · go_wp2_with fail
      refine (HWK.out wr HR.out.bel).mono ?_; rintro e w2 ⟨rfl, hb⟩
      go_wp2_with fail
      go_ret
      exact ⟨rfl, HR.out.bel.trans (hb.mono HR.out.bel.size)⟩
end Scr
end Go.Proofs.YtmilpdhnblmflaaGreatDoor
end
