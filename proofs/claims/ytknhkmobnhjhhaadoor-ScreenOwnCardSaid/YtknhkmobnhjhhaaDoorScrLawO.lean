/- The law on screens resized to their own size: walked. -/
import Derived.Test.YtknhkmobnhjhhaaDoorJ1
import Derived.Test.YtknhkmobnhjhhaaDoorJ2
import Derived.Test.YtknhkmobnhjhhaaDoorJ3
import Derived.Test.YtknhkmobnhjhhaaDoorJ4
import Derived.Test.YtknhkmobnhjhhaaDoorJ5
import Derived.Test.YtknhkmobnhjhhaaDoorJ6
import Derived.Test.YtknhkmobnhjhhaaDoorJ7
import Derived.Test.YtknhkmobnhjhhaaDoorJ8
import Derived.Test.YtknhkmobnhjhhaaDoorJ9
import Derived.Test.YtknhkmobnhjhhaaDoorJ10
import Derived.Test.YtknhkmobnhjhhaaDoorJ11
import Derived.Test.YtknhkmobnhjhhaaDoorJ12
import Derived.Test.YtknhkmobnhjhhaaDoorJ13
import Derived.Test.YtknhkmobnhjhhaaDoorJ14
import Derived.Test.YtknhkmobnhjhhaaDoorJ15
import Derived.Test.YtknhkmobnhjhhaaDoorJ16
import Derived.Test.YtknhkmobnhjhhaaDoorJ17
namespace Go.Proofs.YtknhkmobnhjhhaaDoor
set_option maxRecDepth 100000
open Go.RowKit
namespace Scr
open Go.Proofs.YtknhkmobnhjhhaaDoor.Row

abbrev abox (v : Value) (n m k r : Int) : Obj := .cells #[v, .int .i64 n, .int .i64 m, .int .i64 k, .int .i64 r] 24
/-- The law under way: what was there stands, its argument lies in its box. -/
structure Run (w w' : World) (v : Value) (n m k r : Int) : Prop where
  bel : Below w.heap.size w w'
  box : w'.heap[w.heap.size]? = some (abox v n m k r)
theorem Run.kept {w w1 w2 : World} {v : Value} {n m k r : Int} (h : Run w w1 v n m k r) (hb : Below w1.heap.size w1 w2) : Run w w2 v n m k r := ⟨h.bel.trans (hb.mono h.bel.size), Blk.kept h.box hb⟩
theorem Run.start (w : World) (v : Value) (n m k r : Int) : Run w (w.alloc (abox v n m k r)) v n m k r := ⟨bel_alloc w _, heap_alloc_new _ _⟩
/-- A screen in a box of the law's own, in new memory or as it came. -/
structure Bx (w : World) (b : Nat) (e : Sc) : Prop where
  box : SBox w b e.s e.x e.y e.z
  i : e.in_ w
theorem Bx.kept {w w' : World} {b : Nat} {e : Sc} (h : Bx w b e) (hb : Below w.heap.size w w') : Bx w' b e := ⟨h.box.kept hb, h.i.kept hb⟩
/-- One stored into a box just made. -/
theorem bx_sto {w w' : World} {e : Sc} (h : e.in_ w) (h1 : Sto (w.alloc (.cells zarr 35)) w.heap.size (sarr e.s e.x e.y e.z) w') : Bx w' w.heap.size e ∧ Below w.heap.size w w' := by
  have hb : Below w.heap.size w w' := h1.below _ _ (Nat.le_refl _) (bel_alloc w _)
  exact ⟨⟨h1.box, h.kept hb⟩, hb⟩
theorem Reach.holds {bnd : Nat} {s : S} (h : Reach bnd s) (hb : bnd ≤ 1152921504606846976) : Holds s := ⟨fun i hi => Nat.le_trans (h.m.2 i hi) hb, fun i hi => Nat.le_trans (h.o.2 i hi) hb, Nat.le_trans h.t hb⟩
theorem resize_is (s : S) (x y z : Value) (r c : Int) (R C : Nat) (hr : r = R) (hc : c = C) (w : World) (h : In w s x y z) (hh : Holds s) (hT : Tabs w) (hok : Ok s) (h1 : 1 ≤ R) (h2 : R ≤ 40) (h3 : 1 ≤ C) (h4 : C ≤ 40) :
    Calls Tryd.prog 7 #[sv s x y z, .int .i64 r, .int .i64 c] w fun e w' => ∃ x' y' z', e = .returned (.tuple #[sv (resized s R C) x' y' z', .int .i64 0]) ∧ In w' (resized s R C) x' y' z' ∧ Below w.heap.size w w' := by
  subst hr; subst hc
  refine (resize_any s x y z R C w h hh hT ((ok_iff s).2 hok) h1 h2 h3 h4).mono ?_
  rintro e w' ⟨x', y', z', rfl, ho, hb⟩
  exact ⟨x', y', z', rfl, ho.in_, hb⟩
theorem eqGrid_is {G G' : Gr} (hG : G = G') (x y : Value) (w : World) (hx : Rm w x G.cells) (hy : Rm w y G'.cells) (hn : G'.cells.length ≤ 100000000) :
    Calls Tryd.prog 8 #[gridV G x, gridV G' y] w fun e w' => e = .returned (.bool true) ∧ Below w.heap.size w w' := by
  subst hG
  exact eqGrid_same G.rows G.cols G.cells x y w hx.cs hy.cs hn
/-- What the law's screens are: as it came; resized to its own size; larger and back. -/
structure Sizes (t s1 s3 : S) : Prop where
  m1 : s1.main = t.main
  o1 : s1.other = t.other
  m3 : s3.main = t.main
  o3 : s3.other = t.other
theorem sizes_of {t : S} (h : Ok t) {r c : Nat} (h2 : r ≤ 40) (h4 : c ≤ 40) (hr : t.main.rows.toNat ≤ r) (hc : t.main.cols.toNat ≤ c) :
    Sizes t (resized t t.main.rows.toNat t.main.cols.toNat) (resized (resized t r c) t.main.rows.toNat t.main.cols.toNat) := by
  have e1 : fitG t.other t.main.rows.toNat t.main.cols.toNat = t.other := by rw [← h.r, ← h.c]; exact fitG_own h.o
  have e2 : fitG (fitG t.other r c) t.main.rows.toNat t.main.cols.toNat = t.other := by
    rw [← h.r, ← h.c]
    exact fitG_back h.o h2 h4 (by rw [h.r]; exact hr) (by rw [h.c]; exact hc)
  exact ⟨fitG_own h.m, e1, fitG_back h.m h2 h4 hr hc, e2⟩
/-- Three boxes of screens, and the law's own. -/
structure Three (w : World) (v : Value) (n m k r : Int) (b4 b5 b9 : Nat) (e4 e5 e9 : Sc) (w' : World) : Prop where
  r : Run w w' v n m k r
  x4 : Bx w' b4 e4
  x5 : Bx w' b5 e5
  x9 : Bx w' b9 e9
theorem Three.kept {w w1 w2 : World} {v : Value} {n m k r : Int} {b4 b5 b9 : Nat} {e4 e5 e9 : Sc} (h : Three w v n m k r b4 b5 b9 e4 e5 e9 w1) (hb : Below w1.heap.size w1 w2) : Three w v n m k r b4 b5 b9 e4 e5 e9 w2 :=
  ⟨h.r.kept hb, h.x4.kept hb, h.x5.kept hb, h.x9.kept hb⟩
theorem three_then {f : FuncId} {args : Array Value} {w w1 : World} {v0 : Value} {Q : Ending → World → Prop} {v : Value} {n m k r : Int} {b4 b5 b9 : Nat} {e4 e5 e9 : Sc} (H : Hid (Three w v n m k r b4 b5 b9 e4 e5 e9 w1))
    (h : Calls Tryd.prog f args w1 fun e w' => e = .returned v0 ∧ Below w1.heap.size w1 w')
    (hQ : ∀ w', Hid (Three w v n m k r b4 b5 b9 e4 e5 e9 w') → (∀ j, w'.cell? ⟨b4, j, none⟩ = (sarr e4.s e4.x e4.y e4.z)[j]?) → (∀ j, w'.cell? ⟨b5, j, none⟩ = (sarr e5.s e5.x e5.y e5.z)[j]?) → (∀ j, w'.cell? ⟨b9, j, none⟩ = (sarr e9.s e9.x e9.y e9.z)[j]?) → Q (.returned v0) w') : Calls Tryd.prog f args w1 Q :=
  h.mono (by rintro e w' ⟨rfl, hb⟩; have h3 := H.out.kept hb; exact hQ w' (Lib.hid h3) h3.x4.box.cell h3.x5.box.cell h3.x9.box.cell)
set_option maxHeartbeats 12000000 in
theorem lawOwn_any {bnd : Nat} (v : Value) (l : List Sc) (n m k r : Int) (w : World) (h : Scrs bnd w v l) (hl : l.length ≤ 140737488355328) (hb : bnd ≤ 1152921504606846976) (hT : Tabs w) :
    Calls Tryd.prog 3 #[.agg #[v, .int .i64 n, .int .i64 m, .int .i64 k, .int .i64 r]] w fun e w' => e = .returned (.bool true) ∧ Below w.heap.size w w' := by
  have HS := Lib.hid h
  have HT := Lib.hid hT
  obtain ⟨⟨A, c, rfl, hc, hf⟩, h2⟩ := id h
  have HF := Lib.hid hf
  have H2 := Lib.hid h2
  have H0 := Lib.hid (Run.start w (.slice A l.length c) n m k r)
  have HH := Lib.hid (heavy8 (.slice A l.length c) l n m k r _ (h.kept H0.out.bel) hl hb)
  have HWK := Lib.hid (fun W (hW : Below w.heap.size w W) => wakes8 W (hT.kept hW))
  have HBD := Lib.hid hb
  obtain ⟨q, hq⟩ : ∃ q, l.length = q := ⟨_, rfl⟩
  rw [hq] at HF H2 H0 HH ⊢
  clear h hT h2 hf hl hb hc hq
  go_enter Tryd.func3, Tryd.ntmps3
  go_wp2_with fail
  refine HH.out.mono ?_; rintro e w1 ⟨b, rfl, hw, hb⟩
  have H1 := Lib.hid (H0.out.kept hb)
  have HW := Lib.hid hw
  clear hw hb HH H0
  cases b
  · go_wp2_with fail
    go_loopw [3] (fun i wr => ∃ a : Nat, a ≤ q ∧ a ≤ 4 ∧ i = .int .i64 a ∧ Hid (Run w wr (.slice A q c) n m k r)) (fun i _ => q - (intOf i).toNat)
    case atStart => exact ⟨0, by omega, by omega, rfl, H1⟩
    case round =>
      obtain ⟨a, ha, ha4, rfl, HR⟩ := hrel
      have b0 : wr.cell? ⟨w.heap.size, 0, none⟩ = some (.slice A q c) := Blk.cell HR.out.box 0
      by_cases hlt : a < q
      · by_cases h4 : a < 4
        · obtain ⟨ad, rfl, hat⟩ := HF.out a hlt
          have hat := hat.kept HR.out.bel
          have hI := H2.out a hlt
          have hWt := HW.out trivial a hlt
          generalize l.getD a noSc = sc at hat hI hWt
          have HAT := Lib.hid (show At wr (ad.add (a * 43)) (sarr sc.s sc.x sc.y sc.z).toList from hat)
          have HI := Lib.hid (hI.1.kept HR.out.bel)
          have HRE := Lib.hid hI.2
          have HWT := Lib.hid hWt
          clear hat hI hWt
          go_wp2_with (first
            | (refine wp_loadArg rfl rfl rfl HAT.out ?_)
            | (refine wp_allocS (n := wr.heap.size) rfl rfl rfl ?_)
            | (refine wp_storeS (b := wr.heap.size) rfl rfl rfl rfl rfl HI.out.one (heap_alloc_new _ _) rfl ?_; intro w2 h2)
            | (refine wp_loadS (b := wr.heap.size) (s := sc.s) (x0 := sc.x) (y0 := sc.y) (z0 := sc.z) rfl rfl rfl h2.box ?_))
          obtain ⟨hx2, hb2⟩ := bx_sto HI.out h2
          have HX2 := Lib.hid hx2
          have HR2 := Lib.hid (HR.out.kept hb2)
          clear hx2 hb2 h2 HAT HI HR b0
          generalize wr.heap.size = b4 at HX2 HR2 ⊢
          refine (check_any sc.s sc.x sc.y sc.z w2 HX2.out.i (HRE.out.holds HBD.out) (HT.out.kept HR2.out.bel)).mono ?_; rintro e w3 ⟨rfl, hb⟩
          have HX3 := Lib.hid (HX2.out.kept hb)
          have HR3 := Lib.hid (HR2.out.kept hb)
          clear hb HX2 HR2
          cases hok : okB sc.s
          · unfold codeB
            go_wp2_with fail
            refine num8_then ?_
            go_wp2_with fail
            go_roundw
            case rel => exact ⟨a + 1, by omega, by omega, by go_num, HR3⟩
            case measure => simp [intOf]; omega
          · have HOK := Lib.hid ((ok_iff _).1 hok)
            have hs := gridB_sides HOK.out.m
            clear hok
            have HSD := Lib.hid hs
            have hw2 : IntKind.i64.wrap (sc.s.main.rows + 2) = sc.s.main.rows + 2 := by rw [IntKind.wrap_i64]; omega
            have hw3 : IntKind.i64.wrap (sc.s.main.cols + 3) = sc.s.main.cols + 3 := by rw [IntKind.wrap_i64]; omega
            have HZS := Lib.hid (sizes_of HOK.out (r := (min 40 (sc.s.main.rows + 2)).toNat) (c := (min 40 (sc.s.main.cols + 3)).toNat) (by omega) (by omega) (by omega) (by omega))
            have HRA := Lib.hid (fun W (hI : sc.in_ W) (hT : Tabs W) => resize_is sc.s sc.x sc.y sc.z sc.s.main.rows sc.s.main.cols sc.s.main.rows.toNat sc.s.main.cols.toNat (by omega) (by omega) W hI HOK.out.holds hT HOK.out (by omega) (by omega) (by omega) (by omega))
            have HRB := Lib.hid (fun W (hI : sc.in_ W) (hT : Tabs W) => resize_is sc.s sc.x sc.y sc.z (min 40 (sc.s.main.rows + 2)) (min 40 (sc.s.main.cols + 3)) (min 40 (sc.s.main.rows + 2)).toNat (min 40 (sc.s.main.cols + 3)).toNat (by omega) (by omega) W hI HOK.out.holds hT HOK.out (by omega) (by omega) (by omega) (by omega))
            have HO2 := Lib.hid (HOK.out.fit (r := (min 40 (sc.s.main.rows + 2)).toNat) (c := (min 40 (sc.s.main.cols + 3)).toNat) (by omega) (by omega) (by omega) (by omega))
            have HM1 := Lib.hid (gridB_small HOK.out.m)
            have HM2 := Lib.hid (gridB_small HOK.out.o)
            generalize resized sc.s (min 40 (sc.s.main.rows + 2)).toNat (min 40 (sc.s.main.cols + 3)).toNat = s2 at HZS HRB HO2
            have HRC := Lib.hid (fun x y z W (hI : In W s2 x y z) (hT : Tabs W) => resize_is s2 x y z sc.s.main.rows sc.s.main.cols sc.s.main.rows.toNat sc.s.main.cols.toNat (by omega) (by omega) W hI HO2.out.holds hT HO2.out (by omega) (by omega) (by omega) (by omega))
            generalize resized s2 sc.s.main.rows.toNat sc.s.main.cols.toNat = s3 at HZS HRC
            generalize resized sc.s sc.s.main.rows.toNat sc.s.main.cols.toNat = s1 at HZS HRA
            clear hs HO2 HOK HSD
            unfold codeB
            go_wp2_with fail
            refine num8_then ?_
            have c3 : ∀ j, w3.cell? ⟨b4, j, none⟩ = (sarr sc.s sc.x sc.y sc.z)[j]? := HX3.out.box.cell
            go_wp2_with (refine wp_loadS (b := b4) (s := sc.s) rfl rfl rfl HX3.out.box ?_)
            refine (HRA.out w3 HX3.out.i (HT.out.kept HR3.out.bel)).mono ?_; rintro e w4 ⟨x1, y1, z1, rfl, hi, hb⟩
            have H4 := Lib.hid (And.intro hi (And.intro (HX3.out.kept hb) (HR3.out.kept hb)))
            clear hi hb c3 HX3 HR3 HRA
            go_wp2_with (first
              | (refine wp_allocS (n := w4.heap.size) rfl rfl rfl ?_)
              | (refine wp_storeS (b := w4.heap.size) rfl rfl rfl rfl rfl H4.out.1.one (heap_alloc_new _ _) rfl ?_; intro w5 h5; obtain ⟨hx5, hb5⟩ := bx_sto (e := ⟨s1, x1, y1, z1⟩) H4.out.1 h5; have H5 := Lib.hid (And.intro hx5 (And.intro (H4.out.2.1.kept hb5) (H4.out.2.2.kept hb5))); have c5 : ∀ j, w5.cell? ⟨b4, j, none⟩ = (sarr sc.s sc.x sc.y sc.z)[j]? := H5.out.2.1.box.cell; clear hx5 hb5 h5)
              | (refine wp_loadS (b := b4) (s := sc.s) rfl rfl rfl H5.out.2.1.box ?_))
            generalize w4.heap.size = b5 at H5 ⊢
            clear H4
            refine (HRB.out w5 H5.out.2.1.i (HT.out.kept H5.out.2.2.bel)).mono ?_; rintro e w6 ⟨x2, y2, z2, rfl, hi, hb⟩
            have H6 := Lib.hid (And.intro hi (And.intro (H5.out.1.kept hb) (And.intro (H5.out.2.1.kept hb) (H5.out.2.2.kept hb))))
            clear hi hb c5 H5 HRB
            go_wp2_with (first
              | (refine wp_allocS (n := w6.heap.size) rfl rfl rfl ?_)
              | (refine wp_storeS (b := w6.heap.size) rfl rfl rfl rfl rfl H6.out.1.one (heap_alloc_new _ _) rfl ?_; intro w7 h7; obtain ⟨hx7, hb7⟩ := bx_sto (e := ⟨s2, x2, y2, z2⟩) H6.out.1 h7; have H7 := Lib.hid (And.intro hx7 (And.intro (H6.out.2.1.kept hb7) (And.intro (H6.out.2.2.1.kept hb7) (H6.out.2.2.2.kept hb7)))); have c7 : ∀ j, w7.cell? ⟨b4, j, none⟩ = (sarr sc.s sc.x sc.y sc.z)[j]? := H7.out.2.2.1.box.cell; clear hx7 hb7 h7)
              | (refine wp_loadS (b := w6.heap.size) (s := s2) (x0 := x2) (y0 := y2) (z0 := z2) rfl rfl rfl H7.out.1.box ?_))
            generalize w6.heap.size = b7 at H7 ⊢
            clear H6
            refine (HRC.out x2 y2 z2 w7 H7.out.1.i (HT.out.kept H7.out.2.2.2.bel)).mono ?_; rintro e w8 ⟨x3, y3, z3, rfl, hi, hb⟩
            have H8 := Lib.hid (And.intro hi (And.intro (H7.out.2.1.kept hb) (And.intro (H7.out.2.2.1.kept hb) (H7.out.2.2.2.kept hb))))
            clear hi hb c7 H7 HRC
            go_wp2_with (first
              | (refine wp_allocS (n := w8.heap.size) rfl rfl rfl ?_)
              | (refine wp_storeS (b := w8.heap.size) rfl rfl rfl rfl rfl H8.out.1.one (heap_alloc_new _ _) rfl ?_; intro w9 h9; obtain ⟨hx9, hb9⟩ := bx_sto (e := ⟨s3, x3, y3, z3⟩) H8.out.1 h9; have H9 : Hid (Three w (.slice (some ad) q c) n m k r b4 b5 w8.heap.size sc ⟨s1, x1, y1, z1⟩ ⟨s3, x3, y3, z3⟩ w9) := Lib.hid ⟨H8.out.2.2.2.kept hb9, H8.out.2.2.1.kept hb9, H8.out.2.1.kept hb9, hx9⟩; clear hx9 hb9 h9))
            generalize w8.heap.size = b9 at H9 ⊢
            clear H8
            refine num8_then ?_
            go_wp2_with fail
            refine num8_then ?_
            go_wp2_with fail
            refine num8_then ?_
            have c4 : ∀ j, w9.cell? ⟨b4, j, none⟩ = (sarr sc.s sc.x sc.y sc.z)[j]? := H9.out.x4.box.cell
            have c5 : ∀ j, w9.cell? ⟨b5, j, none⟩ = (sarr s1 x1 y1 z1)[j]? := H9.out.x5.box.cell
            go_wp2_with fail
            refine three_then H9 (eqGrid_is HZS.out.m1 x1 sc.x w9 H9.out.x5.i.m H9.out.x4.i.m (Nat.le_trans HM1.out (by decide))) ?_; intro w10 H10 d4 d5 d9; clear c4 c5 H9
            go_wp2_with fail
            refine three_then H10 (eqGrid_is HZS.out.o1 y1 sc.y w10 H10.out.x5.i.o H10.out.x4.i.o (Nat.le_trans HM2.out (by decide))) ?_; intro w11 H11 f4 f5 f9; clear d4 d5 d9 H10
            go_wp2_with fail
            refine three_then H11 (eqGrid_is HZS.out.m3 x3 sc.x w11 H11.out.x9.i.m H11.out.x4.i.m (Nat.le_trans HM1.out (by decide))) ?_; intro w12 H12 g4 g5 g9; clear f4 f5 f9 H11
            go_wp2_with fail
            refine three_then H12 (eqGrid_is HZS.out.o3 y3 sc.y w12 H12.out.x9.i.o H12.out.x4.i.o (Nat.le_trans HM2.out (by decide))) ?_; intro w13 H13 h4' h5' h9'; clear g4 g5 g9 H12
            go_wp2_with fail
            go_roundw
            case rel => exact ⟨a + 1, by omega, by omega, by go_num, Lib.hid H13.out.r⟩
            case measure => simp [intOf]; omega
        · go_wp2_with fail
          refine (HWK.out wr HR.out.bel).mono ?_; rintro e w2 ⟨rfl, hb⟩
          go_wp2_with fail
          go_ret
          exact ⟨rfl, HR.out.bel.trans (hb.mono HR.out.bel.size)⟩
      · go_wp2_with fail
        refine (HWK.out wr HR.out.bel).mono ?_; rintro e w2 ⟨rfl, hb⟩
        go_wp2_with fail
        go_ret
        exact ⟨rfl, HR.out.bel.trans (hb.mono HR.out.bel.size)⟩
  · go_wp2_with fail
    go_ret
    exact ⟨rfl, H1.out.bel⟩
end Scr
end Go.Proofs.YtknhkmobnhjhhaaDoor
