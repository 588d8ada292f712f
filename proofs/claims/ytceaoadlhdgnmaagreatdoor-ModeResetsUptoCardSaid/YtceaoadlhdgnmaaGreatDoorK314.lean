/- Joined texts: MdOks, MdLawR, MdSaidResets. -/
import Derived.Test.YtceaoadlhdgnmaaGreatDoorK41
import Derived.Test.YtceaoadlhdgnmaaGreatDoorK211
import Derived.Test.YtceaoadlhdgnmaaGreatDoorK302
import Derived.Test.YtceaoadlhdgnmaaGreatDoorK313
import Derived.Deep.RegionHeld3
import Derived.Deep.CutRange
import Derived.Deep.DeepCutAuto
import Derived.BigQuiet
import Derived.Test.YtceaoadlhdgnmaaGreatDoorCards
import Derived.Test.YtceaoadlhdgnmaaGreatDoorTie
section
/- Kept lemmas. -/
namespace Go.Proofs.YtceaoadlhdgnmaaGreatDoor
set_option maxRecDepth 100000
namespace Scr
open Go.Proofs.YtceaoadlhdgnmaaGreatDoor.Row Wid

/-! ### bits -/
theorem and_small {x : Int} (y : Int) (h0 : 0 ≤ x) (h1 : x < 1024) : 0 ≤ bits .and .i64 x y ∧ bits .and .i64 x y < 1024 := by
  have h : (x.toNat &&& (BitVec.ofInt 64 y).toNat) ≤ x.toNat := Nat.and_le_left
  have e : bits .and .i64 x y = IntKind.i64.wrap ((BitVec.ofInt 64 x &&& BitVec.ofInt 64 y).toNat : Int) := rfl
  rw [e, BitVec.toNat_and, ofInt_toNat h0 h1, wrap_small (by omega)]
  omega
theorem first_ok {R C : Nat} (h1 : 1 ≤ R) (h3 : 1 ≤ C) : cursorB first ((R : Int) - 1) ((C : Int) - 1) = true := by
  unfold cursorB first
  simp only [Bool.and_eq_true]
  exact ⟨rng_iff.2 ⟨by omega, by omega⟩, rng_iff.2 ⟨by omega, by omega⟩, rfl, rfl, rfl, rfl, rfl⟩
theorem softS_ok {s : S} (h : Ok s) : Ok (softS s) := by
  obtain ⟨R, C, hR, hC, h1, h2, h3, h4⟩ := h.size
  have hf := first_ok h1 h3
  rw [← hR, ← hC] at hf
  have ha := and_small 960 h.modes.1 h.modes.2
  have ho := or_small (x := 9) (by decide) (by decide) ha.1 ha.2
  have f := h.facts
  refine ⟨h.m, h.o, h.r, h.c, ?_, hf, hf, ?_, h.b, rng_iff.2 ⟨ho.1, by have := ho.2; show bits .or .i64 9 (bits .and .i64 s.modes 960) ≤ 1023; omega⟩, h.t, h.l⟩
  · show cursorB ⟨s.cur.row, s.cur.col, false, plain, 0, 0, 0, false⟩ (s.main.rows - 1) (s.main.cols - 1) = true
    unfold cursorB
    simp only [Bool.and_eq_true]
    exact ⟨rng_iff.2 ⟨f.row0, f.row1⟩, rng_iff.2 ⟨f.col0, f.col1⟩, rfl, rfl, rfl, rfl, rfl⟩
  · show marginsB 0 (s.main.rows - 1) s.main.rows = true
    rw [hR]; exact margins_full h1
theorem hardS_ok {s : S} (h : Ok s) : Ok (hardS s) := by
  obtain ⟨R, C, hR, hC, h1, h2, h3, h4⟩ := h.size
  unfold hardS
  rw [hR, hC, Int.toNat_natCast, Int.toNat_natCast]
  exact newS_ok h1 h2 h3 h4
theorem alignS_ok {s : S} (h : Ok s) : Ok (alignS s) := by rw [← align_is h]; exact moveS_ok (filledS_ok h) _ _ _

end Scr
end Go.Proofs.YtceaoadlhdgnmaaGreatDoor
end
section
/- The law ModeResets, of each screen: walked. -/
namespace Go.Proofs.YtceaoadlhdgnmaaGreatDoor
set_option maxRecDepth 100000
open Go.RowKit
namespace Scr
open Go.Proofs.YtceaoadlhdgnmaaGreatDoor.Row

abbrev noE : Sc := ⟨noS, nilS, nilS, nilS⟩
theorem Ms.fresh3 {w W : World} {v : Value} {n m k r : Int} {L O : List (Nat × Sc)} (h : Ms w v n m k r L O W) :
    Ms w v n m k r ((W.heap.size + 2, noE) :: (W.heap.size + 1, noE) :: (W.heap.size, noE) :: L) O (((W.alloc (.cells zarr 36)).alloc (.cells zarr 36)).alloc (.cells zarr 36)) := by
  have k := h.fresh.fresh.fresh
  have e1 : (W.alloc (.cells zarr 36)).heap.size = W.heap.size + 1 := by simp
  have e2 : ((W.alloc (.cells zarr 36)).alloc (.cells zarr 36)).heap.size = W.heap.size + 2 := by simp
  rw [e1, e2] at k
  exact k
theorem Ms.nils {w W : World} {v : Value} {n m k r : Int} {L O : List (Nat × Sc)} (h : Ms w v n m k r L O W) (B : Nat) : Ms w v n m k r L ((B, noE) :: O) W := ⟨h.run, h.box, fun p hp => by
  rcases List.mem_cons.1 hp with rfl | hp
  · exact own_nil _ _
  · exact h.own p hp⟩
set_option maxHeartbeats 12000000 in
theorem lawModeResets_any (v : Value) (l : List Sc) (n m k r : Int) (w : World) (h : Scrs 1048576 w v l) (hl : l.length ≤ 140737488355328) (hT : Tabs w) :
    Calls Tryz.prog 5 #[.agg #[v, .int .i64 n, .int .i64 m, .int .i64 k, .int .i64 r]] w fun e w' => e = .returned (.bool true) ∧ Below w.heap.size w w' := by
  have HT := Lib.hid hT
  obtain ⟨⟨A, c, rfl, hc, hf⟩, h2⟩ := id h
  have HF := Lib.hid hf
  have H2 := Lib.hid h2
  have H0 := Lib.hid (Run.start w (.slice A l.length c) n m k r)
  have HH := Lib.hid (heavy8 (.slice A l.length c) l n m k r _ (h.kept H0.out.bel) hl (by decide))
  have HWK := Lib.hid (fun W (hW : Below w.heap.size w W) => wakes12 W (hT.kept hW))
  have HWI : Hid (∀ W, Calls Tryz.prog 23 #[.int .i64 3, .int .i64 2] W fun e w' => e = .returned (.int .i64 1) ∧ w' = W) := Lib.hid fun W => within8 3 2 (by decide) (by decide) W
  obtain ⟨q, hq⟩ : ∃ q, l.length = q := ⟨_, rfl⟩
  rw [hq] at HF H2 H0 HH ⊢
  clear h hT h2 hf hl hc hq
  go_enter Tryz.func5, Tryz.ntmps5
  go_wp2_with fail
  refine HH.out.mono ?_; rintro e w1 ⟨b, rfl, hw, hb⟩
  have H1 := Lib.hid (H0.out.kept hb)
  have HW := Lib.hid hw
  clear hw hb HH H0
  cases b
  case true =>
    go_wp2_with fail
    go_ret
    exact ⟨rfl, H1.out.bel⟩
  go_wp2_with fail
  go_loopw [3] (fun j wr => ∃ i : Nat, i ≤ q ∧ i ≤ 4 ∧ j = .int .i64 i ∧ Hid (Run w wr (.slice A q c) n m k r)) (fun j _ => q - (intOf j).toNat)
  case atStart => exact ⟨0, by omega, by omega, rfl, H1⟩
  case round =>
    clear H1
    obtain ⟨i, hi, hi4, rfl, HR⟩ := hrel
    have b0 : wr.cell? ⟨w.heap.size, 0, none⟩ = some (.slice A q c) := Blk.cell HR.out.box 0
    by_cases hiq : i < q
    · by_cases h4 : i < 4
      · obtain ⟨ad, rfl, hat⟩ := HF.out i hiq
        have hI := H2.out i hiq
        have hFt := fit8 hI.2 (HW.out trivial i hiq)
        generalize l.getD i noSc = sc at hat hI hFt
        have HAT := Lib.hid (show At w (ad.add (i * 43)) (sarr sc.s sc.x sc.y sc.z).toList from hat)
        have HIN : Hid (∀ W, Below w.heap.size w W → sc.in_ W) := Lib.hid fun W hb => hI.1.kept hb
        have HFT := Lib.hid hFt
        clear hat hI hFt
        obtain ⟨may, hmay⟩ : ∃ q, okB sc.s = q := ⟨_, rfl⟩
        have HMAY := Lib.hid hmay
        have HOK : Hid (may = true → Ok sc.s) := Lib.hid fun h => (ok_iff _).1 (hmay.trans h)
        go_wp2_with (refine wp_loadArg rfl rfl rfl (HAT.out.kept HR.out.bel) ?_)
        refine (refScreen_any sc.s sc.x sc.y sc.z wr (HIN.out _ HR.out.bel) HFT.out.sh (HT.out.kept HR.out.bel)).mono ?_; rintro e w2 ⟨rfl, hb⟩
        rw [hmay]
        have HR2 := Lib.hid (HR.out.kept hb)
        clear hb HR b0 hmay
        have b0 : w2.cell? ⟨w.heap.size, 0, none⟩ = some (.slice (some ad) q c) := Blk.cell HR2.out.box 0
        go_wp2_with (refine wp_loadArg rfl rfl rfl (HAT.out.kept HR2.out.bel) ?_)
        refine (copyScreen_any sc.s sc.x sc.y sc.z w2 (HIN.out _ HR2.out.bel) ⟨HFT.out.l.m, HFT.out.l.o, HFT.out.l.t⟩).mono ?_; rintro e w3 ⟨xi, yi, zi, rfl, ho, hb⟩
        have HO3 := Lib.hid (ho.low (Nat.zero_le _))
        have HM3 : Hid (Ms w (.slice (some ad) q c) n m k r [] [] w3) := Lib.hid ⟨HR2.out.kept hb, (fun p hp => by cases hp), (fun p hp => by cases hp)⟩
        have HL3 : Hid (w.heap.size < w3.heap.size) := Lib.hid (Blk.lt HM3.out.run.box)
        clear ho hb HR2 b0
        go_upto_region 8 with (first
          | (refine wp_allocS (n := w3.heap.size) rfl rfl rfl ?_)
          | (refine wp_storeS_then (b := w3.heap.size) (A := sarr sc.s xi yi zi) (T := Ms w (.slice (some ad) q c) n m k r [(w3.heap.size, ⟨sc.s, xi, yi, zi⟩)] [(0, ⟨sc.s, xi, yi, zi⟩)]) rfl rfl rfl rfl rfl HO3.out.in_.one (heap_alloc_new _ _) rfl (fun _ k => HM3.out.more (e := ⟨sc.s, xi, yi, zi⟩) HO3.out k) ?_; intro w4 H4))
        go_simp
        change Code.wp _ _ _ _ w4
        clear HM3 HO3
        generalize w3.heap.size = b5 at H4 HL3 ⊢
        go_wp2_with (refine wp_loadS (b := b5) (s := sc.s) (x0 := xi) (y0 := yi) (z0 := zi) rfl rfl rfl (H4.out.bx 0 rfl) ?_)
        refine (softD sc.s xi yi zi w4 (H4.out.ow 0 rfl).in_ HFT.out.h (HT.out.kept H4.out.run.bel)).mono ?_; rintro e w5 ⟨X, x, y, z, cd, rfl, hans⟩
        rw [HMAY.out] at hans
        have HA6 : Hid (cd = codeB may ∧ (may = true → X = softS sc.s) ∧ (may = false → X = noS ∧ x = nilS ∧ y = nilS ∧ z = nilS)) := Lib.hid ⟨hans.code, hans.yes, hans.no⟩
        have HO6 := Lib.hid hans.own
        have H5 := Lib.hid (H4.out.kept hans.bel)
        have HB6 : Hid (b5 < w4.heap.size ∧ w4.heap.size ≤ w5.heap.size) := Lib.hid ⟨H4.out.lt _ (List.mem_of_getElem? (show [(b5, (Sc.mk sc.s xi yi zi))][0]? = some _ from rfl)), hans.bel.size⟩
        have HI6 := Lib.hid ((H4.out.ow 0 rfl).lt3)
        clear hans H4
        go_upto_region 9 with (first
          | (refine wp_allocS (n := w5.heap.size) rfl rfl rfl ?_)
          | (refine wp_storeS_then (b := w5.heap.size) (A := sarr X x y z) (T := Ms w (.slice (some ad) q c) n m k r ((w5.heap.size, (Sc.mk X x y z)) :: [(b5, (Sc.mk sc.s xi yi zi))]) ((w4.heap.size, (Sc.mk X x y z)) :: [(0, (Sc.mk sc.s xi yi zi))])) rfl rfl rfl rfl rfl HO6.out.in_.one (heap_alloc_new _ _) rfl (fun _ k => H5.out.more (e := (Sc.mk X x y z)) HO6.out k) ?_; intro w6 H6))
        go_simp
        change Code.wp _ _ _ _ w6
        clear HO6 H5
        generalize w5.heap.size = b6 at H6 HB6 ⊢
        generalize w4.heap.size = B6 at H6 HB6 HI6 ⊢
        go_wp2_with (refine wp_loadS (b := b5) (s := sc.s) (x0 := xi) (y0 := yi) (z0 := zi) rfl rfl rfl (H6.out.bx 1 rfl) ?_)
        refine (hardD sc.s xi yi zi w6 (H6.out.ow 1 rfl).in_ HFT.out.h (HT.out.kept H6.out.run.bel)).mono ?_; rintro e w7 ⟨Y, u, v1, t, cf, rfl, hans⟩
        rw [HMAY.out] at hans
        have HA8 : Hid (cf = codeB may ∧ (may = true → Y = hardS sc.s) ∧ (may = false → Y = noS ∧ u = nilS ∧ v1 = nilS ∧ t = nilS)) := Lib.hid ⟨hans.code, hans.yes, hans.no⟩
        have HO8 := Lib.hid hans.own
        have H7 := Lib.hid (H6.out.kept hans.bel)
        have HB8 : Hid (b6 < w6.heap.size ∧ w6.heap.size ≤ w7.heap.size) := Lib.hid ⟨H6.out.lt _ (List.mem_of_getElem? (show [(b6, (Sc.mk X x y z)), (b5, (Sc.mk sc.s xi yi zi))][0]? = some _ from rfl)), hans.bel.size⟩
        have HI8 := Lib.hid ((H6.out.ow 0 rfl).lt3)
        clear hans H6
        go_upto_region 10 with (first
          | (refine wp_allocS (n := w7.heap.size) rfl rfl rfl ?_)
          | (refine wp_storeS_then (b := w7.heap.size) (A := sarr Y u v1 t) (T := Ms w (.slice (some ad) q c) n m k r ((w7.heap.size, (Sc.mk Y u v1 t)) :: [(b6, (Sc.mk X x y z)), (b5, (Sc.mk sc.s xi yi zi))]) ((w6.heap.size, (Sc.mk Y u v1 t)) :: [(B6, (Sc.mk X x y z)), (0, (Sc.mk sc.s xi yi zi))])) rfl rfl rfl rfl rfl HO8.out.in_.one (heap_alloc_new _ _) rfl (fun _ k => H7.out.more (e := (Sc.mk Y u v1 t)) HO8.out k) ?_; intro w8 H8))
        go_simp
        change Code.wp _ _ _ _ w8
        clear HO8 H7
        generalize w7.heap.size = b8 at H8 HB8 ⊢
        generalize w6.heap.size = B8 at H8 HB8 HI8 ⊢
        go_wp2_with (refine wp_loadS (b := b5) (s := sc.s) (x0 := xi) (y0 := yi) (z0 := zi) rfl rfl rfl (H8.out.bx 2 rfl) ?_)
        refine (alignD sc.s xi yi zi w8 (H8.out.ow 2 rfl).in_ HFT.out.h (HT.out.kept H8.out.run.bel)).mono ?_; rintro e w9 ⟨Z, d1, d2, d3, cg, rfl, hans⟩
        rw [HMAY.out] at hans
        have HA10 : Hid (cg = codeB may ∧ (may = true → Z = alignS sc.s) ∧ (may = false → Z = noS ∧ d1 = nilS ∧ d2 = nilS ∧ d3 = nilS)) := Lib.hid ⟨hans.code, hans.yes, hans.no⟩
        have HO10 := Lib.hid hans.own
        have H9 := Lib.hid (H8.out.kept hans.bel)
        have HB10 : Hid (b8 < w8.heap.size ∧ w8.heap.size ≤ w9.heap.size) := Lib.hid ⟨H8.out.lt _ (List.mem_of_getElem? (show [(b8, (Sc.mk Y u v1 t)), (b6, (Sc.mk X x y z)), (b5, (Sc.mk sc.s xi yi zi))][0]? = some _ from rfl)), hans.bel.size⟩
        have HI10 := Lib.hid ((H8.out.ow 0 rfl).lt3)
        clear hans H8
        go_upto_region 11 with (first
          | (refine wp_allocS (n := w9.heap.size) rfl rfl rfl ?_)
          | (refine wp_storeS_then (b := w9.heap.size) (A := sarr Z d1 d2 d3) (T := Ms w (.slice (some ad) q c) n m k r ((w9.heap.size, (Sc.mk Z d1 d2 d3)) :: [(b8, (Sc.mk Y u v1 t)), (b6, (Sc.mk X x y z)), (b5, (Sc.mk sc.s xi yi zi))]) ((w8.heap.size, (Sc.mk Z d1 d2 d3)) :: [(B8, (Sc.mk Y u v1 t)), (B6, (Sc.mk X x y z)), (0, (Sc.mk sc.s xi yi zi))])) rfl rfl rfl rfl rfl HO10.out.in_.one (heap_alloc_new _ _) rfl (fun _ k => H9.out.more (e := (Sc.mk Z d1 d2 d3)) HO10.out k) ?_; intro w10 H10))
        go_simp
        change Code.wp _ _ _ _ w10
        clear HO10 H9
        generalize w9.heap.size = b10 at H10 HB10 ⊢
        generalize w8.heap.size = B10 at H10 HB10 HI10 ⊢
        have HL12 : Hid (b10 < w10.heap.size) := Lib.hid (H10.out.lt _ List.mem_cons_self)
        have HI12 := Lib.hid ((H10.out.ow 0 rfl).lt3)
        go_upto_if 55 with (first
          | (refine wp_allocS (n := w10.heap.size) rfl rfl rfl ?_)
          | (refine wp_allocS1 (w := w10) rfl rfl ?_)
          | (refine wp_allocS2 (w := w10) rfl rfl ?_))
        go_simp
        change Code.wp _ _ _ _ (((w10.alloc (.cells zarr 36)).alloc (.cells zarr 36)).alloc (.cells zarr 36))
        have H13 := Lib.hid H10.out.fresh3
        have HSZ : Hid (((((w10.alloc (.cells zarr 36)).alloc (.cells zarr 36)).alloc (.cells zarr 36))).heap.size = w10.heap.size + 3) := Lib.hid (by simp)
        clear H10
        generalize (((w10.alloc (.cells zarr 36)).alloc (.cells zarr 36)).alloc (.cells zarr 36)) = w13 at H13 HSZ ⊢
        generalize w10.heap.size = b14 at H13 HL12 HI12 HSZ ⊢
        have HN : Hid (b5 < B6 ∧ B6 ≤ b6 ∧ b6 < B8 ∧ B8 ≤ b8 ∧ b8 < B10 ∧ B10 ≤ b10 ∧ b10 < b14 ∧ w.heap.size < b5) := Lib.hid ⟨HB6.out.1, HB6.out.2, HB8.out.1, HB8.out.2, HB10.out.1, HB10.out.2, HL12.out, HL3.out⟩
        clear HB6 HB8 HB10 HL12 HL3
        go_cut [55] from 55 to 73 (fun _ wx => ∃ E14 E15 E16 : Sc, Hid (Ms w (.slice (some ad) q c) n m k r ((b14 + 2, E16) :: (b14 + 1, E15) :: (b14, E14) :: [(b10, (Sc.mk Z d1 d2 d3)), (b8, (Sc.mk Y u v1 t)), (b6, (Sc.mk X x y z)), (b5, (Sc.mk sc.s xi yi zi))]) ((b14 + 3, E16) :: (b14 + 3, E15) :: (b14 + 3, E14) :: [(B10, (Sc.mk Z d1 d2 d3)), (B8, (Sc.mk Y u v1 t)), (B6, (Sc.mk X x y z)), (0, (Sc.mk sc.s xi yi zi))]) wx) ∧ Hid (may = true → E14.s = softS sc.s ∧ E15.s = hardS sc.s ∧ E16.s = alignS sc.s) ∧ Hid (b14 + 3 ≤ wx.heap.size))
        case first =>
          cases may
          · go_wp2_with fail
            go_meet
            exact ⟨noE, noE, noE, Lib.hid (((H13.out.nils (b14 + 3)).nils (b14 + 3)).nils (b14 + 3)), Lib.hid (fun h => by cases h), Lib.hid (Nat.le_of_eq HSZ.out.symm)⟩
          · have HOKT := Lib.hid (HOK.out rfl)
            have HQ : Hid (∀ W, Run w W (.slice (some ad) q c) n m k r → W.cell? ⟨w.heap.size, 0, none⟩ = some (.slice (some ad) q c) ∧ Hid (Below w.heap.size w W)) := Lib.hid fun W h => ⟨Blk.cell h.box 0, Lib.hid h.bel⟩
            have q0 := HQ.out _ (H13.out.kept (Below.refl _ _).drew).run
            clear HA6 HA8 HA10 HOK
            go_upto_region 13 with (fail)
            refine wp_region_held_drew (S := fun w' => w'.cell? ⟨w.heap.size, 0, none⟩ = some (.slice (some ad) q c) ∧ Hid (Below w.heap.size w w')) (by kernel_rfl) q0 (fun hHeld => ?_)
            have H13 := Lib.hid (H13.out.kept (Below.refl _ _).drew)
            have HBD : Hid (b14 + 3 ≤ w13.drew.heap.size) := Lib.hid (Nat.le_of_eq HSZ.out.symm)
            generalize w13.drew = wd at H13 q0 HBD ⊢
            refine wpAnyH_take (i := 0) (v := ?_) rfl (by kernel_rfl) (by kernel_rfl) (by kernel_rfl) (fun _ _ _ h => h) (Or.inl ⟨by rfl, ?_⟩) (by assumption) ?_
            rotate_left
            · intro w' hSw; first | (go_simp; done) | (go_simp; with_reducible rfl)
            simp only [Act.put, List.getElem_toArray, List.getElem_cons_zero, List.setIfInBounds_toArray, List.set_cons_zero, List.set_cons_succ]
            refine wpAnyH_take (i := 1) (v := ?_) rfl (by kernel_rfl) (by kernel_rfl) (by kernel_rfl) (fun _ _ _ h => h) (Or.inl ⟨by rfl, ?_⟩) (by assumption) ?_
            rotate_left
            · intro w' hSw; first | (go_simp; done) | (go_simp; with_reducible rfl)
            simp only [Act.put, List.getElem_toArray, List.getElem_cons_zero, List.getElem_cons_succ, List.setIfInBounds_toArray, List.set_cons_zero, List.set_cons_succ]
            refine wpAnyH_take (i := 2) (v := ?_) rfl (by kernel_rfl) (by kernel_rfl) (by kernel_rfl) (fun _ _ _ h => h) (Or.inl ⟨by rfl, ?_⟩) (by assumption) ?_
            rotate_left
            · intro w' hSw; first | (go_simp; done) | (go_simp; with_reducible rfl)
            simp only [Act.put, List.getElem_toArray, List.getElem_cons_zero, List.getElem_cons_succ, List.setIfInBounds_toArray, List.set_cons_zero, List.set_cons_succ]
            refine wpAnyH_take (i := 3) (v := ?_) rfl (by kernel_rfl) (by kernel_rfl) (by kernel_rfl) (fun _ _ _ h => h) (Or.inl ⟨by rfl, ?_⟩) (by assumption) ?_
            rotate_left
            · intro w' hSw; first | (go_simp; done) | (go_simp; with_reducible rfl)
            simp only [Act.put, List.getElem_toArray, List.getElem_cons_zero, List.getElem_cons_succ, List.setIfInBounds_toArray, List.set_cons_zero, List.set_cons_succ]
            refine wpAnyH_take (i := 4) (v := sv sc.s sc.x sc.y sc.z) rfl (by kernel_rfl) (by kernel_rfl) (by kernel_rfl) (fun _ _ _ h => h) (yields_loadS rfl rfl rfl (fun w' hS => HAT.out.kept hS.2.out)) (by assumption) ?_
            simp only [Act.put, List.getElem_toArray, List.getElem_cons_zero, List.getElem_cons_succ, List.setIfInBounds_toArray, List.set_cons_zero, List.set_cons_succ]
            refine wpAnyH_take (i := 6) (v := ?_) rfl (by kernel_rfl) (by kernel_rfl) (by kernel_rfl) (fun _ _ _ h => h) (Or.inl ⟨by rfl, ?_⟩) (by assumption) ?_
            rotate_left
            · intro w' hSw; first | (go_simp; done) | (go_simp; with_reducible rfl)
            simp only [Act.put, List.getElem_toArray, List.getElem_cons_zero, List.getElem_cons_succ, List.setIfInBounds_toArray, List.set_cons_zero, List.set_cons_succ]
            refine wpAnyH_take (i := 7) (v := ?_) rfl (by kernel_rfl) (by kernel_rfl) (by kernel_rfl) (fun _ _ _ h => h) (Or.inl ⟨by rfl, ?_⟩) (by assumption) ?_
            rotate_left
            · intro w' hSw; first | (go_simp; done) | (go_simp; with_reducible rfl)
            simp only [Act.put, List.getElem_toArray, List.getElem_cons_zero, List.getElem_cons_succ, List.setIfInBounds_toArray, List.set_cons_zero, List.set_cons_succ]
            refine wpAnyH_take (i := 8) (v := ?_) rfl (by kernel_rfl) (by kernel_rfl) (by kernel_rfl) (fun _ _ _ h => h) (Or.inl ⟨by rfl, ?_⟩) (by assumption) ?_
            rotate_left
            · intro w' hSw; first | (go_simp; done) | (go_simp; with_reducible rfl)
            simp only [Act.put, List.getElem_toArray, List.getElem_cons_zero, List.getElem_cons_succ, List.setIfInBounds_toArray, List.set_cons_zero, List.set_cons_succ]
            refine wpAnyH_take (i := 9) (v := ?_) rfl (by kernel_rfl) (by kernel_rfl) (by kernel_rfl) (fun _ _ _ h => h) (Or.inl ⟨by rfl, ?_⟩) (by assumption) ?_
            rotate_left
            · intro w' hSw; first | (go_simp; done) | (go_simp; with_reducible rfl)
            simp only [Act.put, List.getElem_toArray, List.getElem_cons_zero, List.getElem_cons_succ, List.setIfInBounds_toArray, List.set_cons_zero, List.set_cons_succ]
            refine wpAnyH_take (i := 10) (v := sv sc.s sc.x sc.y sc.z) rfl (by kernel_rfl) (by kernel_rfl) (by kernel_rfl) (fun _ _ _ h => h) (yields_loadS rfl rfl rfl (fun w' hS => HAT.out.kept hS.2.out)) (by assumption) ?_
            simp only [Act.put, List.getElem_toArray, List.getElem_cons_zero, List.getElem_cons_succ, List.setIfInBounds_toArray, List.set_cons_zero, List.set_cons_succ]
            refine wpAnyH_take (i := 12) (v := ?_) rfl (by kernel_rfl) (by kernel_rfl) (by kernel_rfl) (fun _ _ _ h => h) (Or.inl ⟨by rfl, ?_⟩) (by assumption) ?_
            rotate_left
            · intro w' hSw; first | (go_simp; done) | (go_simp; with_reducible rfl)
            simp only [Act.put, List.getElem_toArray, List.getElem_cons_zero, List.getElem_cons_succ, List.setIfInBounds_toArray, List.set_cons_zero, List.set_cons_succ]
            refine wpAnyH_take (i := 13) (v := ?_) rfl (by kernel_rfl) (by kernel_rfl) (by kernel_rfl) (fun _ _ _ h => h) (Or.inl ⟨by rfl, ?_⟩) (by assumption) ?_
            rotate_left
            · intro w' hSw; first | (go_simp; done) | (go_simp; with_reducible rfl)
            simp only [Act.put, List.getElem_toArray, List.getElem_cons_zero, List.getElem_cons_succ, List.setIfInBounds_toArray, List.set_cons_zero, List.set_cons_succ]
            refine wpAnyH_take (i := 14) (v := ?_) rfl (by kernel_rfl) (by kernel_rfl) (by kernel_rfl) (fun _ _ _ h => h) (Or.inl ⟨by rfl, ?_⟩) (by assumption) ?_
            rotate_left
            · intro w' hSw; first | (go_simp; done) | (go_simp; with_reducible rfl)
            simp only [Act.put, List.getElem_toArray, List.getElem_cons_zero, List.getElem_cons_succ, List.setIfInBounds_toArray, List.set_cons_zero, List.set_cons_succ]
            refine wpAnyH_take (i := 15) (v := ?_) rfl (by kernel_rfl) (by kernel_rfl) (by kernel_rfl) (fun _ _ _ h => h) (Or.inl ⟨by rfl, ?_⟩) (by assumption) ?_
            rotate_left
            · intro w' hSw; first | (go_simp; done) | (go_simp; with_reducible rfl)
            simp only [Act.put, List.getElem_toArray, List.getElem_cons_zero, List.getElem_cons_succ, List.setIfInBounds_toArray, List.set_cons_zero, List.set_cons_succ]
            refine wpAnyH_take (i := 16) (v := sv sc.s sc.x sc.y sc.z) rfl (by kernel_rfl) (by kernel_rfl) (by kernel_rfl) (fun _ _ _ h => h) (yields_loadS rfl rfl rfl (fun w' hS => HAT.out.kept hS.2.out)) (by assumption) ?_
            simp only [Act.put, List.getElem_toArray, List.getElem_cons_zero, List.getElem_cons_succ, List.setIfInBounds_toArray, List.set_cons_zero, List.set_cons_succ]
            refine wpAnyH_ready (rs := [5]) (by kernel_rfl) (by simp) ?_
            refine AllReadyH.cons rfl (fun K hK => ?_) AllReadyH.nil
            go_simp
            go_at_call 29
            refine (refSoft_any sc.s sc.x sc.y sc.z wd (HIN.out _ H13.out.run.bel) HOKT.out).mono ?_; rintro e w14 ⟨x14, y14, z14, rfl, ho, hb⟩
            have HO14 := Lib.hid (ho.low HBD.out)
            have HBD := Lib.hid (Nat.le_trans HBD.out hb.size)
            have H14 := Lib.hid (H13.out.kept hb)
            have q14 := HQ.out _ H14.out.run
            clear ho hb
            refine hK.out _ _ q14 (fun hHeld => ?_)
            clear hK K
            refine wpAnyH_ready (rs := [11]) (by kernel_rfl) (by simp) ?_
            refine AllReadyH.cons rfl (fun K hK => ?_) AllReadyH.nil
            go_simp
            go_at_call 30
            refine (refHard_any sc.s sc.x sc.y sc.z w14 HOKT.out).mono ?_; rintro e w15 ⟨x15, y15, z15, rfl, ho, hb⟩
            have HO15 := Lib.hid (ho.low HBD.out)
            have HBD := Lib.hid (Nat.le_trans HBD.out hb.size)
            have H15 := Lib.hid (H14.out.kept hb)
            have q15 := HQ.out _ H15.out.run
            have HO14 := Lib.hid (HO14.out.kept hb)
            clear ho hb
            refine hK.out _ _ q15 (fun hHeld => ?_)
            clear hK K
            refine wpAnyH_ready (rs := [17]) (by kernel_rfl) (by simp) ?_
            refine AllReadyH.cons rfl (fun K hK => ?_) AllReadyH.nil
            go_simp
            go_at_call 31
            refine (refAlign_any sc.s sc.x sc.y sc.z w15 (HIN.out _ H15.out.run.bel) HOKT.out).mono ?_; rintro e w16 ⟨x16, y16, z16, rfl, ho, hb⟩
            have HO16 := Lib.hid (ho.low HBD.out)
            have HBD := Lib.hid (Nat.le_trans HBD.out hb.size)
            have H16 := Lib.hid (H15.out.kept hb)
            have q16 := HQ.out _ H16.out.run
            have HO14 := Lib.hid (HO14.out.kept hb)
            have HO15 := Lib.hid (HO15.out.kept hb)
            clear ho hb
            refine hK.out _ _ q16 (fun hHeld => ?_)
            clear hK K
            refine wpAnyH_ready (rs := [18]) (by kernel_rfl) (by simp) ?_
            refine AllReadyH.cons rfl (fun K hK => ?_) AllReadyH.nil
            refine step_storeS (b := b14) (A := sarr (softS sc.s) x14 y14 z14) rfl rfl rfl rfl rfl HO14.out.in_.one (H16.out.bx 2 rfl) rfl ?_; intro wt0 ht
            have HT0 : Hid (Ms w (.slice (some ad) q c) n m k r ((b14 + 2, noE) :: (b14 + 1, noE) :: (b14, (Sc.mk (softS sc.s) x14 y14 z14)) :: [(b10, (Sc.mk Z d1 d2 d3)), (b8, (Sc.mk Y u v1 t)), (b6, (Sc.mk X x y z)), (b5, (Sc.mk sc.s xi yi zi))]) ((b14 + 3, (Sc.mk (softS sc.s) x14 y14 z14)) :: [(B10, (Sc.mk Z d1 d2 d3)), (B8, (Sc.mk Y u v1 t)), (B6, (Sc.mk X x y z)), (0, (Sc.mk sc.s xi yi zi))]) wt0) := Lib.hid (H16.out.put (H16.out.bx 2 rfl) (by have := HN.out; omega) (e := (Sc.mk (softS sc.s) x14 y14 z14)) HO14.out ht (fun p hp => by
              have hn := HN.out
              simp only [List.mem_cons, List.not_mem_nil, or_false] at hp ⊢
              rcases hp with rfl | rfl | rfl | rfl | rfl | rfl | rfl
              all_goals first
                | exact .inl rfl
                | exact .inr ⟨by simp, by dsimp only; omega⟩))
            have HBD := Lib.hid (show b14 + 3 ≤ wt0.heap.size by rw [ht.size]; exact HBD.out)
            have HO15 := Lib.hid (ht.own2 (H16.out.bx 2 rfl) HO15.out)
            have HO16 := Lib.hid (ht.own2 (H16.out.bx 2 rfl) HO16.out)
            have qt0 := HQ.out _ HT0.out.run
            refine hK.out _ _ qt0 (fun hHeld => ?_)
            clear hK K
            refine wpAnyH_ready (rs := [19]) (by kernel_rfl) (by simp) ?_
            refine AllReadyH.cons rfl (fun K hK => ?_) AllReadyH.nil
            refine step_storeS (b := b14 + 1) (A := sarr (hardS sc.s) x15 y15 z15) rfl rfl rfl rfl rfl HO15.out.in_.one (HT0.out.bx 1 rfl) rfl ?_; intro wt1 ht
            have HT1 : Hid (Ms w (.slice (some ad) q c) n m k r ((b14 + 2, noE) :: (b14 + 1, (Sc.mk (hardS sc.s) x15 y15 z15)) :: (b14, (Sc.mk (softS sc.s) x14 y14 z14)) :: [(b10, (Sc.mk Z d1 d2 d3)), (b8, (Sc.mk Y u v1 t)), (b6, (Sc.mk X x y z)), (b5, (Sc.mk sc.s xi yi zi))]) ((b14 + 3, (Sc.mk (hardS sc.s) x15 y15 z15)) :: ((b14 + 3, (Sc.mk (softS sc.s) x14 y14 z14)) :: [(B10, (Sc.mk Z d1 d2 d3)), (B8, (Sc.mk Y u v1 t)), (B6, (Sc.mk X x y z)), (0, (Sc.mk sc.s xi yi zi))])) wt1) := Lib.hid (HT0.out.put (HT0.out.bx 1 rfl) (by have := HN.out; omega) (e := (Sc.mk (hardS sc.s) x15 y15 z15)) HO15.out ht (fun p hp => by
              have hn := HN.out
              simp only [List.mem_cons, List.not_mem_nil, or_false] at hp ⊢
              rcases hp with rfl | rfl | rfl | rfl | rfl | rfl | rfl
              all_goals first
                | exact .inl rfl
                | exact .inr ⟨by simp, by dsimp only; omega⟩))
            have HBD := Lib.hid (show b14 + 3 ≤ wt1.heap.size by rw [ht.size]; exact HBD.out)
            have HO16 := Lib.hid (ht.own2 (HT0.out.bx 1 rfl) HO16.out)
            have qt1 := HQ.out _ HT1.out.run
            refine hK.out _ _ qt1 (fun hHeld => ?_)
            clear hK K
            refine wpAnyH_ready (rs := [20]) (by kernel_rfl) (by simp) ?_
            refine AllReadyH.cons rfl (fun K hK => ?_) AllReadyH.nil
            refine step_storeS (b := b14 + 2) (A := sarr (alignS sc.s) x16 y16 z16) rfl rfl rfl rfl rfl HO16.out.in_.one (HT1.out.bx 0 rfl) rfl ?_; intro wt2 ht
            have HT2 : Hid (Ms w (.slice (some ad) q c) n m k r ((b14 + 2, (Sc.mk (alignS sc.s) x16 y16 z16)) :: (b14 + 1, (Sc.mk (hardS sc.s) x15 y15 z15)) :: (b14, (Sc.mk (softS sc.s) x14 y14 z14)) :: [(b10, (Sc.mk Z d1 d2 d3)), (b8, (Sc.mk Y u v1 t)), (b6, (Sc.mk X x y z)), (b5, (Sc.mk sc.s xi yi zi))]) ((b14 + 3, (Sc.mk (alignS sc.s) x16 y16 z16)) :: ((b14 + 3, (Sc.mk (hardS sc.s) x15 y15 z15)) :: ((b14 + 3, (Sc.mk (softS sc.s) x14 y14 z14)) :: [(B10, (Sc.mk Z d1 d2 d3)), (B8, (Sc.mk Y u v1 t)), (B6, (Sc.mk X x y z)), (0, (Sc.mk sc.s xi yi zi))]))) wt2) := Lib.hid (HT1.out.put (HT1.out.bx 0 rfl) (by have := HN.out; omega) (e := (Sc.mk (alignS sc.s) x16 y16 z16)) HO16.out ht (fun p hp => by
              have hn := HN.out
              simp only [List.mem_cons, List.not_mem_nil, or_false] at hp ⊢
              rcases hp with rfl | rfl | rfl | rfl | rfl | rfl | rfl
              all_goals first
                | exact .inl rfl
                | exact .inr ⟨by simp, by dsimp only; omega⟩))
            have HBD := Lib.hid (show b14 + 3 ≤ wt2.heap.size by rw [ht.size]; exact HBD.out)
            have qt2 := HQ.out _ HT2.out.run
            refine hK.out _ _ qt2 (fun hHeld => ?_)
            clear hK K
            refine wpAnyH_done (by kernel_rfl) ?_ _
            go_wp2_with fail
            go_meet
            exact ⟨(Sc.mk (softS sc.s) x14 y14 z14), (Sc.mk (hardS sc.s) x15 y15 z15), (Sc.mk (alignS sc.s) x16 y16 z16), HT2, Lib.hid (fun _ => ⟨rfl, rfl, rfl⟩), HBD⟩
        case rest =>
          obtain ⟨E14, E15, E16, HM, HWN, HBW⟩ := hcut
          rename World => w20
          clear H13 HSZ
          obtain ⟨S14, x14, y14, z14⟩ := E14
          obtain ⟨S15, x15, y15, z15⟩ := E15
          obtain ⟨S16, x16, y16, z16⟩ := E16
          dsimp only at HWN
          have HQ : Hid (∀ O' W, Ms w (.slice (some ad) q c) n m k r ((b14 + 2, (Sc.mk S16 x16 y16 z16)) :: (b14 + 1, (Sc.mk S15 x15 y15 z15)) :: (b14, (Sc.mk S14 x14 y14 z14)) :: [(b10, (Sc.mk Z d1 d2 d3)), (b8, (Sc.mk Y u v1 t)), (b6, (Sc.mk X x y z)), (b5, (Sc.mk sc.s xi yi zi))]) O' W → W.cell? ⟨w.heap.size, 0, none⟩ = some (.slice (some ad) q c) ∧ Hid (Below w.heap.size w W) ∧ Hid (SBox W b5 sc.s xi yi zi) ∧ Hid (SBox W b6 X x y z) ∧ Hid (SBox W b8 Y u v1 t) ∧ Hid (SBox W b10 Z d1 d2 d3) ∧ Hid (SBox W b14 S14 x14 y14 z14) ∧ Hid (SBox W (b14 + 1) S15 x15 y15 z15) ∧ Hid (SBox W (b14 + 2) S16 x16 y16 z16)) := Lib.hid fun O' W h =>
            ⟨Blk.cell h.run.box 0, Lib.hid h.run.bel, Lib.hid (h.bx 6 rfl), Lib.hid (h.bx 5 rfl), Lib.hid (h.bx 4 rfl), Lib.hid (h.bx 3 rfl), Lib.hid (h.bx 2 rfl), Lib.hid (h.bx 1 rfl), Lib.hid (h.bx 0 rfl)⟩
          have HSA : Hid (∀ W, Ms w (.slice (some ad) q c) n m k r ((b14 + 2, (Sc.mk S16 x16 y16 z16)) :: (b14 + 1, (Sc.mk S15 x15 y15 z15)) :: (b14, (Sc.mk S14 x14 y14 z14)) :: [(b10, (Sc.mk Z d1 d2 d3)), (b8, (Sc.mk Y u v1 t)), (b6, (Sc.mk X x y z)), (b5, (Sc.mk sc.s xi yi zi))]) ((b14 + 3, (Sc.mk S16 x16 y16 z16)) :: (b14 + 3, (Sc.mk S15 x15 y15 z15)) :: (b14 + 3, (Sc.mk S14 x14 y14 z14)) :: [(B10, (Sc.mk Z d1 d2 d3)), (B8, (Sc.mk Y u v1 t)), (B6, (Sc.mk X x y z)), (0, (Sc.mk sc.s xi yi zi))]) W → B6 ≤ W.heap.size → Calls Tryz.prog 21 #[sv X x y z, .int .i64 cd, .bool may, sv S14 x14 y14 z14, sv sc.s xi yi zi, sv sc.s sc.x sc.y sc.z] W fun e w' => e = .returned (.bool true) ∧ Below B6 W w' ∧ Boxes W w' ∧ Far W w' x y z) := Lib.hid fun W hq hsz =>
            same_any2 may B6 X S14 x y z x14 y14 z14 cd sc.s xi yi zi sc.x sc.y sc.z W hsz HA6.out.1
              (fun h => ⟨(HWN.out h).1.trans (HA6.out.2.1 h).symm, hq.ow 5 rfl, ((HWN.out h).1.trans (HA6.out.2.1 h).symm) ▸ (hq.ow 2 rfl).in_, by rw [HA6.out.2.1 h]; exact (softS_ok (HOK.out h)).lens8⟩)
              HA6.out.2.2 (fun W' hb => ((hq.ow 6 rfl).keptB (HI6.out.mono (by have := HN.out; omega)) hb).in_) (fun W' hb => HIN.out W' (hq.run.bel.trans (hb.mono (by have := HN.out; omega)))) HFT.out.l
          have HSB : Hid (∀ W, Ms w (.slice (some ad) q c) n m k r ((b14 + 2, (Sc.mk S16 x16 y16 z16)) :: (b14 + 1, (Sc.mk S15 x15 y15 z15)) :: (b14, (Sc.mk S14 x14 y14 z14)) :: [(b10, (Sc.mk Z d1 d2 d3)), (b8, (Sc.mk Y u v1 t)), (b6, (Sc.mk X x y z)), (b5, (Sc.mk sc.s xi yi zi))]) [(b14 + 3, (Sc.mk S16 x16 y16 z16)), (b14 + 3, (Sc.mk S15 x15 y15 z15)), (B10, (Sc.mk Z d1 d2 d3)), (B8, (Sc.mk Y u v1 t)), (0, (Sc.mk sc.s xi yi zi))] W → B8 ≤ W.heap.size → Calls Tryz.prog 21 #[sv Y u v1 t, .int .i64 cf, .bool may, sv S15 x15 y15 z15, sv sc.s xi yi zi, sv sc.s sc.x sc.y sc.z] W fun e w' => e = .returned (.bool true) ∧ Below B8 W w' ∧ Boxes W w' ∧ Far W w' u v1 t) := Lib.hid fun W hq hsz =>
            same_any2 may B8 Y S15 u v1 t x15 y15 z15 cf sc.s xi yi zi sc.x sc.y sc.z W hsz HA8.out.1
              (fun h => ⟨(HWN.out h).2.1.trans (HA8.out.2.1 h).symm, hq.ow 3 rfl, ((HWN.out h).2.1.trans (HA8.out.2.1 h).symm) ▸ (hq.ow 1 rfl).in_, by rw [HA8.out.2.1 h]; exact (hardS_ok (HOK.out h)).lens8⟩)
              HA8.out.2.2 (fun W' hb => ((hq.ow 4 rfl).keptB (HI6.out.mono (by have := HN.out; omega)) hb).in_) (fun W' hb => HIN.out W' (hq.run.bel.trans (hb.mono (by have := HN.out; omega)))) HFT.out.l
          have HSC : Hid (∀ W, Ms w (.slice (some ad) q c) n m k r ((b14 + 2, (Sc.mk S16 x16 y16 z16)) :: (b14 + 1, (Sc.mk S15 x15 y15 z15)) :: (b14, (Sc.mk S14 x14 y14 z14)) :: [(b10, (Sc.mk Z d1 d2 d3)), (b8, (Sc.mk Y u v1 t)), (b6, (Sc.mk X x y z)), (b5, (Sc.mk sc.s xi yi zi))]) [(b14 + 3, (Sc.mk S16 x16 y16 z16)), (B10, (Sc.mk Z d1 d2 d3)), (0, (Sc.mk sc.s xi yi zi))] W → B10 ≤ W.heap.size → Calls Tryz.prog 21 #[sv Z d1 d2 d3, .int .i64 cg, .bool may, sv S16 x16 y16 z16, sv sc.s xi yi zi, sv sc.s sc.x sc.y sc.z] W fun e w' => e = .returned (.bool true) ∧ Below B10 W w' ∧ Boxes W w' ∧ Far W w' d1 d2 d3) := Lib.hid fun W hq hsz =>
            same_any2 may B10 Z S16 d1 d2 d3 x16 y16 z16 cg sc.s xi yi zi sc.x sc.y sc.z W hsz HA10.out.1
              (fun h => ⟨(HWN.out h).2.2.trans (HA10.out.2.1 h).symm, hq.ow 1 rfl, ((HWN.out h).2.2.trans (HA10.out.2.1 h).symm) ▸ (hq.ow 0 rfl).in_, by rw [HA10.out.2.1 h]; exact (alignS_ok (HOK.out h)).lens8⟩)
              HA10.out.2.2 (fun W' hb => ((hq.ow 2 rfl).keptB (HI6.out.mono (by have := HN.out; omega)) hb).in_) (fun W' hb => HIN.out W' (hq.run.bel.trans (hb.mono (by have := HN.out; omega)))) HFT.out.l
          have HD := Lib.hid (HM.out.kept (Below.refl _ _).drew)
          have HBD : Hid (b14 + 3 ≤ w20.drew.heap.size) := Lib.hid HBW.out
          have q0 := HQ.out _ _ HD.out
          go_upto_region 14 with (fail)
          go_cut [113] from 74 to 113 (fun s113 wy => s113 = .bool false ∧ Hid (Run w wy (.slice (some ad) q c) n m k r))
          case first =>
            refine wp_region_held_drew (S := fun W => W.cell? ⟨w.heap.size, 0, none⟩ = some (.slice (some ad) q c) ∧ Hid (Below w.heap.size w W) ∧ Hid (SBox W b5 sc.s xi yi zi) ∧ Hid (SBox W b6 X x y z) ∧ Hid (SBox W b8 Y u v1 t) ∧ Hid (SBox W b10 Z d1 d2 d3) ∧ Hid (SBox W b14 S14 x14 y14 z14) ∧ Hid (SBox W (b14 + 1) S15 x15 y15 z15) ∧ Hid (SBox W (b14 + 2) S16 x16 y16 z16)) (by kernel_rfl) q0 (fun hHeld => ?_)
            clear HM HBW
            generalize w20.drew = wd at HD HBD q0 ⊢
            refine wpAnyH_take (i := 0) (v := sv X x y z) rfl (by kernel_rfl) (by kernel_rfl) (by kernel_rfl) (fun _ _ _ h => h) (yields_loadS rfl rfl rfl (fun w' hS => hS.2.2.2.1.out.at)) (by assumption) ?_
            simp only [Act.put, List.getElem_toArray, List.getElem_cons_zero, List.setIfInBounds_toArray, List.set_cons_zero, List.set_cons_succ]
            refine wpAnyH_take (i := 1) (v := ?_) rfl (by kernel_rfl) (by kernel_rfl) (by kernel_rfl) (fun _ _ _ h => h) (Or.inl ⟨by rfl, ?_⟩) (by assumption) ?_
            rotate_left
            · intro w' hSw; first | (go_simp; done) | (go_simp; with_reducible rfl)
            simp only [Act.put, List.getElem_toArray, List.getElem_cons_zero, List.getElem_cons_succ, List.setIfInBounds_toArray, List.set_cons_zero, List.set_cons_succ]
            refine wpAnyH_take (i := 2) (v := ?_) rfl (by kernel_rfl) (by kernel_rfl) (by kernel_rfl) (fun _ _ _ h => h) (Or.inl ⟨by rfl, ?_⟩) (by assumption) ?_
            rotate_left
            · intro w' hSw; first | (go_simp; done) | (go_simp; with_reducible rfl)
            simp only [Act.put, List.getElem_toArray, List.getElem_cons_zero, List.getElem_cons_succ, List.setIfInBounds_toArray, List.set_cons_zero, List.set_cons_succ]
            refine wpAnyH_take (i := 3) (v := sv S14 x14 y14 z14) rfl (by kernel_rfl) (by kernel_rfl) (by kernel_rfl) (fun _ _ _ h => h) (yields_loadS rfl rfl rfl (fun w' hS => hS.2.2.2.2.2.2.1.out.at)) (by assumption) ?_
            simp only [Act.put, List.getElem_toArray, List.getElem_cons_zero, List.getElem_cons_succ, List.setIfInBounds_toArray, List.set_cons_zero, List.set_cons_succ]
            refine wpAnyH_take (i := 4) (v := sv sc.s xi yi zi) rfl (by kernel_rfl) (by kernel_rfl) (by kernel_rfl) (fun _ _ _ h => h) (yields_loadS rfl rfl rfl (fun w' hS => hS.2.2.1.out.at)) (by assumption) ?_
            simp only [Act.put, List.getElem_toArray, List.getElem_cons_zero, List.getElem_cons_succ, List.setIfInBounds_toArray, List.set_cons_zero, List.set_cons_succ]
            refine wpAnyH_take (i := 5) (v := ?_) rfl (by kernel_rfl) (by kernel_rfl) (by kernel_rfl) (fun _ _ _ h => h) (Or.inl ⟨by rfl, ?_⟩) (by assumption) ?_
            rotate_left
            · intro w' hSw; first | (go_simp; done) | (go_simp; with_reducible rfl)
            simp only [Act.put, List.getElem_toArray, List.getElem_cons_zero, List.getElem_cons_succ, List.setIfInBounds_toArray, List.set_cons_zero, List.set_cons_succ]
            refine wpAnyH_take (i := 6) (v := ?_) rfl (by kernel_rfl) (by kernel_rfl) (by kernel_rfl) (fun _ _ _ h => h) (Or.inl ⟨by rfl, ?_⟩) (by assumption) ?_
            rotate_left
            · intro w' hSw; first | (go_simp; done) | (go_simp; with_reducible rfl)
            simp only [Act.put, List.getElem_toArray, List.getElem_cons_zero, List.getElem_cons_succ, List.setIfInBounds_toArray, List.set_cons_zero, List.set_cons_succ]
            refine wpAnyH_take (i := 7) (v := ?_) rfl (by kernel_rfl) (by kernel_rfl) (by kernel_rfl) (fun _ _ _ h => h) (Or.inl ⟨by rfl, ?_⟩) (by assumption) ?_
            rotate_left
            · intro w' hSw; first | (go_simp; done) | (go_simp; with_reducible rfl)
            simp only [Act.put, List.getElem_toArray, List.getElem_cons_zero, List.getElem_cons_succ, List.setIfInBounds_toArray, List.set_cons_zero, List.set_cons_succ]
            refine wpAnyH_take (i := 8) (v := ?_) rfl (by kernel_rfl) (by kernel_rfl) (by kernel_rfl) (fun _ _ _ h => h) (Or.inl ⟨by rfl, ?_⟩) (by assumption) ?_
            rotate_left
            · intro w' hSw; first | (go_simp; done) | (go_simp; with_reducible rfl)
            simp only [Act.put, List.getElem_toArray, List.getElem_cons_zero, List.getElem_cons_succ, List.setIfInBounds_toArray, List.set_cons_zero, List.set_cons_succ]
            refine wpAnyH_take (i := 9) (v := sv sc.s sc.x sc.y sc.z) rfl (by kernel_rfl) (by kernel_rfl) (by kernel_rfl) (fun _ _ _ h => h) (yields_loadS rfl rfl rfl (fun w' hS => HAT.out.kept hS.2.1.out)) (by assumption) ?_
            simp only [Act.put, List.getElem_toArray, List.getElem_cons_zero, List.getElem_cons_succ, List.setIfInBounds_toArray, List.set_cons_zero, List.set_cons_succ]
            refine wpAnyH_ready (rs := [10]) (by kernel_rfl) (by simp) ?_
            refine AllReadyH.cons rfl (fun K hK => ?_) AllReadyH.nil
            go_simp
            go_at_call 21
            refine (HSA.out wd HD.out (by have := HN.out; have := HBD.out; omega)).mono ?_; rintro e wqA ⟨rfl, hb, hx, hf⟩
            have HA : Hid (Ms w (.slice (some ad) q c) n m k r ((b14 + 2, (Sc.mk S16 x16 y16 z16)) :: (b14 + 1, (Sc.mk S15 x15 y15 z15)) :: (b14, (Sc.mk S14 x14 y14 z14)) :: [(b10, (Sc.mk Z d1 d2 d3)), (b8, (Sc.mk Y u v1 t)), (b6, (Sc.mk X x y z)), (b5, (Sc.mk sc.s xi yi zi))]) [(b14 + 3, (Sc.mk S16 x16 y16 z16)), (b14 + 3, (Sc.mk S15 x15 y15 z15)), (B10, (Sc.mk Z d1 d2 d3)), (B8, (Sc.mk Y u v1 t)), (0, (Sc.mk sc.s xi yi zi))] wqA) := Lib.hid (HD.out.after (by have := HN.out; omega) hb hx hf (fun p hp => by
              have hn := HN.out
              simp only [List.mem_cons, List.not_mem_nil, or_false] at hp
              rcases hp with rfl | rfl | rfl | rfl | rfl
              · exact ⟨by simp, .inr (HI8.out.mono (by dsimp only; omega))⟩
              · exact ⟨by simp, .inr (HI8.out.mono (by dsimp only; omega))⟩
              · exact ⟨by simp, .inr (HI8.out.mono (by dsimp only; omega))⟩
              · exact ⟨by simp, .inr (HI8.out.mono (by dsimp only; omega))⟩
              · exact ⟨by simp, .inl (HI6.out.mono (by omega))⟩))
            have HBD := Lib.hid (Nat.le_trans HBD.out hb.size)
            clear hb hx hf
            have qA := HQ.out _ _ HA.out
            refine hK.out _ _ qA (fun hHeld => ?_)
            clear hK K
            refine wpAnyH_take (i := 11) (v := ?_) rfl (by kernel_rfl) (by kernel_rfl) (by kernel_rfl) (fun _ _ _ h => h) (Or.inl ⟨by rfl, ?_⟩) (by assumption) ?_
            rotate_left
            · intro w' hSw; first | (go_simp; done) | (go_simp; with_reducible rfl)
            simp only [Act.put, List.getElem_toArray, List.getElem_cons_zero, List.getElem_cons_succ, List.setIfInBounds_toArray, List.set_cons_zero, List.set_cons_succ]
            refine wpAnyH_take (i := 12) (v := ?_) rfl (by kernel_rfl) (by kernel_rfl) (by kernel_rfl) (fun _ _ _ h => h) (Or.inl ⟨by rfl, ?_⟩) (by assumption) ?_
            rotate_left
            · intro w' hSw; first | (go_simp; done) | (go_simp; with_reducible rfl)
            simp only [Act.put, List.getElem_toArray, List.getElem_cons_zero, List.getElem_cons_succ, List.setIfInBounds_toArray, List.set_cons_zero, List.set_cons_succ]
            refine wpAnyH_take (i := 13) (v := sv Y u v1 t) rfl (by kernel_rfl) (by kernel_rfl) (by kernel_rfl) (fun _ _ _ h => h) (yields_loadS rfl rfl rfl (fun w' hS => hS.2.2.2.2.1.out.at)) (by assumption) ?_
            simp only [Act.put, List.getElem_toArray, List.getElem_cons_zero, List.getElem_cons_succ, List.setIfInBounds_toArray, List.set_cons_zero, List.set_cons_succ]
            refine wpAnyH_take (i := 14) (v := ?_) rfl (by kernel_rfl) (by kernel_rfl) (by kernel_rfl) (fun _ _ _ h => h) (Or.inl ⟨by rfl, ?_⟩) (by assumption) ?_
            rotate_left
            · intro w' hSw; first | (go_simp; done) | (go_simp; with_reducible rfl)
            simp only [Act.put, List.getElem_toArray, List.getElem_cons_zero, List.getElem_cons_succ, List.setIfInBounds_toArray, List.set_cons_zero, List.set_cons_succ]
            refine wpAnyH_take (i := 15) (v := ?_) rfl (by kernel_rfl) (by kernel_rfl) (by kernel_rfl) (fun _ _ _ h => h) (Or.inl ⟨by rfl, ?_⟩) (by assumption) ?_
            rotate_left
            · intro w' hSw; first | (go_simp; done) | (go_simp; with_reducible rfl)
            simp only [Act.put, List.getElem_toArray, List.getElem_cons_zero, List.getElem_cons_succ, List.setIfInBounds_toArray, List.set_cons_zero, List.set_cons_succ]
            refine wpAnyH_take (i := 16) (v := sv S15 x15 y15 z15) rfl (by kernel_rfl) (by kernel_rfl) (by kernel_rfl) (fun _ _ _ h => h) (yields_loadS rfl rfl rfl (fun w' hS => hS.2.2.2.2.2.2.2.1.out.at)) (by assumption) ?_
            simp only [Act.put, List.getElem_toArray, List.getElem_cons_zero, List.getElem_cons_succ, List.setIfInBounds_toArray, List.set_cons_zero, List.set_cons_succ]
            refine wpAnyH_take (i := 17) (v := sv sc.s xi yi zi) rfl (by kernel_rfl) (by kernel_rfl) (by kernel_rfl) (fun _ _ _ h => h) (yields_loadS rfl rfl rfl (fun w' hS => hS.2.2.1.out.at)) (by assumption) ?_
            simp only [Act.put, List.getElem_toArray, List.getElem_cons_zero, List.getElem_cons_succ, List.setIfInBounds_toArray, List.set_cons_zero, List.set_cons_succ]
            refine wpAnyH_take (i := 18) (v := ?_) rfl (by kernel_rfl) (by kernel_rfl) (by kernel_rfl) (fun _ _ _ h => h) (Or.inl ⟨by rfl, ?_⟩) (by assumption) ?_
            rotate_left
            · intro w' hSw; first | (go_simp; done) | (go_simp; with_reducible rfl)
            simp only [Act.put, List.getElem_toArray, List.getElem_cons_zero, List.getElem_cons_succ, List.setIfInBounds_toArray, List.set_cons_zero, List.set_cons_succ]
            refine wpAnyH_take (i := 19) (v := ?_) rfl (by kernel_rfl) (by kernel_rfl) (by kernel_rfl) (fun _ _ _ h => h) (Or.inl ⟨by rfl, ?_⟩) (by assumption) ?_
            rotate_left
            · intro w' hSw; first | (go_simp; done) | (go_simp; with_reducible rfl)
            simp only [Act.put, List.getElem_toArray, List.getElem_cons_zero, List.getElem_cons_succ, List.setIfInBounds_toArray, List.set_cons_zero, List.set_cons_succ]
            refine wpAnyH_take (i := 20) (v := ?_) rfl (by kernel_rfl) (by kernel_rfl) (by kernel_rfl) (fun _ _ _ h => h) (Or.inl ⟨by rfl, ?_⟩) (by assumption) ?_
            rotate_left
            · intro w' hSw; first | (go_simp; done) | (go_simp; with_reducible rfl)
            simp only [Act.put, List.getElem_toArray, List.getElem_cons_zero, List.getElem_cons_succ, List.setIfInBounds_toArray, List.set_cons_zero, List.set_cons_succ]
            refine wpAnyH_take (i := 21) (v := ?_) rfl (by kernel_rfl) (by kernel_rfl) (by kernel_rfl) (fun _ _ _ h => h) (Or.inl ⟨by rfl, ?_⟩) (by assumption) ?_
            rotate_left
            · intro w' hSw; first | (go_simp; done) | (go_simp; with_reducible rfl)
            simp only [Act.put, List.getElem_toArray, List.getElem_cons_zero, List.getElem_cons_succ, List.setIfInBounds_toArray, List.set_cons_zero, List.set_cons_succ]
            refine wpAnyH_take (i := 22) (v := sv sc.s sc.x sc.y sc.z) rfl (by kernel_rfl) (by kernel_rfl) (by kernel_rfl) (fun _ _ _ h => h) (yields_loadS rfl rfl rfl (fun w' hS => HAT.out.kept hS.2.1.out)) (by assumption) ?_
            simp only [Act.put, List.getElem_toArray, List.getElem_cons_zero, List.getElem_cons_succ, List.setIfInBounds_toArray, List.set_cons_zero, List.set_cons_succ]
            refine wpAnyH_ready (rs := [23]) (by kernel_rfl) (by simp) ?_
            refine AllReadyH.cons rfl (fun K hK => ?_) AllReadyH.nil
            go_simp
            go_at_call 21
            refine (HSB.out wqA HA.out (by have := HN.out; have := HBD.out; omega)).mono ?_; rintro e wqB ⟨rfl, hb, hx, hf⟩
            have HB : Hid (Ms w (.slice (some ad) q c) n m k r ((b14 + 2, (Sc.mk S16 x16 y16 z16)) :: (b14 + 1, (Sc.mk S15 x15 y15 z15)) :: (b14, (Sc.mk S14 x14 y14 z14)) :: [(b10, (Sc.mk Z d1 d2 d3)), (b8, (Sc.mk Y u v1 t)), (b6, (Sc.mk X x y z)), (b5, (Sc.mk sc.s xi yi zi))]) [(b14 + 3, (Sc.mk S16 x16 y16 z16)), (B10, (Sc.mk Z d1 d2 d3)), (0, (Sc.mk sc.s xi yi zi))] wqB) := Lib.hid (HA.out.after (by have := HN.out; omega) hb hx hf (fun p hp => by
              have hn := HN.out
              simp only [List.mem_cons, List.not_mem_nil, or_false] at hp
              rcases hp with rfl | rfl | rfl
              · exact ⟨by simp, .inr (HI10.out.mono (by dsimp only; omega))⟩
              · exact ⟨by simp, .inr (HI10.out.mono (by dsimp only; omega))⟩
              · exact ⟨by simp, .inl (HI6.out.mono (by omega))⟩))
            have HBD := Lib.hid (Nat.le_trans HBD.out hb.size)
            clear hb hx hf
            have qB := HQ.out _ _ HB.out
            refine hK.out _ _ qB (fun hHeld => ?_)
            clear hK K
            refine wpAnyH_take (i := 24) (v := ?_) rfl (by kernel_rfl) (by kernel_rfl) (by kernel_rfl) (fun _ _ _ h => h) (Or.inl ⟨by rfl, ?_⟩) (by assumption) ?_
            rotate_left
            · intro w' hSw; first | (go_simp; done) | (go_simp; with_reducible rfl)
            simp only [Act.put, List.getElem_toArray, List.getElem_cons_zero, List.getElem_cons_succ, List.setIfInBounds_toArray, List.set_cons_zero, List.set_cons_succ]
            refine wpAnyH_take (i := 25) (v := ?_) rfl (by kernel_rfl) (by kernel_rfl) (by kernel_rfl) (fun _ _ _ h => h) (Or.inl ⟨by rfl, ?_⟩) (by assumption) ?_
            rotate_left
            · intro w' hSw; first | (go_simp; done) | (go_simp; with_reducible rfl)
            simp only [Act.put, List.getElem_toArray, List.getElem_cons_zero, List.getElem_cons_succ, List.setIfInBounds_toArray, List.set_cons_zero, List.set_cons_succ]
            refine wpAnyH_take (i := 26) (v := ?_) rfl (by kernel_rfl) (by kernel_rfl) (by kernel_rfl) (fun _ _ _ h => h) (Or.inl ⟨by rfl, ?_⟩) (by assumption) ?_
            rotate_left
            · intro w' hSw; first | (go_simp; done) | (go_simp; with_reducible rfl)
            simp only [Act.put, List.getElem_toArray, List.getElem_cons_zero, List.getElem_cons_succ, List.setIfInBounds_toArray, List.set_cons_zero, List.set_cons_succ]
            refine wpAnyH_take (i := 27) (v := sv Z d1 d2 d3) rfl (by kernel_rfl) (by kernel_rfl) (by kernel_rfl) (fun _ _ _ h => h) (yields_loadS rfl rfl rfl (fun w' hS => hS.2.2.2.2.2.1.out.at)) (by assumption) ?_
            simp only [Act.put, List.getElem_toArray, List.getElem_cons_zero, List.getElem_cons_succ, List.setIfInBounds_toArray, List.set_cons_zero, List.set_cons_succ]
            refine wpAnyH_take (i := 28) (v := ?_) rfl (by kernel_rfl) (by kernel_rfl) (by kernel_rfl) (fun _ _ _ h => h) (Or.inl ⟨by rfl, ?_⟩) (by assumption) ?_
            rotate_left
            · intro w' hSw; first | (go_simp; done) | (go_simp; with_reducible rfl)
            simp only [Act.put, List.getElem_toArray, List.getElem_cons_zero, List.getElem_cons_succ, List.setIfInBounds_toArray, List.set_cons_zero, List.set_cons_succ]
            refine wpAnyH_take (i := 29) (v := ?_) rfl (by kernel_rfl) (by kernel_rfl) (by kernel_rfl) (fun _ _ _ h => h) (Or.inl ⟨by rfl, ?_⟩) (by assumption) ?_
            rotate_left
            · intro w' hSw; first | (go_simp; done) | (go_simp; with_reducible rfl)
            simp only [Act.put, List.getElem_toArray, List.getElem_cons_zero, List.getElem_cons_succ, List.setIfInBounds_toArray, List.set_cons_zero, List.set_cons_succ]
            refine wpAnyH_take (i := 30) (v := sv S16 x16 y16 z16) rfl (by kernel_rfl) (by kernel_rfl) (by kernel_rfl) (fun _ _ _ h => h) (yields_loadS rfl rfl rfl (fun w' hS => hS.2.2.2.2.2.2.2.2.out.at)) (by assumption) ?_
            simp only [Act.put, List.getElem_toArray, List.getElem_cons_zero, List.getElem_cons_succ, List.setIfInBounds_toArray, List.set_cons_zero, List.set_cons_succ]
            refine wpAnyH_take (i := 31) (v := sv sc.s xi yi zi) rfl (by kernel_rfl) (by kernel_rfl) (by kernel_rfl) (fun _ _ _ h => h) (yields_loadS rfl rfl rfl (fun w' hS => hS.2.2.1.out.at)) (by assumption) ?_
            simp only [Act.put, List.getElem_toArray, List.getElem_cons_zero, List.getElem_cons_succ, List.setIfInBounds_toArray, List.set_cons_zero, List.set_cons_succ]
            refine wpAnyH_take (i := 32) (v := ?_) rfl (by kernel_rfl) (by kernel_rfl) (by kernel_rfl) (fun _ _ _ h => h) (Or.inl ⟨by rfl, ?_⟩) (by assumption) ?_
            rotate_left
            · intro w' hSw; first | (go_simp; done) | (go_simp; with_reducible rfl)
            simp only [Act.put, List.getElem_toArray, List.getElem_cons_zero, List.getElem_cons_succ, List.setIfInBounds_toArray, List.set_cons_zero, List.set_cons_succ]
            refine wpAnyH_take (i := 33) (v := ?_) rfl (by kernel_rfl) (by kernel_rfl) (by kernel_rfl) (fun _ _ _ h => h) (Or.inl ⟨by rfl, ?_⟩) (by assumption) ?_
            rotate_left
            · intro w' hSw; first | (go_simp; done) | (go_simp; with_reducible rfl)
            simp only [Act.put, List.getElem_toArray, List.getElem_cons_zero, List.getElem_cons_succ, List.setIfInBounds_toArray, List.set_cons_zero, List.set_cons_succ]
            refine wpAnyH_take (i := 34) (v := ?_) rfl (by kernel_rfl) (by kernel_rfl) (by kernel_rfl) (fun _ _ _ h => h) (Or.inl ⟨by rfl, ?_⟩) (by assumption) ?_
            rotate_left
            · intro w' hSw; first | (go_simp; done) | (go_simp; with_reducible rfl)
            simp only [Act.put, List.getElem_toArray, List.getElem_cons_zero, List.getElem_cons_succ, List.setIfInBounds_toArray, List.set_cons_zero, List.set_cons_succ]
            refine wpAnyH_take (i := 35) (v := ?_) rfl (by kernel_rfl) (by kernel_rfl) (by kernel_rfl) (fun _ _ _ h => h) (Or.inl ⟨by rfl, ?_⟩) (by assumption) ?_
            rotate_left
            · intro w' hSw; first | (go_simp; done) | (go_simp; with_reducible rfl)
            simp only [Act.put, List.getElem_toArray, List.getElem_cons_zero, List.getElem_cons_succ, List.setIfInBounds_toArray, List.set_cons_zero, List.set_cons_succ]
            refine wpAnyH_take (i := 36) (v := sv sc.s sc.x sc.y sc.z) rfl (by kernel_rfl) (by kernel_rfl) (by kernel_rfl) (fun _ _ _ h => h) (yields_loadS rfl rfl rfl (fun w' hS => HAT.out.kept hS.2.1.out)) (by assumption) ?_
            simp only [Act.put, List.getElem_toArray, List.getElem_cons_zero, List.getElem_cons_succ, List.setIfInBounds_toArray, List.set_cons_zero, List.set_cons_succ]
            refine wpAnyH_ready (rs := [37]) (by kernel_rfl) (by simp) ?_
            refine AllReadyH.cons rfl (fun K hK => ?_) AllReadyH.nil
            go_simp
            go_at_call 21
            refine (HSC.out wqB HB.out (by have := HN.out; have := HBD.out; omega)).mono ?_; rintro e wqC ⟨rfl, hb, hx, hf⟩
            have HC : Hid (Ms w (.slice (some ad) q c) n m k r ((b14 + 2, (Sc.mk S16 x16 y16 z16)) :: (b14 + 1, (Sc.mk S15 x15 y15 z15)) :: (b14, (Sc.mk S14 x14 y14 z14)) :: [(b10, (Sc.mk Z d1 d2 d3)), (b8, (Sc.mk Y u v1 t)), (b6, (Sc.mk X x y z)), (b5, (Sc.mk sc.s xi yi zi))]) [] wqC) := Lib.hid (HB.out.after (by have := HN.out; omega) hb hx hf (fun p hp => by cases hp))
            have HBD := Lib.hid (Nat.le_trans HBD.out hb.size)
            clear hb hx hf
            have qC := HQ.out _ _ HC.out
            refine hK.out _ _ qC (fun hHeld => ?_)
            clear hK K
            refine wpAnyH_take (i := 38) (v := ?_) rfl (by kernel_rfl) (by kernel_rfl) (by kernel_rfl) (fun _ _ _ h => h) (Or.inl ⟨by rfl, ?_⟩) (by assumption) ?_
            rotate_left
            · intro w' hSw; first | (go_simp; done) | (go_simp; with_reducible rfl)
            simp only [Act.put, List.getElem_toArray, List.getElem_cons_zero, List.getElem_cons_succ, List.setIfInBounds_toArray, List.set_cons_zero, List.set_cons_succ]
            refine wpAnyH_take (i := 39) (v := ?_) rfl (by kernel_rfl) (by kernel_rfl) (by kernel_rfl) (fun _ _ _ h => h) (Or.inl ⟨by rfl, ?_⟩) (by assumption) ?_
            rotate_left
            · intro w' hSw; first | (go_simp; done) | (go_simp; with_reducible rfl)
            simp only [Act.put, List.getElem_toArray, List.getElem_cons_zero, List.getElem_cons_succ, List.setIfInBounds_toArray, List.set_cons_zero, List.set_cons_succ]
            refine wpAnyH_done (by kernel_rfl) ?_ _
            go_wp2_with fail
            go_meet
            exact ⟨rfl, Lib.hid HC.out.run⟩
          case rest =>
            obtain ⟨rfl, HRn⟩ := hcut
            clear HM HBW HQ HSA HSB HSC HD HBD q0 HWN HA6 HA8 HA10 HI6 HI8 HI10 HI12
            go_wp2_with fail
            go_roundw
            case rel => exact ⟨i + 1, by omega, by omega, by go_num, HRn⟩
            case measure => simp [intOf]; omega
      · go_wp2_with fail
        refine (HWI.out wr).mono ?_; rintro e wz ⟨rfl, hwz⟩
        rw [hwz]
        clear hwz wz
        go_wp2_with fail
        refine (HWK.out wr HR.out.bel).mono ?_; rintro e w2 ⟨rfl, hb⟩
        go_wp2_with fail
        go_ret
        exact ⟨rfl, HR.out.bel.trans (hb.mono HR.out.bel.size)⟩
    · go_wp2_with fail
      refine (HWI.out wr).mono ?_; rintro e wz ⟨rfl, hwz⟩
      rw [hwz]
      clear hwz wz
      go_wp2_with fail
      refine (HWK.out wr HR.out.bel).mono ?_; rintro e w2 ⟨rfl, hb⟩
      go_wp2_with fail
      go_ret
      exact ⟨rfl, HR.out.bel.trans (hb.mono HR.out.bel.size)⟩
end Scr
end Go.Proofs.YtceaoadlhdgnmaaGreatDoor
end
section
/- Of any screens of bulk at most 1048576 the law 'ModeResets' answers true, and leaves them as they were: what soft and hard resets, and the pattern, make of each of the first four is the page's, or refused. Conditions: the library's two tables of package utf8 hold what its text lays (the card ties them to it). -/
namespace Go.Proofs.YtceaoadlhdgnmaaGreatDoor
set_option maxRecDepth 100000
open Go.ChangeShapes Go.WideShapes Go.ChangeAt Go.RowKit
namespace modeResets

theorem readable : Tryz.prog.readableRec 24 = true := by kernel_rfl
theorem inTable : 24 < Tryz.prog.types.size := of_decide_eq_true (by kernel_rfl)
theorem contract (H : Type) (enc : TypeId × Value → H) (W : World) (base : Nat) (args : Array Value) (ds gs : List (DataW H)) (before : List MemPlace)
    (hval : ∀ (j : Nat) t v, Tryz.f5.params[j]? = some t → args[j]? = some v → Value.okWide Tryz.prog W .any base t v)
    (hW : DataW.Whole enc Tryz.prog Tryz.f5.params.toList Rows.modeResetsSpec.vars false W args.toList ds gs before)
    (hsz : (DataW.weightsEach Tryz.prog (Tryz.f5.params.toList ++ (OpenSpec.ofChange Rows.modeResetsSpec).bare.plain.varTypes Tryz.prog) (ds ++ gs)).all (· ≤ reachBytes) = true) (hk : Rows.uptoSmall H (ds ++ gs) = true) (hL : laidMetH Tryz.prog Rows.modeResetsUptoRow.laid W) :
    Calls Tryz.prog 5 args W fun e W' => ∃ v, e = .returned v ∧ Rows.modeResetsSpec.post enc Tryz.prog Tryz.f5 false true false false W args v W' := by
  have hW' := hW
  obtain ⟨p, q, hA0, hV, rfl, hfz, hnd⟩ := hW
  have hA : DataW.TrodAll enc Tryz.prog W 0 (fun _ => true) true Tryz.f5.params.toList args.toList ds p := hA0
  rw [Tryz.params5] at hA hval hsz
  obtain ⟨v0, vs0, d0, ds0, p0, q0, hargs, rfl, rfl, h0, r0⟩ := trodAll_cons hA
  obtain ⟨rfl, rfl, rfl⟩ := trodAll_nil r0
  obtain rfl : args = #[v0] := by cases args; simp_all
  obtain ⟨rfl, rfl⟩ := trodVars_none hV
  simp only [List.append_nil] at hW' h0
  rw [List.append_nil] at hsz hk
  have hbk : Rows.uptoBulk d0 ≤ 1048576 := by
    have h : Rows.uptoBulkAll [d0] ≤ 1048576 := of_decide_eq_true hk
    simp only [Rows.uptoBulkAll] at h
    omega
  obtain ⟨cs, rfl, hF⟩ := RowF.arg_fine (bnd := 1048576) Tryz.underlying24 (hval 0 24 v0 rfl rfl) h0 hsz (.inl hbk)
  obtain ⟨v, n, m, k, r, rfl, _, l, hS, hl⟩ := Scr.open_ask8 hF
  refine (Scr.lawModeResets_any v l n m k r W hS hl (Row.tabs_of_laid hL)).mono fun e W' ⟨he, hB⟩ => ?_
  subst he
  exact ⟨_, rfl, law_post Tryz.laidOut readable inTable Tryz.params5 (by kernel_rfl) Tryz.underlying4 rfl ⟨rfl, rfl, rfl⟩ hW' h0 hB⟩

theorem reads (os : Os) {H : Type} (enc : TypeId × Value → H) : ∃ places, DataW.whole enc Tryz.prog ((Row.laidWorld os).forCall (fun _ _ => 0) ⟨#[], #[.agg #[.slice none 0 0, .int .i64 0, .int .i64 0, .int .i64 0, .int .i64 0]], []⟩).memory Tryz.f5.params.toList Rows.modeResetsSpec.vars false #[(.agg #[.slice none 0 0, .int .i64 0, .int .i64 0, .int .i64 0, .int .i64 0] : Value)].toList 8 = some ([.agg [.nil, .lit (.int .i64 0), .lit (.int .i64 0), .lit (.int .i64 0), .lit (.int .i64 0)]], [], places) :=
  ⟨[], by kernel_rfl⟩
set_option maxRecDepth 100000 in
theorem lifted (os : Os) (started : os.Started) (H : Type) (enc : TypeId × Value → H) (F : Stop.Interp) :
    ReturnsInHanded {} Tryz.checked os 5 .any ((Rows.OpenSpec.upto Rows.modeResetsSpec).preRow enc Tryz.prog Tryz.f5 Rows.modeResetsUptoRow.domain false Rows.modeResetsUptoRow.laid) (((Rows.OpenSpec.upto Rows.modeResetsSpec).at F).post enc Tryz.prog Tryz.f5 false true false false) := by
  obtain ⟨places, hx⟩ := reads os enc
  refine returnsInHanded_of_row (C := Tryz.checked) (s := Rows.OpenSpec.upto Rows.modeResetsSpec) Tryz.own started (by kernel_rfl) Tryz.func5
    (witness_row_at (enc := enc) (C := Tryz.checked) false (Row.laidWorld os) #[.agg #[.slice none 0 0, .int .i64 0, .int .i64 0, .int .i64 0, .int .i64 0]] rfl (by kernel_rfl) (by kernel_rfl) (by kernel_rfl)
      (OpenSpec.preRow_of_cond 8 hx (by kernel_rfl) (fun k hk => by cases hk; kernel_rfl) (by kernel_rfl) (Row.laid_met os _))) ?_
  intro W base args ds gs before hval hW _ hcond hsz hL _ _
  exact contract H enc W base args ds gs before hval hW hsz (hcond _ rfl) hL
theorem said : Rows.ModeResetsUptoSaid :=
  OpenClaim.holds_of_cond 5 Tryz.f5 rfl rfl rfl rfl rfl rfl rfl ⟨rfl, rfl, rfl, rfl, rfl⟩ rfl rfl rfl rfl rfl (by kernel_rfl) Tryz.func5 (by kernel_rfl)
    (of_decide_eq_true (by kernel_rfl)) (by unfold Func.isWrapper; first | (rw [if_pos (by decide +kernel)]; kernel_rfl) | (rw [if_neg (by decide +kernel)]; exact ⟨rfl, rfl⟩))
    (fun os started H enc _ F => by rw [OpenClaim.pre_eq_preRow]; exact lifted os started H enc F)
/-- No parameter wants a stand-in; the program's own looks are as the card says. -/
theorem plain (f : FuncId) (fn : Func) (hf : Tryz.pinned.checked.prog.funcNamed "beacon/beaconlaw12.ModeResets" = some f) (hfn : Tryz.pinned.checked.prog.funcs[f]? = some fn) :
    true = Tryz.pinned.checked.prog.looks [] ∧ ∀ (j : Nat) t, fn.params[j]? = some t → Tryz.pinned.checked.prog.wantsStandIn t = false := by
  obtain rfl : f = 5 := Option.some.inj ((show Tryz.prog.funcNamed "beacon/beaconlaw12.ModeResets" = some 5 by kernel_rfl).symm.trans hf) |>.symm
  obtain rfl : fn = Tryz.f5 := (Option.some.inj (Tryz.func5.symm.trans hfn)).symm
  refine ⟨by kernel_rfl, fun j t ht => ?_⟩
  rw [Tryz.params5] at ht
  obtain rfl : t = 24 := by simpa using Array.mem_of_getElem? ht
  exact (show Tryz.prog.wantsStandIn 24 = false by kernel_rfl)
/-- The card. -/
theorem card : Rows.ModeResetsUptoCardSaid :=
  Claim7.holds_tied_plain_at .later [] _ _ _ _ said (fun _ h => by cases h) (by kernel_rfl) (fun _ h => by cases h) modeResetsUpto_row_tie rfl ⟨rfl, rfl⟩ (by kernel_rfl) rfl plain (by kernel_rfl)
end modeResets
end Go.Proofs.YtceaoadlhdgnmaaGreatDoor
end
