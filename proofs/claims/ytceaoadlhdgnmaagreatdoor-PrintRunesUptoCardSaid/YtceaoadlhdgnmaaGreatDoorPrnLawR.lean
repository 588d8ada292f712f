/- The law PrintRunes, of each screen: walked. -/
import Derived.Test.YtceaoadlhdgnmaaGreatDoorMRestS
import Derived.Test.YtceaoadlhdgnmaaGreatDoorPrnRefM
import Derived.Test.YtceaoadlhdgnmaaGreatDoorPrnRefV
import Derived.Test.YtceaoadlhdgnmaaGreatDoorPrnRuneD
import Derived.Test.YtceaoadlhdgnmaaGreatDoorM405
import Derived.Test.YtceaoadlhdgnmaaGreatDoorM30
import Derived.Test.YtceaoadlhdgnmaaGreatDoorM118
import Derived.Test.YtceaoadlhdgnmaaGreatDoorMdMany
import Derived.Deep.RegionLaw
import Derived.Deep.RegionHeld3
import Derived.Deep.CutRange
import Derived.Deep.DeepCutAuto
import Derived.BigQuiet
namespace Go.Proofs.YtceaoadlhdgnmaaGreatDoor
set_option maxRecDepth 100000
open Go.RowKit
namespace Scr
open Go.Proofs.YtceaoadlhdgnmaaGreatDoor.Row Wid

/-- The page's Print, of whatever rune has a width. -/
theorem refPrint_any (s : S) (x y z : Value) (r : Int) (w : World) (h : In w s x y z) (hok : Ok s) (hr : 0 ≤ wid r) :
    Calls Tryz.prog 35 #[sv s x y z, .int .i64 r] w fun e w' => ∃ x' y' z', e = .returned (sv (printS s r) x' y' z') ∧ Own w' w.heap.size (printS s r) x' y' z' ∧ Below w.heap.size w w' := by
  unfold printS
  rcases wid_cases r with e | e | e | e
  · omega
  · rw [if_pos e]
    exact refPrint_mark s x y z r w h hok e
  · rw [if_neg (by omega), e]
    exact refPrint_narrow s x y z r w h hok e
  · rw [if_neg (by omega), e]
    exact refPrint_wide s x y z r w h hok e
set_option maxHeartbeats 12000000 in
theorem lawPrintRunes_any (v : Value) (l : List Sc) (n m k r : Int) (w : World) (h : Scrs 1048576 w v l) (hl : l.length ≤ 140737488355328) (hT : Tabs w) :
    Calls Tryz.prog 12 #[.agg #[v, .int .i64 n, .int .i64 m, .int .i64 k, .int .i64 r]] w fun e w' => e = .returned (.bool true) ∧ Below w.heap.size w w' := by
  have HT := Lib.hid hT
  obtain ⟨⟨A, c, rfl, hc, hf⟩, h2⟩ := id h
  have HF := Lib.hid hf
  have H2 := Lib.hid h2
  have H0 := Lib.hid (Run.start w (.slice A l.length c) n m k r)
  have HH := Lib.hid (heavy8 (.slice A l.length c) l n m k r _ (h.kept H0.out.bel) hl (by decide))
  have HWK := Lib.hid (fun W (hW : Below w.heap.size w W) => wakes9 W (hT.kept hW))
  obtain ⟨q, hq⟩ : ∃ q, l.length = q := ⟨_, rfl⟩
  rw [hq] at HF H2 H0 HH ⊢
  clear h hT h2 hf hl hc hq
  go_enter Tryz.func12, Tryz.ntmps12
  go_wp2_with fail
  refine HH.out.mono ?_; rintro e w1 ⟨b, rfl, hw, hb⟩
  have H1 := Lib.hid (H0.out.kept hb)
  have HW := Lib.hid hw
  clear hw hb HH H0
  cases b
  case true =>
    go_wp2_with fail
    go_ret
    exact ⟨rfl, H1.out.bel⟩
  go_wp2_with fail
  go_loopw [3] (fun j wr => ∃ i : Nat, i ≤ q ∧ i ≤ 4 ∧ j = .int .i64 i ∧ Hid (Run w wr (.slice A q c) n m k r)) (fun j _ => q - (intOf j).toNat)
  case atStart => exact ⟨0, by omega, by omega, rfl, H1⟩
  case round =>
    clear H1
    obtain ⟨i, hi, hi4, rfl, HR⟩ := hrel
    have b0 : wr.cell? ⟨w.heap.size, 0, none⟩ = some (.slice A q c) := Blk.cell HR.out.box 0
    by_cases hiq : i < q
    · by_cases h4 : i < 4
      · obtain ⟨ad, rfl, hat⟩ := HF.out i hiq
        have hI := H2.out i hiq
        have hFt := fit8 hI.2 (HW.out trivial i hiq)
        generalize l.getD i noSc = sc at hat hI hFt
        have HAT := Lib.hid (show At w (ad.add (i * 43)) (sarr sc.s sc.x sc.y sc.z).toList from hat)
        have HIN : Hid (∀ W, Below w.heap.size w W → sc.in_ W) := Lib.hid fun W hb => hI.1.kept hb
        have HFT := Lib.hid hFt
        clear hat hI hFt
        have h4i : (i : Int) < 4 := by omega
        have h4d : decide ((i : Int) < 4) = true := decide_eq_true h4i
        have b4 : wr.cell? ⟨w.heap.size, 4, none⟩ = some (.int .i64 r) := Blk.cell HR.out.box 4
        go_upto_region 7 with (fail)
        change Code.wp _ _ _ _ (wr.alloc (.cells #[.int .i64 r, .int .i64 97, .int .i64 113, .int .i64 19968, .int .i64 769, .int .i64 128512, .int .i64 126, .int .i64 7, .int .i64 65533] 3))
        have HZ1 : Hid (Many 9 (wr.alloc (.cells #[.int .i64 r, .int .i64 97, .int .i64 113, .int .i64 19968, .int .i64 769, .int .i64 128512, .int .i64 126, .int .i64 7, .int .i64 65533] 3)) wr.heap.size) := Lib.hid (Many.made wr [r, 97, 113, 19968, 769, 128512, 126, 7, 65533] 3)
        have HR1 := Lib.hid (HR.out.kept (bel_alloc wr (.cells #[.int .i64 r, .int .i64 97, .int .i64 113, .int .i64 19968, .int .i64 769, .int .i64 128512, .int .i64 126, .int .i64 7, .int .i64 65533] 3)))
        clear b0 b4 HR
        generalize wr.alloc (.cells #[.int .i64 r, .int .i64 97, .int .i64 113, .int .i64 19968, .int .i64 769, .int .i64 128512, .int .i64 126, .int .i64 7, .int .i64 65533] 3) = wa at HZ1 HR1 ⊢
        generalize wr.heap.size = bn at HZ1 ⊢
        go_wp2_with fail
        go_loopw [5] (fun j wr => ∃ u : Nat, u ≤ 9 ∧ j = .int .i64 u ∧ Hid (Run w wr (.slice (some ad) q c) n m k r) ∧ Hid (Many 9 wr bn)) (fun j _ => 9 - (intOf j).toNat)
        case atStart => exact ⟨0, by omega, rfl, HR1, HZ1⟩
        case round =>
          clear HR1 HZ1
          obtain ⟨u, hu, rfl, HR, HZ⟩ := hrel
          by_cases huk : u < 9
          · have hui : (u : Int) < 9 := by omega
            have hud : decide ((u : Int) < 9) = true := decide_eq_true hui
            have HRm := HR
            have HZm := HZ
            clear HR HZ
            rename World => wm
            obtain ⟨nn, hnn⟩ := HZm.out u huk
            have HNC : Hid (∀ W, Below wm.heap.size wm W → W.cell? ⟨bn, u, none⟩ = some (.int .i64 nn)) := Lib.hid fun W hb => cell_kept hb hnn
            clear hnn
            have HBW : Hid (∀ W, Below wm.heap.size wm W → Below w.heap.size w W) := Lib.hid fun W hb => HRm.out.bel.trans (hb.mono HRm.out.bel.size)
            obtain ⟨may, hmay⟩ : ∃ q, (okB sc.s && decide (0 ≤ wid nn)) = q := ⟨_, rfl⟩
            have HMQ := Lib.hid hmay
            have b0 : wm.cell? ⟨w.heap.size, 0, none⟩ = some (.slice (some ad) q c) := Blk.cell HRm.out.box 0
            go_wp2_with (refine wp_loadArg rfl rfl rfl (HAT.out.kept HRm.out.bel) ?_)
            refine (copyScreen_any sc.s sc.x sc.y sc.z wm (HIN.out _ HRm.out.bel) ⟨HFT.out.l.m, HFT.out.l.o, HFT.out.l.t⟩).mono ?_; rintro e w3 ⟨xi, yi, zi, rfl, ho, hb⟩
            have HO3 := Lib.hid ho
            have HI3 := Lib.hid ho.in_
            have HB3 := Lib.hid hb
            clear ho hb b0
            go_upto_region 11 with (first
              | (refine wp_allocS (n := w3.heap.size) rfl rfl rfl ?_)
              | (refine wp_storeS (b := w3.heap.size) rfl rfl rfl rfl rfl HI3.out.one (heap_alloc_new _ _) rfl ?_; intro w4 h4; have HS4 := Lib.hid h4.drew; clear h4))
            go_simp
            change Code.wp _ _ _ _ w4
            go_cut [7, 8] from 39 to 47 (fun s11 s12 wx => ∃ X x y z code b11 B, s11 = .pointer (some ⟨b11, 0, none⟩) ∧ s12 = .int .i64 code ∧ Hid (Mu wm w3.heap.size b11 B sc.s xi yi zi X x y z wx) ∧ Hid (code = codeB may ∧ (may = true → X = printS sc.s nn) ∧ (may = false → X = noS ∧ x = nilS ∧ y = nilS ∧ z = nilS)))
            case first =>
              obtain ⟨hx4, hb4⟩ := bx_sto (e := ⟨sc.s, xi, yi, zi⟩) HI3.out HS4.out
              have HX4 := Lib.hid hx4
              have HB4 : Hid (Below wm.heap.size wm w4.drew) := Lib.hid (HB3.out.trans (hb4.mono HB3.out.size))
              have HMV := Lib.hid (fun W (hI : In W sc.s xi yi zi) (hT : Tabs W) => runeD sc.s xi yi zi nn W hI HFT.out.h hT)
              rw [hmay] at HMV
              clear hx4 hb4
              have HQ : Hid (∀ W, Below w4.drew.heap.size w4.drew W → W.cell? ⟨bn, u, none⟩ = some (.int .i64 nn) ∧ Hid (SBox W w3.heap.size sc.s xi yi zi)) := Lib.hid fun W hb =>
                ⟨HNC.out W (HB4.out.trans (hb.mono HB4.out.size)), Lib.hid (HX4.out.box.kept hb)⟩
              have q4 := HQ.out _ (Below.refl _ _)
              refine wp_region_held_drew (S := fun w' => w'.cell? ⟨bn, u, none⟩ = some (.int .i64 nn) ∧ Hid (SBox w' w3.heap.size sc.s xi yi zi)) (by kernel_rfl) q4 (fun hHeld => ?_)
              generalize w4.drew = wd at HS4 HX4 HB4 HQ q4 ⊢
              refine wpAnyH_take (i := 0) (v := sv sc.s xi yi zi) rfl (by kernel_rfl) (by kernel_rfl) (by kernel_rfl) (fun _ _ _ h => h) (yields_loadS rfl rfl rfl (fun w' hS => hS.2.out.at)) (by assumption) ?_
              simp only [Act.put, List.getElem_toArray, List.getElem_cons_zero, List.setIfInBounds_toArray, List.set_cons_zero, List.set_cons_succ]
              refine wpAnyH_take (i := 1) (v := ?_) rfl (by kernel_rfl) (by kernel_rfl) (by kernel_rfl) (fun _ _ _ h => h) (Or.inl ⟨by rfl, ?_⟩) (by assumption) ?_
              rotate_left
              · intro w' hSw; first | (go_simp; done) | (go_simp; with_reducible rfl)
              simp only [Act.put, List.getElem_toArray, List.getElem_cons_zero, List.getElem_cons_succ, List.setIfInBounds_toArray, List.set_cons_zero, List.set_cons_succ]
              refine wpAnyH_take (i := 2) (v := ?_) rfl (by kernel_rfl) (by kernel_rfl) (by kernel_rfl) (fun _ _ _ h => h) (Or.inl ⟨by rfl, ?_⟩) (by assumption) ?_
              rotate_left
              · intro w' hSw; first | (go_simp; done) | (go_simp; with_reducible rfl)
              simp only [Act.put, List.getElem_toArray, List.getElem_cons_zero, List.getElem_cons_succ, List.setIfInBounds_toArray, List.set_cons_zero, List.set_cons_succ]
              refine wpAnyH_take (i := 3) (v := ?_) rfl (by kernel_rfl) (by kernel_rfl) (by kernel_rfl) (fun _ _ _ h => h) (Or.inl ⟨by rfl, ?_⟩) (by assumption) ?_
              rotate_left
              · intro w' hSw; first | (go_simp; done) | (go_simp; with_reducible rfl)
              simp only [Act.put, List.getElem_toArray, List.getElem_cons_zero, List.getElem_cons_succ, List.setIfInBounds_toArray, List.set_cons_zero, List.set_cons_succ]
              refine wpAnyH_take (i := 4) (v := ?_) rfl (by kernel_rfl) (by kernel_rfl) (by kernel_rfl) (fun _ _ _ h => h) (Or.inl ⟨by rfl, ?_⟩) (by assumption) ?_
              rotate_left
              · intro w' hSw; first | (go_simp; done) | (go_simp; with_reducible rfl)
              simp only [Act.put, List.getElem_toArray, List.getElem_cons_zero, List.getElem_cons_succ, List.setIfInBounds_toArray, List.set_cons_zero, List.set_cons_succ]
              refine wpAnyH_ready (rs := [5, 9]) (by kernel_rfl) (by simp) ?_
              refine AllReadyH.cons rfl (fun K hK => ?_) ?_
              · go_simp
                go_at_call 33
                refine (HMV.out wd HX4.out.i (HT.out.kept (HBW.out _ HB4.out))).mono ?_; rintro e w5 ⟨X, x, y, z, code, rfl, hans⟩
                have HA := Lib.hid hans
                have q5 := HQ.out w5 hans.bel
                have q6 := HQ.out (w5.alloc (.cells zarr 36)) (hans.bel.trans ((bel_alloc w5 _).mono hans.bel.size))
                clear hans
                refine hK.out _ _ q5 (fun hHeld => ?_)
                clear hK K
                refine wpAnyH_take (i := 6) (v := ?_) rfl (by kernel_rfl) (by kernel_rfl) (by kernel_rfl) (fun _ _ _ h => h) (Or.inl ⟨by rfl, ?_⟩) (by assumption) ?_
                rotate_left
                · intro w' hSw; first | (go_simp; done) | (go_simp; with_reducible rfl)
                simp only [Act.put, List.getElem_toArray, List.getElem_cons_zero, List.getElem_cons_succ, List.setIfInBounds_toArray, List.set_cons_zero, List.set_cons_succ]
                refine wpAnyH_take (i := 7) (v := ?_) rfl (by kernel_rfl) (by kernel_rfl) (by kernel_rfl) (fun _ _ _ h => h) (Or.inl ⟨by rfl, ?_⟩) (by assumption) ?_
                rotate_left
                · intro w' hSw; first | (go_simp; done) | (go_simp; with_reducible rfl)
                simp only [Act.put, List.getElem_toArray, List.getElem_cons_zero, List.getElem_cons_succ, List.setIfInBounds_toArray, List.set_cons_zero, List.set_cons_succ]
                refine wpAnyH_take (i := 8) (v := ?_) rfl (by kernel_rfl) (by kernel_rfl) (by kernel_rfl) (fun _ _ _ h => h) (Or.inl ⟨by rfl, ?_⟩) (by assumption) ?_
                rotate_left
                · intro w' hSw; first | (go_simp; done) | (go_simp; with_reducible rfl)
                simp only [Act.put, List.getElem_toArray, List.getElem_cons_zero, List.getElem_cons_succ, List.setIfInBounds_toArray, List.set_cons_zero, List.set_cons_succ]
                refine wpAnyH_ready (rs := [9]) (by kernel_rfl) (by simp) ?_
                refine AllReadyH.cons rfl (fun K hK => ?_) ?_
                · refine step_allocS (n := w5.heap.size) rfl rfl rfl ?_
                  refine hK.out _ _ q6 (fun hHeld => ?_)
                  clear hK K
                  refine wpAnyH_ready (rs := [10]) (by kernel_rfl) (by simp) ?_
                  refine AllReadyH.cons rfl (fun K hK => ?_) ?_
                  · refine step_storeS (b := w5.heap.size) (A := sarr X x y z) rfl rfl rfl rfl rfl HA.out.own.in_.one (heap_alloc_new _ _) rfl ?_; intro w6 h6
                    have HMU := Lib.hid (Mu.start HB3.out HO3.out HS4.out HA.out.bel HA.out.own h6)
                    have q7 := HQ.out w6 (HA.out.bel.trans ((h6.below _ _ (Nat.le_refl _) (bel_alloc w5 _)).mono HA.out.bel.size))
                    refine hK.out _ _ q7 (fun hHeld => ?_)
                    clear hK K
                    refine wpAnyH_take (i := 11) (v := ?_) rfl (by kernel_rfl) (by kernel_rfl) (by kernel_rfl) (fun _ _ _ h => h) (Or.inl ⟨by rfl, ?_⟩) (by assumption) ?_
                    rotate_left
                    · intro w' hSw; first | (go_simp; done) | (go_simp; with_reducible rfl)
                    simp only [Act.put, List.getElem_toArray, List.getElem_cons_zero, List.getElem_cons_succ, List.setIfInBounds_toArray, List.set_cons_zero, List.set_cons_succ]
                    refine wpAnyH_done (by kernel_rfl) ?_ _
                    go_wp2_with fail
                    go_meet
                    exact ⟨_, _, _, _, _, _, _, rfl, rfl, HMU, Lib.hid ⟨HA.out.code, HA.out.yes, HA.out.no⟩⟩
                  exact AllReadyH.nil
                exact AllReadyH.nil
              refine AllReadyH.cons rfl (fun K hK => ?_) ?_
              · refine step_allocS (n := wd.heap.size) rfl rfl rfl ?_
                have HX5 : Hid (Bx (wd.alloc (.cells zarr 36)) w3.heap.size ⟨sc.s, xi, yi, zi⟩) := Lib.hid (HX4.out.kept (bel_alloc wd _))
                have HB5 : Hid (Below wd.heap.size wd (wd.alloc (.cells zarr 36))) := Lib.hid (bel_alloc wd _)
                have q5 := HQ.out _ HB5.out
                refine hK.out _ _ q5 (fun hHeld => ?_)
                clear hK K
                refine wpAnyH_ready (rs := [5]) (by kernel_rfl) (by simp) ?_
                refine AllReadyH.cons rfl (fun K hK => ?_) ?_
                · go_simp
                  go_at_call 33
                  refine (HMV.out (wd.alloc (.cells zarr 36)) HX5.out.i (HT.out.kept (HBW.out _ (HB4.out.trans (HB5.out.mono HB4.out.size))))).mono ?_; rintro e w5 ⟨X, x, y, z, code, rfl, hans⟩
                  have HA := Lib.hid hans
                  have HX6 : Hid (w5.heap[wd.heap.size]? = some (.cells zarr 36 (0, 0))) := Lib.hid (Blk.kept (heap_alloc_new wd _) hans.bel)
                  have HB6 : Hid (Below wd.heap.size wd w5) := Lib.hid (HB5.out.trans (hans.bel.mono HB5.out.size))
                  have q6 := HQ.out w5 HB6.out
                  clear hans
                  refine hK.out _ _ q6 (fun hHeld => ?_)
                  clear hK K
                  refine wpAnyH_take (i := 6) (v := ?_) rfl (by kernel_rfl) (by kernel_rfl) (by kernel_rfl) (fun _ _ _ h => h) (Or.inl ⟨by rfl, ?_⟩) (by assumption) ?_
                  rotate_left
                  · intro w' hSw; first | (go_simp; done) | (go_simp; with_reducible rfl)
                  simp only [Act.put, List.getElem_toArray, List.getElem_cons_zero, List.getElem_cons_succ, List.setIfInBounds_toArray, List.set_cons_zero, List.set_cons_succ]
                  refine wpAnyH_take (i := 7) (v := ?_) rfl (by kernel_rfl) (by kernel_rfl) (by kernel_rfl) (fun _ _ _ h => h) (Or.inl ⟨by rfl, ?_⟩) (by assumption) ?_
                  rotate_left
                  · intro w' hSw; first | (go_simp; done) | (go_simp; with_reducible rfl)
                  simp only [Act.put, List.getElem_toArray, List.getElem_cons_zero, List.getElem_cons_succ, List.setIfInBounds_toArray, List.set_cons_zero, List.set_cons_succ]
                  refine wpAnyH_take (i := 8) (v := ?_) rfl (by kernel_rfl) (by kernel_rfl) (by kernel_rfl) (fun _ _ _ h => h) (Or.inl ⟨by rfl, ?_⟩) (by assumption) ?_
                  rotate_left
                  · intro w' hSw; first | (go_simp; done) | (go_simp; with_reducible rfl)
                  simp only [Act.put, List.getElem_toArray, List.getElem_cons_zero, List.getElem_cons_succ, List.setIfInBounds_toArray, List.set_cons_zero, List.set_cons_succ]
                  refine wpAnyH_ready (rs := [10]) (by kernel_rfl) (by simp) ?_
                  refine AllReadyH.cons rfl (fun K hK => ?_) ?_
                  · refine step_storeS (b := wd.heap.size) (A := sarr X x y z) rfl rfl rfl rfl rfl HA.out.own.in_.one HX6.out rfl ?_; intro w6 h6
                    have HMU := Lib.hid (Mu.start2 HB3.out HO3.out HS4.out HA.out.bel HA.out.own h6)
                    have q7 := HQ.out w6 (h6.below _ _ (Nat.le_refl _) HB6.out)
                    refine hK.out _ _ q7 (fun hHeld => ?_)
                    clear hK K
                    refine wpAnyH_take (i := 11) (v := ?_) rfl (by kernel_rfl) (by kernel_rfl) (by kernel_rfl) (fun _ _ _ h => h) (Or.inl ⟨by rfl, ?_⟩) (by assumption) ?_
                    rotate_left
                    · intro w' hSw; first | (go_simp; done) | (go_simp; with_reducible rfl)
                    simp only [Act.put, List.getElem_toArray, List.getElem_cons_zero, List.getElem_cons_succ, List.setIfInBounds_toArray, List.set_cons_zero, List.set_cons_succ]
                    refine wpAnyH_done (by kernel_rfl) ?_ _
                    go_wp2_with fail
                    go_meet
                    exact ⟨_, _, _, _, _, _, _, rfl, rfl, HMU, Lib.hid ⟨HA.out.code, HA.out.yes, HA.out.no⟩⟩
                  exact AllReadyH.nil
                exact AllReadyH.nil
              exact AllReadyH.nil
            case rest =>
              obtain ⟨X, x, y, z, code, b11, B, rfl, rfl, HM, HX⟩ := hcut
              rename World => wx
              clear HO3 HI3 HB3 HS4
              generalize w3.heap.size = b10 at HM ⊢
              have HRx : Hid (∀ W, Below wm.heap.size wm W → Run w W (.slice (some ad) q c) n m k r) := Lib.hid fun W hb => HRm.out.kept hb
              go_upto_region 12 with (fail)
              go_cut [9] from 48 to 61 (fun s13 wy => s13 = .bool may ∧ Hid (Mu wm b10 b11 B sc.s xi yi zi X x y z wy))
              case first =>
                have HBX := Lib.hid (HBW.out _ HM.out.bel)
                have b0 : wx.cell? ⟨w.heap.size, 0, none⟩ = some (.slice (some ad) q c) := Blk.cell (HRx.out _ HM.out.bel).box 0
                go_wp2_with (refine wp_loadArg rfl rfl rfl (HAT.out.kept HBX.out) ?_)
                refine (refScreen_any sc.s sc.x sc.y sc.z wx (HIN.out _ HBX.out) HFT.out.sh (HT.out.kept HBX.out)).mono ?_; rintro e w7 ⟨rfl, hb⟩
                have HM7 := Lib.hid (HM.out.kept hb)
                clear hb HM b0 HBX
                cases hok : okB sc.s
                · have HF0 : Hid (may = false) := Lib.hid (by rw [← HMQ.out, hok]; rfl)
                  go_wp2_with fail
                  go_meet
                  exact ⟨by rw [HF0.out], HM7⟩
                · have k7 := HNC.out _ HM7.out.bel
                  have HF0 : Hid (may = decide (0 ≤ wid nn)) := Lib.hid (by rw [← HMQ.out, hok]; rfl)
                  have HWD := Lib.hid (fun W => width_any nn W)
                  generalize wid nn = wn at HF0 HWD
                  go_wp2_with fail
                  refine (HWD.out w7).mono ?_; rintro e w8 ⟨rfl, hb⟩
                  have HM8 := Lib.hid (HM7.out.kept hb)
                  clear hb HM7 k7
                  go_wp2_with fail
                  go_meet
                  exact ⟨by rw [HF0.out], HM8⟩
              case rest =>
                obtain ⟨rfl, HM7⟩ := hcut
                rename World => w7
                clear HM
                go_upto_region 14 with (first
                  | (refine wp_allocS (n := w7.heap.size) rfl rfl rfl ?_)
                  | (refine wp_storeS_then (b := w7.heap.size) (A := zarr) (T := Mv wm b10 b11 w7.heap.size B sc.s xi yi zi X x y z noS nilS nilS nilS) rfl rfl rfl rfl rfl (sarr_one rfl rfl rfl) (heap_alloc_new _ _) rfl (fun _ k => HM7.out.more k) ?_; intro w8 H8))
                go_simp
                change Code.wp _ _ _ _ w8
                generalize w7.heap.size = b14 at H8 ⊢
                clear HM7
                go_upto_if 63 with (fail)
                go_cut [63] from 63 to 73 (fun _ wy => ∃ Wn x' y' z', Hid (Mv wm b10 b11 b14 B sc.s xi yi zi X x y z Wn x' y' z' wy) ∧ Hid (may = true → Wn = printS sc.s nn))
                case first =>
                  cases may
                  · go_wp2_with fail
                    go_meet
                    exact ⟨_, _, _, _, H8, Lib.hid (fun h => by cases h)⟩
                  · have HMM : Hid (okB sc.s = true ∧ 0 ≤ wid nn) := Lib.hid (by have t := HMQ.out; rw [Bool.and_eq_true] at t; exact ⟨t.1, of_decide_eq_true t.2⟩)
                    have HB8 := Lib.hid (HBW.out _ H8.out.bel)
                    have b0 : w8.cell? ⟨w.heap.size, 0, none⟩ = some (.slice (some ad) q c) := Blk.cell (HRx.out _ H8.out.bel).box 0
                    have n8 := HNC.out _ H8.out.bel
                    go_upto_region 15 with (fail)
                    refine wp_region_still_tail 9 (by kernel_rfl) (by kernel_rfl) ?_
                    simp only [List.take_succ_cons, List.take_zero, List.drop_succ_cons, List.drop_zero]
                    still_step
                    still_step
                    still_step
                    still_step
                    refine still_loadS (s := sc.s) (x0 := sc.x) (y0 := sc.y) (z0 := sc.z) rfl rfl rfl (HAT.out.kept HB8.out.drew) ?_
                    repeat still_step
                    refine wpStill_nil ?_
                    change wpList _ _ _ _ _ w8.drew
                    have H8 := Lib.hid (H8.out.kept (Below.refl _ _).drew)
                    have HB8 := Lib.hid (HBW.out _ H8.out.bel)
                    clear b0 n8
                    go_wp2_with fail
                    refine (refPrint_any sc.s sc.x sc.y sc.z nn _ (HIN.out _ HB8.out) ((ok_iff _).1 HMM.out.1) HMM.out.2).mono ?_; rintro e w9 ⟨xr, yr, zr, rfl, ho, hb⟩
                    have HM9 := Lib.hid (H8.out.kept hb)
                    have HO9 := Lib.hid ho
                    clear ho hb H8
                    go_wp2_with (refine wp_storeS_then (b := b14) (A := sarr (printS sc.s nn) xr yr zr) (T := Mv wm b10 b11 b14 B sc.s xi yi zi X x y z (printS sc.s nn) xr yr zr) rfl rfl rfl rfl rfl HO9.out.in_.one HM9.out.x14 rfl (fun _ k => HM9.out.put HO9.out k) ?_; intro w10 H10)
                    go_meet
                    exact ⟨_, _, _, _, H10, Lib.hid (fun _ => rfl)⟩
                case rest =>
                  obtain ⟨Wn, x', y', z', HM, HWN⟩ := hcut
                  rename World => w9
                  clear H8
                  have HSM : Hid (∀ W, Mv wm b10 b11 b14 B sc.s xi yi zi X x y z Wn x' y' z' W → Calls Tryz.prog 21 #[sv X x y z, .int .i64 code, .bool may, sv Wn x' y' z', sv sc.s xi yi zi, sv sc.s sc.x sc.y sc.z] W fun e w' => e = .returned (.bool true) ∧ Below B W w' ∧ Boxes W w') := Lib.hid fun W hq =>
                    same_any may B X Wn x y z x' y' z' code sc.s xi yi zi sc.x sc.y sc.z W hq.up HX.out.1
                      (fun h => ⟨(HWN.out h).trans (HX.out.2.1 h).symm, hq.own, ((HWN.out h).trans (HX.out.2.1 h).symm) ▸ hq.want, by rw [HX.out.2.1 h]; have t := HMQ.out.trans h; rw [Bool.and_eq_true] at t; exact (print_ok ((ok_iff _).1 t.1) (of_decide_eq_true t.2)).lens8⟩)
                      HX.out.2.2 (fun W' hb => (hq.ini.keptB hq.lti hb).in_) (fun W' hb => HIN.out W' ((HBW.out _ hq.bel).trans (hb.mono (Nat.le_trans HRm.out.bel.size hq.lo2)))) HFT.out.l
                  have b0 : w9.cell? ⟨w.heap.size, 0, none⟩ = some (.slice (some ad) q c) := Blk.cell (HRx.out _ HM.out.bel).box 0
                  go_upto_region 16 with (fail)
                  go_cut [85] from 74 to 85 (fun s128 wy => s128 = .bool false ∧ Hid (Below wm.heap.size wm wy))
                  case first =>
                    have HM := Lib.hid (HM.out.kept (Below.refl _ _).drew)
                    refine wp_region_still_tail 10 (by kernel_rfl) (by kernel_rfl) ?_
                    simp only [List.take_succ_cons, List.take_zero, List.drop_succ_cons, List.drop_zero]
                    refine still_loadS (p := ⟨b11, 0, none⟩) (s := X) (x0 := x) (y0 := y) (z0 := z) rfl rfl rfl HM.out.x11.at ?_
                    still_step
                    still_step
                    refine still_loadS (p := ⟨b14, 0, none⟩) (s := Wn) (x0 := x') (y0 := y') (z0 := z') rfl rfl rfl HM.out.x14.at ?_
                    refine still_loadS (p := ⟨b10, 0, none⟩) (s := sc.s) (x0 := xi) (y0 := yi) (z0 := zi) rfl rfl rfl HM.out.x10.at ?_
                    still_step
                    still_step
                    still_step
                    still_step
                    refine still_loadS (s := sc.s) (x0 := sc.x) (y0 := sc.y) (z0 := sc.z) rfl rfl rfl (HAT.out.kept (HBW.out _ HM.out.bel)) ?_
                    refine wpStill_nil ?_
                    change wpList _ _ _ _ _ w9.drew
                    go_wp2_with fail
                    refine (HSM.out _ HM.out).mono ?_; rintro e w10 ⟨rfl, hb, hbx⟩
                    have H10 : Hid (Below wm.heap.size wm w10) := Lib.hid (HM.out.bel.trans (hb.mono HM.out.lo2))
                    clear hb hbx
                    go_wp2_with fail
                    go_meet
                    exact ⟨rfl, H10⟩
                  case rest =>
                    obtain ⟨rfl, H10⟩ := hcut
                    rename World => w10
                    have HRn := Lib.hid (HRx.out _ H10.out)
                    have HZn := Lib.hid (HZm.out.kept H10.out)
                    clear HM HSM HWN HX b0 HRm HZm HRx HNC HBW HMQ H10
                    go_wp2_with fail
                    go_roundw
                    case rel => exact ⟨u + 1, by omega, by go_num, HRn, HZn⟩
                    case measure => simp [intOf]; omega
          · obtain rfl : u = 9 := by omega
            go_wp2_with fail
            go_roundw
            case rel => exact ⟨i + 1, by omega, by omega, by go_num, HR⟩
            case measure => simp [intOf]; omega
      · go_wp2_with fail
        refine (HWK.out wr HR.out.bel).mono ?_; rintro e w2 ⟨rfl, hb⟩
        go_wp2_with fail
        go_ret
        exact ⟨rfl, HR.out.bel.trans (hb.mono HR.out.bel.size)⟩
    · go_wp2_with fail
      refine (HWK.out wr HR.out.bel).mono ?_; rintro e w2 ⟨rfl, hb⟩
      go_wp2_with fail
      go_ret
      exact ⟨rfl, HR.out.bel.trans (hb.mono HR.out.bel.size)⟩
end Scr
end Go.Proofs.YtceaoadlhdgnmaaGreatDoor
