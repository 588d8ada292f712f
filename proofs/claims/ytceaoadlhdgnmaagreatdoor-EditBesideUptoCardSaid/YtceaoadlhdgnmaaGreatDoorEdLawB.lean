/- The law EditBeside, of each screen: walked. -/
import Derived.Test.YtceaoadlhdgnmaaGreatDoorMRestS
import Derived.Test.YtceaoadlhdgnmaaGreatDoorEdBesM
import Derived.Test.YtceaoadlhdgnmaaGreatDoorEdBesOk
import Derived.Test.YtceaoadlhdgnmaaGreatDoorM407
import Derived.Test.YtceaoadlhdgnmaaGreatDoorM30
import Derived.Deep.RegionLaw
import Derived.Deep.RegionHeld3
import Derived.Deep.CutRange
import Derived.Deep.DeepCutAuto
import Derived.BigRegion
import Derived.BigQuiet
namespace Go.Proofs.YtceaoadlhdgnmaaGreatDoor
set_option maxRecDepth 100000
open Go.RowKit
namespace Scr
open Go.Proofs.YtceaoadlhdgnmaaGreatDoor.Row

set_option maxHeartbeats 16000000 in
theorem lawEditBeside_any (v : Value) (l : List Sc) (n m k r : Int) (w : World) (h : Scrs 1048576 w v l) (hl : l.length ≤ 140737488355328) (hT : Tabs w) :
    Calls Tryz.prog 14 #[.agg #[v, .int .i64 n, .int .i64 m, .int .i64 k, .int .i64 r]] w fun e w' => e = .returned (.bool true) ∧ Below w.heap.size w w' := by
  have HT := Lib.hid hT
  obtain ⟨⟨A, c, rfl, hc, hf⟩, h2⟩ := id h
  have HF := Lib.hid hf
  have H2 := Lib.hid h2
  have H0 := Lib.hid (Run.start w (.slice A l.length c) n m k r)
  have HH := Lib.hid (heavy8 (.slice A l.length c) l n m k r _ (h.kept H0.out.bel) hl (by decide))
  have HWK := Lib.hid (fun W (hW : Below w.heap.size w W) => wakes11 W (hT.kept hW))
  have HWN := Lib.hid (fun W => within8 n 6 (by decide) (by decide) W)
  obtain ⟨nn, hnn⟩ : ∃ q, ((wi8 n 6 : Nat) : Int) = q := ⟨_, rfl⟩
  have HNN : Hid (numB nn = true) := Lib.hid (numB_iff.2 (by have : wi8 n 6 < 6 := Nat.mod_lt _ (by decide); omega))
  rw [hnn] at HWN
  clear hnn
  obtain ⟨q, hq⟩ : ∃ q, l.length = q := ⟨_, rfl⟩
  rw [hq] at HF H2 H0 HH ⊢
  clear h hT h2 hf hl hc hq
  go_enter Tryz.func14, Tryz.ntmps14
  go_wp2_with fail
  refine HH.out.mono ?_; rintro e w1 ⟨b, rfl, hw, hb⟩
  have H1 := Lib.hid (H0.out.kept hb)
  have HW := Lib.hid hw
  clear hw hb HH H0
  cases b
  case true =>
    go_wp2_with fail
    go_ret
    exact ⟨rfl, H1.out.bel⟩
  go_upto_region 4 with (fail)
  change Code.wp _ _ _ _ (w1.alloc besbox)
  have HZ1 : Hid (Kv (w1.alloc besbox) w1.heap.size besL) := Lib.hid (besbox_kv w1)
  have HR1 := Lib.hid (H1.out.kept (bel_alloc w1 besbox))
  have HBN : Hid (w.heap.size < w1.heap.size) := Lib.hid (Blk.lt H1.out.box)
  clear H1
  generalize w1.alloc besbox = wa at HZ1 HR1 ⊢
  generalize w1.heap.size = bn at HZ1 HBN ⊢
  go_wp2_with fail
  go_loopw [4] (fun j wr => ∃ i : Nat, i ≤ q ∧ i ≤ 4 ∧ j = .int .i64 i ∧ Hid (Run w wr (.slice A q c) n m k r) ∧ Hid (Kv wr bn besL)) (fun j _ => q - (intOf j).toNat)
  case atStart => exact ⟨0, by omega, by omega, rfl, HR1, HZ1⟩
  case round =>
    clear HR1 HZ1
    obtain ⟨i, hi, hi4, rfl, HR, HZ⟩ := hrel
    have b0 : wr.cell? ⟨w.heap.size, 0, none⟩ = some (.slice A q c) := Blk.cell HR.out.box 0
    by_cases hiq : i < q
    · by_cases h4 : i < 4
      · obtain ⟨ad, rfl, hat⟩ := HF.out i hiq
        have hI := H2.out i hiq
        have hFt := fit8 hI.2 (HW.out trivial i hiq)
        generalize l.getD i noSc = sc at hat hI hFt
        have HAT := Lib.hid (show At w (ad.add (i * 43)) (sarr sc.s sc.x sc.y sc.z).toList from hat)
        have HIN : Hid (∀ W, Below w.heap.size w W → sc.in_ W) := Lib.hid fun W hb => hI.1.kept hb
        have HFT := Lib.hid hFt
        clear hat hI hFt
        have h4i : (i : Int) < 4 := by omega
        have h4d : decide ((i : Int) < 4) = true := decide_eq_true h4i
        have HI0 := Lib.hid (HIN.out _ HR.out.bel)
        have HM0 : Hid (Ms w (.slice (some ad) q c) n m k r [] [] wr) := Lib.hid ⟨HR.out, (fun p hp => (List.not_mem_nil hp).elim), (fun p hp => (List.not_mem_nil hp).elim)⟩
        have HBx : Hid (w.heap.size < wr.heap.size) := Lib.hid (Blk.lt HR.out.box)
        have HKV : Hid (∀ W, Below wr.heap.size wr W → Kv W bn besL) := Lib.hid fun W hb => HZ.out.kept hb
        go_upto_region 8 with (first
          | (refine wp_loadArg rfl rfl rfl (HAT.out.kept HR.out.bel) ?_)
          | (refine wp_allocS (n := wr.heap.size) rfl rfl rfl ?_)
          | (refine wp_storeS_then (b := wr.heap.size) (A := sarr sc.s sc.x sc.y sc.z) (T := fun W => Ms w (.slice (some ad) q c) n m k r [(wr.heap.size, sc)] [] W ∧ Below wr.heap.size wr W) rfl rfl rfl rfl rfl HI0.out.one (heap_alloc_new _ _) rfl (fun _ kk => ⟨HM0.out.boxN (e := sc) HI0.out kk, (bx_sto HI0.out kk).2⟩) ?_; intro w2 H2m))
        go_simp
        change Code.wp _ _ _ _ w2
        have HM2 := Lib.hid H2m.out.1
        have HZ2 := Lib.hid (HKV.out _ H2m.out.2)
        clear H2m HI0 HM0 HR b0 HZ HKV
        generalize wr.heap.size = b5 at HM2 HBx ⊢
        have HI2 := Lib.hid (HIN.out _ HM2.out.run.bel)
        go_wp2_with (refine wp_loadS (b := b5) (s := sc.s) (x0 := sc.x) (y0 := sc.y) (z0 := sc.z) rfl rfl rfl (HM2.out.bx 0 rfl) ?_)
        refine (refScreen_any sc.s sc.x sc.y sc.z w2 HI2.out HFT.out.sh (HT.out.kept HM2.out.run.bel)).mono ?_; rintro e w3 ⟨rfl, hb⟩
        have HM3 := Lib.hid (HM2.out.kept hb)
        have HZ3 := Lib.hid (HZ2.out.kept hb)
        clear hb HM2 HZ2 HI2
        cases hok : okB sc.s
        · go_wp2_with fail
          go_roundw
          case rel => exact ⟨i + 1, by omega, by omega, by go_num, Lib.hid HM3.out.run, HZ3⟩
          case measure => simp [intOf]; omega
        · have HOK := Lib.hid ((ok_iff _).1 hok)
          have HOB := Lib.hid hok
          clear hok
          go_wp2_with fail
          go_loopw [6] (fun j wr => ∃ u : Nat, u ≤ 8 ∧ j = .int .i64 u ∧ Hid (Ms w (.slice (some ad) q c) n m k r [(b5, sc)] [] wr) ∧ Hid (Kv wr bn besL)) (fun j _ => 8 - (intOf j).toNat)
          case atStart => exact ⟨0, by omega, rfl, HM3, HZ3⟩
          case round =>
            clear HM3 HZ3
            obtain ⟨u, hu, rfl, HM, HZ⟩ := hrel
            by_cases hu8 : u < 8
            · have hui : (u : Int) < 8 := by omega
              have hud : decide ((u : Int) < 8) = true := decide_eq_true hui
              rename World => wm
              obtain ⟨kk, hkk⟩ : ∃ kk, besL.getD u 0 = kk := ⟨_, rfl⟩
              have HKM := Lib.hid (bes_keys ⟨u, hu8⟩)
              have HLO := Lib.hid (bes_low (s := sc.s) hu8)
              have HZK : Hid (wm.cell? ⟨bn, u, none⟩ = some (.int .i64 kk)) := Lib.hid (by rw [← hkk]; exact HZ.out u (by have : besL.length = 8 := rfl; omega))
              rw [hkk] at HLO
              have HK1 : Hid (ekeyB kk = true ∧ kk ∈ [75, 88, 80, 64, 76, 77, 83, 84]) := Lib.hid (by rw [← hkk]; exact ⟨HKM.out.1, HKM.out.2.1⟩)
              clear hkk HKM
              have HMY : Hid (mayE sc.s kk nn = true) := Lib.hid (mayE_iff.2 ⟨HOB.out, HK1.out.1, HNN.out⟩)
              have HBS := Lib.hid (edit_beside HOK.out HK1.out.2 nn)
              obtain ⟨E, hE⟩ : ∃ E, editS sc.s kk nn = E := ⟨_, rfl⟩
              have HEE := Lib.hid hE
              rw [hE] at HBS
              have HD := Lib.hid (fun W (hI : In W sc.s sc.x sc.y sc.z) (hT : Tabs W) => editD sc.s sc.x sc.y sc.z kk nn W hI HFT.out.h hT)
              rw [HMY.out, hE] at HD
              clear hE
              have HQ : Hid (∀ W, Below wm.heap.size wm W → W.cell? ⟨bn, u, none⟩ = some (.int .i64 kk) ∧ W.cell? ⟨w.heap.size, 1, none⟩ = some (.int .i64 n) ∧ Hid (SBox W b5 sc.s sc.x sc.y sc.z)) := Lib.hid fun W hb =>
                ⟨cell_kept hb HZK.out, Blk.cell (HM.out.run.kept hb).box 1, Lib.hid ((HM.out.bx 0 rfl).kept hb)⟩
              have HL5 : Hid (w.heap.size < b5 ∧ b5 < wm.heap.size) := Lib.hid ⟨HBx.out, HM.out.lt _ List.mem_cons_self⟩
              go_upto_region 12 with (fail)
              go_cut [7, 8] from 45 to 56 (fun s7 s8 wx => ∃ x y z b7 B, s7 = .pointer (some ⟨b7, 0, none⟩) ∧ s8 = .int .i64 0 ∧ Hid (Ms w (.slice (some ad) q c) n m k r [(b7, ⟨E, x, y, z⟩), (b5, sc)] [(B, ⟨E, x, y, z⟩)] wx) ∧ Hid (Below wm.heap.size wm wx))
              case first =>
                have HMd := Lib.hid (HM.out.kept (Below.refl _ _).drew)
                have HBd : Hid (Below wm.heap.size wm wm.drew) := Lib.hid (Below.refl _ _).drew
                have q4 := HQ.out _ HBd.out
                refine wp_region_held_drew (S := fun w' => w'.cell? ⟨bn, u, none⟩ = some (.int .i64 kk) ∧ w'.cell? ⟨w.heap.size, 1, none⟩ = some (.int .i64 n) ∧ Hid (SBox w' b5 sc.s sc.x sc.y sc.z)) (by kernel_rfl) q4 (fun hHeld => ?_)
                have hsz : wm.drew.heap.size = wm.heap.size := rfl
                have HL5 : Hid (w.heap.size < b5 ∧ b5 < wm.drew.heap.size) := Lib.hid HL5.out
                clear hsz
                generalize wm.drew = wd at HMd HBd q4 HL5 ⊢
                refine wpAnyH_take (i := 0) (v := sv sc.s sc.x sc.y sc.z) rfl (by kernel_rfl) (by kernel_rfl) (by kernel_rfl) (fun _ _ _ h => h) (yields_loadS rfl rfl rfl (fun w' hS => hS.2.2.out.at)) (by assumption) ?_
                simp only [Act.put, List.getElem_toArray, List.getElem_cons_zero, List.setIfInBounds_toArray, List.set_cons_zero, List.set_cons_succ]
                refine wpAnyH_take (i := 1) (v := ?_) rfl (by kernel_rfl) (by kernel_rfl) (by kernel_rfl) (fun _ _ _ h => h) (Or.inl ⟨by rfl, ?_⟩) (by assumption) ?_
                rotate_left
                · intro w' hSw; first | (go_simp; done) | (go_simp; with_reducible rfl)
                simp only [Act.put, List.getElem_toArray, List.getElem_cons_zero, List.getElem_cons_succ, List.setIfInBounds_toArray, List.set_cons_zero, List.set_cons_succ]
                refine wpAnyH_take (i := 2) (v := ?_) rfl (by kernel_rfl) (by kernel_rfl) (by kernel_rfl) (fun _ _ _ h => h) (Or.inl ⟨by rfl, ?_⟩) (by assumption) ?_
                rotate_left
                · intro w' hSw; first | (go_simp; done) | (go_simp; with_reducible rfl)
                simp only [Act.put, List.getElem_toArray, List.getElem_cons_zero, List.getElem_cons_succ, List.setIfInBounds_toArray, List.set_cons_zero, List.set_cons_succ]
                refine wpAnyH_take (i := 3) (v := ?_) rfl (by kernel_rfl) (by kernel_rfl) (by kernel_rfl) (fun _ _ _ h => h) (Or.inl ⟨by rfl, ?_⟩) (by assumption) ?_
                rotate_left
                · intro w' hSw; first | (go_simp; done) | (go_simp; with_reducible rfl)
                simp only [Act.put, List.getElem_toArray, List.getElem_cons_zero, List.getElem_cons_succ, List.setIfInBounds_toArray, List.set_cons_zero, List.set_cons_succ]
                refine wpAnyH_take (i := 4) (v := ?_) rfl (by kernel_rfl) (by kernel_rfl) (by kernel_rfl) (fun _ _ _ h => h) (Or.inl ⟨by rfl, ?_⟩) (by assumption) ?_
                rotate_left
                · intro w' hSw; first | (go_simp; done) | (go_simp; with_reducible rfl)
                simp only [Act.put, List.getElem_toArray, List.getElem_cons_zero, List.getElem_cons_succ, List.setIfInBounds_toArray, List.set_cons_zero, List.set_cons_succ]
                refine wpAnyH_take (i := 5) (v := ?_) rfl (by kernel_rfl) (by kernel_rfl) (by kernel_rfl) (fun _ _ _ h => h) (Or.inl ⟨by rfl, ?_⟩) (by assumption) ?_
                rotate_left
                · intro w' hSw; first | (go_simp; done) | (go_simp; with_reducible rfl)
                simp only [Act.put, List.getElem_toArray, List.getElem_cons_zero, List.getElem_cons_succ, List.setIfInBounds_toArray, List.set_cons_zero, List.set_cons_succ]
                refine wpAnyH_take (i := 6) (v := ?_) rfl (by kernel_rfl) (by kernel_rfl) (by kernel_rfl) (fun _ _ _ h => h) (Or.inl ⟨by rfl, ?_⟩) (by assumption) ?_
                rotate_left
                · intro w' hSw; first | (go_simp; done) | (go_simp; with_reducible rfl)
                simp only [Act.put, List.getElem_toArray, List.getElem_cons_zero, List.getElem_cons_succ, List.setIfInBounds_toArray, List.set_cons_zero, List.set_cons_succ]
                refine wpAnyH_ready (rs := [7, 12]) (by kernel_rfl) (by simp) ?_
                refine AllReadyH.cons rfl (fun K hK => ?_) ?_
                · go_simp
                  go_at_call 23
                  refine (HWN.out wd).mono ?_; rintro e wz ⟨rfl, hwz⟩; rw [hwz]; clear hwz wz
                  refine hK.out _ _ q4 (fun hHeld => ?_)
                  clear hK K
                  refine wpAnyH_ready (rs := [8, 12]) (by kernel_rfl) (by simp) ?_
                  refine AllReadyH.cons rfl (fun K hK => ?_) ?_
                  · go_simp
                    go_at_call 45
                    refine (HD.out wd (HIN.out _ HMd.out.run.bel) (HT.out.kept HMd.out.run.bel)).mono ?_; rintro e w5 ⟨X, x, y, z, code, rfl, hans⟩
                    obtain rfl : E = X := (hans.yes rfl).symm
                    obtain rfl : (0 : Int) = code := hans.code.symm
                    have HA := Lib.hid hans.own
                    have HM6 := Lib.hid (HMd.out.kept hans.bel)
                    have HB6 : Hid (Below wm.heap.size wm w5) := Lib.hid (HBd.out.trans (hans.bel.mono HBd.out.size))
                    have q5 := HQ.out w5 HB6.out
                    have q6 := HQ.out (w5.alloc (.cells zarr 36)) (HB6.out.trans ((bel_alloc w5 _).mono HB6.out.size))
                    clear hans
                    refine hK.out _ _ q5 (fun hHeld => ?_)
                    clear hK K
                    refine wpAnyH_take (i := 9) (v := ?_) rfl (by kernel_rfl) (by kernel_rfl) (by kernel_rfl) (fun _ _ _ h => h) (Or.inl ⟨by rfl, ?_⟩) (by assumption) ?_
                    rotate_left
                    · intro w' hSw; first | (go_simp; done) | (go_simp; with_reducible rfl)
                    simp only [Act.put, List.getElem_toArray, List.getElem_cons_zero, List.getElem_cons_succ, List.setIfInBounds_toArray, List.set_cons_zero, List.set_cons_succ]
                    refine wpAnyH_take (i := 10) (v := ?_) rfl (by kernel_rfl) (by kernel_rfl) (by kernel_rfl) (fun _ _ _ h => h) (Or.inl ⟨by rfl, ?_⟩) (by assumption) ?_
                    rotate_left
                    · intro w' hSw; first | (go_simp; done) | (go_simp; with_reducible rfl)
                    simp only [Act.put, List.getElem_toArray, List.getElem_cons_zero, List.getElem_cons_succ, List.setIfInBounds_toArray, List.set_cons_zero, List.set_cons_succ]
                    refine wpAnyH_take (i := 11) (v := ?_) rfl (by kernel_rfl) (by kernel_rfl) (by kernel_rfl) (fun _ _ _ h => h) (Or.inl ⟨by rfl, ?_⟩) (by assumption) ?_
                    rotate_left
                    · intro w' hSw; first | (go_simp; done) | (go_simp; with_reducible rfl)
                    simp only [Act.put, List.getElem_toArray, List.getElem_cons_zero, List.getElem_cons_succ, List.setIfInBounds_toArray, List.set_cons_zero, List.set_cons_succ]
                    refine wpAnyH_ready (rs := [12]) (by kernel_rfl) (by simp) ?_
                    refine AllReadyH.cons rfl (fun K hK => ?_) ?_
                    · refine step_allocS (n := w5.heap.size) rfl rfl rfl ?_
                      refine hK.out _ _ q6 (fun hHeld => ?_)
                      clear hK K
                      refine wpAnyH_ready (rs := [13]) (by kernel_rfl) (by simp) ?_
                      refine AllReadyH.cons rfl (fun K hK => ?_) ?_
                      · refine step_storeS (b := w5.heap.size) (A := sarr E x y z) rfl rfl rfl rfl rfl HA.out.in_.one (heap_alloc_new _ _) rfl ?_; intro w6 h6
                        have HMF := Lib.hid (HM6.out.more (e := ⟨E, x, y, z⟩) HA.out h6)
                        have HBF : Hid (Below wm.heap.size wm w6) := Lib.hid (HB6.out.trans ((h6.below _ _ (Nat.le_refl _) (bel_alloc w5 _)).mono HB6.out.size))
                        have q7 := HQ.out w6 HBF.out
                        refine hK.out _ _ q7 (fun hHeld => ?_)
                        clear hK K
                        refine wpAnyH_take (i := 14) (v := ?_) rfl (by kernel_rfl) (by kernel_rfl) (by kernel_rfl) (fun _ _ _ h => h) (Or.inl ⟨by rfl, ?_⟩) (by assumption) ?_
                        rotate_left
                        · intro w' hSw; first | (go_simp; done) | (go_simp; with_reducible rfl)
                        simp only [Act.put, List.getElem_toArray, List.getElem_cons_zero, List.getElem_cons_succ, List.setIfInBounds_toArray, List.set_cons_zero, List.set_cons_succ]
                        refine wpAnyH_done (by kernel_rfl) ?_ _
                        go_wp2_with fail
                        go_meet
                        exact ⟨_, _, _, _, _, rfl, rfl, HMF, HBF⟩
                      exact AllReadyH.nil
                    exact AllReadyH.nil
                  refine AllReadyH.cons rfl (fun K hK => ?_) ?_
                  · refine step_allocS (n := wd.heap.size) rfl rfl rfl ?_
                    have HM5 := Lib.hid HMd.out.fresh
                    have HB5 : Hid (Below wm.heap.size wm (wd.alloc (.cells zarr 36))) := Lib.hid (HBd.out.trans ((bel_alloc wd _).mono HBd.out.size))
                    have q5 := HQ.out _ HB5.out
                    refine hK.out _ _ q5 (fun hHeld => ?_)
                    clear hK K
                    refine wpAnyH_ready (rs := [8]) (by kernel_rfl) (by simp) ?_
                    refine AllReadyH.cons rfl (fun K hK => ?_) ?_
                    · go_simp
                      go_at_call 45
                      refine (HD.out (wd.alloc (.cells zarr 36)) (HIN.out _ HM5.out.run.bel) (HT.out.kept HM5.out.run.bel)).mono ?_; rintro e w5 ⟨X, x, y, z, code, rfl, hans⟩
                      obtain rfl : E = X := (hans.yes rfl).symm
                      obtain rfl : (0 : Int) = code := hans.code.symm
                      have HA := Lib.hid hans.own
                      have HM6 := Lib.hid (HM5.out.kept hans.bel)
                      have HB6 : Hid (Below wm.heap.size wm w5) := Lib.hid (HB5.out.trans (hans.bel.mono HB5.out.size))
                      have q6 := HQ.out w5 HB6.out
                      clear hans
                      refine hK.out _ _ q6 (fun hHeld => ?_)
                      clear hK K
                      refine wpAnyH_take (i := 9) (v := ?_) rfl (by kernel_rfl) (by kernel_rfl) (by kernel_rfl) (fun _ _ _ h => h) (Or.inl ⟨by rfl, ?_⟩) (by assumption) ?_
                      rotate_left
                      · intro w' hSw; first | (go_simp; done) | (go_simp; with_reducible rfl)
                      simp only [Act.put, List.getElem_toArray, List.getElem_cons_zero, List.getElem_cons_succ, List.setIfInBounds_toArray, List.set_cons_zero, List.set_cons_succ]
                      refine wpAnyH_take (i := 10) (v := ?_) rfl (by kernel_rfl) (by kernel_rfl) (by kernel_rfl) (fun _ _ _ h => h) (Or.inl ⟨by rfl, ?_⟩) (by assumption) ?_
                      rotate_left
                      · intro w' hSw; first | (go_simp; done) | (go_simp; with_reducible rfl)
                      simp only [Act.put, List.getElem_toArray, List.getElem_cons_zero, List.getElem_cons_succ, List.setIfInBounds_toArray, List.set_cons_zero, List.set_cons_succ]
                      refine wpAnyH_take (i := 11) (v := ?_) rfl (by kernel_rfl) (by kernel_rfl) (by kernel_rfl) (fun _ _ _ h => h) (Or.inl ⟨by rfl, ?_⟩) (by assumption) ?_
                      rotate_left
                      · intro w' hSw; first | (go_simp; done) | (go_simp; with_reducible rfl)
                      simp only [Act.put, List.getElem_toArray, List.getElem_cons_zero, List.getElem_cons_succ, List.setIfInBounds_toArray, List.set_cons_zero, List.set_cons_succ]
                      refine wpAnyH_ready (rs := [13]) (by kernel_rfl) (by simp) ?_
                      refine AllReadyH.cons rfl (fun K hK => ?_) ?_
                      · refine step_storeS (b := wd.heap.size) (A := sarr E x y z) rfl rfl rfl rfl rfl HA.out.in_.one (HM6.out.bx 0 rfl) rfl ?_; intro w6 h6
                        have HMF := Lib.hid (HM6.out.put (e := ⟨E, x, y, z⟩) (old := ⟨noS, nilS, nilS, nilS⟩) (L' := [(wd.heap.size, ⟨E, x, y, z⟩), (b5, sc)]) (HM6.out.bx 0 rfl) (Nat.lt_trans HL5.out.1 HL5.out.2) HA.out h6 (fun p hp => by
                          rcases List.mem_cons.1 hp with rfl | hp
                          · exact .inl rfl
                          · have hp := List.mem_singleton.1 hp
                            subst hp
                            exact .inr ⟨by simp, Nat.ne_of_lt HL5.out.2⟩))
                        have HBF : Hid (Below wm.heap.size wm w6) := Lib.hid (h6.below _ _ (HBd.out.size) HB6.out)
                        have q7 := HQ.out w6 HBF.out
                        refine hK.out _ _ q7 (fun hHeld => ?_)
                        clear hK K
                        refine wpAnyH_take (i := 14) (v := ?_) rfl (by kernel_rfl) (by kernel_rfl) (by kernel_rfl) (fun _ _ _ h => h) (Or.inl ⟨by rfl, ?_⟩) (by assumption) ?_
                        rotate_left
                        · intro w' hSw; first | (go_simp; done) | (go_simp; with_reducible rfl)
                        simp only [Act.put, List.getElem_toArray, List.getElem_cons_zero, List.getElem_cons_succ, List.setIfInBounds_toArray, List.set_cons_zero, List.set_cons_succ]
                        refine wpAnyH_done (by kernel_rfl) ?_ _
                        go_wp2_with fail
                        go_meet
                        exact ⟨_, _, _, _, _, rfl, rfl, HMF, HBF⟩
                      exact AllReadyH.nil
                    exact AllReadyH.nil
                  exact AllReadyH.nil
                refine AllReadyH.cons rfl (fun K hK => ?_) ?_
                · refine step_allocS (n := wd.heap.size) rfl rfl rfl ?_
                  have HM5 := Lib.hid HMd.out.fresh
                  have HB5 : Hid (Below wm.heap.size wm (wd.alloc (.cells zarr 36))) := Lib.hid (HBd.out.trans ((bel_alloc wd _).mono HBd.out.size))
                  have q5 := HQ.out _ HB5.out
                  refine hK.out _ _ q5 (fun hHeld => ?_)
                  clear hK K
                  refine wpAnyH_ready (rs := [7]) (by kernel_rfl) (by simp) ?_
                  refine AllReadyH.cons rfl (fun K hK => ?_) ?_
                  · go_simp
                    go_at_call 23
                    refine (HWN.out (wd.alloc (.cells zarr 36))).mono ?_; rintro e wz ⟨rfl, hwz⟩; rw [hwz]; clear hwz wz
                    refine hK.out _ _ q5 (fun hHeld => ?_)
                    clear hK K
                    refine wpAnyH_ready (rs := [8]) (by kernel_rfl) (by simp) ?_
                    refine AllReadyH.cons rfl (fun K hK => ?_) ?_
                    · go_simp
                      go_at_call 45
                      refine (HD.out (wd.alloc (.cells zarr 36)) (HIN.out _ HM5.out.run.bel) (HT.out.kept HM5.out.run.bel)).mono ?_; rintro e w5 ⟨X, x, y, z, code, rfl, hans⟩
                      obtain rfl : E = X := (hans.yes rfl).symm
                      obtain rfl : (0 : Int) = code := hans.code.symm
                      have HA := Lib.hid hans.own
                      have HM6 := Lib.hid (HM5.out.kept hans.bel)
                      have HB6 : Hid (Below wm.heap.size wm w5) := Lib.hid (HB5.out.trans (hans.bel.mono HB5.out.size))
                      have q6 := HQ.out w5 HB6.out
                      clear hans
                      refine hK.out _ _ q6 (fun hHeld => ?_)
                      clear hK K
                      refine wpAnyH_take (i := 9) (v := ?_) rfl (by kernel_rfl) (by kernel_rfl) (by kernel_rfl) (fun _ _ _ h => h) (Or.inl ⟨by rfl, ?_⟩) (by assumption) ?_
                      rotate_left
                      · intro w' hSw; first | (go_simp; done) | (go_simp; with_reducible rfl)
                      simp only [Act.put, List.getElem_toArray, List.getElem_cons_zero, List.getElem_cons_succ, List.setIfInBounds_toArray, List.set_cons_zero, List.set_cons_succ]
                      refine wpAnyH_take (i := 10) (v := ?_) rfl (by kernel_rfl) (by kernel_rfl) (by kernel_rfl) (fun _ _ _ h => h) (Or.inl ⟨by rfl, ?_⟩) (by assumption) ?_
                      rotate_left
                      · intro w' hSw; first | (go_simp; done) | (go_simp; with_reducible rfl)
                      simp only [Act.put, List.getElem_toArray, List.getElem_cons_zero, List.getElem_cons_succ, List.setIfInBounds_toArray, List.set_cons_zero, List.set_cons_succ]
                      refine wpAnyH_take (i := 11) (v := ?_) rfl (by kernel_rfl) (by kernel_rfl) (by kernel_rfl) (fun _ _ _ h => h) (Or.inl ⟨by rfl, ?_⟩) (by assumption) ?_
                      rotate_left
                      · intro w' hSw; first | (go_simp; done) | (go_simp; with_reducible rfl)
                      simp only [Act.put, List.getElem_toArray, List.getElem_cons_zero, List.getElem_cons_succ, List.setIfInBounds_toArray, List.set_cons_zero, List.set_cons_succ]
                      refine wpAnyH_ready (rs := [13]) (by kernel_rfl) (by simp) ?_
                      refine AllReadyH.cons rfl (fun K hK => ?_) ?_
                      · refine step_storeS (b := wd.heap.size) (A := sarr E x y z) rfl rfl rfl rfl rfl HA.out.in_.one (HM6.out.bx 0 rfl) rfl ?_; intro w6 h6
                        have HMF := Lib.hid (HM6.out.put (e := ⟨E, x, y, z⟩) (old := ⟨noS, nilS, nilS, nilS⟩) (L' := [(wd.heap.size, ⟨E, x, y, z⟩), (b5, sc)]) (HM6.out.bx 0 rfl) (Nat.lt_trans HL5.out.1 HL5.out.2) HA.out h6 (fun p hp => by
                          rcases List.mem_cons.1 hp with rfl | hp
                          · exact .inl rfl
                          · have hp := List.mem_singleton.1 hp
                            subst hp
                            exact .inr ⟨by simp, Nat.ne_of_lt HL5.out.2⟩))
                        have HBF : Hid (Below wm.heap.size wm w6) := Lib.hid (h6.below _ _ (HBd.out.size) HB6.out)
                        have q7 := HQ.out w6 HBF.out
                        refine hK.out _ _ q7 (fun hHeld => ?_)
                        clear hK K
                        refine wpAnyH_take (i := 14) (v := ?_) rfl (by kernel_rfl) (by kernel_rfl) (by kernel_rfl) (fun _ _ _ h => h) (Or.inl ⟨by rfl, ?_⟩) (by assumption) ?_
                        rotate_left
                        · intro w' hSw; first | (go_simp; done) | (go_simp; with_reducible rfl)
                        simp only [Act.put, List.getElem_toArray, List.getElem_cons_zero, List.getElem_cons_succ, List.setIfInBounds_toArray, List.set_cons_zero, List.set_cons_succ]
                        refine wpAnyH_done (by kernel_rfl) ?_ _
                        go_wp2_with fail
                        go_meet
                        exact ⟨_, _, _, _, _, rfl, rfl, HMF, HBF⟩
                      exact AllReadyH.nil
                    exact AllReadyH.nil
                  exact AllReadyH.nil
                exact AllReadyH.nil
              case rest =>
              obtain ⟨x, y, z, b7, B, rfl, rfl, HMx, HBxx⟩ := hcut
              rename World => wx
              clear HZK HQ HL5 HD HMY
              have HZx := Lib.hid (HZ.out.kept HBxx.out)
              have HOX := Lib.hid (HMx.out.ow 0 rfl).in_
              have HIx := Lib.hid (HIN.out _ HMx.out.run.bel)
              obtain ⟨scs, scx, scy, scz⟩ := sc
              obtain ⟨sA, sn, scp, rfl⟩ : ∃ A n c, scx = .slice A n c := (by obtain ⟨A, c, e, _⟩ := HIx.out.m.2; exact ⟨A, _, c, e⟩)
              obtain ⟨oA, on, ocp, rfl⟩ : ∃ A n c, scy = .slice A n c := (by obtain ⟨A, c, e, _⟩ := HIx.out.o.2; exact ⟨A, _, c, e⟩)
              obtain ⟨xA, xn, xcp, rfl⟩ : ∃ A n c, x = .slice A n c := (by obtain ⟨A, c, e, _⟩ := HOX.out.m.2; exact ⟨A, _, c, e⟩)
              obtain ⟨yA, yn, ycp, rfl⟩ : ∃ A n c, y = .slice A n c := (by obtain ⟨A, c, e, _⟩ := HOX.out.o.2; exact ⟨A, _, c, e⟩)
              have q15 : Hid (∀ W, Below wx.heap.size wx W → W.cell? ⟨b5, 0, none⟩ = some (.int .i64 scs.main.rows) ∧ W.cell? ⟨b5, 1, none⟩ = some (.int .i64 scs.main.cols) ∧ W.cell? ⟨b5, 2, none⟩ = some (.slice sA sn scp) ∧ W.cell? ⟨b5, 3, none⟩ = some (.int .i64 scs.other.rows) ∧ W.cell? ⟨b5, 4, none⟩ = some (.int .i64 scs.other.cols) ∧ W.cell? ⟨b5, 5, none⟩ = some (.slice oA on ocp) ∧ W.cell? ⟨b7, 0, none⟩ = some (.int .i64 E.main.rows) ∧ W.cell? ⟨b7, 1, none⟩ = some (.int .i64 E.main.cols) ∧ W.cell? ⟨b7, 2, none⟩ = some (.slice xA xn xcp) ∧ W.cell? ⟨b7, 3, none⟩ = some (.int .i64 E.other.rows) ∧ W.cell? ⟨b7, 4, none⟩ = some (.int .i64 E.other.cols) ∧ W.cell? ⟨b7, 5, none⟩ = some (.slice yA yn ycp)) := Lib.hid fun W hb => by
                have k1 := (HMx.out.kept hb).bx 0 rfl
                have k2 := (HMx.out.kept hb).bx 1 rfl
                exact ⟨k2.cell 0, k2.cell 1, k2.cell 2, k2.cell 3, k2.cell 4, k2.cell 5, k1.cell 0, k1.cell 1, k1.cell 2, k1.cell 3, k1.cell 4, k1.cell 5⟩
              have qd := q15.out wx.drew (Below.refl _ _).drew
              go_wp2_with fail
              refine (num11 0 wx).mono ?_; rintro e wq ⟨rfl, hwq⟩; rw [hwq]; clear hwq wq
              go_upto_region 15 with (fail)
              go_cut [9, 10, 11, 12] from 60 to 67 (fun s9 s10 s11 s12 wy => ∃ b9 b10 b11 b12, s9 = .pointer (some ⟨b9, 0, none⟩) ∧ s10 = .pointer (some ⟨b10, 0, none⟩) ∧ s11 = .pointer (some ⟨b11, 0, none⟩) ∧ s12 = .pointer (some ⟨b12, 0, none⟩) ∧ Hid (Quad.Fin4 wx (gs4 scs E (.slice sA sn scp) (.slice oA on ocp) (.slice xA xn xcp) (.slice yA yn ycp)) b9 b10 b11 b12 wy))
              case first =>
                refine wp_region_held_drew (S := fun w' => w'.cell? ⟨b5, 0, none⟩ = some (.int .i64 scs.main.rows) ∧ w'.cell? ⟨b5, 1, none⟩ = some (.int .i64 scs.main.cols) ∧ w'.cell? ⟨b5, 2, none⟩ = some (.slice sA sn scp) ∧ w'.cell? ⟨b5, 3, none⟩ = some (.int .i64 scs.other.rows) ∧ w'.cell? ⟨b5, 4, none⟩ = some (.int .i64 scs.other.cols) ∧ w'.cell? ⟨b5, 5, none⟩ = some (.slice oA on ocp) ∧ w'.cell? ⟨b7, 0, none⟩ = some (.int .i64 E.main.rows) ∧ w'.cell? ⟨b7, 1, none⟩ = some (.int .i64 E.main.cols) ∧ w'.cell? ⟨b7, 2, none⟩ = some (.slice xA xn xcp) ∧ w'.cell? ⟨b7, 3, none⟩ = some (.int .i64 E.other.rows) ∧ w'.cell? ⟨b7, 4, none⟩ = some (.int .i64 E.other.cols) ∧ w'.cell? ⟨b7, 5, none⟩ = some (.slice yA yn ycp)) (by kernel_rfl) qd (fun hHeld => ?_)
                refine wpAnyH_take (i := 0) (v := ?_) rfl (by kernel_rfl) (by kernel_rfl) (by kernel_rfl) (fun _ _ _ h => h) (Or.inl ⟨by rfl, ?_⟩) (by assumption) ?_
                rotate_left
                · intro w' hSw; first | (go_simp; done) | (go_simp; with_reducible rfl)
                simp only [Act.put, List.getElem_toArray, List.getElem_cons_zero, List.setIfInBounds_toArray, List.set_cons_zero, List.set_cons_succ]
                refine wpAnyH_take (i := 1) (v := ?_) rfl (by kernel_rfl) (by kernel_rfl) (by kernel_rfl) (fun _ _ _ h => h) (Or.inl ⟨by rfl, ?_⟩) (by assumption) ?_
                rotate_left
                · intro w' hSw; first | (go_simp; done) | (go_simp; with_reducible rfl)
                simp only [Act.put, List.getElem_toArray, List.getElem_cons_zero, List.getElem_cons_succ, List.setIfInBounds_toArray, List.set_cons_zero, List.set_cons_succ]
                refine wpAnyH_take (i := 2) (v := ?_) rfl (by kernel_rfl) (by kernel_rfl) (by kernel_rfl) (fun _ _ _ h => h) (Or.inl ⟨by rfl, ?_⟩) (by assumption) ?_
                rotate_left
                · intro w' hSw; first | (go_simp; done) | (go_simp; with_reducible rfl)
                simp only [Act.put, List.getElem_toArray, List.getElem_cons_zero, List.getElem_cons_succ, List.setIfInBounds_toArray, List.set_cons_zero, List.set_cons_succ]
                refine wpAnyH_take (i := 3) (v := ?_) rfl (by kernel_rfl) (by kernel_rfl) (by kernel_rfl) (fun _ _ _ h => h) (Or.inl ⟨by rfl, ?_⟩) (by assumption) ?_
                rotate_left
                · intro w' hSw; first | (go_simp; done) | (go_simp; with_reducible rfl)
                simp only [Act.put, List.getElem_toArray, List.getElem_cons_zero, List.getElem_cons_succ, List.setIfInBounds_toArray, List.set_cons_zero, List.set_cons_succ]
                refine wpAnyH_take (i := 4) (v := ?_) rfl (by kernel_rfl) (by kernel_rfl) (by kernel_rfl) (fun _ _ _ h => h) (Or.inl ⟨by rfl, ?_⟩) (by assumption) ?_
                rotate_left
                · intro w' hSw; first | (go_simp; done) | (go_simp; with_reducible rfl)
                simp only [Act.put, List.getElem_toArray, List.getElem_cons_zero, List.getElem_cons_succ, List.setIfInBounds_toArray, List.set_cons_zero, List.set_cons_succ]
                refine wpAnyH_take (i := 5) (v := ?_) rfl (by kernel_rfl) (by kernel_rfl) (by kernel_rfl) (fun _ _ _ h => h) (Or.inl ⟨by rfl, ?_⟩) (by assumption) ?_
                rotate_left
                · intro w' hSw; first | (go_simp; done) | (go_simp; with_reducible rfl)
                simp only [Act.put, List.getElem_toArray, List.getElem_cons_zero, List.getElem_cons_succ, List.setIfInBounds_toArray, List.set_cons_zero, List.set_cons_succ]
                refine wpAnyH_take (i := 6) (v := ?_) rfl (by kernel_rfl) (by kernel_rfl) (by kernel_rfl) (fun _ _ _ h => h) (Or.inl ⟨by rfl, ?_⟩) (by assumption) ?_
                rotate_left
                · intro w' hSw; first | (go_simp; done) | (go_simp; with_reducible rfl)
                simp only [Act.put, List.getElem_toArray, List.getElem_cons_zero, List.getElem_cons_succ, List.setIfInBounds_toArray, List.set_cons_zero, List.set_cons_succ]
                refine wpAnyH_take (i := 7) (v := ?_) rfl (by kernel_rfl) (by kernel_rfl) (by kernel_rfl) (fun _ _ _ h => h) (Or.inl ⟨by rfl, ?_⟩) (by assumption) ?_
                rotate_left
                · intro w' hSw; first | (go_simp; done) | (go_simp; with_reducible rfl)
                simp only [Act.put, List.getElem_toArray, List.getElem_cons_zero, List.getElem_cons_succ, List.setIfInBounds_toArray, List.set_cons_zero, List.set_cons_succ]
                refine Quad.quad_start (gs := gs4 scs E (.slice sA sn scp) (.slice oA on ocp) (.slice xA xn xcp) (.slice yA yn ycp)) ?_ (Nat.le_of_ble_eq_true rfl) (fun W hb => q15.out W ((Below.refl _ _).drew.trans hb)) (fun j hj => by rcases Quad.four hj with rfl | rfl | rfl | rfl <;> rfl) (fun j hj => by rcases Quad.four hj with rfl | rfl | rfl | rfl <;> rfl) rfl ?_ ?_
                · refine ⟨rfl, fun j hj => ?_, fun j hj => ?_⟩
                  · rcases Quad.four hj with rfl | rfl | rfl | rfl <;> exact ⟨_, rfl, rfl, rfl, rfl, by kernel_rfl⟩
                  · rcases Quad.four hj with rfl | rfl | rfl | rfl
                    all_goals
                      refine ⟨_, rfl, rfl, rfl, rfl, by kernel_rfl, by kernel_rfl, fun i hi => ?_⟩
                      rcases Quad.four (show i < 4 by omega) with rfl | rfl | rfl | rfl <;> first | (exfalso; omega) | kernel_rfl
                · exact fun i hi => by rcases (by omega : i = 0 ∨ i = 1 ∨ i = 2 ∨ i = 3 ∨ i = 4 ∨ i = 5 ∨ i = 6 ∨ i = 7 ∨ i = 8 ∨ i = 9 ∨ i = 10 ∨ i = 11 ∨ i = 12 ∨ i = 13 ∨ i = 14 ∨ i = 15) with rfl | rfl | rfl | rfl | rfl | rfl | rfl | rfl | rfl | rfl | rfl | rfl | rfl | rfl | rfl | rfl <;> rfl
                · intro wy b9 b10 b11 b12 hf
                  have HFN : Hid (Quad.Fin4 wx (gs4 scs E (.slice sA sn scp) (.slice oA on ocp) (.slice xA xn xcp) (.slice yA yn ycp)) b9 b10 b11 b12 wy) := Lib.hid ⟨(Below.refl _ _).drew.trans hf.bel, hf.ge, hf.ne, hf.x0, hf.x1, hf.x2, hf.x3⟩
                  clear hf
                  simp only [Act.put, List.setIfInBounds_toArray, List.set_cons_zero, List.set_cons_succ]
                  go_wp2_with fail
                  go_meet
                  exact ⟨_, _, _, _, rfl, rfl, rfl, rfl, HFN⟩
              case rest =>
              obtain ⟨b9, b10, b11, b12, rfl, rfl, rfl, rfl, HFN⟩ := hcut
              rename World => wy
              clear qd q15
              have HMy := Lib.hid (HMx.out.kept HFN.out.bel)
              have c6 : wy.cell? ⟨b5, 6, none⟩ = some (.bool scs.swapped) := (HMy.out.bx 1 rfl).cell 6
              obtain ⟨sw, hsw⟩ : ∃ b, scs.swapped = b := ⟨_, rfl⟩
              rw [hsw] at c6
              have HSW := Lib.hid hsw
              clear hsw
              go_upto_if 69 with (fail)
              go_cut [] from 70 to 73 (fun wz => Hid (Sorted scs E (.slice sA sn scp) (.slice oA on ocp) (.slice xA xn xcp) (.slice yA yn ycp) b9 b10 b11 b12 wz) ∧ Hid (Below wx.heap.size wx wz))
              case first =>
                cases sw
                · go_wp2_with fail
                  go_meet
                  exact ⟨Lib.hid (sorted_no HFN.out HSW.out HBS.out.sw), Lib.hid HFN.out.bel⟩
                · have y0 : wy.heap[b9]? = some (gbox scs.main.rows scs.main.cols (.slice sA sn scp)) := HFN.out.x0
                  have y1 : wy.heap[b10]? = some (gbox E.main.rows E.main.cols (.slice xA xn xcp)) := HFN.out.x1
                  have y2 : wy.heap[b11]? = some (gbox scs.other.rows scs.other.cols (.slice oA on ocp)) := HFN.out.x2
                  have y3 : wy.heap[b12]? = some (gbox E.other.rows E.other.cols (.slice yA yn ycp)) := HFN.out.x3
                  obtain ⟨n1, n2, n3, n4, n5, n6⟩ := HFN.out.ne
                  have m1 := Ne.symm n1; have m2 := Ne.symm n2; have m3 := Ne.symm n3; have m4 := Ne.symm n4; have m5 := Ne.symm n5; have m6 := Ne.symm n6
                  have e00 := Blk.cell y0 0; have e01 := Blk.cell y0 1; have e02 := Blk.cell y0 2
                  have e10 := Blk.cell y1 0; have e11 := Blk.cell y1 1; have e12 := Blk.cell y1 2
                  have e20 := Blk.cell y2 0; have e21 := Blk.cell y2 1; have e22 := Blk.cell y2 2
                  have e30 := Blk.cell y3 0; have e31 := Blk.cell y3 1; have e32 := Blk.cell y3 2
                  have f0 := Blk.free y0; have f1 := Blk.free y1; have f2 := Blk.free y2; have f3 := Blk.free y3
                  clear c6 y0 y1 y2 y3
                  go_upto_region 17 with (fail)
                  go_region
                  all_goals
                    have HZ2 := Lib.hid (sorted_yes HFN.out HSW.out HBS.out.sw)
                    clear e00 e01 e02 e10 e11 e12 e20 e21 e22 e30 e31 e32 f0 f1 f2 f3 n1 n2 n3 n4 n5 n6 m1 m2 m3 m4 m5 m6
                    first
                      | show Exit.then _ _ _ _ (swap4 scs E (.slice sA sn scp) (.slice oA on ocp) (.slice xA xn xcp) (.slice yA yn ycp) b9 b10 b11 b12 wy).drew
                      | show Exit.inBlock _ _ _ _ (swap4 scs E (.slice sA sn scp) (.slice oA on ocp) (.slice xA xn xcp) (.slice yA yn ycp) b9 b10 b11 b12 wy).drew
                    generalize swap4 scs E (.slice sA sn scp) (.slice oA on ocp) (.slice xA xn xcp) (.slice yA yn ycp) b9 b10 b11 b12 wy = wq at HZ2 ⊢
                    go_wp2_with fail
                    go_meet
                    exact ⟨Lib.hid (HZ2.out.1.kept (Below.refl _ _).drew), Lib.hid HZ2.out.2.drew⟩
              case rest =>
              obtain ⟨HSR, HBz⟩ := hcut
              rename World => wz
              clear HFN HMy HSW c6 wy
              have HMz := Lib.hid (HMx.out.kept HBz.out)
              have HZz := Lib.hid (HZx.out.kept HBz.out)
              have HIz : Hid (In wz scs (.slice sA sn scp) (.slice oA on ocp) scz) := Lib.hid (HIN.out _ HMz.out.run.bel)
              have HEz : Hid (In wz E (.slice xA xn xcp) (.slice yA yn ycp) z) := Lib.hid (HMz.out.ow 0 rfl).in_
              have HOE : Hid (Ok E) := Lib.hid (by rw [← HEE.out]; exact editS_okB HOK.out kk nn)
              have HFS := Lib.hid HOK.out.facts
              have HFE := Lib.hid HOE.out.facts
              clear HMx HBxx HZx HOX HIx HEE HOE
              obtain ⟨SX, hSX⟩ : ∃ X, seenX scs (.slice sA sn scp) (.slice oA on ocp) = X := ⟨_, rfl⟩
              obtain ⟨EX, hEX⟩ : ∃ X, seenX E (.slice xA xn xcp) (.slice yA yn ycp) = X := ⟨_, rfl⟩
              obtain ⟨SH, hSH⟩ : ∃ X, hidX scs (.slice sA sn scp) (.slice oA on ocp) = X := ⟨_, rfl⟩
              obtain ⟨EH, hEH⟩ : ∃ X, hidX E (.slice xA xn xcp) (.slice yA yn ycp) = X := ⟨_, rfl⟩
              have k1 := seenX_rm HIz.out
              have k2 := seenX_rm HEz.out
              have k3 := hidX_rm HIz.out
              have k4 := hidX_rm HEz.out
              have s0 := HSR.out.x0
              have s1 := HSR.out.x1
              have s2 := HSR.out.x2
              have s3 := HSR.out.x3
              rw [hSX] at k1 s0
              rw [hEX] at k2 s1
              rw [hSH] at k3 s2
              rw [hEH, HBS.out.hid] at k4 s3
              have HQ3 : Hid (∀ W, Below wz.heap.size wz W → Calls Tryz.prog 47 #[.agg #[.int .i64 (hidG scs).rows, .int .i64 (hidG scs).cols, SH], .agg #[.int .i64 (hidG scs).rows, .int .i64 (hidG scs).cols, EH]] W fun e w' => e = .returned (.bool true) ∧ Below W.heap.size W w') := Lib.hid fun W hb =>
                eqGrid_same _ _ (hidG scs).cells SH EH W (k3.kept hb).1 (k4.kept hb).1 (by have := grid_small (hid_ok HOK.out); omega)
              obtain ⟨N, hN⟩ : ∃ N, (seenG scs).cells.length = N := ⟨_, rfl⟩
              have hNE : (seenG E).cells.length = N := by rw [← hN]; exact (bes_len HBS.out.seen HFS.out.g HFE.out.g)
              obtain ⟨SA, SC, rfl, _⟩ := k1.1.form
              obtain ⟨EA, EC, rfl, _⟩ := k2.1.form
              rw [hN] at s0
              rw [hNE] at s1
              have HCS : Hid (∀ W, Below wz.heap.size wz W → Cs W (.slice SA N SC) (seenG scs).cells) := Lib.hid fun W hb => by rw [← hN]; exact (k1.kept hb).1
              have HCE : Hid (∀ W, Below wz.heap.size wz W → Cs W (.slice EA N EC) (seenG E).cells) := Lib.hid fun W hb => by rw [← hNE]; exact (k2.kept hb).1
              obtain ⟨C, hC⟩ : ∃ C : Nat, (seenG scs).cols = (C : Int) ∧ 1 ≤ C ∧ C ≤ 40 := ⟨(seenG scs).cols.toNat, by have f := HFS.out; have := f.gc; have := f.c1; have := f.c40; omega⟩
              obtain ⟨hC, hC1, hC40⟩ := hC
              have HBX : Hid (∀ W, Below wz.heap.size wz W → W.cell? ⟨b9, 1, none⟩ = some (.int .i64 (C : Int)) ∧ W.cell? ⟨b9, 2, none⟩ = some (.slice SA N SC) ∧ W.cell? ⟨b10, 2, none⟩ = some (.slice EA N EC)) := Lib.hid fun W hb =>
                ⟨by rw [← hC]; exact Blk.cell (Blk.kept s0 hb) 1, Blk.cell (Blk.kept s0 hb) 2, Blk.cell (Blk.kept s1 hb) 2⟩
              have HC2 : Hid (∀ i, i < N → (((i / C : Nat) : Int) < lowS scs kk ∨ highS scs kk < ((i / C : Nat) : Int)) → g (seenG E).cells i = g (seenG scs).cells i) := Lib.hid fun i hi ho => by
                have hct : (seenG scs).cols.toNat = C := by omega
                refine HBS.out.seen.cell (by omega) ?_ (by rw [hct]; exact ho)
                rw [hct]
                have qr := bes_rows HFS.out.g (i := i) (by rw [hct]; omega) (by rw [hN]; exact hi)
                rw [hct] at qr
                exact qr
              have t20 := Blk.cell s2 0
              have t21 := Blk.cell s2 1
              have t22 := Blk.cell s2 2
              have t30 := Blk.cell s3 0
              have t31 := Blk.cell s3 1
              have t32 := Blk.cell s3 2
              obtain ⟨t91, t92, t102⟩ := HBX.out wz (Below.refl _ _)
              have HLS : Hid ((seenG scs).cells.length = N) := Lib.hid hN
              have HLE : Hid ((seenG E).cells.length = N) := Lib.hid hNE
              have HNS : Hid (N ≤ 1600) := Lib.hid (by rw [← hN]; exact grid_small HFS.out.g)
              clear k1 k2 k3 k4 s0 s1 s2 s3 hN hNE hC HSR HIz HEz HBS hSX hEX hSH hEH
              generalize (hidG scs).rows = RH at HQ3 t20 t30
              generalize (hidG scs).cols = CH at HQ3 t21 t31
              go_wp2_with fail
              refine (HQ3.out wz (Below.refl _ _)).mono ?_; rintro e wa ⟨rfl, hba⟩
              have HBa := Lib.hid hba
              clear hba t20 t21 t22 t30 t31 t32 t91 t92 t102 HQ3
              obtain ⟨t91, t92, t102⟩ := HBX.out wa HBa.out
              have HMa := Lib.hid (HMz.out.kept HBa.out)
              have r7 : wa.cell? ⟨b5, 7, none⟩ = some (.int .i64 scs.cur.row) := (HMa.out.bx 1 rfl).cell 7
              have r37 : wa.cell? ⟨b5, 37, none⟩ = some (.int .i64 scs.top) := (HMa.out.bx 1 rfl).cell 37
              have r38 : wa.cell? ⟨b5, 38, none⟩ = some (.int .i64 scs.bottom) := (HMa.out.bx 1 rfl).cell 38
              go_upto_region 20 with (fail)
              go_cut [13, 14] from 87 to 92 (fun s13 s14 wv => s13 = .int .i64 scs.cur.row ∧ s14 = .int .i64 scs.cur.row ∧ Hid (Below wz.heap.size wz wv))
              case first =>
                go_quiet (fail)
                go_wp2_with fail
                go_meet
                exact ⟨rfl, rfl, Lib.hid (below_drewN HBa.out _)⟩
              case rest =>
              obtain ⟨rfl, rfl, HBb⟩ := hcut
              rename World => wb
              clear r7 r37 r38 t91 t92 t102 HMa HBa
              have HMb := Lib.hid (HMz.out.kept HBb.out)
              have r37 : wb.cell? ⟨b5, 37, none⟩ = some (.int .i64 scs.top) := (HMb.out.bx 1 rfl).cell 37
              have r38 : wb.cell? ⟨b5, 38, none⟩ = some (.int .i64 scs.bottom) := (HMb.out.bx 1 rfl).cell 38
              obtain ⟨lo, hlo⟩ : ∃ q, lowS scs kk = q := ⟨_, rfl⟩
              obtain ⟨hi', hhi⟩ : ∃ q, highS scs kk = q := ⟨_, rfl⟩
              rw [hlo, hhi] at HC2 HLO
              clear hlo hhi
              go_upto_if 94 with (fail)
              go_cut [13, 14] from 94 to 98 (fun s13 s14 wv => s13 = .int .i64 lo ∧ s14 = .int .i64 hi' ∧ Hid (Below wz.heap.size wz wv))
              case first =>
                by_cases h3 : 3 < u
                · have h3i : (3 : Int) < (u : Int) := by omega
                  have HL2 : Hid (lo = scs.top ∧ hi' = scs.bottom) := Lib.hid (by have q := HLO.out; rw [if_pos h3, if_pos h3] at q; exact q)
                  go_upto_region 22 with (fail)
                  go_quiet (fail)
                  go_wp2_with fail
                  go_meet
                  exact ⟨by rw [HL2.out.1], by rw [HL2.out.2], Lib.hid (below_drewN HBb.out _)⟩
                · have h3i : ¬ ((3 : Int) < (u : Int)) := by omega
                  have HL2 : Hid (lo = scs.cur.row ∧ hi' = scs.cur.row) := Lib.hid (by have q := HLO.out; rw [if_neg h3, if_neg h3] at q; exact q)
                  go_wp2_with fail
                  go_meet
                  exact ⟨by rw [HL2.out.1], by rw [HL2.out.2], HBb⟩
              case rest =>
              obtain ⟨rfl, rfl, HBc⟩ := hcut
              rename World => wc
              clear r37 r38 HMb HBb HLO
              go_wp2_with fail
              go_loopw [15] (fun j wr => ∃ p : Nat, p ≤ N ∧ j = .int .i64 p ∧ Hid (Below wz.heap.size wz wr)) (fun j _ => N - (intOf j).toNat)
              case atStart => exact ⟨0, by omega, rfl, HBc⟩
              case round =>
                clear HBc
                obtain ⟨p, hp, rfl, HBr⟩ := hrel
                obtain ⟨t91, t92, t102⟩ := HBX.out wr HBr.out
                by_cases hpN : p < N
                · have hpi : (p : Int) < (N : Int) := by omega
                  have hpd : decide ((p : Int) < (N : Int)) = true := decide_eq_true hpi
                  have hN16 : N ≤ 1600 := HNS.out
                  have hc0 : ¬ ((C : Int) = 0) := by omega
                  obtain ⟨ρ, hρ⟩ : ∃ q : Int, ((p / C : Nat) : Int) = q := ⟨_, rfl⟩
                  have hdv : wrap64 ((p : Int) / (C : Int)) = ρ := by
                    have e : (p : Int) / (C : Int) = ρ := by rw [← hρ]; exact (Int.natCast_ediv p C).symm
                    rw [e]
                    have h1 := Nat.div_le_self p C
                    have h0 : (0 : Int) ≤ ρ := by rw [← hρ]; exact Int.natCast_nonneg _
                    have h2 : ρ ≤ (p : Int) := by rw [← hρ]; exact Int.ofNat_le.2 h1
                    clear hρ e h1
                    unfold wrap64
                    omega
                  have HC3 := Lib.hid (HC2.out p hpN)
                  rw [hρ] at HC3
                  clear hρ
                  go_upto_region 27 with (fail)
                  rw [hdv]
                  clear hdv
                  go_cut [130] from 110 to 130 (fun s130 wv => s130 = .bool false ∧ Hid (Below wz.heap.size wz wv))
                  case first =>
                    by_cases ho : ρ < lo ∨ hi' < ρ
                    · obtain ⟨ad1, rfl, K⟩ := cs_at (HCS.out wr HBr.out) (HLS.out ▸ hpN)
                      obtain ⟨ad2, rfl, K'⟩ := cs_at (HCE.out wr HBr.out) (HLE.out ▸ hpN)
                      rw [HC3.out ho] at K'
                      generalize g (seenG scs).cells p = ev at K K'
                      obtain ⟨rune, cb, wide, ⟨fg, bg, fl⟩⟩ := ev
                      have h0 := K.head
                      have h1 := K.next 0 rfl
                      have h2 := K.next 1 rfl
                      have h3 := K.next 2 rfl
                      have h4 := K.next 3 rfl
                      have h5 := K.next 4 rfl
                      have i0 := K'.head
                      have i1 := K'.next 0 rfl
                      have i2 := K'.next 1 rfl
                      have i3 := K'.next 2 rfl
                      have i4 := K'.next 3 rfl
                      have i5 := K'.next 4 rfl
                      clear K K' HC3
                      by_cases hlt : ρ < lo
                      · go_quiet (fail)
                        go_wp2_with fail
                        go_meet
                        exact ⟨rfl, Lib.hid (below_drewN HBr.out _)⟩
                      · have hgt : hi' < ρ := ho.resolve_left hlt
                        go_quiet (fail)
                        go_wp2_with fail
                        go_meet
                        exact ⟨rfl, Lib.hid (below_drewN HBr.out _)⟩
                    · have hlt : ¬ ρ < lo := fun q => ho (.inl q)
                      have hgt : ¬ hi' < ρ := fun q => ho (.inr q)
                      clear ho HC3
                      go_quiet (fail)
                      go_wp2_with fail
                      go_meet
                      exact ⟨rfl, Lib.hid (below_drewN HBr.out _)⟩
                  case rest =>
                  obtain ⟨rfl, HBd⟩ := hcut
                  rename World => wd
                  clear t91 t92 t102 HBr HC3
                  go_wp2_with fail
                  go_roundw
                  case rel => exact ⟨p + 1, by omega, by go_num, HBd⟩
                  case measure => simp [intOf]; omega
                · obtain rfl : p = N := by omega
                  have hpd : decide ((p : Int) < (p : Int)) = false := decide_eq_false (by omega)
                  have HMn := Lib.hid ((HMz.out.kept HBr.out).of (L' := [(b5, ⟨scs, .slice sA sn scp, .slice oA on ocp, scz⟩)]) (O' := []) (fun p hp => List.mem_cons_of_mem _ hp) (fun p hp => (List.not_mem_nil hp).elim))
                  have HZn := Lib.hid (HZz.out.kept HBr.out)
                  go_wp2_with fail
                  go_roundw
                  case rel => exact ⟨u + 1, by omega, by go_num, HMn, HZn⟩
                  case measure => simp [intOf]; omega
            · obtain rfl : u = 8 := by omega
              go_wp2_with fail
              go_roundw
              case rel => exact ⟨i + 1, by omega, by omega, by go_num, Lib.hid HM.out.run, HZ⟩
              case measure => simp [intOf]; omega
      · obtain rfl : i = 4 := by omega
        go_wp2_with fail
        refine (HWK.out wr HR.out.bel).mono ?_; rintro e w2 ⟨rfl, hb⟩
        go_wp2_with fail
        go_ret
        exact ⟨rfl, HR.out.bel.trans (hb.mono HR.out.bel.size)⟩
    · obtain rfl : i = q := by omega
      go_wp2_with fail
      refine (HWK.out wr HR.out.bel).mono ?_; rintro e w2 ⟨rfl, hb⟩
      go_wp2_with fail
      go_ret
      exact ⟨rfl, HR.out.bel.trans (hb.mono HR.out.bel.size)⟩
end Scr
end Go.Proofs.YtceaoadlhdgnmaaGreatDoor
