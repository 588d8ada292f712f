/- Joined texts: MdBoth, MdBothL. -/
import Derived.Test.YtceaoadlhdgnmaaGreatDoorM211
import Derived.Test.YtceaoadlhdgnmaaGreatDoorM304
import Derived.Test.YtceaoadlhdgnmaaGreatDoorM321
import Derived.Deep.CutRange
import Derived.Deep.DeepCutAuto
import Derived.BigQuiet
namespace Go.Proofs.YtceaoadlhdgnmaaGreatDoor
set_option maxRecDepth 100000
section
open Go.RowKit
namespace Scr
open Go.Proofs.YtceaoadlhdgnmaaGreatDoor.Row Wid
theorem Ms.box1 {w W W' : World} {v : Value} {n m k r : Int} {L O : List (Nat × Sc)} (h : Ms w v n m k r L O W) {e : Sc} (hi : In W e.s e.x e.y e.z) (hs : Sto (W.alloc (.cells zarr 36)) W.heap.size (sarr e.s e.x e.y e.z) W') : Ms w v n m k r ((W.heap.size, e) :: L) O W' := by
  obtain ⟨h1, h2⟩ := bx_sto hi hs
  refine ⟨h.run.kept h2, fun p hp => ?_, fun p hp => (h.own p hp).kept h2⟩
  rcases List.mem_cons.1 hp with rfl | hp
  · exact h1.box
  · exact (h.box p hp).kept h2
theorem wid_abc : ∀ u : Fin 5, wid (97 + (u.val : Int)) = 1 := of_decide_eq_true (by kernel_rfl)
set_option maxHeartbeats 12000000 in
theorem both_any (nn : Int) (hN : numB nn = true) (v : Value) (l : List Sc) (n m k r : Int) (w : World) (h : Scrs 1048576 w v l) (hl : l.length ≤ 140737488355328) (hT : Tabs w) :
    Calls Tryz.prog 32 #[.agg #[v, .int .i64 n, .int .i64 m, .int .i64 k, .int .i64 r], .int .i64 nn] w fun e w' => e = .returned (.bool true) ∧ Below w.heap.size w w' := by
  have HT := Lib.hid hT
  have HNN := Lib.hid hN
  obtain ⟨⟨A, c, rfl, hc, hf⟩, h2⟩ := id h
  have HF := Lib.hid hf
  have H2 := Lib.hid h2
  have H0 := Lib.hid (Run.start w (.slice A l.length c) n m k r)
  have HH := Lib.hid (heavy8 (.slice A l.length c) l n m k r _ (h.kept H0.out.bel) hl (by decide))
  have HWK := Lib.hid (fun W (hW : Below w.heap.size w W) => wakes12 W (hT.kept hW))
  obtain ⟨q, hq⟩ : ∃ q, l.length = q := ⟨_, rfl⟩
  rw [hq] at HF H2 H0 HH ⊢
  clear h hT h2 hf hl hc hq hN
  go_enter Tryz.func32, Tryz.ntmps32
  go_wp2_with fail
  refine HH.out.mono ?_; rintro e w1 ⟨b, rfl, hw, hb⟩
  have H1 := Lib.hid (H0.out.kept hb)
  have HW := Lib.hid hw
  clear hw hb HH H0
  cases b
  case true =>
    go_wp2_with fail
    go_ret
    exact ⟨rfl, H1.out.bel⟩
  go_wp2_with fail
  go_loopw [5] (fun j wr => ∃ i : Nat, i ≤ q ∧ i ≤ 4 ∧ j = .int .i64 i ∧ Hid (Run w wr (.slice A q c) n m k r)) (fun j _ => q - (intOf j).toNat)
  case atStart => exact ⟨0, by omega, by omega, rfl, H1⟩
  case round =>
    clear H1
    obtain ⟨i, hi, hi4, rfl, HR⟩ := hrel
    have b0 : wr.cell? ⟨w.heap.size, 0, none⟩ = some (.slice A q c) := Blk.cell HR.out.box 0
    by_cases hiq : i < q
    · by_cases h4 : i < 4
      · obtain ⟨ad, rfl, hat⟩ := HF.out i hiq
        have hI := H2.out i hiq
        have hFt := fit8 hI.2 (HW.out trivial i hiq)
        generalize l.getD i noSc = sc at hat hI hFt
        have HAT := Lib.hid (show At w (ad.add (i * 43)) (sarr sc.s sc.x sc.y sc.z).toList from hat)
        have HIN : Hid (∀ W, Below w.heap.size w W → sc.in_ W) := Lib.hid fun W hb => hI.1.kept hb
        have HFT := Lib.hid hFt
        clear hat hI hFt
        have h4i : (i : Int) < 4 := by omega
        have h4d : decide ((i : Int) < 4) = true := decide_eq_true h4i
        have HI0 := Lib.hid (HIN.out _ HR.out.bel)
        have HM0 : Hid (Ms w (.slice (some ad) q c) n m k r [] [] wr) := Lib.hid ⟨HR.out, (fun p hp => (List.not_mem_nil hp).elim), (fun p hp => (List.not_mem_nil hp).elim)⟩
        have HBx : Hid (w.heap.size < wr.heap.size) := Lib.hid (Blk.lt HR.out.box)
        go_upto_region 7 with (first
          | (refine wp_loadArg rfl rfl rfl (HAT.out.kept HR.out.bel) ?_)
          | (refine wp_allocS (n := wr.heap.size) rfl rfl rfl ?_)
          | (refine wp_storeS_then (b := wr.heap.size) (A := sarr sc.s sc.x sc.y sc.z) (T := fun W => Ms w (.slice (some ad) q c) n m k r [(wr.heap.size, sc)] [] W ∧ Below wr.heap.size wr W) rfl rfl rfl rfl rfl HI0.out.one (heap_alloc_new _ _) rfl (fun _ kk => ⟨HM0.out.box1 (e := sc) HI0.out kk, (bx_sto HI0.out kk).2⟩) ?_; intro w2 H2m))
        go_simp
        change Code.wp _ _ _ _ w2
        have HRB := Lib.hid (HR.out.bel.trans (H2m.out.2.mono HR.out.bel.size))
        have HI2 := Lib.hid (HIN.out _ HRB.out)
        have HM2 := Lib.hid H2m.out.1
        clear H2m HI0 HM0 HR b0
        generalize wr.heap.size = b6 at HM2 HBx ⊢
        go_wp2_with (refine wp_loadS (b := b6) (s := sc.s) (x0 := sc.x) (y0 := sc.y) (z0 := sc.z) rfl rfl rfl (HM2.out.bx 0 rfl) ?_)
        refine (refScreen_any sc.s sc.x sc.y sc.z w2 HI2.out HFT.out.sh (HT.out.kept HRB.out)).mono ?_; rintro e w3 ⟨rfl, hb⟩
        have HM3 := Lib.hid (HM2.out.kept hb)
        have HI3 := Lib.hid (HIN.out _ HM3.out.run.bel)
        clear hb HM2 HI2 HRB
        cases hok : okB sc.s
        · go_wp2_with fail
          go_roundw
          case rel => exact ⟨i + 1, by omega, by omega, by go_num, Lib.hid HM3.out.run⟩
          case measure => simp [intOf]; omega
        · have HOK := Lib.hid ((ok_iff _).1 hok)
          clear hok
          go_wp2_with fail
          go_loopw [7] (fun j wr => ∃ (u : Nat) (e : Sc), u ≤ 5 ∧ j = .int .i64 u ∧ Hid (Ms w (.slice (some ad) q c) n m k r [(b6, e)] [] wr) ∧ Hid (e.in_ wr) ∧ Hid (Ok e.s)) (fun j _ => 5 - (intOf j).toNat)
          case atStart => exact ⟨0, sc, by omega, rfl, HM3, HI3, HOK⟩
          case round =>
            clear HM3 HI3 HOK
            obtain ⟨u, e, hu, rfl, HM, HI, HOK⟩ := hrel
            by_cases hu5 : u < 5
            · have hui : (u : Int) < 5 := by omega
              have hud : decide ((u : Int) < 5) = true := decide_eq_true hui
              have hw97 : IntKind.i64.wrap (97 + (u : Int)) = 97 + (u : Int) := by rw [IntKind.wrap_i64]; omega
              have HWID := Lib.hid (wid_abc ⟨u, hu5⟩)
              rename World => wm
              have HE : Hid (∀ W, Below wm.heap.size wm W → In W e.s e.x e.y e.z) := Lib.hid fun W hb => In.kept HI.out hb
              have HL := Lib.hid HOK.out.lens
              have HFE := Lib.hid ((ok_iff _).2 HOK.out)
              have HMD : Hid ((okB e.s && numB nn) = true) := Lib.hid (by rw [HFE.out, HNN.out]; rfl)
              go_wp2_with (refine wp_loadS (b := b6) (s := e.s) (x0 := e.x) (y0 := e.y) (z0 := e.z) rfl rfl rfl (HM.out.bx 0 rfl) ?_)
              refine (copyScreen_any e.s e.x e.y e.z wm (HE.out _ (Below.refl _ _)) HL.out).mono ?_; rintro e' w3 ⟨xi, yi, zi, rfl, ho, hb⟩
              have HO3 := Lib.hid ho
              have HB3 := Lib.hid hb
              have HM3 := Lib.hid (HM.out.kept hb)
              have HLT : Hid (w.heap.size < wm.heap.size) := Lib.hid (Nat.lt_trans HBx.out (HM.out.lt _ List.mem_cons_self))
              have HL6 : Hid (b6 < wm.heap.size) := Lib.hid (HM.out.lt _ List.mem_cons_self)
              clear ho hb HM HI
              go_upto_region 12 with (first
                | (refine wp_allocS (n := w3.heap.size) rfl rfl rfl ?_)
                | (refine wp_storeS_then (b := w3.heap.size) (A := sarr e.s xi yi zi) (T := fun W => Ms w (.slice (some ad) q c) n m k r [(w3.heap.size, (Sc.mk e.s xi yi zi)), (b6, e)] [(wm.heap.size, (Sc.mk e.s xi yi zi))] W ∧ Below wm.heap.size wm W) rfl rfl rfl rfl rfl HO3.out.in_.one (heap_alloc_new _ _) rfl (fun _ kk => ⟨HM3.out.more (e := (Sc.mk e.s xi yi zi)) HO3.out kk, HB3.out.trans ((bx_sto (e := (Sc.mk e.s xi yi zi)) HO3.out.in_ kk).2.mono HB3.out.size)⟩) ?_; intro w4 H4))
              go_simp
              change Code.wp _ _ _ _ w4
              have HM4 := Lib.hid H4.out.1
              have HB4 := Lib.hid H4.out.2
              have H36 : Hid (b6 < w3.heap.size) := Lib.hid (Nat.lt_of_lt_of_le HL6.out HB3.out.size)
              clear H4 HM3 HO3 HB3
              generalize w3.heap.size = b8 at HM4 H36 ⊢
              obtain ⟨pb, hpb⟩ : ∃ q, (bits .and .i64 n 1 == 1) = q := ⟨_, rfl⟩
              have b1 : w4.cell? ⟨w.heap.size, 1, none⟩ = some (.int .i64 n) := Blk.cell HM4.out.run.box 1
              go_upto_if 46 with (fail)
              go_cut [9] from 43 to 49 (fun s9 wx => ∃ ob, s9 = .bool ob ∧ wx = w4)
              case first =>
                go_wp2_with fail
                all_goals
                  go_meet
                  exact ⟨_, rfl, rfl⟩
              case rest =>
              obtain ⟨ob, rfl, hwx⟩ := hcut
              subst hwx
              rename World => w4
              clear b1 hpb
              go_wp2_with (refine wp_loadS (b := b8) (s := e.s) (x0 := xi) (y0 := yi) (z0 := zi) rfl rfl rfl (HM4.out.bx 0 rfl) ?_)
              refine (setD e.s xi yi zi true ob nn _ (HM4.out.ow 0 rfl).in_ (Ok.holds HOK.out) (HT.out.kept HM4.out.run.bel)).mono ?_; rintro e' w5 ⟨X, x, y, z, code, rfl, hans⟩
              rw [HMD.out] at hans
              obtain rfl : X = setS e.s true nn ob := hans.yes rfl
              have HCD := Lib.hid hans.code
              have HO5 := Lib.hid hans.own
              have HB5 := Lib.hid (HB4.out.trans (hans.bel.mono HB4.out.size))
              have HLI := Lib.hid (HM4.out.ow 0 rfl).lt3
              have HM5 := Lib.hid (HM4.out.kept hans.bel)
              have HBB : Hid (wm.heap.size ≤ w4.heap.size ∧ w4.heap.size ≤ w5.heap.size ∧ b8 < w4.heap.size) := Lib.hid ⟨HB4.out.size, hans.bel.size, HM4.out.lt _ List.mem_cons_self⟩
              clear hans HM4 HB4
              go_upto_region 16 with (first
                | (refine wp_allocS (n := w5.heap.size) rfl rfl rfl ?_)
                | (refine wp_storeS_then (b := w5.heap.size) (A := sarr (setS e.s true nn ob) x y z) (T := fun W => Ms w (.slice (some ad) q c) n m k r [(w5.heap.size, (Sc.mk (setS e.s true nn ob) x y z)), (b8, (Sc.mk e.s xi yi zi)), (b6, e)] [(w4.heap.size, (Sc.mk (setS e.s true nn ob) x y z)), (wm.heap.size, (Sc.mk e.s xi yi zi))] W ∧ Below wm.heap.size wm W) rfl rfl rfl rfl rfl HO5.out.in_.one (heap_alloc_new _ _) rfl (fun _ kk => ⟨HM5.out.more (e := (Sc.mk (setS e.s true nn ob) x y z)) HO5.out kk, HB5.out.trans ((bx_sto (e := (Sc.mk (setS e.s true nn ob) x y z)) HO5.out.in_ kk).2.mono HB5.out.size)⟩) ?_; intro w6 H6))
              go_simp
              change Code.wp _ _ _ _ w6
              have HM6 := Lib.hid H6.out.1
              have HB6 := Lib.hid H6.out.2
              have HLX := Lib.hid HO5.out.lt3
              have H58 : Hid (w5.heap.size < w6.heap.size) := Lib.hid (HM6.out.lt _ List.mem_cons_self)
              clear H6 HM5 HO5 HB5
              generalize w5.heap.size = b10 at HM6 H58 HLX HBB ⊢
              generalize w4.heap.size = B at HM6 HBB HLI ⊢
              go_wp2_with (refine wp_loadS (b := b6) (s := e.s) (x0 := e.x) (y0 := e.y) (z0 := e.z) rfl rfl rfl (HM6.out.bx 2 rfl) ?_)
              refine (refSet_any e.s e.x e.y e.z true nn ob w6 (HE.out _ HB6.out) HOK.out).mono ?_; rintro e' w7 ⟨xr, yr, zr, rfl, ho, hb⟩
              have HO7 := Lib.hid ho
              have HB7 := Lib.hid (HB6.out.trans (hb.mono HB6.out.size))
              have HM7 := Lib.hid (HM6.out.kept hb)
              have H67 : Hid (w6.heap.size ≤ w7.heap.size) := Lib.hid hb.size
              clear ho hb HM6 HB6
              go_upto_region 17 with (first
                | (refine wp_allocS (n := w7.heap.size) rfl rfl rfl ?_)
                | (refine wp_storeS_then (b := w7.heap.size) (A := sarr (setS e.s true nn ob) xr yr zr) (T := fun W => Ms w (.slice (some ad) q c) n m k r [(w7.heap.size, (Sc.mk (setS e.s true nn ob) xr yr zr)), (b10, (Sc.mk (setS e.s true nn ob) x y z)), (b8, (Sc.mk e.s xi yi zi)), (b6, e)] [(w6.heap.size, (Sc.mk (setS e.s true nn ob) xr yr zr)), (B, (Sc.mk (setS e.s true nn ob) x y z)), (wm.heap.size, (Sc.mk e.s xi yi zi))] W ∧ Below wm.heap.size wm W) rfl rfl rfl rfl rfl HO7.out.in_.one (heap_alloc_new _ _) rfl (fun _ kk => ⟨HM7.out.more (e := (Sc.mk (setS e.s true nn ob) xr yr zr)) HO7.out kk, HB7.out.trans ((bx_sto (e := (Sc.mk (setS e.s true nn ob) xr yr zr)) HO7.out.in_ kk).2.mono HB7.out.size)⟩) ?_; intro w8 H8))
              go_simp
              change Code.wp _ _ _ _ w8
              have HM8 := Lib.hid H8.out.1
              have HB8 := Lib.hid H8.out.2
              have H78 : Hid (w7.heap.size < w8.heap.size) := Lib.hid (HM8.out.lt _ List.mem_cons_self)
              clear H8 HM7 HO7 HB7
              generalize w7.heap.size = b12 at HM8 H78 H67 ⊢
              generalize w6.heap.size = BR at HM8 H67 H58 ⊢
              have HSM : Hid (Calls Tryz.prog 21 #[sv (setS e.s true nn ob) x y z, .int .i64 code, .bool true, sv (setS e.s true nn ob) xr yr zr, sv e.s xi yi zi, sv e.s e.x e.y e.z] w8 fun e' w' => e' = .returned (.bool true) ∧ Below B w8 w' ∧ Boxes w8 w' ∧ Far w8 w' x y z) := Lib.hid
                (same_any2 true B (setS e.s true nn ob) (setS e.s true nn ob) x y z xr yr zr code e.s xi yi zi e.x e.y e.z w8 (by have := HBB.out; have := H58.out; have := H67.out; have := H78.out; omega) HCD.out
                  (fun _ => ⟨rfl, HM8.out.ow 1 rfl, (HM8.out.ow 0 rfl).in_, (setS_ok HOK.out _ _ _).lens8⟩) (fun hh => by cases hh)
                  (fun W' hb => ((HM8.out.ow 2 rfl).keptB HLI.out hb).in_) (fun W' hb => HE.out W' (HB8.out.trans (hb.mono HBB.out.1))) HOK.out.lens8)
              go_wp2_with (first
                | (refine wp_loadS (b := b10) (s := (setS e.s true nn ob)) (x0 := x) (y0 := y) (z0 := z) rfl rfl rfl (HM8.out.bx 1 rfl) ?_)
                | (refine wp_loadS (b := b12) (s := (setS e.s true nn ob)) (x0 := xr) (y0 := yr) (z0 := zr) rfl rfl rfl (HM8.out.bx 0 rfl) ?_)
                | (refine wp_loadS (b := b8) (s := e.s) (x0 := xi) (y0 := yi) (z0 := zi) rfl rfl rfl (HM8.out.bx 2 rfl) ?_)
                | (refine wp_loadS (b := b6) (s := e.s) (x0 := e.x) (y0 := e.y) (z0 := e.z) rfl rfl rfl (HM8.out.bx 3 rfl) ?_))
              refine HSM.out.mono ?_; rintro e' w9 ⟨rfl, hb, hx, hf⟩
              have HM9 : Hid (Ms w (.slice (some ad) q c) n m k r [(b12, (Sc.mk (setS e.s true nn ob) xr yr zr)), (b10, (Sc.mk (setS e.s true nn ob) x y z)), (b8, (Sc.mk e.s xi yi zi)), (b6, e)] [(BR, (Sc.mk (setS e.s true nn ob) xr yr zr))] w9) := Lib.hid (HM8.out.after (by have := HBB.out; have := HLT.out; omega) hb hx hf (fun p hp => by
                have hp := List.mem_singleton.1 hp
                subst hp
                exact ⟨by simp, .inr (HLX.out.mono (Nat.le_of_lt H58.out))⟩))
              have HB9 := Lib.hid (HB8.out.trans (hb.mono HBB.out.1))
              have H89 : Hid (b6 < w9.heap.size) := Lib.hid (HM9.out.lt _ (List.mem_of_getElem? (i := 3) rfl))
              clear hb hx hf HSM HM8 HB8
              go_wp2_with (refine wp_loadS (b := b12) (s := (setS e.s true nn ob)) (x0 := xr) (y0 := yr) (z0 := zr) rfl rfl rfl (HM9.out.bx 0 rfl) ?_)
              refine (refPrint_narrow (setS e.s true nn ob) xr yr zr (97 + (u : Int)) w9 (HM9.out.ow 0 rfl).in_ (setS_ok HOK.out _ _ _) HWID.out).mono ?_; rintro e' w10 ⟨xp, yp, zp, rfl, ho, hb⟩
              have HPK := Lib.hid (writeS_ok (setS_ok HOK.out true nn ob) (r := 97 + (u : Int)) (n := 1) HWID.out (.inl rfl))
              obtain ⟨P, hP⟩ : ∃ P, writeS (setS e.s true nn ob) (97 + (u : Int)) 1 = P := ⟨_, rfl⟩
              rw [hP] at ho HPK ⊢
              clear hP
              have HM10 := Lib.hid (HM9.out.kept hb)
              have HO10 := Lib.hid ho
              clear ho hb HM9
              go_upto_region 10 with (refine wp_storeS_then (b := b6) (A := sarr P xp yp zp) (T := fun W => Ms w (.slice (some ad) q c) n m k r [(b6, (Sc.mk P xp yp zp))] [(w9.heap.size, (Sc.mk P xp yp zp))] W) rfl rfl rfl rfl rfl HO10.out.in_.one (HM10.out.bx 3 rfl) rfl (fun _ kk => (HM10.out.put (e := (Sc.mk P xp yp zp)) (old := e) (L' := [(b6, (Sc.mk P xp yp zp))]) (HM10.out.bx 3 rfl) HBx.out HO10.out kk (fun p hp => .inl (List.mem_singleton.1 hp))).of (fun p hp => hp) (fun p hp => by rw [List.mem_singleton.1 hp]; exact List.mem_cons_self)) ?_; intro w11 H11)
              have HM11 := Lib.hid (H11.out.of (L' := [(b6, (Sc.mk P xp yp zp))]) (O' := []) (fun p hp => hp) (fun p hp => (List.not_mem_nil hp).elim))
              have HI11 : Hid (Sc.in_ w11 (Sc.mk P xp yp zp)) := Lib.hid (H11.out.ow 0 rfl).in_
              clear H11 HM10 HO10
              go_wp2_with fail
              go_roundw
              case rel => exact ⟨u + 1, (Sc.mk P xp yp zp), by omega, by go_num, HM11, HI11, HPK⟩
              case measure => simp [intOf]; omega
            · obtain rfl : u = 5 := by omega
              go_wp2_with fail
              go_roundw
              case rel => exact ⟨i + 1, by omega, by omega, by go_num, Lib.hid HM.out.run⟩
              case measure => simp [intOf]; omega
      · obtain rfl : i = 4 := by omega
        go_wp2_with fail
        refine (HWK.out wr HR.out.bel).mono ?_; rintro e w2 ⟨rfl, hb⟩
        go_wp2_with fail
        go_ret
        exact ⟨rfl, HR.out.bel.trans (hb.mono HR.out.bel.size)⟩
    · obtain rfl : i = q := by omega
      go_wp2_with fail
      refine (HWK.out wr HR.out.bel).mono ?_; rintro e w2 ⟨rfl, hb⟩
      go_wp2_with fail
      go_ret
      exact ⟨rfl, HR.out.bel.trans (hb.mono HR.out.bel.size)⟩
end Scr
end
section
open Go.RowKit
namespace Scr
open Go.Proofs.YtceaoadlhdgnmaaGreatDoor.Row Wid
theorem lawModeWrap_any (v : Value) (l : List Sc) (n m k r : Int) (w : World) (h : Scrs 1048576 w v l) (hl : l.length ≤ 140737488355328) (hT : Tabs w) :
    Calls Tryz.prog 6 #[.agg #[v, .int .i64 n, .int .i64 m, .int .i64 k, .int .i64 r]] w fun e w' => e = .returned (.bool true) ∧ Below w.heap.size w w' := by
  have hb0 := bel_alloc w (.cells #[v, .int .i64 n, .int .i64 m, .int .i64 k, .int .i64 r] 24)
  have HB0 := Lib.hid hb0
  have HB := Lib.hid (both_any 7 (by rfl) v l n m k r (w.alloc (.cells #[v, .int .i64 n, .int .i64 m, .int .i64 k, .int .i64 r] 24)) (h.kept hb0) hl (hT.kept hb0))
  clear h hl hT hb0
  go_enter Tryz.func6, Tryz.ntmps6
  go_wp2_with fail
  refine HB.out.mono ?_; rintro e w1 ⟨rfl, hb⟩
  have HB1 := Lib.hid hb
  clear hb
  go_wp2_with fail
  go_ret
  exact ⟨rfl, HB0.out.trans (HB1.out.mono HB0.out.size)⟩
theorem lawModeOrigin_any (v : Value) (l : List Sc) (n m k r : Int) (w : World) (h : Scrs 1048576 w v l) (hl : l.length ≤ 140737488355328) (hT : Tabs w) :
    Calls Tryz.prog 7 #[.agg #[v, .int .i64 n, .int .i64 m, .int .i64 k, .int .i64 r]] w fun e w' => e = .returned (.bool true) ∧ Below w.heap.size w w' := by
  have hb0 := bel_alloc w (.cells #[v, .int .i64 n, .int .i64 m, .int .i64 k, .int .i64 r] 24)
  have HB0 := Lib.hid hb0
  have HB := Lib.hid (both_any 6 (by rfl) v l n m k r (w.alloc (.cells #[v, .int .i64 n, .int .i64 m, .int .i64 k, .int .i64 r] 24)) (h.kept hb0) hl (hT.kept hb0))
  clear h hl hT hb0
  go_enter Tryz.func7, Tryz.ntmps7
  go_wp2_with fail
  refine HB.out.mono ?_; rintro e w1 ⟨rfl, hb⟩
  have HB1 := Lib.hid hb
  clear hb
  go_wp2_with fail
  go_ret
  exact ⟨rfl, HB0.out.trans (HB1.out.mono HB0.out.size)⟩
theorem lawModeShown_any (v : Value) (l : List Sc) (n m k r : Int) (w : World) (h : Scrs 1048576 w v l) (hl : l.length ≤ 140737488355328) (hT : Tabs w) :
    Calls Tryz.prog 8 #[.agg #[v, .int .i64 n, .int .i64 m, .int .i64 k, .int .i64 r]] w fun e w' => e = .returned (.bool true) ∧ Below w.heap.size w w' := by
  have hb0 := bel_alloc w (.cells #[v, .int .i64 n, .int .i64 m, .int .i64 k, .int .i64 r] 24)
  have HB0 := Lib.hid hb0
  have HB := Lib.hid (both_any 25 (by rfl) v l n m k r (w.alloc (.cells #[v, .int .i64 n, .int .i64 m, .int .i64 k, .int .i64 r] 24)) (h.kept hb0) hl (hT.kept hb0))
  clear h hl hT hb0
  go_enter Tryz.func8, Tryz.ntmps8
  go_wp2_with fail
  refine HB.out.mono ?_; rintro e w1 ⟨rfl, hb⟩
  have HB1 := Lib.hid hb
  clear hb
  go_wp2_with fail
  go_ret
  exact ⟨rfl, HB0.out.trans (HB1.out.mono HB0.out.size)⟩
theorem lawModeGrid_any (v : Value) (l : List Sc) (n m k r : Int) (w : World) (h : Scrs 1048576 w v l) (hl : l.length ≤ 140737488355328) (hT : Tabs w) :
    Calls Tryz.prog 9 #[.agg #[v, .int .i64 n, .int .i64 m, .int .i64 k, .int .i64 r]] w fun e w' => e = .returned (.bool true) ∧ Below w.heap.size w w' := by
  have hb0 := bel_alloc w (.cells #[v, .int .i64 n, .int .i64 m, .int .i64 k, .int .i64 r] 24)
  have HB0 := Lib.hid hb0
  have HB := Lib.hid (both_any 1049 (by rfl) v l n m k r (w.alloc (.cells #[v, .int .i64 n, .int .i64 m, .int .i64 k, .int .i64 r] 24)) (h.kept hb0) hl (hT.kept hb0))
  clear h hl hT hb0
  go_enter Tryz.func9, Tryz.ntmps9
  go_wp2_with fail
  refine HB.out.mono ?_; rintro e w1 ⟨rfl, hb⟩
  have HB1 := Lib.hid hb
  clear hb
  go_wp2_with fail
  go_ret
  exact ⟨rfl, HB0.out.trans (HB1.out.mono HB0.out.size)⟩
theorem lawModeBare_any (v : Value) (l : List Sc) (n m k r : Int) (w : World) (h : Scrs 1048576 w v l) (hl : l.length ≤ 140737488355328) (hT : Tabs w) :
    Calls Tryz.prog 10 #[.agg #[v, .int .i64 n, .int .i64 m, .int .i64 k, .int .i64 r]] w fun e w' => e = .returned (.bool true) ∧ Below w.heap.size w w' := by
  have hb0 := bel_alloc w (.cells #[v, .int .i64 n, .int .i64 m, .int .i64 k, .int .i64 r] 24)
  have HB0 := Lib.hid hb0
  have HB := Lib.hid (both_any 47 (by rfl) v l n m k r (w.alloc (.cells #[v, .int .i64 n, .int .i64 m, .int .i64 k, .int .i64 r] 24)) (h.kept hb0) hl (hT.kept hb0))
  clear h hl hT hb0
  go_enter Tryz.func10, Tryz.ntmps10
  go_wp2_with fail
  refine HB.out.mono ?_; rintro e w1 ⟨rfl, hb⟩
  have HB1 := Lib.hid hb
  clear hb
  go_wp2_with fail
  go_ret
  exact ⟨rfl, HB0.out.trans (HB1.out.mono HB0.out.size)⟩
theorem lawModeCleared_any (v : Value) (l : List Sc) (n m k r : Int) (w : World) (h : Scrs 1048576 w v l) (hl : l.length ≤ 140737488355328) (hT : Tabs w) :
    Calls Tryz.prog 11 #[.agg #[v, .int .i64 n, .int .i64 m, .int .i64 k, .int .i64 r]] w fun e w' => e = .returned (.bool true) ∧ Below w.heap.size w w' := by
  have hb0 := bel_alloc w (.cells #[v, .int .i64 n, .int .i64 m, .int .i64 k, .int .i64 r] 24)
  have HB0 := Lib.hid hb0
  have HB := Lib.hid (both_any 1047 (by rfl) v l n m k r (w.alloc (.cells #[v, .int .i64 n, .int .i64 m, .int .i64 k, .int .i64 r] 24)) (h.kept hb0) hl (hT.kept hb0))
  clear h hl hT hb0
  go_enter Tryz.func11, Tryz.ntmps11
  go_wp2_with fail
  refine HB.out.mono ?_; rintro e w1 ⟨rfl, hb⟩
  have HB1 := Lib.hid hb
  clear hb
  go_wp2_with fail
  go_ret
  exact ⟨rfl, HB0.out.trans (HB1.out.mono HB0.out.size)⟩
end Scr
end
end Go.Proofs.YtceaoadlhdgnmaaGreatDoor
