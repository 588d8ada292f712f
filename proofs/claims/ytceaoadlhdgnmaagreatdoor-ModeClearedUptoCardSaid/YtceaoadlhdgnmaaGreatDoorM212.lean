/- Joined texts: CurKeep. -/
import Derived.Test.YtceaoadlhdgnmaaGreatDoorM204
import Derived.Test.YtceaoadlhdgnmaaGreatDoorM205
import Derived.Deep.RegionLaw
namespace Go.Proofs.YtceaoadlhdgnmaaGreatDoor
set_option maxRecDepth 100000
section
open Go.RowKit
namespace Scr
open Go.Proofs.YtceaoadlhdgnmaaGreatDoor.Row
def keptO (s : S) : Nat := if s.swapped then 27 else 17
theorem kept_any (s : S) (x y z : Value) (b : Nat) (w : World) (h : SBox w b s x y z) : Calls Tryz.prog 96 #[.pointer (some ⟨b, 0, none⟩)] w fun e w' => e = .returned (.pointer (some ⟨b, keptO s, none⟩)) ∧ w' = w := by
  have c6 : w.cell? ⟨b, 6, none⟩ = some (.bool s.swapped) := h.cell 6
  clear h
  cases hs : s.swapped
  · have HO : Hid (keptO s = 17) := Lib.hid (by unfold keptO; rw [hs]; rfl)
    rw [HO.out]
    rw [hs] at c6
    go_enter Tryz.func96, Tryz.ntmps96
    go_wp2_with fail
    go_ret
    exact ⟨rfl, rfl⟩
  · have HO : Hid (keptO s = 27) := Lib.hid (by unfold keptO; rw [hs]; rfl)
    rw [HO.out]
    rw [hs] at c6
    go_enter Tryz.func96, Tryz.ntmps96
    go_wp2_with fail
    go_ret
    exact ⟨rfl, rfl⟩
theorem bo_bel0 {b : Nat} {w w1 w2 : World} (h : Below b w w1 ∧ Only b w w1) (h2 : Below b w1 w2) (h3 : Only b w1 w2) : Below b w w2 ∧ Only b w w2 := ⟨h.1.trans h2, Only.trans h.2 h3⟩
set_option maxHeartbeats 1600000 in
theorem save_clo (s : S) (x y z : Value) (b base : Nat) (w : World) (h : Pn w b base s x y z) :
    Calls Tryz.prog 95 #[.pointer (some ⟨b, 0, none⟩)] w fun e w' => e = .returned (.tuple #[]) ∧ Pn w' b base (saveS s) x y z ∧ Below b w w' ∧ Only b w w' := by
  have HK := Lib.hid (fun W (k : SBox W b s x y z) => kept_any s x y z b W k)
  have H0 := Lib.hid h
  have H1 := Lib.hid (h.kept (Below.refl _ _).drew)
  cases hs : s.swapped
  · have HO : Hid (keptO s = 17) := Lib.hid (by unfold keptO; rw [hs]; rfl)
    have HE : Hid (saveS s = { s with saved := s.cur }) := Lib.hid (by unfold saveS; rw [hs]; rfl)
    rw [HE.out]
    rw [HO.out] at HK
    clear h hs
    have c1 : ∀ j, w.cell? ⟨b, j, none⟩ = (sarr s x y z)[j]? := H0.out.box.cell
    have f1 : ∀ j, w.frozen? ⟨b, j, none⟩ = false := H0.out.box.free
    go_enter Tryz.func95, Tryz.ntmps95
    go_region_law ((go_simp; go_at_call 96; refine (HK.out _ H1.out.box).mono ?_; rintro e wz ⟨rfl, hwz⟩; rw [hwz]; clear hwz wz))
    all_goals
      go_end0
      have HP : Pn (cputA w b s.cur) b base { s with saved := s.cur } x y z := H0.out.cputA s.cur
      have HB : Below b w (cputA w b s.cur) := cputA_below (Below.refl b w) (Nat.le_refl b) s.cur
      have HN : Only b w (cputA w b s.cur) := cputA_only w b s.cur
      change _ ∧ Pn (cputA w b s.cur).drew b base _ x y z ∧ Below b w (cputA w b s.cur).drew ∧ Only b w (cputA w b s.cur).drew
      clear c1 f1 H1 HK
      generalize cputA w b s.cur = wq at HP HB HN ⊢
      exact ⟨rfl, HP.kept (Below.refl _ _).drew, HB.drew, HN⟩
  · have HO : Hid (keptO s = 27) := Lib.hid (by unfold keptO; rw [hs]; rfl)
    have HE : Hid (saveS s = { s with too := s.cur }) := Lib.hid (by unfold saveS; rw [hs]; rfl)
    rw [HE.out]
    rw [HO.out] at HK
    clear h hs
    have c1 : ∀ j, w.cell? ⟨b, j, none⟩ = (sarr s x y z)[j]? := H0.out.box.cell
    have f1 : ∀ j, w.frozen? ⟨b, j, none⟩ = false := H0.out.box.free
    go_enter Tryz.func95, Tryz.ntmps95
    go_region_law ((go_simp; go_at_call 96; refine (HK.out _ H1.out.box).mono ?_; rintro e wz ⟨rfl, hwz⟩; rw [hwz]; clear hwz wz))
    all_goals
      go_end0
      have HP : Pn (cputB w b s.cur) b base { s with too := s.cur } x y z := H0.out.cputB s.cur
      have HB : Below b w (cputB w b s.cur) := cputB_below (Below.refl b w) (Nat.le_refl b) s.cur
      have HN : Only b w (cputB w b s.cur) := cputB_only w b s.cur
      change _ ∧ Pn (cputB w b s.cur).drew b base _ x y z ∧ Below b w (cputB w b s.cur).drew ∧ Only b w (cputB w b s.cur).drew
      clear c1 f1 H1 HK
      generalize cputB w b s.cur = wq at HP HB HN ⊢
      exact ⟨rfl, HP.kept (Below.refl _ _).drew, HB.drew, HN⟩
set_option maxHeartbeats 1600000 in
theorem restore_clo (s : S) (x y z : Value) (b base : Nat) (w : World) (h : Pn w b base s x y z) :
    Calls Tryz.prog 97 #[.pointer (some ⟨b, 0, none⟩)] w fun e w' => e = .returned (.tuple #[]) ∧ Pn w' b base (restS s) x y z ∧ Below b w w' ∧ Only b w w' := by
  have HK := Lib.hid (fun W (k : SBox W b s x y z) => kept_any s x y z b W k)
  cases hs : s.swapped
  · have HO : Hid (keptO s = 17) := Lib.hid (by unfold keptO; rw [hs]; rfl)
    have HE : Hid (restS s = { s with cur := s.saved }) := Lib.hid (by unfold restS backC; rw [hs]; rfl)
    have H1 := Lib.hid h
    rw [HE.out]
    rw [HO.out] at HK
    clear h hs
    have c1 : ∀ j, w.cell? ⟨b, j, none⟩ = (sarr s x y z)[j]? := H1.out.box.cell
    have f1 : ∀ j, w.frozen? ⟨b, j, none⟩ = false := H1.out.box.free
    go_enter Tryz.func97, Tryz.ntmps97
    go_wp2_with fail
    refine (HK.out w H1.out.box).mono ?_; rintro e wz ⟨rfl, hwz⟩
    rw [hwz]
    clear hwz wz
    go_wp2_with fail
    go_end0
    change _ ∧ Pn (cput w b s.saved) b base _ x y z ∧ Below b w (cput w b s.saved) ∧ Only b w (cput w b s.saved)
    exact ⟨rfl, H1.out.cput s.saved, bo_bel0 (bo_refl b w) (cput_below (Below.refl _ _) (Nat.le_refl _) _) (cput_only _ _ _)⟩
  · have HO : Hid (keptO s = 27) := Lib.hid (by unfold keptO; rw [hs]; rfl)
    have HE : Hid (restS s = { s with cur := s.too }) := Lib.hid (by unfold restS backC; rw [hs]; rfl)
    have H1 := Lib.hid h
    rw [HE.out]
    rw [HO.out] at HK
    clear h hs
    have c1 : ∀ j, w.cell? ⟨b, j, none⟩ = (sarr s x y z)[j]? := H1.out.box.cell
    have f1 : ∀ j, w.frozen? ⟨b, j, none⟩ = false := H1.out.box.free
    go_enter Tryz.func97, Tryz.ntmps97
    go_wp2_with fail
    refine (HK.out w H1.out.box).mono ?_; rintro e wz ⟨rfl, hwz⟩
    rw [hwz]
    clear hwz wz
    go_wp2_with fail
    go_end0
    change _ ∧ Pn (cput w b s.too) b base _ x y z ∧ Below b w (cput w b s.too) ∧ Only b w (cput w b s.too)
    exact ⟨rfl, H1.out.cput s.too, bo_bel0 (bo_refl b w) (cput_below (Below.refl _ _) (Nat.le_refl _) _) (cput_only _ _ _)⟩
set_option maxHeartbeats 6400000 in
theorem changed_save (s : S) (x y z : Value) (w : World) (h : In w s x y z) (hh : Holds s) (hT : Tabs w) (hok : okB s = true) :
    Calls Tryz.prog 94 #[sv s x y z, .func (.func 95) #[] #[]] w fun e w' => ∃ x' y' z', e = .returned (.tuple #[sv (saveS s) x' y' z', .int .i64 0]) ∧ Own w' w.heap.size (saveS s) x' y' z' ∧ Below w.heap.size w w' := by
  have HI := Lib.hid h
  have H0 := Lib.hid (Pc.start w s x y z)
  have HL := Lib.hid ((ok_iff s).1 hok).lens
  have HCK := Lib.hid (check_any s x y z _ (h.kept H0.out.bel) hh (hT.kept H0.out.bel))
  have HCL := Lib.hid (fun W {x' y' z' : Value} (k : Pn W w.heap.size (w.heap.size + 2) s x' y' z') => save_clo s x' y' z' w.heap.size (w.heap.size + 2) W k)
  rw [hok] at HCK
  unfold codeB at HCK
  clear h hh hT hok
  go_enter Tryz.func94, Tryz.ntmps94
  go_wp2_with (first
    | (refine wp_allocS1 (w := w) rfl rfl ?_)
    | (refine wp_loadS (b := w.heap.size) (s := s) rfl rfl rfl H0.out.b0 ?_))
  refine HCK.out.mono ?_; rintro e w0 ⟨rfl, hb⟩
  have H1 := Lib.hid (H0.out.kept hb)
  clear hb H0 HCK
  have c0 : ∀ j, w0.cell? ⟨w.heap.size, j, none⟩ = (sarr s x y z)[j]? := H1.out.b0.cell
  go_wp2_with fail
  refine (Row.clone_any s.main.cells x _ (HI.out.kept H1.out.bel).m.cs HL.out.1).mono ?_; rintro e w1 ⟨v1, rfl, ho, hb⟩
  obtain ⟨A2, n2, c2, rfl⟩ : ∃ A n c, v1 = .slice A n c := (by obtain ⟨A, c, e, _⟩ := ho.rm.2; exact ⟨A, _, c, e⟩)
  have H1' := Lib.hid (H1.out.kept hb)
  have HU := Lib.hid H1.out.up
  have H2 := Lib.hid (H1'.out.putM (.slice A2 n2 c2))
  have HM := Lib.hid ((ho.low HU.out).set (show w.heap.size < w.heap.size + 2 by omega) 2 (.slice A2 n2 c2))
  have f1 : ∀ j, w1.frozen? ⟨w.heap.size, j, none⟩ = false := H1'.out.b0.free
  have c1 : ∀ j, w1.cell? ⟨w.heap.size, j, none⟩ = (sarr s x y z)[j]? := H1'.out.b0.cell
  clear ho hb H1 HU c0
  go_upto_region 5 with (fail)
  change Code.wp _ _ _ _ (w1.setCell ⟨w.heap.size, 2, none⟩ (.slice A2 n2 c2))
  clear f1 c1 H1'
  generalize w1.setCell ⟨w.heap.size, 2, none⟩ (.slice A2 n2 c2) = w2 at H2 HM ⊢
  have c2' : ∀ j, w2.cell? ⟨w.heap.size, j, none⟩ = (sarr s (.slice A2 n2 c2) y z)[j]? := H2.out.b0.cell
  go_wp2_with fail
  refine (Row.clone_any s.other.cells y _ (HI.out.kept H2.out.bel).o.cs HL.out.2.1).mono ?_; rintro e w3 ⟨v1, rfl, ho, hb⟩
  obtain ⟨A3, n3, c3, rfl⟩ : ∃ A n c, v1 = .slice A n c := (by obtain ⟨A, c, e, _⟩ := ho.rm.2; exact ⟨A, _, c, e⟩)
  have H3 := Lib.hid (H2.out.kept hb)
  have HU := Lib.hid H2.out.up
  have H4 := Lib.hid (H3.out.putO (.slice A3 n3 c3))
  have HM4 := Lib.hid ((HM.out.kept hb).set (show w.heap.size < w.heap.size + 2 by omega) 5 (.slice A3 n3 c3))
  have HO4 := Lib.hid ((ho.low HU.out).set (show w.heap.size < w.heap.size + 2 by omega) 5 (.slice A3 n3 c3))
  have f3 : ∀ j, w3.frozen? ⟨w.heap.size, j, none⟩ = false := H3.out.b0.free
  have c3' : ∀ j, w3.cell? ⟨w.heap.size, j, none⟩ = (sarr s (.slice A2 n2 c2) y z)[j]? := H3.out.b0.cell
  clear ho hb H2 HU HM c2'
  go_upto_region 6 with (fail)
  change Code.wp _ _ _ _ (w3.setCell ⟨w.heap.size, 5, none⟩ (.slice A3 n3 c3))
  clear f3 c3' H3
  generalize w3.setCell ⟨w.heap.size, 5, none⟩ (.slice A3 n3 c3) = w4 at H4 HM4 HO4 ⊢
  have c4' : ∀ j, w4.cell? ⟨w.heap.size, j, none⟩ = (sarr s (.slice A2 n2 c2) (.slice A3 n3 c3) z)[j]? := H4.out.b0.cell
  go_wp2_with fail
  refine (Tab.clone_any s.tabs z _ (HI.out.kept H4.out.bel).t HL.out.2.2).mono ?_; rintro e w5 ⟨v1, rfl, ho, hb⟩
  obtain ⟨A5, n5, c5, rfl⟩ : ∃ A n c, v1 = .slice A n c := (by obtain ⟨A, c, e, _⟩ := ho.bl.room; exact ⟨A, _, c, e⟩)
  have H5 := Lib.hid (H4.out.kept hb)
  have HU := Lib.hid H4.out.up
  have H6 := Lib.hid (H5.out.putT (.slice A5 n5 c5))
  have HO6 : Hid (Own (w5.setCell ⟨w.heap.size, 39, none⟩ (.slice A5 n5 c5)) (w.heap.size + 2) s (.slice A2 n2 c2) (.slice A3 n3 c3) (.slice A5 n5 c5)) := Lib.hid ⟨(HM4.out.kept hb).set (by omega) 39 _, (HO4.out.kept hb).set (by omega) 39 _, ownB_set (ho.low HU.out) (by omega) 39 _⟩
  have f5 : ∀ j, w5.frozen? ⟨w.heap.size, j, none⟩ = false := H5.out.b0.free
  have c5' : ∀ j, w5.cell? ⟨w.heap.size, j, none⟩ = (sarr s (.slice A2 n2 c2) (.slice A3 n3 c3) z)[j]? := H5.out.b0.cell
  clear ho hb H4 HU HM4 HO4 c4'
  go_upto_region 7 with (fail)
  change Code.wp _ _ _ _ (w5.setCell ⟨w.heap.size, 39, none⟩ (.slice A5 n5 c5))
  clear f5 c5' H5
  generalize w5.setCell ⟨w.heap.size, 39, none⟩ (.slice A5 n5 c5) = w6 at H6 HO6 ⊢
  have HP6 := Lib.hid (H6.out.pb HO6.out)
  clear H6 HO6
  go_wp2_with fail
  refine (HCL.out w6 HP6.out.pn).mono ?_; rintro e w7 ⟨rfl, hp, hb, hon⟩
  have HW := Lib.hid (HP6.out.only hp hb hon)
  clear hp hb hon HP6
  go_wp2_with (first
    | (refine wp_loadS (b := w.heap.size) (s := saveS s) rfl rfl rfl HW.out.pn.box ?_)
    | (refine wp_storeS (b := w.heap.size + 1) rfl rfl rfl rfl rfl HW.out.pn.own.in_.one HW.out.b1 rfl ?_; intro w9 h9))
  refine bodyPost_ret (ret2S rfl rfl h9.box rfl) rfl ?_
  exact ⟨_, _, _, rfl, Own.low (h9.own HW.out.pn.own (by omega)) (by omega), h9.below _ _ (by omega) HW.out.bel⟩
set_option maxHeartbeats 6400000 in
theorem changed_restore (s : S) (x y z : Value) (w : World) (h : In w s x y z) (hh : Holds s) (hT : Tabs w) (hok : okB s = true) :
    Calls Tryz.prog 94 #[sv s x y z, .func (.func 97) #[] #[]] w fun e w' => ∃ x' y' z', e = .returned (.tuple #[sv (restS s) x' y' z', .int .i64 0]) ∧ Own w' w.heap.size (restS s) x' y' z' ∧ Below w.heap.size w w' := by
  have HI := Lib.hid h
  have H0 := Lib.hid (Pc.start w s x y z)
  have HL := Lib.hid ((ok_iff s).1 hok).lens
  have HCK := Lib.hid (check_any s x y z _ (h.kept H0.out.bel) hh (hT.kept H0.out.bel))
  have HCL := Lib.hid (fun W {x' y' z' : Value} (k : Pn W w.heap.size (w.heap.size + 2) s x' y' z') => restore_clo s x' y' z' w.heap.size (w.heap.size + 2) W k)
  rw [hok] at HCK
  unfold codeB at HCK
  clear h hh hT hok
  go_enter Tryz.func94, Tryz.ntmps94
  go_wp2_with (first
    | (refine wp_allocS1 (w := w) rfl rfl ?_)
    | (refine wp_loadS (b := w.heap.size) (s := s) rfl rfl rfl H0.out.b0 ?_))
  refine HCK.out.mono ?_; rintro e w0 ⟨rfl, hb⟩
  have H1 := Lib.hid (H0.out.kept hb)
  clear hb H0 HCK
  have c0 : ∀ j, w0.cell? ⟨w.heap.size, j, none⟩ = (sarr s x y z)[j]? := H1.out.b0.cell
  go_wp2_with fail
  refine (Row.clone_any s.main.cells x _ (HI.out.kept H1.out.bel).m.cs HL.out.1).mono ?_; rintro e w1 ⟨v1, rfl, ho, hb⟩
  obtain ⟨A2, n2, c2, rfl⟩ : ∃ A n c, v1 = .slice A n c := (by obtain ⟨A, c, e, _⟩ := ho.rm.2; exact ⟨A, _, c, e⟩)
  have H1' := Lib.hid (H1.out.kept hb)
  have HU := Lib.hid H1.out.up
  have H2 := Lib.hid (H1'.out.putM (.slice A2 n2 c2))
  have HM := Lib.hid ((ho.low HU.out).set (show w.heap.size < w.heap.size + 2 by omega) 2 (.slice A2 n2 c2))
  have f1 : ∀ j, w1.frozen? ⟨w.heap.size, j, none⟩ = false := H1'.out.b0.free
  have c1 : ∀ j, w1.cell? ⟨w.heap.size, j, none⟩ = (sarr s x y z)[j]? := H1'.out.b0.cell
  clear ho hb H1 HU c0
  go_upto_region 5 with (fail)
  change Code.wp _ _ _ _ (w1.setCell ⟨w.heap.size, 2, none⟩ (.slice A2 n2 c2))
  clear f1 c1 H1'
  generalize w1.setCell ⟨w.heap.size, 2, none⟩ (.slice A2 n2 c2) = w2 at H2 HM ⊢
  have c2' : ∀ j, w2.cell? ⟨w.heap.size, j, none⟩ = (sarr s (.slice A2 n2 c2) y z)[j]? := H2.out.b0.cell
  go_wp2_with fail
  refine (Row.clone_any s.other.cells y _ (HI.out.kept H2.out.bel).o.cs HL.out.2.1).mono ?_; rintro e w3 ⟨v1, rfl, ho, hb⟩
  obtain ⟨A3, n3, c3, rfl⟩ : ∃ A n c, v1 = .slice A n c := (by obtain ⟨A, c, e, _⟩ := ho.rm.2; exact ⟨A, _, c, e⟩)
  have H3 := Lib.hid (H2.out.kept hb)
  have HU := Lib.hid H2.out.up
  have H4 := Lib.hid (H3.out.putO (.slice A3 n3 c3))
  have HM4 := Lib.hid ((HM.out.kept hb).set (show w.heap.size < w.heap.size + 2 by omega) 5 (.slice A3 n3 c3))
  have HO4 := Lib.hid ((ho.low HU.out).set (show w.heap.size < w.heap.size + 2 by omega) 5 (.slice A3 n3 c3))
  have f3 : ∀ j, w3.frozen? ⟨w.heap.size, j, none⟩ = false := H3.out.b0.free
  have c3' : ∀ j, w3.cell? ⟨w.heap.size, j, none⟩ = (sarr s (.slice A2 n2 c2) y z)[j]? := H3.out.b0.cell
  clear ho hb H2 HU HM c2'
  go_upto_region 6 with (fail)
  change Code.wp _ _ _ _ (w3.setCell ⟨w.heap.size, 5, none⟩ (.slice A3 n3 c3))
  clear f3 c3' H3
  generalize w3.setCell ⟨w.heap.size, 5, none⟩ (.slice A3 n3 c3) = w4 at H4 HM4 HO4 ⊢
  have c4' : ∀ j, w4.cell? ⟨w.heap.size, j, none⟩ = (sarr s (.slice A2 n2 c2) (.slice A3 n3 c3) z)[j]? := H4.out.b0.cell
  go_wp2_with fail
  refine (Tab.clone_any s.tabs z _ (HI.out.kept H4.out.bel).t HL.out.2.2).mono ?_; rintro e w5 ⟨v1, rfl, ho, hb⟩
  obtain ⟨A5, n5, c5, rfl⟩ : ∃ A n c, v1 = .slice A n c := (by obtain ⟨A, c, e, _⟩ := ho.bl.room; exact ⟨A, _, c, e⟩)
  have H5 := Lib.hid (H4.out.kept hb)
  have HU := Lib.hid H4.out.up
  have H6 := Lib.hid (H5.out.putT (.slice A5 n5 c5))
  have HO6 : Hid (Own (w5.setCell ⟨w.heap.size, 39, none⟩ (.slice A5 n5 c5)) (w.heap.size + 2) s (.slice A2 n2 c2) (.slice A3 n3 c3) (.slice A5 n5 c5)) := Lib.hid ⟨(HM4.out.kept hb).set (by omega) 39 _, (HO4.out.kept hb).set (by omega) 39 _, ownB_set (ho.low HU.out) (by omega) 39 _⟩
  have f5 : ∀ j, w5.frozen? ⟨w.heap.size, j, none⟩ = false := H5.out.b0.free
  have c5' : ∀ j, w5.cell? ⟨w.heap.size, j, none⟩ = (sarr s (.slice A2 n2 c2) (.slice A3 n3 c3) z)[j]? := H5.out.b0.cell
  clear ho hb H4 HU HM4 HO4 c4'
  go_upto_region 7 with (fail)
  change Code.wp _ _ _ _ (w5.setCell ⟨w.heap.size, 39, none⟩ (.slice A5 n5 c5))
  clear f5 c5' H5
  generalize w5.setCell ⟨w.heap.size, 39, none⟩ (.slice A5 n5 c5) = w6 at H6 HO6 ⊢
  have HP6 := Lib.hid (H6.out.pb HO6.out)
  clear H6 HO6
  go_wp2_with fail
  refine (HCL.out w6 HP6.out.pn).mono ?_; rintro e w7 ⟨rfl, hp, hb, hon⟩
  have HW := Lib.hid (HP6.out.only hp hb hon)
  clear hp hb hon HP6
  go_wp2_with (first
    | (refine wp_loadS (b := w.heap.size) (s := restS s) rfl rfl rfl HW.out.pn.box ?_)
    | (refine wp_storeS (b := w.heap.size + 1) rfl rfl rfl rfl rfl HW.out.pn.own.in_.one HW.out.b1 rfl ?_; intro w9 h9))
  refine bodyPost_ret (ret2S rfl rfl h9.box rfl) rfl ?_
  exact ⟨_, _, _, rfl, Own.low (h9.own HW.out.pn.own (by omega)) (by omega), h9.below _ _ (by omega) HW.out.bel⟩
set_option maxHeartbeats 1600000 in
theorem saveD (s : S) (x y z : Value) (w : World) (h : In w s x y z) (hh : Holds s) (hT : Tabs w) :
    Calls Tryz.prog 38 #[sv s x y z] w fun e w' => ∃ X x' y' z' code, e = .returned (.tuple #[sv X x' y' z', .int .i64 code]) ∧ Ans w w' (okB s) (saveS s) X x' y' z' code := by
  have H0 := Lib.hid (Rz.start w s x y z)
  have HI := Lib.hid (h.kept H0.out.bel)
  have HT := Lib.hid (hT.kept H0.out.bel)
  have HH := Lib.hid hh
  clear h hh hT
  go_enter Tryz.func38, Tryz.ntmps38
  go_wp2_with (first
    | (refine wp_allocS1 (w := w) rfl rfl ?_)
    | (refine wp_loadS (b := w.heap.size) (s := s) rfl rfl rfl H0.out.b0 ?_))
  cases hok : okB s
  · refine (changed_no _ s x y z _ HI.out HH.out HT.out hok).mono ?_; rintro e w1 ⟨rfl, hb⟩
    have H1 := Lib.hid (H0.out.kept hb)
    clear hb H0
    go_wp2_with (refine wp_storeS (b := w.heap.size + 1) (A := zarr) rfl rfl rfl rfl rfl (sarr_one rfl rfl rfl) H1.out.b1 rfl ?_; intro w7 h7)
    refine bodyPost_ret (ret2S (s := noS) (x := nilS) (y := nilS) (z := nilS) rfl rfl h7.box rfl) rfl ?_
    exact ⟨_, _, _, _, _, rfl, ans_no hok (h7.below _ _ (by omega) H1.out.bel)⟩
  · refine (changed_save s x y z _ HI.out HH.out HT.out hok).mono ?_; rintro e w1 ⟨x1, y1, z1, rfl, ho, hb⟩
    have H1 := Lib.hid (H0.out.kept hb)
    have HO := Lib.hid (ho.low H0.out.up)
    clear ho hb H0
    go_wp2_with (refine wp_storeS (b := w.heap.size + 1) rfl rfl rfl rfl rfl HO.out.in_.one H1.out.b1 rfl ?_; intro w9 h9)
    refine bodyPost_ret (ret2S rfl rfl h9.box rfl) rfl ?_
    exact ⟨_, _, _, _, _, rfl, h9.below _ _ (by omega) H1.out.bel, Own.low (h9.own HO.out (by omega)) (by omega), by rw [hok]; rfl, fun _ => rfl, fun e => by rw [hok] at e; cases e⟩
set_option maxHeartbeats 1600000 in
theorem restoreD (s : S) (x y z : Value) (w : World) (h : In w s x y z) (hh : Holds s) (hT : Tabs w) :
    Calls Tryz.prog 39 #[sv s x y z] w fun e w' => ∃ X x' y' z' code, e = .returned (.tuple #[sv X x' y' z', .int .i64 code]) ∧ Ans w w' (okB s) (restS s) X x' y' z' code := by
  have H0 := Lib.hid (Rz.start w s x y z)
  have HI := Lib.hid (h.kept H0.out.bel)
  have HT := Lib.hid (hT.kept H0.out.bel)
  have HH := Lib.hid hh
  clear h hh hT
  go_enter Tryz.func39, Tryz.ntmps39
  go_wp2_with (first
    | (refine wp_allocS1 (w := w) rfl rfl ?_)
    | (refine wp_loadS (b := w.heap.size) (s := s) rfl rfl rfl H0.out.b0 ?_))
  cases hok : okB s
  · refine (changed_no _ s x y z _ HI.out HH.out HT.out hok).mono ?_; rintro e w1 ⟨rfl, hb⟩
    have H1 := Lib.hid (H0.out.kept hb)
    clear hb H0
    go_wp2_with (refine wp_storeS (b := w.heap.size + 1) (A := zarr) rfl rfl rfl rfl rfl (sarr_one rfl rfl rfl) H1.out.b1 rfl ?_; intro w7 h7)
    refine bodyPost_ret (ret2S (s := noS) (x := nilS) (y := nilS) (z := nilS) rfl rfl h7.box rfl) rfl ?_
    exact ⟨_, _, _, _, _, rfl, ans_no hok (h7.below _ _ (by omega) H1.out.bel)⟩
  · refine (changed_restore s x y z _ HI.out HH.out HT.out hok).mono ?_; rintro e w1 ⟨x1, y1, z1, rfl, ho, hb⟩
    have H1 := Lib.hid (H0.out.kept hb)
    have HO := Lib.hid (ho.low H0.out.up)
    clear ho hb H0
    go_wp2_with (refine wp_storeS (b := w.heap.size + 1) rfl rfl rfl rfl rfl HO.out.in_.one H1.out.b1 rfl ?_; intro w9 h9)
    refine bodyPost_ret (ret2S rfl rfl h9.box rfl) rfl ?_
    exact ⟨_, _, _, _, _, rfl, h9.below _ _ (by omega) H1.out.bel, Own.low (h9.own HO.out (by omega)) (by omega), by rw [hok]; rfl, fun _ => rfl, fun e => by rw [hok] at e; cases e⟩
def homeS (s : S) : S := moveS s 72 1 1
theorem home_may (s : S) : mayB s 72 1 1 = okB s := by
  unfold mayB
  rw [show (keyB 72 && (numB 1 && numB 1)) = true from rfl, Bool.and_true]
set_option maxHeartbeats 1600000 in
theorem homeD (s : S) (x y z : Value) (w : World) (h : In w s x y z) (hh : Holds s) (hT : Tabs w) :
    Calls Tryz.prog 37 #[sv s x y z] w fun e w' => ∃ X x' y' z' code, e = .returned (.tuple #[sv X x' y' z', .int .i64 code]) ∧ Ans w w' (okB s) (homeS s) X x' y' z' code := by
  have H0 := Lib.hid (Rz.start w s x y z)
  have HM := Lib.hid (moveD s x y z 72 1 1 _ (h.kept H0.out.bel) hh (hT.kept H0.out.bel))
  rw [home_may] at HM
  clear h hh hT
  go_enter Tryz.func37, Tryz.ntmps37
  go_wp2_with (first
    | (refine wp_allocS1 (w := w) rfl rfl ?_)
    | (refine wp_loadS (b := w.heap.size) (s := s) rfl rfl rfl H0.out.b0 ?_))
  refine HM.out.mono ?_; rintro e w1 ⟨X, x1, y1, z1, code, rfl, ha⟩
  have H1 := Lib.hid (H0.out.kept ha.bel)
  have HO := Lib.hid (ha.own.low H0.out.up)
  have HA := Lib.hid (And.intro ha.code (And.intro ha.yes ha.no))
  clear ha H0 HM
  go_wp2_with (refine wp_storeS (b := w.heap.size + 1) rfl rfl rfl rfl rfl HO.out.in_.one H1.out.b1 rfl ?_; intro w9 h9)
  refine bodyPost_ret (ret2S rfl rfl h9.box rfl) rfl ?_
  exact ⟨_, _, _, _, _, rfl, h9.below _ _ (by omega) H1.out.bel, Own.low (h9.own HO.out (by omega)) (by omega), HA.out.1, HA.out.2.1, HA.out.2.2⟩
set_option maxHeartbeats 1600000 in
theorem refHome_any (s : S) (x y z : Value) (w : World) (h : In w s x y z) (hok : Ok s) :
    Calls Tryz.prog 40 #[sv s x y z] w fun e w' => ∃ x' y' z', e = .returned (sv (homeS s) x' y' z') ∧ Own w' w.heap.size (homeS s) x' y' z' ∧ Below w.heap.size w w' := by
  have H0 := Lib.hid (Rz.start w s x y z)
  have HM : Hid (∀ W, In W s x y z → Calls Tryz.prog 98 #[sv s x y z, .int .i64 72, .int .i64 1, .int .i64 1] W fun e w' => ∃ x' y' z', e = .returned (sv (moveS s 72 1 1) x' y' z') ∧ Own w' W.heap.size (moveS s 72 1 1) x' y' z' ∧ Below W.heap.size W w') := Lib.hid fun W hI => by
    cases hc : s.cur.origin
    · exact refMove_Hout s x y z 1 1 W hI hok rfl rfl hc
    · exact refMove_Hin s x y z 1 1 W hI hok rfl rfl hc
  have HI0 := Lib.hid (h.kept H0.out.bel)
  have HE : Hid (moveS s 72 1 1 = homeS s) := Lib.hid rfl
  rw [HE.out] at HM
  clear h hok HE
  go_enter Tryz.func40, Tryz.ntmps40
  go_wp2_with (first
    | (refine wp_allocS1 (w := w) rfl rfl ?_)
    | (refine wp_loadS (b := w.heap.size) (s := s) rfl rfl rfl H0.out.b0 ?_))
  refine (HM.out _ HI0.out).mono ?_; rintro e w1 ⟨x1, y1, z1, rfl, ho, hb⟩
  have H1 := Lib.hid (H0.out.kept hb)
  have HO := Lib.hid (ho.low H0.out.up)
  clear ho hb H0 HM HI0
  go_wp2_with (refine wp_storeS (b := w.heap.size + 1) rfl rfl rfl rfl rfl HO.out.in_.one H1.out.b1 rfl ?_; intro w9 h9)
  refine bodyPost_ret (ret1S rfl rfl h9.box) rfl ?_
  exact ⟨_, _, _, rfl, Own.low (h9.own HO.out (by omega)) (by omega), h9.below _ _ (by omega) H1.out.bel⟩
theorem Pb.cput {w0 w : World} {s : S} {x y z : Value} (h : Pb w0 s x y z w) (k : Cur) : Pb w0 { s with cur := k } x y z (Scr.cput w w0.heap.size k) :=
  h.only (h.pn.cput k) (cput_below (Below.refl _ _) (Nat.le_refl _) _) (cput_only _ _ _)
theorem Pb.cputA {w0 w : World} {s : S} {x y z : Value} (h : Pb w0 s x y z w) (k : Cur) : Pb w0 { s with saved := k } x y z (Scr.cputA w w0.heap.size k) :=
  h.only (h.pn.cputA k) (cputA_below (Below.refl _ _) (Nat.le_refl _) _) (cputA_only _ _ _)
theorem Pb.cputB {w0 w : World} {s : S} {x y z : Value} (h : Pb w0 s x y z w) (k : Cur) : Pb w0 { s with too := k } x y z (Scr.cputB w w0.heap.size k) :=
  h.only (h.pn.cputB k) (cputB_below (Below.refl _ _) (Nat.le_refl _) _) (cputB_only _ _ _)
set_option maxHeartbeats 3200000 in
theorem refSave_out (s : S) (x y z : Value) (w : World) (h : In w s x y z) (hok : Ok s) (hs : s.swapped = false) :
    Calls Tryz.prog 41 #[sv s x y z] w fun e w' => ∃ x' y' z', e = .returned (sv (saveS s) x' y' z') ∧ Own w' w.heap.size (saveS s) x' y' z' ∧ Below w.heap.size w w' := by
  have HI := Lib.hid h
  have H0 := Lib.hid (Rz.start w s x y z)
  have HL := Lib.hid hok.lens
  have HE : Hid (saveS s = { s with saved := s.cur }) := Lib.hid (by unfold saveS; rw [hs]; rfl)
  rw [HE.out]
  clear h hok
  go_enter Tryz.func41, Tryz.ntmps41
  go_wp2_with (first
    | (refine wp_allocS1 (w := w) rfl rfl ?_)
    | (refine wp_loadS (b := w.heap.size) (s := s) rfl rfl rfl H0.out.b0 ?_))
  refine (copyScreen_any s x y z _ (HI.out.kept H0.out.bel) HL.out).mono ?_; rintro e w1 ⟨x1, y1, z1, rfl, ho, hb⟩
  have H1 := Lib.hid (H0.out.kept hb)
  have HO1 := Lib.hid (ho.low H0.out.up)
  clear ho hb H0 HI
  go_upto_region 2 with (refine wp_storeS_then (b := w.heap.size) (A := sarr s x1 y1 z1) (T := Pb w s x1 y1 z1) rfl rfl rfl rfl rfl HO1.out.in_.one H1.out.b0 rfl (fun _ k => Pb.start H1.out HO1.out k) ?_; intro w2 H2)
  go_simp
  change Code.wp _ _ _ _ w2
  clear H1 HO1
  have c2 : ∀ j, w2.cell? ⟨w.heap.size, j, none⟩ = (sarr (s) x1 y1 z1)[j]? := H2.out.pn.box.cell
  have f2 : ∀ j, w2.frozen? ⟨w.heap.size, j, none⟩ = false := H2.out.pn.box.free
  have e6 : w2.cell? ⟨w.heap.size, 6, none⟩ = some (.bool false) := by have k := H2.out.pn.box.cell 6; rw [sarr_6] at k; rw [k]; exact congrArg (fun t => some (Value.bool t)) hs
  go_upto_region 5 with (fail)
  change Code.wp _ _ _ _ (cputA w2 w.heap.size s.cur)
  have H3 := Lib.hid (H2.out.cputA s.cur)
  clear c2 f2 e6 H2
  generalize cputA w2 w.heap.size s.cur = w3 at H3 ⊢
  go_wp2_with (first
    | (refine wp_loadS (b := w.heap.size) (s := { s with saved := s.cur }) rfl rfl rfl H3.out.pn.box ?_)
    | (refine wp_storeS (b := w.heap.size + 1) rfl rfl rfl rfl rfl H3.out.pn.own.in_.one H3.out.b1 rfl ?_; intro w9 h9))
  refine bodyPost_ret (ret1S rfl rfl h9.box) rfl ?_
  have hoo : Own w9 w.heap.size ({ s with saved := s.cur }) x1 y1 z1 := Own.low (h9.own H3.out.pn.own (show w.heap.size + 1 < w.heap.size + 2 by omega)) (show w.heap.size ≤ w.heap.size + 2 by omega)
  exact ⟨_, _, _, rfl, hoo, h9.below _ _ (by omega) H3.out.bel⟩
set_option maxHeartbeats 3200000 in
theorem refRestore_out (s : S) (x y z : Value) (w : World) (h : In w s x y z) (hok : Ok s) (hs : s.swapped = false) :
    Calls Tryz.prog 42 #[sv s x y z] w fun e w' => ∃ x' y' z', e = .returned (sv (restS s) x' y' z') ∧ Own w' w.heap.size (restS s) x' y' z' ∧ Below w.heap.size w w' := by
  have HI := Lib.hid h
  have H0 := Lib.hid (Rz.start w s x y z)
  have HL := Lib.hid hok.lens
  have HE : Hid (restS s = { s with cur := s.saved }) := Lib.hid (by unfold restS backC; rw [hs]; rfl)
  rw [HE.out]
  clear h hok
  go_enter Tryz.func42, Tryz.ntmps42
  go_wp2_with (first
    | (refine wp_allocS1 (w := w) rfl rfl ?_)
    | (refine wp_loadS (b := w.heap.size) (s := s) rfl rfl rfl H0.out.b0 ?_))
  refine (copyScreen_any s x y z _ (HI.out.kept H0.out.bel) HL.out).mono ?_; rintro e w1 ⟨x1, y1, z1, rfl, ho, hb⟩
  have H1 := Lib.hid (H0.out.kept hb)
  have HO1 := Lib.hid (ho.low H0.out.up)
  clear ho hb H0 HI
  go_upto_region 2 with (refine wp_storeS_then (b := w.heap.size) (A := sarr s x1 y1 z1) (T := Pb w s x1 y1 z1) rfl rfl rfl rfl rfl HO1.out.in_.one H1.out.b0 rfl (fun _ k => Pb.start H1.out HO1.out k) ?_; intro w2 H2)
  go_simp
  change Code.wp _ _ _ _ w2
  clear H1 HO1
  have c2 : ∀ j, w2.cell? ⟨w.heap.size, j, none⟩ = (sarr (s) x1 y1 z1)[j]? := H2.out.pn.box.cell
  have f2 : ∀ j, w2.frozen? ⟨w.heap.size, j, none⟩ = false := H2.out.pn.box.free
  have e6 : w2.cell? ⟨w.heap.size, 6, none⟩ = some (.bool false) := by have k := H2.out.pn.box.cell 6; rw [sarr_6] at k; rw [k]; exact congrArg (fun t => some (Value.bool t)) hs
  go_upto_region 3 with (fail)
  change Code.wp _ _ _ _ (cput w2 w.heap.size s.saved)
  have H3 := Lib.hid (H2.out.cput s.saved)
  clear c2 f2 e6 H2
  generalize cput w2 w.heap.size s.saved = w3 at H3 ⊢
  have c2 : ∀ j, w3.cell? ⟨w.heap.size, j, none⟩ = (sarr ({ s with cur := s.saved }) x1 y1 z1)[j]? := H3.out.pn.box.cell
  have f2 : ∀ j, w3.frozen? ⟨w.heap.size, j, none⟩ = false := H3.out.pn.box.free
  have e6 : w3.cell? ⟨w.heap.size, 6, none⟩ = some (.bool false) := by have k := H3.out.pn.box.cell 6; rw [sarr_6] at k; rw [k]; exact congrArg (fun t => some (Value.bool t)) hs
  go_wp2_with (first
    | (refine wp_loadS (b := w.heap.size) (s := { s with cur := s.saved }) rfl rfl rfl H3.out.pn.box ?_)
    | (refine wp_storeS (b := w.heap.size + 1) rfl rfl rfl rfl rfl H3.out.pn.own.in_.one H3.out.b1 rfl ?_; intro w9 h9))
  refine bodyPost_ret (ret1S rfl rfl h9.box) rfl ?_
  have hoo : Own w9 w.heap.size ({ s with cur := s.saved }) x1 y1 z1 := Own.low (h9.own H3.out.pn.own (show w.heap.size + 1 < w.heap.size + 2 by omega)) (show w.heap.size ≤ w.heap.size + 2 by omega)
  exact ⟨_, _, _, rfl, hoo, h9.below _ _ (by omega) H3.out.bel⟩
set_option maxHeartbeats 3200000 in
theorem refSave_in (s : S) (x y z : Value) (w : World) (h : In w s x y z) (hok : Ok s) (hs : s.swapped = true) :
    Calls Tryz.prog 41 #[sv s x y z] w fun e w' => ∃ x' y' z', e = .returned (sv (saveS s) x' y' z') ∧ Own w' w.heap.size (saveS s) x' y' z' ∧ Below w.heap.size w w' := by
  have HI := Lib.hid h
  have H0 := Lib.hid (Rz.start w s x y z)
  have HL := Lib.hid hok.lens
  have HE : Hid (saveS s = { s with too := s.cur }) := Lib.hid (by unfold saveS; rw [hs]; rfl)
  rw [HE.out]
  clear h hok
  go_enter Tryz.func41, Tryz.ntmps41
  go_wp2_with (first
    | (refine wp_allocS1 (w := w) rfl rfl ?_)
    | (refine wp_loadS (b := w.heap.size) (s := s) rfl rfl rfl H0.out.b0 ?_))
  refine (copyScreen_any s x y z _ (HI.out.kept H0.out.bel) HL.out).mono ?_; rintro e w1 ⟨x1, y1, z1, rfl, ho, hb⟩
  have H1 := Lib.hid (H0.out.kept hb)
  have HO1 := Lib.hid (ho.low H0.out.up)
  clear ho hb H0 HI
  go_upto_region 2 with (refine wp_storeS_then (b := w.heap.size) (A := sarr s x1 y1 z1) (T := Pb w s x1 y1 z1) rfl rfl rfl rfl rfl HO1.out.in_.one H1.out.b0 rfl (fun _ k => Pb.start H1.out HO1.out k) ?_; intro w2 H2)
  go_simp
  change Code.wp _ _ _ _ w2
  clear H1 HO1
  have c2 : ∀ j, w2.cell? ⟨w.heap.size, j, none⟩ = (sarr (s) x1 y1 z1)[j]? := H2.out.pn.box.cell
  have f2 : ∀ j, w2.frozen? ⟨w.heap.size, j, none⟩ = false := H2.out.pn.box.free
  have e6 : w2.cell? ⟨w.heap.size, 6, none⟩ = some (.bool true) := by have k := H2.out.pn.box.cell 6; rw [sarr_6] at k; rw [k]; exact congrArg (fun t => some (Value.bool t)) hs
  go_upto_region 5 with (fail)
  change Code.wp _ _ _ _ (cputB w2 w.heap.size s.cur)
  have H3 := Lib.hid (H2.out.cputB s.cur)
  clear c2 f2 e6 H2
  generalize cputB w2 w.heap.size s.cur = w3 at H3 ⊢
  go_wp2_with (first
    | (refine wp_loadS (b := w.heap.size) (s := { s with too := s.cur }) rfl rfl rfl H3.out.pn.box ?_)
    | (refine wp_storeS (b := w.heap.size + 1) rfl rfl rfl rfl rfl H3.out.pn.own.in_.one H3.out.b1 rfl ?_; intro w9 h9))
  refine bodyPost_ret (ret1S rfl rfl h9.box) rfl ?_
  have hoo : Own w9 w.heap.size ({ s with too := s.cur }) x1 y1 z1 := Own.low (h9.own H3.out.pn.own (show w.heap.size + 1 < w.heap.size + 2 by omega)) (show w.heap.size ≤ w.heap.size + 2 by omega)
  exact ⟨_, _, _, rfl, hoo, h9.below _ _ (by omega) H3.out.bel⟩
set_option maxHeartbeats 3200000 in
theorem refRestore_in (s : S) (x y z : Value) (w : World) (h : In w s x y z) (hok : Ok s) (hs : s.swapped = true) :
    Calls Tryz.prog 42 #[sv s x y z] w fun e w' => ∃ x' y' z', e = .returned (sv (restS s) x' y' z') ∧ Own w' w.heap.size (restS s) x' y' z' ∧ Below w.heap.size w w' := by
  have HI := Lib.hid h
  have H0 := Lib.hid (Rz.start w s x y z)
  have HL := Lib.hid hok.lens
  have HE : Hid (restS s = { s with cur := s.too }) := Lib.hid (by unfold restS backC; rw [hs]; rfl)
  rw [HE.out]
  clear h hok
  go_enter Tryz.func42, Tryz.ntmps42
  go_wp2_with (first
    | (refine wp_allocS1 (w := w) rfl rfl ?_)
    | (refine wp_loadS (b := w.heap.size) (s := s) rfl rfl rfl H0.out.b0 ?_))
  refine (copyScreen_any s x y z _ (HI.out.kept H0.out.bel) HL.out).mono ?_; rintro e w1 ⟨x1, y1, z1, rfl, ho, hb⟩
  have H1 := Lib.hid (H0.out.kept hb)
  have HO1 := Lib.hid (ho.low H0.out.up)
  clear ho hb H0 HI
  go_upto_region 2 with (refine wp_storeS_then (b := w.heap.size) (A := sarr s x1 y1 z1) (T := Pb w s x1 y1 z1) rfl rfl rfl rfl rfl HO1.out.in_.one H1.out.b0 rfl (fun _ k => Pb.start H1.out HO1.out k) ?_; intro w2 H2)
  go_simp
  change Code.wp _ _ _ _ w2
  clear H1 HO1
  have c2 : ∀ j, w2.cell? ⟨w.heap.size, j, none⟩ = (sarr (s) x1 y1 z1)[j]? := H2.out.pn.box.cell
  have f2 : ∀ j, w2.frozen? ⟨w.heap.size, j, none⟩ = false := H2.out.pn.box.free
  have e6 : w2.cell? ⟨w.heap.size, 6, none⟩ = some (.bool true) := by have k := H2.out.pn.box.cell 6; rw [sarr_6] at k; rw [k]; exact congrArg (fun t => some (Value.bool t)) hs
  go_upto_region 3 with (fail)
  change Code.wp _ _ _ _ (cput w2 w.heap.size s.saved)
  have H3 := Lib.hid (H2.out.cput s.saved)
  clear c2 f2 e6 H2
  generalize cput w2 w.heap.size s.saved = w3 at H3 ⊢
  have c2 : ∀ j, w3.cell? ⟨w.heap.size, j, none⟩ = (sarr ({ s with cur := s.saved }) x1 y1 z1)[j]? := H3.out.pn.box.cell
  have f2 : ∀ j, w3.frozen? ⟨w.heap.size, j, none⟩ = false := H3.out.pn.box.free
  have e6 : w3.cell? ⟨w.heap.size, 6, none⟩ = some (.bool true) := by have k := H3.out.pn.box.cell 6; rw [sarr_6] at k; rw [k]; exact congrArg (fun t => some (Value.bool t)) hs
  go_upto_region 5 with (fail)
  change Code.wp _ _ _ _ (cput w3 w.heap.size s.too)
  have H4 := Lib.hid (H3.out.cput s.too)
  clear c2 f2 e6 H3
  generalize cput w3 w.heap.size s.too = w4 at H4 ⊢
  have H5 : Hid (Pb w { s with cur := s.too } x1 y1 z1 w4) := Lib.hid H4.out
  have hE : ({ s with cur := s.too } : S) = { s with swapped := true, cur := s.too } := by cases s; simp only at hs; subst hs; rfl
  go_wp2_with (first
    | (refine wp_loadS (b := w.heap.size) (s := { s with cur := s.too }) rfl rfl rfl H5.out.pn.box ?_)
    | (refine wp_storeS (b := w.heap.size + 1) rfl rfl rfl rfl rfl H5.out.pn.own.in_.one H5.out.b1 rfl ?_; intro w9 h9))
  refine bodyPost_ret (ret1S rfl rfl h9.box) rfl ?_
  have hoo : Own w9 w.heap.size ({ s with cur := s.too }) x1 y1 z1 := Own.low (h9.own H5.out.pn.own (show w.heap.size + 1 < w.heap.size + 2 by omega)) (show w.heap.size ≤ w.heap.size + 2 by omega)
  rw [← hE]
  exact ⟨_, _, _, rfl, hoo, h9.below _ _ (by omega) H5.out.bel⟩
theorem refSave_any (s : S) (x y z : Value) (w : World) (h : In w s x y z) (hok : Ok s) :
    Calls Tryz.prog 41 #[sv s x y z] w fun e w' => ∃ x' y' z', e = .returned (sv (saveS s) x' y' z') ∧ Own w' w.heap.size (saveS s) x' y' z' ∧ Below w.heap.size w w' := by
  cases hs : s.swapped
  · exact refSave_out s x y z w h hok hs
  · exact refSave_in s x y z w h hok hs
theorem refRestore_any (s : S) (x y z : Value) (w : World) (h : In w s x y z) (hok : Ok s) :
    Calls Tryz.prog 42 #[sv s x y z] w fun e w' => ∃ x' y' z', e = .returned (sv (restS s) x' y' z') ∧ Own w' w.heap.size (restS s) x' y' z' ∧ Below w.heap.size w w' := by
  cases hs : s.swapped
  · exact refRestore_out s x y z w h hok hs
  · exact refRestore_in s x y z w h hok hs
end Scr
end
end Go.Proofs.YtceaoadlhdgnmaaGreatDoor
