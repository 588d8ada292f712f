/- Joined texts: ScrRef. -/
import Derived.Test.YtceaoadlhdgnmaaGreatDoorM14
import Derived.Test.YtceaoadlhdgnmaaGreatDoorM23
import Derived.Test.YtceaoadlhdgnmaaGreatDoorM29
import Derived.Deep.DeepCutAuto
import Derived.Deep.CutRange
namespace Go.Proofs.YtceaoadlhdgnmaaGreatDoor
set_option maxRecDepth 100000
section
open Go.RowKit
namespace Scr
open Go.Proofs.YtceaoadlhdgnmaaGreatDoor.Row Wid
theorem margins_ref {top bottom rows : Int} (h : 1 ≤ rows) : marginsB top bottom rows = ((decide (0 ≤ top) && (decide (top < bottom) && decide (bottom < rows))) || (rows == 1 && (top == 0 && bottom == 0))) := by
  unfold marginsB
  by_cases hr : rows = 1
  · subst hr
    rw [if_pos rfl]
    have : (decide (0 ≤ top) && (decide (top < bottom) && decide (bottom < 1))) = false := by
      rw [Bool.eq_false_iff]
      intro e
      simp only [Bool.and_eq_true, decide_eq_true_eq] at e
      omega
    rw [this]
    simp
  · rw [if_neg hr]
    have : (rows == 1) = false := by rw [beq_eq_false_iff_ne]; exact hr
    rw [this]
    simp
theorem width_pos {r : Int} : decide (0 < wid r) = (wid r == 1 || wid r == 2) := by
  rcases kind_cases r with ⟨_, hw, _⟩ | ⟨_, hw, _⟩ | ⟨_, hw, _⟩ | ⟨_, hw, _⟩ <;> rw [hw] <;> decide
structure Rs (w0 : World) (s : S) (x y z : Value) (w : World) : Prop where
  bel : Below w0.heap.size w0 w
  b0 : SBox w w0.heap.size s x y z
  i : In w s x y z
  t : Tabs w
theorem Rs.kept {w0 w w' : World} {s : S} {x y z : Value} (h : Rs w0 s x y z w) (hb : Below w.heap.size w w') : Rs w0 s x y z w' := ⟨h.bel.trans (hb.mono h.bel.size), h.b0.kept hb, h.i.kept hb, h.t.kept hb⟩
theorem rs_then {f : FuncId} {args : Array Value} {w w0 : World} {v : Value} {Q : Ending → World → Prop} {s : S} {x y z : Value} (H : Hid (Rs w0 s x y z w)) (h : Calls Tryz.prog f args w fun e w' => e = .returned v ∧ Below w.heap.size w w')
    (hQ : ∀ w', Hid (Rs w0 s x y z w') → (∀ j, w'.cell? ⟨w0.heap.size, j, none⟩ = (sarr s x y z)[j]?) → Q (.returned v) w') : Calls Tryz.prog f args w Q :=
  h.mono (by rintro e w' ⟨rfl, hb⟩; exact hQ w' (Lib.hid (H.out.kept hb)) (H.out.kept hb).b0.cell)
structure Shorts (s : S) : Prop where
  m : Short s.main.cells
  o : Short s.other.cells
  t : s.title.length ≤ 1000000000
  ml : s.main.cells.length ≤ 1000000
  ol : s.other.cells.length ≤ 1000000
theorem refGrid_is (G : Gr) (b : Bool) (x : Value) (w : World) (hx : Rm w x G.cells) (hs : Short G.cells) (hT : Tabs w) (hl : G.cells.length ≤ 1000000) (hb : gridB G = b) :
    Calls Tryz.prog 57 #[gridV G x] w fun e w' => e = .returned (.bool b) ∧ Below w.heap.size w w' := refGrid_any G b x w hx hs hT hl (by rw [← hb]; exact gridB_iff G)
theorem refCursor_is (k : Cur) (R C m n : Int) (b : Bool) (hm : IntKind.i64.wrap (R - 1) = m) (hn : IntKind.i64.wrap (C - 1) = n) (hb : cursorB k m n = b) (w : World) :
    Calls Tryz.prog 58 #[curV k, .int .i64 R, .int .i64 C] w fun e w' => e = .returned (.bool b) ∧ Below w.heap.size w w' := by subst hb; exact refCursor_any k R C m n hm hn w
theorem refTitle_is (t : List UInt8) (b : Bool) (w : World) (ht : t.length ≤ 1000000000) (hT : Tabs w) (hb : titleB t = b) :
    Calls Tryz.prog 60 #[.string ⟨t.toArray⟩] w fun e w' => e = .returned (.bool b) ∧ Below w.heap.size w w' := by subst hb; exact refTitle_any t w ht hT
set_option maxHeartbeats 12000000 in
theorem refScreen_any (s : S) (x y z : Value) (w : World) (h : In w s x y z) (hs : Shorts s) (hT : Tabs w) :
    Calls Tryz.prog 18 #[sv s x y z] w fun e w' => e = .returned (.bool (okB s)) ∧ Below w.heap.size w w' := by
  have HS := Lib.hid hs
  have H0 : Hid (Rs w s x y z (w.alloc (.cells (sarr s x y z) 36))) := Lib.hid ⟨bel_alloc w _, SBox.new w s x y z, h.kept (bel_alloc w _), hT.kept (bel_alloc w _)⟩
  obtain ⟨Az, cz, rfl, _⟩ := id h.t.room
  clear h hs hT
  cases e1 : gridB s.main
  · have E1 := Lib.hid e1
    have HE : Hid (okB s = false) := Lib.hid (by simp [okB, e1])
    go_enter Tryz.func18, Tryz.ntmps18
    go_wp2_with fail
    refine rs_then H0 (refGrid_is s.main _ x _ H0.out.i.m HS.out.m H0.out.t HS.out.ml E1.out) ?_; intro w1 H1 c1
    go_wp2_with fail
    go_ret
    exact ⟨ret_bool HE.out.symm, H1.out.bel⟩
  · have E1 := Lib.hid e1
    have hR := (gridB_sides e1).1
    have hC := (gridB_sides e1).2
    have HM : Hid (IntKind.i64.wrap (s.main.rows - 1) = s.main.rows - 1) := Lib.hid (wr1_of hR)
    have HN : Hid (IntKind.i64.wrap (s.main.cols - 1) = s.main.cols - 1) := Lib.hid (wr1_of hC)
    have hmr := fun t b => margins_ref (top := t) (bottom := b) hR.1
    have HMR := Lib.hid hmr
    clear hR hC hmr
    cases e2 : gridB s.other
    · have E2 := Lib.hid e2
      have HE : Hid (okB s = false) := Lib.hid (by simp [okB, e1, e2])
      go_enter Tryz.func18, Tryz.ntmps18
      go_wp2_with fail
      refine rs_then H0 (refGrid_is s.main _ x _ H0.out.i.m HS.out.m H0.out.t HS.out.ml E1.out) ?_; intro w1 H1 c1
      go_wp2_with fail
      refine rs_then H1 (refGrid_is s.other _ y _ H1.out.i.o HS.out.o H1.out.t HS.out.ol E2.out) ?_; intro w2 H2 c2; clear c1
      go_wp2_with fail
      go_ret
      exact ⟨ret_bool HE.out.symm, H2.out.bel⟩
    · have E2 := Lib.hid e2
      cases e3 : (s.other.rows == s.main.rows)
      · have h3 : (s.main.rows != s.other.rows) = true := by rw [bne_iff_ne]; intro q; rw [q] at e3; simp at e3
        have HE : Hid (okB s = false) := Lib.hid (by simp [okB, e1, e2, e3])
        go_enter Tryz.func18, Tryz.ntmps18
        go_wp2_with fail
        refine rs_then H0 (refGrid_is s.main _ x _ H0.out.i.m HS.out.m H0.out.t HS.out.ml E1.out) ?_; intro w1 H1 c1
        go_wp2_with fail
        refine rs_then H1 (refGrid_is s.other _ y _ H1.out.i.o HS.out.o H1.out.t HS.out.ol E2.out) ?_; intro w2 H2 c2; clear c1
        go_wp2_with fail
        go_ret
        exact ⟨ret_bool HE.out.symm, H2.out.bel⟩
      · have h3 : (s.main.rows != s.other.rows) = false := by rw [bne_eq_false_iff_eq]; exact (eq_of_beq e3).symm
        cases e4 : (s.other.cols == s.main.cols)
        · have h4 : (s.main.cols != s.other.cols) = true := by rw [bne_iff_ne]; intro q; rw [q] at e4; simp at e4
          have HE : Hid (okB s = false) := Lib.hid (by simp [okB, e1, e2, e3, e4])
          go_enter Tryz.func18, Tryz.ntmps18
          go_wp2_with fail
          refine rs_then H0 (refGrid_is s.main _ x _ H0.out.i.m HS.out.m H0.out.t HS.out.ml E1.out) ?_; intro w1 H1 c1
          go_wp2_with fail
          refine rs_then H1 (refGrid_is s.other _ y _ H1.out.i.o HS.out.o H1.out.t HS.out.ol E2.out) ?_; intro w2 H2 c2; clear c1
          go_wp2_with fail
          go_ret
          exact ⟨ret_bool HE.out.symm, H2.out.bel⟩
        · have h4 : (s.main.cols != s.other.cols) = false := by rw [bne_eq_false_iff_eq]; exact (eq_of_beq e4).symm
          cases k1 : cursorB s.cur (s.main.rows - 1) (s.main.cols - 1)
          · have K1 := Lib.hid k1
            have HE : Hid (okB s = false) := Lib.hid (by simp [okB, e1, e2, e3, e4, k1])
            go_enter Tryz.func18, Tryz.ntmps18
            go_wp2_with fail
            refine rs_then H0 (refGrid_is s.main _ x _ H0.out.i.m HS.out.m H0.out.t HS.out.ml E1.out) ?_; intro w1 H1 c1
            go_wp2_with fail
            refine rs_then H1 (refGrid_is s.other _ y _ H1.out.i.o HS.out.o H1.out.t HS.out.ol E2.out) ?_; intro w2 H2 c2; clear c1
            have H2 : ∀ q, Hid (Rs w s x y (.slice Az s.tabs.length cz) (w2.drewN q)) := fun q => Lib.hid (H2.out.kept (below_drewN (Below.refl _ _) q))
            go_wp2_with fail
            go_quiet (fail)
            go_wp2_with fail
            refine rs_then (H2 _) (refCursor_is s.cur _ _ _ _ _ HM.out HN.out K1.out _) ?_; intro w3 H3 c3; clear c2
            go_wp2_with fail
            go_ret
            exact ⟨ret_bool HE.out.symm, H3.out.bel⟩
          · have K1 := Lib.hid k1
            cases k2 : cursorB s.saved (s.main.rows - 1) (s.main.cols - 1)
            · have K2 := Lib.hid k2
              have HE : Hid (okB s = false) := Lib.hid (by simp [okB, e1, e2, e3, e4, k1, k2])
              go_enter Tryz.func18, Tryz.ntmps18
              go_wp2_with fail
              refine rs_then H0 (refGrid_is s.main _ x _ H0.out.i.m HS.out.m H0.out.t HS.out.ml E1.out) ?_; intro w1 H1 c1
              go_wp2_with fail
              refine rs_then H1 (refGrid_is s.other _ y _ H1.out.i.o HS.out.o H1.out.t HS.out.ol E2.out) ?_; intro w2 H2 c2; clear c1
              have H2 : ∀ q, Hid (Rs w s x y (.slice Az s.tabs.length cz) (w2.drewN q)) := fun q => Lib.hid (H2.out.kept (below_drewN (Below.refl _ _) q))
              go_wp2_with fail
              go_quiet (fail)
              go_wp2_with fail
              refine rs_then (H2 _) (refCursor_is s.cur _ _ _ _ _ HM.out HN.out K1.out _) ?_; intro w3 H3 c3; clear c2
              go_wp2_with fail
              refine rs_then H3 (refCursor_is s.saved _ _ _ _ _ HM.out HN.out K2.out _) ?_; intro w4 H4 c4; clear c3
              go_wp2_with fail
              go_ret
              exact ⟨ret_bool HE.out.symm, H4.out.bel⟩
            · have K2 := Lib.hid k2
              cases k3 : cursorB s.too (s.main.rows - 1) (s.main.cols - 1)
              · have K3 := Lib.hid k3
                have HE : Hid (okB s = false) := Lib.hid (by simp [okB, e1, e2, e3, e4, k1, k2, k3])
                go_enter Tryz.func18, Tryz.ntmps18
                go_wp2_with fail
                refine rs_then H0 (refGrid_is s.main _ x _ H0.out.i.m HS.out.m H0.out.t HS.out.ml E1.out) ?_; intro w1 H1 c1
                go_wp2_with fail
                refine rs_then H1 (refGrid_is s.other _ y _ H1.out.i.o HS.out.o H1.out.t HS.out.ol E2.out) ?_; intro w2 H2 c2; clear c1
                have H2 : ∀ q, Hid (Rs w s x y (.slice Az s.tabs.length cz) (w2.drewN q)) := fun q => Lib.hid (H2.out.kept (below_drewN (Below.refl _ _) q))
                go_wp2_with fail
                go_quiet (fail)
                go_wp2_with fail
                refine rs_then (H2 _) (refCursor_is s.cur _ _ _ _ _ HM.out HN.out K1.out _) ?_; intro w3 H3 c3; clear c2
                go_wp2_with fail
                refine rs_then H3 (refCursor_is s.saved _ _ _ _ _ HM.out HN.out K2.out _) ?_; intro w4 H4 c4; clear c3
                go_wp2_with fail
                refine rs_then H4 (refCursor_is s.too _ _ _ _ _ HM.out HN.out K3.out _) ?_; intro w5 H5 c5; clear c4
                go_wp2_with fail
                go_ret
                exact ⟨ret_bool HE.out.symm, H5.out.bel⟩
              · have K3 := Lib.hid k3
                have HOK : Hid (okB s = (marginsB s.top s.bottom s.main.rows && ((s.tabs.length : Int) == s.main.cols && (rng s.modes 0 1023 && (titleB s.title && lastB s.last))))) := Lib.hid (by simp [okB, e1, e2, e3, e4, k1, k2, k3])
                go_enter Tryz.func18, Tryz.ntmps18
                go_wp2_with fail
                refine rs_then H0 (refGrid_is s.main _ x _ H0.out.i.m HS.out.m H0.out.t HS.out.ml E1.out) ?_; intro w1 H1 c1
                go_wp2_with fail
                refine rs_then H1 (refGrid_is s.other _ y _ H1.out.i.o HS.out.o H1.out.t HS.out.ol E2.out) ?_; intro w2 H2 c2; clear c1
                have H2 : ∀ q, Hid (Rs w s x y (.slice Az s.tabs.length cz) (w2.drewN q)) := fun q => Lib.hid (H2.out.kept (below_drewN (Below.refl _ _) q))
                go_wp2_with fail
                go_quiet (fail)
                go_wp2_with fail
                refine rs_then (H2 _) (refCursor_is s.cur _ _ _ _ _ HM.out HN.out K1.out _) ?_; intro w3 H3 c3; clear c2
                go_wp2_with fail
                refine rs_then H3 (refCursor_is s.saved _ _ _ _ _ HM.out HN.out K2.out _) ?_; intro w4 H4 c4; clear c3
                go_wp2_with fail
                refine rs_then H4 (refCursor_is s.too _ _ _ _ _ HM.out HN.out K3.out _) ?_; intro w5 H5 c5; clear c4
                clear E1 E2 e1 e2 h3 h4 e3 e4 K1 K2 K3 k1 k2 k3 HM HN H0 H1 H2 H3 H4
                go_upto_region 6 with (fail)
                go_cut [5] from 63 to 92 (fun s5 wx => s5 = .bool (marginsB s.top s.bottom s.main.rows) ∧ wx = w5)
                case first =>
                  by_cases hp : 0 ≤ s.top
                  · by_cases hq : s.top < s.bottom
                    · by_cases hr : s.bottom < s.main.rows
                      · skip
                        have HE : Hid (marginsB s.top s.bottom s.main.rows = true) := Lib.hid (by rw [HMR.out]; simp [hp, hq, hr])
                        go_wp2_with fail
                        go_meet
                        exact ⟨by rw [HE.out], rfl⟩
                      · have hd : decide (s.bottom < s.main.rows) = false := decide_eq_false hr
                        cases ha : (s.main.rows == 1)
                        · skip
                          have HE : Hid (marginsB s.top s.bottom s.main.rows = false) := Lib.hid (by rw [HMR.out]; simp [hp, hq, hd, ha])
                          go_wp2_with fail
                          go_meet
                          exact ⟨by rw [HE.out], rfl⟩
                        · cases hb : (s.top == 0)
                          · skip
                            have HE : Hid (marginsB s.top s.bottom s.main.rows = false) := Lib.hid (by rw [HMR.out]; simp [hp, hq, hd, ha, hb])
                            go_wp2_with fail
                            go_meet
                            exact ⟨by rw [HE.out], rfl⟩
                          · cases hc : (s.bottom == 0)
                            · skip
                              have HE : Hid (marginsB s.top s.bottom s.main.rows = false) := Lib.hid (by rw [HMR.out]; simp [hp, hq, hd, ha, hb, hc])
                              go_wp2_with fail
                              go_meet
                              exact ⟨by rw [HE.out], rfl⟩
                            · skip
                              have HE : Hid (marginsB s.top s.bottom s.main.rows = true) := Lib.hid (by rw [HMR.out]; simp [hp, hq, hd, ha, hb, hc])
                              go_wp2_with fail
                              go_meet
                              exact ⟨by rw [HE.out], rfl⟩
                    · have hd : decide (s.top < s.bottom) = false := decide_eq_false hq
                      cases ha : (s.main.rows == 1)
                      · skip
                        have HE : Hid (marginsB s.top s.bottom s.main.rows = false) := Lib.hid (by rw [HMR.out]; simp [hp, hd, ha])
                        go_wp2_with fail
                        go_meet
                        exact ⟨by rw [HE.out], rfl⟩
                      · cases hb : (s.top == 0)
                        · skip
                          have HE : Hid (marginsB s.top s.bottom s.main.rows = false) := Lib.hid (by rw [HMR.out]; simp [hp, hd, ha, hb])
                          go_wp2_with fail
                          go_meet
                          exact ⟨by rw [HE.out], rfl⟩
                        · cases hc : (s.bottom == 0)
                          · skip
                            have HE : Hid (marginsB s.top s.bottom s.main.rows = false) := Lib.hid (by rw [HMR.out]; simp [hp, hd, ha, hb, hc])
                            go_wp2_with fail
                            go_meet
                            exact ⟨by rw [HE.out], rfl⟩
                          · skip
                            have HE : Hid (marginsB s.top s.bottom s.main.rows = true) := Lib.hid (by rw [HMR.out]; simp [hp, hd, ha, hb, hc])
                            go_wp2_with fail
                            go_meet
                            exact ⟨by rw [HE.out], rfl⟩
                  · have hd : decide (0 ≤ s.top) = false := decide_eq_false hp
                    cases ha : (s.main.rows == 1)
                    · skip
                      have HE : Hid (marginsB s.top s.bottom s.main.rows = false) := Lib.hid (by rw [HMR.out]; simp [hd, ha])
                      go_wp2_with fail
                      go_meet
                      exact ⟨by rw [HE.out], rfl⟩
                    · cases hb : (s.top == 0)
                      · skip
                        have HE : Hid (marginsB s.top s.bottom s.main.rows = false) := Lib.hid (by rw [HMR.out]; simp [hd, ha, hb])
                        go_wp2_with fail
                        go_meet
                        exact ⟨by rw [HE.out], rfl⟩
                      · cases hc : (s.bottom == 0)
                        · skip
                          have HE : Hid (marginsB s.top s.bottom s.main.rows = false) := Lib.hid (by rw [HMR.out]; simp [hd, ha, hb, hc])
                          go_wp2_with fail
                          go_meet
                          exact ⟨by rw [HE.out], rfl⟩
                        · skip
                          have HE : Hid (marginsB s.top s.bottom s.main.rows = true) := Lib.hid (by rw [HMR.out]; simp [hd, ha, hb, hc])
                          go_wp2_with fail
                          go_meet
                          exact ⟨by rw [HE.out], rfl⟩
                case rest =>
                obtain ⟨rfl, rfl⟩ := hcut
                rename World => w5
                clear HMR
                have c5 : ∀ j, w5.cell? ⟨w.heap.size, j, none⟩ = (sarr s x y (.slice Az s.tabs.length cz))[j]? := H5.out.b0.cell
                go_upto_region 7 with (fail)
                go_cut [6] from 93 to 101 (fun s6 wx => s6 = .bool (lastB s.last) ∧ Hid (Rs w s x y (.slice Az s.tabs.length cz) wx))
                case first =>
                  cases h0 : (s.last == 0)
                  · have HE : Hid (lastB s.last = decide (0 < wid s.last)) := Lib.hid (by unfold lastB; rw [h0, width_pos]; rfl)
                    obtain ⟨q, hq⟩ : ∃ q, wid s.last = q := ⟨_, rfl⟩
                    have HQ := Lib.hid hq
                    rw [hq] at HE
                    clear hq
                    by_cases hp : 0 < q
                    all_goals
                      go_wp2_with fail
                      refine rs_then H5 (width_at s.last q HQ.out _) ?_; intro w6 H6 c6; clear c5
                      have hd := decide_eq_true_eq (p := 0 < q)
                      go_wp2_with fail
                      go_meet
                      exact ⟨by simp [HE.out, hp], H6⟩
                  · have HE : Hid (lastB s.last = true) := Lib.hid (by unfold lastB; rw [h0]; rfl)
                    go_wp2_with fail
                    go_meet
                    exact ⟨by rw [HE.out], H5⟩
                case rest =>
                obtain ⟨rfl, H6⟩ := hcut
                rename World => w6
                clear H5 c5
                have c6 : ∀ j, w6.cell? ⟨w.heap.size, j, none⟩ = (sarr s x y (.slice Az s.tabs.length cz))[j]? := H6.out.b0.cell
                obtain ⟨la, hla⟩ : ∃ b, lastB s.last = b := ⟨_, rfl⟩
                obtain ⟨mb, hmb⟩ : ∃ b, marginsB s.top s.bottom s.main.rows = b := ⟨_, rfl⟩
                have HO2 : Hid (okB s = (mb && ((s.tabs.length : Int) == s.main.cols && (rng s.modes 0 1023 && (titleB s.title && la))))) := Lib.hid (by rw [HOK.out, hla, hmb])
                rw [hla, hmb]
                clear hla hmb HOK
                cases mb
                · skip
                  have HE : Hid (okB s = false) := Lib.hid (by rw [HO2.out]; rfl)
                  go_wp2_with fail
                  go_ret
                  exact ⟨ret_bool HE.out.symm, H6.out.bel⟩
                · cases hl : ((s.tabs.length : Int) == s.main.cols)
                  · skip
                    have HE : Hid (okB s = false) := Lib.hid (by rw [HO2.out]; simp [hl])
                    go_wp2_with fail
                    go_ret
                    exact ⟨ret_bool HE.out.symm, H6.out.bel⟩
                  · cases hn : rng s.modes 0 1023
                    · have HN := Lib.hid hn
                      have HE : Hid (okB s = false) := Lib.hid (by rw [HO2.out]; simp [hl, hn])
                      clear hn
                      go_wp2_with fail
                      refine pureT (num_is HN.out _) ?_
                      go_wp2_with fail
                      go_ret
                      exact ⟨ret_bool HE.out.symm, H6.out.bel⟩
                    · have HN := Lib.hid hn
                      cases ht : titleB s.title
                      · have HT := Lib.hid ht
                        have HE : Hid (okB s = false) := Lib.hid (by rw [HO2.out]; simp [hl, hn, ht])
                        clear hn ht
                        go_wp2_with fail
                        refine pureT (num_is HN.out _) ?_
                        go_wp2_with fail
                        refine rs_then H6 (refTitle_is s.title _ _ HS.out.t H6.out.t HT.out) ?_; intro w7 H7 c7; clear c6
                        go_wp2_with fail
                        go_ret
                        exact ⟨ret_bool HE.out.symm, H7.out.bel⟩
                      · have HT := Lib.hid ht
                        have HE : Hid (okB s = la) := Lib.hid (by rw [HO2.out]; simp [hl, hn, ht])
                        clear hn ht
                        go_wp2_with fail
                        refine pureT (num_is HN.out _) ?_
                        go_wp2_with fail
                        refine rs_then H6 (refTitle_is s.title _ _ HS.out.t H6.out.t HT.out) ?_; intro w7 H7 c7; clear c6
                        go_wp2_with fail
                        go_ret
                        exact ⟨ret_bool HE.out.symm, H7.out.bel⟩
end Scr
end
end Go.Proofs.YtceaoadlhdgnmaaGreatDoor
