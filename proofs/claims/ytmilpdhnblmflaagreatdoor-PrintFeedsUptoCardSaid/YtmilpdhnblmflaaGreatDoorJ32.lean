/- Joined texts: ScrRefView. -/
import Derived.Test.YtmilpdhnblmflaaGreatDoorJ1
import Derived.Test.YtmilpdhnblmflaaGreatDoorJ2
import Derived.Test.YtmilpdhnblmflaaGreatDoorJ3
import Derived.Test.YtmilpdhnblmflaaGreatDoorJ4
import Derived.Test.YtmilpdhnblmflaaGreatDoorJ5
import Derived.Test.YtmilpdhnblmflaaGreatDoorJ6
import Derived.Test.YtmilpdhnblmflaaGreatDoorJ7
import Derived.Test.YtmilpdhnblmflaaGreatDoorJ8
import Derived.Test.YtmilpdhnblmflaaGreatDoorJ9
import Derived.Test.YtmilpdhnblmflaaGreatDoorJ11
import Derived.Test.YtmilpdhnblmflaaGreatDoorJ12
import Derived.Test.YtmilpdhnblmflaaGreatDoorJ13
import Derived.Test.YtmilpdhnblmflaaGreatDoorJ14
import Derived.Test.YtmilpdhnblmflaaGreatDoorJ15
import Derived.Test.YtmilpdhnblmflaaGreatDoorJ17
import Derived.Test.YtmilpdhnblmflaaGreatDoorJ21
import Derived.Test.YtmilpdhnblmflaaGreatDoorJ22
import Derived.Test.YtmilpdhnblmflaaGreatDoorJ23
import Derived.Test.YtmilpdhnblmflaaGreatDoorJ29
import Derived.Test.YtmilpdhnblmflaaGreatDoorJ30
import Derived.Deep.RegionLaw
import Derived.Deep.RegionHeld3
section
/- What is seen of a screen: the page's. -/
namespace Go.Proofs.YtmilpdhnblmflaaGreatDoor
set_option maxRecDepth 100000
open Go.RowKit
namespace Scr
open Go.Proofs.YtmilpdhnblmflaaGreatDoor.Row

def seenO (s : S) : Nat := if s.swapped then 3 else 0
theorem refSeen8 (s : S) (x y z : Value) (b : Nat) (w : World) (h : SBox w b s x y z) : Calls Tryz.prog 54 #[.pointer (some ⟨b, 0, none⟩)] w fun e w' => e = .returned (.pointer (some ⟨b, seenO s, none⟩)) ∧ w = w' := by
  have c0 : ∀ j, w.cell? ⟨b, j, none⟩ = (sarr s x y z)[j]? := h.cell
  clear h
  cases hs : s.swapped
  · have HO : Hid (seenO s = 0) := Lib.hid (by unfold seenO; rw [hs]; rfl)
    rw [HO.out]
    go_enter Tryz.func54, Tryz.ntmps54
    go_wp2_with fail
    go_ret
    exact ⟨rfl, rfl⟩
  · have HO : Hid (seenO s = 3) := Lib.hid (by unfold seenO; rw [hs]; rfl)
    rw [HO.out]
    go_enter Tryz.func54, Tryz.ntmps54
    go_wp2_with fail
    go_ret
    exact ⟨rfl, rfl⟩
theorem seen_arr (s : S) (x y z : Value) : (sarr s x y z)[seenO s]? = some (.int .i64 (seenG s).rows) ∧ (sarr s x y z)[seenO s + 1]? = some (.int .i64 (seenG s).cols) ∧ (sarr s x y z)[seenO s + 2]? = some (seenX s x y) := by
  unfold seenO seenG seenX
  cases s.swapped
  · exact ⟨rfl, rfl, rfl⟩
  · exact ⟨rfl, rfl, rfl⟩
set_option maxHeartbeats 6400000 in
theorem refView8 (s : S) (x y z : Value) (w : World) (h : In w s x y z) (hl : (seenG s).cells.length ≤ 1000000) :
    Calls Tryz.prog 18 #[sv s x y z] w fun e w' => ∃ v, e = .returned (viewV (seenG s) v s.cur.row s.cur.col s.modes s.title) ∧ OwnCs w' w.heap.size v (seenG s).cells ∧ Below w.heap.size w w' := by
  have HI := Lib.hid h
  obtain ⟨G, hG⟩ : ∃ G, seenG s = G := ⟨_, rfl⟩
  have HSX := Lib.hid (fun W (k : In W s x y z) => seenX_rm k)
  have HSC := Lib.hid (seen_arr s x y z)
  have HSN := Lib.hid (fun W (k : SBox W w.heap.size s x y z) => refSeen8 s x y z w.heap.size W k)
  rw [hG] at hl HSX HSC ⊢
  clear hG
  obtain ⟨X, hX⟩ : ∃ X, seenX s x y = X := ⟨_, rfl⟩
  rw [hX] at HSX HSC
  clear hX
  obtain ⟨AX, nX, cX, rfl⟩ : ∃ A n c, X = .slice A n c := (by obtain ⟨A, c, e, _⟩ := (HSX.out w h).2; exact ⟨A, _, c, e⟩)
  obtain ⟨p, hp⟩ : ∃ p, seenO s = p := ⟨_, rfl⟩
  rw [hp] at HSC HSN
  clear hp
  have H0 : Hid (Vw w s x y z ((w.alloc (.cells (sarr s x y z) 38)).alloc (vbox noG nilV 0 0 0 []))) := Lib.hid ⟨(bel_alloc w _).alloc (by simp) _, heap_alloc2_old _ _ _, heap_alloc2_new _ _ _⟩
  have HCP := Lib.hid (fun W (k : Cs W (.slice AX nX cX) G.cells) => copyGrid_any G.rows G.cols G.cells (.slice AX nX cX) W k (by omega))
  clear h hl
  go_enter Tryz.func18, Tryz.ntmps18
  go_upto_region 1 with (fail)
  change Code.wp _ _ _ _ ((w.alloc (.cells (sarr s x y z) 38)).alloc (vbox noG nilV 0 0 0 []))
  generalize (w.alloc (.cells (sarr s x y z) 38)).alloc (vbox noG nilV 0 0 0 []) = w1 at H0 ⊢
  have HSB : Hid (∀ W, SBox W w.heap.size s x y z → W.cell? ⟨w.heap.size, 7, none⟩ = some (.int .i64 s.cur.row) ∧ W.cell? ⟨w.heap.size, 8, none⟩ = some (.int .i64 s.cur.col) ∧ W.cell? ⟨w.heap.size, 40, none⟩ = some (.int .i64 s.modes) ∧ W.cell? ⟨w.heap.size, 41, none⟩ = some (.string ⟨s.title.toArray⟩) ∧
      W.cell? ⟨w.heap.size, p, none⟩ = some (.int .i64 G.rows) ∧ W.cell? ⟨w.heap.size, p + 1, none⟩ = some (.int .i64 G.cols) ∧ W.cell? ⟨w.heap.size, p + 2, none⟩ = some (.slice AX nX cX)) := Lib.hid fun W k => by
    obtain ⟨s0, s1, s2⟩ := HSC.out
    exact ⟨k.cell 7, k.cell 8, k.cell 40, k.cell 41, by rw [k.cell]; exact s0, by rw [k.cell]; exact s1, by rw [k.cell]; exact s2⟩
  have q1 := HSB.out w1.drew H0.out.b0
  go_region_held3 (fun w' => w'.cell? ⟨w.heap.size, 7, none⟩ = some (.int .i64 s.cur.row) ∧ w'.cell? ⟨w.heap.size, 8, none⟩ = some (.int .i64 s.cur.col) ∧ w'.cell? ⟨w.heap.size, 40, none⟩ = some (.int .i64 s.modes) ∧ w'.cell? ⟨w.heap.size, 41, none⟩ = some (.string ⟨s.title.toArray⟩) ∧
      w'.cell? ⟨w.heap.size, p, none⟩ = some (.int .i64 G.rows) ∧ w'.cell? ⟨w.heap.size, p + 1, none⟩ = some (.int .i64 G.cols) ∧ w'.cell? ⟨w.heap.size, p + 2, none⟩ = some (.slice AX nX cX)) (first | (with_reducible exact q2) | (with_reducible exact q1) | go_keep)
    ((first
      | (have h := HQ.out; go_at_call 40; refine (HCP.out w1.drew (HSX.out w1.drew (HI.out.kept ((H0.out.kept ((Below.refl _ _).drew)).bel))).cs).mono ?_; rintro e w2 ⟨v, rfl, ho, hb⟩; obtain ⟨A', n', c', rfl⟩ : ∃ A n c, v = .slice A n c := (by obtain ⟨A, c, e, _⟩ := ho.rm.2; exact ⟨A, _, c, e⟩); have H2 := Lib.hid (H0.out.kept ((Below.refl _ _).drew.trans hb)); have HO : Hid (OwnCs w2 w1.heap.size (.slice A' n' c') G.cells) := Lib.hid ho; have q2 := HSB.out w2 H2.out.b0; obtain ⟨v0, v1, v2, v3, v4, v5, v6⟩ := vbox_cells H2.out.b1; have vf : ∀ j, w2.frozen? ⟨w.heap.size + 1, j, none⟩ = false := Blk.free H2.out.b1; clear ho hb)
      | (go_at_call 54; refine (HSN.out w1.drew H0.out.b0).mono ?_; rintro e w2 ⟨rfl, rfl⟩; have HQ : Hid True := Lib.hid trivial)))
  all_goals
    have HU : Hid (w.heap.size + 2 ≤ w1.heap.size) := Lib.hid (Blk.lt H0.out.b1)
    have HF := Lib.hid (vput_box H2.out.b1 G (.slice A' n' c') s.cur.row s.cur.col s.modes s.title)
    have HO6 := Lib.hid (vput_own HO.out (show w.heap.size + 1 < w1.heap.size by have := HU.out; omega) G.rows G.cols (.slice A' n' c') s.cur.row s.cur.col s.modes s.title)
    have HL6 := Lib.hid (vput_below H2.out.bel (show w.heap.size ≤ w.heap.size + 1 by omega) G.rows G.cols (.slice A' n' c') s.cur.row s.cur.col s.modes s.title)
    go_wp2_with fail
    show bodyPost _ _ _ _ _ (vput w2 (w.heap.size + 1) G.rows G.cols (.slice A' n' c') s.cur.row s.cur.col s.modes s.title)
    clear q1 q2 v0 v1 v2 v3 v4 v5 v6 vf
    generalize vput w2 (w.heap.size + 1) G.rows G.cols (.slice A' n' c') s.cur.row s.cur.col s.modes s.title = wF at HF HO6 HL6 ⊢
    obtain ⟨v0, v1, v2, v3, v4, v5, v6⟩ := vbox_cells HF.out
    exact bodyPost_ret (v := viewV G (.slice A' n' c') s.cur.row s.cur.col s.modes s.title) (by simp [results, Tryz.results18, go_sem, v0, v1, v2, v3, v4, v5, v6]) rfl ⟨_, rfl, HO6.out.low (show w.heap.size ≤ w1.heap.size by have := HU.out; omega), HL6.out⟩
end Scr
end Go.Proofs.YtmilpdhnblmflaaGreatDoor
end
