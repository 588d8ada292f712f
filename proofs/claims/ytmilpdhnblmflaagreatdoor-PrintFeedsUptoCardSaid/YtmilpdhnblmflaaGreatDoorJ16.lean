/- Joined texts: ScrRes. -/
import Derived.Test.YtmilpdhnblmflaaGreatDoorJ1
import Derived.Test.YtmilpdhnblmflaaGreatDoorJ2
import Derived.Test.YtmilpdhnblmflaaGreatDoorJ3
import Derived.Test.YtmilpdhnblmflaaGreatDoorJ4
import Derived.Test.YtmilpdhnblmflaaGreatDoorJ5
import Derived.Test.YtmilpdhnblmflaaGreatDoorJ6
import Derived.Test.YtmilpdhnblmflaaGreatDoorJ7
import Derived.Test.YtmilpdhnblmflaaGreatDoorJ8
import Derived.Test.YtmilpdhnblmflaaGreatDoorJ9
import Derived.Test.YtmilpdhnblmflaaGreatDoorJ10
import Derived.Test.YtmilpdhnblmflaaGreatDoorJ11
import Derived.Test.YtmilpdhnblmflaaGreatDoorJ12
import Derived.Test.YtmilpdhnblmflaaGreatDoorJ13
import Derived.Test.YtmilpdhnblmflaaGreatDoorJ14
import Derived.Test.YtmilpdhnblmflaaGreatDoorJ15
import Derived.BigRegion
import Derived.LoopTactic
section
/- The developers' screen of another size. -/
namespace Go.Proofs.YtmilpdhnblmflaaGreatDoor
set_option maxRecDepth 100000
open Go.RowKit
namespace Scr
open Go.Proofs.YtmilpdhnblmflaaGreatDoor.Row

/-- .. its main grid made. -/
structure RzM (w0 : World) (s : S) (x y z : Value) (G : Gr) (X : Value) (w : World) : Prop where
  r : Rz w0 s x y z w
  m : OwnCs w (w0.heap.size + 2) X G.cells
theorem RzM.kept {w0 w w' : World} {s : S} {x y z : Value} {G : Gr} {X : Value} (h : RzM w0 s x y z G X w) (hb : Below w.heap.size w w') : RzM w0 s x y z G X w' := ⟨h.r.kept hb, h.m.kept hb⟩
theorem RzM.put {w0 w : World} {s : S} {x y z : Value} {G : Gr} {X : Value} (h : RzM w0 s x y z G X w) : RzM w0 { s with main := G } X y z G X (gput w w0.heap.size G.rows G.cols X) :=
  ⟨h.r.main G.rows G.cols G.cells X, gput_own h.m (by omega) _ _ _⟩
/-- .. and laid into a box of its own. -/
def Laid (w0 : World) (s : S) (x y z : Value) (G : Gr) (r c : Nat) (s9 s10 : Value) (wx : World) : Prop :=
  ∃ b n cp A, s9 = .pointer (some ⟨b, 0, none⟩) ∧ s10 = .int .i64 0 ∧ Hid (wx.heap[b]? = some (gbox r c (.slice A n cp))) ∧ Hid (RzM w0 s x y z G (.slice A n cp) wx)
abbrev gnil : Obj := gbox 0 0 (.slice none 0 0)
/-- The box's cells, empty yet. -/
theorem gnil_cells {w : World} {b : Nat} (h : w.heap[b]? = some gnil) : (∀ j, w.frozen? ⟨b, j, none⟩ = false) ∧ w.cell? ⟨b, 0, none⟩ = some (.int .i64 0) ∧ w.cell? ⟨b, 1, none⟩ = some (.int .i64 0) ∧ w.cell? ⟨b, 2, none⟩ = some (.slice none 0 0) :=
  ⟨Blk.free h, Blk.cell h 0, Blk.cell h 1, Blk.cell h 2⟩
theorem laid_put {w0 w3 : World} {s : S} {x y z : Value} {G : Gr} {r c b base n cp : Nat} {A : Option Addr} (hr : Rz w0 s x y z w3) (ho : OwnCs w3 base (.slice A n cp) G.cells) (hb : b < base) (hz : w3.heap[b]? = some gnil) (hb0 : w0.heap.size + 2 ≤ b) :
    Laid w0 s x y z G r c (.pointer (some ⟨b, 0, none⟩)) (.int .i64 0) (gput w3 b r c (.slice A n cp)) := by
  refine ⟨b, n, cp, A, rfl, rfl, Lib.hid (gput_box hz r c _), Lib.hid ⟨⟨gput_below hr.bel (by omega) _ _ _, gput_other hr.b0 (by omega) _ _ _, gput_other hr.b1 (by omega) _ _ _⟩, (gput_own ho hb _ _ _).low (by omega)⟩⟩
theorem laid_new {w0 w3 : World} {s : S} {x y z : Value} {G : Gr} {r c base n cp : Nat} {A : Option Addr} (hr : Rz w0 s x y z w3) (ho : OwnCs w3 base (.slice A n cp) G.cells) (hb0 : w0.heap.size + 2 ≤ base) :
    Laid w0 s x y z G r c (.pointer (some ⟨w3.heap.size, 0, none⟩)) (.int .i64 0) (w3.alloc (gbox r c (.slice A n cp))) :=
  ⟨w3.heap.size, n, cp, A, rfl, rfl, Lib.hid (heap_alloc_new _ _), Lib.hid ⟨hr.kept (bel_alloc w3 _), (ho.kept (bel_alloc w3 _)).low hb0⟩⟩
theorem dalloc (w : World) (o : Obj) : Below w.heap.size w (w.drew.alloc o) := (Below.refl _ _).drew.alloc (Nat.le_refl _) _
/-- Both grids made. -/
structure RzO (w0 : World) (s : S) (x y z : Value) (G G' : Gr) (w : World) : Prop where
  r : Rz w0 s x y z w
  m : OwnCs w (w0.heap.size + 2) x G.cells
  o : OwnCs w (w0.heap.size + 2) y G'.cells
theorem RzO.kept {w0 w w' : World} {s : S} {x y z : Value} {G G' : Gr} (h : RzO w0 s x y z G G' w) (hb : Below w.heap.size w w') : RzO w0 s x y z G G' w' := ⟨h.r.kept hb, h.m.kept hb, h.o.kept hb⟩
theorem RzM.other {w0 w : World} {s : S} {X y z : Value} {G : Gr} (h : RzM w0 s X y z G X w) {G' : Gr} {Y : Value} (hy : OwnCs w (w0.heap.size + 2) Y G'.cells) : RzO w0 { s with other := G' } X Y z G G' (oput w w0.heap.size G'.rows G'.cols Y) :=
  ⟨h.r.other G'.rows G'.cols G'.cells Y, oput_own h.m (by omega) _ _ _, oput_own hy (by omega) _ _ _⟩
/-- The margins anew. -/
def eput (w : World) (b : Nat) (n m : Int) : World := (w.setCell ⟨b, 37, none⟩ (.int .i64 n)).setCell ⟨b, 38, none⟩ (.int .i64 m)
theorem SBox.putEnds {w : World} {b : Nat} {s : S} {x y z : Value} (h : SBox w b s x y z) (n m : Int) : SBox (eput w b n m) b { s with top := n, bottom := m } x y z := Blk.set (Blk.set h 37 _) 38 _
theorem Rz.ends {w0 w : World} {s : S} {x y z : Value} (h : Rz w0 s x y z w) (n m : Int) : Rz w0 { s with top := n, bottom := m } x y z (eput w w0.heap.size n m) :=
  ⟨(h.bel.setCell (Nat.le_refl _) _).setCell (Nat.le_refl _) _, h.b0.putEnds n m, Blk.other (Blk.other h.b1 (by omega) _ _) (by omega) _ _⟩
theorem cut_is {l : List Bool} {n : Nat} (hl : 1 ≤ l.length ∧ l.length ≤ 40) (h3 : 1 ≤ n) (h4 : n ≤ 40) : Tab.cutOf l (n : Int) = Tab.grownOf l n ∧ Tab.codeOf (Tab.cutOk l (n : Int)) = 0 := by
  have h : Tab.cutOk l (n : Int) = true := by unfold Tab.cutOk; rw [Tab.okB_yes.2 hl, Tab.rng_yes.2 ⟨by omega, by omega⟩]; rfl
  unfold Tab.cutOf
  rw [h]
  exact ⟨rfl, rfl⟩
/-- The first k cursors are cut. -/
def curK (s : S) (r c : Nat) (k : Nat) : S := { s with cur := if 0 < k then fitC s.cur r c else s.cur, saved := if 1 < k then fitC s.saved r c else s.saved, too := if 2 < k then fitC s.too r c else s.too }
abbrev ptrs (b : Nat) : Obj := .cells #[.pointer (some ⟨b, 7, none⟩), .pointer (some ⟨b, 17, none⟩), .pointer (some ⟨b, 27, none⟩)] 80
/-- All made but the cursors. -/
structure RzT (w0 : World) (s : S) (x y z : Value) (w : World) : Prop where
  r : Rz w0 s x y z w
  own : Own w (w0.heap.size + 2) s x y z
theorem RzT.kept {w0 w w' : World} {s : S} {x y z : Value} (h : RzT w0 s x y z w) (hb : Below w.heap.size w w') : RzT w0 s x y z w' := ⟨h.r.kept hb, h.own.kept hb⟩
theorem RzT.cur0 {w0 w : World} {t : S} {x y z : Value} {r c : Nat} (h : RzT w0 (curK t r c 0) x y z w) : RzT w0 (curK t r c 1) x y z (kput w w0.heap.size 7 (min t.cur.row ((r : Int) - 1)) (min t.cur.col ((c : Int) - 1)) false) :=
  ⟨h.r.cur _ _ _, kput_cs h.own.m (by omega) _ _ _, kput_cs h.own.o (by omega) _ _ _, kput_bs h.own.t (by omega) _ _ _⟩
theorem RzT.cur1 {w0 w : World} {t : S} {x y z : Value} {r c : Nat} (h : RzT w0 (curK t r c 1) x y z w) : RzT w0 (curK t r c 2) x y z (kput w w0.heap.size 17 (min t.saved.row ((r : Int) - 1)) (min t.saved.col ((c : Int) - 1)) false) :=
  ⟨h.r.saved _ _ _, kput_cs h.own.m (by omega) _ _ _, kput_cs h.own.o (by omega) _ _ _, kput_bs h.own.t (by omega) _ _ _⟩
theorem RzT.cur2 {w0 w : World} {t : S} {x y z : Value} {r c : Nat} (h : RzT w0 (curK t r c 2) x y z w) : RzT w0 (curK t r c 3) x y z (kput w w0.heap.size 27 (min t.too.row ((r : Int) - 1)) (min t.too.col ((c : Int) - 1)) false) :=
  ⟨h.r.too _ _ _, kput_cs h.own.m (by omega) _ _ _, kput_cs h.own.o (by omega) _ _ _, kput_bs h.own.t (by omega) _ _ _⟩
theorem RzT.ends {w0 w : World} {s : S} {x y z : Value} (h : RzT w0 s x y z w) (n m : Int) : RzT w0 { s with top := n, bottom := m } x y z (eput w w0.heap.size n m) :=
  ⟨h.r.ends n m, (h.own.m.set (by omega) _ _).set (by omega) _ _, (h.own.o.set (by omega) _ _).set (by omega) _ _, ownB_set (ownB_set h.own.t (by omega) _ _) (by omega) _ _⟩
set_option maxHeartbeats 12000000 in
theorem resize_any (s : S) (x y z : Value) (r c : Nat) (w : World) (h : In w s x y z) (hh : Holds s) (hT : Tabs w) (hok : okB s = true) (h1 : 1 ≤ r) (h2 : r ≤ 40) (h3 : 1 ≤ c) (h4 : c ≤ 40) :
    Calls Tryz.prog 14 #[sv s x y z, .int .i64 r, .int .i64 c] w fun e w' => ∃ x' y' z', e = .returned (.tuple #[sv (resized s r c) x' y' z', .int .i64 0]) ∧ Own w' w.heap.size (resized s r c) x' y' z' ∧ Below w.heap.size w w' := by
  obtain ⟨Az, nz, cz, rfl⟩ : ∃ A n c, z = .slice A n c := (by obtain ⟨A, c, e, _⟩ := h.t.room; exact ⟨A, _, c, e⟩)
  have HI := Lib.hid h
  have HH := Lib.hid hh
  have H0 := Lib.hid (Rz.start w s x y (.slice Az nz cz))
  have HCK := Lib.hid (check_any s x y (.slice Az nz cz) _ (h.kept H0.out.bel) hh (hT.kept H0.out.bel))
  rw [hok] at HCK
  have hok2 := hok
  unfold okB at hok2
  simp only [Bool.and_eq_true] at hok2
  have HG1 := Lib.hid hok2.1
  have HG2 := Lib.hid hok2.2.1
  have htl : (s.tabs.length : Int) = s.main.cols := eq_of_beq hok2.2.2.2.2.2.2.2.2.1
  have hsd := gridB_sides hok2.1
  have HCU := Lib.hid (cut_is (l := s.tabs) (n := c) (by omega) h3 h4)
  have HFM := Lib.hid (fun W (k : Rm W x s.main.cells) => fitG_any s.main x r c W HG1.out k HH.out.m h1 h2 h3 h4)
  have HFO := Lib.hid (fun W (k : Rm W y s.other.cells) => fitG_any s.other y r c W HG2.out k HH.out.o h1 h2 h3 h4)
  have hwr : IntKind.i64.wrap ((r : Int) - 1) = (r : Int) - 1 := by rw [IntKind.wrap_i64]; omega
  have hwc : IntKind.i64.wrap ((c : Int) - 1) = (c : Int) - 1 := by rw [IntKind.wrap_i64]; omega
  clear h hh hT hok hok2 htl hsd
  go_enter Tryz.func14, Tryz.ntmps14
  go_wp2_with (first
    | (refine wp_allocS1 (w := w) rfl rfl ?_)
    | (refine wp_loadS (b := w.heap.size) (s := s) rfl rfl rfl H0.out.b0 ?_))
  refine HCK.out.mono ?_; rintro e w1 ⟨rfl, hb⟩
  have H1 := Lib.hid (H0.out.kept hb)
  clear hb H0 HCK
  go_upto_region 4 with (fail)
  go_cut [9, 10] from 19 to 27 (fun s9 s10 wx => Laid w s x y (.slice Az nz cz) (fitG s.main r c) r c s9 s10 wx)
  case first =>
    have HP := Lib.hid (plain_any w1.drew)
    have HPA := Lib.hid (plain_any (w1.drew.alloc gnil))
    have c0 : ∀ j, w1.cell? ⟨w.heap.size, j, none⟩ = (sarr s x y (.slice Az nz cz))[j]? := H1.out.b0.cell
    have l0 : w.heap.size < w1.heap.size := by have := H1.out.up; omega
    go_region_law (first
      | (have hz := HZ2.out; have h := H2.out; go_simp; go_at_call 45; refine (HFM.out w2 (HI.out.kept h.bel).m).mono ?_; rintro e w3 ⟨v, rfl, ho, hb⟩; obtain ⟨A, cp, rfl, _⟩ := ho.rm.2; have HE := Lib.hid (laid_put (r := r) (c := c) (h.kept hb) ho (Blk.lt hz) (Blk.kept hz hb) H1.out.up); obtain ⟨y0, z0, z1, z2⟩ := gnil_cells (Blk.kept hz hb); clear ho hb)
      | (have h := H2.out; go_simp; go_at_call 45; refine (HFM.out (w2.alloc gnil) (HI.out.kept (h.kept (bel_alloc w2 gnil)).bel).m).mono ?_; rintro e w3 ⟨v, rfl, ho, hb⟩; obtain ⟨A, cp, rfl, _⟩ := ho.rm.2; have HE := Lib.hid (laid_put (r := r) (c := c) ((h.kept (bel_alloc w2 gnil)).kept hb) ho (show w2.heap.size < (w2.alloc gnil).heap.size by simp) (Blk.kept (heap_alloc_new w2 gnil) hb) h.up); obtain ⟨y0, z0, z1, z2⟩ := gnil_cells (Blk.kept (heap_alloc_new w2 gnil) hb); clear ho hb)
      | (have h := H2.out; go_simp; go_at_call 45; refine (HFM.out w2 (HI.out.kept h.bel).m).mono ?_; rintro e w3 ⟨v, rfl, ho, hb⟩; obtain ⟨A, cp, rfl, _⟩ := ho.rm.2; have HE := Lib.hid (laid_new (r := r) (c := c) (h.kept hb) ho h.up); clear ho hb)
      | (go_simp; go_at_call 35; refine HPA.out.mono ?_; rintro e w2 ⟨rfl, hb⟩; have H2 := Lib.hid (H1.out.kept ((dalloc w1 gnil).trans (hb.mono (by simp)))); have HZ2 : Hid (w2.heap[w1.heap.size]? = some gnil) := Lib.hid (Blk.kept (heap_alloc_new w1.drew gnil) hb); have c2 : ∀ j, w2.cell? ⟨w.heap.size, j, none⟩ = (sarr s x y (.slice Az nz cz))[j]? := H2.out.b0.cell; clear hb)
      | (go_simp; go_at_call 35; refine HP.out.mono ?_; rintro e w2 ⟨rfl, hb⟩; have H2 := Lib.hid (H1.out.kept ((Below.refl _ _).drew.trans hb)); have c2 : ∀ j, w2.cell? ⟨w.heap.size, j, none⟩ = (sarr s x y (.slice Az nz cz))[j]? := H2.out.b0.cell; have l2 : w.heap.size < w2.heap.size := (by have := H2.out.up; omega); clear hb))
    all_goals
      go_wp2_with fail
      go_meet
      exact HE.out
  case rest =>
    obtain ⟨b, n, cp, A, rfl, rfl, HBX, H2⟩ := hcut
    rename World => w2
    clear H1 HFM HG1
    have H3 : Hid (RzM w { s with main := fitG s.main r c } (.slice A n cp) y (.slice Az nz cz) (fitG s.main r c) (.slice A n cp) (gput w2 w.heap.size r c (.slice A n cp))) := Lib.hid H2.out.put
    have x0 : w2.cell? ⟨b, 0, none⟩ = some (.int .i64 r) := Blk.cell HBX.out 0
    have x1 : w2.cell? ⟨b, 1, none⟩ = some (.int .i64 c) := Blk.cell HBX.out 1
    have x2 : w2.cell? ⟨b, 2, none⟩ = some (.slice A n cp) := Blk.cell HBX.out 2
    have f0 : ∀ j, w2.frozen? ⟨w.heap.size, j, none⟩ = false := H2.out.r.b0.free
    have c0 : ∀ j, w2.cell? ⟨w.heap.size, j, none⟩ = (sarr s x y (.slice Az nz cz))[j]? := H2.out.r.b0.cell
    go_upto_region 8 with (fail)
    change Code.wp _ _ _ _ (gput w2 w.heap.size r c (.slice A n cp))
    clear x0 x1 x2 f0 c0 H2 HBX
    generalize gput w2 w.heap.size r c (.slice A n cp) = w3 at H3 ⊢
    go_cut [34] from 34 to 43 (fun _ wx => ∃ n' cp' A', Hid (RzO w { s with main := fitG s.main r c, other := fitG s.other r c } (.slice A n cp) (.slice A' n' cp') (.slice Az nz cz) (fitG s.main r c) (fitG s.other r c) wx))
    case first =>
      have HP := Lib.hid (plain_any w3.drew)
      have c0 : ∀ j, w3.cell? ⟨w.heap.size, j, none⟩ = (sarr { s with main := fitG s.main r c } (.slice A n cp) y (.slice Az nz cz))[j]? := H3.out.r.b0.cell
      go_region_law (first
        | (have h := H4.out; go_simp; go_at_call 45; refine (HFO.out w4 (HI.out.kept h.r.bel).o).mono ?_; rintro e w5 ⟨v, rfl, ho, hb⟩; obtain ⟨A', cp', rfl, _⟩ := ho.rm.2; have HE := Lib.hid ((h.kept hb).other (ho.low h.r.up)); have f5 : ∀ j, w5.frozen? ⟨w.heap.size, j, none⟩ = false := (h.kept hb).r.b0.free; have c5 : ∀ j, w5.cell? ⟨w.heap.size, j, none⟩ = (sarr { s with main := fitG s.main r c } (.slice A n cp) y (.slice Az nz cz))[j]? := (h.kept hb).r.b0.cell; clear ho hb)
        | (go_simp; go_at_call 35; refine HP.out.mono ?_; rintro e w4 ⟨rfl, hb⟩; have H4 := Lib.hid (H3.out.kept ((Below.refl _ _).drew.trans hb)); have c4 : ∀ j, w4.cell? ⟨w.heap.size, j, none⟩ = (sarr { s with main := fitG s.main r c } (.slice A n cp) y (.slice Az nz cz))[j]? := H4.out.r.b0.cell; clear hb))
      all_goals
        go_wp2_with fail
        go_meet
        exact ⟨_, _, _, HE⟩
    case rest =>
      obtain ⟨n', cp', A', H4⟩ := hcut
      rename World => w4
      clear H3 HFO HG2
      have HTB := Lib.hid (Tab.resize_any s.tabs (c : Int) (.slice Az nz cz) w4 (HI.out.kept H4.out.r.bel).t)
      rw [HCU.out.1, HCU.out.2] at HTB
      have c4 : ∀ j, w4.cell? ⟨w.heap.size, j, none⟩ = (sarr { s with main := fitG s.main r c, other := fitG s.other r c } (.slice A n cp) (.slice A' n' cp') (.slice Az nz cz))[j]? := H4.out.r.b0.cell
      go_wp2_with fail
      refine HTB.out.mono ?_; rintro e w5 ⟨v, rfl, ho, hb⟩
      obtain ⟨At, ct, hv, _⟩ := ho.bl.room
      obtain ⟨m, hm⟩ : ∃ m, (Tab.grownOf s.tabs c).length = m := ⟨_, rfl⟩
      rw [hm] at hv
      subst hv
      have H5 := Lib.hid (H4.out.kept hb)
      have H6 : Hid (RzT w { s with main := fitG s.main r c, other := fitG s.other r c, tabs := Tab.grownOf s.tabs c } (.slice A n cp) (.slice A' n' cp') (.slice At m ct) (w5.setCell ⟨w.heap.size, 39, none⟩ (.slice At m ct))) :=
        Lib.hid ⟨H5.out.r.tabs _ _, ⟨H5.out.m.set (by omega) _ _, H5.out.o.set (by omega) _ _, ownB_set (ho.low H4.out.r.up) (by omega) _ _⟩⟩
      clear H4 c4 ho hb HTB HCU hm
      have f5 : ∀ j, w5.frozen? ⟨w.heap.size, j, none⟩ = false := H5.out.r.b0.free
      have c5 : ∀ j, w5.cell? ⟨w.heap.size, j, none⟩ = (sarr { s with main := fitG s.main r c, other := fitG s.other r c } (.slice A n cp) (.slice A' n' cp') (.slice Az nz cz))[j]? := H5.out.r.b0.cell
      go_upto_region 10 with (fail)
      change Code.wp _ _ _ _ (w5.setCell ⟨w.heap.size, 39, none⟩ (.slice At m ct))
      clear f5 c5 H5
      generalize w5.setCell ⟨w.heap.size, 39, none⟩ (.slice At m ct) = w6 at H6 ⊢
      obtain ⟨t, ht⟩ : ∃ t : S, ({ s with main := fitG s.main r c, other := fitG s.other r c, tabs := Tab.grownOf s.tabs c } : S) = t := ⟨_, rfl⟩
      rw [ht] at H6
      have HTT := Lib.hid ht
      clear ht
      have H7 : Hid (RzT w (curK t r c 0) (.slice A n cp) (.slice A' n' cp') (.slice At m ct) (w6.alloc (ptrs w.heap.size))) := Lib.hid (H6.out.kept (bel_alloc w6 _))
      have HPT : Hid ((w6.alloc (ptrs w.heap.size)).heap[w6.heap.size]? = some (ptrs w.heap.size)) := Lib.hid (heap_alloc_new _ _)
      have HLT : Hid (w.heap.size + 2 ≤ w6.heap.size) := Lib.hid H6.out.r.up
      go_wp2_with fail
      go_loopw [57] (fun i wr => ∃ k : Nat, k ≤ 3 ∧ i = .int .i64 k ∧ Hid (RzT w (curK t r c k) (.slice A n cp) (.slice A' n' cp') (.slice At m ct) wr) ∧ Hid (wr.heap[w6.heap.size]? = some (ptrs w.heap.size))) (fun i _ => 3 - (intOf i).toNat)
      case atStart => exact ⟨0, by omega, rfl, H7, HPT⟩
      case round =>
        obtain ⟨k, hk, rfl, HR, HP⟩ := hrel
        by_cases hlt : k < 3
        · have hk3 : k = 0 ∨ k = 1 ∨ k = 2 := by omega
          rcases hk3 with rfl | rfl | rfl
          · have p0 : wr.cell? ⟨w6.heap.size, 0, none⟩ = some (.pointer (some ⟨w.heap.size, 7, none⟩)) := Blk.cell HP.out 0
            have d7 : wr.cell? ⟨w.heap.size, 7, none⟩ = some (.int .i64 t.cur.row) := HR.out.r.b0.cell 7
            have d8 : wr.cell? ⟨w.heap.size, 8, none⟩ = some (.int .i64 t.cur.col) := HR.out.r.b0.cell 8
            have d9 : wr.cell? ⟨w.heap.size, 9, none⟩ = some (.bool t.cur.wrap) := HR.out.r.b0.cell 9
            have f9 : ∀ j, wr.frozen? ⟨w.heap.size, j, none⟩ = false := HR.out.r.b0.free
            have HR2 := Lib.hid HR.out.cur0
            have HP2 := Lib.hid (kput_other (g := w.heap.size) (p := 7) HP.out (by have := HLT.out; omega) (min t.cur.row ((r : Int) - 1)) (min t.cur.col ((c : Int) - 1)) false)
            go_upto_region 13 with (fail)
            go_region
            go_wp2_with fail
            go_roundw
            case rel => exact ⟨1, by omega, by go_num, Lib.hid (HR2.out.kept ((Below.refl _ _).drew)), Lib.hid HP2.out⟩
            case measure => simp [intOf]
          · have p0 : wr.cell? ⟨w6.heap.size, 1, none⟩ = some (.pointer (some ⟨w.heap.size, 17, none⟩)) := Blk.cell HP.out 1
            have d7 : wr.cell? ⟨w.heap.size, 17, none⟩ = some (.int .i64 t.saved.row) := HR.out.r.b0.cell 17
            have d8 : wr.cell? ⟨w.heap.size, 18, none⟩ = some (.int .i64 t.saved.col) := HR.out.r.b0.cell 18
            have d9 : wr.cell? ⟨w.heap.size, 19, none⟩ = some (.bool t.saved.wrap) := HR.out.r.b0.cell 19
            have f9 : ∀ j, wr.frozen? ⟨w.heap.size, j, none⟩ = false := HR.out.r.b0.free
            have HR2 := Lib.hid HR.out.cur1
            have HP2 := Lib.hid (kput_other (g := w.heap.size) (p := 17) HP.out (by have := HLT.out; omega) (min t.saved.row ((r : Int) - 1)) (min t.saved.col ((c : Int) - 1)) false)
            go_upto_region 13 with (fail)
            go_region
            go_wp2_with fail
            go_roundw
            case rel => exact ⟨2, by omega, by go_num, Lib.hid (HR2.out.kept ((Below.refl _ _).drew)), Lib.hid HP2.out⟩
            case measure => simp [intOf]
          · have p0 : wr.cell? ⟨w6.heap.size, 2, none⟩ = some (.pointer (some ⟨w.heap.size, 27, none⟩)) := Blk.cell HP.out 2
            have d7 : wr.cell? ⟨w.heap.size, 27, none⟩ = some (.int .i64 t.too.row) := HR.out.r.b0.cell 27
            have d8 : wr.cell? ⟨w.heap.size, 28, none⟩ = some (.int .i64 t.too.col) := HR.out.r.b0.cell 28
            have d9 : wr.cell? ⟨w.heap.size, 29, none⟩ = some (.bool t.too.wrap) := HR.out.r.b0.cell 29
            have f9 : ∀ j, wr.frozen? ⟨w.heap.size, j, none⟩ = false := HR.out.r.b0.free
            have HR2 := Lib.hid HR.out.cur2
            have HP2 := Lib.hid (kput_other (g := w.heap.size) (p := 27) HP.out (by have := HLT.out; omega) (min t.too.row ((r : Int) - 1)) (min t.too.col ((c : Int) - 1)) false)
            go_upto_region 13 with (fail)
            go_region
            go_wp2_with fail
            go_roundw
            case rel => exact ⟨3, by omega, by go_num, Lib.hid (HR2.out.kept ((Below.refl _ _).drew)), Lib.hid HP2.out⟩
            case measure => simp [intOf]
        · have hk3 : k = 3 := by omega
          subst hk3
          have f9 : ∀ j, wr.frozen? ⟨w.heap.size, j, none⟩ = false := HR.out.r.b0.free
          have d7 : wr.cell? ⟨w.heap.size, 37, none⟩ = some (.int .i64 t.top) := HR.out.r.b0.cell 37
          have d8 : wr.cell? ⟨w.heap.size, 38, none⟩ = some (.int .i64 t.bottom) := HR.out.r.b0.cell 38
          have HE : Hid (RzT w (resized s r c) (.slice A n cp) (.slice A' n' cp') (.slice At m ct) (eput wr w.heap.size 0 ((r : Int) - 1))) := Lib.hid (by
            have h := HR.out.ends 0 ((r : Int) - 1)
            have e : ({ curK t r c 3 with top := 0, bottom := (r : Int) - 1 } : S) = resized s r c := by rw [← HTT.out]; rfl
            rw [e] at h; exact h)
          go_wp2_with (first
            | (refine wp_loadS (b := w.heap.size) (s := resized s r c) (x0 := .slice A n cp) (y0 := .slice A' n' cp') (z0 := .slice At m ct) rfl rfl rfl HE.out.r.b0 ?_)
            | (refine wp_storeS (b := w.heap.size + 1) rfl rfl rfl rfl rfl (sarr_one rfl rfl rfl) HE.out.r.b1 rfl ?_; intro w8 h8))
          refine bodyPost_ret (ret2S rfl rfl h8.box rfl) rfl ?_
          exact ⟨_, _, _, rfl, Own.low (h8.own HE.out.own (by omega)) (by omega), h8.below _ _ (by omega) HE.out.r.bel⟩
end Scr
end Go.Proofs.YtmilpdhnblmflaaGreatDoor
end
