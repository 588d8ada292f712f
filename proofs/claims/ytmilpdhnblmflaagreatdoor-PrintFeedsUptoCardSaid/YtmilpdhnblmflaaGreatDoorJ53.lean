/- Joined texts: PrnRune. -/
import Derived.Test.YtmilpdhnblmflaaGreatDoorJ1
import Derived.Test.YtmilpdhnblmflaaGreatDoorJ2
import Derived.Test.YtmilpdhnblmflaaGreatDoorJ3
import Derived.Test.YtmilpdhnblmflaaGreatDoorJ4
import Derived.Test.YtmilpdhnblmflaaGreatDoorJ5
import Derived.Test.YtmilpdhnblmflaaGreatDoorJ6
import Derived.Test.YtmilpdhnblmflaaGreatDoorJ7
import Derived.Test.YtmilpdhnblmflaaGreatDoorJ8
import Derived.Test.YtmilpdhnblmflaaGreatDoorJ9
import Derived.Test.YtmilpdhnblmflaaGreatDoorJ10
import Derived.Test.YtmilpdhnblmflaaGreatDoorJ11
import Derived.Test.YtmilpdhnblmflaaGreatDoorJ12
import Derived.Test.YtmilpdhnblmflaaGreatDoorJ13
import Derived.Test.YtmilpdhnblmflaaGreatDoorJ14
import Derived.Test.YtmilpdhnblmflaaGreatDoorJ15
import Derived.Test.YtmilpdhnblmflaaGreatDoorJ17
import Derived.Test.YtmilpdhnblmflaaGreatDoorJ18
import Derived.Test.YtmilpdhnblmflaaGreatDoorJ19
import Derived.Test.YtmilpdhnblmflaaGreatDoorJ20
import Derived.Test.YtmilpdhnblmflaaGreatDoorJ21
import Derived.Test.YtmilpdhnblmflaaGreatDoorJ22
import Derived.Test.YtmilpdhnblmflaaGreatDoorJ23
import Derived.Test.YtmilpdhnblmflaaGreatDoorJ24
import Derived.Test.YtmilpdhnblmflaaGreatDoorJ27
import Derived.Test.YtmilpdhnblmflaaGreatDoorJ29
import Derived.Test.YtmilpdhnblmflaaGreatDoorJ30
import Derived.Test.YtmilpdhnblmflaaGreatDoorJ31
import Derived.Test.YtmilpdhnblmflaaGreatDoorJ33
import Derived.Test.YtmilpdhnblmflaaGreatDoorJ43
import Derived.Test.YtmilpdhnblmflaaGreatDoorJ44
import Derived.Test.YtmilpdhnblmflaaGreatDoorJ45
import Derived.Test.YtmilpdhnblmflaaGreatDoorJ46
import Derived.Test.YtmilpdhnblmflaaGreatDoorJ47
import Derived.Test.YtmilpdhnblmflaaGreatDoorJ48
import Derived.Test.YtmilpdhnblmflaaGreatDoorJ49
import Derived.Test.YtmilpdhnblmflaaGreatDoorJ50
import Derived.Test.YtmilpdhnblmflaaGreatDoorJ51
import Derived.Test.YtmilpdhnblmflaaGreatDoorJ52
section
/- A rune that has room printed: the developers' Rune, plain set, no insert, no wrap pending. -/
namespace Go.Proofs.YtmilpdhnblmflaaGreatDoor
set_option maxRecDepth 100000
open Go.RowKit
namespace Scr
open Go.Proofs.YtmilpdhnblmflaaGreatDoor.Row Wid

theorem Pn.shape {w : World} {b base : Nat} {s : S} {x y z : Value} (h : Pn w b base s x y z) (hok : Ok s) : ∃ g n cap, seenX s x y = .slice (some ⟨g, 0, none⟩) n cap := by
  have hX : OwnCs w base (seenX s x y) (seenG s).cells := by
    unfold seenX seenG; cases s.swapped
    · exact h.own.m
    · exact h.own.o
  rcases hX.shape with ⟨_, e⟩ | ⟨g, cap, e, _, _⟩
  · have h1 := hok.line.fit; have h2 := hok.line.c1; rw [e] at h1; simp at h1; omega
  · exact ⟨g, _, cap, e⟩
/-- What one prints. -/
def hereS (s : S) (r : Int) (n : Nat) : S := passed (withLine s (mid (lineS s) s.cur.col.toNat (s.cur.col.toNat + n) (cellsOf r s.cur.a))) (min (s.cur.col + n) (s.main.cols - 1)) (decide (s.cur.col + n = s.main.cols) && hasB s.modes 1) r
set_option maxHeartbeats 6400000 in
theorem rune_here (s : S) (x y z : Value) (r : Int) (n : Nat) (w : World) (h : In w s x y z) (hh : Holds s) (hT : Tabs w) (hok : okB s = true)
    (hins : hasB s.modes 2 = false) (hset : setOf s.cur ≠ 1) (hr : wid r = n) (hn : n = 1 ∨ n = 2) (hf : s.cur.col + n ≤ s.main.cols) (hwr : s.cur.wrap = false) :
    Calls Tryz.prog 23 #[sv s x y z, .int .i64 r] w fun e w' => ∃ x' y' z', e = .returned (.tuple #[sv (hereS s r n) x' y' z', .int .i64 0]) ∧ Own w' w.heap.size (hereS s r n) x' y' z' ∧ Below w.heap.size w w' := by
  have HI := Lib.hid h
  have H0 := Lib.hid (Rz.start w s x y z)
  have HOK := Lib.hid ((ok_iff s).1 hok)
  have HCK : Hid (∀ W, Below w.heap.size w W → Calls Tryz.prog 20 #[sv s x y z] W fun e w' => e = .returned (.int .i64 0) ∧ Below W.heap.size W w') := Lib.hid fun W hb => by
    have k := check_any s x y z W (h.kept hb) hh (hT.kept hb)
    rw [hok] at k
    exact k
  have HLK := Lib.hid (fun W => look_body r n hr hn W)
  have HWR : Hid (∀ W b base x y z g n0 cap, Pn W b base s x y z → Apart x y → seenX s x y = .slice (some ⟨g, 0, none⟩) n0 cap → _) := Lib.hid fun W b base x y z g n0 cap k ka kx => write_here s x y z b base g n0 cap r n W k ka HOK.out kx hins hset hr hn hf hwr
  clear h hh hT hok hins hset hr hn hf hwr
  go_enter Tryz.func23, Tryz.ntmps23
  go_wp2_with (refine wp_allocS1 (w := w) rfl rfl ?_)
  refine (HLK.out _).mono ?_; rintro e w1 ⟨rfl, hb⟩
  have H1 := Lib.hid (H0.out.kept hb)
  clear hb H0 HLK
  have H2 : Hid (∀ o, Rz w s x y z (w1.alloc o)) := Lib.hid fun o => H1.out.kept (bel_alloc w1 o)
  go_wp2_with (refine wp_loadS (b := w.heap.size) (s := s) rfl rfl rfl (H2.out _).b0 ?_)
  refine (HCK.out _ (H2.out _).bel).mono ?_; rintro e w3 ⟨rfl, hb⟩
  have H3 := Lib.hid ((H2.out _).kept hb)
  clear hb H1 H2 HCK
  go_wp2_with (refine wp_loadS (b := w.heap.size) (s := s) rfl rfl rfl H3.out.b0 ?_)
  refine (copied_any s x y z _ (HI.out.kept H3.out.bel) HOK.out.lens).mono ?_; rintro e w4 ⟨x4, y4, z4, rfl, ho, hap, hb⟩
  have H4 := Lib.hid (H3.out.kept hb)
  have HO4 := Lib.hid (ho.low H3.out.up)
  have HAP := Lib.hid hap
  clear ho hb hap H3
  go_wp2_with (refine wp_storeS_then (b := w.heap.size) (A := sarr s x4 y4 z4) (T := Pb w s x4 y4 z4) rfl rfl rfl rfl rfl HO4.out.in_.one H4.out.b0 rfl (fun _ k => Pb.start H4.out HO4.out k) ?_; intro w5 H5)
  obtain ⟨g, n0, cap, hX⟩ := H5.out.pn.shape HOK.out
  refine (HWR.out w5 w.heap.size (w.heap.size + 2) x4 y4 z4 g n0 cap H5.out.pn HAP.out hX).mono ?_; rintro e w6 ⟨rfl, hp, hb, hfr⟩
  have HW : Hid (Pb w (hereS s r n) x4 y4 z4 w6) := Lib.hid ⟨hp, hfr _ _ (by omega) (by omega) H5.out.b1, H5.out.bel.trans hb⟩
  clear hp hb hfr hX H5 H4 HO4 HWR
  go_wp2_with (first
    | (refine wp_loadS (b := w.heap.size) (s := hereS s r n) rfl rfl rfl HW.out.pn.box ?_)
    | (refine wp_storeS (b := w.heap.size + 1) rfl rfl rfl rfl rfl HW.out.pn.own.in_.one HW.out.b1 rfl ?_; intro w9 h9))
  refine bodyPost_ret (ret2S rfl rfl h9.box rfl) rfl ?_
  exact ⟨_, _, _, rfl, Own.low (h9.own HW.out.pn.own (by omega)) (by omega), h9.below _ _ (by omega) HW.out.bel⟩
end Scr
end Go.Proofs.YtmilpdhnblmflaaGreatDoor
end
