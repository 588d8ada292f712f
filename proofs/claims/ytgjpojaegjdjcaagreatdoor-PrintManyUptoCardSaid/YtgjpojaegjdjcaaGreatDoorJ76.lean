/- Joined texts: PrnFull. -/
import Derived.Test.YtgjpojaegjdjcaaGreatDoorJ1
import Derived.Test.YtgjpojaegjdjcaaGreatDoorJ2
import Derived.Test.YtgjpojaegjdjcaaGreatDoorJ3
import Derived.Test.YtgjpojaegjdjcaaGreatDoorJ4
import Derived.Test.YtgjpojaegjdjcaaGreatDoorJ5
import Derived.Test.YtgjpojaegjdjcaaGreatDoorJ6
import Derived.Test.YtgjpojaegjdjcaaGreatDoorJ7
import Derived.Test.YtgjpojaegjdjcaaGreatDoorJ8
import Derived.Test.YtgjpojaegjdjcaaGreatDoorJ9
import Derived.Test.YtgjpojaegjdjcaaGreatDoorJ10
import Derived.Test.YtgjpojaegjdjcaaGreatDoorJ11
import Derived.Test.YtgjpojaegjdjcaaGreatDoorJ12
import Derived.Test.YtgjpojaegjdjcaaGreatDoorJ13
import Derived.Test.YtgjpojaegjdjcaaGreatDoorJ14
import Derived.Test.YtgjpojaegjdjcaaGreatDoorJ15
import Derived.Test.YtgjpojaegjdjcaaGreatDoorJ17
import Derived.Test.YtgjpojaegjdjcaaGreatDoorJ18
import Derived.Test.YtgjpojaegjdjcaaGreatDoorJ19
import Derived.Test.YtgjpojaegjdjcaaGreatDoorJ20
import Derived.Test.YtgjpojaegjdjcaaGreatDoorJ21
import Derived.Test.YtgjpojaegjdjcaaGreatDoorJ22
import Derived.Test.YtgjpojaegjdjcaaGreatDoorJ23
import Derived.Test.YtgjpojaegjdjcaaGreatDoorJ24
import Derived.Test.YtgjpojaegjdjcaaGreatDoorJ27
import Derived.Test.YtgjpojaegjdjcaaGreatDoorJ29
import Derived.Test.YtgjpojaegjdjcaaGreatDoorJ30
import Derived.Test.YtgjpojaegjdjcaaGreatDoorJ31
import Derived.Test.YtgjpojaegjdjcaaGreatDoorJ43
import Derived.Test.YtgjpojaegjdjcaaGreatDoorJ44
import Derived.Test.YtgjpojaegjdjcaaGreatDoorJ45
import Derived.Test.YtgjpojaegjdjcaaGreatDoorJ46
import Derived.Test.YtgjpojaegjdjcaaGreatDoorJ48
import Derived.Test.YtgjpojaegjdjcaaGreatDoorJ49
import Derived.Test.YtgjpojaegjdjcaaGreatDoorJ51
import Derived.Test.YtgjpojaegjdjcaaGreatDoorJ52
import Derived.Test.YtgjpojaegjdjcaaGreatDoorJ54
import Derived.Test.YtgjpojaegjdjcaaGreatDoorJ55
import Derived.Test.YtgjpojaegjdjcaaGreatDoorJ57
import Derived.Test.YtgjpojaegjdjcaaGreatDoorJ58
import Derived.Test.YtgjpojaegjdjcaaGreatDoorJ59
import Derived.Test.YtgjpojaegjdjcaaGreatDoorJ60
import Derived.Test.YtgjpojaegjdjcaaGreatDoorJ61
import Derived.Test.YtgjpojaegjdjcaaGreatDoorJ75
section
/- A rune printed, on every screen: the developers' Rune, whole. -/
namespace Go.Proofs.YtgjpojaegjdjcaaGreatDoor
set_option maxRecDepth 100000
open Go.RowKit
namespace Scr
open Go.Proofs.YtgjpojaegjdjcaaGreatDoor.Row Wid

/-- A body where the cursor is. -/
def bodyS (t : S) (r : Int) (n : Nat) : S := passed (withLine t (mid (roomS t n) t.cur.col.toNat (t.cur.col.toNat + n) (cellsOf (shownS t.cur r) t.cur.a))) (min (t.cur.col + n) (t.main.cols - 1)) (decide (t.cur.col + n = t.main.cols) && hasB t.modes 1) r
/-- .. and behind a wrap, if it comes to that. -/
def writeS (s : S) (r : Int) (n : Nat) : S :=
  if s.main.cols < (n : Int) ∨ (¬ s.cur.col + n ≤ s.main.cols ∧ hasB s.modes 1 = false) then s
  else if hasB s.modes 1 = true ∧ (s.cur.wrap = true ∨ ¬ s.cur.col + n ≤ s.main.cols) then bodyS (wrapS s) r n else bodyS s r n
def markS (s : S) (r : Int) : S := if combAt s < 0 then s else withLine s (combL (lineS s) (combAt s).toNat r)
/-- What a rune makes of a screen. -/
def printS (s : S) (r : Int) : S := if wid r = 0 then markS s r else writeS s r (wid r).toNat
theorem mid_ok {l x : List Cl} {k n : Nat} (h : RowOk l) (hk : k + n ≤ l.length) (hx : Row.Good x) (hl : x.length = n) : RowOk (mid l k (k + n) x) ∧ (mid l k (k + n) x).length = l.length := mid_row h hk hx hl
theorem withLine_more (s : S) (m : List Cl) : (withLine s m).title = s.title ∧ (withLine s m).top = s.top ∧ (withLine s m).bottom = s.bottom ∧ (withLine s m).last = s.last := by
  unfold withLine putG
  split <;> exact ⟨rfl, rfl, rfl, rfl⟩
theorem bodyS_ok {t : S} (h : Ok t) {r : Int} {n : Nat} (hr : wid r = n) (hn : n = 1 ∨ n = 2) (hf : t.cur.col + n ≤ t.main.cols) : Ok (bodyS t r n) := by
  have f := h.facts
  have L := h.line
  have h12 : wid (shownS t.cur r) = 1 ∨ wid (shownS t.cur r) = 2 := by rw [shown_wid]; omega
  have hcl : (cellsOf (shownS t.cur r) t.cur.a).length = n := by have := cells_length (a := t.cur.a) h12; rw [shown_wid] at this; omega
  have hroom := room_facts t n L f.a (by rw [L.len]; have := L.cI; have := f.col0; omega)
  have hm := mid_row (k := t.cur.col.toNat) (n := n) hroom.2.1 (by rw [hroom.1, L.len]; have := L.cI; have := f.col0; omega) (good_cells h12 f.a) hcl
  have hw := withLine_ok h hm.1 (by rw [hm.2, hroom.1, L.len])
  obtain ⟨hc, hmo, hco⟩ := withLine_cur t (mid (roomS t n) t.cur.col.toNat (t.cur.col.toNat + n) (cellsOf (shownS t.cur r) t.cur.a))
  unfold bodyS
  generalize withLine t (mid (roomS t n) t.cur.col.toNat (t.cur.col.toNat + n) (cellsOf (shownS t.cur r) t.cur.a)) = u at hw hc hmo hco
  refine ⟨hw.m, hw.o, hw.r, hw.c, ?_, hw.k2, hw.k3, hw.g, hw.b, hw.n, hw.t, ?_⟩
  · have hk := hw.k1
    unfold cursorB at hk
    unfold cursorB passed
    simp only [Bool.and_eq_true] at hk ⊢
    have hc1 := f.c1
    have h0 := f.col0
    refine ⟨hk.1, rng_iff.2 ⟨?_, ?_⟩, ?_, hk.2.2.2⟩
    · show 0 ≤ min (t.cur.col + (n : Int)) (t.main.cols - 1); omega
    · show min (t.cur.col + (n : Int)) (t.main.cols - 1) ≤ u.main.cols - 1; rw [hco]; omega
    · show (!(decide (t.cur.col + (n : Int) = t.main.cols) && hasB t.modes 1) || (min (t.cur.col + (n : Int)) (t.main.cols - 1) == u.main.cols - 1)) = true
      by_cases he : t.cur.col + (n : Int) = t.main.cols
      · have : min (t.cur.col + (n : Int)) (t.main.cols - 1) = u.main.cols - 1 := by rw [hco]; omega
        rw [this]; simp
      · rw [decide_eq_false he]; rfl
  · show lastB r = true
    unfold lastB
    have : wid r = 1 ∨ wid r = 2 := by omega
    rcases this with e | e <;> rw [e] <;> simp
/-- What it keeps. -/
structure Keeps (s t : S) : Prop where
  modes : t.modes = s.modes
  title : t.title = s.title
  top : t.top = s.top
  bottom : t.bottom = s.bottom
theorem Keeps.refl (s : S) : Keeps s s := ⟨rfl, rfl, rfl, rfl⟩
theorem wrap_keeps {s : S} (h : Ok s) : Keeps s (wrapS s) := by
  have d := down_same h
  exact ⟨d.1, d.2.2.2.2.2.2.1, d.2.2.2.2.2.2.2.1, d.2.2.2.2.2.2.2.2⟩
theorem line_keeps (s : S) (m : List Cl) : Keeps s (withLine s m) := ⟨(withLine_cur s m).2.1, (withLine_more s m).1, (withLine_more s m).2.1, (withLine_more s m).2.2.1⟩
theorem body_keeps (s : S) (r : Int) (n : Nat) : Keeps s (bodyS s r n) := by
  have k := line_keeps s (mid (roomS s n) s.cur.col.toNat (s.cur.col.toNat + n) (cellsOf (shownS s.cur r) s.cur.a))
  exact ⟨k.modes, k.title, k.top, k.bottom⟩
theorem Keeps.trans {a b c : S} (h : Keeps a b) (k : Keeps b c) : Keeps a c := ⟨k.modes.trans h.modes, k.title.trans h.title, k.top.trans h.top, k.bottom.trans h.bottom⟩
theorem wrap_fits {s : S} (h : Ok s) {n : Nat} (hn : (n : Int) ≤ s.main.cols) : (wrapS s).cur.col + (n : Int) ≤ (wrapS s).main.cols := by
  have h1 : (wrapS s).cur.col = 0 := rfl
  have h2 : (wrapS s).main.cols = s.main.cols := (down_same h).2.2.2.2.2.1
  omega
theorem writeS_ok {s : S} (h : Ok s) {r : Int} {n : Nat} (hr : wid r = n) (hn : n = 1 ∨ n = 2) : Ok (writeS s r n) := by
  unfold writeS
  split
  · exact h
  · rename_i h1
    split
    · exact bodyS_ok (wrapS_ok h) hr hn (wrap_fits h (by omega))
    · rename_i h2
      refine bodyS_ok h hr hn ?_
      cases hb : hasB s.modes 1
      · rw [hb] at h1; exact Classical.byContradiction fun q => h1 (.inr ⟨q, rfl⟩)
      · rw [hb] at h2; exact Classical.byContradiction fun q => h2 ⟨rfl, .inr q⟩
theorem write_keeps {s : S} (h : Ok s) (r : Int) (n : Nat) : Keeps s (writeS s r n) := by
  unfold writeS
  split
  · exact Keeps.refl s
  · split
    · exact (wrap_keeps h).trans (body_keeps _ r n)
    · exact body_keeps _ r n
theorem write_last {s : S} (r : Int) (n : Nat) : writeS s r n = s ∨ (writeS s r n).last = r := by
  unfold writeS
  split
  · exact .inl rfl
  · split
    · exact .inr rfl
    · exact .inr rfl
set_option maxHeartbeats 800000 in
theorem write_any (s : S) (x y z : Value) (b base : Nat) (r : Int) (n : Nat) (w : World) (h : Pn w b base s x y z) (hap : Apart x y) (hok : Ok s) (hr : wid r = n) (hn : n = 1 ∨ n = 2) :
    Calls Tryz.prog 37 #[.pointer (some ⟨b, 0, none⟩), bodyV r n] w fun e w' => e = .returned (.tuple #[]) ∧ ∃ x' y', Pn w' b base (writeS s r n) x' y' z ∧ Frm b base w w' := by
  have hlt := h.lt
  have hup := h.up
  unfold writeS
  split
  · rename_i h1
    have h1' : s.main.cols < (n : Int) ∨ (¬ s.main.cols < (n : Int) ∧ ¬ s.cur.col + n ≤ s.main.cols ∧ hasB s.modes 1 = false) := by
      by_cases q : s.main.cols < (n : Int)
      · exact .inl q
      · rcases h1 with h1 | h1
        · exact absurd h1 q
        · exact .inr ⟨q, h1⟩
    refine (write_no s x y z b base r n w h hok hn h1').mono ?_
    rintro e w' ⟨rfl, hp, hb⟩
    exact ⟨rfl, x, y, hp, Frm.start hb (Nat.le_of_lt hlt) hup⟩
  · rename_i h1
    split
    · rename_i h2
      have hwr : s.cur.wrap = true ∨ (s.cur.wrap = false ∧ ¬ s.cur.col + n ≤ s.main.cols) := by
        cases hb : s.cur.wrap
        · rcases h2.2 with q | q
          · rw [hb] at q; cases q
          · exact .inr ⟨rfl, q⟩
        · exact .inl rfl
      have hcol : (wrapS s).cur.col = 0 := rfl
      have hcols : (wrapS s).main.cols = s.main.cols := (down_same hok).2.2.2.2.2.1
      have hmd : hasB (wrapS s).modes 1 = true := by rw [(wrap_keeps hok).modes]; exact h2.1
      have hE : bodyS (wrapS s) r n = passed (withLine (wrapS s) (mid (roomS (wrapS s) n) (wrapS s).cur.col.toNat ((wrapS s).cur.col.toNat + n) (cellsOf (shownS (wrapS s).cur r) (wrapS s).cur.a))) (min n (s.main.cols - 1)) (decide ((n : Int) = s.main.cols)) r := by
        unfold bodyS
        rw [hmd, hcols, hcol, Int.zero_add, Bool.and_true]
      rw [hE]
      refine (write_wrap s x y z b base r (shownS (wrapS s).cur r) n w h hap hok (fun W => shown_any _ r W) (by rw [shown_wid]; exact hr) hn h2.1 (by omega) hwr).mono ?_
      rintro e w' ⟨rfl, x', y', hp, _, hf⟩
      exact ⟨rfl, x', y', hp, hf⟩
    · rename_i h2
      obtain ⟨g, n0, cap, hX⟩ := h.shape hok
      have hf : s.cur.col + n ≤ s.main.cols := by
        cases hb : hasB s.modes 1
        · rw [hb] at h1; exact Classical.byContradiction fun q => h1 (.inr ⟨q, rfl⟩)
        · rw [hb] at h2; exact Classical.byContradiction fun q => h2 ⟨rfl, .inr q⟩
      have hwr : hasB s.modes 1 = true → s.cur.wrap = false := fun hb => by
        cases q : s.cur.wrap
        · rfl
        · exact absurd ⟨hb, .inl q⟩ h2
      refine (write_fits s x y z b base g n0 cap r (shownS s.cur r) n w h hap hok hX (fun W => shown_any _ r W) (by rw [shown_wid]; exact hr) hn hf hwr).mono ?_
      rintro e w' ⟨rfl, hp, hb, hfr⟩
      exact ⟨rfl, x, y, hp, hb, hfr⟩
theorem comb_any (s : S) (x y z : Value) (b base : Nat) (r : Int) (w : World) (h : Pn w b base s x y z) (hap : Apart x y) (hok : Ok s) (hr : wid r = 0) :
    Calls Tryz.prog 36 #[.pointer (some ⟨b, 0, none⟩), .int .i64 r] w fun e w' => e = .returned (.tuple #[]) ∧ Pn w' b base (markS s r) x y z ∧ Frm b base w w' := by
  have hlt := h.lt
  have hup := h.up
  unfold markS
  split
  · rename_i hk
    refine (comb_none s x y z b base r w h hok hk).mono ?_
    rintro e w' ⟨rfl, rfl⟩
    exact ⟨rfl, h, Below.refl _ _, fun _ _ _ _ e => e⟩
  · rename_i hk
    obtain ⟨g, n0, cap, hX⟩ := h.shape hok
    refine (comb_at s x y z b base g n0 cap (combAt s).toNat r w h hap hok hX (by omega) hr).mono ?_
    rintro e w' ⟨rfl, hp, hon, hb⟩
    exact ⟨rfl, hp, hb.mono (Nat.le_of_lt hlt), fun q o _ hl e => (hb.block q hl).trans e⟩
theorem markS_ok {s : S} (h : Ok s) {r : Int} (hr : wid r = 0) : Ok (markS s r) := by
  unfold markS
  split
  · exact h
  · have L := h.line
    have f := h.facts
    rename_i hk
    have hlt : (combAt s).toNat < (lineS s).length := by
      have := f.col0; have := f.col1; have := L.cI; rw [L.len]; unfold combAt at *; split <;> omega
    exact withLine_ok h (combOkRow L.ok hlt hr) (by rw [combL_length, L.len])
theorem mark_keeps (s : S) (r : Int) : Keeps s (markS s r) := by
  unfold markS
  split
  · exact Keeps.refl s
  · exact line_keeps s _
theorem print_ok {s : S} (h : Ok s) {r : Int} (hr : 0 ≤ wid r) : Ok (printS s r) := by
  unfold printS
  split
  · rename_i h0; exact markS_ok h h0
  · have := wid_cases r
    exact writeS_ok h (by omega) (by omega)
theorem print_keeps {s : S} (h : Ok s) (r : Int) : Keeps s (printS s r) := by
  unfold printS
  split
  · exact mark_keeps s r
  · exact write_keeps h r _
set_option maxHeartbeats 6400000 in
theorem rune_body (s : S) (x y z : Value) (r : Int) (n : Nat) (w : World) (h : In w s x y z) (hh : Holds s) (hT : Tabs w) (hok : okB s = true) (hr : wid r = n) (hn : n = 1 ∨ n = 2) :
    Calls Tryz.prog 9 #[sv s x y z, .int .i64 r] w fun e w' => ∃ x' y' z', e = .returned (.tuple #[sv (writeS s r n) x' y' z', .int .i64 0]) ∧ Own w' w.heap.size (writeS s r n) x' y' z' ∧ Below w.heap.size w w' := by
  have HI := Lib.hid h
  have H0 := Lib.hid (Rz.start w s x y z)
  have HOK := Lib.hid ((ok_iff s).1 hok)
  have HCK : Hid (∀ W, Below w.heap.size w W → Calls Tryz.prog 34 #[sv s x y z] W fun e w' => e = .returned (.int .i64 0) ∧ Below W.heap.size W w') := Lib.hid fun W hb => by
    have k := check_any s x y z W (h.kept hb) hh (hT.kept hb)
    rw [hok] at k
    exact k
  have HLK := Lib.hid (fun W => look_body r n hr hn W)
  have HWR : Hid (∀ W b base x y z, Pn W b base s x y z → Apart x y → _) := Lib.hid fun W b base x y z k ka => write_any s x y z b base r n W k ka HOK.out hr hn
  clear h hh hT hok hr hn
  go_enter Tryz.func9, Tryz.ntmps9
  go_wp2_with (refine wp_allocS1 (w := w) rfl rfl ?_)
  refine (HLK.out _).mono ?_; rintro e w1 ⟨rfl, hb⟩
  have H1 := Lib.hid (H0.out.kept hb)
  clear hb H0 HLK
  have H2 : Hid (∀ o, Rz w s x y z (w1.alloc o)) := Lib.hid fun o => H1.out.kept (bel_alloc w1 o)
  go_wp2_with (refine wp_loadS (b := w.heap.size) (s := s) rfl rfl rfl (H2.out _).b0 ?_)
  refine (HCK.out _ (H2.out _).bel).mono ?_; rintro e w3 ⟨rfl, hb⟩
  have H3 := Lib.hid ((H2.out _).kept hb)
  clear hb H1 H2 HCK
  go_wp2_with (refine wp_loadS (b := w.heap.size) (s := s) rfl rfl rfl H3.out.b0 ?_)
  refine (copied_any s x y z _ (HI.out.kept H3.out.bel) HOK.out.lens).mono ?_; rintro e w4 ⟨x4, y4, z4, rfl, ho, hap, hb⟩
  have H4 := Lib.hid (H3.out.kept hb)
  have HO4 := Lib.hid (ho.low H3.out.up)
  have HAP := Lib.hid hap
  clear ho hb hap H3
  go_wp2_with (refine wp_storeS_then (b := w.heap.size) (A := sarr s x4 y4 z4) (T := Pb w s x4 y4 z4) rfl rfl rfl rfl rfl HO4.out.in_.one H4.out.b0 rfl (fun _ k => Pb.start H4.out HO4.out k) ?_; intro w5 H5)
  refine (HWR.out w5 w.heap.size (w.heap.size + 2) x4 y4 z4 H5.out.pn HAP.out).mono ?_; rintro e w6 ⟨rfl, x6, y6, hp, hf⟩
  have HW : Hid (Pb w (writeS s r n) x6 y6 z4 w6) := Lib.hid ⟨hp, hf.2 _ _ (by omega) (by omega) H5.out.b1, H5.out.bel.trans hf.1⟩
  clear hp hf H5 H4 HO4 HWR
  go_wp2_with (first
    | (refine wp_loadS (b := w.heap.size) (s := writeS s r n) rfl rfl rfl HW.out.pn.box ?_)
    | (refine wp_storeS (b := w.heap.size + 1) rfl rfl rfl rfl rfl HW.out.pn.own.in_.one HW.out.b1 rfl ?_; intro w9 h9))
  refine bodyPost_ret (ret2S rfl rfl h9.box rfl) rfl ?_
  exact ⟨_, _, _, rfl, Own.low (h9.own HW.out.pn.own (by omega)) (by omega), h9.below _ _ (by omega) HW.out.bel⟩
set_option maxHeartbeats 6400000 in
theorem rune_mark (s : S) (x y z : Value) (r : Int) (w : World) (h : In w s x y z) (hh : Holds s) (hT : Tabs w) (hok : okB s = true) (hr : wid r = 0) :
    Calls Tryz.prog 9 #[sv s x y z, .int .i64 r] w fun e w' => ∃ x' y' z', e = .returned (.tuple #[sv (markS s r) x' y' z', .int .i64 0]) ∧ Own w' w.heap.size (markS s r) x' y' z' ∧ Below w.heap.size w w' := by
  have HI := Lib.hid h
  have H0 := Lib.hid (Rz.start w s x y z)
  have HOK := Lib.hid ((ok_iff s).1 hok)
  have HCK : Hid (∀ W, Below w.heap.size w W → Calls Tryz.prog 34 #[sv s x y z] W fun e w' => e = .returned (.int .i64 0) ∧ Below W.heap.size W w') := Lib.hid fun W hb => by
    have k := check_any s x y z W (h.kept hb) hh (hT.kept hb)
    rw [hok] at k
    exact k
  have HLK := Lib.hid (fun W => look_mark r hr W)
  have HWR : Hid (∀ W b base x y z, Pn W b base s x y z → Apart x y → _) := Lib.hid fun W b base x y z k ka => comb_any s x y z b base r W k ka HOK.out hr
  clear h hh hT hok hr
  go_enter Tryz.func9, Tryz.ntmps9
  go_wp2_with (refine wp_allocS1 (w := w) rfl rfl ?_)
  refine (HLK.out _).mono ?_; rintro e w1 ⟨rfl, hb⟩
  have H1 := Lib.hid (H0.out.kept hb)
  clear hb H0 HLK
  have H2 : Hid (∀ o, Rz w s x y z (w1.alloc o)) := Lib.hid fun o => H1.out.kept (bel_alloc w1 o)
  go_wp2_with (refine wp_loadS (b := w.heap.size) (s := s) rfl rfl rfl (H2.out _).b0 ?_)
  refine (HCK.out _ (H2.out _).bel).mono ?_; rintro e w3 ⟨rfl, hb⟩
  have H3 := Lib.hid ((H2.out _).kept hb)
  clear hb H1 H2 HCK
  go_wp2_with (refine wp_loadS (b := w.heap.size) (s := s) rfl rfl rfl H3.out.b0 ?_)
  refine (copied_any s x y z _ (HI.out.kept H3.out.bel) HOK.out.lens).mono ?_; rintro e w4 ⟨x4, y4, z4, rfl, ho, hap, hb⟩
  have H4 := Lib.hid (H3.out.kept hb)
  have HO4 := Lib.hid (ho.low H3.out.up)
  have HAP := Lib.hid hap
  clear ho hb hap H3
  go_wp2_with (refine wp_storeS_then (b := w.heap.size) (A := sarr s x4 y4 z4) (T := Pb w s x4 y4 z4) rfl rfl rfl rfl rfl HO4.out.in_.one H4.out.b0 rfl (fun _ k => Pb.start H4.out HO4.out k) ?_; intro w5 H5)
  refine (HWR.out w5 w.heap.size (w.heap.size + 2) x4 y4 z4 H5.out.pn HAP.out).mono ?_; rintro e w6 ⟨rfl, hp, hf⟩
  have HW : Hid (Pb w (markS s r) x4 y4 z4 w6) := Lib.hid ⟨hp, hf.2 _ _ (by omega) (by omega) H5.out.b1, H5.out.bel.trans hf.1⟩
  clear hp hf H5 H4 HO4 HWR
  go_wp2_with (first
    | (refine wp_loadS (b := w.heap.size) (s := markS s r) rfl rfl rfl HW.out.pn.box ?_)
    | (refine wp_storeS (b := w.heap.size + 1) rfl rfl rfl rfl rfl HW.out.pn.own.in_.one HW.out.b1 rfl ?_; intro w9 h9))
  refine bodyPost_ret (ret2S rfl rfl h9.box rfl) rfl ?_
  exact ⟨_, _, _, rfl, Own.low (h9.own HW.out.pn.own (by omega)) (by omega), h9.below _ _ (by omega) HW.out.bel⟩
theorem rune_any (s : S) (x y z : Value) (r : Int) (w : World) (h : In w s x y z) (hh : Holds s) (hT : Tabs w) (hok : okB s = true) (hr : 0 ≤ wid r) :
    Calls Tryz.prog 9 #[sv s x y z, .int .i64 r] w fun e w' => ∃ x' y' z', e = .returned (.tuple #[sv (printS s r) x' y' z', .int .i64 0]) ∧ Own w' w.heap.size (printS s r) x' y' z' ∧ Below w.heap.size w w' := by
  unfold printS
  split
  · rename_i h0
    exact rune_mark s x y z r w h hh hT hok h0
  · have := wid_cases r
    exact rune_body s x y z r (wid r).toNat w h hh hT hok (by omega) (by omega)
theorem print_last {s : S} {r : Int} (hr : 0 < wid r) : printS s r = s ∨ (printS s r).last = r := by
  unfold printS
  rw [if_neg (by omega)]
  exact write_last r _
theorem Ok.shorts {s : S} (h : Ok s) : Shorts s := by
  have k : ∀ {G : Gr}, gridB G = true → Short G.cells := fun {G} hg => by
    obtain ⟨R, C, rs, rfl, hr, _⟩ := parts_of hg
    exact fun i hi => Nat.le_trans (hr.short i hi) (by decide)
  exact ⟨k h.m, k h.o, by have := titleB_len h.t; omega, h.lens.1, h.lens.2.1⟩
end Scr
end Go.Proofs.YtgjpojaegjdjcaaGreatDoor
end
