/- Joined texts: PrnPut. -/
import Derived.Test.YtgjpojaegjdjcaaGreatDoorJ1
import Derived.Test.YtgjpojaegjdjcaaGreatDoorJ2
import Derived.Test.YtgjpojaegjdjcaaGreatDoorJ3
import Derived.Test.YtgjpojaegjdjcaaGreatDoorJ4
import Derived.Test.YtgjpojaegjdjcaaGreatDoorJ5
import Derived.Test.YtgjpojaegjdjcaaGreatDoorJ6
import Derived.Test.YtgjpojaegjdjcaaGreatDoorJ7
import Derived.Test.YtgjpojaegjdjcaaGreatDoorJ8
import Derived.Test.YtgjpojaegjdjcaaGreatDoorJ9
import Derived.Test.YtgjpojaegjdjcaaGreatDoorJ10
import Derived.Test.YtgjpojaegjdjcaaGreatDoorJ11
import Derived.Test.YtgjpojaegjdjcaaGreatDoorJ12
import Derived.Test.YtgjpojaegjdjcaaGreatDoorJ13
import Derived.Test.YtgjpojaegjdjcaaGreatDoorJ14
import Derived.Test.YtgjpojaegjdjcaaGreatDoorJ15
import Derived.Test.YtgjpojaegjdjcaaGreatDoorJ17
import Derived.Test.YtgjpojaegjdjcaaGreatDoorJ18
import Derived.Test.YtgjpojaegjdjcaaGreatDoorJ19
import Derived.Test.YtgjpojaegjdjcaaGreatDoorJ20
import Derived.Test.YtgjpojaegjdjcaaGreatDoorJ21
import Derived.Test.YtgjpojaegjdjcaaGreatDoorJ22
import Derived.Test.YtgjpojaegjdjcaaGreatDoorJ23
import Derived.Test.YtgjpojaegjdjcaaGreatDoorJ24
import Derived.Test.YtgjpojaegjdjcaaGreatDoorJ27
import Derived.Test.YtgjpojaegjdjcaaGreatDoorJ29
import Derived.Test.YtgjpojaegjdjcaaGreatDoorJ30
import Derived.Test.YtgjpojaegjdjcaaGreatDoorJ31
import Derived.Test.YtgjpojaegjdjcaaGreatDoorJ43
import Derived.Test.YtgjpojaegjdjcaaGreatDoorJ44
import Derived.Test.YtgjpojaegjdjcaaGreatDoorJ45
import Derived.Test.YtgjpojaegjdjcaaGreatDoorJ46
import Derived.Test.YtgjpojaegjdjcaaGreatDoorJ48
import Derived.Test.YtgjpojaegjdjcaaGreatDoorJ49
import Derived.Test.YtgjpojaegjdjcaaGreatDoorJ61
import Derived.Deep.CutRange
import Derived.Deep.DeepCutAuto
section
/- A rune put into the cursor's row, in the screen's own memory. -/
namespace Go.Proofs.YtgjpojaegjdjcaaGreatDoor
set_option maxRecDepth 100000
open Go.RowKit
namespace Scr
open Go.Proofs.YtgjpojaegjdjcaaGreatDoor.Row Wid

theorem neB {w : World} {base b2 g n cap : Nat} {l : List Cl} {v : Value} {m : List Bool} (h : OwnCs w base (.slice (some ⟨g, 0, none⟩) n cap) l) (hb : Tab.OwnB w b2 v m) : v.ownBlock ≠ some g := by
  rcases hb.2 with ⟨rfl, _⟩ | ⟨g', cap', cur', rfl, _, hg, _⟩
  · exact fun q => by cases q
  · intro q
    have e : g' = g := Option.some.inj q
    subst e
    rcases h.2 with ⟨e, _⟩ | ⟨g2, cap2, cur2, e, _, hg2, _⟩
    · injection e with e; cases e
    · injection e with e1
      injection e1 with e1
      injection e1 with e1
      subst e1
      rw [hg] at hg2
      injection hg2 with e2
      injection e2 with _ e3
      exact absurd e3 (by decide)
theorem ownB_only {w w' : World} {base b : Nat} {v : Value} {l : List Bool} (h : Tab.OwnB w base v l) (ho : Only b w w') (hv : v.ownBlock ≠ some b) : Tab.OwnB w' base v l := by
  refine ⟨h.1, ?_⟩
  rcases h.2 with h0 | ⟨g, cap, cur, rfl, hb, hg, rest⟩
  · exact .inl h0
  · exact .inr ⟨g, cap, cur, rfl, hb, ho.2 g _ (fun e => hv (by subst e; rfl)) hg, rest⟩
theorem sarr_cells (s : S) (l : List Cl) (x y z : Value) : sarr (putG s { seenG s with cells := l }) x y z = sarr s x y z := by
  cases hs : s.swapped with
  | false =>
    have e : putG s { seenG s with cells := l } = { s with main := { s.main with cells := l } } := by unfold putG seenG; rw [hs]; rfl
    rw [e]; rfl
  | true =>
    have e : putG s { seenG s with cells := l } = { s with other := { s.other with cells := l } } := by unfold putG seenG; rw [hs]; rfl
    rw [e]; rfl
/-- The seen grid's cells are others, in the same memory. -/
theorem Pn.over {w w' : World} {b base g n cap : Nat} {s : S} {x y z : Value} {l : List Cl} (h : Pn w b base s x y z) (hap : Apart x y) (hX : seenX s x y = .slice (some ⟨g, 0, none⟩) n cap) (ho : OwnCs w' base (.slice (some ⟨g, 0, none⟩) n cap) l) (hon : Only g w w') (hs : w.heap.size ≤ w'.heap.size) :
    Pn w' b base (putG s { seenG s with cells := l }) x y z := by
  have hg : base ≤ g := (ho.lt g rfl).1
  have hbox : SBox w' b (putG s { seenG s with cells := l }) x y z := by
    unfold SBox
    rw [sarr_cells]
    exact hon.2 b _ (by have := h.lt; omega) h.box
  refine ⟨hbox, ?_, h.lt, Nat.le_trans h.up hs⟩
  cases hw : s.swapped with
  | false =>
    have e : putG s { seenG s with cells := l } = { s with main := { s.main with cells := l } } := by unfold putG seenG; rw [hw]; rfl
    have ex : x = .slice (some ⟨g, 0, none⟩) n cap := by unfold seenX at hX; rw [hw] at hX; exact hX
    subst ex
    rw [e]
    exact ⟨ho, h.own.o.only hon (hap g rfl), ownB_only h.own.t hon (neB h.own.m h.own.t)⟩
  | true =>
    have e : putG s { seenG s with cells := l } = { s with other := { s.other with cells := l } } := by unfold putG seenG; rw [hw]; rfl
    have ey : y = .slice (some ⟨g, 0, none⟩) n cap := by unfold seenX at hX; rw [hw] at hX; exact hX
    subst ey
    rw [e]
    exact ⟨h.own.m.only hon (fun q => hap g q rfl), ho, ownB_only h.own.t hon (neB h.own.o h.own.t)⟩
def setOf (k : Cur) : Int := if k.shift = 0 then k.g0 else k.g1
theorem penSet (k : Cur) (w : World) : Calls Tryz.prog 136 #[curV k] w fun e w' => e = .returned (.int .i64 (setOf k)) ∧ Below w.heap.size w w' := by
  have HB := Lib.hid (bel_alloc w (.cells #[.int .i64 k.row, .int .i64 k.col, .bool k.wrap, .int .i64 k.a.fg, .int .i64 k.a.bg, .int .i64 k.a.flags, .int .i64 k.g0, .int .i64 k.g1, .int .i64 k.shift, .bool k.origin] 33))
  by_cases h : k.shift = 0
  · have HE : Hid (setOf k = k.g0) := Lib.hid (by unfold setOf; rw [if_pos h])
    rw [HE.out]
    go_enter Tryz.func136, Tryz.ntmps136
    go_wp2_with fail
    go_ret
    exact ⟨rfl, bel_alloc w _⟩
  · have HE : Hid (setOf k = k.g1) := Lib.hid (by unfold setOf; rw [if_neg h])
    rw [HE.out]
    go_enter Tryz.func136, Tryz.ntmps136
    go_wp2_with fail
    go_ret
    exact ⟨rfl, bel_alloc w _⟩
/-- Shifted to no lines a rune is shown as it is. -/
theorem shown_plain (k : Cur) (r : Int) (hs : setOf k ≠ 1) (w : World) : Calls Tryz.prog 112 #[curV k, .int .i64 r] w fun e w' => e = .returned (.int .i64 r) ∧ Below w.heap.size w w' := by
  have HB := Lib.hid (bel_alloc w (.cells #[.int .i64 k.row, .int .i64 k.col, .bool k.wrap, .int .i64 k.a.fg, .int .i64 k.a.bg, .int .i64 k.a.flags, .int .i64 k.g0, .int .i64 k.g1, .int .i64 k.shift, .bool k.origin] 33))
  have HS := Lib.hid (fun W => penSet k W)
  obtain ⟨q, hq⟩ : ∃ q, setOf k = q := ⟨_, rfl⟩
  rw [hq] at HS hs
  clear hq
  go_enter Tryz.func112, Tryz.ntmps112
  go_wp2_with fail
  refine (HS.out _).mono ?_; rintro e w1 ⟨rfl, hb⟩
  have HB1 := Lib.hid (HB.out.trans (hb.mono HB.out.size))
  clear hb HS HB
  go_wp2_with fail
  go_ret
  exact ⟨rfl, HB1.out⟩
theorem dal (w : World) (o : Obj) : Below w.heap.size w ((w.alloc o).drew) := ((Below.refl _ _).alloc (Nat.le_refl _) _).drew
theorem line_at (s : S) (x y z : Value) (b base g n cap : Nat) (w : World) (hX : seenX s x y = .slice (some ⟨g, 0, none⟩) n cap) (h : Pn w b base s x y z) (hok : Ok s) :
    Calls Tryz.prog 73 #[.pointer (some ⟨b, 0, none⟩)] w fun e w' => ∃ c', e = .returned (.slice (some ⟨g, lineAt s * 6, none⟩) (seenG s).cols.toNat c') ∧ Below w.heap.size w w' :=
  (line_any s x y z b base w h hok).mono fun _ _ ⟨g', n', cap', c', e1, e2, hb⟩ => by
    rw [hX] at e1
    injection e1 with e1
    injection e1 with e1
    injection e1 with e1
    subst e1
    exact ⟨c', e2, hb⟩
theorem Pn.cells {w : World} {b base g n cap : Nat} {s : S} {x y z : Value} (h : Pn w b base s x y z) (hX : seenX s x y = .slice (some ⟨g, 0, none⟩) n cap) : OwnCs w base (.slice (some ⟨g, 0, none⟩) n cap) (seenG s).cells := by
  rw [← hX]
  unfold seenX seenG
  cases s.swapped
  · exact h.own.m
  · exact h.own.o
/-- The cursor's row reads as its cells. -/
theorem Pn.line {w : World} {b base g n cap : Nat} {s : S} {x y z : Value} (h : Pn w b base s x y z) (hX : seenX s x y = .slice (some ⟨g, 0, none⟩) n cap) (hL : LineFacts s) (c : Nat) : Cs w (.slice (some ⟨g, lineAt s * 6, none⟩) (seenG s).cols.toNat c) (lineS s) := by
  have hc := (h.cells hX).cs
  have := Cs.of (w := w) (ad := ⟨g, lineAt s * 6, none⟩) (c := c) (l := lineS s) fun j u hu => by
    have e0 : (⟨g, 0, none⟩ : Addr).add (lineAt s * 6) = ⟨g, lineAt s * 6, none⟩ := by simp [Addr.add]; exact fun q => q.symm
    rw [← e0, Go.Deep.add_add]
    refine hc.flat.2 (lineAt s * 6 + j) u ?_
    have hl : lineS s = ((seenG s).cells.drop (lineAt s)).take (lineAt s + (seenG s).cols.toNat - lineAt s) := by
      unfold lineS Row.rowAt lineAt
      rw [Nat.add_sub_cancel_left]
    rw [hl] at hu
    exact flat_part (Nat.le_add_right _ _) hL.fit hu
  rwa [hL.len] at this
abbrev kbox (k : Cur) : Obj := .cells #[.int .i64 k.row, .int .i64 k.col, .bool k.wrap, .int .i64 k.a.fg, .int .i64 k.a.bg, .int .i64 k.a.flags, .int .i64 k.g0, .int .i64 k.g1, .int .i64 k.shift, .bool k.origin] 33 (0, 0)
abbrev bbox (r : Int) (n : Nat) : Obj := .cells #[.int .i64 r, .int .i64 n] 65 (0, 0)
theorem cbox0_cells {w : World} {b : Nat} (h : w.heap[b]? = some cbox0) : (∀ j, w.frozen? ⟨b, j, none⟩ = false) ∧ w.cell? ⟨b, 0, none⟩ = some (.int .i64 0) ∧ w.cell? ⟨b, 1, none⟩ = some (.int .i64 0) ∧ w.cell? ⟨b, 2, none⟩ = some (.bool false) ∧ w.cell? ⟨b, 3, none⟩ = some (.int .i64 0) ∧ w.cell? ⟨b, 4, none⟩ = some (.int .i64 0) ∧
    w.cell? ⟨b, 5, none⟩ = some (.int .i64 0) ∧ w.cell? ⟨b, 6, none⟩ = some (.int .i64 0) ∧ w.cell? ⟨b, 7, none⟩ = some (.int .i64 0) ∧ w.cell? ⟨b, 8, none⟩ = some (.int .i64 0) ∧ w.cell? ⟨b, 9, none⟩ = some (.bool false) :=
  ⟨Blk.free h, Blk.cell h 0, Blk.cell h 1, Blk.cell h 2, Blk.cell h 3, Blk.cell h 4, Blk.cell h 5, Blk.cell h 6, Blk.cell h 7, Blk.cell h 8, Blk.cell h 9⟩
set_option maxHeartbeats 6400000 in
/-- Plain set, no insert. -/
theorem put_plain (s : S) (x y z : Value) (b base g n0 cap : Nat) (r : Int) (n : Nat) (w : World) (h : Pn w b base s x y z) (hap : Apart x y) (hok : Ok s) (hX : seenX s x y = .slice (some ⟨g, 0, none⟩) n0 cap)
    (hins : hasB s.modes 2 = false) (hset : setOf s.cur ≠ 1) (hr : wid r = n) (hn : 1 ≤ n) (hf : s.cur.col + n ≤ s.main.cols) :
    Calls Tryz.prog 76 #[.pointer (some ⟨b, 0, none⟩), bodyV r n] w fun e w' => e = .returned (.tuple #[]) ∧ Pn w' b base (withLine s (mid (lineS s) s.cur.col.toNat (s.cur.col.toNat + n) (cellsOf r s.cur.a))) x y z ∧ Only g w w' ∧ Below base w w' := by
  have F := Lib.hid hok.facts
  have L := Lib.hid hok.line
  have HOK := Lib.hid hok
  have HAP := Lib.hid hap
  have H1 := Lib.hid (h.kept (bel_alloc w (bbox r n)))
  have HB1 : Hid ((w.alloc (bbox r n)).heap[w.heap.size]? = some (bbox r n)) := Lib.hid (heap_alloc_new _ _)
  have HO1 := Lib.hid (bel_alloc w (bbox r n))
  have HLN := Lib.hid (fun W (k : Pn W b base s x y z) => line_at s x y z b base g n0 cap W hX k hok)
  have HXX := Lib.hid hX
  have HUP := Lib.hid h.up
  clear h hap hok hX
  go_enter Tryz.func76, Tryz.ntmps76
  go_upto_region 1 with (fail)
  change Code.wp _ _ _ _ (w.alloc (bbox r n))
  generalize w.alloc (bbox r n) = w1 at H1 HB1 HO1 ⊢
  have HQ : Hid (∀ W, Below w1.heap.size w1 W → (W.cell? ⟨b, 7, none⟩ = some (.int .i64 s.cur.row) ∧ W.cell? ⟨b, 8, none⟩ = some (.int .i64 s.cur.col) ∧ W.cell? ⟨b, 9, none⟩ = some (.bool s.cur.wrap) ∧ W.cell? ⟨b, 10, none⟩ = some (.int .i64 s.cur.a.fg) ∧ W.cell? ⟨b, 11, none⟩ = some (.int .i64 s.cur.a.bg) ∧ W.cell? ⟨b, 12, none⟩ = some (.int .i64 s.cur.a.flags) ∧
      W.cell? ⟨b, 13, none⟩ = some (.int .i64 s.cur.g0) ∧ W.cell? ⟨b, 14, none⟩ = some (.int .i64 s.cur.g1) ∧ W.cell? ⟨b, 15, none⟩ = some (.int .i64 s.cur.shift) ∧ W.cell? ⟨b, 16, none⟩ = some (.bool s.cur.origin))) := Lib.hid fun W hb =>
    have k := (H1.out.kept hb).box
    ⟨k.cell 7, k.cell 8, k.cell 9, k.cell 10, k.cell 11, k.cell 12, k.cell 13, k.cell 14, k.cell 15, k.cell 16⟩
  go_cut [4, 5] from 6 to 11 (fun s4 s5 wx => ∃ b4 c', s4 = .pointer (some ⟨b4, 0, none⟩) ∧ s5 = .slice (some ⟨g, lineAt s * 6, none⟩) (seenG s).cols.toNat c' ∧ Hid (wx.heap[b4]? = some (kbox s.cur)) ∧ Hid (Below w1.heap.size w1 wx))
  case first =>
    have q1 := HQ.out w1.drew (Below.refl _ _).drew
    have HBA := Lib.hid (dal w1 cbox0)
    have HBB : Hid (∀ w2, Below (w1.alloc cbox0).drew.heap.size (w1.alloc cbox0).drew w2 → Below w1.heap.size w1 w2 ∧ w2.heap[w1.heap.size]? = some cbox0) := Lib.hid fun w2 hb => by
      have hs : w1.heap.size ≤ (w1.alloc cbox0).drew.heap.size := by show w1.heap.size ≤ (w1.alloc cbox0).heap.size; simp
      exact ⟨HBA.out.trans (hb.mono hs), Blk.kept (w := (w1.alloc cbox0).drew) (heap_alloc_new w1 cbox0) hb⟩
    have q2 := HQ.out ((w1.alloc cbox0).drew) HBA.out
    go_region_held3 (fun w' => w'.cell? ⟨b, 7, none⟩ = some (.int .i64 s.cur.row) ∧ w'.cell? ⟨b, 8, none⟩ = some (.int .i64 s.cur.col) ∧ w'.cell? ⟨b, 9, none⟩ = some (.bool s.cur.wrap) ∧ w'.cell? ⟨b, 10, none⟩ = some (.int .i64 s.cur.a.fg) ∧ w'.cell? ⟨b, 11, none⟩ = some (.int .i64 s.cur.a.bg) ∧ w'.cell? ⟨b, 12, none⟩ = some (.int .i64 s.cur.a.flags) ∧ w'.cell? ⟨b, 13, none⟩ = some (.int .i64 s.cur.g0) ∧ w'.cell? ⟨b, 14, none⟩ = some (.int .i64 s.cur.g1) ∧ w'.cell? ⟨b, 15, none⟩ = some (.int .i64 s.cur.shift) ∧ w'.cell? ⟨b, 16, none⟩ = some (.bool s.cur.origin)) (first | (with_reducible exact q6) | (with_reducible exact q5) | (with_reducible exact q4) | (with_reducible exact q3) | (with_reducible exact q2) | (with_reducible exact q1))
      ((first
        | (go_at_call 73; refine (HLN.out ((w1.alloc cbox0).drew) (H1.out.kept HBA.out)).mono ?_; rintro e w2 ⟨c', rfl, hb⟩; have HB2 := Lib.hid (HBB.out w2 hb).1; have HZ2 := Lib.hid (HBB.out w2 hb).2; have q3 := HQ.out w2 HB2.out; have q4 := HQ.out (kall w2 w1.heap.size s.cur) (kall_below HB2.out (Nat.le_refl _) s.cur); unfold kall at q4; obtain ⟨zf, z0, z1, z2, z3, z4, z5, z6, z7, z8, z9⟩ := cbox0_cells HZ2.out; have HE : Hid ((kall w2 w1.heap.size s.cur).heap[w1.heap.size]? = some (kbox s.cur) ∧ Below w1.heap.size w1 (kall w2 w1.heap.size s.cur)) := Lib.hid ⟨kall_box HZ2.out s.cur, kall_below HB2.out (Nat.le_refl _) s.cur⟩; clear hb)
        | (go_at_call 73; refine (HLN.out w1.drew (H1.out.kept (Below.refl _ _).drew)).mono ?_; rintro e w2 ⟨c', rfl, hb⟩; have HB2 : Hid (Below w1.heap.size w1 w2) := Lib.hid ((Below.refl _ _).drew.trans hb); have q3 := HQ.out w2 HB2.out; have q5 := HQ.out (w2.alloc cbox0) (HB2.out.trans ((bel_alloc w2 _).mono HB2.out.size)); have q6 := HQ.out (w2.alloc (kbox s.cur)) (HB2.out.trans ((bel_alloc w2 _).mono HB2.out.size)); have HE : Hid ((w2.alloc (kbox s.cur)).heap[w2.heap.size]? = some (kbox s.cur) ∧ Below w1.heap.size w1 (w2.alloc (kbox s.cur))) := Lib.hid ⟨heap_alloc_new _ _, HB2.out.trans ((bel_alloc w2 _).mono HB2.out.size)⟩; clear hb)))
    all_goals
      go_wp2_with fail
      go_meet
      exact ⟨_, _, rfl, rfl, Lib.hid HE.out.1, Lib.hid HE.out.2⟩
  case rest =>
    obtain ⟨b4, c', rfl, rfl, HK, HB2⟩ := hcut
    rename World => w2
    have H2 := Lib.hid (H1.out.kept HB2.out)
    have HD2 := Lib.hid (Blk.kept HB1.out HB2.out)
    have HA2 := Lib.hid (HO1.out.trans (HB2.out.mono HO1.out.size))
    clear HQ H1 HB1 HO1 HB2
    go_wp2_with fail
    refine (has_any s x y z b 2 w2 H2.out.box).mono ?_; rintro e w2' ⟨rfl, hw⟩
    have hw := hw.symm
    subst hw
    rw [hins]
    go_upto_region 4 with (fail)
    have HQ : Hid (∀ W, Below w2.heap.size w2 W → (W.cell? ⟨b4, 0, none⟩ = some (.int .i64 s.cur.row) ∧ W.cell? ⟨b4, 1, none⟩ = some (.int .i64 s.cur.col) ∧ W.cell? ⟨b4, 2, none⟩ = some (.bool s.cur.wrap) ∧ W.cell? ⟨b4, 3, none⟩ = some (.int .i64 s.cur.a.fg) ∧ W.cell? ⟨b4, 4, none⟩ = some (.int .i64 s.cur.a.bg) ∧ W.cell? ⟨b4, 5, none⟩ = some (.int .i64 s.cur.a.flags) ∧ W.cell? ⟨b4, 6, none⟩ = some (.int .i64 s.cur.g0) ∧ W.cell? ⟨b4, 7, none⟩ = some (.int .i64 s.cur.g1) ∧ W.cell? ⟨b4, 8, none⟩ = some (.int .i64 s.cur.shift) ∧ W.cell? ⟨b4, 9, none⟩ = some (.bool s.cur.origin) ∧ W.cell? ⟨w.heap.size, 0, none⟩ = some (.int .i64 r) ∧ W.cell? ⟨w.heap.size, 1, none⟩ = some (.int .i64 n))) := Lib.hid fun W hb =>
      have k := Blk.kept HK.out hb
      have d := Blk.kept HD2.out hb
      ⟨Blk.cell k 0, Blk.cell k 1, Blk.cell k 2, Blk.cell k 3, Blk.cell k 4, Blk.cell k 5, Blk.cell k 6, Blk.cell k 7, Blk.cell k 8, Blk.cell k 9, Blk.cell d 0, Blk.cell d 1⟩
    have q2 := HQ.out w2.drew (Below.refl _ _).drew
    have hcol : (s.cur.col.toNat : Int) = s.cur.col := by have := F.out.col0; omega
    have hfn : s.cur.col.toNat + n ≤ (lineS s).length := by rw [L.out.len]; have := L.out.cI; omega
    have hml : (mid (lineS s) s.cur.col.toNat (s.cur.col.toNat + n) (cellsOf r s.cur.a)).length = (seenG s).cols.toNat := by
      have h12 : wid r = 1 ∨ wid r = 2 := by rcases wid_cases r with e | e | e | e <;> omega
      have hcl := cells_length (a := s.cur.a) h12
      have := mid_length (show s.cur.col.toNat ≤ s.cur.col.toNat + n by omega) hfn (cellsOf r s.cur.a)
      rw [L.out.len] at this
      omega
    have HSH := Lib.hid (fun W => shown_plain s.cur r hset W)
    have HPT : Hid (∀ W, Pn W b base s x y z → _) := Lib.hid fun W k => put_fits (lineS s) s.cur.a s.cur.col.toNat n r (.slice (some ⟨g, lineAt s * 6, none⟩) (seenG s).cols.toNat c') W (k.line HXX.out L.out c') L.out.held (by rw [L.out.len]; have := L.out.c40; omega) L.out.ok F.out.a hr hn hfn
    rw [hcol] at HPT
    have HML := Lib.hid hml
    clear hml hfn hcol hset hr hins
    obtain ⟨m, hm⟩ : ∃ m, mid (lineS s) s.cur.col.toNat (s.cur.col.toNat + n) (cellsOf r s.cur.a) = m := ⟨_, rfl⟩
    have HMM := Lib.hid hm
    rw [hm] at HPT HML
    clear hm
    go_region_held3 (fun w' => w'.cell? ⟨b4, 0, none⟩ = some (.int .i64 s.cur.row) ∧ w'.cell? ⟨b4, 1, none⟩ = some (.int .i64 s.cur.col) ∧ w'.cell? ⟨b4, 2, none⟩ = some (.bool s.cur.wrap) ∧ w'.cell? ⟨b4, 3, none⟩ = some (.int .i64 s.cur.a.fg) ∧ w'.cell? ⟨b4, 4, none⟩ = some (.int .i64 s.cur.a.bg) ∧ w'.cell? ⟨b4, 5, none⟩ = some (.int .i64 s.cur.a.flags) ∧ w'.cell? ⟨b4, 6, none⟩ = some (.int .i64 s.cur.g0) ∧ w'.cell? ⟨b4, 7, none⟩ = some (.int .i64 s.cur.g1) ∧ w'.cell? ⟨b4, 8, none⟩ = some (.int .i64 s.cur.shift) ∧ w'.cell? ⟨b4, 9, none⟩ = some (.bool s.cur.origin) ∧ w'.cell? ⟨w.heap.size, 0, none⟩ = some (.int .i64 r) ∧ w'.cell? ⟨w.heap.size, 1, none⟩ = some (.int .i64 n)) (first | (with_reducible exact q4) | (with_reducible exact q3) | (with_reducible exact q2))
      ((first
        | (have h3 := H3.out; go_at_call 111; refine (HPT.out w3 h3).mono ?_; rintro e w4 ⟨v, rfl, ho, hb⟩; have H4 := Lib.hid (h3.kept hb); have HO4 := Lib.hid ho; have HB4 := Lib.hid (HB3.out.trans (hb.mono HB3.out.size)); have q4 := HQ.out w4 HB4.out; clear ho hb)
        | (go_at_call 112; refine (HSH.out w2.drew).mono ?_; rintro e w3 ⟨rfl, hb⟩; have HB3 : Hid (Below w2.heap.size w2 w3) := Lib.hid ((Below.refl _ _).drew.trans hb); have H3 := Lib.hid (H2.out.kept HB3.out); have q3 := HQ.out w3 HB3.out; clear hb)))
    all_goals
      have HA4 := Lib.hid (HA2.out.trans (HB4.out.mono HA2.out.size))
      go_wp2_with fail
      refine (HLN.out w4 H4.out).mono ?_; rintro e w5 ⟨c2, rfl, hb⟩
      have H5 := Lib.hid (H4.out.kept hb)
      have HO5 := Lib.hid (HO4.out.kept hb)
      have HA5 := Lib.hid (HA4.out.trans (hb.mono HA4.out.size))
      clear hb H2 H3 H4 HO4 HA4 HA2 HB3 HB4 q2 q3 q4
      have hC1 := L.out.c1
      rcases HO5.out.shape with ⟨_, e0⟩ | ⟨g2, cap2, e0, _, _⟩
      · have := HML.out; rw [e0] at this; simp at this; omega
      rw [HML.out] at e0
      subst e0
      have HSR := Lib.hid (HO5.out.cs.flat.2)
      obtain ⟨w6, hrun, ho6, hon6, hb6⟩ := run_copy_into (ty := 3) (k := lineAt s) (dCap := c2) (sCap := cap2) (H5.out.cells HXX.out) HML.out L.out.fit HSR.out
      have H6 := Lib.hid (H5.out.over HAP.out HXX.out ho6 hon6 hon6.1)
      have HN6 := Lib.hid (Only.trans ⟨HA5.out.size, fun g o _ e => Blk.kept e HA5.out⟩ hon6)
      have HB6 := Lib.hid (hb6 base w (HA5.out.mono HUP.out) ((H5.out.cells HXX.out).lt g rfl).1)
      clear ho6 hon6 hb6 H5 HO5 HA5 HSR HML HLN
      go_wp2_with fail
      go_end0
      rw [HMM.out]
      exact ⟨rfl, H6.out, HN6.out, HB6.out⟩
end Scr
end Go.Proofs.YtgjpojaegjdjcaaGreatDoor
end
