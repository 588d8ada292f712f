/- Joined texts: PrnWrite, PrnRune. -/
import Derived.Test.YtgjpojaegjdjcaaGreatDoorJ1
import Derived.Test.YtgjpojaegjdjcaaGreatDoorJ2
import Derived.Test.YtgjpojaegjdjcaaGreatDoorJ3
import Derived.Test.YtgjpojaegjdjcaaGreatDoorJ4
import Derived.Test.YtgjpojaegjdjcaaGreatDoorJ5
import Derived.Test.YtgjpojaegjdjcaaGreatDoorJ6
import Derived.Test.YtgjpojaegjdjcaaGreatDoorJ7
import Derived.Test.YtgjpojaegjdjcaaGreatDoorJ8
import Derived.Test.YtgjpojaegjdjcaaGreatDoorJ9
import Derived.Test.YtgjpojaegjdjcaaGreatDoorJ10
import Derived.Test.YtgjpojaegjdjcaaGreatDoorJ11
import Derived.Test.YtgjpojaegjdjcaaGreatDoorJ12
import Derived.Test.YtgjpojaegjdjcaaGreatDoorJ13
import Derived.Test.YtgjpojaegjdjcaaGreatDoorJ14
import Derived.Test.YtgjpojaegjdjcaaGreatDoorJ15
import Derived.Test.YtgjpojaegjdjcaaGreatDoorJ17
import Derived.Test.YtgjpojaegjdjcaaGreatDoorJ18
import Derived.Test.YtgjpojaegjdjcaaGreatDoorJ19
import Derived.Test.YtgjpojaegjdjcaaGreatDoorJ20
import Derived.Test.YtgjpojaegjdjcaaGreatDoorJ21
import Derived.Test.YtgjpojaegjdjcaaGreatDoorJ22
import Derived.Test.YtgjpojaegjdjcaaGreatDoorJ23
import Derived.Test.YtgjpojaegjdjcaaGreatDoorJ24
import Derived.Test.YtgjpojaegjdjcaaGreatDoorJ27
import Derived.Test.YtgjpojaegjdjcaaGreatDoorJ29
import Derived.Test.YtgjpojaegjdjcaaGreatDoorJ30
import Derived.Test.YtgjpojaegjdjcaaGreatDoorJ31
import Derived.Test.YtgjpojaegjdjcaaGreatDoorJ43
import Derived.Test.YtgjpojaegjdjcaaGreatDoorJ44
import Derived.Test.YtgjpojaegjdjcaaGreatDoorJ45
import Derived.Test.YtgjpojaegjdjcaaGreatDoorJ46
import Derived.Test.YtgjpojaegjdjcaaGreatDoorJ48
import Derived.Test.YtgjpojaegjdjcaaGreatDoorJ49
import Derived.Test.YtgjpojaegjdjcaaGreatDoorJ51
import Derived.Test.YtgjpojaegjdjcaaGreatDoorJ61
import Derived.StillTailTactics
import Derived.BigRegion
section
/- A rune that has room written at the cursor: plain set, no insert, no wrap pending. -/
namespace Go.Proofs.YtgjpojaegjdjcaaGreatDoor
set_option maxRecDepth 100000
open Go.RowKit
namespace Scr
open Go.Proofs.YtgjpojaegjdjcaaGreatDoor.Row Wid

theorem penSeen' (s : S) (x y z : Value) (b : Nat) (w : World) (h : SBox w b s x y z) : Calls Tryz.prog 74 #[.pointer (some ⟨b, 0, none⟩)] w fun e w' => e = .returned (.pointer (some ⟨b, seatO s, none⟩)) ∧ w' = w := (penSeen s x y z b w h).mono fun _ _ ⟨h1, h2⟩ => ⟨h1, h2.symm⟩
/-- Where the cursor is behind it; the rune that was told. -/
def passed (s : S) (c : Int) (q : Bool) (r : Int) : S := { s with cur := { s.cur with col := c, wrap := q }, last := r }
def passPut (w : World) (b : Nat) (c0 c : Int) (q : Bool) (r : Int) : World := (((w.setCell ⟨b, 8, none⟩ (.int .i64 c0)).setCell ⟨b, 9, none⟩ (.bool q)).setCell ⟨b, 8, none⟩ (.int .i64 c)).setCell ⟨b, 42, none⟩ (.int .i64 r)
theorem Pn.pass {w : World} {b base : Nat} {s : S} {x y z : Value} (h : Pn w b base s x y z) (c0 c : Int) (q : Bool) (r : Int) : Pn (passPut w b c0 c q r) b base (passed s c q r) x y z := by
  refine ⟨Blk.set (Blk.set (Blk.set (Blk.set h.box 8 _) 9 _) 8 _) 42 _, ((((h.own.set h.lt 8 _).set h.lt 9 _).set h.lt 8 _).set h.lt 42 _).as _ rfl rfl rfl, h.lt, ?_⟩
  unfold passPut
  rw [size_set, size_set, size_set, size_set]
  exact h.up
theorem withLine_cur (s : S) (m : List Cl) : (withLine s m).cur = s.cur ∧ (withLine s m).modes = s.modes ∧ (withLine s m).main.cols = s.main.cols := by
  unfold withLine putG
  cases hs : s.swapped with
  | false => rw [if_neg (by simp)]; exact ⟨rfl, rfl, by unfold seenG; rw [hs]; rfl⟩
  | true => exact ⟨rfl, rfl, rfl⟩
set_option maxHeartbeats 6400000 in
theorem write_here (s : S) (x y z : Value) (b base g n0 cap : Nat) (r : Int) (n : Nat) (w : World) (h : Pn w b base s x y z) (hap : Apart x y) (hok : Ok s) (hX : seenX s x y = .slice (some ⟨g, 0, none⟩) n0 cap)
    (hins : hasB s.modes 2 = false) (hset : setOf s.cur ≠ 1) (hr : wid r = n) (hn : n = 1 ∨ n = 2) (hf : s.cur.col + n ≤ s.main.cols) (hwr : s.cur.wrap = false) :
    Calls Tryz.prog 37 #[.pointer (some ⟨b, 0, none⟩), bodyV r n] w fun e w' => e = .returned (.tuple #[]) ∧ Pn w' b base (passed (withLine s (mid (lineS s) s.cur.col.toNat (s.cur.col.toNat + n) (cellsOf r s.cur.a))) (min (s.cur.col + n) (s.main.cols - 1)) (decide (s.cur.col + n = s.main.cols) && hasB s.modes 1) r) x y z ∧ Below b w w' ∧ ∀ q o, q ≠ b → q < base → w.heap[q]? = some o → w'.heap[q]? = some o := by
  have F := Lib.hid hok.facts
  have H1 := Lib.hid (h.kept (bel_alloc w (bbox r n)))
  have HB1 : Hid ((w.alloc (bbox r n)).heap[w.heap.size]? = some (bbox r n)) := Lib.hid (heap_alloc_new _ _)
  have HO1 := Lib.hid (bel_alloc w (bbox r n))
  have HPT : Hid (∀ W, Pn W b base s x y z → _) := Lib.hid fun W k => put_plain s x y z b base g n0 cap r n W k hap hok hX hins hset hr (by omega) hf
  have HGL : Hid (g < w.heap.size) := Lib.hid ((h.cells hX).lt g rfl).2
  have HLB : Hid (b ≤ base ∧ base ≤ w.heap.size) := Lib.hid ⟨by have := h.lt; omega, h.up⟩
  have HSA := Lib.hid (seat_arr s x y z)
  obtain ⟨p, hp⟩ : ∃ p, seatO s = p := ⟨_, rfl⟩
  rw [hp] at HSA
  have HSE : Hid (∀ W, SBox W b s x y z → Calls Tryz.prog 74 #[.pointer (some ⟨b, 0, none⟩)] W fun e w' => e = .returned (.pointer (some ⟨b, p, none⟩)) ∧ w' = W) := Lib.hid fun W k => by rw [← hp]; exact penSeen' s x y z b W k
  have HC : Hid (∀ W, SBox W b s x y z → W.cell? ⟨b, p + 1, none⟩ = some (.int .i64 s.main.cols)) := Lib.hid fun W k => by rw [k.cell, ← F.out.gc]; exact HSA.out.2.1
  obtain ⟨m, hm⟩ : ∃ m, mid (lineS s) s.cur.col.toNat (s.cur.col.toNat + n) (cellsOf r s.cur.a) = m := ⟨_, rfl⟩
  rw [hm] at HPT ⊢
  obtain ⟨W1, hW1⟩ : ∃ q, hasB s.modes 1 = q := ⟨_, rfl⟩
  have HH : Hid (∀ W, SBox W b s x y z → Calls Tryz.prog 75 #[.pointer (some ⟨b, 0, none⟩), .int .i64 1] W fun e w' => e = .returned (.bool W1) ∧ w' = W) := Lib.hid fun W k => by rw [← hW1]; exact has_any s x y z b 1 W k
  rw [hW1]
  obtain ⟨ce, hce⟩ : ∃ ce, s.cur.col + (n : Int) = ce := ⟨_, rfl⟩
  have hwa : IntKind.i64.wrap (s.cur.col + (n : Int)) = ce := by have := F.out.col0; have := F.out.col1; have := F.out.c40; rw [IntKind.wrap_i64]; omega
  rw [hce] at hf ⊢
  have hwb : IntKind.i64.wrap (s.main.cols - 1) = s.main.cols - 1 := by have := F.out.c1; have := F.out.c40; rw [IntKind.wrap_i64]; omega
  have hng : ¬ s.main.cols < (n : Int) := by have := F.out.col0; omega
  have HCE := Lib.hid hce
  clear hce
  have HWC := Lib.hid (withLine_cur s m)
  clear hp hm hW1 h hap hok hX hins hset hr
  go_enter Tryz.func37, Tryz.ntmps37
  go_upto_region 1 with (fail)
  change Code.wp _ _ _ _ (w.alloc (bbox r n))
  generalize w.alloc (bbox r n) = w1 at H1 HB1 HO1 ⊢
  have H1 := Lib.hid (H1.out.kept (Below.refl _ _).drew)
  have HB1 : Hid (w1.drew.heap[w.heap.size]? = some (bbox r n)) := Lib.hid HB1.out
  have HO1 : Hid (Below w.heap.size w w1.drew) := Lib.hid HO1.out.drew
  have p1 : w1.cell? ⟨b, p + 1, none⟩ = some (.int .i64 s.main.cols) := HC.out w1.drew H1.out.box
  refine wp_region_still_lit (by kernel_rfl) (by kernel_rfl) ?_
  repeat still_step
  still_call (HSE.out _ H1.out.box)
  repeat still_step
  still_call (HH.out _ H1.out.box)
  repeat still_step
  refine wpStill_nil ?_
  show Exit.then _ _ _ _ w1.drew
  clear p1 HSE HH
  generalize w1.drew = w2 at H1 HB1 HO1 ⊢
  have c8 : w2.cell? ⟨b, 8, none⟩ = some (.int .i64 s.cur.col) := H1.out.box.cell 8
  have d0 : w2.cell? ⟨w.heap.size, 0, none⟩ = some (.int .i64 r) := Blk.cell HB1.out 0
  have d1 : w2.cell? ⟨w.heap.size, 1, none⟩ = some (.int .i64 n) := Blk.cell HB1.out 1
  go_upto_region 2 with (fail)
  go_quiet (fail)
  have HQQ := Lib.hid (bel_drewN w2 nq)
  go_upto_region 3 with (fail)
  generalize w2.drewN nq = w3 at HQQ ⊢
  have H3 := Lib.hid (H1.out.kept HQQ.out)
  have HB3 := Lib.hid (Blk.kept HB1.out HQQ.out)
  have HO3 := Lib.hid (HO1.out.trans (HQQ.out.mono HO1.out.size))
  clear c8 d0 d1 H1 HB1 HO1 HQQ
  have c9 : w3.cell? ⟨b, 9, none⟩ = some (.bool false) := by rw [← hwr]; exact H3.out.box.cell 9
  have d0 : w3.cell? ⟨w.heap.size, 0, none⟩ = some (.int .i64 r) := Blk.cell HB3.out 0
  have d1 : w3.cell? ⟨w.heap.size, 1, none⟩ = some (.int .i64 n) := Blk.cell HB3.out 1
  cases W1
  · go_wp2_with fail
    refine (HPT.out w3 H3.out).mono ?_; rintro e w4 ⟨rfl, hp, hon, hb⟩
    have H4 := Lib.hid hp
    have HB4 := Lib.hid (hon.2 _ _ (by have := HGL.out; omega) HB3.out)
    have HO4 : Hid (Below b w w4) := Lib.hid ((HO3.out.mono (by have := HLB.out; omega)).trans (hb.mono HLB.out.1))
    have HF4 : Hid (∀ (q : Nat) (o : Obj), q < base → w.heap[q]? = some o → w4.heap[q]? = some o) := Lib.hid fun q o hq e => (hb.block q hq).trans (Blk.kept e HO3.out)
    clear hp hon hb c9 d0 d1 HPT H3 HB3 HO3
    have HE : Hid (∀ c0 c q, Pn (passPut w4 b c0 c q r).drew b base (passed (withLine s m) c q r) x y z ∧ Below b w (passPut w4 b c0 c q r).drew ∧ ∀ k o, k ≠ b → k < base → w.heap[k]? = some o → (passPut w4 b c0 c q r).drew.heap[k]? = some o) := Lib.hid fun c0 c q =>
      ⟨(H4.out.pass c0 c q r).kept (Below.refl _ _).drew, ((((HO4.out.setCell (show b ≤ b by omega) _).setCell (show b ≤ b by omega) _).setCell (show b ≤ b by omega) _).setCell (show b ≤ b by omega) _).drew, fun k o hk hl e => Blk.other (Blk.other (Blk.other (Blk.other (HF4.out k o hl e) hk _ _) hk _ _) hk _ _) hk _ _⟩
    have c8 : w4.cell? ⟨b, 8, none⟩ = some (.int .i64 s.cur.col) := by have k := H4.out.box.cell 8; rw [sarr_8, HWC.out.1] at k; exact k
    have c9 : w4.cell? ⟨b, 9, none⟩ = some (.bool s.cur.wrap) := by have k := H4.out.box.cell 9; rw [sarr_9, HWC.out.1] at k; exact k
    have c42 : w4.cell? ⟨b, 42, none⟩ = some (.int .i64 (withLine s m).last) := H4.out.box.cell 42
    have d0 : w4.cell? ⟨w.heap.size, 0, none⟩ = some (.int .i64 r) := Blk.cell HB4.out 0
    have d1 : w4.cell? ⟨w.heap.size, 1, none⟩ = some (.int .i64 n) := Blk.cell HB4.out 1
    have f4 : ∀ j, w4.frozen? ⟨b, j, none⟩ = false := H4.out.box.free
    have hne : w.heap.size ≠ b := by have h1 := HGL.out; have h2 := H4.out.lt; have h3 := HLB.out; omega
    clear hwr
    by_cases he : ce = s.main.cols
    · subst he
      go_upto_region 8 with (fail)
      go_region
      all_goals
        go_wp2_with fail
        go_end0
        exact ⟨rfl, HE.out _ _ _⟩
    · go_upto_region 8 with (fail)
      go_region
      all_goals
        go_wp2_with fail
        go_end0
        rw [show decide (ce = s.main.cols) = false from decide_eq_false he, Bool.false_and]
        exact ⟨rfl, HE.out _ _ _⟩
  · go_wp2_with fail
    refine (HPT.out w3 H3.out).mono ?_; rintro e w4 ⟨rfl, hp, hon, hb⟩
    have H4 := Lib.hid hp
    have HB4 := Lib.hid (hon.2 _ _ (by have := HGL.out; omega) HB3.out)
    have HO4 : Hid (Below b w w4) := Lib.hid ((HO3.out.mono (by have := HLB.out; omega)).trans (hb.mono HLB.out.1))
    have HF4 : Hid (∀ (q : Nat) (o : Obj), q < base → w.heap[q]? = some o → w4.heap[q]? = some o) := Lib.hid fun q o hq e => (hb.block q hq).trans (Blk.kept e HO3.out)
    clear hp hon hb c9 d0 d1 HPT H3 HB3 HO3
    have HE : Hid (∀ c0 c q, Pn (passPut w4 b c0 c q r).drew b base (passed (withLine s m) c q r) x y z ∧ Below b w (passPut w4 b c0 c q r).drew ∧ ∀ k o, k ≠ b → k < base → w.heap[k]? = some o → (passPut w4 b c0 c q r).drew.heap[k]? = some o) := Lib.hid fun c0 c q =>
      ⟨(H4.out.pass c0 c q r).kept (Below.refl _ _).drew, ((((HO4.out.setCell (show b ≤ b by omega) _).setCell (show b ≤ b by omega) _).setCell (show b ≤ b by omega) _).setCell (show b ≤ b by omega) _).drew, fun k o hk hl e => Blk.other (Blk.other (Blk.other (Blk.other (HF4.out k o hl e) hk _ _) hk _ _) hk _ _) hk _ _⟩
    have c8 : w4.cell? ⟨b, 8, none⟩ = some (.int .i64 s.cur.col) := by have k := H4.out.box.cell 8; rw [sarr_8, HWC.out.1] at k; exact k
    have c9 : w4.cell? ⟨b, 9, none⟩ = some (.bool s.cur.wrap) := by have k := H4.out.box.cell 9; rw [sarr_9, HWC.out.1] at k; exact k
    have c42 : w4.cell? ⟨b, 42, none⟩ = some (.int .i64 (withLine s m).last) := H4.out.box.cell 42
    have d0 : w4.cell? ⟨w.heap.size, 0, none⟩ = some (.int .i64 r) := Blk.cell HB4.out 0
    have d1 : w4.cell? ⟨w.heap.size, 1, none⟩ = some (.int .i64 n) := Blk.cell HB4.out 1
    have f4 : ∀ j, w4.frozen? ⟨b, j, none⟩ = false := H4.out.box.free
    have hne : w.heap.size ≠ b := by have h1 := HGL.out; have h2 := H4.out.lt; have h3 := HLB.out; omega
    clear hwr
    by_cases he : ce = s.main.cols
    · subst he
      go_upto_region 8 with (fail)
      go_region
      all_goals
        go_wp2_with fail
        go_end0
        exact ⟨rfl, HE.out _ _ _⟩
    · go_upto_region 8 with (fail)
      go_region
      all_goals
        go_wp2_with fail
        go_end0
        rw [show decide (ce = s.main.cols) = false from decide_eq_false he, Bool.false_and]
        exact ⟨rfl, HE.out _ _ _⟩
end Scr
end Go.Proofs.YtgjpojaegjdjcaaGreatDoor
end
section
/- A rune that has room printed: the developers' Rune, plain set, no insert, no wrap pending. -/
namespace Go.Proofs.YtgjpojaegjdjcaaGreatDoor
set_option maxRecDepth 100000
open Go.RowKit
namespace Scr
open Go.Proofs.YtgjpojaegjdjcaaGreatDoor.Row Wid

theorem Pn.shape {w : World} {b base : Nat} {s : S} {x y z : Value} (h : Pn w b base s x y z) (hok : Ok s) : ∃ g n cap, seenX s x y = .slice (some ⟨g, 0, none⟩) n cap := by
  have hX : OwnCs w base (seenX s x y) (seenG s).cells := by
    unfold seenX seenG; cases s.swapped
    · exact h.own.m
    · exact h.own.o
  rcases hX.shape with ⟨_, e⟩ | ⟨g, cap, e, _, _⟩
  · have h1 := hok.line.fit; have h2 := hok.line.c1; rw [e] at h1; simp at h1; omega
  · exact ⟨g, _, cap, e⟩
/-- What one prints. -/
def hereS (s : S) (r : Int) (n : Nat) : S := passed (withLine s (mid (lineS s) s.cur.col.toNat (s.cur.col.toNat + n) (cellsOf r s.cur.a))) (min (s.cur.col + n) (s.main.cols - 1)) (decide (s.cur.col + n = s.main.cols) && hasB s.modes 1) r
set_option maxHeartbeats 6400000 in
theorem rune_here (s : S) (x y z : Value) (r : Int) (n : Nat) (w : World) (h : In w s x y z) (hh : Holds s) (hT : Tabs w) (hok : okB s = true)
    (hins : hasB s.modes 2 = false) (hset : setOf s.cur ≠ 1) (hr : wid r = n) (hn : n = 1 ∨ n = 2) (hf : s.cur.col + n ≤ s.main.cols) (hwr : s.cur.wrap = false) :
    Calls Tryz.prog 9 #[sv s x y z, .int .i64 r] w fun e w' => ∃ x' y' z', e = .returned (.tuple #[sv (hereS s r n) x' y' z', .int .i64 0]) ∧ Own w' w.heap.size (hereS s r n) x' y' z' ∧ Below w.heap.size w w' := by
  have HI := Lib.hid h
  have H0 := Lib.hid (Rz.start w s x y z)
  have HOK := Lib.hid ((ok_iff s).1 hok)
  have HCK : Hid (∀ W, Below w.heap.size w W → Calls Tryz.prog 34 #[sv s x y z] W fun e w' => e = .returned (.int .i64 0) ∧ Below W.heap.size W w') := Lib.hid fun W hb => by
    have k := check_any s x y z W (h.kept hb) hh (hT.kept hb)
    rw [hok] at k
    exact k
  have HLK := Lib.hid (fun W => look_body r n hr hn W)
  have HWR : Hid (∀ W b base x y z g n0 cap, Pn W b base s x y z → Apart x y → seenX s x y = .slice (some ⟨g, 0, none⟩) n0 cap → _) := Lib.hid fun W b base x y z g n0 cap k ka kx => write_here s x y z b base g n0 cap r n W k ka HOK.out kx hins hset hr hn hf hwr
  clear h hh hT hok hins hset hr hn hf hwr
  go_enter Tryz.func9, Tryz.ntmps9
  go_wp2_with (refine wp_allocS1 (w := w) rfl rfl ?_)
  refine (HLK.out _).mono ?_; rintro e w1 ⟨rfl, hb⟩
  have H1 := Lib.hid (H0.out.kept hb)
  clear hb H0 HLK
  have H2 : Hid (∀ o, Rz w s x y z (w1.alloc o)) := Lib.hid fun o => H1.out.kept (bel_alloc w1 o)
  go_wp2_with (refine wp_loadS (b := w.heap.size) (s := s) rfl rfl rfl (H2.out _).b0 ?_)
  refine (HCK.out _ (H2.out _).bel).mono ?_; rintro e w3 ⟨rfl, hb⟩
  have H3 := Lib.hid ((H2.out _).kept hb)
  clear hb H1 H2 HCK
  go_wp2_with (refine wp_loadS (b := w.heap.size) (s := s) rfl rfl rfl H3.out.b0 ?_)
  refine (copied_any s x y z _ (HI.out.kept H3.out.bel) HOK.out.lens).mono ?_; rintro e w4 ⟨x4, y4, z4, rfl, ho, hap, hb⟩
  have H4 := Lib.hid (H3.out.kept hb)
  have HO4 := Lib.hid (ho.low H3.out.up)
  have HAP := Lib.hid hap
  clear ho hb hap H3
  go_wp2_with (refine wp_storeS_then (b := w.heap.size) (A := sarr s x4 y4 z4) (T := Pb w s x4 y4 z4) rfl rfl rfl rfl rfl HO4.out.in_.one H4.out.b0 rfl (fun _ k => Pb.start H4.out HO4.out k) ?_; intro w5 H5)
  obtain ⟨g, n0, cap, hX⟩ := H5.out.pn.shape HOK.out
  refine (HWR.out w5 w.heap.size (w.heap.size + 2) x4 y4 z4 g n0 cap H5.out.pn HAP.out hX).mono ?_; rintro e w6 ⟨rfl, hp, hb, hfr⟩
  have HW : Hid (Pb w (hereS s r n) x4 y4 z4 w6) := Lib.hid ⟨hp, hfr _ _ (by omega) (by omega) H5.out.b1, H5.out.bel.trans hb⟩
  clear hp hb hfr hX H5 H4 HO4 HWR
  go_wp2_with (first
    | (refine wp_loadS (b := w.heap.size) (s := hereS s r n) rfl rfl rfl HW.out.pn.box ?_)
    | (refine wp_storeS (b := w.heap.size + 1) rfl rfl rfl rfl rfl HW.out.pn.own.in_.one HW.out.b1 rfl ?_; intro w9 h9))
  refine bodyPost_ret (ret2S rfl rfl h9.box rfl) rfl ?_
  exact ⟨_, _, _, rfl, Own.low (h9.own HW.out.pn.own (by omega)) (by omega), h9.below _ _ (by omega) HW.out.bel⟩
end Scr
end Go.Proofs.YtgjpojaegjdjcaaGreatDoor
end
