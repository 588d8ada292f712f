/- Joined texts: PrnWriteA, PrnWriteN. -/
import Derived.Test.YtgjpojaegjdjcaaGreatDoorJ1
import Derived.Test.YtgjpojaegjdjcaaGreatDoorJ2
import Derived.Test.YtgjpojaegjdjcaaGreatDoorJ3
import Derived.Test.YtgjpojaegjdjcaaGreatDoorJ4
import Derived.Test.YtgjpojaegjdjcaaGreatDoorJ5
import Derived.Test.YtgjpojaegjdjcaaGreatDoorJ6
import Derived.Test.YtgjpojaegjdjcaaGreatDoorJ7
import Derived.Test.YtgjpojaegjdjcaaGreatDoorJ8
import Derived.Test.YtgjpojaegjdjcaaGreatDoorJ9
import Derived.Test.YtgjpojaegjdjcaaGreatDoorJ10
import Derived.Test.YtgjpojaegjdjcaaGreatDoorJ11
import Derived.Test.YtgjpojaegjdjcaaGreatDoorJ12
import Derived.Test.YtgjpojaegjdjcaaGreatDoorJ13
import Derived.Test.YtgjpojaegjdjcaaGreatDoorJ14
import Derived.Test.YtgjpojaegjdjcaaGreatDoorJ15
import Derived.Test.YtgjpojaegjdjcaaGreatDoorJ17
import Derived.Test.YtgjpojaegjdjcaaGreatDoorJ18
import Derived.Test.YtgjpojaegjdjcaaGreatDoorJ19
import Derived.Test.YtgjpojaegjdjcaaGreatDoorJ20
import Derived.Test.YtgjpojaegjdjcaaGreatDoorJ21
import Derived.Test.YtgjpojaegjdjcaaGreatDoorJ22
import Derived.Test.YtgjpojaegjdjcaaGreatDoorJ23
import Derived.Test.YtgjpojaegjdjcaaGreatDoorJ24
import Derived.Test.YtgjpojaegjdjcaaGreatDoorJ27
import Derived.Test.YtgjpojaegjdjcaaGreatDoorJ29
import Derived.Test.YtgjpojaegjdjcaaGreatDoorJ30
import Derived.Test.YtgjpojaegjdjcaaGreatDoorJ31
import Derived.Test.YtgjpojaegjdjcaaGreatDoorJ43
import Derived.Test.YtgjpojaegjdjcaaGreatDoorJ44
import Derived.Test.YtgjpojaegjdjcaaGreatDoorJ45
import Derived.Test.YtgjpojaegjdjcaaGreatDoorJ46
import Derived.Test.YtgjpojaegjdjcaaGreatDoorJ48
import Derived.Test.YtgjpojaegjdjcaaGreatDoorJ49
import Derived.Test.YtgjpojaegjdjcaaGreatDoorJ51
import Derived.Test.YtgjpojaegjdjcaaGreatDoorJ52
import Derived.Test.YtgjpojaegjdjcaaGreatDoorJ55
import Derived.Test.YtgjpojaegjdjcaaGreatDoorJ59
import Derived.Test.YtgjpojaegjdjcaaGreatDoorJ61
section
/- A rune that has room written at the cursor: any set, insert or not; no wrap is due. -/
namespace Go.Proofs.YtgjpojaegjdjcaaGreatDoor
set_option maxRecDepth 100000
open Go.RowKit
namespace Scr
open Go.Proofs.YtgjpojaegjdjcaaGreatDoor.Row Wid

set_option maxHeartbeats 6400000 in
theorem write_fits (s : S) (x y z : Value) (b base g n0 cap : Nat) (r q0 : Int) (n : Nat) (w : World) (h : Pn w b base s x y z) (hap : Apart x y) (hok : Ok s) (hX : seenX s x y = .slice (some ⟨g, 0, none⟩) n0 cap)
    (hsh : ∀ W, Calls Tryz.prog 112 #[curV s.cur, .int .i64 r] W fun e w' => e = .returned (.int .i64 q0) ∧ Below W.heap.size W w') (hr : wid q0 = n) (hn : n = 1 ∨ n = 2) (hf : s.cur.col + n ≤ s.main.cols) (hwr : hasB s.modes 1 = true → s.cur.wrap = false) :
    Calls Tryz.prog 37 #[.pointer (some ⟨b, 0, none⟩), bodyV r n] w fun e w' => e = .returned (.tuple #[]) ∧ Pn w' b base (passed (withLine s (mid (roomS s n) s.cur.col.toNat (s.cur.col.toNat + n) (cellsOf q0 s.cur.a))) (min (s.cur.col + n) (s.main.cols - 1)) (decide (s.cur.col + n = s.main.cols) && hasB s.modes 1) r) x y z ∧ Below b w w' ∧ ∀ q o, q ≠ b → q < base → w.heap[q]? = some o → w'.heap[q]? = some o := by
  have F := Lib.hid hok.facts
  have H1 := Lib.hid (h.kept (bel_alloc w (bbox r n)))
  have HB1 : Hid ((w.alloc (bbox r n)).heap[w.heap.size]? = some (bbox r n)) := Lib.hid (heap_alloc_new _ _)
  have HO1 := Lib.hid (bel_alloc w (bbox r n))
  have HPT : Hid (∀ W, Pn W b base s x y z → _) := Lib.hid fun W k => put_any s x y z b base g n0 cap r q0 n W k hap hok hX hsh hr (by omega) hf
  have HGL : Hid (g < w.heap.size) := Lib.hid ((h.cells hX).lt g rfl).2
  have HLB : Hid (b ≤ base ∧ base ≤ w.heap.size) := Lib.hid ⟨by have := h.lt; omega, h.up⟩
  have HSA := Lib.hid (seat_arr s x y z)
  obtain ⟨p, hp⟩ : ∃ p, seatO s = p := ⟨_, rfl⟩
  rw [hp] at HSA
  have HSE : Hid (∀ W, SBox W b s x y z → Calls Tryz.prog 74 #[.pointer (some ⟨b, 0, none⟩)] W fun e w' => e = .returned (.pointer (some ⟨b, p, none⟩)) ∧ w' = W) := Lib.hid fun W k => by rw [← hp]; exact penSeen' s x y z b W k
  have HC : Hid (∀ W, SBox W b s x y z → W.cell? ⟨b, p + 1, none⟩ = some (.int .i64 s.main.cols)) := Lib.hid fun W k => by rw [k.cell, ← F.out.gc]; exact HSA.out.2.1
  obtain ⟨m, hm⟩ : ∃ m, mid (roomS s n) s.cur.col.toNat (s.cur.col.toNat + n) (cellsOf q0 s.cur.a) = m := ⟨_, rfl⟩
  rw [hm] at HPT ⊢
  obtain ⟨W1, hW1⟩ : ∃ q, hasB s.modes 1 = q := ⟨_, rfl⟩
  have HH : Hid (∀ W, SBox W b s x y z → Calls Tryz.prog 75 #[.pointer (some ⟨b, 0, none⟩), .int .i64 1] W fun e w' => e = .returned (.bool W1) ∧ w' = W) := Lib.hid fun W k => by rw [← hW1]; exact has_any s x y z b 1 W k
  rw [hW1]
  obtain ⟨ce, hce⟩ : ∃ ce, s.cur.col + (n : Int) = ce := ⟨_, rfl⟩
  have hwa : IntKind.i64.wrap (s.cur.col + (n : Int)) = ce := by have := F.out.col0; have := F.out.col1; have := F.out.c40; rw [IntKind.wrap_i64]; omega
  rw [hce] at hf ⊢
  have hwb : IntKind.i64.wrap (s.main.cols - 1) = s.main.cols - 1 := by have := F.out.c1; have := F.out.c40; rw [IntKind.wrap_i64]; omega
  have hng : ¬ s.main.cols < (n : Int) := by have := F.out.col0; omega
  have HCE := Lib.hid hce
  clear hce
  have HWC := Lib.hid (withLine_cur s m)
  rw [hW1] at hwr
  clear hp hm hW1 h hap hok hX hsh hr
  go_enter Tryz.func37, Tryz.ntmps37
  go_upto_region 1 with (fail)
  change Code.wp _ _ _ _ (w.alloc (bbox r n))
  generalize w.alloc (bbox r n) = w1 at H1 HB1 HO1 ⊢
  have H1 := Lib.hid (H1.out.kept (Below.refl _ _).drew)
  have HB1 : Hid (w1.drew.heap[w.heap.size]? = some (bbox r n)) := Lib.hid HB1.out
  have HO1 : Hid (Below w.heap.size w w1.drew) := Lib.hid HO1.out.drew
  have p1 : w1.cell? ⟨b, p + 1, none⟩ = some (.int .i64 s.main.cols) := HC.out w1.drew H1.out.box
  refine wp_region_still_lit (by kernel_rfl) (by kernel_rfl) ?_
  repeat still_step
  still_call (HSE.out _ H1.out.box)
  repeat still_step
  still_call (HH.out _ H1.out.box)
  repeat still_step
  refine wpStill_nil ?_
  show Exit.then _ _ _ _ w1.drew
  clear p1 HSE HH
  generalize w1.drew = w2 at H1 HB1 HO1 ⊢
  have c8 : w2.cell? ⟨b, 8, none⟩ = some (.int .i64 s.cur.col) := H1.out.box.cell 8
  have d0 : w2.cell? ⟨w.heap.size, 0, none⟩ = some (.int .i64 r) := Blk.cell HB1.out 0
  have d1 : w2.cell? ⟨w.heap.size, 1, none⟩ = some (.int .i64 n) := Blk.cell HB1.out 1
  go_upto_region 2 with (fail)
  go_quiet (fail)
  have HQQ := Lib.hid (bel_drewN w2 nq)
  go_upto_region 3 with (fail)
  generalize w2.drewN nq = w3 at HQQ ⊢
  have H3 := Lib.hid (H1.out.kept HQQ.out)
  have HB3 := Lib.hid (Blk.kept HB1.out HQQ.out)
  have HO3 := Lib.hid (HO1.out.trans (HQQ.out.mono HO1.out.size))
  clear c8 d0 d1 H1 HB1 HO1 HQQ
  have c9 : w3.cell? ⟨b, 9, none⟩ = some (.bool s.cur.wrap) := H3.out.box.cell 9
  have d0 : w3.cell? ⟨w.heap.size, 0, none⟩ = some (.int .i64 r) := Blk.cell HB3.out 0
  have d1 : w3.cell? ⟨w.heap.size, 1, none⟩ = some (.int .i64 n) := Blk.cell HB3.out 1
  cases W1
  · go_wp2_with fail
    refine (HPT.out w3 H3.out).mono ?_; rintro e w4 ⟨rfl, hp, hon, hb⟩
    have H4 := Lib.hid hp
    have HB4 := Lib.hid (hon.2 _ _ (by have := HGL.out; omega) HB3.out)
    have HO4 : Hid (Below b w w4) := Lib.hid ((HO3.out.mono (by have := HLB.out; omega)).trans (hb.mono HLB.out.1))
    have HF4 : Hid (∀ (q : Nat) (o : Obj), q < base → w.heap[q]? = some o → w4.heap[q]? = some o) := Lib.hid fun q o hq e => (hb.block q hq).trans (Blk.kept e HO3.out)
    clear hp hon hb c9 d0 d1 HPT H3 HB3 HO3
    have HE : Hid (∀ c0 c q, Pn (passPut w4 b c0 c q r).drew b base (passed (withLine s m) c q r) x y z ∧ Below b w (passPut w4 b c0 c q r).drew ∧ ∀ k o, k ≠ b → k < base → w.heap[k]? = some o → (passPut w4 b c0 c q r).drew.heap[k]? = some o) := Lib.hid fun c0 c q =>
      ⟨(H4.out.pass c0 c q r).kept (Below.refl _ _).drew, ((((HO4.out.setCell (show b ≤ b by omega) _).setCell (show b ≤ b by omega) _).setCell (show b ≤ b by omega) _).setCell (show b ≤ b by omega) _).drew, fun k o hk hl e => Blk.other (Blk.other (Blk.other (Blk.other (HF4.out k o hl e) hk _ _) hk _ _) hk _ _) hk _ _⟩
    have c8 : w4.cell? ⟨b, 8, none⟩ = some (.int .i64 s.cur.col) := by have k := H4.out.box.cell 8; rw [sarr_8, HWC.out.1] at k; exact k
    have c9 : w4.cell? ⟨b, 9, none⟩ = some (.bool s.cur.wrap) := by have k := H4.out.box.cell 9; rw [sarr_9, HWC.out.1] at k; exact k
    have c42 : w4.cell? ⟨b, 42, none⟩ = some (.int .i64 (withLine s m).last) := H4.out.box.cell 42
    have d0 : w4.cell? ⟨w.heap.size, 0, none⟩ = some (.int .i64 r) := Blk.cell HB4.out 0
    have d1 : w4.cell? ⟨w.heap.size, 1, none⟩ = some (.int .i64 n) := Blk.cell HB4.out 1
    have f4 : ∀ j, w4.frozen? ⟨b, j, none⟩ = false := H4.out.box.free
    have hne : w.heap.size ≠ b := by have h1 := HGL.out; have h2 := H4.out.lt; have h3 := HLB.out; omega
    clear hwr
    by_cases he : ce = s.main.cols
    · subst he
      go_upto_region 8 with (fail)
      go_region
      all_goals
        go_wp2_with fail
        go_end0
        exact ⟨rfl, HE.out _ _ _⟩
    · go_upto_region 8 with (fail)
      go_region
      all_goals
        go_wp2_with fail
        go_end0
        rw [show decide (ce = s.main.cols) = false from decide_eq_false he, Bool.false_and]
        exact ⟨rfl, HE.out _ _ _⟩
  · rw [hwr rfl] at c9
    go_wp2_with fail
    refine (HPT.out w3 H3.out).mono ?_; rintro e w4 ⟨rfl, hp, hon, hb⟩
    have H4 := Lib.hid hp
    have HB4 := Lib.hid (hon.2 _ _ (by have := HGL.out; omega) HB3.out)
    have HO4 : Hid (Below b w w4) := Lib.hid ((HO3.out.mono (by have := HLB.out; omega)).trans (hb.mono HLB.out.1))
    have HF4 : Hid (∀ (q : Nat) (o : Obj), q < base → w.heap[q]? = some o → w4.heap[q]? = some o) := Lib.hid fun q o hq e => (hb.block q hq).trans (Blk.kept e HO3.out)
    clear hp hon hb c9 d0 d1 HPT H3 HB3 HO3
    have HE : Hid (∀ c0 c q, Pn (passPut w4 b c0 c q r).drew b base (passed (withLine s m) c q r) x y z ∧ Below b w (passPut w4 b c0 c q r).drew ∧ ∀ k o, k ≠ b → k < base → w.heap[k]? = some o → (passPut w4 b c0 c q r).drew.heap[k]? = some o) := Lib.hid fun c0 c q =>
      ⟨(H4.out.pass c0 c q r).kept (Below.refl _ _).drew, ((((HO4.out.setCell (show b ≤ b by omega) _).setCell (show b ≤ b by omega) _).setCell (show b ≤ b by omega) _).setCell (show b ≤ b by omega) _).drew, fun k o hk hl e => Blk.other (Blk.other (Blk.other (Blk.other (HF4.out k o hl e) hk _ _) hk _ _) hk _ _) hk _ _⟩
    have c8 : w4.cell? ⟨b, 8, none⟩ = some (.int .i64 s.cur.col) := by have k := H4.out.box.cell 8; rw [sarr_8, HWC.out.1] at k; exact k
    have c9 : w4.cell? ⟨b, 9, none⟩ = some (.bool s.cur.wrap) := by have k := H4.out.box.cell 9; rw [sarr_9, HWC.out.1] at k; exact k
    have c42 : w4.cell? ⟨b, 42, none⟩ = some (.int .i64 (withLine s m).last) := H4.out.box.cell 42
    have d0 : w4.cell? ⟨w.heap.size, 0, none⟩ = some (.int .i64 r) := Blk.cell HB4.out 0
    have d1 : w4.cell? ⟨w.heap.size, 1, none⟩ = some (.int .i64 n) := Blk.cell HB4.out 1
    have f4 : ∀ j, w4.frozen? ⟨b, j, none⟩ = false := H4.out.box.free
    have hne : w.heap.size ≠ b := by have h1 := HGL.out; have h2 := H4.out.lt; have h3 := HLB.out; omega
    clear hwr
    by_cases he : ce = s.main.cols
    · subst he
      go_upto_region 8 with (fail)
      go_region
      all_goals
        go_wp2_with fail
        go_end0
        exact ⟨rfl, HE.out _ _ _⟩
    · go_upto_region 8 with (fail)
      go_region
      all_goals
        go_wp2_with fail
        go_end0
        rw [show decide (ce = s.main.cols) = false from decide_eq_false he, Bool.false_and]
        exact ⟨rfl, HE.out _ _ _⟩
end Scr
end Go.Proofs.YtgjpojaegjdjcaaGreatDoor
end
section
/- A rune that there is no room for. -/
namespace Go.Proofs.YtgjpojaegjdjcaaGreatDoor
set_option maxRecDepth 100000
open Go.RowKit
namespace Scr
open Go.Proofs.YtgjpojaegjdjcaaGreatDoor.Row Wid

set_option maxHeartbeats 6400000 in
/-- No room for it, and none to be had. -/
theorem write_no (s : S) (x y z : Value) (b base : Nat) (r : Int) (n : Nat) (w : World) (h : Pn w b base s x y z) (hok : Ok s) (hn : n = 1 ∨ n = 2)
    (hno : s.main.cols < (n : Int) ∨ (¬ s.main.cols < (n : Int) ∧ ¬ s.cur.col + n ≤ s.main.cols ∧ hasB s.modes 1 = false)) :
    Calls Tryz.prog 37 #[.pointer (some ⟨b, 0, none⟩), bodyV r n] w fun e w' => e = .returned (.tuple #[]) ∧ Pn w' b base s x y z ∧ Below w.heap.size w w' := by
  have F := Lib.hid hok.facts
  have H1 := Lib.hid (h.kept (bel_alloc w (bbox r n)))
  have HB1 : Hid ((w.alloc (bbox r n)).heap[w.heap.size]? = some (bbox r n)) := Lib.hid (heap_alloc_new _ _)
  have HO1 := Lib.hid (bel_alloc w (bbox r n))
  have HSA := Lib.hid (seat_arr s x y z)
  obtain ⟨p, hp⟩ : ∃ p, seatO s = p := ⟨_, rfl⟩
  rw [hp] at HSA
  have HSE : Hid (∀ W, SBox W b s x y z → Calls Tryz.prog 74 #[.pointer (some ⟨b, 0, none⟩)] W fun e w' => e = .returned (.pointer (some ⟨b, p, none⟩)) ∧ w' = W) := Lib.hid fun W k => by rw [← hp]; exact penSeen' s x y z b W k
  have HC : Hid (∀ W, SBox W b s x y z → W.cell? ⟨b, p + 1, none⟩ = some (.int .i64 s.main.cols)) := Lib.hid fun W k => by rw [k.cell, ← F.out.gc]; exact HSA.out.2.1
  obtain ⟨W1, hW1⟩ : ∃ q, hasB s.modes 1 = q := ⟨_, rfl⟩
  have HH : Hid (∀ W, SBox W b s x y z → Calls Tryz.prog 75 #[.pointer (some ⟨b, 0, none⟩), .int .i64 1] W fun e w' => e = .returned (.bool W1) ∧ w' = W) := Lib.hid fun W k => by rw [← hW1]; exact has_any s x y z b 1 W k
  obtain ⟨ce, hce⟩ : ∃ ce, s.cur.col + (n : Int) = ce := ⟨_, rfl⟩
  have hwa : IntKind.i64.wrap (s.cur.col + (n : Int)) = ce := by have := F.out.col0; have := F.out.col1; have := F.out.c40; rw [IntKind.wrap_i64]; omega
  rw [hW1, hce] at hno
  have hwb : IntKind.i64.wrap (s.main.cols - 1) = s.main.cols - 1 := by have := F.out.c1; have := F.out.c40; rw [IntKind.wrap_i64]; omega
  clear hp hW1 h hok hce
  go_enter Tryz.func37, Tryz.ntmps37
  go_upto_region 1 with (fail)
  change Code.wp _ _ _ _ (w.alloc (bbox r n))
  generalize w.alloc (bbox r n) = w1 at H1 HB1 HO1 ⊢
  have H1 := Lib.hid (H1.out.kept (Below.refl _ _).drew)
  have HB1 : Hid (w1.drew.heap[w.heap.size]? = some (bbox r n)) := Lib.hid HB1.out
  have HO1 : Hid (Below w.heap.size w w1.drew) := Lib.hid HO1.out.drew
  have p1 : w1.cell? ⟨b, p + 1, none⟩ = some (.int .i64 s.main.cols) := HC.out w1.drew H1.out.box
  refine wp_region_still_lit (by kernel_rfl) (by kernel_rfl) ?_
  repeat still_step
  still_call (HSE.out _ H1.out.box)
  repeat still_step
  still_call (HH.out _ H1.out.box)
  repeat still_step
  refine wpStill_nil ?_
  show Exit.then _ _ _ _ w1.drew
  clear p1 HSE HH
  generalize w1.drew = w2 at H1 HB1 HO1 ⊢
  have c8 : w2.cell? ⟨b, 8, none⟩ = some (.int .i64 s.cur.col) := H1.out.box.cell 8
  have d0 : w2.cell? ⟨w.heap.size, 0, none⟩ = some (.int .i64 r) := Blk.cell HB1.out 0
  have d1 : w2.cell? ⟨w.heap.size, 1, none⟩ = some (.int .i64 n) := Blk.cell HB1.out 1
  go_upto_region 2 with (fail)
  go_quiet (fail)
  have HQQ := Lib.hid (bel_drewN w2 nq)
  go_upto_region 3 with (fail)
  generalize w2.drewN nq = w3 at HQQ ⊢
  have H3 := Lib.hid (H1.out.kept HQQ.out)
  have HB3 := Lib.hid (Blk.kept HB1.out HQQ.out)
  have HO3 := Lib.hid (HO1.out.trans (HQQ.out.mono HO1.out.size))
  clear c8 d0 d1 H1 HB1 HO1 HQQ
  have d0 : w3.cell? ⟨w.heap.size, 0, none⟩ = some (.int .i64 r) := Blk.cell HB3.out 0
  have d1 : w3.cell? ⟨w.heap.size, 1, none⟩ = some (.int .i64 n) := Blk.cell HB3.out 1
  rcases hno with hlt | ⟨hlt, hle, rfl⟩
  · go_wp2_with fail
    go_returns
    exact ⟨rfl, H3.out, HO3.out⟩
  · go_wp2_with fail
    go_returns
    exact ⟨rfl, H3.out, HO3.out⟩
end Scr
end Go.Proofs.YtgjpojaegjdjcaaGreatDoor
end
