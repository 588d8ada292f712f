/- Joined texts: PrnWrapP, PrnWriteW. -/
import Derived.Test.YtgjpojaegjdjcaaGreatDoorJ1
import Derived.Test.YtgjpojaegjdjcaaGreatDoorJ2
import Derived.Test.YtgjpojaegjdjcaaGreatDoorJ3
import Derived.Test.YtgjpojaegjdjcaaGreatDoorJ4
import Derived.Test.YtgjpojaegjdjcaaGreatDoorJ5
import Derived.Test.YtgjpojaegjdjcaaGreatDoorJ6
import Derived.Test.YtgjpojaegjdjcaaGreatDoorJ7
import Derived.Test.YtgjpojaegjdjcaaGreatDoorJ8
import Derived.Test.YtgjpojaegjdjcaaGreatDoorJ9
import Derived.Test.YtgjpojaegjdjcaaGreatDoorJ10
import Derived.Test.YtgjpojaegjdjcaaGreatDoorJ11
import Derived.Test.YtgjpojaegjdjcaaGreatDoorJ12
import Derived.Test.YtgjpojaegjdjcaaGreatDoorJ13
import Derived.Test.YtgjpojaegjdjcaaGreatDoorJ14
import Derived.Test.YtgjpojaegjdjcaaGreatDoorJ15
import Derived.Test.YtgjpojaegjdjcaaGreatDoorJ17
import Derived.Test.YtgjpojaegjdjcaaGreatDoorJ18
import Derived.Test.YtgjpojaegjdjcaaGreatDoorJ19
import Derived.Test.YtgjpojaegjdjcaaGreatDoorJ20
import Derived.Test.YtgjpojaegjdjcaaGreatDoorJ21
import Derived.Test.YtgjpojaegjdjcaaGreatDoorJ22
import Derived.Test.YtgjpojaegjdjcaaGreatDoorJ23
import Derived.Test.YtgjpojaegjdjcaaGreatDoorJ24
import Derived.Test.YtgjpojaegjdjcaaGreatDoorJ27
import Derived.Test.YtgjpojaegjdjcaaGreatDoorJ29
import Derived.Test.YtgjpojaegjdjcaaGreatDoorJ30
import Derived.Test.YtgjpojaegjdjcaaGreatDoorJ31
import Derived.Test.YtgjpojaegjdjcaaGreatDoorJ43
import Derived.Test.YtgjpojaegjdjcaaGreatDoorJ44
import Derived.Test.YtgjpojaegjdjcaaGreatDoorJ45
import Derived.Test.YtgjpojaegjdjcaaGreatDoorJ46
import Derived.Test.YtgjpojaegjdjcaaGreatDoorJ48
import Derived.Test.YtgjpojaegjdjcaaGreatDoorJ49
import Derived.Test.YtgjpojaegjdjcaaGreatDoorJ51
import Derived.Test.YtgjpojaegjdjcaaGreatDoorJ52
import Derived.Test.YtgjpojaegjdjcaaGreatDoorJ54
import Derived.Test.YtgjpojaegjdjcaaGreatDoorJ55
import Derived.Test.YtgjpojaegjdjcaaGreatDoorJ59
import Derived.Test.YtgjpojaegjdjcaaGreatDoorJ60
import Derived.Test.YtgjpojaegjdjcaaGreatDoorJ61
section
/- The wrap, as plain states; what a set shows has the width of what it stands for. -/
namespace Go.Proofs.YtgjpojaegjdjcaaGreatDoor
set_option maxRecDepth 100000
open Go.RowKit
namespace Scr
open Go.Proofs.YtgjpojaegjdjcaaGreatDoor.Row Wid

def atCol (s : S) (c : Int) : S := { s with cur := { s.cur with col := c } }
theorem atCol_ok {s : S} (h : Ok s) (hw : s.cur.wrap = false) {c : Int} (h0 : 0 ≤ c) (h1 : c ≤ s.main.cols - 1) : Ok (atCol s c) := by
  refine ⟨h.m, h.o, h.r, h.c, ?_, h.k2, h.k3, h.g, h.b, h.n, h.t, h.l⟩
  have hk := h.k1
  unfold cursorB at hk
  unfold cursorB atCol
  simp only [Bool.and_eq_true] at hk ⊢
  exact ⟨hk.1, rng_iff.2 ⟨h0, h1⟩, by rw [hw]; rfl, hk.2.2.2⟩
theorem down_same {s : S} (h : Ok s) : (downS s).modes = s.modes ∧ (downS s).cur.wrap = false ∧ (downS s).cur.col = s.cur.col ∧ (downS s).cur.a = s.cur.a ∧ setOf (downS s).cur = setOf s.cur ∧ (downS s).main.cols = s.main.cols ∧ (downS s).title = s.title ∧ (downS s).top = s.top ∧ (downS s).bottom = s.bottom := by
  have f := h.facts
  unfold downS
  split
  · unfold putG
    cases hs : (noWrap s).swapped with
    | false =>
      rw [if_neg (by simp)]
      exact ⟨rfl, rfl, rfl, rfl, rfl, f.gc, rfl, rfl, rfl⟩
    | true =>
      rw [if_pos rfl]
      exact ⟨rfl, rfl, rfl, rfl, rfl, rfl, rfl, rfl, rfl⟩
  · exact ⟨rfl, rfl, rfl, rfl, rfl, rfl, rfl, rfl, rfl⟩
/-- Behind a wrap: a row down, at the row's begin. -/
def wrapS (s : S) : S := atCol (downS s) 0
theorem wrapS_ok {s : S} (h : Ok s) : Ok (wrapS s) := by
  have f := h.facts
  have d := down_same h
  exact atCol_ok (downS_ok h) d.2.1 (Int.le_refl _) (by rw [d.2.2.2.2.2.1]; have := f.c1; omega)
theorem drawn_widths : ∀ j : Fin 31, wid (96 + (j.val : Int)) = 1 ∧ wid ((drawnL.getD j.val 0 : Nat) : Int) = 1 := of_decide_eq_true (by kernel_rfl)
theorem drawn_wid (r : Int) : wid (drawnAt r) = wid r := by
  unfold drawnAt
  split
  · rename_i h
    have hj := drawn_widths ⟨(r - 96).toNat, by omega⟩
    simp only at hj
    rw [hj.2]
    rw [show (96 : Int) + ((r - 96).toNat : Int) = r by omega] at hj
    exact hj.1.symm
  · rfl
/-- What a rune is shown as. -/
def shownS (k : Cur) (r : Int) : Int := if setOf k = 1 then drawnAt r else r
theorem shown_wid (k : Cur) (r : Int) : wid (shownS k r) = wid r := by
  unfold shownS
  split
  · exact drawn_wid r
  · rfl
theorem shown_any (k : Cur) (r : Int) (w : World) : Calls Tryz.prog 112 #[curV k, .int .i64 r] w fun e w' => e = .returned (.int .i64 (shownS k r)) ∧ Below w.heap.size w w' := by
  unfold shownS
  split
  · rename_i h
    exact shown_lines k r h w
  · rename_i h
    exact shown_plain k r h w
end Scr
end Go.Proofs.YtgjpojaegjdjcaaGreatDoor
end
section
/- A rune that is written behind a wrap. -/
namespace Go.Proofs.YtgjpojaegjdjcaaGreatDoor
set_option maxRecDepth 100000
open Go.RowKit
namespace Scr
open Go.Proofs.YtgjpojaegjdjcaaGreatDoor.Row Wid

theorem down_pen (s : S) (x y z : Value) (b base : Nat) (w : World) (h : Pn w b base s x y z) (hok : Ok s) :
    Calls Tryz.prog 55 #[.pointer (some ⟨b, 0, none⟩)] w fun e w' => e = .returned (.tuple #[]) ∧ ∃ x' y', Pn w' b base (downS s) x' y' z ∧ (Apart x y → Apart x' y') ∧ Below b w w' ∧ Only b w w' := by
  unfold downS
  split
  · rename_i hr
    exact pdown_move s x y z b base w h hok hr
  · rename_i hr
    exact pdown_step s x y z b base w h hok hr
theorem Pn.col {w : World} {b base : Nat} {s : S} {x y z : Value} (h : Pn w b base s x y z) (c : Int) : Pn (w.setCell ⟨b, 8, none⟩ (.int .i64 c)) b base (atCol s c) x y z := by
  refine ⟨Blk.set h.box 8 _, (h.own.set h.lt 8 _).as _ rfl rfl rfl, h.lt, ?_⟩
  rw [size_set]
  exact h.up
theorem body_ne {w : World} {base g n cap k : Nat} {l : List Cl} {r : Int} {m : Nat} (h : OwnCs w base (.slice (some ⟨g, 0, none⟩) n cap) l) (e : w.heap[k]? = some (bbox r m)) : k ≠ g := by
  rintro rfl
  rcases h.2 with ⟨hv, _⟩ | ⟨g', cap', cur, hv, _, hg, _⟩
  · cases hv
  · injection hv with hv
    injection hv with hv
    injection hv with hv
    subst hv
    rw [hg] at e
    injection e with e
    injection e with _ e _
    exact absurd e (by decide)
/-- All stands below b, and below base but b. -/
def Frm (b base : Nat) (w w' : World) : Prop := Below b w w' ∧ ∀ (q : Nat) (o : Obj), q ≠ b → q < base → w.heap[q]? = some o → w'.heap[q]? = some o
theorem Frm.start {b base : Nat} {w w' : World} (h : Below w.heap.size w w') (h1 : b ≤ base) (h2 : base ≤ w.heap.size) : Frm b base w w' := ⟨h.mono (Nat.le_trans h1 h2), fun _ _ _ _ e => Blk.kept e h⟩
theorem Frm.only {b base : Nat} {w w1 w2 : World} (h : Frm b base w w1) (hb : Below b w1 w2) (ho : Only b w1 w2) : Frm b base w w2 := ⟨h.1.trans hb, fun q o hq hl e => ho.2 q o hq (h.2 q o hq hl e)⟩
theorem Frm.set {b base : Nat} {w w1 : World} (h : Frm b base w w1) (j : Nat) (u : Value) : Frm b base w (w1.setCell ⟨b, j, none⟩ u) := ⟨h.1.setCell (Nat.le_refl b) _, fun q o hq hl e => Blk.other (h.2 q o hq hl e) hq _ _⟩
theorem Frm.bel {b base : Nat} {w w1 w2 : World} (h : Frm b base w w1) (hb : b ≤ base) (h2 : Below base w1 w2) : Frm b base w w2 := ⟨h.1.trans (h2.mono hb), fun q o hq hl e => (h2.block q hl).trans (h.2 q o hq hl e)⟩
theorem Frm.drew {b base : Nat} {w w1 : World} (h : Frm b base w w1) : Frm b base w w1.drew := ⟨h.1.drew, h.2⟩
set_option maxHeartbeats 6400000 in
theorem write_wrap (s : S) (x y z : Value) (b base : Nat) (r q0 : Int) (n : Nat) (w : World) (h : Pn w b base s x y z) (hap : Apart x y) (hok : Ok s)
    (hsh : ∀ W, Calls Tryz.prog 112 #[curV (wrapS s).cur, .int .i64 r] W fun e w' => e = .returned (.int .i64 q0) ∧ Below W.heap.size W w') (hr : wid q0 = n) (hn : n = 1 ∨ n = 2) (hW : hasB s.modes 1 = true) (hf : (n : Int) ≤ s.main.cols) (hwr : s.cur.wrap = true ∨ (s.cur.wrap = false ∧ ¬ s.cur.col + n ≤ s.main.cols)) :
    Calls Tryz.prog 37 #[.pointer (some ⟨b, 0, none⟩), bodyV r n] w fun e w' => e = .returned (.tuple #[]) ∧ ∃ x' y', Pn w' b base (passed (withLine (wrapS s) (mid (roomS (wrapS s) n) (wrapS s).cur.col.toNat ((wrapS s).cur.col.toNat + n) (cellsOf q0 (wrapS s).cur.a))) (min n (s.main.cols - 1)) (decide ((n : Int) = s.main.cols)) r) x' y' z ∧ Apart x' y' ∧ Frm b base w w' := by
  have F := Lib.hid hok.facts
  have H1 := Lib.hid (h.kept (bel_alloc w (bbox r n)))
  have HB1 : Hid ((w.alloc (bbox r n)).heap[w.heap.size]? = some (bbox r n)) := Lib.hid (heap_alloc_new _ _)
  have HO1 := Lib.hid (bel_alloc w (bbox r n))
  have HLB : Hid (b ≤ base ∧ base ≤ w.heap.size) := Lib.hid ⟨by have := h.lt; omega, h.up⟩
  have HSA := Lib.hid (seat_arr s x y z)
  obtain ⟨p, hp⟩ : ∃ p, seatO s = p := ⟨_, rfl⟩
  rw [hp] at HSA
  have HSE : Hid (∀ W, SBox W b s x y z → Calls Tryz.prog 74 #[.pointer (some ⟨b, 0, none⟩)] W fun e w' => e = .returned (.pointer (some ⟨b, p, none⟩)) ∧ w' = W) := Lib.hid fun W k => by rw [← hp]; exact penSeen' s x y z b W k
  have HC : Hid (∀ W, SBox W b s x y z → W.cell? ⟨b, p + 1, none⟩ = some (.int .i64 s.main.cols)) := Lib.hid fun W k => by rw [k.cell, ← F.out.gc]; exact HSA.out.2.1
  obtain ⟨W1, hW1⟩ : ∃ q, hasB s.modes 1 = q := ⟨_, rfl⟩
  have HH : Hid (∀ W, SBox W b s x y z → Calls Tryz.prog 75 #[.pointer (some ⟨b, 0, none⟩), .int .i64 1] W fun e w' => e = .returned (.bool W1) ∧ w' = W) := Lib.hid fun W k => by rw [← hW1]; exact has_any s x y z b 1 W k
  obtain ⟨ce, hce⟩ : ∃ ce, s.cur.col + (n : Int) = ce := ⟨_, rfl⟩
  have hwa : IntKind.i64.wrap (s.cur.col + (n : Int)) = ce := by have := F.out.col0; have := F.out.col1; have := F.out.c40; rw [IntKind.wrap_i64]; omega
  rw [hce] at hwr
  have hwb : IntKind.i64.wrap (s.main.cols - 1) = s.main.cols - 1 := by have := F.out.c1; have := F.out.c40; rw [IntKind.wrap_i64]; omega
  rw [hW1] at hW
  subst hW
  have hng : ¬ s.main.cols < (n : Int) := by omega
  clear hp hW1 h hce
  go_enter Tryz.func37, Tryz.ntmps37
  go_upto_region 1 with (fail)
  change Code.wp _ _ _ _ (w.alloc (bbox r n))
  generalize w.alloc (bbox r n) = w1 at H1 HB1 HO1 ⊢
  have H1 := Lib.hid (H1.out.kept (Below.refl _ _).drew)
  have HB1 : Hid (w1.drew.heap[w.heap.size]? = some (bbox r n)) := Lib.hid HB1.out
  have HO1 : Hid (Below w.heap.size w w1.drew) := Lib.hid HO1.out.drew
  have p1 : w1.cell? ⟨b, p + 1, none⟩ = some (.int .i64 s.main.cols) := HC.out w1.drew H1.out.box
  refine wp_region_still_lit (by kernel_rfl) (by kernel_rfl) ?_
  repeat still_step
  still_call (HSE.out _ H1.out.box)
  repeat still_step
  still_call (HH.out _ H1.out.box)
  repeat still_step
  refine wpStill_nil ?_
  show Exit.then _ _ _ _ w1.drew
  clear p1 HSE HH
  generalize w1.drew = w2 at H1 HB1 HO1 ⊢
  have c8 : w2.cell? ⟨b, 8, none⟩ = some (.int .i64 s.cur.col) := H1.out.box.cell 8
  have d0 : w2.cell? ⟨w.heap.size, 0, none⟩ = some (.int .i64 r) := Blk.cell HB1.out 0
  have d1 : w2.cell? ⟨w.heap.size, 1, none⟩ = some (.int .i64 n) := Blk.cell HB1.out 1
  go_upto_region 2 with (fail)
  go_quiet (fail)
  have HQQ := Lib.hid (bel_drewN w2 nq)
  go_upto_region 3 with (fail)
  generalize w2.drewN nq = w3 at HQQ ⊢
  have H3 := Lib.hid (H1.out.kept HQQ.out)
  have HB3 := Lib.hid (Blk.kept HB1.out HQQ.out)
  have HO3 := Lib.hid (HO1.out.trans (HQQ.out.mono HO1.out.size))
  clear c8 d0 d1 H1 HB1 HO1 HQQ
  have d0 : w3.cell? ⟨w.heap.size, 0, none⟩ = some (.int .i64 r) := Blk.cell HB3.out 0
  have d1 : w3.cell? ⟨w.heap.size, 1, none⟩ = some (.int .i64 n) := Blk.cell HB3.out 1
  have HDN := Lib.hid (fun W (k : Pn W b base s x y z) => down_pen s x y z b base W k hok)
  have c9 : w3.cell? ⟨b, 9, none⟩ = some (.bool s.cur.wrap) := H3.out.box.cell 9
  have HF2 : Hid ((wrapS s).cur.col + (n : Int) ≤ (wrapS s).main.cols) := Lib.hid (by
    have h1 : (wrapS s).cur.col = 0 := rfl
    have h2 : (wrapS s).main.cols = s.main.cols := (down_same hok).2.2.2.2.2.1
    omega)
  have hcase : (s.cur.wrap = true ∧ ce ≤ s.main.cols) ∨ (s.cur.wrap = true ∧ ¬ ce ≤ s.main.cols) ∨ (s.cur.wrap = false ∧ ¬ ce ≤ s.main.cols) := by
    by_cases q : ce ≤ s.main.cols
    · rcases hwr with h | h
      · exact .inl ⟨h, q⟩
      · exact absurd q h.2
    · rcases hwr with h | h
      · exact .inr (.inl ⟨h, q⟩)
      · exact .inr (.inr ⟨h.1, q⟩)
  clear hwr
  rcases hcase with ⟨hw, hle⟩ | ⟨hw, hle⟩ | ⟨hw, hle⟩
  · rw [hw] at c9
    go_wp2_with fail
    refine (HDN.out w3 H3.out).mono ?_; rintro e w4 ⟨rfl, x', y', hp, hap', hbl, hon⟩
    have hap2 := hap' hap
    have hne : w.heap.size ≠ b := by have h2 := H3.out.lt; have h3 := HLB.out; omega
    have H4 := Lib.hid hp
    have HB4 := Lib.hid (hon.2 _ _ hne HB3.out)
    have HO4 : Hid (Frm b base w w4) := Lib.hid ((Frm.start HO3.out HLB.out.1 HLB.out.2).only hbl hon)
    have c8 : w4.cell? ⟨b, 8, none⟩ = some (.int .i64 (downS s).cur.col) := by have k := H4.out.box.cell 8; rw [sarr_8] at k; exact k
    have f4 : ∀ j, w4.frozen? ⟨b, j, none⟩ = false := H4.out.box.free
    clear hp hap' hbl hon c9 d0 d1 H3 HB3 HO3
    go_upto_region 7 with (fail)
    have H5 := Lib.hid (H4.out.col 0)
    have HB5 : Hid ((w4.setCell ⟨b, 8, none⟩ (.int .i64 0)).heap[w.heap.size]? = some (bbox r n)) := Lib.hid (Blk.other HB4.out hne _ _)
    have HO5 : Hid (Frm b base w (w4.setCell ⟨b, 8, none⟩ (.int .i64 0))) := Lib.hid (HO4.out.set _ _)
    clear c8 f4 H4 HB4 HO4
    generalize w4.setCell ⟨b, 8, none⟩ (.int .i64 0) = w5 at H5 HB5 HO5 ⊢
    have d0 : w5.cell? ⟨w.heap.size, 0, none⟩ = some (.int .i64 r) := Blk.cell HB5.out 0
    have d1 : w5.cell? ⟨w.heap.size, 1, none⟩ = some (.int .i64 n) := Blk.cell HB5.out 1
    obtain ⟨g, n0, cap, hX⟩ := H5.out.shape (wrapS_ok hok)
    have HG := Lib.hid (body_ne (H5.out.cells hX) HB5.out)
    have HPT := Lib.hid (put_any (wrapS s) x' y' z b base g n0 cap r q0 n w5 H5.out hap2 (wrapS_ok hok) hX hsh hr (by omega) HF2.out)
    obtain ⟨m, hm⟩ : ∃ m, mid (roomS (wrapS s) n) (wrapS s).cur.col.toNat ((wrapS s).cur.col.toNat + n) (cellsOf q0 (wrapS s).cur.a) = m := ⟨_, rfl⟩
    rw [hm] at HPT
    have HM := Lib.hid hm
    clear hm
    go_wp2_with fail
    refine HPT.out.mono ?_; rintro e w6 ⟨rfl, hp, hon, hb⟩
    have H6 := Lib.hid hp
    have HB6 := Lib.hid (hon.2 _ _ HG.out HB5.out)
    have HO6 : Hid (Frm b base w w6) := Lib.hid (HO5.out.bel HLB.out.1 hb)
    clear hp hon hb d0 d1 H5 HB5 HO5 HPT
    have HE : Hid (∀ c0 c q, Pn (passPut w6 b c0 c q r).drew b base (passed (withLine (wrapS s) m) c q r) x' y' z ∧ Frm b base w (passPut w6 b c0 c q r).drew) := Lib.hid fun c0 c q =>
      ⟨(H6.out.pass c0 c q r).kept (Below.refl _ _).drew, ((((HO6.out.set _ _).set _ _).set _ _).set _ _).drew⟩
    have HWC := withLine_cur (wrapS s) m
    have c8 : w6.cell? ⟨b, 8, none⟩ = some (.int .i64 0) := by have k := H6.out.box.cell 8; rw [sarr_8, HWC.1] at k; exact k
    have c9 : w6.cell? ⟨b, 9, none⟩ = some (.bool (wrapS s).cur.wrap) := by have k := H6.out.box.cell 9; rw [sarr_9, HWC.1] at k; exact k
    have c42 : w6.cell? ⟨b, 42, none⟩ = some (.int .i64 (withLine (wrapS s) m).last) := H6.out.box.cell 42
    have d0 : w6.cell? ⟨w.heap.size, 0, none⟩ = some (.int .i64 r) := Blk.cell HB6.out 0
    have d1 : w6.cell? ⟨w.heap.size, 1, none⟩ = some (.int .i64 n) := Blk.cell HB6.out 1
    have f4 : ∀ j, w6.frozen? ⟨b, j, none⟩ = false := H6.out.box.free
    have hwn : IntKind.i64.wrap (n : Int) = (n : Int) := by rw [IntKind.wrap_i64]; omega
    clear HWC
    by_cases he : (n : Int) = s.main.cols
    · go_upto_region 8 with (fail)
      go_region
      all_goals
        go_wp2_with fail
        go_end0
        rw [HM.out, decide_eq_true he, he]
        exact ⟨rfl, x', y', (HE.out _ _ _).1, hap2, (HE.out _ _ _).2⟩
    · go_upto_region 8 with (fail)
      go_region
      all_goals
        go_wp2_with fail
        go_end0
        rw [HM.out, decide_eq_false he]
        exact ⟨rfl, x', y', (HE.out _ _ _).1, hap2, (HE.out _ _ _).2⟩
  · rw [hw] at c9
    go_wp2_with fail
    refine (HDN.out w3 H3.out).mono ?_; rintro e w4 ⟨rfl, x', y', hp, hap', hbl, hon⟩
    have hap2 := hap' hap
    have hne : w.heap.size ≠ b := by have h2 := H3.out.lt; have h3 := HLB.out; omega
    have H4 := Lib.hid hp
    have HB4 := Lib.hid (hon.2 _ _ hne HB3.out)
    have HO4 : Hid (Frm b base w w4) := Lib.hid ((Frm.start HO3.out HLB.out.1 HLB.out.2).only hbl hon)
    have c8 : w4.cell? ⟨b, 8, none⟩ = some (.int .i64 (downS s).cur.col) := by have k := H4.out.box.cell 8; rw [sarr_8] at k; exact k
    have f4 : ∀ j, w4.frozen? ⟨b, j, none⟩ = false := H4.out.box.free
    clear hp hap' hbl hon c9 d0 d1 H3 HB3 HO3
    go_upto_region 7 with (fail)
    have H5 := Lib.hid (H4.out.col 0)
    have HB5 : Hid ((w4.setCell ⟨b, 8, none⟩ (.int .i64 0)).heap[w.heap.size]? = some (bbox r n)) := Lib.hid (Blk.other HB4.out hne _ _)
    have HO5 : Hid (Frm b base w (w4.setCell ⟨b, 8, none⟩ (.int .i64 0))) := Lib.hid (HO4.out.set _ _)
    clear c8 f4 H4 HB4 HO4
    generalize w4.setCell ⟨b, 8, none⟩ (.int .i64 0) = w5 at H5 HB5 HO5 ⊢
    have d0 : w5.cell? ⟨w.heap.size, 0, none⟩ = some (.int .i64 r) := Blk.cell HB5.out 0
    have d1 : w5.cell? ⟨w.heap.size, 1, none⟩ = some (.int .i64 n) := Blk.cell HB5.out 1
    obtain ⟨g, n0, cap, hX⟩ := H5.out.shape (wrapS_ok hok)
    have HG := Lib.hid (body_ne (H5.out.cells hX) HB5.out)
    have HPT := Lib.hid (put_any (wrapS s) x' y' z b base g n0 cap r q0 n w5 H5.out hap2 (wrapS_ok hok) hX hsh hr (by omega) HF2.out)
    obtain ⟨m, hm⟩ : ∃ m, mid (roomS (wrapS s) n) (wrapS s).cur.col.toNat ((wrapS s).cur.col.toNat + n) (cellsOf q0 (wrapS s).cur.a) = m := ⟨_, rfl⟩
    rw [hm] at HPT
    have HM := Lib.hid hm
    clear hm
    go_wp2_with fail
    refine HPT.out.mono ?_; rintro e w6 ⟨rfl, hp, hon, hb⟩
    have H6 := Lib.hid hp
    have HB6 := Lib.hid (hon.2 _ _ HG.out HB5.out)
    have HO6 : Hid (Frm b base w w6) := Lib.hid (HO5.out.bel HLB.out.1 hb)
    clear hp hon hb d0 d1 H5 HB5 HO5 HPT
    have HE : Hid (∀ c0 c q, Pn (passPut w6 b c0 c q r).drew b base (passed (withLine (wrapS s) m) c q r) x' y' z ∧ Frm b base w (passPut w6 b c0 c q r).drew) := Lib.hid fun c0 c q =>
      ⟨(H6.out.pass c0 c q r).kept (Below.refl _ _).drew, ((((HO6.out.set _ _).set _ _).set _ _).set _ _).drew⟩
    have HWC := withLine_cur (wrapS s) m
    have c8 : w6.cell? ⟨b, 8, none⟩ = some (.int .i64 0) := by have k := H6.out.box.cell 8; rw [sarr_8, HWC.1] at k; exact k
    have c9 : w6.cell? ⟨b, 9, none⟩ = some (.bool (wrapS s).cur.wrap) := by have k := H6.out.box.cell 9; rw [sarr_9, HWC.1] at k; exact k
    have c42 : w6.cell? ⟨b, 42, none⟩ = some (.int .i64 (withLine (wrapS s) m).last) := H6.out.box.cell 42
    have d0 : w6.cell? ⟨w.heap.size, 0, none⟩ = some (.int .i64 r) := Blk.cell HB6.out 0
    have d1 : w6.cell? ⟨w.heap.size, 1, none⟩ = some (.int .i64 n) := Blk.cell HB6.out 1
    have f4 : ∀ j, w6.frozen? ⟨b, j, none⟩ = false := H6.out.box.free
    have hwn : IntKind.i64.wrap (n : Int) = (n : Int) := by rw [IntKind.wrap_i64]; omega
    clear HWC
    by_cases he : (n : Int) = s.main.cols
    · go_upto_region 8 with (fail)
      go_region
      all_goals
        go_wp2_with fail
        go_end0
        rw [HM.out, decide_eq_true he, he]
        exact ⟨rfl, x', y', (HE.out _ _ _).1, hap2, (HE.out _ _ _).2⟩
    · go_upto_region 8 with (fail)
      go_region
      all_goals
        go_wp2_with fail
        go_end0
        rw [HM.out, decide_eq_false he]
        exact ⟨rfl, x', y', (HE.out _ _ _).1, hap2, (HE.out _ _ _).2⟩
  · rw [hw] at c9
    go_wp2_with fail
    refine (HDN.out w3 H3.out).mono ?_; rintro e w4 ⟨rfl, x', y', hp, hap', hbl, hon⟩
    have hap2 := hap' hap
    have hne : w.heap.size ≠ b := by have h2 := H3.out.lt; have h3 := HLB.out; omega
    have H4 := Lib.hid hp
    have HB4 := Lib.hid (hon.2 _ _ hne HB3.out)
    have HO4 : Hid (Frm b base w w4) := Lib.hid ((Frm.start HO3.out HLB.out.1 HLB.out.2).only hbl hon)
    have c8 : w4.cell? ⟨b, 8, none⟩ = some (.int .i64 (downS s).cur.col) := by have k := H4.out.box.cell 8; rw [sarr_8] at k; exact k
    have f4 : ∀ j, w4.frozen? ⟨b, j, none⟩ = false := H4.out.box.free
    clear hp hap' hbl hon c9 d0 d1 H3 HB3 HO3
    go_upto_region 7 with (fail)
    have H5 := Lib.hid (H4.out.col 0)
    have HB5 : Hid ((w4.setCell ⟨b, 8, none⟩ (.int .i64 0)).heap[w.heap.size]? = some (bbox r n)) := Lib.hid (Blk.other HB4.out hne _ _)
    have HO5 : Hid (Frm b base w (w4.setCell ⟨b, 8, none⟩ (.int .i64 0))) := Lib.hid (HO4.out.set _ _)
    clear c8 f4 H4 HB4 HO4
    generalize w4.setCell ⟨b, 8, none⟩ (.int .i64 0) = w5 at H5 HB5 HO5 ⊢
    have d0 : w5.cell? ⟨w.heap.size, 0, none⟩ = some (.int .i64 r) := Blk.cell HB5.out 0
    have d1 : w5.cell? ⟨w.heap.size, 1, none⟩ = some (.int .i64 n) := Blk.cell HB5.out 1
    obtain ⟨g, n0, cap, hX⟩ := H5.out.shape (wrapS_ok hok)
    have HG := Lib.hid (body_ne (H5.out.cells hX) HB5.out)
    have HPT := Lib.hid (put_any (wrapS s) x' y' z b base g n0 cap r q0 n w5 H5.out hap2 (wrapS_ok hok) hX hsh hr (by omega) HF2.out)
    obtain ⟨m, hm⟩ : ∃ m, mid (roomS (wrapS s) n) (wrapS s).cur.col.toNat ((wrapS s).cur.col.toNat + n) (cellsOf q0 (wrapS s).cur.a) = m := ⟨_, rfl⟩
    rw [hm] at HPT
    have HM := Lib.hid hm
    clear hm
    go_wp2_with fail
    refine HPT.out.mono ?_; rintro e w6 ⟨rfl, hp, hon, hb⟩
    have H6 := Lib.hid hp
    have HB6 := Lib.hid (hon.2 _ _ HG.out HB5.out)
    have HO6 : Hid (Frm b base w w6) := Lib.hid (HO5.out.bel HLB.out.1 hb)
    clear hp hon hb d0 d1 H5 HB5 HO5 HPT
    have HE : Hid (∀ c0 c q, Pn (passPut w6 b c0 c q r).drew b base (passed (withLine (wrapS s) m) c q r) x' y' z ∧ Frm b base w (passPut w6 b c0 c q r).drew) := Lib.hid fun c0 c q =>
      ⟨(H6.out.pass c0 c q r).kept (Below.refl _ _).drew, ((((HO6.out.set _ _).set _ _).set _ _).set _ _).drew⟩
    have HWC := withLine_cur (wrapS s) m
    have c8 : w6.cell? ⟨b, 8, none⟩ = some (.int .i64 0) := by have k := H6.out.box.cell 8; rw [sarr_8, HWC.1] at k; exact k
    have c9 : w6.cell? ⟨b, 9, none⟩ = some (.bool (wrapS s).cur.wrap) := by have k := H6.out.box.cell 9; rw [sarr_9, HWC.1] at k; exact k
    have c42 : w6.cell? ⟨b, 42, none⟩ = some (.int .i64 (withLine (wrapS s) m).last) := H6.out.box.cell 42
    have d0 : w6.cell? ⟨w.heap.size, 0, none⟩ = some (.int .i64 r) := Blk.cell HB6.out 0
    have d1 : w6.cell? ⟨w.heap.size, 1, none⟩ = some (.int .i64 n) := Blk.cell HB6.out 1
    have f4 : ∀ j, w6.frozen? ⟨b, j, none⟩ = false := H6.out.box.free
    have hwn : IntKind.i64.wrap (n : Int) = (n : Int) := by rw [IntKind.wrap_i64]; omega
    clear HWC
    by_cases he : (n : Int) = s.main.cols
    · go_upto_region 8 with (fail)
      go_region
      all_goals
        go_wp2_with fail
        go_end0
        rw [HM.out, decide_eq_true he, he]
        exact ⟨rfl, x', y', (HE.out _ _ _).1, hap2, (HE.out _ _ _).2⟩
    · go_upto_region 8 with (fail)
      go_region
      all_goals
        go_wp2_with fail
        go_end0
        rw [HM.out, decide_eq_false he]
        exact ⟨rfl, x', y', (HE.out _ _ _).1, hap2, (HE.out _ _ _).2⟩
end Scr
end Go.Proofs.YtgjpojaegjdjcaaGreatDoor
end
