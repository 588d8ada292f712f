/- Joined texts: PrnFull, PrnWakes. -/
import Derived.Test.YtceaoadlhdgnmaaGreatDoorM403
import Derived.Test.YtceaoadlhdgnmaaGreatDoorM404
namespace Go.Proofs.YtceaoadlhdgnmaaGreatDoor
set_option maxRecDepth 100000
section
open Go.RowKit
namespace Scr
open Go.Proofs.YtceaoadlhdgnmaaGreatDoor.Row Wid
def markS (s : S) (r : Int) : S := if combAt s < 0 then s else withLine s (combL (lineS s) (combAt s).toNat r)
def printS (s : S) (r : Int) : S := if wid r = 0 then markS s r else writeS s r (wid r).toNat
set_option maxHeartbeats 800000 in
theorem write_any (s : S) (x y z : Value) (b base : Nat) (r : Int) (n : Nat) (w : World) (h : Pn w b base s x y z) (hap : Apart x y) (hok : Ok s) (hr : wid r = n) (hn : n = 1 ∨ n = 2) :
    Calls Tryz.prog 83 #[.pointer (some ⟨b, 0, none⟩), bodyV r n] w fun e w' => e = .returned (.tuple #[]) ∧ ∃ x' y', Pn w' b base (writeS s r n) x' y' z ∧ Frm b base w w' := by
  have hlt := h.lt
  have hup := h.up
  unfold writeS
  split
  · rename_i h1
    have h1' : s.main.cols < (n : Int) ∨ (¬ s.main.cols < (n : Int) ∧ ¬ s.cur.col + n ≤ s.main.cols ∧ hasB s.modes 1 = false) := by
      by_cases q : s.main.cols < (n : Int)
      · exact .inl q
      · rcases h1 with h1 | h1
        · exact absurd h1 q
        · exact .inr ⟨q, h1⟩
    refine (write_no s x y z b base r n w h hok hn h1').mono ?_
    rintro e w' ⟨rfl, hp, hb⟩
    exact ⟨rfl, x, y, hp, Frm.start hb (Nat.le_of_lt hlt) hup⟩
  · rename_i h1
    split
    · rename_i h2
      have hwr : s.cur.wrap = true ∨ (s.cur.wrap = false ∧ ¬ s.cur.col + n ≤ s.main.cols) := by
        cases hb : s.cur.wrap
        · rcases h2.2 with q | q
          · rw [hb] at q; cases q
          · exact .inr ⟨rfl, q⟩
        · exact .inl rfl
      have hcol : (wrapS s).cur.col = 0 := rfl
      have hcols : (wrapS s).main.cols = s.main.cols := (down_same hok).2.2.2.2.2.1
      have hmd : hasB (wrapS s).modes 1 = true := by rw [(wrap_keeps hok).modes]; exact h2.1
      have hE : bodyS (wrapS s) r n = passed (withLine (wrapS s) (mid (roomS (wrapS s) n) (wrapS s).cur.col.toNat ((wrapS s).cur.col.toNat + n) (cellsOf (shownS (wrapS s).cur r) (wrapS s).cur.a))) (min n (s.main.cols - 1)) (decide ((n : Int) = s.main.cols)) r := by
        unfold bodyS
        rw [hmd, hcols, hcol, Int.zero_add, Bool.and_true]
      rw [hE]
      refine (write_wrap s x y z b base r (shownS (wrapS s).cur r) n w h hap hok (fun W => shown_any _ r W) (by rw [shown_wid]; exact hr) hn h2.1 (by omega) hwr).mono ?_
      rintro e w' ⟨rfl, x', y', hp, _, hf⟩
      exact ⟨rfl, x', y', hp, hf⟩
    · rename_i h2
      obtain ⟨g, n0, cap, hX⟩ := h.shape hok
      have hf : s.cur.col + n ≤ s.main.cols := by
        cases hb : hasB s.modes 1
        · rw [hb] at h1; exact Classical.byContradiction fun q => h1 (.inr ⟨q, rfl⟩)
        · rw [hb] at h2; exact Classical.byContradiction fun q => h2 ⟨rfl, .inr q⟩
      have hwr : hasB s.modes 1 = true → s.cur.wrap = false := fun hb => by
        cases q : s.cur.wrap
        · rfl
        · exact absurd ⟨hb, .inl q⟩ h2
      refine (write_fits s x y z b base g n0 cap r (shownS s.cur r) n w h hap hok hX (fun W => shown_any _ r W) (by rw [shown_wid]; exact hr) hn hf hwr).mono ?_
      rintro e w' ⟨rfl, hp, hb, hfr⟩
      exact ⟨rfl, x, y, hp, hb, hfr⟩
theorem comb_any (s : S) (x y z : Value) (b base : Nat) (r : Int) (w : World) (h : Pn w b base s x y z) (hap : Apart x y) (hok : Ok s) (hr : wid r = 0) :
    Calls Tryz.prog 82 #[.pointer (some ⟨b, 0, none⟩), .int .i64 r] w fun e w' => e = .returned (.tuple #[]) ∧ Pn w' b base (markS s r) x y z ∧ Frm b base w w' := by
  have hlt := h.lt
  have hup := h.up
  unfold markS
  split
  · rename_i hk
    refine (comb_none s x y z b base r w h hok hk).mono ?_
    rintro e w' ⟨rfl, rfl⟩
    exact ⟨rfl, h, Below.refl _ _, fun _ _ _ _ e => e⟩
  · rename_i hk
    obtain ⟨g, n0, cap, hX⟩ := h.shape hok
    refine (comb_at s x y z b base g n0 cap (combAt s).toNat r w h hap hok hX (by omega) hr).mono ?_
    rintro e w' ⟨rfl, hp, hon, hb⟩
    exact ⟨rfl, hp, hb.mono (Nat.le_of_lt hlt), fun q o _ hl e => (hb.block q hl).trans e⟩
theorem markS_ok {s : S} (h : Ok s) {r : Int} (hr : wid r = 0) : Ok (markS s r) := by
  unfold markS
  split
  · exact h
  · have L := h.line
    have f := h.facts
    rename_i hk
    have hlt : (combAt s).toNat < (lineS s).length := by
      have := f.col0; have := f.col1; have := L.cI; rw [L.len]; unfold combAt at *; split <;> omega
    exact withLine_ok h (combOkRow L.ok hlt hr) (by rw [combL_length, L.len])
theorem mark_keeps (s : S) (r : Int) : Keeps s (markS s r) := by
  unfold markS
  split
  · exact Keeps.refl s
  · exact line_keeps s _
theorem print_ok {s : S} (h : Ok s) {r : Int} (hr : 0 ≤ wid r) : Ok (printS s r) := by
  unfold printS
  split
  · rename_i h0; exact markS_ok h h0
  · have := wid_cases r
    exact writeS_ok h (by omega) (by omega)
theorem print_keeps {s : S} (h : Ok s) (r : Int) : Keeps s (printS s r) := by
  unfold printS
  split
  · exact mark_keeps s r
  · exact write_keeps h r _
set_option maxHeartbeats 6400000 in
theorem rune_body (s : S) (x y z : Value) (r : Int) (n : Nat) (w : World) (h : In w s x y z) (hh : Holds s) (hT : Tabs w) (hok : okB s = true) (hr : wid r = n) (hn : n = 1 ∨ n = 2) :
    Calls Tryz.prog 33 #[sv s x y z, .int .i64 r] w fun e w' => ∃ x' y' z', e = .returned (.tuple #[sv (writeS s r n) x' y' z', .int .i64 0]) ∧ Own w' w.heap.size (writeS s r n) x' y' z' ∧ Below w.heap.size w w' := by
  have HI := Lib.hid h
  have H0 := Lib.hid (Rz.start w s x y z)
  have HOK := Lib.hid ((ok_iff s).1 hok)
  have HCK : Hid (∀ W, Below w.heap.size w W → Calls Tryz.prog 74 #[sv s x y z] W fun e w' => e = .returned (.int .i64 0) ∧ Below W.heap.size W w') := Lib.hid fun W hb => by
    have k := check_any s x y z W (h.kept hb) hh (hT.kept hb)
    rw [hok] at k
    exact k
  have HLK := Lib.hid (fun W => look_body r n hr hn W)
  have HWR : Hid (∀ W b base x y z, Pn W b base s x y z → Apart x y → _) := Lib.hid fun W b base x y z k ka => write_any s x y z b base r n W k ka HOK.out hr hn
  clear h hh hT hok hr hn
  go_enter Tryz.func33, Tryz.ntmps33
  go_wp2_with (refine wp_allocS1 (w := w) rfl rfl ?_)
  refine (HLK.out _).mono ?_; rintro e w1 ⟨rfl, hb⟩
  have H1 := Lib.hid (H0.out.kept hb)
  clear hb H0 HLK
  have H2 : Hid (∀ o, Rz w s x y z (w1.alloc o)) := Lib.hid fun o => H1.out.kept (bel_alloc w1 o)
  go_wp2_with (refine wp_loadS (b := w.heap.size) (s := s) rfl rfl rfl (H2.out _).b0 ?_)
  refine (HCK.out _ (H2.out _).bel).mono ?_; rintro e w3 ⟨rfl, hb⟩
  have H3 := Lib.hid ((H2.out _).kept hb)
  clear hb H1 H2 HCK
  go_wp2_with (refine wp_loadS (b := w.heap.size) (s := s) rfl rfl rfl H3.out.b0 ?_)
  refine (copied_any s x y z _ (HI.out.kept H3.out.bel) HOK.out.lens).mono ?_; rintro e w4 ⟨x4, y4, z4, rfl, ho, hap, hb⟩
  have H4 := Lib.hid (H3.out.kept hb)
  have HO4 := Lib.hid (ho.low H3.out.up)
  have HAP := Lib.hid hap
  clear ho hb hap H3
  go_wp2_with (refine wp_storeS_then (b := w.heap.size) (A := sarr s x4 y4 z4) (T := Pb w s x4 y4 z4) rfl rfl rfl rfl rfl HO4.out.in_.one H4.out.b0 rfl (fun _ k => Pb.start H4.out HO4.out k) ?_; intro w5 H5)
  refine (HWR.out w5 w.heap.size (w.heap.size + 2) x4 y4 z4 H5.out.pn HAP.out).mono ?_; rintro e w6 ⟨rfl, x6, y6, hp, hf⟩
  have HW : Hid (Pb w (writeS s r n) x6 y6 z4 w6) := Lib.hid ⟨hp, hf.2 _ _ (by omega) (by omega) H5.out.b1, H5.out.bel.trans hf.1⟩
  clear hp hf H5 H4 HO4 HWR
  go_wp2_with (first
    | (refine wp_loadS (b := w.heap.size) (s := writeS s r n) rfl rfl rfl HW.out.pn.box ?_)
    | (refine wp_storeS (b := w.heap.size + 1) rfl rfl rfl rfl rfl HW.out.pn.own.in_.one HW.out.b1 rfl ?_; intro w9 h9))
  refine bodyPost_ret (ret2S rfl rfl h9.box rfl) rfl ?_
  exact ⟨_, _, _, rfl, Own.low (h9.own HW.out.pn.own (by omega)) (by omega), h9.below _ _ (by omega) HW.out.bel⟩
set_option maxHeartbeats 6400000 in
theorem rune_mark (s : S) (x y z : Value) (r : Int) (w : World) (h : In w s x y z) (hh : Holds s) (hT : Tabs w) (hok : okB s = true) (hr : wid r = 0) :
    Calls Tryz.prog 33 #[sv s x y z, .int .i64 r] w fun e w' => ∃ x' y' z', e = .returned (.tuple #[sv (markS s r) x' y' z', .int .i64 0]) ∧ Own w' w.heap.size (markS s r) x' y' z' ∧ Below w.heap.size w w' := by
  have HI := Lib.hid h
  have H0 := Lib.hid (Rz.start w s x y z)
  have HOK := Lib.hid ((ok_iff s).1 hok)
  have HCK : Hid (∀ W, Below w.heap.size w W → Calls Tryz.prog 74 #[sv s x y z] W fun e w' => e = .returned (.int .i64 0) ∧ Below W.heap.size W w') := Lib.hid fun W hb => by
    have k := check_any s x y z W (h.kept hb) hh (hT.kept hb)
    rw [hok] at k
    exact k
  have HLK := Lib.hid (fun W => look_mark r hr W)
  have HWR : Hid (∀ W b base x y z, Pn W b base s x y z → Apart x y → _) := Lib.hid fun W b base x y z k ka => comb_any s x y z b base r W k ka HOK.out hr
  clear h hh hT hok hr
  go_enter Tryz.func33, Tryz.ntmps33
  go_wp2_with (refine wp_allocS1 (w := w) rfl rfl ?_)
  refine (HLK.out _).mono ?_; rintro e w1 ⟨rfl, hb⟩
  have H1 := Lib.hid (H0.out.kept hb)
  clear hb H0 HLK
  have H2 : Hid (∀ o, Rz w s x y z (w1.alloc o)) := Lib.hid fun o => H1.out.kept (bel_alloc w1 o)
  go_wp2_with (refine wp_loadS (b := w.heap.size) (s := s) rfl rfl rfl (H2.out _).b0 ?_)
  refine (HCK.out _ (H2.out _).bel).mono ?_; rintro e w3 ⟨rfl, hb⟩
  have H3 := Lib.hid ((H2.out _).kept hb)
  clear hb H1 H2 HCK
  go_wp2_with (refine wp_loadS (b := w.heap.size) (s := s) rfl rfl rfl H3.out.b0 ?_)
  refine (copied_any s x y z _ (HI.out.kept H3.out.bel) HOK.out.lens).mono ?_; rintro e w4 ⟨x4, y4, z4, rfl, ho, hap, hb⟩
  have H4 := Lib.hid (H3.out.kept hb)
  have HO4 := Lib.hid (ho.low H3.out.up)
  have HAP := Lib.hid hap
  clear ho hb hap H3
  go_wp2_with (refine wp_storeS_then (b := w.heap.size) (A := sarr s x4 y4 z4) (T := Pb w s x4 y4 z4) rfl rfl rfl rfl rfl HO4.out.in_.one H4.out.b0 rfl (fun _ k => Pb.start H4.out HO4.out k) ?_; intro w5 H5)
  refine (HWR.out w5 w.heap.size (w.heap.size + 2) x4 y4 z4 H5.out.pn HAP.out).mono ?_; rintro e w6 ⟨rfl, hp, hf⟩
  have HW : Hid (Pb w (markS s r) x4 y4 z4 w6) := Lib.hid ⟨hp, hf.2 _ _ (by omega) (by omega) H5.out.b1, H5.out.bel.trans hf.1⟩
  clear hp hf H5 H4 HO4 HWR
  go_wp2_with (first
    | (refine wp_loadS (b := w.heap.size) (s := markS s r) rfl rfl rfl HW.out.pn.box ?_)
    | (refine wp_storeS (b := w.heap.size + 1) rfl rfl rfl rfl rfl HW.out.pn.own.in_.one HW.out.b1 rfl ?_; intro w9 h9))
  refine bodyPost_ret (ret2S rfl rfl h9.box rfl) rfl ?_
  exact ⟨_, _, _, rfl, Own.low (h9.own HW.out.pn.own (by omega)) (by omega), h9.below _ _ (by omega) HW.out.bel⟩
theorem rune_any (s : S) (x y z : Value) (r : Int) (w : World) (h : In w s x y z) (hh : Holds s) (hT : Tabs w) (hok : okB s = true) (hr : 0 ≤ wid r) :
    Calls Tryz.prog 33 #[sv s x y z, .int .i64 r] w fun e w' => ∃ x' y' z', e = .returned (.tuple #[sv (printS s r) x' y' z', .int .i64 0]) ∧ Own w' w.heap.size (printS s r) x' y' z' ∧ Below w.heap.size w w' := by
  unfold printS
  split
  · rename_i h0
    exact rune_mark s x y z r w h hh hT hok h0
  · have := wid_cases r
    exact rune_body s x y z r (wid r).toNat w h hh hT hok (by omega) (by omega)
theorem print_last {s : S} {r : Int} (hr : 0 < wid r) : printS s r = s ∨ (printS s r).last = r := by
  unfold printS
  rw [if_neg (by omega)]
  exact write_last r _
theorem Ok.shorts {s : S} (h : Ok s) : Shorts s := by
  have k : ∀ {G : Gr}, gridB G = true → Short G.cells := fun {G} hg => by
    obtain ⟨R, C, rs, rfl, hr, _⟩ := parts_of hg
    exact fun i hi => Nat.le_trans (hr.short i hi) (by decide)
  exact ⟨k h.m, k h.o, by have := titleB_len h.t; omega, h.lens.1, h.lens.2.1⟩
end Scr
end
section
open Go.RowKit
namespace Scr
open Go.Proofs.YtceaoadlhdgnmaaGreatDoor.Row Wid
set_option maxHeartbeats 3200000 in
theorem wakes9 (w : World) (hT : Tabs w) : Calls Tryz.prog 36 #[] w fun e w' => e = .returned (.bool true) ∧ Below w.heap.size w w' := by
  have HN := Lib.hid (refNew8 1 2 w (by decide) (by decide) (by decide) (by decide))
  have hok0 := newS_ok (r := 1) (c := 2) (by decide) (by decide) (by decide) (by decide)
  obtain ⟨f1, f2, f3, f4⟩ := one_facts
  obtain ⟨t1, t2, t3, t4, t5, t6, t7, t8⟩ := two_facts
  have hok1 := hereS_ok hok0 (r := 97) (n := 1) f3 (.inl rfl) (by decide)
  have HR1 := Lib.hid (fun x y z W (h : In W (newS 1 2) x y z) (t : Tabs W) => rune_here (newS 1 2) x y z 97 1 W h hok0.holds t ((ok_iff _).2 hok0) f1 (by rw [f2]; decide) f3 (.inl rfl) (by decide) rfl)
  have HR2 := Lib.hid (fun x y z W (h : In W (hereS (newS 1 2) 97 1) x y z) (t : Tabs W) => rune_here (hereS (newS 1 2) 97 1) x y z 98 1 W h hok1.holds t ((ok_iff _).2 hok1) t4 (by rw [t5]; decide) f4 (.inl rfl) (by rw [t1, t3]; decide) t2)
  have HL : Hid (twoS.main.cells.length = 2 ∧ (g twoS.main.cells 1).rune = 98 ∧ twoS.cur.wrap = true) := Lib.hid ⟨t6, t7, t8⟩
  clear f1 f2 f3 f4 t1 t2 t3 t4 t5 t6 t7 t8 hok0 hok1
  have e2 : hereS (hereS (newS 1 2) 97 1) 98 1 = twoS := rfl
  rw [e2] at HR2
  clear e2
  generalize twoS = S2 at HR2 HL
  generalize hereS (newS 1 2) 97 1 = S1 at HR1 HR2
  have HT := Lib.hid hT
  clear hT
  go_enter Tryz.func36, Tryz.ntmps36
  go_wp2_with fail
  refine HN.out.mono ?_; rintro e w1 ⟨x, y, z, rfl, ho, hb⟩
  generalize newS 1 2 = S0 at HR1 ho ⊢
  have H1 := Lib.hid (And.intro ho.in_ hb)
  clear ho hb HN
  go_wp2_with (first
    | (refine wp_allocS (n := w1.heap.size) rfl rfl rfl ?_)
    | (refine wp_storeS (b := w1.heap.size) rfl rfl rfl rfl rfl H1.out.1.one (heap_alloc_new _ _) rfl ?_; intro w2 h2; obtain ⟨hx2, hb2⟩ := bx_sto (e := ⟨S0, x, y, z⟩) H1.out.1 h2; have H2 := Lib.hid (And.intro hx2 (H1.out.2.trans (hb2.mono H1.out.2.size))); clear hx2 hb2 h2)
    | (refine wp_loadS (b := w1.heap.size) (s := S0) (x0 := x) (y0 := y) (z0 := z) rfl rfl rfl H2.out.1.box ?_))
  have HLW : Hid (w.heap.size ≤ w1.heap.size) := Lib.hid H1.out.2.size
  clear H1
  generalize w1.heap.size = b at H2 HLW ⊢
  refine (HR1.out x y z w2 H2.out.1.i (HT.out.kept H2.out.2)).mono ?_; rintro e w3 ⟨x1, y1, z1, rfl, ho, hb⟩
  have H3 : Hid (SBox w3 b S0 x y z ∧ Own w3 w2.heap.size S1 x1 y1 z1 ∧ Below w.heap.size w w3) := Lib.hid ⟨H2.out.1.box.kept hb, ho, H2.out.2.trans (hb.mono H2.out.2.size)⟩
  clear ho hb H2 HR1
  go_wp2_with (first
    | (refine wp_storeS_then (b := b) (A := sarr S1 x1 y1 z1) (T := fun W => SBox W b S1 x1 y1 z1 ∧ Own W 0 S1 x1 y1 z1 ∧ Below w.heap.size w W) rfl rfl rfl rfl rfl H3.out.2.1.in_.one H3.out.1 rfl (fun W k => ⟨k.box, k.own2 H3.out.1 (H3.out.2.1.low (Nat.zero_le _)), k.below _ _ HLW.out H3.out.2.2⟩) ?_; intro w4 H4)
    | (refine wp_loadS (b := b) (s := S1) (x0 := x1) (y0 := y1) (z0 := z1) rfl rfl rfl H4.out.1 ?_))
  clear H3
  refine (HR2.out x1 y1 z1 w4 H4.out.2.1.in_ (HT.out.kept H4.out.2.2)).mono ?_; rintro e w5 ⟨x2, y2, z2, rfl, ho, hb⟩
  have H5 : Hid (SBox w5 b S1 x1 y1 z1 ∧ Own w5 w4.heap.size S2 x2 y2 z2 ∧ Below w.heap.size w w5) := Lib.hid ⟨H4.out.1.kept hb, ho, H4.out.2.2.trans (hb.mono H4.out.2.2.size)⟩
  clear ho hb H4 HR2
  rcases H5.out.2.1.m.shape with ⟨_, e0⟩ | ⟨g2, cap, e0, _, _⟩
  · have := HL.out.1; rw [e0] at this; simp at this
  rw [HL.out.1] at e0
  subst e0
  go_wp2_with (refine wp_storeS_then (b := b) (A := sarr S2 (.slice (some ⟨g2, 0, none⟩) 2 cap) y2 z2) (T := fun W => SBox W b S2 (.slice (some ⟨g2, 0, none⟩) 2 cap) y2 z2 ∧ Own W 0 S2 (.slice (some ⟨g2, 0, none⟩) 2 cap) y2 z2 ∧ Below w.heap.size w W) rfl rfl rfl rfl rfl H5.out.2.1.in_.one H5.out.1 rfl (fun W k => ⟨k.box, k.own2 H5.out.1 (H5.out.2.1.low (Nat.zero_le _)), k.below _ _ HLW.out H5.out.2.2⟩) ?_; intro w6 H6)
  refine num9_then ?_
  go_wp2_with fail
  refine num9_then ?_
  have c2 : w6.cell? ⟨b, 2, none⟩ = some (.slice (some ⟨g2, 0, none⟩) 2 cap) := H6.out.1.cell 2
  have c9 : w6.cell? ⟨b, 9, none⟩ = some (.bool true) := by have k := H6.out.1.cell 9; rw [sarr_9, HL.out.2.2] at k; exact k
  have c6 : w6.cell? ⟨g2, 6, none⟩ = some (.int .i64 98) := by
    have k := H6.out.2.1.m.cell (k := 1) (j := 0) (by rw [HL.out.1]; decide) (by decide)
    rw [← HL.out.2.1]
    exact k
  have HB6 := Lib.hid H6.out.2.2
  clear H5 H6
  go_wp2_with fail
  go_ret
  exact ⟨rfl, HB6.out⟩
end Scr
end
end Go.Proofs.YtceaoadlhdgnmaaGreatDoor
