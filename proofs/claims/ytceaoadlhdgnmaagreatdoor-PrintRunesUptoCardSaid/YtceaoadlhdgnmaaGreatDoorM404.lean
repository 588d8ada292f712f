/- Joined texts: PrnComb. -/
import Derived.Test.YtceaoadlhdgnmaaGreatDoorM401
import Derived.Test.YtceaoadlhdgnmaaGreatDoorM402
namespace Go.Proofs.YtceaoadlhdgnmaaGreatDoor
set_option maxRecDepth 100000
section
open Go.RowKit
namespace Scr
open Go.Proofs.YtceaoadlhdgnmaaGreatDoor.Row Wid
def combAt (s : S) : Int := if s.cur.wrap then s.cur.col else s.cur.col - 1
set_option maxHeartbeats 3200000 in
theorem comb_none (s : S) (x y z : Value) (b base : Nat) (r : Int) (w : World) (h : Pn w b base s x y z) (hok : Ok s) (hk : combAt s < 0) :
    Calls Tryz.prog 82 #[.pointer (some ⟨b, 0, none⟩), .int .i64 r] w fun e w' => e = .returned (.tuple #[]) ∧ w = w' := by
  have F := hok.facts
  have h0 := F.col0
  have c8 : w.cell? ⟨b, 8, none⟩ = some (.int .i64 s.cur.col) := h.box.cell 8
  have c9 : w.cell? ⟨b, 9, none⟩ = some (.bool s.cur.wrap) := h.box.cell 9
  unfold combAt at hk
  cases hw : s.cur.wrap
  · rw [hw] at hk c9
    have hc : s.cur.col = 0 := by simp at hk; omega
    rw [hc] at c8
    clear h hok hk F h0 hw hc
    go_enter Tryz.func82, Tryz.ntmps82
    go_wp2_with fail
    go_returns
    exact ⟨rfl, rfl⟩
  · exfalso
    rw [hw, if_pos rfl] at hk
    omega
set_option maxHeartbeats 3200000 in
theorem comb_at (s : S) (x y z : Value) (b base g n0 cap k : Nat) (r : Int) (w : World) (h : Pn w b base s x y z) (hap : Apart x y) (hok : Ok s) (hX : seenX s x y = .slice (some ⟨g, 0, none⟩) n0 cap) (hk : combAt s = (k : Int)) (hr : wid r = 0) :
    Calls Tryz.prog 82 #[.pointer (some ⟨b, 0, none⟩), .int .i64 r] w fun e w' => e = .returned (.tuple #[]) ∧ Pn w' b base (withLine s (combL (lineS s) k r)) x y z ∧ Only g w w' ∧ Below base w w' := by
  have F := hok.facts
  have L := Lib.hid hok.line
  have HAP := Lib.hid hap
  have HXX := Lib.hid hX
  have HUP := Lib.hid h.up
  have H0 := Lib.hid h
  have HLN := Lib.hid (fun W (q : Pn W b base s x y z) => line_at s x y z b base g n0 cap W hX q hok)
  have h0 := F.col0
  have h1 := F.col1
  have h40 := F.c40
  have hkl : k < (lineS s).length := by
    rw [L.out.len]
    have := L.out.cI
    unfold combAt at hk
    split at hk <;> omega
  obtain ⟨r0, r1, _⟩ := mark_rune hr
  have HCB := Lib.hid (fun c' W (q : Pn W b base s x y z) => comb_fits (lineS s) k r (.slice (some ⟨g, lineAt s * 6, none⟩) (seenG s).cols.toNat c') W (q.line HXX.out L.out c') L.out.held L.out.ok hkl hr (by omega) (by omega))
  have HML : Hid ((combL (lineS s) k r).length = (seenG s).cols.toNat) := Lib.hid (by rw [combL_length, L.out.len])
  generalize combL (lineS s) k r = m at HCB HML ⊢
  have c8 : w.cell? ⟨b, 8, none⟩ = some (.int .i64 s.cur.col) := h.box.cell 8
  have c9 : w.cell? ⟨b, 9, none⟩ = some (.bool s.cur.wrap) := h.box.cell 9
  have hk0 : ¬ ((k : Int) < 0) := by omega
  unfold combAt at hk
  obtain ⟨a, hwr⟩ : ∃ a, IntKind.i64.wrap (s.cur.col - 1) = a := ⟨_, rfl⟩
  have hwk : s.cur.wrap = false → a = (k : Int) := fun e => by
    rw [e] at hk
    rw [← hwr, IntKind.wrap_i64]
    simp at hk
    omega
  have hck : s.cur.wrap = true → s.cur.col = (k : Int) := fun e => by
    rw [e] at hk
    simpa using hk
  generalize s.cur.col = cc at c8 hwr hck
  cases hw : s.cur.wrap
  · have e := hwk hw
    subst e
    rw [hw] at c9
    clear h hap hok hX hk hr hkl F h0 h1 h40 hwk hck hw
    go_enter Tryz.func82, Tryz.ntmps82
    go_wp2_with fail
    refine (HLN.out _ H0.out).mono ?_; rintro e w2 ⟨c', rfl, hb⟩
    have H2 := Lib.hid (H0.out.kept hb)
    have HB2 := Lib.hid hb
    clear hb
    go_wp2_with fail
    refine (HCB.out _ _ H2.out).mono ?_; rintro e w4 ⟨v, rfl, ho, hb⟩
    have HO4 := Lib.hid ho
    have H4 := Lib.hid (H2.out.kept hb)
    have HA4 := Lib.hid (HB2.out.trans (hb.mono HB2.out.size))
    clear hb ho
    go_wp2_with fail
    refine (HLN.out w4 H4.out).mono ?_; rintro e w5 ⟨c2, rfl, hb⟩
    have H5 := Lib.hid (H4.out.kept hb)
    have HO5 := Lib.hid (HO4.out.kept hb)
    have HA5 := Lib.hid (HA4.out.trans (hb.mono HA4.out.size))
    clear hb H2 H4 HO4 HA4 HB2
    have hC1 := L.out.c1
    rcases HO5.out.shape with ⟨_, e0⟩ | ⟨g2, cap2, e0, _, _⟩
    · have := HML.out; rw [e0] at this; simp at this; omega
    rw [HML.out] at e0
    subst e0
    have HSR := Lib.hid (HO5.out.cs.flat.2)
    obtain ⟨w6, hrun, ho6, hon6, hb6⟩ := run_copy_into (ty := 3) (k := lineAt s) (dCap := c2) (sCap := cap2) (H5.out.cells HXX.out) HML.out L.out.fit HSR.out
    have H6 := Lib.hid (H5.out.over HAP.out HXX.out ho6 hon6 hon6.1)
    have HN6 := Lib.hid (Only.trans ⟨HA5.out.size, fun g o _ e => Blk.kept e HA5.out⟩ hon6)
    have HB6 := Lib.hid (hb6 base w (HA5.out.mono HUP.out) ((H5.out.cells HXX.out).lt g rfl).1)
    clear ho6 hon6 hb6 H5 HO5 HA5 HSR HML HLN
    go_wp2_with fail
    go_end0
    exact ⟨rfl, H6.out, HN6.out, HB6.out⟩
  · have e := hck hw
    subst e
    rw [hw] at c9
    clear h hap hok hX hk hr hkl F h0 h1 h40 hwk hck hw
    go_enter Tryz.func82, Tryz.ntmps82
    go_wp2_with fail
    refine (HLN.out _ H0.out).mono ?_; rintro e w2 ⟨c', rfl, hb⟩
    have H2 := Lib.hid (H0.out.kept hb)
    have HB2 := Lib.hid hb
    clear hb
    go_wp2_with fail
    refine (HCB.out _ _ H2.out).mono ?_; rintro e w4 ⟨v, rfl, ho, hb⟩
    have HO4 := Lib.hid ho
    have H4 := Lib.hid (H2.out.kept hb)
    have HA4 := Lib.hid (HB2.out.trans (hb.mono HB2.out.size))
    clear hb ho
    go_wp2_with fail
    refine (HLN.out w4 H4.out).mono ?_; rintro e w5 ⟨c2, rfl, hb⟩
    have H5 := Lib.hid (H4.out.kept hb)
    have HO5 := Lib.hid (HO4.out.kept hb)
    have HA5 := Lib.hid (HA4.out.trans (hb.mono HA4.out.size))
    clear hb H2 H4 HO4 HA4 HB2
    have hC1 := L.out.c1
    rcases HO5.out.shape with ⟨_, e0⟩ | ⟨g2, cap2, e0, _, _⟩
    · have := HML.out; rw [e0] at this; simp at this; omega
    rw [HML.out] at e0
    subst e0
    have HSR := Lib.hid (HO5.out.cs.flat.2)
    obtain ⟨w6, hrun, ho6, hon6, hb6⟩ := run_copy_into (ty := 3) (k := lineAt s) (dCap := c2) (sCap := cap2) (H5.out.cells HXX.out) HML.out L.out.fit HSR.out
    have H6 := Lib.hid (H5.out.over HAP.out HXX.out ho6 hon6 hon6.1)
    have HN6 := Lib.hid (Only.trans ⟨HA5.out.size, fun g o _ e => Blk.kept e HA5.out⟩ hon6)
    have HB6 := Lib.hid (hb6 base w (HA5.out.mono HUP.out) ((H5.out.cells HXX.out).lt g rfl).1)
    clear ho6 hon6 hb6 H5 HO5 HA5 HSR HML HLN
    go_wp2_with fail
    go_end0
    exact ⟨rfl, H6.out, HN6.out, HB6.out⟩
end Scr
end
end Go.Proofs.YtceaoadlhdgnmaaGreatDoor
