/- The developers' machine: step, and a byte that comes in any state. -/
import Derived.Test.YtjodbmfjdpbbnaaDoorVdByte
import Derived.Test.YtjodbmfjdpbbnaaDoorVtFeedRef
import Derived.Test.YtjodbmfjdpbbnaaDoorVtState
namespace Go.Proofs.YtjodbmfjdpbbnaaDoor
set_option maxRecDepth 100000
open Go.RowKit
namespace Vd
open Vt

set_option maxHeartbeats 800000 in
theorem step_0 (base b : Nat) (m : Mc) (c : UInt8) (w : World) (h : Md w base b m) (hl : m.l.length ≤ 600000000) (hbase : 2 ≤ base ∧ base ≤ w.heap.size) (hk : Ok m.p) (ht : Utf.Tabs w) (hs : m.p.state = 0) :
    Calls Tryd.prog 40 #[.pointer (some ⟨b, 0, none⟩), .int .u8 c.toNat] w (RunsD base b w (m.low c)) := by
  have hc := Utf.byte_lt c
  have H := Lib.hid h
  have HK := Lib.hid hk
  have HT := Lib.hid ht
  have hfit := hk.fit
  have HE : Hid (m.low c = m.ground c) := Lib.hid (by unfold Mc.low; rw [if_pos hs])
  obtain ⟨pv, lv, pvs, hm, ha⟩ := h
  obtain ⟨r0, r1, r2, r3, r4, r5⟩ := hm.reads
  have r0' := r0
  rw [hs] at r0
  clear hm ha r0' hk
  go_enter Tryd.func40, Tryd.ntmps40
  go_wp2_with fail
  refine (inGround_any base b m c _ H.out (by omega) hbase hfit HT.out).mono ?_
  rintro e w1 ⟨rfl, hm1, hb1⟩
  have HM1 := Lib.hid hm1
  clear hm1
  go_wp2_with fail
  go_end0
  rw [HE.out]
  exact ⟨rfl, HM1.out, hb1⟩

set_option maxHeartbeats 800000 in
theorem step_1 (base b : Nat) (m : Mc) (c : UInt8) (w : World) (h : Md w base b m) (hl : m.l.length ≤ 600000000) (hbase : 2 ≤ base ∧ base ≤ w.heap.size) (hk : Ok m.p) (hs : m.p.state = 1) :
    Calls Tryd.prog 40 #[.pointer (some ⟨b, 0, none⟩), .int .u8 c.toNat] w (RunsD base b w (m.low c)) := by
  have hc := Utf.byte_lt c
  have H := Lib.hid h
  have HK := Lib.hid hk
  have HE : Hid (m.low c = m.escape c) := Lib.hid (by unfold Mc.low; rw [if_neg (by omega), if_pos (.inl hs)])
  obtain ⟨pv, lv, pvs, hm, ha⟩ := h
  obtain ⟨r0, r1, r2, r3, r4, r5⟩ := hm.reads
  have r0' := r0
  rw [hs] at r0
  clear hm ha r0' hk
  go_enter Tryd.func40, Tryd.ntmps40
  go_wp2_with fail
  refine (inEscape_any base b m c _ H.out (by omega) hbase.2 HK.out hs).mono ?_
  rintro e w1 ⟨rfl, hm1, hb1⟩
  have HM1 := Lib.hid hm1
  clear hm1
  go_wp2_with fail
  go_end0
  rw [HE.out]
  exact ⟨rfl, HM1.out, hb1⟩

set_option maxHeartbeats 800000 in
theorem step_2 (base b : Nat) (m : Mc) (c : UInt8) (w : World) (h : Md w base b m) (hl : m.l.length ≤ 600000000) (hbase : 2 ≤ base ∧ base ≤ w.heap.size) (hk : Ok m.p) (hs : m.p.state = 2) :
    Calls Tryd.prog 40 #[.pointer (some ⟨b, 0, none⟩), .int .u8 c.toNat] w (RunsD base b w (m.low c)) := by
  have hc := Utf.byte_lt c
  have H := Lib.hid h
  have HK := Lib.hid hk
  have HE : Hid (m.low c = m.escape c) := Lib.hid (by unfold Mc.low; rw [if_neg (by omega), if_pos (.inr hs)])
  obtain ⟨pv, lv, pvs, hm, ha⟩ := h
  obtain ⟨r0, r1, r2, r3, r4, r5⟩ := hm.reads
  have r0' := r0
  rw [hs] at r0
  clear hm ha r0' hk
  go_enter Tryd.func40, Tryd.ntmps40
  go_wp2_with fail
  refine (inInter_any base b m c _ H.out (by omega) hbase.2 HK.out hs).mono ?_
  rintro e w1 ⟨rfl, hm1, hb1⟩
  have HM1 := Lib.hid hm1
  clear hm1
  go_wp2_with fail
  go_end0
  rw [HE.out]
  exact ⟨rfl, HM1.out, hb1⟩

set_option maxHeartbeats 800000 in
theorem step_3 (base b : Nat) (m : Mc) (c : UInt8) (w : World) (h : Md w base b m) (hl : m.l.length ≤ 600000000) (hbase : 2 ≤ base ∧ base ≤ w.heap.size) (hk : Ok m.p) (hs : m.p.state = 3) :
    Calls Tryd.prog 40 #[.pointer (some ⟨b, 0, none⟩), .int .u8 c.toNat] w (RunsD base b w (m.low c)) := by
  have hc := Utf.byte_lt c
  have H := Lib.hid h
  have HK := Lib.hid hk
  have HE : Hid (m.low c = m.csi c) := Lib.hid (by unfold Mc.low; rw [if_neg (by omega), if_neg (by omega), if_pos hs])
  obtain ⟨pv, lv, pvs, hm, ha⟩ := h
  obtain ⟨r0, r1, r2, r3, r4, r5⟩ := hm.reads
  have r0' := r0
  rw [hs] at r0
  clear hm ha r0' hk
  go_enter Tryd.func40, Tryd.ntmps40
  go_wp2_with fail
  refine (inCsi_any base b m c _ H.out (by omega) hbase.2 HK.out).mono ?_
  rintro e w1 ⟨rfl, hm1, hb1⟩
  have HM1 := Lib.hid hm1
  clear hm1
  go_wp2_with fail
  go_end0
  rw [HE.out]
  exact ⟨rfl, HM1.out, hb1⟩

set_option maxHeartbeats 800000 in
theorem step_4 (base b : Nat) (m : Mc) (c : UInt8) (w : World) (h : Md w base b m) (hl : m.l.length ≤ 600000000) (hbase : 2 ≤ base ∧ base ≤ w.heap.size) (hk : Ok m.p) (hs : m.p.state = 4) :
    Calls Tryd.prog 40 #[.pointer (some ⟨b, 0, none⟩), .int .u8 c.toNat] w (RunsD base b w (m.low c)) := by
  have hc := Utf.byte_lt c
  have H := Lib.hid h
  have HK := Lib.hid hk
  obtain ⟨pv, lv, pvs, hm, ha⟩ := h
  obtain ⟨r0, r1, r2, r3, r4, r5⟩ := hm.reads
  have r0' := r0
  rw [hs] at r0
  clear hm ha r0' hk
  go_enter Tryd.func40, Tryd.ntmps40
  go_wp2_with fail
  refine (inSkip_any base b m c _ H.out (by omega) hbase.2 HK.out hs).mono ?_
  rintro e w1 ⟨rfl, hm1, hb1⟩
  have HM1 := Lib.hid hm1
  clear hm1
  go_wp2_with fail
  go_end0
  exact ⟨rfl, HM1.out, hb1⟩

set_option maxHeartbeats 800000 in
theorem step_5 (base b : Nat) (m : Mc) (c : UInt8) (w : World) (h : Md w base b m) (hl : m.l.length ≤ 600000000) (hbase : 2 ≤ base ∧ base ≤ w.heap.size) (hk : Ok m.p) (hs : m.p.state = 5) :
    Calls Tryd.prog 40 #[.pointer (some ⟨b, 0, none⟩), .int .u8 c.toNat] w (RunsD base b w (m.low c)) := by
  have hc := Utf.byte_lt c
  have H := Lib.hid h
  have HK := Lib.hid hk
  obtain ⟨pv, lv, pvs, hm, ha⟩ := h
  obtain ⟨r0, r1, r2, r3, r4, r5⟩ := hm.reads
  have r0' := r0
  rw [hs] at r0
  clear hm ha r0' hk
  go_enter Tryd.func40, Tryd.ntmps40
  go_wp2_with fail
  refine (inOsc_any base b m c _ H.out (by omega) hbase.2 HK.out hs).mono ?_
  rintro e w1 ⟨rfl, hm1, hb1⟩
  have HM1 := Lib.hid hm1
  clear hm1
  go_wp2_with fail
  go_end0
  exact ⟨rfl, HM1.out, hb1⟩

set_option maxHeartbeats 800000 in
theorem step_6 (base b : Nat) (m : Mc) (c : UInt8) (w : World) (h : Md w base b m) (hl : m.l.length ≤ 600000000) (hbase : 2 ≤ base ∧ base ≤ w.heap.size) (hk : Ok m.p) (hs : m.p.state = 6) :
    Calls Tryd.prog 40 #[.pointer (some ⟨b, 0, none⟩), .int .u8 c.toNat] w (RunsD base b w (m.low c)) := by
  have hc := Utf.byte_lt c
  have H := Lib.hid h
  have HK := Lib.hid hk
  obtain ⟨pv, lv, pvs, hm, ha⟩ := h
  obtain ⟨r0, r1, r2, r3, r4, r5⟩ := hm.reads
  have r0' := r0
  rw [hs] at r0
  clear hm ha r0' hk
  go_enter Tryd.func40, Tryd.ntmps40
  go_wp2_with fail
  refine (inString_any base b m c _ H.out (by omega) hbase.2 HK.out hs).mono ?_
  rintro e w1 ⟨rfl, hm1, hb1⟩
  have HM1 := Lib.hid hm1
  clear hm1
  go_wp2_with fail
  go_end0
  exact ⟨rfl, HM1.out, hb1⟩

theorem step_low (base b : Nat) (m : Mc) (c : UInt8) (w : World) (h : Md w base b m) (hl : m.l.length ≤ 600000000) (hbase : 2 ≤ base ∧ base ≤ w.heap.size) (hk : Ok m.p) (ht : Utf.Tabs w) (hs : m.p.state ≤ 6) :
    Calls Tryd.prog 40 #[.pointer (some ⟨b, 0, none⟩), .int .u8 c.toNat] w (RunsD base b w (m.low c)) := by
  have h0 := hk.s0
  have : m.p.state = 0 ∨ m.p.state = 1 ∨ m.p.state = 2 ∨ m.p.state = 3 ∨ m.p.state = 4 ∨ m.p.state = 5 ∨ m.p.state = 6 := by omega
  rcases this with e | e | e | e | e | e | e
  · exact step_0 base b m c w h hl hbase hk ht e
  · exact step_1 base b m c w h hl hbase hk e
  · exact step_2 base b m c w h hl hbase hk e
  · exact step_3 base b m c w h hl hbase hk e
  · exact step_4 base b m c w h hl hbase hk e
  · exact step_5 base b m c w h hl hbase hk e
  · exact step_6 base b m c w h hl hbase hk e

/-- A byte that every state takes alike. -/
def common (m : Mc) (c : UInt8) : Bool := decide (c.toNat = 24 ∨ c.toNat = 26 ∨ (c.toNat = 27 ∧ ¬ (m.p.state = 5 ∨ m.p.state = 6)))
set_option maxHeartbeats 1600000 in
theorem comes_common (base b : Nat) (m : Mc) (c : UInt8) (w : World) (h : Md w base b m) (hl : m.l.length ≤ 600000000) (hbase : 2 ≤ base ∧ base ≤ w.heap.size) (hfit : Utf.fits m.p.part = true) (ht : Utf.Tabs w) (hcm : common m c = true) :
    Calls Tryd.prog 28 #[.pointer (some ⟨b, 0, none⟩), .int .u8 c.toNat] w (RunsD base b w (m.byte c)) := by
  have hc := Utf.byte_lt c
  have hcm := of_decide_eq_true hcm
  have hfl := flush_len2 m
  have H := Lib.hid h
  have HT := Lib.hid ht
  have HFit := Lib.hid hfit
  obtain ⟨pv, lv, pvs, hm, ha⟩ := h
  obtain ⟨r0, r1, r2, r3, r4, r5⟩ := hm.reads
  clear hm ha hfit ht
  by_cases h27 : c.toNat = 27
  · have hns : ¬ (m.p.state = 5 ∨ m.p.state = 6) := by
      rcases hcm with h | h | h
      · omega
      · omega
      · exact h.2
    have HE : Hid (m.byte c = m.flush.to 1) := Lib.hid (by unfold Mc.byte; rw [if_neg (by omega), if_pos ⟨h27, hns⟩])
    have e1 := u8_ne (c := c) (n := 24) (by omega)
    have e2 := u8_ne (c := c) (n := 26) (by omega)
    have e3 := u8_eq (c := c) (n := 27) (by omega)
    have e4 : (m.p.state != 5) = true := bne_yes (fun h => hns (.inl h))
    have e5 : (m.p.state != 6) = true := bne_yes (fun h => hns (.inr h))
    clear hcm h27 hns
    go_enter Tryd.func28, Tryd.ntmps28
    go_wp2_with fail
    refine (flush_any base b m _ H.out (by omega) hbase.2 HFit.out HT.out).mono ?_
    rintro e w1 ⟨rfl, hm1, hb1⟩
    have HM1 := Lib.hid hm1
    clear hm1
    go_wp2_with fail
    refine (enter_any 1 rfl base b m.flush _ HM1.out).mono ?_
    rintro e w2 ⟨rfl, hm2, hb2⟩
    have HM2 := Lib.hid hm2
    clear hm2
    go_wp2_with fail
    go_end0
    rw [HE.out]
    exact ⟨rfl, HM2.out, hb1.trans hb2⟩
  · have hcs : c.toNat = 24 ∨ c.toNat = 26 := by
      rcases hcm with h | h | h
      · exact .inl h
      · exact .inr h
      · exact absurd h.1 h27
    have HE : Hid (m.byte c = (m.flush.control c).to 0) := Lib.hid (by unfold Mc.byte; rw [if_pos hcs])
    clear hcm h27
    rcases hcs with hcs | hcs
    · have e1 := u8_eq (c := c) (n := 24) (by omega)
      clear hcs
      go_enter Tryd.func28, Tryd.ntmps28
      go_wp2_with fail
      refine (flush_any base b m _ H.out (by omega) hbase.2 HFit.out HT.out).mono ?_
      rintro e w1 ⟨rfl, hm1, hb1⟩
      have HM1 := Lib.hid hm1
      have z1 := hb1.size
      clear hm1
      go_wp2_with fail
      refine (control_any base b m.flush c _ HM1.out (by omega) (by omega)).mono ?_
      rintro e w2 ⟨rfl, hm2, hb2⟩
      have HM2 := Lib.hid hm2
      clear hm2
      go_wp2_with fail
      refine (enter_any 0 rfl base b (m.flush.control c) _ HM2.out).mono ?_
      rintro e w3 ⟨rfl, hm3, hb3⟩
      have HM3 := Lib.hid hm3
      clear hm3
      go_wp2_with fail
      go_end0
      rw [HE.out]
      exact ⟨rfl, HM3.out, (hb1.trans hb2).trans hb3⟩
    · have e1 := u8_ne (c := c) (n := 24) (by omega)
      have e2 := u8_eq (c := c) (n := 26) (by omega)
      clear hcs
      go_enter Tryd.func28, Tryd.ntmps28
      go_wp2_with fail
      refine (flush_any base b m _ H.out (by omega) hbase.2 HFit.out HT.out).mono ?_
      rintro e w1 ⟨rfl, hm1, hb1⟩
      have HM1 := Lib.hid hm1
      have z1 := hb1.size
      clear hm1
      go_wp2_with fail
      refine (control_any base b m.flush c _ HM1.out (by omega) (by omega)).mono ?_
      rintro e w2 ⟨rfl, hm2, hb2⟩
      have HM2 := Lib.hid hm2
      clear hm2
      go_wp2_with fail
      refine (enter_any 0 rfl base b (m.flush.control c) _ HM2.out).mono ?_
      rintro e w3 ⟨rfl, hm3, hb3⟩
      have HM3 := Lib.hid hm3
      clear hm3
      go_wp2_with fail
      go_end0
      rw [HE.out]
      exact ⟨rfl, HM3.out, (hb1.trans hb2).trans hb3⟩
theorem common_no {m : Mc} {c : UInt8} (h : common m c = false) : c.toNat ≠ 24 ∧ c.toNat ≠ 26 ∧ ¬ (c.toNat = 27 ∧ ¬ (m.p.state = 5 ∨ m.p.state = 6)) := by
  have h := of_decide_eq_false h
  exact ⟨fun e => h (.inl e), fun e => h (.inr (.inl e)), fun e => h (.inr (.inr e))⟩
/-- Else the byte goes to step. -/
theorem comes_step (base b : Nat) (m m2 : Mc) (c : UInt8) (w : World) (h : Md w base b m) (hcm : common m c = false)
    (hstep : ∀ w1, w1 = w → Calls Tryd.prog 40 #[.pointer (some ⟨b, 0, none⟩), .int .u8 c.toNat] w1 (RunsD base b w m2)) :
    Calls Tryd.prog 28 #[.pointer (some ⟨b, 0, none⟩), .int .u8 c.toNat] w (RunsD base b w m2) := by
  have hc := Utf.byte_lt c
  obtain ⟨h24, h26, h27⟩ := common_no hcm
  have HS := Lib.hid hstep
  obtain ⟨pv, lv, pvs, hm, ha⟩ := h
  obtain ⟨r0, r1, r2, r3, r4, r5⟩ := hm.reads
  have e1 := u8_ne (c := c) (n := 24) (by omega)
  have e2 := u8_ne (c := c) (n := 26) (by omega)
  clear hm ha hcm hstep h24 h26
  by_cases hb27 : c.toNat = 27
  · have e3 := u8_eq (c := c) (n := 27) (by omega)
    by_cases h5 : m.p.state = 5
    · have e4 : (m.p.state != 5) = false := bne_no h5
      clear h27 h5 hb27
      go_enter Tryd.func28, Tryd.ntmps28
      go_wp2_with fail
      refine (HS.out _ rfl).mono ?_
      rintro e w1 ⟨rfl, hm1, hb1⟩
      have HM1 := Lib.hid hm1
      clear hm1
      go_wp2_with fail
      go_end0
      exact ⟨rfl, HM1.out, hb1⟩
    · have e4 : (m.p.state != 5) = true := bne_yes h5
      have h6 : m.p.state = 6 := Classical.byContradiction fun h => h27 ⟨hb27, fun h' => h'.elim h5 h⟩
      have e5 : (m.p.state != 6) = false := bne_no h6
      clear h27 h5 hb27 h6
      go_enter Tryd.func28, Tryd.ntmps28
      go_wp2_with fail
      refine (HS.out _ rfl).mono ?_
      rintro e w1 ⟨rfl, hm1, hb1⟩
      have HM1 := Lib.hid hm1
      clear hm1
      go_wp2_with fail
      go_end0
      exact ⟨rfl, HM1.out, hb1⟩
  · have e3 := u8_ne (c := c) (n := 27) (by omega)
    clear h27 hb27
    go_enter Tryd.func28, Tryd.ntmps28
    go_wp2_with fail
    refine (HS.out _ rfl).mono ?_
    rintro e w1 ⟨rfl, hm1, hb1⟩
    have HM1 := Lib.hid hm1
    clear hm1
    go_wp2_with fail
    go_end0
    exact ⟨rfl, HM1.out, hb1⟩
theorem comes_low (base b : Nat) (m : Mc) (c : UInt8) (w : World) (h : Md w base b m) (hl : m.l.length ≤ 600000000) (hbase : 2 ≤ base ∧ base ≤ w.heap.size) (hk : Ok m.p) (ht : Utf.Tabs w) (hs : m.p.state ≤ 6) :
    Calls Tryd.prog 28 #[.pointer (some ⟨b, 0, none⟩), .int .u8 c.toNat] w (RunsD base b w (m.byte c)) := by
  cases hcm : common m c with
  | true => exact comes_common base b m c w h hl hbase hk.fit ht hcm
  | false =>
    obtain ⟨h24, h26, h27⟩ := common_no hcm
    have he : m.byte c = m.low c := by unfold Mc.byte; rw [if_neg (fun h => h.elim h24 h26), if_neg h27, if_pos hs]
    refine comes_step base b m _ c w h hcm fun w1 hw => ?_
    subst hw
    rw [he]
    exact step_low base b m c w1 h hl hbase hk ht hs

set_option maxHeartbeats 800000 in
theorem inOscEscape_any (base b : Nat) (m : Mc) (c : UInt8) (w : World) (h : Md w base b m) (hl : m.l.length ≤ 600000000) (hbase : 2 ≤ base ∧ base ≤ w.heap.size) (ht : Utf.Tabs w) (hs : m.p.state = 7) (hcm : common m c = false) :
    Calls Tryd.prog 59 #[.pointer (some ⟨b, 0, none⟩), .int .u8 c.toNat] w (RunsD base b w (m.byte c)) := by
  have hc := Utf.byte_lt c
  have H := Lib.hid h
  have HT := Lib.hid ht
  obtain ⟨h24, h26, h27⟩ := common_no hcm
  obtain ⟨pv, lv, pvs, hm, ha⟩ := h
  obtain ⟨r0, r1, r2, r3, r4, r5⟩ := hm.reads
  clear hm ha ht hcm
  by_cases h92 : c.toNat = 92
  · have HE : Hid (m.byte c = (m.tell ⟨5, 0, [], [], m.p.text⟩).to 0) := Lib.hid (by unfold Mc.byte; rw [if_neg (by omega), if_neg (by omega), if_neg (by omega), if_pos h92, if_pos hs])
    have e1 := u8_eq (c := c) (n := 92) (by omega)
    clear h24 h26 h27 h92 hs
    go_enter Tryd.func59, Tryd.ntmps59
    go_wp2_with fail
    refine (end_any base b m ⟨5, 0, [], [], m.p.text⟩ _ rfl (.osc _) rfl _ H.out (by omega) hbase.2).mono ?_
    rintro e w1 ⟨rfl, hm1, hb1⟩
    have HM1 := Lib.hid hm1
    clear hm1
    go_wp2_with fail
    go_end0
    rw [HE.out]
    exact ⟨rfl, HM1.out, hb1⟩
  · have HE : Hid (m.byte c = (m.to 1).byte c) := Lib.hid (by
      have h27' : c.toNat ≠ 27 := fun e => h27 ⟨e, by omega⟩
      have h1 : m.byte c = (m.to 1).escape c := by unfold Mc.byte; rw [if_neg (by omega), if_neg (by omega), if_neg (by omega), if_neg h92]
      have h2 : (m.to 1).byte c = (m.to 1).escape c := by
        unfold Mc.byte
        rw [if_neg (by omega), if_neg (by omega), if_pos (by simp [Mc.to, none_])]
        unfold Mc.low
        rw [if_neg (by simp [Mc.to, none_]), if_pos (.inl (by simp [Mc.to, none_]))]
      rw [h1, h2])
    have e1 := u8_ne (c := c) (n := 92) (by omega)
    clear h24 h26 h27 h92 hs
    go_enter Tryd.func59, Tryd.ntmps59
    go_wp2_with fail
    refine (enter_any 1 rfl base b m _ H.out).mono ?_
    rintro e w1 ⟨rfl, hm1, hb1⟩
    have HM1 := Lib.hid hm1
    have z1 := hb1.size
    clear hm1
    go_wp2_with fail
    refine (comes_low base b (m.to 1) c _ HM1.out hl (by omega) (ok_none (by decide) (by decide) (by decide)) (HT.out.low hb1 hbase.1) (by simp [Mc.to, none_])).mono ?_
    rintro e w2 ⟨rfl, hm2, hb2⟩
    have HM2 := Lib.hid hm2
    clear hm2
    go_wp2_with fail
    go_end0
    rw [HE.out]
    exact ⟨rfl, HM2.out, hb1.trans hb2⟩
set_option maxHeartbeats 800000 in
theorem inStringEscape_any (base b : Nat) (m : Mc) (c : UInt8) (w : World) (h : Md w base b m) (hl : m.l.length ≤ 600000000) (hbase : 2 ≤ base ∧ base ≤ w.heap.size) (ht : Utf.Tabs w) (hs : m.p.state = 8) (hcm : common m c = false) :
    Calls Tryd.prog 61 #[.pointer (some ⟨b, 0, none⟩), .int .u8 c.toNat] w (RunsD base b w (m.byte c)) := by
  have hc := Utf.byte_lt c
  have H := Lib.hid h
  have HT := Lib.hid ht
  obtain ⟨h24, h26, h27⟩ := common_no hcm
  clear h ht hcm
  by_cases h92 : c.toNat = 92
  · have HE : Hid (m.byte c = m.to 0) := Lib.hid (by unfold Mc.byte; rw [if_neg (by omega), if_neg (by omega), if_neg (by omega), if_pos h92, if_neg (by omega)])
    have e1 := u8_eq (c := c) (n := 92) (by omega)
    clear h24 h26 h27 h92 hs
    go_enter Tryd.func61, Tryd.ntmps61
    go_wp2_with fail
    refine (enter_any 0 rfl base b m _ H.out).mono ?_
    rintro e w1 ⟨rfl, hm1, hb1⟩
    have HM1 := Lib.hid hm1
    clear hm1
    go_wp2_with fail
    go_end0
    rw [HE.out]
    exact ⟨rfl, HM1.out, hb1⟩
  · have HE : Hid (m.byte c = (m.to 1).byte c) := Lib.hid (by
      have h27' : c.toNat ≠ 27 := fun e => h27 ⟨e, by omega⟩
      have h1 : m.byte c = (m.to 1).escape c := by unfold Mc.byte; rw [if_neg (by omega), if_neg (by omega), if_neg (by omega), if_neg h92]
      have h2 : (m.to 1).byte c = (m.to 1).escape c := by
        unfold Mc.byte
        rw [if_neg (by omega), if_neg (by omega), if_pos (by simp [Mc.to, none_])]
        unfold Mc.low
        rw [if_neg (by simp [Mc.to, none_]), if_pos (.inl (by simp [Mc.to, none_]))]
      rw [h1, h2])
    have e1 := u8_ne (c := c) (n := 92) (by omega)
    clear h24 h26 h27 h92 hs
    go_enter Tryd.func61, Tryd.ntmps61
    go_wp2_with fail
    refine (enter_any 1 rfl base b m _ H.out).mono ?_
    rintro e w1 ⟨rfl, hm1, hb1⟩
    have HM1 := Lib.hid hm1
    have z1 := hb1.size
    clear hm1
    go_wp2_with fail
    refine (comes_low base b (m.to 1) c _ HM1.out hl (by omega) (ok_none (by decide) (by decide) (by decide)) (HT.out.low hb1 hbase.1) (by simp [Mc.to, none_])).mono ?_
    rintro e w2 ⟨rfl, hm2, hb2⟩
    have HM2 := Lib.hid hm2
    clear hm2
    go_wp2_with fail
    go_end0
    rw [HE.out]
    exact ⟨rfl, HM2.out, hb1.trans hb2⟩

set_option maxHeartbeats 800000 in
theorem step_7 (base b : Nat) (m : Mc) (c : UInt8) (w : World) (h : Md w base b m) (hl : m.l.length ≤ 600000000) (hbase : 2 ≤ base ∧ base ≤ w.heap.size) (ht : Utf.Tabs w) (hs : m.p.state = 7) (hcm : common m c = false) :
    Calls Tryd.prog 40 #[.pointer (some ⟨b, 0, none⟩), .int .u8 c.toNat] w (RunsD base b w (m.byte c)) := by
  have hc := Utf.byte_lt c
  have H := Lib.hid h
  have HT := Lib.hid ht
  have HC := Lib.hid hcm
  obtain ⟨pv, lv, pvs, hm, ha⟩ := h
  obtain ⟨r0, r1, r2, r3, r4, r5⟩ := hm.reads
  rw [hs] at r0
  clear hm ha ht hcm
  go_enter Tryd.func40, Tryd.ntmps40
  go_wp2_with fail
  refine (inOscEscape_any base b m c _ H.out hl hbase HT.out hs HC.out).mono ?_
  rintro e w1 ⟨rfl, hm1, hb1⟩
  have HM1 := Lib.hid hm1
  clear hm1
  go_wp2_with fail
  go_end0
  exact ⟨rfl, HM1.out, hb1⟩

set_option maxHeartbeats 800000 in
theorem step_8 (base b : Nat) (m : Mc) (c : UInt8) (w : World) (h : Md w base b m) (hl : m.l.length ≤ 600000000) (hbase : 2 ≤ base ∧ base ≤ w.heap.size) (ht : Utf.Tabs w) (hs : m.p.state = 8) (hcm : common m c = false) :
    Calls Tryd.prog 40 #[.pointer (some ⟨b, 0, none⟩), .int .u8 c.toNat] w (RunsD base b w (m.byte c)) := by
  have hc := Utf.byte_lt c
  have H := Lib.hid h
  have HT := Lib.hid ht
  have HC := Lib.hid hcm
  obtain ⟨pv, lv, pvs, hm, ha⟩ := h
  obtain ⟨r0, r1, r2, r3, r4, r5⟩ := hm.reads
  rw [hs] at r0
  clear hm ha ht hcm
  go_enter Tryd.func40, Tryd.ntmps40
  go_wp2_with fail
  refine (inStringEscape_any base b m c _ H.out hl hbase HT.out hs HC.out).mono ?_
  rintro e w1 ⟨rfl, hm1, hb1⟩
  have HM1 := Lib.hid hm1
  clear hm1
  go_wp2_with fail
  go_end0
  exact ⟨rfl, HM1.out, hb1⟩

/-- A byte comes, in any state that may be. -/
theorem comes_any (base b : Nat) (m : Mc) (c : UInt8) (w : World) (h : Md w base b m) (hl : m.l.length ≤ 600000000) (hbase : 2 ≤ base ∧ base ≤ w.heap.size) (hk : Ok m.p) (ht : Utf.Tabs w) :
    Calls Tryd.prog 28 #[.pointer (some ⟨b, 0, none⟩), .int .u8 c.toNat] w (RunsD base b w (m.byte c)) := by
  by_cases hs : m.p.state ≤ 6
  · exact comes_low base b m c w h hl hbase hk ht hs
  have h8 := hk.s8
  cases hcm : common m c with
  | true => exact comes_common base b m c w h hl hbase hk.fit ht hcm
  | false =>
    refine comes_step base b m _ c w h hcm fun w1 hw => ?_
    subst hw
    have : m.p.state = 7 ∨ m.p.state = 8 := by omega
    rcases this with e | e
    · exact step_7 base b m c w1 h hl hbase ht e hcm
    · exact step_8 base b m c w1 h hl hbase ht e hcm
end Vd
end Go.Proofs.YtjodbmfjdpbbnaaDoor
