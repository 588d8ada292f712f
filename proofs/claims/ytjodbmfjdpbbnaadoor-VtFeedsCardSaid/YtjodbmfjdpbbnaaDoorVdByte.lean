/- The developers' machine: a byte in each state. -/
import Derived.Test.YtjodbmfjdpbbnaaDoorVdMach3
namespace Go.Proofs.YtjodbmfjdpbbnaaDoor
set_option maxRecDepth 100000
open Go.RowKit
namespace Vd
open Vt

theorem lt_yes {c : UInt8} {n : Int} (h : (c.toNat : Int) < n) : decide ((c.toNat : Int) < n) = true := decide_eq_true h
theorem lt_no {c : UInt8} {n : Int} (h : ¬ (c.toNat : Int) < n) : decide ((c.toNat : Int) < n) = false := decide_eq_false h
theorem le_yes {c : UInt8} {n : Int} (h : (c.toNat : Int) ≤ n) : decide ((c.toNat : Int) ≤ n) = true := decide_eq_true h
theorem le_no {c : UInt8} {n : Int} (h : ¬ (c.toNat : Int) ≤ n) : decide ((c.toNat : Int) ≤ n) = false := decide_eq_false h
theorem gt_yes {c : UInt8} {n : Int} (h : n < (c.toNat : Int)) : decide (n < (c.toNat : Int)) = true := decide_eq_true h
theorem gt_no {c : UInt8} {n : Int} (h : ¬ n < (c.toNat : Int)) : decide (n < (c.toNat : Int)) = false := decide_eq_false h
theorem flush_len2 (m : Mc) : m.flush.l.length ≤ m.l.length + 1 := by
  unfold Mc.flush
  split
  · omega
  · have := prints_len [65533]
    show (m.l ++ prints [65533]).length ≤ _
    rw [List.length_append]; simp at this; omega
theorem ok_one {p : Ps} (h : Ok p) (hs : p.state = 1) : p = none_ 1 := by
  obtain ⟨s, a, n, i, t⟩ := p
  obtain rfl : s = 1 := hs
  have h1 : a = [] := h.part (by simp)
  have h2 : n = [] := h.csi (by simp)
  have h3 : i = [] := h.non (by simp) (by simp)
  have h4 : t = [] := h.osc (by simp) (by simp)
  rw [h1, h2, h3, h4]; rfl

set_option maxHeartbeats 1600000 in
theorem inGround_any (base b : Nat) (m : Mc) (c : UInt8) (w : World) (h : Md w base b m) (hl : m.l.length ≤ 600000000) (hbase : 2 ≤ base ∧ base ≤ w.heap.size) (hfit : Utf.fits m.p.part = true) (ht : Utf.Tabs w) :
    Calls Tryd.prog 53 #[.pointer (some ⟨b, 0, none⟩), .int .u8 c.toNat] w (RunsD base b w (m.ground c)) := by
  have hc := Utf.byte_lt c
  have hfl := flush_len2 m
  have HT := Lib.hid ht
  have HFit := Lib.hid hfit
  clear hfit ht
  by_cases h32 : c.toNat < 32
  · have HG : Hid (m.ground c = m.flush.control c) := Lib.hid (by unfold Mc.ground; rw [if_pos h32])
    have hd : decide ((c.toNat : Int) < 32) = true := decide_eq_true (by omega)
    have H := Lib.hid h
    clear h
    go_enter Tryd.func53, Tryd.ntmps53
    go_wp2_with fail
    refine (flush_any base b m _ H.out (by omega) hbase.2 HFit.out HT.out).mono ?_
    rintro e w1 ⟨rfl, hm1, hb1⟩
    have HM1 := Lib.hid hm1
    have z1 := hb1.size
    clear hm1
    go_wp2_with fail
    refine (control_any base b m.flush c _ HM1.out (by omega) (by omega)).mono ?_
    rintro e w2 ⟨rfl, hm2, hb2⟩
    have HM2 := Lib.hid hm2
    clear hm2
    go_wp2_with fail
    go_end0
    rw [HG.out]
    exact ⟨rfl, HM2.out, hb1.trans hb2⟩
  · have hd : decide ((c.toNat : Int) < 32) = false := decide_eq_false (by omega)
    by_cases h127 : c.toNat = 127
    · have HG : Hid (m.ground c = m.flush) := Lib.hid (by unfold Mc.ground; rw [if_neg h32, if_pos h127])
      have hd2 : ((c.toNat : Int) == 127) = true := by rw [beq_iff_eq]; omega
      have H := Lib.hid h
      clear h h127
      go_enter Tryd.func53, Tryd.ntmps53
      go_wp2_with fail
      refine (flush_any base b m _ H.out (by omega) hbase.2 HFit.out HT.out).mono ?_
      rintro e w1 ⟨rfl, hm1, hb1⟩
      have HM1 := Lib.hid hm1
      clear hm1
      go_wp2_with fail
      go_end0
      rw [HG.out]
      exact ⟨rfl, HM1.out, hb1⟩
    · have HG : Hid (m.ground c = ⟨{ m.p with part := (Utf.next m.p.part c).2 }, m.l ++ prints (Utf.next m.p.part c).1⟩) := Lib.hid (by unfold Mc.ground; rw [if_neg h32, if_neg h127])
      have hd2 : ((c.toNat : Int) == 127) = false := by rw [beq_eq_false_iff_ne]; omega
      have hnl := Utf.next_len m.p.part c
      have HNS := Lib.hid (next_small m.p.part c)
      obtain ⟨pv, lv, pvs, hm, ha⟩ := h
      obtain ⟨r0, r1, r2, r3, r4, r5⟩ := hm.reads
      have HM : Hid (Md w base b m) := Lib.hid ⟨pv, lv, pvs, hm, ha⟩
      have hlow := hm.low
      clear hm ha
      go_enter Tryd.func53, Tryd.ntmps53
      go_wp2_with fail
      refine (Utf.utfNext_any ⟨m.p.part.toArray⟩ m.p.part rfl c rfl _ HT.out HFit.out).mono ?_
      rintro e w1 ⟨v, rfl, ho, hb1⟩
      obtain ⟨X, hX⟩ : ∃ X, Utf.next m.p.part c = X := ⟨_, rfl⟩
      rw [hX] at ho hnl HG HNS ⊢
      have HM1 := Lib.hid (HM.out.kept hb1)
      have z1 := hb1.size
      have HO := Lib.hid ho
      clear ho hX
      go_wp2_with fail
      refine (print_any base b m v X.1 w.heap.size _ HM1.out HO.out HNS.out (by omega) (by omega) (by omega)).mono ?_
      rintro e w2 ⟨rfl, hm3, hb3⟩
      obtain ⟨pv2, lv2, pvs2, hm2, ha2⟩ := hm3
      obtain ⟨q0, q1, q2, q3, q4, q5⟩ := hm2.reads
      obtain ⟨g0, g1, g2, g3, g4, g5⟩ := hm2.free
      have HM3 : Hid (Md w2 base b (m.print X.1)) := Lib.hid ⟨pv2, lv2, pvs2, hm2, ha2⟩
      clear hm2 ha2
      go_wp2_with fail
      go_end0
      rw [HG.out]
      exact ⟨rfl, HM3.out.set_ 1 (.string ⟨X.2.toArray⟩) { m.p with part := X.2 } rfl (fun _ _ => rfl), ((hb1.mono hbase.2).trans hb3).setCell hlow _⟩


set_option maxHeartbeats 3200000 in
theorem inEscape_any (base b : Nat) (m : Mc) (c : UInt8) (w : World) (h : Md w base b m) (hl : m.l.length ≤ 600000000) (hbase : base ≤ w.heap.size) (hk : Ok m.p) (hs : m.p.state = 1) :
    Calls Tryd.prog 54 #[.pointer (some ⟨b, 0, none⟩), .int .u8 c.toNat] w (RunsD base b w (m.escape c)) := by
  have hc := Utf.byte_lt c
  have H := Lib.hid h
  obtain ⟨pv, lv, pvs, hm, ha⟩ := h
  obtain ⟨A, cc, rfl⟩ := own_shape hm.nums
  obtain ⟨r0, r1, r2, r3, r4, r5⟩ := hm.reads
  obtain ⟨f0, f1, f2, f3, f4, f5⟩ := hm.free
  have HM := Lib.hid hm
  have hlow := hm.low
  have hi3 := hk.i3
  have hn16 := hk.n16
  have hin : m.p.inter = [] := hk.non (by omega) (by omega)
  have HO1 := Lib.hid (ok_one hk hs)
  clear hm ha hk
  by_cases h32 : c.toNat < 32
  · have HE : Hid (m.escape c = m.control c) := Lib.hid (by unfold Mc.escape; rw [if_pos h32])
    have hd1 := lt_yes (c := c) (n := 32) (by omega)
    clear h32
    go_enter Tryd.func54, Tryd.ntmps54
    go_wp2_with fail
    refine (control_any base b m c _ H.out (by omega) hbase).mono ?_
    rintro e w1 ⟨rfl, hm1, hb1⟩
    have HM1 := Lib.hid hm1
    clear hm1
    go_wp2_with fail
    go_end0
    rw [HE.out]
    exact ⟨rfl, HM1.out, hb1⟩
  have hd1 := lt_no (c := c) (n := 32) (by omega)
  by_cases h47 : c.toNat ≤ 47
  · have HE : Hid (m.escape c = ⟨{ (none_ 2) with inter := [] ++ [c] }, m.l⟩) := Lib.hid (by unfold Mc.escape; rw [if_neg h32, if_pos h47, HO1.out]; rfl)
    have hd2 := le_yes (c := c) (n := 47) (by omega)
    clear h32
    go_enter Tryd.func54, Tryd.ntmps54
    go_wp2_with fail
    refine (enter_any 2 rfl base b m _ H.out).mono ?_
    rintro e w1 ⟨rfl, hm1, hb1⟩
    have HM1 := Lib.hid hm1
    clear hm1
    go_wp2_with fail
    refine (between_any base b (m.to 2) c _ HM1.out (by simp [Mc.to, none_]) (by omega)).mono ?_
    rintro e w2 ⟨rfl, hm2, hb2⟩
    have HM2 := Lib.hid hm2
    clear hm2
    go_wp2_with fail
    go_end0
    rw [HE.out]
    exact ⟨rfl, HM2.out, hb1.trans hb2⟩
  have hd2 := le_no (c := c) (n := 47) (by omega)
  by_cases h91 : c.toNat = 91
  · have HE : Hid (m.escape c = m.to 3) := Lib.hid (by unfold Mc.escape; rw [if_neg h32, if_neg h47, if_neg (by omega), if_neg (by omega), if_pos ⟨hs, h91⟩])
    have hd3 := u8_eq (c := c) (n := 91) (by omega)
    clear h32 h47 h91
    go_enter Tryd.func54, Tryd.ntmps54
    go_wp2_with fail
    refine (enter_any 3 rfl base b m _ H.out).mono ?_
    rintro e w1 ⟨rfl, hm1, hb1⟩
    have HM1 := Lib.hid hm1
    clear hm1
    go_wp2_with fail
    go_end0
    rw [HE.out]
    exact ⟨rfl, HM1.out, hb1⟩
  have hd3 := u8_ne (c := c) (n := 91) (by omega)
  by_cases h93 : c.toNat = 93
  · have HE : Hid (m.escape c = m.to 5) := Lib.hid (by unfold Mc.escape; rw [if_neg h32, if_neg h47, if_neg (by omega), if_neg (by omega), if_neg (fun h => h91 h.2), if_pos ⟨hs, h93⟩])
    have hd4 := u8_eq (c := c) (n := 93) (by omega)
    clear h32 h47 h91 h93
    go_enter Tryd.func54, Tryd.ntmps54
    go_wp2_with fail
    refine (enter_any 5 rfl base b m _ H.out).mono ?_
    rintro e w1 ⟨rfl, hm1, hb1⟩
    have HM1 := Lib.hid hm1
    clear hm1
    go_wp2_with fail
    go_end0
    rw [HE.out]
    exact ⟨rfl, HM1.out, hb1⟩
  have hd4 := u8_ne (c := c) (n := 93) (by omega)
  cases hst : isStr c with
  | true =>
    have hcs := isStr_yes hst
    have HE : Hid (m.escape c = m.to 6) := Lib.hid (by unfold Mc.escape; rw [if_neg h32, if_neg h47, if_neg (by omega), if_neg (by omega), if_neg (fun h => h91 h.2), if_neg (fun h => h93 h.2), if_pos ⟨hs, hst⟩])
    clear h32 h47 h91 h93 hst
    rcases hcs with hcs | hcs | hcs | hcs
    · have e0 := u8_eq (c := c) (n := 80) (by omega)
      clear hcs
      go_enter Tryd.func54, Tryd.ntmps54
      go_wp2_with fail
      refine (enter_any 6 rfl base b m _ H.out).mono ?_
      rintro e w1 ⟨rfl, hm1, hb1⟩
      have HM1 := Lib.hid hm1
      clear hm1
      go_wp2_with fail
      go_end0
      rw [HE.out]
      exact ⟨rfl, HM1.out, hb1⟩
    · have e0 := u8_ne (c := c) (n := 80) (by omega)
      have e1 := u8_eq (c := c) (n := 88) (by omega)
      clear hcs
      go_enter Tryd.func54, Tryd.ntmps54
      go_wp2_with fail
      refine (enter_any 6 rfl base b m _ H.out).mono ?_
      rintro e w1 ⟨rfl, hm1, hb1⟩
      have HM1 := Lib.hid hm1
      clear hm1
      go_wp2_with fail
      go_end0
      rw [HE.out]
      exact ⟨rfl, HM1.out, hb1⟩
    · have e0 := u8_ne (c := c) (n := 80) (by omega)
      have e1 := u8_ne (c := c) (n := 88) (by omega)
      have e2 := u8_eq (c := c) (n := 94) (by omega)
      clear hcs
      go_enter Tryd.func54, Tryd.ntmps54
      go_wp2_with fail
      refine (enter_any 6 rfl base b m _ H.out).mono ?_
      rintro e w1 ⟨rfl, hm1, hb1⟩
      have HM1 := Lib.hid hm1
      clear hm1
      go_wp2_with fail
      go_end0
      rw [HE.out]
      exact ⟨rfl, HM1.out, hb1⟩
    · have e0 := u8_ne (c := c) (n := 80) (by omega)
      have e1 := u8_ne (c := c) (n := 88) (by omega)
      have e2 := u8_ne (c := c) (n := 94) (by omega)
      have e3 := u8_eq (c := c) (n := 95) (by omega)
      clear hcs
      go_enter Tryd.func54, Tryd.ntmps54
      go_wp2_with fail
      refine (enter_any 6 rfl base b m _ H.out).mono ?_
      rintro e w1 ⟨rfl, hm1, hb1⟩
      have HM1 := Lib.hid hm1
      clear hm1
      go_wp2_with fail
      go_end0
      rw [HE.out]
      exact ⟨rfl, HM1.out, hb1⟩
  | false =>
    obtain ⟨s1, s2, s3, s4⟩ := isStr_no hst
    by_cases h127 : c.toNat < 127
    · have HE : Hid (m.escape c = (m.tell ⟨3, c.toNat, [], [], []⟩).to 0) := Lib.hid (by unfold Mc.escape; rw [if_neg h32, if_neg h47, if_neg (by omega), if_neg (by omega), if_neg (fun h => h91 h.2), if_neg (fun h => h93 h.2), if_neg (fun h => by rw [hst] at h; cases h.2), hin])
      have hd5 := lt_yes (c := c) (n := 127) (by omega)
      clear h32 h47 h91 h93 hst h127
      go_enter Tryd.func54, Tryd.ntmps54
      go_wp2_with fail
      refine (end_any base b m ⟨3, c.toNat, [], [], []⟩ _ rfl (.escape c []) rfl _ H.out (by omega) hbase).mono ?_
      rintro e w1 ⟨rfl, hm1, hb1⟩
      have HM1 := Lib.hid hm1
      clear hm1
      go_wp2_with fail
      go_end0
      rw [HE.out]
      exact ⟨rfl, HM1.out, hb1⟩
    have hd5 := lt_no (c := c) (n := 127) (by omega)
    by_cases hgt : 127 < c.toNat
    · have HE : Hid (m.escape c = m.to 0) := Lib.hid (by unfold Mc.escape; rw [if_neg h32, if_neg h47, if_neg (by omega), if_pos hgt])
      have hd6 := gt_yes (c := c) (n := 127) (by omega)
      clear h32 h47 h91 h93 hst h127 hgt
      go_enter Tryd.func54, Tryd.ntmps54
      go_wp2_with fail
      refine (enter_any 0 rfl base b m _ H.out).mono ?_
      rintro e w1 ⟨rfl, hm1, hb1⟩
      have HM1 := Lib.hid hm1
      clear hm1
      go_wp2_with fail
      go_end0
      rw [HE.out]
      exact ⟨rfl, HM1.out, hb1⟩
    · have HE : Hid (m.escape c = m) := Lib.hid (by unfold Mc.escape; rw [if_neg h32, if_neg h47, if_pos (by omega)])
      have hd6 := gt_no (c := c) (n := 127) (by omega)
      clear h32 h47 h91 h93 hst h127 hgt
      go_enter Tryd.func54, Tryd.ntmps54
      go_wp2_with fail
      go_end0
      rw [HE.out]
      exact ⟨rfl, H.out, Below.refl _ _⟩


set_option maxHeartbeats 3200000 in
theorem inInter_any (base b : Nat) (m : Mc) (c : UInt8) (w : World) (h : Md w base b m) (hl : m.l.length ≤ 600000000) (hbase : base ≤ w.heap.size) (hk : Ok m.p) (hs : m.p.state = 2) :
    Calls Tryd.prog 55 #[.pointer (some ⟨b, 0, none⟩), .int .u8 c.toNat] w (RunsD base b w (m.escape c)) := by
  have hc := Utf.byte_lt c
  have H := Lib.hid h
  obtain ⟨pv, lv, pvs, hm, ha⟩ := h
  obtain ⟨A, cc, rfl⟩ := own_shape hm.nums
  obtain ⟨r0, r1, r2, r3, r4, r5⟩ := hm.reads
  obtain ⟨f0, f1, f2, f3, f4, f5⟩ := hm.free
  have HM := Lib.hid hm
  have hlow := hm.low
  have hi3 := hk.i3
  have hn16 := hk.n16
  clear ha hk
  have hst : ∀ x : Prop, ¬ (m.p.state = 1 ∧ x) := fun _ h => by have := h.1; omega
  have HST := Lib.hid hst
  clear hst hm
  by_cases h32 : c.toNat < 32
  · have HE : Hid (m.escape c = m.control c) := Lib.hid (by unfold Mc.escape; rw [if_pos h32])
    have hd1 := lt_yes (c := c) (n := 32) (by omega)
    clear h32
    go_enter Tryd.func55, Tryd.ntmps55
    go_wp2_with fail
    refine (control_any base b m c _ H.out (by omega) hbase).mono ?_
    rintro e w1 ⟨rfl, hm1, hb1⟩
    have HM1 := Lib.hid hm1
    clear hm1
    go_wp2_with fail
    go_end0
    rw [HE.out]
    exact ⟨rfl, HM1.out, hb1⟩
  have hd1 := lt_no (c := c) (n := 32) (by omega)
  by_cases h47 : c.toNat ≤ 47
  · have hd2 := le_yes (c := c) (n := 47) (by omega)
    by_cases h3 : m.p.inter.length < 3
    · have HE : Hid (m.escape c = ⟨{ m.p with inter := m.p.inter ++ [c] }, m.l⟩) := Lib.hid (by unfold Mc.escape; rw [if_neg h32, if_pos h47, if_pos h3, ← hs])
      have hd3 : decide ((m.p.inter.length : Int) < 3) = true := decide_eq_true (by omega)
      clear h32
      go_enter Tryd.func55, Tryd.ntmps55
      go_wp2_with fail
      refine (between_any base b m c _ H.out hi3 (by omega)).mono ?_
      rintro e w1 ⟨rfl, hm1, hb1⟩
      have HM1 := Lib.hid hm1
      clear hm1
      go_wp2_with fail
      go_end0
      rw [HE.out]
      exact ⟨rfl, HM1.out, hb1⟩
    · have HE : Hid (m.escape c = m) := Lib.hid (by unfold Mc.escape; rw [if_neg h32, if_pos h47, if_neg h3, ← hs])
      have hd3 : decide ((m.p.inter.length : Int) < 3) = false := decide_eq_false (by omega)
      clear h32 h3
      go_enter Tryd.func55, Tryd.ntmps55
      go_wp2_with fail
      go_end0
      rw [HE.out]
      exact ⟨rfl, H.out, Below.refl _ _⟩
  have hd2 := le_no (c := c) (n := 47) (by omega)
  by_cases h127 : c.toNat < 127
  · have HE : Hid (m.escape c = (m.tell ⟨3, c.toNat, [], m.p.inter, []⟩).to 0) := Lib.hid (by unfold Mc.escape; rw [if_neg h32, if_neg h47, if_neg (by omega), if_neg (by omega), if_neg (HST.out _), if_neg (HST.out _), if_neg (HST.out _)])
    have hd5 := lt_yes (c := c) (n := 127) (by omega)
    clear h32 h47 h127
    go_enter Tryd.func55, Tryd.ntmps55
    go_wp2_with fail
    refine (end_any base b m ⟨3, c.toNat, [], m.p.inter, []⟩ _ rfl (.escape c _) rfl _ H.out (by omega) hbase).mono ?_
    rintro e w1 ⟨rfl, hm1, hb1⟩
    have HM1 := Lib.hid hm1
    clear hm1
    go_wp2_with fail
    go_end0
    rw [HE.out]
    exact ⟨rfl, HM1.out, hb1⟩
  have hd5 := lt_no (c := c) (n := 127) (by omega)
  by_cases hgt : 127 < c.toNat
  · have HE : Hid (m.escape c = m.to 0) := Lib.hid (by unfold Mc.escape; rw [if_neg h32, if_neg h47, if_neg (by omega), if_pos hgt])
    have hd6 := gt_yes (c := c) (n := 127) (by omega)
    clear h32 h47 h127 hgt
    go_enter Tryd.func55, Tryd.ntmps55
    go_wp2_with fail
    refine (enter_any 0 rfl base b m _ H.out).mono ?_
    rintro e w1 ⟨rfl, hm1, hb1⟩
    have HM1 := Lib.hid hm1
    clear hm1
    go_wp2_with fail
    go_end0
    rw [HE.out]
    exact ⟨rfl, HM1.out, hb1⟩
  · have HE : Hid (m.escape c = m) := Lib.hid (by unfold Mc.escape; rw [if_neg h32, if_neg h47, if_pos (by omega)])
    have hd6 := gt_no (c := c) (n := 127) (by omega)
    clear h32 h47 h127 hgt
    go_enter Tryd.func55, Tryd.ntmps55
    go_wp2_with fail
    go_end0
    rw [HE.out]
    exact ⟨rfl, H.out, Below.refl _ _⟩


set_option maxHeartbeats 3200000 in
theorem inCsi_any (base b : Nat) (m : Mc) (c : UInt8) (w : World) (h : Md w base b m) (hl : m.l.length ≤ 600000000) (hbase : base ≤ w.heap.size) (hk : Ok m.p) :
    Calls Tryd.prog 56 #[.pointer (some ⟨b, 0, none⟩), .int .u8 c.toNat] w (RunsD base b w (m.csi c)) := by
  have hc := Utf.byte_lt c
  have H := Lib.hid h
  obtain ⟨pv, lv, pvs, hm, ha⟩ := h
  obtain ⟨A, cc, rfl⟩ := own_shape hm.nums
  obtain ⟨r0, r1, r2, r3, r4, r5⟩ := hm.reads
  obtain ⟨f0, f1, f2, f3, f4, f5⟩ := hm.free
  have HM := Lib.hid hm
  have hlow := hm.low
  have hi3 := hk.i3
  have hn16 := hk.n16
  have HK := Lib.hid hk
  clear ha hk hm
  by_cases h32 : c.toNat < 32
  · have HE : Hid (m.csi c = m.control c) := Lib.hid (by unfold Mc.csi; rw [if_pos h32])
    have hd1 := lt_yes (c := c) (n := 32) (by omega)
    clear h32
    go_enter Tryd.func56, Tryd.ntmps56
    go_wp2_with fail
    refine (control_any base b m c _ H.out (by omega) hbase).mono ?_
    rintro e w1 ⟨rfl, hm1, hb1⟩
    have HM1 := Lib.hid hm1
    clear hm1
    go_wp2_with fail
    go_end0
    rw [HE.out]
    exact ⟨rfl, HM1.out, hb1⟩
  have hd1 := lt_no (c := c) (n := 32) (by omega)
  by_cases h47 : c.toNat ≤ 47
  · have hd2 := le_yes (c := c) (n := 47) (by omega)
    by_cases h3 : m.p.inter.length < 3
    · have HE : Hid (m.csi c = ⟨{ m.p with inter := m.p.inter ++ [c] }, m.l⟩) := Lib.hid (by unfold Mc.csi; rw [if_neg h32, if_pos h47, if_neg (by omega)])
      have hd3 : decide ((m.p.inter.length : Int) < 3) = true := decide_eq_true (by omega)
      clear h32
      go_enter Tryd.func56, Tryd.ntmps56
      go_wp2_with fail
      refine (between_any base b m c _ H.out hi3 (by omega)).mono ?_
      rintro e w1 ⟨rfl, hm1, hb1⟩
      have HM1 := Lib.hid hm1
      clear hm1
      go_wp2_with fail
      go_end0
      rw [HE.out]
      exact ⟨rfl, HM1.out, hb1⟩
    · have HE : Hid (m.csi c = m.to 4) := Lib.hid (by unfold Mc.csi; rw [if_neg h32, if_pos h47, if_pos (by omega)])
      have hd3 : decide ((m.p.inter.length : Int) < 3) = false := decide_eq_false (by omega)
      clear h32 h3
      go_enter Tryd.func56, Tryd.ntmps56
      go_wp2_with fail
      refine (enter_any 4 rfl base b m _ H.out).mono ?_
      rintro e w1 ⟨rfl, hm1, hb1⟩
      have HM1 := Lib.hid hm1
      clear hm1
      go_wp2_with fail
      go_end0
      rw [HE.out]
      exact ⟨rfl, HM1.out, hb1⟩
  have hd2 := le_no (c := c) (n := 47) (by omega)
  by_cases h63 : c.toNat ≤ 63
  · have HE : Hid (m.csi c = param m c) := Lib.hid (by
      unfold Mc.csi param
      rw [if_neg h32, if_neg h47]
      by_cases hb : between m.p.inter = true
      · rw [if_pos ⟨h63, hb⟩, if_pos hb]
      rw [if_neg (fun h => hb h.2), if_neg hb]
      by_cases h57 : c.toNat ≤ 57
      · rw [if_pos h57, if_pos h57]
      rw [if_neg h57, if_neg h57]
      by_cases h59 : c.toNat ≤ 59
      · rw [if_pos h59, if_pos h59]; rfl
      rw [if_neg h59, if_neg h59, if_pos h63]
      by_cases hq : 0 < m.p.params.length ∨ m.p.inter ≠ []
      · rw [if_pos hq, if_pos hq]
      · have hq2 : m.p.inter = [] := Classical.not_not.1 fun h => hq (.inr h)
        rw [if_neg hq, if_neg hq, hq2]; rfl)
    have hd3 := le_yes (c := c) (n := 63) (by omega)
    clear h32
    go_enter Tryd.func56, Tryd.ntmps56
    go_wp2_with fail
    refine (parameter_any base b m c _ H.out hbase HK.out (by omega) h63).mono ?_
    rintro e w1 ⟨rfl, hm1, hb1⟩
    have HM1 := Lib.hid hm1
    clear hm1
    go_wp2_with fail
    go_end0
    rw [HE.out]
    exact ⟨rfl, HM1.out, hb1⟩
  have hd3 := le_no (c := c) (n := 63) (by omega)
  have hnb : ¬ (c.toNat ≤ 63 ∧ between m.p.inter = true) := fun h => h63 h.1
  have h57 : ¬ c.toNat ≤ 57 := by omega
  have h59 : ¬ c.toNat ≤ 59 := by omega
  by_cases h127 : c.toNat < 127
  · have HE : Hid (m.csi c = (m.tell ⟨4, c.toNat, m.p.params, m.p.inter, []⟩).to 0) := Lib.hid (by unfold Mc.csi; rw [if_neg h32, if_neg h47, if_neg hnb, if_neg h57, if_neg h59, if_neg h63, if_neg (by omega), if_neg (by omega)])
    have hd5 := lt_yes (c := c) (n := 127) (by omega)
    clear h32 h47 h127 h57 h59 h63 hnb
    go_enter Tryd.func56, Tryd.ntmps56
    go_wp2_with fail
    go_still_tail 15, (by kernel_rfl)
    change wpList _ _ _ _ _ w.drew
    go_wp2_with fail
    have HMW := Lib.hid (HM.out.kept ((Below.refl _ _).drew))
    refine (end_at base b m (.slice A m.p.params.length cc) lv pvs ⟨4, c.toNat, m.p.params, m.p.inter, []⟩ (.slice A m.p.params.length cc) _ rfl (.csi c _ _ hn16) _ HMW.out HMW.out.nums (by omega) hbase).mono ?_
    rintro e w1 ⟨rfl, hm1, hb1⟩
    have HM1 := Lib.hid hm1
    clear hm1
    go_wp2_with fail
    go_end0
    rw [HE.out]
    exact ⟨rfl, HM1.out, ((Below.refl base w).drew).trans hb1⟩
  have hd5 := lt_no (c := c) (n := 127) (by omega)
  by_cases hgt : 127 < c.toNat
  · have HE : Hid (m.csi c = m.to 0) := Lib.hid (by unfold Mc.csi; rw [if_neg h32, if_neg h47, if_neg hnb, if_neg h57, if_neg h59, if_neg h63, if_neg (by omega), if_pos hgt])
    have hd6 := gt_yes (c := c) (n := 127) (by omega)
    clear h32 h47 h127 hgt h57 h59 h63 hnb
    go_enter Tryd.func56, Tryd.ntmps56
    go_wp2_with fail
    refine (enter_any 0 rfl base b m _ H.out).mono ?_
    rintro e w1 ⟨rfl, hm1, hb1⟩
    have HM1 := Lib.hid hm1
    clear hm1
    go_wp2_with fail
    go_end0
    rw [HE.out]
    exact ⟨rfl, HM1.out, hb1⟩
  · have HE : Hid (m.csi c = m) := Lib.hid (by unfold Mc.csi; rw [if_neg h32, if_neg h47, if_neg hnb, if_neg h57, if_neg h59, if_neg h63, if_pos (by omega)])
    have hd6 := gt_no (c := c) (n := 127) (by omega)
    clear h32 h47 h127 hgt h57 h59 h63 hnb
    go_enter Tryd.func56, Tryd.ntmps56
    go_wp2_with fail
    go_end0
    rw [HE.out]
    exact ⟨rfl, H.out, Below.refl _ _⟩


theorem le_yes' {c : UInt8} {n : Int} (h : n ≤ (c.toNat : Int)) : decide (n ≤ (c.toNat : Int)) = true := decide_eq_true h
theorem le_no' {c : UInt8} {n : Int} (h : ¬ n ≤ (c.toNat : Int)) : decide (n ≤ (c.toNat : Int)) = false := decide_eq_false h
theorem u8_nne {c : UInt8} {n : Int} (h : (c.toNat : Int) = n) : ((c.toNat : Int) != n) = false := by rw [bne, beq_iff_eq.2 h]; rfl
theorem u8_nne' {c : UInt8} {n : Int} (h : (c.toNat : Int) ≠ n) : ((c.toNat : Int) != n) = true := by rw [bne_iff_ne]; exact h


set_option maxHeartbeats 3200000 in
theorem inSkip_any (base b : Nat) (m : Mc) (c : UInt8) (w : World) (h : Md w base b m) (hl : m.l.length ≤ 600000000) (hbase : base ≤ w.heap.size) (hk : Ok m.p) (hs : m.p.state = 4) :
    Calls Tryd.prog 57 #[.pointer (some ⟨b, 0, none⟩), .int .u8 c.toNat] w (RunsD base b w (m.low c)) := by
  have hc := Utf.byte_lt c
  have H := Lib.hid h
  obtain ⟨pv, lv, pvs, hm, ha⟩ := h
  obtain ⟨A, cc, rfl⟩ := own_shape hm.nums
  obtain ⟨r0, r1, r2, r3, r4, r5⟩ := hm.reads
  obtain ⟨f0, f1, f2, f3, f4, f5⟩ := hm.free
  have HM := Lib.hid hm
  have hlow := hm.low
  have hi3 := hk.i3
  have hn16 := hk.n16
  have HL : Hid (m.low c = (if c.toNat < 32 then m.control c else if 64 ≤ c.toNat ∧ c.toNat ≠ 127 then m.to 0 else m)) := Lib.hid (by unfold Mc.low; rw [if_neg (by omega), if_neg (by omega), if_neg (by omega), if_pos hs])
  clear ha hk hm
  by_cases h32 : c.toNat < 32
  · have HE : Hid (m.low c = m.control c) := Lib.hid (by rw [HL.out, if_pos h32])
    have hd1 := lt_yes (c := c) (n := 32) (by omega)
    clear h32
    go_enter Tryd.func57, Tryd.ntmps57
    go_wp2_with fail
    refine (control_any base b m c _ H.out (by omega) hbase).mono ?_
    rintro e w1 ⟨rfl, hm1, hb1⟩
    have HM1 := Lib.hid hm1
    clear hm1
    go_wp2_with fail
    go_end0
    rw [HE.out]
    exact ⟨rfl, HM1.out, hb1⟩
  have hd1 := lt_no (c := c) (n := 32) (by omega)
  by_cases h64 : 64 ≤ c.toNat
  · have hd2 := le_yes' (c := c) (n := 64) (by omega)
    by_cases h127 : c.toNat = 127
    · have HE : Hid (m.low c = m) := Lib.hid (by rw [HL.out, if_neg h32, if_neg (fun h => h.2 h127)])
      have hd3 := u8_eq (c := c) (n := 127) (by omega)
      have hd4 := u8_nne (c := c) (n := 127) (by omega)
      clear h32 h64 h127
      go_enter Tryd.func57, Tryd.ntmps57
      go_wp2_with fail
      go_end0
      rw [HE.out]
      exact ⟨rfl, H.out, Below.refl _ _⟩
    · have HE : Hid (m.low c = m.to 0) := Lib.hid (by rw [HL.out, if_neg h32, if_pos ⟨h64, h127⟩])
      have hd3 := u8_ne (c := c) (n := 127) (by omega)
      have hd4 := u8_nne' (c := c) (n := 127) (by omega)
      clear h32 h64 h127
      go_enter Tryd.func57, Tryd.ntmps57
      go_wp2_with fail
      refine (enter_any 0 rfl base b m _ H.out).mono ?_
      rintro e w1 ⟨rfl, hm1, hb1⟩
      have HM1 := Lib.hid hm1
      clear hm1
      go_wp2_with fail
      go_end0
      rw [HE.out]
      exact ⟨rfl, HM1.out, hb1⟩
  · have hd2 := le_no' (c := c) (n := 64) (by omega)
    have HE : Hid (m.low c = m) := Lib.hid (by rw [HL.out, if_neg h32, if_neg (fun h => h64 h.1)])
    clear h32 h64
    go_enter Tryd.func57, Tryd.ntmps57
    go_wp2_with fail
    go_end0
    rw [HE.out]
    exact ⟨rfl, H.out, Below.refl _ _⟩


set_option maxHeartbeats 3200000 in
theorem inOsc_any (base b : Nat) (m : Mc) (c : UInt8) (w : World) (h : Md w base b m) (hl : m.l.length ≤ 600000000) (hbase : base ≤ w.heap.size) (hk : Ok m.p) (hs : m.p.state = 5) :
    Calls Tryd.prog 58 #[.pointer (some ⟨b, 0, none⟩), .int .u8 c.toNat] w (RunsD base b w (m.low c)) := by
  have hc := Utf.byte_lt c
  have H := Lib.hid h
  obtain ⟨pv, lv, pvs, hm, ha⟩ := h
  obtain ⟨A, cc, rfl⟩ := own_shape hm.nums
  obtain ⟨r0, r1, r2, r3, r4, r5⟩ := hm.reads
  obtain ⟨f0, f1, f2, f3, f4, f5⟩ := hm.free
  have HM := Lib.hid hm
  have hlow := hm.low
  have hi3 := hk.i3
  have hn16 := hk.n16
  have ht64 := hk.t64
  have HL : Hid (m.low c = (if c.toNat = 7 then (m.tell ⟨5, 0, [], [], m.p.text⟩).to 0 else if c.toNat = 27 then ⟨{ m.p with state := 7 }, m.l⟩ else if 32 ≤ c.toNat ∧ m.p.text.length < 64 then ⟨{ m.p with text := m.p.text ++ [c] }, m.l⟩ else m)) := Lib.hid (by unfold Mc.low; rw [if_neg (by omega), if_neg (by omega), if_neg (by omega), if_neg (by omega), if_pos hs])
  have hblt := block_lt hm.block
  clear ha hk hm
  by_cases h7 : c.toNat = 7
  · have HE : Hid (m.low c = (m.tell ⟨5, 0, [], [], m.p.text⟩).to 0) := Lib.hid (by rw [HL.out, if_pos h7])
    have hd1 := u8_eq (c := c) (n := 7) (by omega)
    clear h7
    go_enter Tryd.func58, Tryd.ntmps58
    go_wp2_with fail
    refine (end_any base b m ⟨5, 0, [], [], m.p.text⟩ _ rfl (.osc _) rfl _ H.out (by omega) hbase).mono ?_
    rintro e w1 ⟨rfl, hm1, hb1⟩
    have HM1 := Lib.hid hm1
    clear hm1
    go_wp2_with fail
    go_end0
    rw [HE.out]
    exact ⟨rfl, HM1.out, hb1⟩
  have hd1 := u8_ne (c := c) (n := 7) (by omega)
  by_cases h27 : c.toNat = 27
  · have HE : Hid (m.low c = ⟨{ m.p with state := 7 }, m.l⟩) := Lib.hid (by rw [HL.out, if_neg h7, if_pos h27])
    have hd2 := u8_eq (c := c) (n := 27) (by omega)
    clear h7 h27
    go_enter Tryd.func58, Tryd.ntmps58
    go_wp2_with fail
    go_end0
    rw [HE.out]
    exact ⟨rfl, H.out.set_ 0 _ { m.p with state := 7 } rfl (fun _ _ => rfl), (Below.refl _ _).setCell hlow _⟩
  have hd2 := u8_ne (c := c) (n := 27) (by omega)
  by_cases h32 : 32 ≤ c.toNat
  · have hd3 := le_yes' (c := c) (n := 32) (by omega)
    by_cases h64 : m.p.text.length < 64
    · have HE : Hid (m.low c = ⟨{ m.p with text := m.p.text ++ [c] }, m.l⟩) := Lib.hid (by rw [HL.out, if_neg h7, if_neg h27, if_pos ⟨h32, h64⟩])
      have hd4 : decide ((m.p.text.length : Int) < 64) = true := decide_eq_true (by omega)
      have hcat : ¬ 9223372036854775807 < m.p.text.length + 1 := by omega
      have hcv := fun (W : World) (hq : W.cell? ⟨w.heap.size, 0, none⟩ = some (.int .u8 c.toNat)) => run_convert_byte1 (P := Tryd.prog) W 46 9 5 ⟨w.heap.size, 0, none⟩ 1 c Tryd.underlying46 Tryd.underlying5 Tryd.underlying9 hq
      clear h7 h27 h32 h64
      go_enter Tryd.func58, Tryd.ntmps58
      go_wp2_with fail
      go_region
      go_wp2_with fail
      go_end0
      rw [HE.out]
      have h2 := H.out.set_ 4 (.string (⟨m.p.text.toArray⟩ ++ ⟨#[c]⟩)) { m.p with text := m.p.text ++ [c] } rfl (fun _ _ => by rw [Utf.str_snoc]; rfl)
      exact ⟨rfl, h2.kept ((Below.refl _ _).alloc (Nat.le_refl _) _).drew, (((Below.refl base w).setCell hlow _).alloc (by simpa using hbase) _).drew⟩
    · have HE : Hid (m.low c = m) := Lib.hid (by rw [HL.out, if_neg h7, if_neg h27, if_neg (fun h => h64 h.2)])
      have hd4 : decide ((m.p.text.length : Int) < 64) = false := decide_eq_false (by omega)
      clear h7 h27 h32 h64
      go_enter Tryd.func58, Tryd.ntmps58
      go_wp2_with fail
      go_end0
      rw [HE.out]
      exact ⟨rfl, H.out, Below.refl _ _⟩
  · have hd3 := le_no' (c := c) (n := 32) (by omega)
    have HE : Hid (m.low c = m) := Lib.hid (by rw [HL.out, if_neg h7, if_neg h27, if_neg (fun h => h32 h.1)])
    clear h7 h27 h32
    go_enter Tryd.func58, Tryd.ntmps58
    go_wp2_with fail
    go_end0
    rw [HE.out]
    exact ⟨rfl, H.out, Below.refl _ _⟩


set_option maxHeartbeats 3200000 in
theorem inString_any (base b : Nat) (m : Mc) (c : UInt8) (w : World) (h : Md w base b m) (_hl : m.l.length ≤ 600000000) (_hbase : base ≤ w.heap.size) (hk : Ok m.p) (hs : m.p.state = 6) :
    Calls Tryd.prog 60 #[.pointer (some ⟨b, 0, none⟩), .int .u8 c.toNat] w (RunsD base b w (m.low c)) := by
  have hc := Utf.byte_lt c
  have H := Lib.hid h
  obtain ⟨pv, lv, pvs, hm, ha⟩ := h
  obtain ⟨A, cc, rfl⟩ := own_shape hm.nums
  obtain ⟨r0, r1, r2, r3, r4, r5⟩ := hm.reads
  obtain ⟨f0, f1, f2, f3, f4, f5⟩ := hm.free
  have HM := Lib.hid hm
  have hlow := hm.low
  have hi3 := hk.i3
  have hn16 := hk.n16
  have HL : Hid (m.low c = (if c.toNat = 27 then m.to 8 else m)) := Lib.hid (by unfold Mc.low; rw [if_neg (by omega), if_neg (by omega), if_neg (by omega), if_neg (by omega), if_neg (by omega)])
  clear ha hk hm
  by_cases h27 : c.toNat = 27
  · have HE : Hid (m.low c = m.to 8) := Lib.hid (by rw [HL.out, if_pos h27])
    have hd2 := u8_eq (c := c) (n := 27) (by omega)
    clear h27
    go_enter Tryd.func60, Tryd.ntmps60
    go_wp2_with fail
    refine (enter_any 8 rfl base b m _ H.out).mono ?_
    rintro e w1 ⟨rfl, hm1, hb1⟩
    have HM1 := Lib.hid hm1
    clear hm1
    go_wp2_with fail
    go_end0
    rw [HE.out]
    exact ⟨rfl, HM1.out, hb1⟩
  · have HE : Hid (m.low c = m) := Lib.hid (by rw [HL.out, if_neg h27])
    have hd2 := u8_ne (c := c) (n := 27) (by omega)
    clear h27
    go_enter Tryd.func60, Tryd.ntmps60
    go_wp2_with fail
    go_end0
    rw [HE.out]
    exact ⟨rfl, H.out, Below.refl _ _⟩

end Vd
end Go.Proofs.YtjodbmfjdpbbnaaDoor
