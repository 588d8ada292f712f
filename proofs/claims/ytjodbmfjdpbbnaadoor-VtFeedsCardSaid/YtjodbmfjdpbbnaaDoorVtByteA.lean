/- The reference's machine: a byte in the plain states. -/
import Derived.Test.YtjodbmfjdpbbnaaDoorVtCsi
namespace Go.Proofs.YtjodbmfjdpbbnaaDoor
set_option maxRecDepth 100000
open Go.RowKit
namespace Vt
set_option maxRecDepth 100000 in
set_option maxHeartbeats 3200000 in
theorem byte_stop (base b : Nat) (m : Mc) (c : UInt8) (w : World) (h : Mach w base b m) (hl : m.l.length ≤ 500000000) (hbase : base ≤ w.heap.size) (h24 : c.toNat = 24 ∨ c.toNat = 26) :
    Calls Tryd.prog 30 #[.pointer (some ⟨b, 0, none⟩), .int .u8 c.toNat] w (Runs base b w (m.byte c)) := by
  have hc := Utf.byte_lt c
  have hfl : Hid (m.flush.l.length ≤ 500000001) := Lib.hid (by
    unfold Mc.flush
    split
    · omega
    · have := prints_len [65533]
      show (m.l ++ prints [65533]).length ≤ _
      rw [List.length_append]; simp at this; omega)
  have HE : Hid (m.byte c = (m.flush.control c).to 0) := Lib.hid (by unfold Mc.byte; rw [if_pos h24])
  obtain ⟨pv, lv, pvs, hm⟩ := h
  obtain ⟨A, cc, rfl⟩ := own_shape hm.nums
  obtain ⟨A', cc', rfl⟩ := own_shape hm.evs
  obtain ⟨r0, r1, r2, r3, r4, r5⟩ := hm.reads
  obtain ⟨f0, f1, f2, f3, f4, f5⟩ := hm.free
  have HM := Lib.hid hm
  have hlow := hm.low
  have hblt := block_lt hm.block
  clear hm
  rcases h24 with h24 | h24
  · have e24 := u8_eq (c := c) (n := 24) (by omega)
    clear h24
    by_cases h5 : m.p.state = 5
    · have t5 : (m.p.state == 5) = true := by rw [beq_iff_eq]; exact h5
      clear h5
      go_enter Tryd.func30, Tryd.ntmps30
      go_wp2_with fail
      refine (flush_any base b m _ ⟨_, _, _, HM.out⟩ (by omega) hbase).mono ?_
      rintro e w1 ⟨rfl, hm1, hb1⟩
      have HM1 := Lib.hid hm1
      have hz1 : base ≤ w1.heap.size := Nat.le_trans hbase hb1.size
      clear hm1
      go_wp2_with fail
      refine (control_any base b m.flush c _ HM1.out (by have := hfl.out; omega) hz1).mono ?_
      rintro e w2 ⟨rfl, hm2, hb2⟩
      have HM2 := Lib.hid hm2
      have hz2 : base ≤ w2.heap.size := Nat.le_trans hz1 hb2.size
      clear hm2
      go_wp2_with fail
      refine (to_any 0 rfl base b (m.flush.control c) _ HM2.out).mono ?_
      rintro e w3 ⟨rfl, hm3, hb3⟩
      have HM3 := Lib.hid hm3
      clear hm3
      go_wp2_with fail
      go_end0
      rw [HE.out]
      exact ⟨rfl, HM3.out, hb1.trans (hb2.trans hb3)⟩
    · have t5 : (m.p.state == 5) = false := by rw [beq_eq_false_iff_ne]; exact h5
      clear h5
      go_enter Tryd.func30, Tryd.ntmps30
      go_wp2_with fail
      refine (flush_any base b m _ ⟨_, _, _, HM.out⟩ (by omega) hbase).mono ?_
      rintro e w1 ⟨rfl, hm1, hb1⟩
      have HM1 := Lib.hid hm1
      have hz1 : base ≤ w1.heap.size := Nat.le_trans hbase hb1.size
      clear hm1
      go_wp2_with fail
      refine (control_any base b m.flush c _ HM1.out (by have := hfl.out; omega) hz1).mono ?_
      rintro e w2 ⟨rfl, hm2, hb2⟩
      have HM2 := Lib.hid hm2
      have hz2 : base ≤ w2.heap.size := Nat.le_trans hz1 hb2.size
      clear hm2
      go_wp2_with fail
      refine (to_any 0 rfl base b (m.flush.control c) _ HM2.out).mono ?_
      rintro e w3 ⟨rfl, hm3, hb3⟩
      have HM3 := Lib.hid hm3
      clear hm3
      go_wp2_with fail
      go_end0
      rw [HE.out]
      exact ⟨rfl, HM3.out, hb1.trans (hb2.trans hb3)⟩
  · have e24 := u8_ne (c := c) (n := 24) (by omega)
    have e26 := u8_eq (c := c) (n := 26) (by omega)
    clear h24
    by_cases h5 : m.p.state = 5
    · have t5 : (m.p.state == 5) = true := by rw [beq_iff_eq]; exact h5
      clear h5
      go_enter Tryd.func30, Tryd.ntmps30
      go_wp2_with fail
      refine (flush_any base b m _ ⟨_, _, _, HM.out⟩ (by omega) hbase).mono ?_
      rintro e w1 ⟨rfl, hm1, hb1⟩
      have HM1 := Lib.hid hm1
      have hz1 : base ≤ w1.heap.size := Nat.le_trans hbase hb1.size
      clear hm1
      go_wp2_with fail
      refine (control_any base b m.flush c _ HM1.out (by have := hfl.out; omega) hz1).mono ?_
      rintro e w2 ⟨rfl, hm2, hb2⟩
      have HM2 := Lib.hid hm2
      have hz2 : base ≤ w2.heap.size := Nat.le_trans hz1 hb2.size
      clear hm2
      go_wp2_with fail
      refine (to_any 0 rfl base b (m.flush.control c) _ HM2.out).mono ?_
      rintro e w3 ⟨rfl, hm3, hb3⟩
      have HM3 := Lib.hid hm3
      clear hm3
      go_wp2_with fail
      go_end0
      rw [HE.out]
      exact ⟨rfl, HM3.out, hb1.trans (hb2.trans hb3)⟩
    · have t5 : (m.p.state == 5) = false := by rw [beq_eq_false_iff_ne]; exact h5
      clear h5
      go_enter Tryd.func30, Tryd.ntmps30
      go_wp2_with fail
      refine (flush_any base b m _ ⟨_, _, _, HM.out⟩ (by omega) hbase).mono ?_
      rintro e w1 ⟨rfl, hm1, hb1⟩
      have HM1 := Lib.hid hm1
      have hz1 : base ≤ w1.heap.size := Nat.le_trans hbase hb1.size
      clear hm1
      go_wp2_with fail
      refine (control_any base b m.flush c _ HM1.out (by have := hfl.out; omega) hz1).mono ?_
      rintro e w2 ⟨rfl, hm2, hb2⟩
      have HM2 := Lib.hid hm2
      have hz2 : base ≤ w2.heap.size := Nat.le_trans hz1 hb2.size
      clear hm2
      go_wp2_with fail
      refine (to_any 0 rfl base b (m.flush.control c) _ HM2.out).mono ?_
      rintro e w3 ⟨rfl, hm3, hb3⟩
      have HM3 := Lib.hid hm3
      clear hm3
      go_wp2_with fail
      go_end0
      rw [HE.out]
      exact ⟨rfl, HM3.out, hb1.trans (hb2.trans hb3)⟩

set_option maxRecDepth 100000 in
set_option maxHeartbeats 3200000 in
theorem byte_esc (base b : Nat) (m : Mc) (c : UInt8) (w : World) (h : Mach w base b m) (hl : m.l.length ≤ 500000000) (hbase : base ≤ w.heap.size) (h27 : c.toNat = 27) (h5 : m.p.state ≠ 5) (h6 : m.p.state ≠ 6) :
    Calls Tryd.prog 30 #[.pointer (some ⟨b, 0, none⟩), .int .u8 c.toNat] w (Runs base b w (m.byte c)) := by
  have hc := Utf.byte_lt c
  have HE : Hid (m.byte c = m.flush.to 1) := Lib.hid (by unfold Mc.byte; rw [if_neg (by omega), if_pos ⟨h27, fun h => by omega⟩])
  obtain ⟨pv, lv, pvs, hm⟩ := h
  obtain ⟨A, cc, rfl⟩ := own_shape hm.nums
  obtain ⟨A', cc', rfl⟩ := own_shape hm.evs
  obtain ⟨r0, r1, r2, r3, r4, r5⟩ := hm.reads
  obtain ⟨f0, f1, f2, f3, f4, f5⟩ := hm.free
  have HM := Lib.hid hm
  have hlow := hm.low
  have hblt := block_lt hm.block
  clear hm
  have e24 := u8_ne (c := c) (n := 24) (by omega)
  have e26 := u8_ne (c := c) (n := 26) (by omega)
  have e27 := u8_eq (c := c) (n := 27) (by omega)
  have t5 : (m.p.state == 5) = false := by rw [beq_eq_false_iff_ne]; exact h5
  have t6 : (m.p.state == 6) = false := by rw [beq_eq_false_iff_ne]; exact h6
  clear h27 h5 h6
  go_enter Tryd.func30, Tryd.ntmps30
  go_wp2_with fail
  refine (flush_any base b m _ ⟨_, _, _, HM.out⟩ (by omega) hbase).mono ?_
  rintro e w1 ⟨rfl, hm1, hb1⟩
  have HM1 := Lib.hid hm1
  clear hm1
  go_wp2_with fail
  refine (to_any 1 rfl base b m.flush _ HM1.out).mono ?_
  rintro e w2 ⟨rfl, hm2, hb2⟩
  have HM2 := Lib.hid hm2
  clear hm2
  go_wp2_with fail
  go_end0
  rw [HE.out]
  exact ⟨rfl, HM2.out, hb1.trans hb2⟩

set_option maxRecDepth 100000 in
set_option maxHeartbeats 3200000 in
theorem byte_s0 (base b : Nat) (m : Mc) (c : UInt8) (w : World) (h : Mach w base b m) (hl : m.l.length ≤ 500000000) (hbase : base ≤ w.heap.size) (hk : Ok m.p) (hs : m.p.state = 0) (h24 : c.toNat ≠ 24) (h26 : c.toNat ≠ 26) (h27 : c.toNat ≠ 27) :
    Calls Tryd.prog 30 #[.pointer (some ⟨b, 0, none⟩), .int .u8 c.toNat] w (Runs base b w (m.byte c)) := by
  have hc := Utf.byte_lt c
  have HE : Hid (m.byte c = m.ground c) := Lib.hid (by unfold Mc.byte; rw [if_neg (by omega), if_neg (by omega), if_pos (by omega)]; unfold Mc.low; rw [if_pos hs])
  have hfit := hk.fit
  obtain ⟨pv, lv, pvs, hm⟩ := h
  obtain ⟨A, cc, rfl⟩ := own_shape hm.nums
  obtain ⟨A', cc', rfl⟩ := own_shape hm.evs
  obtain ⟨r0, r1, r2, r3, r4, r5⟩ := hm.reads
  obtain ⟨f0, f1, f2, f3, f4, f5⟩ := hm.free
  have HM := Lib.hid hm
  have hlow := hm.low
  have hblt := block_lt hm.block
  clear hm
  have e24 := u8_ne (c := c) (n := 24) (by omega)
  have e26 := u8_ne (c := c) (n := 26) (by omega)
  have e27 := u8_ne (c := c) (n := 27) (by omega)
  rw [hs] at r0
  clear hs h24 h26 h27 hk
  go_enter Tryd.func30, Tryd.ntmps30
  go_wp2_with fail
  refine (ground_any base b m c _ ⟨_, _, _, HM.out⟩ (by omega) hbase hfit).mono ?_
  rintro e w1 ⟨rfl, hm1, hb1⟩
  have HM1 := Lib.hid hm1
  clear hm1
  go_wp2_with fail
  go_end0
  rw [HE.out]
  exact ⟨rfl, HM1.out, hb1⟩

set_option maxRecDepth 100000 in
set_option maxHeartbeats 3200000 in
theorem byte_s12 (base b : Nat) (m : Mc) (c : UInt8) (w : World) (h : Mach w base b m) (hl : m.l.length ≤ 500000000) (hbase : base ≤ w.heap.size) (hk : Ok m.p) (hs : m.p.state = 1 ∨ m.p.state = 2) (h24 : c.toNat ≠ 24) (h26 : c.toNat ≠ 26) (h27 : c.toNat ≠ 27) :
    Calls Tryd.prog 30 #[.pointer (some ⟨b, 0, none⟩), .int .u8 c.toNat] w (Runs base b w (m.byte c)) := by
  have hc := Utf.byte_lt c
  have HE : Hid (m.byte c = m.escape c) := Lib.hid (by unfold Mc.byte; rw [if_neg (by omega), if_neg (by omega), if_pos (by omega)]; unfold Mc.low; rw [if_neg (by omega), if_pos hs])
  obtain ⟨pv, lv, pvs, hm⟩ := h
  obtain ⟨A, cc, rfl⟩ := own_shape hm.nums
  obtain ⟨A', cc', rfl⟩ := own_shape hm.evs
  obtain ⟨r0, r1, r2, r3, r4, r5⟩ := hm.reads
  obtain ⟨f0, f1, f2, f3, f4, f5⟩ := hm.free
  have HM := Lib.hid hm
  have hlow := hm.low
  have hblt := block_lt hm.block
  clear hm
  have e24 := u8_ne (c := c) (n := 24) (by omega)
  have e26 := u8_ne (c := c) (n := 26) (by omega)
  have e27 := u8_ne (c := c) (n := 27) (by omega)
  have HK := Lib.hid hk
  have HS := Lib.hid hs
  clear h24 h26 h27 hk
  rcases hs with hs | hs
  · rw [hs] at r0
    clear hs
    go_enter Tryd.func30, Tryd.ntmps30
    go_wp2_with fail
    refine (escape_any base b m c _ ⟨_, _, _, HM.out⟩ (by omega) hbase HK.out HS.out).mono ?_
    rintro e w1 ⟨rfl, hm1, hb1⟩
    have HM1 := Lib.hid hm1
    clear hm1
    go_wp2_with fail
    go_end0
    rw [HE.out]
    exact ⟨rfl, HM1.out, hb1⟩
  · rw [hs] at r0
    clear hs
    go_enter Tryd.func30, Tryd.ntmps30
    go_wp2_with fail
    refine (escape_any base b m c _ ⟨_, _, _, HM.out⟩ (by omega) hbase HK.out HS.out).mono ?_
    rintro e w1 ⟨rfl, hm1, hb1⟩
    have HM1 := Lib.hid hm1
    clear hm1
    go_wp2_with fail
    go_end0
    rw [HE.out]
    exact ⟨rfl, HM1.out, hb1⟩

set_option maxRecDepth 100000 in
set_option maxHeartbeats 3200000 in
theorem byte_s3 (base b : Nat) (m : Mc) (c : UInt8) (w : World) (h : Mach w base b m) (hl : m.l.length ≤ 500000000) (hbase : base ≤ w.heap.size) (hk : Ok m.p) (hs : m.p.state = 3) (h24 : c.toNat ≠ 24) (h26 : c.toNat ≠ 26) (h27 : c.toNat ≠ 27) :
    Calls Tryd.prog 30 #[.pointer (some ⟨b, 0, none⟩), .int .u8 c.toNat] w (Runs base b w (m.byte c)) := by
  have hc := Utf.byte_lt c
  have HE : Hid (m.byte c = m.csi c) := Lib.hid (by unfold Mc.byte; rw [if_neg (by omega), if_neg (by omega), if_pos (by omega)]; unfold Mc.low; rw [if_neg (by omega), if_neg (by omega), if_pos hs])
  obtain ⟨pv, lv, pvs, hm⟩ := h
  obtain ⟨A, cc, rfl⟩ := own_shape hm.nums
  obtain ⟨A', cc', rfl⟩ := own_shape hm.evs
  obtain ⟨r0, r1, r2, r3, r4, r5⟩ := hm.reads
  obtain ⟨f0, f1, f2, f3, f4, f5⟩ := hm.free
  have HM := Lib.hid hm
  have hlow := hm.low
  have hblt := block_lt hm.block
  clear hm
  have e24 := u8_ne (c := c) (n := 24) (by omega)
  have e26 := u8_ne (c := c) (n := 26) (by omega)
  have e27 := u8_ne (c := c) (n := 27) (by omega)
  have HK := Lib.hid hk
  rw [hs] at r0
  clear hs h24 h26 h27 hk
  go_enter Tryd.func30, Tryd.ntmps30
  go_wp2_with fail
  refine (csi_any base b m c _ ⟨_, _, _, HM.out⟩ (by omega) hbase HK.out).mono ?_
  rintro e w1 ⟨rfl, hm1, hb1⟩
  have HM1 := Lib.hid hm1
  clear hm1
  go_wp2_with fail
  go_end0
  rw [HE.out]
  exact ⟨rfl, HM1.out, hb1⟩

set_option maxRecDepth 100000 in
set_option maxHeartbeats 3200000 in
theorem byte_s4 (base b : Nat) (m : Mc) (c : UInt8) (w : World) (h : Mach w base b m) (hl : m.l.length ≤ 500000000) (hbase : base ≤ w.heap.size) (hs : m.p.state = 4) (h24 : c.toNat ≠ 24) (h26 : c.toNat ≠ 26) (h27 : c.toNat ≠ 27) :
    Calls Tryd.prog 30 #[.pointer (some ⟨b, 0, none⟩), .int .u8 c.toNat] w (Runs base b w (m.byte c)) := by
  have hc := Utf.byte_lt c
  have HE0 : Hid (m.byte c = if c.toNat < 32 then m.control c else if 64 ≤ c.toNat ∧ c.toNat ≠ 127 then m.to 0 else m) := Lib.hid (by unfold Mc.byte; rw [if_neg (by omega), if_neg (by omega), if_pos (by omega)]; unfold Mc.low; rw [if_neg (by omega), if_neg (by omega), if_neg (by omega), if_pos hs])
  obtain ⟨pv, lv, pvs, hm⟩ := h
  obtain ⟨A, cc, rfl⟩ := own_shape hm.nums
  obtain ⟨A', cc', rfl⟩ := own_shape hm.evs
  obtain ⟨r0, r1, r2, r3, r4, r5⟩ := hm.reads
  obtain ⟨f0, f1, f2, f3, f4, f5⟩ := hm.free
  have HM := Lib.hid hm
  have hlow := hm.low
  have hblt := block_lt hm.block
  clear hm
  have e24 := u8_ne (c := c) (n := 24) (by omega)
  have e26 := u8_ne (c := c) (n := 26) (by omega)
  have e27 := u8_ne (c := c) (n := 27) (by omega)
  rw [hs] at r0
  clear hs h24 h26 h27
  by_cases h32 : c.toNat < 32
  · have HE : Hid (m.byte c = m.control c) := Lib.hid (by rw [HE0.out, if_pos h32])
    have d1 : decide ((c.toNat : Int) < 32) = true := decide_eq_true (by omega)
    clear h32
    go_enter Tryd.func30, Tryd.ntmps30
    go_wp2_with fail
    refine (control_any base b m c _ ⟨_, _, _, HM.out⟩ (by omega) hbase).mono ?_
    rintro e w1 ⟨rfl, hm1, hb1⟩
    have HM1 := Lib.hid hm1
    clear hm1
    go_wp2_with fail
    go_end0
    rw [HE.out]
    exact ⟨rfl, HM1.out, hb1⟩
  have d1 : decide ((c.toNat : Int) < 32) = false := decide_eq_false (by omega)
  by_cases h64 : 64 ≤ c.toNat
  · have d2 : decide (64 ≤ (c.toNat : Int)) = true := decide_eq_true (by omega)
    by_cases h127 : c.toNat = 127
    · have HE : Hid (m.byte c = m) := Lib.hid (by rw [HE0.out, if_neg h32, if_neg (fun h => h.2 h127)])
      have d3 := u8_eq (c := c) (n := 127) (by omega)
      have d4 : ((c.toNat : Int) != 127) = false := by rw [bne, d3]; rfl
      clear h32 h64 h127
      go_enter Tryd.func30, Tryd.ntmps30
      go_wp2_with fail
      go_end0
      rw [HE.out]
      exact ⟨rfl, ⟨_, _, _, HM.out⟩, Below.refl _ _⟩
    · have HE : Hid (m.byte c = m.to 0) := Lib.hid (by rw [HE0.out, if_neg h32, if_pos ⟨h64, h127⟩])
      have d3 := u8_ne (c := c) (n := 127) (by omega)
      have d4 : ((c.toNat : Int) != 127) = true := by rw [bne, d3]; rfl
      clear h32 h64 h127
      go_enter Tryd.func30, Tryd.ntmps30
      go_wp2_with fail
      refine (to_any 0 rfl base b m _ ⟨_, _, _, HM.out⟩).mono ?_
      rintro e w1 ⟨rfl, hm1, hb1⟩
      have HM1 := Lib.hid hm1
      clear hm1
      go_wp2_with fail
      go_end0
      rw [HE.out]
      exact ⟨rfl, HM1.out, hb1⟩
  · have d2 : decide (64 ≤ (c.toNat : Int)) = false := decide_eq_false (by omega)
    have HE : Hid (m.byte c = m) := Lib.hid (by rw [HE0.out, if_neg h32, if_neg (fun h => h64 h.1)])
    clear h32 h64
    go_enter Tryd.func30, Tryd.ntmps30
    go_wp2_with fail
    go_end0
    rw [HE.out]
    exact ⟨rfl, ⟨_, _, _, HM.out⟩, Below.refl _ _⟩
end Vt
end Go.Proofs.YtjodbmfjdpbbnaaDoor
