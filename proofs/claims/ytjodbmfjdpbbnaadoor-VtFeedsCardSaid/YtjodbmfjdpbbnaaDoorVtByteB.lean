/- The reference's machine: any byte in any state. -/
import Derived.Test.YtjodbmfjdpbbnaaDoorVtByteA
namespace Go.Proofs.YtjodbmfjdpbbnaaDoor
set_option maxRecDepth 100000
open Go.RowKit
namespace Vt
/-- A byte put behind the text. -/
theorem text_end {w : World} {base b : Nat} {m : Mc} {pv lv : Value} {pvs : List Value} (h : MachAt w base b m pv lv pvs) (c : UInt8) (o : Obj) (hbase : base ≤ w.heap.size) :
    Runs base b w ⟨{ m.p with text := m.p.text ++ [c] }, m.l⟩ (.returned (.tuple #[])) ((w.setCell ⟨b, 4, none⟩ (.string (⟨m.p.text.toArray⟩ ++ ⟨#[c]⟩))).alloc o).drew := by
  have h2 := h.set_ 4 (.string (⟨m.p.text.toArray⟩ ++ ⟨#[c]⟩)) { m.p with text := m.p.text ++ [c] } rfl (by rw [Utf.str_snoc]; rfl)
  have hb : Below base w (w.setCell ⟨b, 4, none⟩ (.string (⟨m.p.text.toArray⟩ ++ ⟨#[c]⟩))) := (Below.refl _ _).setCell (p := ⟨b, 4, none⟩) h.low _
  exact ⟨rfl, ⟨pv, lv, pvs, h2.kept ((Below.refl _ _).alloc (Nat.le_refl _) o).drew⟩, (hb.alloc (by simpa using hbase) o).drew⟩

set_option maxRecDepth 100000 in
set_option maxHeartbeats 3200000 in
theorem byte_s5 (base b : Nat) (m : Mc) (c : UInt8) (w : World) (h : Mach w base b m) (hl : m.l.length ≤ 500000000) (hbase : base ≤ w.heap.size) (hk : Ok m.p) (hs : m.p.state = 5) (h24 : c.toNat ≠ 24) (h26 : c.toNat ≠ 26) :
    Calls Tryd.prog 30 #[.pointer (some ⟨b, 0, none⟩), .int .u8 c.toNat] w (Runs base b w (m.byte c)) := by
  have hc := Utf.byte_lt c
  have HE0 : Hid (m.byte c = if c.toNat = 7 then (m.tell ⟨5, 0, [], [], m.p.text⟩).to 0 else if c.toNat = 27 then ⟨{ m.p with state := 7 }, m.l⟩ else if 32 ≤ c.toNat ∧ m.p.text.length < 64 then ⟨{ m.p with text := m.p.text ++ [c] }, m.l⟩ else m) := Lib.hid (by
    unfold Mc.byte; rw [if_neg (by omega), if_neg (by omega), if_pos (by omega)]; unfold Mc.low; rw [if_neg (by omega), if_neg (by omega), if_neg (by omega), if_neg (by omega), if_pos hs])
  obtain ⟨pv, lv, pvs, hm⟩ := h
  obtain ⟨A, cc, rfl⟩ := own_shape hm.nums
  obtain ⟨A', cc', rfl⟩ := own_shape hm.evs
  obtain ⟨r0, r1, r2, r3, r4, r5⟩ := hm.reads
  obtain ⟨f0, f1, f2, f3, f4, f5⟩ := hm.free
  have HM := Lib.hid hm
  have hlow := hm.low
  have hblt := block_lt hm.block
  clear hm
  have e24 := u8_ne (c := c) (n := 24) (by omega)
  have e26 := u8_ne (c := c) (n := 26) (by omega)
  have ht64 := hk.t64
  rw [hs] at r0
  clear hs h24 h26 hk
  by_cases h7 : c.toNat = 7
  · have HE : Hid (m.byte c = (m.tell ⟨5, 0, [], [], m.p.text⟩).to 0) := Lib.hid (by rw [HE0.out, if_pos h7])
    have d7 := u8_eq (c := c) (n := 7) (by omega)
    have e27 := u8_ne (c := c) (n := 27) (by omega)
    clear h7
    obtain ⟨i, hi, hz, h5, h72⟩ := event_row
    have HI := Lib.hid hi
    have HZ := Lib.hid hz
    have H5 := Lib.hid h5
    have H72 := Lib.hid h72
    have HMA := Lib.hid (HM.out.kept (((Below.refl _ _).drew).alloc (Nat.le_refl _) (.cells #[.int .i64 5, .int .i64 0, .slice none 0 0, .string ⟨#[]⟩, .string ⟨m.p.text.toArray⟩] 63)))
    have hmaxl : m.l.length + 1 ≤ maxLen := by simp only [maxLen]; omega
    have hbytes : (m.l.length + 1) * 72 ≤ 140737488355328 := by omega
    have hbaseA : base ≤ (w.drew.alloc (.cells #[.int .i64 5, .int .i64 0, .slice none 0 0, .string ⟨#[]⟩, .string ⟨m.p.text.toArray⟩] 63)).heap.size := by simp; omega
    have HBA := Lib.hid hbaseA
    clear hi hz h5 h72
    go_enter Tryd.func30, Tryd.ntmps30
    go_wp2_with fail
    go_region_law ((refine step_append_lies _ rfl (.tmp 119) (.tmp 126) 37 rfl base 63 i _ 5 72 Tryd.underlying37 HI.out HZ.out H5.out H72.out rfl (by decide) (.slice A' m.l.length cc') m.l.length _ (by simp [Act.eval]) HMA.out.evs ⟨w.heap.size, 0, none⟩ 1 1 (evVals ⟨5, 0, [], [], m.p.text⟩ (.slice none 0 0)) (by simp [Act.eval]) rfl (At.one _ _ _ _ _ rfl rfl) (evVals_cells ⟨none, 0, 0, rfl⟩) (by decide) hmaxl hbytes hbaseA _ rfl ?_; intro g cap w1 ho1 hg1 hat1 hlt1; have HB1 := Lib.hid (HMA.out.beside hg1); have q5 : w1.cell? ⟨b, 5, none⟩ = some (.slice A' m.l.length cc') := block_cell HB1.out 5; have g5 := block_free HB1.out 5; have HO1 := Lib.hid ho1; have HG1 := Lib.hid hg1; clear ho1 hg1 hat1))
    all_goals
      have HEND := Lib.hid (tell_end (e := ⟨5, 0, [], [], m.p.text⟩) HMA.out (World.ownsRow_nil _ _ _ _) (.inl rfl) HO1.out HG1.out HBA.out)
      clear q5 g5
      go_wp2_with fail
      refine (to_any 0 rfl base b (m.tell ⟨5, 0, [], [], m.p.text⟩) _ HEND.out.2.1).mono ?_
      rintro e w2 ⟨rfl, hm2, hb2⟩
      have HM2 := Lib.hid hm2
      clear hm2
      go_wp2_with fail
      go_end0
      rw [HE.out]
      exact ⟨rfl, HM2.out, (((Below.refl base w).drew).alloc hbase _).trans (HEND.out.2.2.trans hb2)⟩
  have d7 := u8_ne (c := c) (n := 7) (by omega)
  by_cases h27 : c.toNat = 27
  · have HE : Hid (m.byte c = ⟨{ m.p with state := 7 }, m.l⟩) := Lib.hid (by rw [HE0.out, if_neg h7, if_pos h27])
    have e27 := u8_eq (c := c) (n := 27) (by omega)
    clear h7 h27
    go_enter Tryd.func30, Tryd.ntmps30
    go_wp2_with fail
    go_end0
    rw [HE.out]
    exact ⟨rfl, HM.out.set1 0 (.int .i64 7) { m.p with state := 7 } rfl rfl, (Below.refl _ _).setCell (p := ⟨b, 0, none⟩) hlow _⟩
  have e27 := u8_ne (c := c) (n := 27) (by omega)
  by_cases h32 : 32 ≤ c.toNat
  · have d32 : decide (32 ≤ (c.toNat : Int)) = true := decide_eq_true (by omega)
    by_cases hlt : m.p.text.length < 64
    · have HE : Hid (m.byte c = ⟨{ m.p with text := m.p.text ++ [c] }, m.l⟩) := Lib.hid (by rw [HE0.out, if_neg h7, if_neg h27, if_pos ⟨h32, hlt⟩])
      have d64 : decide ((m.p.text.length : Int) < 64) = true := decide_eq_true (by omega)
      have hcat : ¬ 9223372036854775807 < m.p.text.length + 1 := by omega
      have hcv := fun (W : World) (hq : W.cell? ⟨w.heap.size, 0, none⟩ = some (.int .u8 c.toNat)) => run_convert_byte1 (P := Tryd.prog) W 46 9 5 ⟨w.heap.size, 0, none⟩ 1 c Tryd.underlying46 Tryd.underlying5 Tryd.underlying9 hq
      clear h7 h27 h32 hlt
      go_enter Tryd.func30, Tryd.ntmps30
      go_wp2_with fail
      go_region
      go_wp2_with fail
      go_end0
      rw [HE.out]
      exact text_end HM.out c _ hbase
    · have HE : Hid (m.byte c = m) := Lib.hid (by rw [HE0.out, if_neg h7, if_neg h27, if_neg (fun h => hlt h.2)])
      have d64 : decide ((m.p.text.length : Int) < 64) = false := decide_eq_false (by omega)
      clear h7 h27 h32 hlt
      go_enter Tryd.func30, Tryd.ntmps30
      go_wp2_with fail
      go_end0
      rw [HE.out]
      exact ⟨rfl, ⟨_, _, _, HM.out⟩, Below.refl _ _⟩
  · have HE : Hid (m.byte c = m) := Lib.hid (by rw [HE0.out, if_neg h7, if_neg h27, if_neg (fun h => h32 h.1)])
    have d32 : decide (32 ≤ (c.toNat : Int)) = false := decide_eq_false (by omega)
    clear h7 h27 h32
    go_enter Tryd.func30, Tryd.ntmps30
    go_wp2_with fail
    go_end0
    rw [HE.out]
    exact ⟨rfl, ⟨_, _, _, HM.out⟩, Below.refl _ _⟩

set_option maxRecDepth 100000 in
set_option maxHeartbeats 3200000 in
theorem byte_s6 (base b : Nat) (m : Mc) (c : UInt8) (w : World) (h : Mach w base b m) (hs : m.p.state = 6) (h24 : c.toNat ≠ 24) (h26 : c.toNat ≠ 26) :
    Calls Tryd.prog 30 #[.pointer (some ⟨b, 0, none⟩), .int .u8 c.toNat] w (Runs base b w (m.byte c)) := by
  have hc := Utf.byte_lt c
  have HE0 : Hid (m.byte c = if c.toNat = 27 then m.to 8 else m) := Lib.hid (by
    unfold Mc.byte; rw [if_neg (by omega), if_neg (by omega), if_pos (by omega)]; unfold Mc.low; rw [if_neg (by omega), if_neg (by omega), if_neg (by omega), if_neg (by omega), if_neg (by omega)])
  obtain ⟨pv, lv, pvs, hm⟩ := h
  obtain ⟨A, cc, rfl⟩ := own_shape hm.nums
  obtain ⟨A', cc', rfl⟩ := own_shape hm.evs
  obtain ⟨r0, r1, r2, r3, r4, r5⟩ := hm.reads
  obtain ⟨f0, f1, f2, f3, f4, f5⟩ := hm.free
  have HM := Lib.hid hm
  have hlow := hm.low
  have hblt := block_lt hm.block
  clear hm
  have e24 := u8_ne (c := c) (n := 24) (by omega)
  have e26 := u8_ne (c := c) (n := 26) (by omega)
  rw [hs] at r0
  clear hs h24 h26
  by_cases h27 : c.toNat = 27
  · have HE : Hid (m.byte c = m.to 8) := Lib.hid (by rw [HE0.out, if_pos h27])
    have e27 := u8_eq (c := c) (n := 27) (by omega)
    clear h27
    go_enter Tryd.func30, Tryd.ntmps30
    go_wp2_with fail
    refine (to_any 8 rfl base b m _ ⟨_, _, _, HM.out⟩).mono ?_
    rintro e w1 ⟨rfl, hm1, hb1⟩
    have HM1 := Lib.hid hm1
    clear hm1
    go_wp2_with fail
    go_end0
    rw [HE.out]
    exact ⟨rfl, HM1.out, hb1⟩
  · have HE : Hid (m.byte c = m) := Lib.hid (by rw [HE0.out, if_neg h27])
    have e27 := u8_ne (c := c) (n := 27) (by omega)
    clear h27
    go_enter Tryd.func30, Tryd.ntmps30
    go_wp2_with fail
    go_end0
    rw [HE.out]
    exact ⟨rfl, ⟨_, _, _, HM.out⟩, Below.refl _ _⟩

set_option maxRecDepth 100000 in
set_option maxHeartbeats 3200000 in
theorem byte_s7 (base b : Nat) (m : Mc) (c : UInt8) (w : World) (h : Mach w base b m) (hl : m.l.length ≤ 500000000) (hbase : base ≤ w.heap.size) (hs : m.p.state = 7) (h24 : c.toNat ≠ 24) (h26 : c.toNat ≠ 26) (h27 : c.toNat ≠ 27) :
    Calls Tryd.prog 30 #[.pointer (some ⟨b, 0, none⟩), .int .u8 c.toNat] w (Runs base b w (m.byte c)) := by
  have hc := Utf.byte_lt c
  have HE0 : Hid (m.byte c = if c.toNat = 92 then (m.tell ⟨5, 0, [], [], m.p.text⟩).to 0 else (m.to 1).escape c) := Lib.hid (by
    unfold Mc.byte; rw [if_neg (by omega), if_neg (by omega), if_neg (by omega)]
    first | rw [if_pos hs] | rw [if_neg (show ¬ m.p.state = 7 by omega)])
  have HB : Hid ((m.to 1).byte c = (m.to 1).escape c) := Lib.hid (by
    unfold Mc.byte; rw [show (m.to 1).p.state = 1 from rfl, if_neg (by omega), if_neg (by omega), if_pos (by decide)]; unfold Mc.low; rw [show (m.to 1).p.state = 1 from rfl, if_neg (by decide), if_pos (.inl rfl)])
  have H24 := Lib.hid h24
  have H26 := Lib.hid h26
  have H27 := Lib.hid h27
  obtain ⟨pv, lv, pvs, hm⟩ := h
  obtain ⟨A, cc, rfl⟩ := own_shape hm.nums
  obtain ⟨A', cc', rfl⟩ := own_shape hm.evs
  obtain ⟨r0, r1, r2, r3, r4, r5⟩ := hm.reads
  obtain ⟨f0, f1, f2, f3, f4, f5⟩ := hm.free
  have HM := Lib.hid hm
  have hlow := hm.low
  have hblt := block_lt hm.block
  clear hm
  have e24 := u8_ne (c := c) (n := 24) (by omega)
  have e26 := u8_ne (c := c) (n := 26) (by omega)
  have e27 := u8_ne (c := c) (n := 27) (by omega)
  rw [hs] at r0
  clear hs h24 h26 h27
  by_cases h92 : c.toNat = 92
  · have HE : Hid (m.byte c = (m.tell ⟨5, 0, [], [], m.p.text⟩).to 0) := Lib.hid (by rw [HE0.out, if_pos h92])
    have d92 := u8_eq (c := c) (n := 92) (by omega)
    clear h92
    obtain ⟨i, hi, hz, h5, h72⟩ := event_row
    have HI := Lib.hid hi
    have HZ := Lib.hid hz
    have H5 := Lib.hid h5
    have H72 := Lib.hid h72
    have HMA := Lib.hid (HM.out.kept (((Below.refl _ _).drew).alloc (Nat.le_refl _) (.cells #[.int .i64 5, .int .i64 0, .slice none 0 0, .string ⟨#[]⟩, .string ⟨m.p.text.toArray⟩] 63)))
    have hmaxl : m.l.length + 1 ≤ maxLen := by simp only [maxLen]; omega
    have hbytes : (m.l.length + 1) * 72 ≤ 140737488355328 := by omega
    have hbaseA : base ≤ (w.drew.alloc (.cells #[.int .i64 5, .int .i64 0, .slice none 0 0, .string ⟨#[]⟩, .string ⟨m.p.text.toArray⟩] 63)).heap.size := by simp; omega
    have HBA := Lib.hid hbaseA
    clear hi hz h5 h72
    go_enter Tryd.func30, Tryd.ntmps30
    go_wp2_with fail
    go_region_law ((refine step_append_lies _ rfl (.tmp 61) (.tmp 68) 37 rfl base 63 i _ 5 72 Tryd.underlying37 HI.out HZ.out H5.out H72.out rfl (by decide) (.slice A' m.l.length cc') m.l.length _ (by simp [Act.eval]) HMA.out.evs ⟨w.heap.size, 0, none⟩ 1 1 (evVals ⟨5, 0, [], [], m.p.text⟩ (.slice none 0 0)) (by simp [Act.eval]) rfl (At.one _ _ _ _ _ rfl rfl) (evVals_cells ⟨none, 0, 0, rfl⟩) (by decide) hmaxl hbytes hbaseA _ rfl ?_; intro g cap w1 ho1 hg1 hat1 hlt1; have HB1 := Lib.hid (HMA.out.beside hg1); have q5 : w1.cell? ⟨b, 5, none⟩ = some (.slice A' m.l.length cc') := block_cell HB1.out 5; have g5 := block_free HB1.out 5; have HO1 := Lib.hid ho1; have HG1 := Lib.hid hg1; clear ho1 hg1 hat1))
    all_goals
      have HEND := Lib.hid (tell_end (e := ⟨5, 0, [], [], m.p.text⟩) HMA.out (World.ownsRow_nil _ _ _ _) (.inl rfl) HO1.out HG1.out HBA.out)
      clear q5 g5
      go_wp2_with fail
      refine (to_any 0 rfl base b (m.tell ⟨5, 0, [], [], m.p.text⟩) _ HEND.out.2.1).mono ?_
      rintro e w2 ⟨rfl, hm2, hb2⟩
      have HM2 := Lib.hid hm2
      clear hm2
      go_wp2_with fail
      go_end0
      rw [HE.out]
      exact ⟨rfl, HM2.out, (((Below.refl base w).drew).alloc hbase _).trans (HEND.out.2.2.trans hb2)⟩
  · have HE : Hid (m.byte c = (m.to 1).byte c) := Lib.hid (by rw [HE0.out, if_neg h92, HB.out])
    have d92 := u8_ne (c := c) (n := 92) (by omega)
    clear h92
    go_enter Tryd.func30, Tryd.ntmps30
    go_wp2_with fail
    refine (to_any 1 rfl base b m _ ⟨_, _, _, HM.out⟩).mono ?_
    rintro e w1 ⟨rfl, hm1, hb1⟩
    have HM1 := Lib.hid hm1
    have hz1 : base ≤ w1.heap.size := Nat.le_trans hbase hb1.size
    clear hm1
    go_wp2_with fail
    refine (byte_s12 base b (m.to 1) c _ HM1.out (by show m.l.length ≤ _; omega) hz1 (ok_none (by decide) (by decide) (by decide)) (.inl rfl) H24.out H26.out H27.out).mono ?_
    rintro e w2 ⟨rfl, hm2, hb2⟩
    have HM2 := Lib.hid hm2
    clear hm2
    go_wp2_with fail
    go_end0
    rw [HE.out]
    exact ⟨rfl, HM2.out, hb1.trans hb2⟩

set_option maxRecDepth 100000 in
set_option maxHeartbeats 3200000 in
theorem byte_s8 (base b : Nat) (m : Mc) (c : UInt8) (w : World) (h : Mach w base b m) (hl : m.l.length ≤ 500000000) (hbase : base ≤ w.heap.size) (hs : m.p.state = 8) (h24 : c.toNat ≠ 24) (h26 : c.toNat ≠ 26) (h27 : c.toNat ≠ 27) :
    Calls Tryd.prog 30 #[.pointer (some ⟨b, 0, none⟩), .int .u8 c.toNat] w (Runs base b w (m.byte c)) := by
  have hc := Utf.byte_lt c
  have HE0 : Hid (m.byte c = if c.toNat = 92 then m.to 0 else (m.to 1).escape c) := Lib.hid (by
    unfold Mc.byte; rw [if_neg (by omega), if_neg (by omega), if_neg (by omega)]
    first | rw [if_pos hs] | rw [if_neg (show ¬ m.p.state = 7 by omega)])
  have HB : Hid ((m.to 1).byte c = (m.to 1).escape c) := Lib.hid (by
    unfold Mc.byte; rw [show (m.to 1).p.state = 1 from rfl, if_neg (by omega), if_neg (by omega), if_pos (by decide)]; unfold Mc.low; rw [show (m.to 1).p.state = 1 from rfl, if_neg (by decide), if_pos (.inl rfl)])
  have H24 := Lib.hid h24
  have H26 := Lib.hid h26
  have H27 := Lib.hid h27
  obtain ⟨pv, lv, pvs, hm⟩ := h
  obtain ⟨A, cc, rfl⟩ := own_shape hm.nums
  obtain ⟨A', cc', rfl⟩ := own_shape hm.evs
  obtain ⟨r0, r1, r2, r3, r4, r5⟩ := hm.reads
  obtain ⟨f0, f1, f2, f3, f4, f5⟩ := hm.free
  have HM := Lib.hid hm
  have hlow := hm.low
  have hblt := block_lt hm.block
  clear hm
  have e24 := u8_ne (c := c) (n := 24) (by omega)
  have e26 := u8_ne (c := c) (n := 26) (by omega)
  have e27 := u8_ne (c := c) (n := 27) (by omega)
  rw [hs] at r0
  clear hs h24 h26 h27
  by_cases h92 : c.toNat = 92
  · have HE : Hid (m.byte c = m.to 0) := Lib.hid (by rw [HE0.out, if_pos h92])
    have d92 := u8_eq (c := c) (n := 92) (by omega)
    clear h92
    go_enter Tryd.func30, Tryd.ntmps30
    go_wp2_with fail
    refine (to_any 0 rfl base b m _ ⟨_, _, _, HM.out⟩).mono ?_
    rintro e w1 ⟨rfl, hm1, hb1⟩
    have HM1 := Lib.hid hm1
    clear hm1
    go_wp2_with fail
    go_end0
    rw [HE.out]
    exact ⟨rfl, HM1.out, hb1⟩
  · have HE : Hid (m.byte c = (m.to 1).byte c) := Lib.hid (by rw [HE0.out, if_neg h92, HB.out])
    have d92 := u8_ne (c := c) (n := 92) (by omega)
    clear h92
    go_enter Tryd.func30, Tryd.ntmps30
    go_wp2_with fail
    refine (to_any 1 rfl base b m _ ⟨_, _, _, HM.out⟩).mono ?_
    rintro e w1 ⟨rfl, hm1, hb1⟩
    have HM1 := Lib.hid hm1
    have hz1 : base ≤ w1.heap.size := Nat.le_trans hbase hb1.size
    clear hm1
    go_wp2_with fail
    refine (byte_s12 base b (m.to 1) c _ HM1.out (by show m.l.length ≤ _; omega) hz1 (ok_none (by decide) (by decide) (by decide)) (.inl rfl) H24.out H26.out H27.out).mono ?_
    rintro e w2 ⟨rfl, hm2, hb2⟩
    have HM2 := Lib.hid hm2
    clear hm2
    go_wp2_with fail
    go_end0
    rw [HE.out]
    exact ⟨rfl, HM2.out, hb1.trans hb2⟩
theorem byte_any (base b : Nat) (m : Mc) (c : UInt8) (w : World) (h : Mach w base b m) (hl : m.l.length ≤ 500000000) (hbase : base ≤ w.heap.size) (hk : Ok m.p) :
    Calls Tryd.prog 30 #[.pointer (some ⟨b, 0, none⟩), .int .u8 c.toNat] w (Runs base b w (m.byte c)) := by
  have h0 := hk.s0
  have h8 := hk.s8
  by_cases hst : c.toNat = 24 ∨ c.toNat = 26
  · exact byte_stop base b m c w h hl hbase hst
  have h24 : c.toNat ≠ 24 := fun e => hst (.inl e)
  have h26 : c.toNat ≠ 26 := fun e => hst (.inr e)
  by_cases h5 : m.p.state = 5
  · exact byte_s5 base b m c w h hl hbase hk h5 h24 h26
  by_cases h6 : m.p.state = 6
  · exact byte_s6 base b m c w h h6 h24 h26
  by_cases h27 : c.toNat = 27
  · exact byte_esc base b m c w h hl hbase h27 h5 h6
  by_cases s0 : m.p.state = 0
  · exact byte_s0 base b m c w h hl hbase hk s0 h24 h26 h27
  by_cases s12 : m.p.state = 1 ∨ m.p.state = 2
  · exact byte_s12 base b m c w h hl hbase hk s12 h24 h26 h27
  by_cases s3 : m.p.state = 3
  · exact byte_s3 base b m c w h hl hbase hk s3 h24 h26 h27
  by_cases s4 : m.p.state = 4
  · exact byte_s4 base b m c w h hl hbase s4 h24 h26 h27
  by_cases s7 : m.p.state = 7
  · exact byte_s7 base b m c w h hl hbase s7 h24 h26 h27
  · exact byte_s8 base b m c w h hl hbase (by omega) h24 h26 h27
end Vt
end Go.Proofs.YtjodbmfjdpbbnaaDoor
