/- The reference's machine: a byte behind an escape. -/
import Derived.Test.YtjodbmfjdpbbnaaDoorVtMach2
namespace Go.Proofs.YtjodbmfjdpbbnaaDoor
set_option maxRecDepth 100000
open Go.RowKit
namespace Vt

theorem MachAt.set_ {w : World} {base b : Nat} {m : Mc} {pv lv : Value} {pvs : List Value} (h : MachAt w base b m pv lv pvs) (j : Nat) (u : Value) (p' : Ps) (hp : p'.params = m.p.params) (hcs : (cells6 m.p pv lv).setIfInBounds j u = cells6 p' pv lv) :
    MachAt (w.setCell ⟨b, j, none⟩ u) base b ⟨p', m.l⟩ pv lv pvs := h.upd (set_grown w ⟨b, j, none⟩ u) p' hp (by rw [← hcs]; exact block_set h.block j u)
/-- A byte put behind the bytes between; the state first. -/
theorem inter_end {w : World} {base b : Nat} {m : Mc} {pv lv : Value} {pvs : List Value} (h : MachAt w base b m pv lv pvs) (s : Int) (c : UInt8) (o : Obj) (hbase : base ≤ w.heap.size) :
    Runs base b w ⟨{ m.p with state := s, inter := m.p.inter ++ [c] }, m.l⟩ (.returned (.tuple #[])) (((w.setCell ⟨b, 0, none⟩ (.int .i64 s)).setCell ⟨b, 3, none⟩ (.string (⟨m.p.inter.toArray⟩ ++ ⟨#[c]⟩))).alloc o).drew := by
  have h1 := h.set_ 0 (.int .i64 s) { m.p with state := s } rfl rfl
  have h2 := h1.set_ 3 (.string (⟨m.p.inter.toArray⟩ ++ ⟨#[c]⟩)) { m.p with state := s, inter := m.p.inter ++ [c] } rfl (by rw [Utf.str_snoc]; rfl)
  have hb : Below base w ((w.setCell ⟨b, 0, none⟩ (.int .i64 s)).setCell ⟨b, 3, none⟩ (.string (⟨m.p.inter.toArray⟩ ++ ⟨#[c]⟩))) := ((Below.refl _ _).setCell (p := ⟨b, 0, none⟩) h.low _).setCell (p := ⟨b, 3, none⟩) h.low _
  exact ⟨rfl, ⟨pv, lv, pvs, h2.kept ((Below.refl _ _).alloc (Nat.le_refl _) o).drew⟩, (hb.alloc (by simpa using hbase) o).drew⟩

set_option maxHeartbeats 1600000 in
theorem escape_inter (base b : Nat) (m : Mc) (c : UInt8) (w : World) (h : Mach w base b m) (hbase : base ≤ w.heap.size) (hk : Ok m.p) (h32 : ¬ c.toNat < 32) (h47 : c.toNat ≤ 47) :
    Calls Tryd.prog 46 #[.pointer (some ⟨b, 0, none⟩), .int .u8 c.toNat] w (Runs base b w (m.escape c)) := by
  have hc := Utf.byte_lt c
  obtain ⟨pv, lv, pvs, hm⟩ := h
  obtain ⟨A, cc, rfl⟩ := own_shape hm.nums
  obtain ⟨A', cc', rfl⟩ := own_shape hm.evs
  obtain ⟨r0, r1, r2, r3, r4, r5⟩ := hm.reads
  obtain ⟨f0, f1, f2, f3, f4, f5⟩ := hm.free
  have HM := Lib.hid hm
  have hlow := hm.low
  have hblt := block_lt hm.block
  have hd1 : decide ((c.toNat : Int) < 32) = false := decide_eq_false (by omega)
  have hd2 : decide ((c.toNat : Int) ≤ 47) = true := decide_eq_true (by omega)
  have hcat : ¬ 9223372036854775807 < m.p.inter.length + 1 := by have := hk.i3; omega
  have hcv := fun (W : World) (hq : W.cell? ⟨w.heap.size, 0, none⟩ = some (.int .u8 c.toNat)) => run_convert_byte1 (P := Tryd.prog) W 46 9 5 ⟨w.heap.size, 0, none⟩ 1 c Tryd.underlying46 Tryd.underlying5 Tryd.underlying9 hq
  by_cases h3 : m.p.inter.length < 3
  · have HE : Hid (m.escape c = ⟨{ m.p with state := 2, inter := m.p.inter ++ [c] }, m.l⟩) := Lib.hid (by unfold Mc.escape; rw [if_neg h32, if_pos h47, if_pos h3])
    clear hm hk
    go_enter Tryd.func46, Tryd.ntmps46
    go_wp2_with fail
    go_region
    go_wp2_with fail
    go_end0
    rw [HE.out]
    exact inter_end HM.out 2 c _ hbase
  · have HE : Hid (m.escape c = ⟨{ m.p with state := 2 }, m.l⟩) := Lib.hid (by unfold Mc.escape; rw [if_neg h32, if_pos h47, if_neg h3])
    have hd3 : decide ((m.p.inter.length : Int) < 3) = false := decide_eq_false (by omega)
    clear hm hk h3 hcv hcat
    go_enter Tryd.func46, Tryd.ntmps46
    go_wp2_with fail
    go_end0
    rw [HE.out]
    exact ⟨rfl, HM.out.set1 0 (.int .i64 2) { m.p with state := 2 } rfl rfl, (Below.refl _ _).setCell hlow _⟩

/-- Tests on a byte against a number, in the walk's spelling. -/
theorem u8_ne {c : UInt8} {n : Int} (h : (c.toNat : Int) ≠ n) : ((c.toNat : Int) == n) = false := by rw [beq_eq_false_iff_ne]; exact h
theorem u8_eq {c : UInt8} {n : Int} (h : (c.toNat : Int) = n) : ((c.toNat : Int) == n) = true := by rw [beq_iff_eq]; exact h
theorem isStr_no {c : UInt8} (h : isStr c = false) : ((c.toNat : Int) == 80) = false ∧ ((c.toNat : Int) == 88) = false ∧ ((c.toNat : Int) == 94) = false ∧ ((c.toNat : Int) == 95) = false := by
  simp only [isStr, Bool.or_eq_false_iff, beq_eq_false_iff_ne] at h
  refine ⟨u8_ne ?_, u8_ne ?_, u8_ne ?_, u8_ne ?_⟩ <;> omega
theorem isStr_yes {c : UInt8} (h : isStr c = true) : c.toNat = 80 ∨ c.toNat = 88 ∨ c.toNat = 94 ∨ c.toNat = 95 := by
  simp only [isStr, Bool.or_eq_true, beq_iff_eq] at h
  omega

set_option maxRecDepth 100000 in
set_option maxHeartbeats 3200000 in
theorem escape_any (base b : Nat) (m : Mc) (c : UInt8) (w : World) (h : Mach w base b m) (hl : m.l.length ≤ 600000000) (hbase : base ≤ w.heap.size) (hk : Ok m.p) (hs : m.p.state = 1 ∨ m.p.state = 2) :
    Calls Tryd.prog 46 #[.pointer (some ⟨b, 0, none⟩), .int .u8 c.toNat] w (Runs base b w (m.escape c)) := by
  have hc := Utf.byte_lt c
  by_cases h32 : c.toNat < 32
  · have HE : Hid (m.escape c = m.control c) := Lib.hid (by unfold Mc.escape; rw [if_pos h32])
    have hd1 : decide ((c.toNat : Int) < 32) = true := decide_eq_true (by omega)
    have H := Lib.hid h
    obtain ⟨pv, lv, pvs, hm⟩ := h
    obtain ⟨r0, r1, r2, r3, r4, r5⟩ := hm.reads
    clear hm hk hs
    go_enter Tryd.func46, Tryd.ntmps46
    go_wp2_with fail
    refine (control_any base b m c _ H.out (by omega) hbase).mono ?_
    rintro e w1 ⟨rfl, hm1, hb1⟩
    have HM1 := Lib.hid hm1
    clear hm1
    go_wp2_with fail
    go_end0
    rw [HE.out]
    exact ⟨rfl, HM1.out, hb1⟩
  by_cases h47 : c.toNat ≤ 47
  · exact escape_inter base b m c w h hbase hk h32 h47
  have hd1 : decide ((c.toNat : Int) < 32) = false := decide_eq_false (by omega)
  have hd2 : decide ((c.toNat : Int) ≤ 47) = false := decide_eq_false (by omega)
  obtain ⟨pv, lv, pvs, hm⟩ := h
  obtain ⟨A, cc, rfl⟩ := own_shape hm.nums
  obtain ⟨A', cc', rfl⟩ := own_shape hm.evs
  obtain ⟨r0, r1, r2, r3, r4, r5⟩ := hm.reads
  obtain ⟨f0, f1, f2, f3, f4, f5⟩ := hm.free
  have HM := Lib.hid hm
  have hblt := block_lt hm.block
  by_cases h127 : c.toNat = 127
  · have HE : Hid (m.escape c = m) := Lib.hid (by unfold Mc.escape; rw [if_neg h32, if_neg h47, if_pos h127])
    have hd3 := u8_eq (c := c) (n := 127) (by omega)
    clear hm hk hs h32 h47 h127
    go_enter Tryd.func46, Tryd.ntmps46
    go_wp2_with fail
    go_end0
    rw [HE.out]
    exact ⟨rfl, ⟨_, _, _, HM.out⟩, Below.refl _ _⟩
  have hd3 := u8_ne (c := c) (n := 127) (by omega)
  by_cases hgt : 127 < c.toNat
  · have HE : Hid (m.escape c = m.to 0) := Lib.hid (by unfold Mc.escape; rw [if_neg h32, if_neg h47, if_neg h127, if_pos hgt])
    have hd4 : decide (127 < (c.toNat : Int)) = true := decide_eq_true (by omega)
    clear hm hk hs h32 h47 h127 hgt
    go_enter Tryd.func46, Tryd.ntmps46
    go_wp2_with fail
    refine (to_any 0 rfl base b m _ ⟨_, _, _, HM.out⟩).mono ?_
    rintro e w1 ⟨rfl, hm1, hb1⟩
    have HM1 := Lib.hid hm1
    clear hm1
    go_wp2_with fail
    go_end0
    rw [HE.out]
    exact ⟨rfl, HM1.out, hb1⟩
  have hd4 : decide (127 < (c.toNat : Int)) = false := decide_eq_false (by omega)
  by_cases h1 : m.p.state = 1
  · rw [h1] at r0
    by_cases h91 : c.toNat = 91
    · have HE : Hid (m.escape c = m.to 3) := Lib.hid (by unfold Mc.escape; rw [if_neg h32, if_neg h47, if_neg h127, if_neg hgt, if_pos ⟨h1, h91⟩])
      have hd5 := u8_eq (c := c) (n := 91) (by omega)
      clear hm hk hs h32 h47 h127 hgt h1 h91
      go_enter Tryd.func46, Tryd.ntmps46
      go_wp2_with fail
      refine (to_any 3 rfl base b m _ ⟨_, _, _, HM.out⟩).mono ?_
      rintro e w1 ⟨rfl, hm1, hb1⟩
      have HM1 := Lib.hid hm1
      clear hm1
      go_wp2_with fail
      go_end0
      rw [HE.out]
      exact ⟨rfl, HM1.out, hb1⟩
    have hd5 := u8_ne (c := c) (n := 91) (by omega)
    by_cases h93 : c.toNat = 93
    · have HE : Hid (m.escape c = m.to 5) := Lib.hid (by unfold Mc.escape; rw [if_neg h32, if_neg h47, if_neg h127, if_neg hgt, if_neg (fun h => h91 h.2), if_pos ⟨h1, h93⟩])
      have hd6 := u8_eq (c := c) (n := 93) (by omega)
      clear hm hk hs h32 h47 h127 hgt h1 h91 h93
      go_enter Tryd.func46, Tryd.ntmps46
      go_wp2_with fail
      refine (to_any 5 rfl base b m _ ⟨_, _, _, HM.out⟩).mono ?_
      rintro e w1 ⟨rfl, hm1, hb1⟩
      have HM1 := Lib.hid hm1
      clear hm1
      go_wp2_with fail
      go_end0
      rw [HE.out]
      exact ⟨rfl, HM1.out, hb1⟩
    have hd6 := u8_ne (c := c) (n := 93) (by omega)
    cases hst : isStr c
    · have HE : Hid (m.escape c = (m.tell ⟨3, c.toNat, [], m.p.inter, []⟩).to 0) := Lib.hid (by unfold Mc.escape; rw [if_neg h32, if_neg h47, if_neg h127, if_neg hgt, if_neg (fun h => h91 h.2), if_neg (fun h => h93 h.2), if_neg (fun h => by rw [hst] at h; cases h.2)])
      obtain ⟨s1, s2, s3, s4⟩ := isStr_no hst
      clear hm hk hs h32 h47 h127 hgt h1 h91 h93 hst
      obtain ⟨i, hi, hz, h5, h72⟩ := event_row
      have HI := Lib.hid hi
      have HZ := Lib.hid hz
      have H5 := Lib.hid h5
      have H72 := Lib.hid h72
      have HMA := Lib.hid (HM.out.kept (((Below.refl _ _).drew).alloc (Nat.le_refl _) (.cells #[.int .i64 3, .int .i64 c.toNat, .slice none 0 0, .string ⟨m.p.inter.toArray⟩, .string ⟨#[]⟩] 63)))
      have hmaxl : m.l.length + 1 ≤ maxLen := by simp only [maxLen]; omega
      have hbytes : (m.l.length + 1) * 72 ≤ 140737488355328 := by omega
      have hbaseA : base ≤ (w.drew.alloc (.cells #[.int .i64 3, .int .i64 c.toNat, .slice none 0 0, .string ⟨m.p.inter.toArray⟩, .string ⟨#[]⟩] 63)).heap.size := by simp; omega
      have HBA := Lib.hid hbaseA
      have hwc : IntKind.i64.wrap (c.toNat : Int) = (c.toNat : Int) := IntWalk.i64_in _ (by omega)
      clear hi hz h5 h72
      go_enter Tryd.func46, Tryd.ntmps46
      go_wp2_with fail
      go_region_law ((refine step_append_lies _ rfl (.tmp 15) (.tmp 24) 37 rfl base 63 i _ 5 72 Tryd.underlying37 HI.out HZ.out H5.out H72.out rfl (by decide) (.slice A' m.l.length cc') m.l.length _ (by simp [Act.eval]) HMA.out.evs ⟨w.heap.size, 0, none⟩ 1 1 (evVals ⟨3, c.toNat, [], m.p.inter, []⟩ (.slice none 0 0)) (by simp [Act.eval]) rfl (At.one _ _ _ _ _ rfl rfl) (evVals_cells ⟨none, 0, 0, rfl⟩) (by decide) hmaxl hbytes hbaseA _ rfl ?_; intro g cap w1 ho1 hg1 hat1 hlt1; have HB1 := Lib.hid (HMA.out.beside hg1); have q5 : w1.cell? ⟨b, 5, none⟩ = some (.slice A' m.l.length cc') := block_cell HB1.out 5; have g5 := block_free HB1.out 5; have HO1 := Lib.hid ho1; have HG1 := Lib.hid hg1; clear ho1 hg1 hat1))
      all_goals
        have HEND := Lib.hid (tell_end (e := ⟨3, c.toNat, [], m.p.inter, []⟩) HMA.out (World.ownsRow_nil _ _ _ _) (.inl rfl) HO1.out HG1.out HBA.out)
        clear q5 g5
        go_wp2_with fail
        refine (to_any 0 rfl base b (m.tell ⟨3, c.toNat, [], m.p.inter, []⟩) _ HEND.out.2.1).mono ?_
        rintro e w2 ⟨rfl, hm2, hb2⟩
        have HM2 := Lib.hid hm2
        clear hm2
        go_wp2_with fail
        go_end0
        rw [HE.out]
        exact ⟨rfl, HM2.out, (((Below.refl base w).drew).alloc hbase _).trans (HEND.out.2.2.trans hb2)⟩
    · have HE : Hid (m.escape c = m.to 6) := Lib.hid (by unfold Mc.escape; rw [if_neg h32, if_neg h47, if_neg h127, if_neg hgt, if_neg (fun h => h91 h.2), if_neg (fun h => h93 h.2), if_pos ⟨h1, hst⟩])
      have hcs := isStr_yes hst
      clear hm hk hs h32 h47 h127 hgt h1 h91 h93 hst
      rcases hcs with hcs | hcs | hcs | hcs
      · have e0 := u8_eq (c := c) (n := 80) (by omega)
        clear hcs
        go_enter Tryd.func46, Tryd.ntmps46
        go_wp2_with fail
        refine (to_any 6 rfl base b m _ ⟨_, _, _, HM.out⟩).mono ?_
        rintro e w1 ⟨rfl, hm1, hb1⟩
        have HM1 := Lib.hid hm1
        clear hm1
        go_wp2_with fail
        go_end0
        rw [HE.out]
        exact ⟨rfl, HM1.out, hb1⟩
      · have e0 := u8_ne (c := c) (n := 80) (by omega)
        have e1 := u8_eq (c := c) (n := 88) (by omega)
        clear hcs
        go_enter Tryd.func46, Tryd.ntmps46
        go_wp2_with fail
        refine (to_any 6 rfl base b m _ ⟨_, _, _, HM.out⟩).mono ?_
        rintro e w1 ⟨rfl, hm1, hb1⟩
        have HM1 := Lib.hid hm1
        clear hm1
        go_wp2_with fail
        go_end0
        rw [HE.out]
        exact ⟨rfl, HM1.out, hb1⟩
      · have e0 := u8_ne (c := c) (n := 80) (by omega)
        have e1 := u8_ne (c := c) (n := 88) (by omega)
        have e2 := u8_eq (c := c) (n := 94) (by omega)
        clear hcs
        go_enter Tryd.func46, Tryd.ntmps46
        go_wp2_with fail
        refine (to_any 6 rfl base b m _ ⟨_, _, _, HM.out⟩).mono ?_
        rintro e w1 ⟨rfl, hm1, hb1⟩
        have HM1 := Lib.hid hm1
        clear hm1
        go_wp2_with fail
        go_end0
        rw [HE.out]
        exact ⟨rfl, HM1.out, hb1⟩
      · have e0 := u8_ne (c := c) (n := 80) (by omega)
        have e1 := u8_ne (c := c) (n := 88) (by omega)
        have e2 := u8_ne (c := c) (n := 94) (by omega)
        have e3 := u8_eq (c := c) (n := 95) (by omega)
        clear hcs
        go_enter Tryd.func46, Tryd.ntmps46
        go_wp2_with fail
        refine (to_any 6 rfl base b m _ ⟨_, _, _, HM.out⟩).mono ?_
        rintro e w1 ⟨rfl, hm1, hb1⟩
        have HM1 := Lib.hid hm1
        clear hm1
        go_wp2_with fail
        go_end0
        rw [HE.out]
        exact ⟨rfl, HM1.out, hb1⟩
  · have h2 : m.p.state = 2 := by omega
    rw [h2] at r0
    have HE : Hid (m.escape c = (m.tell ⟨3, c.toNat, [], m.p.inter, []⟩).to 0) := Lib.hid (by unfold Mc.escape; rw [if_neg h32, if_neg h47, if_neg h127, if_neg hgt, if_neg (fun h => h1 h.1), if_neg (fun h => h1 h.1), if_neg (fun h => h1 h.1)])
    clear hm hk hs h32 h47 h127 hgt h1 h2
    obtain ⟨i, hi, hz, h5, h72⟩ := event_row
    have HI := Lib.hid hi
    have HZ := Lib.hid hz
    have H5 := Lib.hid h5
    have H72 := Lib.hid h72
    have HMA := Lib.hid (HM.out.kept (((Below.refl _ _).drew).alloc (Nat.le_refl _) (.cells #[.int .i64 3, .int .i64 c.toNat, .slice none 0 0, .string ⟨m.p.inter.toArray⟩, .string ⟨#[]⟩] 63)))
    have hmaxl : m.l.length + 1 ≤ maxLen := by simp only [maxLen]; omega
    have hbytes : (m.l.length + 1) * 72 ≤ 140737488355328 := by omega
    have hbaseA : base ≤ (w.drew.alloc (.cells #[.int .i64 3, .int .i64 c.toNat, .slice none 0 0, .string ⟨m.p.inter.toArray⟩, .string ⟨#[]⟩] 63)).heap.size := by simp; omega
    have HBA := Lib.hid hbaseA
    have hwc : IntKind.i64.wrap (c.toNat : Int) = (c.toNat : Int) := IntWalk.i64_in _ (by omega)
    clear hi hz h5 h72
    go_enter Tryd.func46, Tryd.ntmps46
    go_wp2_with fail
    go_region_law ((refine step_append_lies _ rfl (.tmp 15) (.tmp 24) 37 rfl base 63 i _ 5 72 Tryd.underlying37 HI.out HZ.out H5.out H72.out rfl (by decide) (.slice A' m.l.length cc') m.l.length _ (by simp [Act.eval]) HMA.out.evs ⟨w.heap.size, 0, none⟩ 1 1 (evVals ⟨3, c.toNat, [], m.p.inter, []⟩ (.slice none 0 0)) (by simp [Act.eval]) rfl (At.one _ _ _ _ _ rfl rfl) (evVals_cells ⟨none, 0, 0, rfl⟩) (by decide) hmaxl hbytes hbaseA _ rfl ?_; intro g cap w1 ho1 hg1 hat1 hlt1; have HB1 := Lib.hid (HMA.out.beside hg1); have q5 : w1.cell? ⟨b, 5, none⟩ = some (.slice A' m.l.length cc') := block_cell HB1.out 5; have g5 := block_free HB1.out 5; have HO1 := Lib.hid ho1; have HG1 := Lib.hid hg1; clear ho1 hg1 hat1))
    all_goals
      have HEND := Lib.hid (tell_end (e := ⟨3, c.toNat, [], m.p.inter, []⟩) HMA.out (World.ownsRow_nil _ _ _ _) (.inl rfl) HO1.out HG1.out HBA.out)
      clear q5 g5
      go_wp2_with fail
      refine (to_any 0 rfl base b (m.tell ⟨3, c.toNat, [], m.p.inter, []⟩) _ HEND.out.2.1).mono ?_
      rintro e w2 ⟨rfl, hm2, hb2⟩
      have HM2 := Lib.hid hm2
      clear hm2
      go_wp2_with fail
      go_end0
      rw [HE.out]
      exact ⟨rfl, HM2.out, (((Below.refl base w).drew).alloc hbase _).trans (HEND.out.2.2.trans hb2)⟩
end Vt
end Go.Proofs.YtjodbmfjdpbbnaaDoor
