/- The reference's machine: a csi is told. -/
import Derived.Test.YtjodbmfjdpbbnaaDoorVtCsiA
namespace Go.Proofs.YtjodbmfjdpbbnaaDoor
set_option maxRecDepth 100000
open Go.RowKit
namespace Vt
set_option maxRecDepth 100000 in
set_option maxHeartbeats 6400000 in
theorem csi_tell (base b : Nat) (m : Mc) (c : UInt8) (w : World) (h : Mach w base b m) (hl : m.l.length ≤ 600000000) (hbase : base ≤ w.heap.size) (hk : Ok m.p) (hlo : 63 < c.toNat) (hhi : c.toNat < 127) :
    Calls Tryd.prog 47 #[.pointer (some ⟨b, 0, none⟩), .int .u8 c.toNat] w (Runs base b w (m.csi c)) := by
  have hc := Utf.byte_lt c
  obtain ⟨pv, lv, pvs, hm⟩ := h
  obtain ⟨A, cc, rfl⟩ := own_shape hm.nums
  obtain ⟨A', cc', rfl⟩ := own_shape hm.evs
  obtain ⟨r0, r1, r2, r3, r4, r5⟩ := hm.reads
  obtain ⟨f0, f1, f2, f3, f4, f5⟩ := hm.free
  have HM := Lib.hid hm
  have hlow := hm.low
  have hblt := block_lt hm.block
  have hi3 := hk.i3
  have hn16 := hk.n16
  obtain ⟨bt, hbt⟩ : ∃ bt, between m.p.inter = bt := ⟨_, rfl⟩
  have HBT := Lib.hid hbt
  have HK := Lib.hid hk
  clear hm hk hbt
  go_enter Tryd.func47, Tryd.ntmps47
  go_upto_region 1 with (fail)
  go_cut [4, 5] (fun s4 s5 wx => s4 = .int .i64 m.p.params.length ∧ s5 = .bool bt ∧ MachAt wx base b m (.slice A m.p.params.length cc) (.slice A' m.l.length cc') pvs ∧ Below w.heap.size w wx)
  case first =>
    by_cases hi : 0 < m.p.inter.length
    · have hgd : decide ((0 : Int) < (m.p.inter.length : Int)) = true := decide_eq_true (by omega)
      have hgd2 : decide (0 < m.p.inter.length) = true := decide_eq_true hi
      have hw : IntKind.i64.wrap ((m.p.inter.length : Int) - 1) = (m.p.inter.length : Int) - 1 := IntWalk.i64_in _ (by omega)
      have hz : (0 : Int) ≤ (m.p.inter.length : Int) - 1 := by omega
      have hz2 : ((m.p.inter.length : Int) - 1).toNat = m.p.inter.length - 1 := by omega
      have hz4 : (1 : Int) ≤ (m.p.inter.length : Int) := by omega
      have hli := last_at m.p.inter hi
      have hbe : Hid (between m.p.inter = decide (((m.p.inter.getD (m.p.inter.length - 1) 0).toNat : Int) ≤ 47)) := Lib.hid (by
        unfold between; rw [decide_eq_true hi, Bool.true_and]
        rw [decide_eq_decide]; omega)
      generalize m.p.inter.getD (m.p.inter.length - 1) 0 = last at hli hbe
      clear hi
      go_quiet (fail)
      go_wp2_with fail
      go_meet
      exact ⟨rfl, by rw [← HBT.out, hbe.out], HM.out.kept (below_drewN (Below.refl _ _) _), below_drewN (Below.refl _ _) _⟩
    · have hgd : decide ((0 : Int) < (m.p.inter.length : Int)) = false := decide_eq_false (by omega)
      have hgd2 : decide (0 < m.p.inter.length) = false := decide_eq_false hi
      have hbe : Hid (between m.p.inter = false) := Lib.hid (by unfold between; rw [decide_eq_false hi]; rfl)
      clear hi
      go_quiet (fail)
      go_wp2_with fail
      go_meet
      exact ⟨rfl, by rw [← HBT.out, hbe.out], HM.out.kept (below_drewN (Below.refl _ _) _), below_drewN (Below.refl _ _) _⟩
  case rest =>
    obtain ⟨rfl, rfl, hmq, hbq0⟩ := hcut
    clear r0 r1 r2 r3 r4 r5 f0 f1 f2 f3 f4 f5 hblt
    have hbq : Below base w wc := hbq0.mono hbase
    have hbaseq : base ≤ wc.heap.size := Nat.le_trans hbase hbq.size
    obtain ⟨r0, r1, r2, r3, r4, r5⟩ := hmq.reads
    obtain ⟨f0, f1, f2, f3, f4, f5⟩ := hmq.free
    have HMQ := Lib.hid hmq
    have hblt := block_lt hmq.block
    clear hmq hbq0
    have h32 : ¬ c.toNat < 32 := by omega
    have hd1 : decide ((c.toNat : Int) < 32) = false := decide_eq_false (by omega)
    have h47 : ¬ c.toNat ≤ 47 := by omega
    have hd2 : decide ((c.toNat : Int) ≤ 47) = false := decide_eq_false (by omega)
    have h63b : ¬ (c.toNat ≤ 63 ∧ bt = true) := fun h => by omega
    have hpick : Hid (decide ((c.toNat : Int) ≤ 63) = false ∨ bt = false) := Lib.hid (by
      by_cases h63 : c.toNat ≤ 63
      · right; cases bt
        · rfl
        · exact absurd ⟨h63, rfl⟩ h63b
      · left; exact decide_eq_false (by omega))
    have hnb : Hid (¬ (c.toNat ≤ 63 ∧ between m.p.inter = true)) := Lib.hid (by rw [HBT.out]; exact h63b)
    have h57 : ¬ c.toNat ≤ 57 := by omega
    have hd4 : decide ((c.toNat : Int) ≤ 57) = false := decide_eq_false (by omega)
    have h59 : ¬ c.toNat ≤ 59 := by omega
    have hd5 : decide ((c.toNat : Int) ≤ 59) = false := decide_eq_false (by omega)
    have h63 : ¬ c.toNat ≤ 63 := by omega
    have hd3 : decide ((c.toNat : Int) ≤ 63) = false := decide_eq_false (by omega)
    have h127 : ¬ c.toNat = 127 := by omega
    have hd6 := u8_ne (c := c) (n := 127) (by omega)
    have hgt : ¬ 127 < c.toNat := by omega
    have hd7 : decide (127 < (c.toNat : Int)) = false := decide_eq_false (by omega)
    have HE : Hid (m.csi c = (m.tell ⟨4, c.toNat, m.p.params, m.p.inter, []⟩).to 0) := Lib.hid (by unfold Mc.csi; rw [if_neg h32, if_neg h47, if_neg hnb.out, if_neg h57, if_neg h59, if_neg h63, if_neg h127, if_neg hgt])
    clear h63b h32 h47 h57 h59 h63 h127 hgt
    obtain ⟨i, hi, hz, h5, h72⟩ := event_row
    have HI := Lib.hid hi
    have HZ := Lib.hid hz
    have H5 := Lib.hid h5
    have H72 := Lib.hid h72
    have hmaxl : m.l.length + 1 ≤ maxLen := by simp only [maxLen]; omega
    have hbytes : (m.l.length + 1) * 72 ≤ 140737488355328 := by omega
    have hwc : IntKind.i64.wrap (c.toNat : Int) = (c.toNat : Int) := IntWalk.i64_in _ (by omega)
    clear hi hz h5 h72
    go_wp2_with fail
    go_region_law (first
      | (refine step_append_lies _ rfl (.tmp 39) (.tmp 54) 37 rfl base 63 i _ 5 72 Tryd.underlying37 HI.out HZ.out H5.out H72.out rfl (by decide) (.slice A' m.l.length cc') m.l.length _ (by simp [Act.eval]) (HM3.out.evs.alloc _) ⟨w3.heap.size, 0, none⟩ 1 1 (evVals ⟨4, c.toNat, m.p.params, m.p.inter, []⟩ (.slice A3 m.p.params.length c3)) (by simp [Act.eval]) rfl (At.one _ _ _ _ _ rfl rfl) (evVals_cells ⟨_, _, _, rfl⟩) (by decide) hmaxl hbytes hbase3 _ rfl ?_; intro g cap w1 ho1 hg1 hat1 hlt1; have HMA := Lib.hid (HM3.out.kept ((Below.refl _ _).alloc (Nat.le_refl _) (.cells #[.int .i64 4, .int .i64 c.toNat, .slice A3 m.p.params.length c3, .string ⟨m.p.inter.toArray⟩, .string ⟨#[]⟩] 63))); have HB1 := Lib.hid (HMA.out.beside hg1); have q5 : w1.cell? ⟨b, 5, none⟩ = some (.slice A' m.l.length cc') := block_cell HB1.out 5; have g5 := block_free HB1.out 5; have HO1 := Lib.hid ho1; have HG1 := Lib.hid hg1; clear ho1 hg1 hat1)
      | (go_simp; go_at_call 26; refine (copyNumbers_any m.p.params.length m.p.params wc.drew (Src.own HMQ.out.nums.drew) (by omega)).mono ?_; rintro e w3 ⟨v3, rfl, ho3, hb3⟩; obtain ⟨A3, c3, rfl⟩ := own_shape ho3; have HM3 := Lib.hid (HMQ.out.kept ((Below.refl _ _).drew.trans hb3)); have HO3 := Lib.hid ho3; have hbase3 : base ≤ (w3.alloc (.cells #[.int .i64 4, .int .i64 c.toNat, .slice A3 m.p.params.length c3, .string ⟨m.p.inter.toArray⟩, .string ⟨#[]⟩] 63)).heap.size := (by have := hb3.size; simp at this; simp; omega); obtain ⟨t0, t1, t2, t3, t4, t5⟩ := HM3.out.reads; have hblt3 := block_lt HM3.out.block; have hb3q := Lib.hid (show wc.heap.size ≤ w3.heap.size from hb3.size); have hbase3' : base ≤ w3.heap.size := Nat.le_trans hbaseq hb3q.out; have hbw3 := Lib.hid (show Below base wc w3 from (Below.refl base wc).drew.trans (hb3.mono hbaseq)); clear ho3))
    all_goals
      have HEND := Lib.hid (tell_end (e := ⟨4, c.toNat, m.p.params, m.p.inter, []⟩) HMA.out ((HO3.out.alloc _).mono hbaseq) (fresh_apart HMQ.out HO3.out) HO1.out HG1.out hbase3)
      clear q5 g5 t0 t1 t2 t3 t4 t5
      go_wp2_with fail
      refine (to_any 0 rfl base b (m.tell ⟨4, c.toNat, m.p.params, m.p.inter, []⟩) _ HEND.out.2.1).mono ?_
      rintro e w2 ⟨rfl, hm2, hb2⟩
      have HM2 := Lib.hid hm2
      clear hm2
      go_wp2_with fail
      go_end0
      rw [HE.out]
      exact ⟨rfl, HM2.out, hbq.trans ((hbw3.out.alloc hbase3' _).trans (HEND.out.2.2.trans hb2))⟩
end Vt
end Go.Proofs.YtjodbmfjdpbbnaaDoor
