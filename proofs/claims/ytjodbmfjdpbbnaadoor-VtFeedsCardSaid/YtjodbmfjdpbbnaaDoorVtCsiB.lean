/- The reference's machine: a separator, a sign or a last byte within a csi. -/
import Derived.Test.YtjodbmfjdpbbnaaDoorVtCsiA
namespace Go.Proofs.YtjodbmfjdpbbnaaDoor
set_option maxRecDepth 100000
open Go.RowKit
namespace Vt
set_option maxRecDepth 100000 in
set_option maxHeartbeats 3200000 in
theorem csi_semi (base b : Nat) (m : Mc) (c : UInt8) (w : World) (h : Mach w base b m) (hbase : base ≤ w.heap.size) (hk : Ok m.p) (hlo : 57 < c.toNat) (hhi : c.toNat ≤ 59) :
    Calls Tryd.prog 47 #[.pointer (some ⟨b, 0, none⟩), .int .u8 c.toNat] w (Runs base b w (m.csi c)) := by
  have hc := Utf.byte_lt c
  obtain ⟨pv, lv, pvs, hm⟩ := h
  obtain ⟨A, cc, rfl⟩ := own_shape hm.nums
  obtain ⟨A', cc', rfl⟩ := own_shape hm.evs
  obtain ⟨r0, r1, r2, r3, r4, r5⟩ := hm.reads
  obtain ⟨f0, f1, f2, f3, f4, f5⟩ := hm.free
  have HM := Lib.hid hm
  have hlow := hm.low
  have hblt := block_lt hm.block
  have hi3 := hk.i3
  have hn16 := hk.n16
  obtain ⟨bt, hbt⟩ : ∃ bt, between m.p.inter = bt := ⟨_, rfl⟩
  have HBT := Lib.hid hbt
  have HK := Lib.hid hk
  clear hm hk hbt
  go_enter Tryd.func47, Tryd.ntmps47
  go_upto_region 1 with (fail)
  go_cut [4, 5] (fun s4 s5 wx => s4 = .int .i64 m.p.params.length ∧ s5 = .bool bt ∧ MachAt wx base b m (.slice A m.p.params.length cc) (.slice A' m.l.length cc') pvs ∧ Below w.heap.size w wx)
  case first =>
    by_cases hi : 0 < m.p.inter.length
    · have hgd : decide ((0 : Int) < (m.p.inter.length : Int)) = true := decide_eq_true (by omega)
      have hgd2 : decide (0 < m.p.inter.length) = true := decide_eq_true hi
      have hw : IntKind.i64.wrap ((m.p.inter.length : Int) - 1) = (m.p.inter.length : Int) - 1 := IntWalk.i64_in _ (by omega)
      have hz : (0 : Int) ≤ (m.p.inter.length : Int) - 1 := by omega
      have hz2 : ((m.p.inter.length : Int) - 1).toNat = m.p.inter.length - 1 := by omega
      have hz4 : (1 : Int) ≤ (m.p.inter.length : Int) := by omega
      have hli := last_at m.p.inter hi
      have hbe : Hid (between m.p.inter = decide (((m.p.inter.getD (m.p.inter.length - 1) 0).toNat : Int) ≤ 47)) := Lib.hid (by
        unfold between; rw [decide_eq_true hi, Bool.true_and]
        rw [decide_eq_decide]; omega)
      generalize m.p.inter.getD (m.p.inter.length - 1) 0 = last at hli hbe
      clear hi
      go_quiet (fail)
      go_wp2_with fail
      go_meet
      exact ⟨rfl, by rw [← HBT.out, hbe.out], HM.out.kept (below_drewN (Below.refl _ _) _), below_drewN (Below.refl _ _) _⟩
    · have hgd : decide ((0 : Int) < (m.p.inter.length : Int)) = false := decide_eq_false (by omega)
      have hgd2 : decide (0 < m.p.inter.length) = false := decide_eq_false hi
      have hbe : Hid (between m.p.inter = false) := Lib.hid (by unfold between; rw [decide_eq_false hi]; rfl)
      clear hi
      go_quiet (fail)
      go_wp2_with fail
      go_meet
      exact ⟨rfl, by rw [← HBT.out, hbe.out], HM.out.kept (below_drewN (Below.refl _ _) _), below_drewN (Below.refl _ _) _⟩
  case rest =>
    obtain ⟨rfl, rfl, hmq, hbq0⟩ := hcut
    clear r0 r1 r2 r3 r4 r5 f0 f1 f2 f3 f4 f5 hblt
    have hbq : Below base w wc := hbq0.mono hbase
    have hbaseq : base ≤ wc.heap.size := Nat.le_trans hbase hbq.size
    obtain ⟨r0, r1, r2, r3, r4, r5⟩ := hmq.reads
    obtain ⟨f0, f1, f2, f3, f4, f5⟩ := hmq.free
    have HMQ := Lib.hid hmq
    have hblt := block_lt hmq.block
    clear hmq hbq0
    have h32 : ¬ c.toNat < 32 := by omega
    have hd1 : decide ((c.toNat : Int) < 32) = false := decide_eq_false (by omega)
    have h47 : ¬ c.toNat ≤ 47 := by omega
    have hd2 : decide ((c.toNat : Int) ≤ 47) = false := decide_eq_false (by omega)
    by_cases h63b : c.toNat ≤ 63 ∧ bt = true
    · obtain ⟨h63, rfl⟩ := h63b
      have HE : Hid (m.csi c = m.to 4) := Lib.hid (by unfold Mc.csi; rw [if_neg h32, if_neg h47, if_pos ⟨h63, HBT.out⟩])
      have hd3 : decide ((c.toNat : Int) ≤ 63) = true := decide_eq_true (by omega)
      clear h32 h47 h63
      go_wp2_with fail
      refine (to_any 4 rfl base b m _ ⟨_, _, _, HMQ.out⟩).mono ?_
      rintro e w1 ⟨rfl, hm1, hb1⟩
      have HM1 := Lib.hid hm1
      clear hm1
      go_wp2_with fail
      go_end0
      rw [HE.out]
      exact ⟨rfl, HM1.out, hbq.trans hb1⟩
    have hpick : Hid (decide ((c.toNat : Int) ≤ 63) = false ∨ bt = false) := Lib.hid (by
      by_cases h63 : c.toNat ≤ 63
      · right; cases bt
        · rfl
        · exact absurd ⟨h63, rfl⟩ h63b
      · left; exact decide_eq_false (by omega))
    have hnb : Hid (¬ (c.toNat ≤ 63 ∧ between m.p.inter = true)) := Lib.hid (by rw [HBT.out]; exact h63b)
    have h57 : ¬ c.toNat ≤ 57 := by omega
    have hd4 : decide ((c.toNat : Int) ≤ 57) = false := decide_eq_false (by omega)
    by_cases h59 : c.toNat ≤ 59
    · have hd5 : decide ((c.toNat : Int) ≤ 59) = true := decide_eq_true (by omega)
      have hd3 : decide ((c.toNat : Int) ≤ 63) = true := decide_eq_true (by omega)
      obtain rfl : bt = false := by
        rcases hpick.out with h | h
        · rw [hd3] at h; cases h
        · exact h
      by_cases hn0 : m.p.params.length = 0
      · have hp0 : m.p.params = [] := List.eq_nil_of_length_eq_zero hn0
        have HE : Hid (m.csi c = ⟨{ m.p with params := [-1, -1] }, m.l⟩) := Lib.hid (by unfold Mc.csi; rw [if_neg h32, if_neg h47, if_neg hnb.out, if_neg h57, if_pos h59, if_neg (by omega), if_pos hp0]; rfl)
        have hd6 : ((m.p.params.length : Int) == 0) = true := by rw [beq_iff_eq]; omega
        have hm1 := nums_end (w1 := wc.alloc (.cells #[.int .i64 (-1)] 3)) (ys := [-1]) HMQ.out (World.grownBy_alloc _ _ _) (owns_one base wc 3 (.int .i64 _) hbaseq) (.inr ⟨_, rfl, Nat.le_refl _⟩)
        rw [World.setCell_alloc_past _ _ _ _ hblt] at hm1
        have hb0 : Below base wc ((wc.setCell ⟨b, 2, none⟩ (.slice (some ⟨wc.heap.size, 0, none⟩) 1 1)).alloc (.cells #[.int .i64 (-1)] 3)) := ((Below.refl _ _).setCell (p := ⟨b, 2, none⟩) hlow _).alloc (by simpa using hbaseq) _
        have HMA := Lib.hid (hm1.kept ((Below.refl _ _).alloc (Nat.le_refl _) (.cells #[.int .i64 (-1)] 3)))
        have hbaseA : base ≤ (((wc.setCell ⟨b, 2, none⟩ (.slice (some ⟨wc.heap.size, 0, none⟩) 1 1)).alloc (.cells #[.int .i64 (-1)] 3)).alloc (.cells #[.int .i64 (-1)] 3)).heap.size := by simp; omega
        have HB0 := Lib.hid hb0
        clear h63b hn0 h32 h47 h57 h59 hp0 hm1 hb0
        go_wp2_with (at_builtin; refine wp_append_ints rfl rfl base (.slice (some ⟨wc.heap.size, 0, none⟩) 1 1) 1 [-1] rfl HMA.out.nums _ 1 [-1] rfl (Src.made_at ((wc.setCell ⟨b, 2, none⟩ (.slice (some ⟨wc.heap.size, 0, none⟩) 1 1)).alloc (.cells #[.int .i64 (-1)] 3)) (wc.heap.size + 1) (ints [-1]) _ _ _ _ (by simp) rfl rfl) (by omega) hbaseA ?_; intro v1 w1 ho1 hg1 hat1; have HB1 := Lib.hid (HMA.out.beside2 hg1); have q2 : w1.cell? ⟨b, 2, none⟩ = some (.slice (some ⟨wc.heap.size, 0, none⟩) 1 1) := block_cell HB1.out 2; have g2 := block_free HB1.out 2; obtain ⟨A9, c9, rfl⟩ := own_shape ho1; have HO1 := Lib.hid ho1; have HG1 := Lib.hid hg1; have HAT1 := Lib.hid hat1; clear ho1 hg1 hat1)
        go_end0
        rw [HE.out]
        have hm2 := nums_end (ys := [-1] ++ [-1]) HMA.out HG1.out HO1.out (by rcases HAT1.out with h | h; exact .inl h; exact .inr ⟨_, h, Nat.le_refl _⟩)
        exact ⟨rfl, ⟨_, _, _, hm2⟩, hbq.trans (((HB0.out.alloc (by simp; omega) _).grown HG1.out hbaseA (fun k hk => (HMA.out.nums.lt k hk).1)).setCell (p := ⟨b, 2, none⟩) hlow _)⟩
      · have hd6 : ((m.p.params.length : Int) == 0) = false := by rw [beq_eq_false_iff_ne]; omega
        by_cases h16 : m.p.params.length = 16
        · have HE : Hid (m.csi c = m.to 4) := Lib.hid (by unfold Mc.csi; rw [if_neg h32, if_neg h47, if_neg hnb.out, if_neg h57, if_pos h59, if_pos h16])
          have hd7 : ((m.p.params.length : Int) == 16) = true := by rw [beq_iff_eq]; omega
          clear h63b hn0 h32 h47 h57 h59 h16
          go_wp2_with fail
          refine (to_any 4 rfl base b m _ ⟨_, _, _, HMQ.out⟩).mono ?_
          rintro e w1 ⟨rfl, hm1, hb1⟩
          have HM1 := Lib.hid hm1
          clear hm1
          go_wp2_with fail
          go_end0
          rw [HE.out]
          exact ⟨rfl, HM1.out, hbq.trans hb1⟩
        · have HE : Hid (m.csi c = ⟨{ m.p with params := m.p.params ++ [-1] }, m.l⟩) := Lib.hid (by unfold Mc.csi; rw [if_neg h32, if_neg h47, if_neg hnb.out, if_neg h57, if_pos h59, if_neg h16, if_neg (fun e => hn0 (by rw [e]; rfl))])
          have hd7 : ((m.p.params.length : Int) == 16) = false := by rw [beq_eq_false_iff_ne]; omega
          have HMA := Lib.hid (HMQ.out.kept ((Below.refl _ _).alloc (Nat.le_refl _) (.cells #[.int .i64 (-1)] 3)))
          have hbaseA : base ≤ (wc.alloc (.cells #[.int .i64 (-1)] 3)).heap.size := by simp; omega
          clear h63b hn0 h32 h47 h57 h59 h16
          go_wp2_with (at_builtin; refine wp_append_ints rfl rfl base (.slice A m.p.params.length cc) _ m.p.params rfl HMA.out.nums _ 1 [-1] rfl (Src.one wc _ _ _) (by omega) hbaseA ?_; intro v1 w1 ho1 hg1 hat1; have HB1 := Lib.hid (HMA.out.beside2 hg1); have q2 : w1.cell? ⟨b, 2, none⟩ = some (.slice A m.p.params.length cc) := block_cell HB1.out 2; have g2 := block_free HB1.out 2; obtain ⟨A9, c9, rfl⟩ := own_shape ho1; have HO1 := Lib.hid ho1; have HG1 := Lib.hid hg1; have HAT1 := Lib.hid hat1; clear ho1 hg1 hat1)
          go_end0
          rw [HE.out]
          have hm2 := nums_end (ys := m.p.params ++ [-1]) HMA.out HG1.out (by rw [List.length_append]; exact HO1.out) (by rcases HAT1.out with h | h; exact .inl h; exact .inr ⟨_, h, Nat.le_refl _⟩)
          exact ⟨rfl, ⟨_, _, _, hm2⟩, hbq.trans ((((Below.refl base wc).alloc hbaseq _).grown HG1.out hbaseA (fun k hk => (HMA.out.nums.lt k hk).1)).setCell (p := ⟨b, 2, none⟩) hlow _)⟩
    exact absurd hhi h59

set_option maxRecDepth 100000 in
set_option maxHeartbeats 3200000 in
theorem csi_priv (base b : Nat) (m : Mc) (c : UInt8) (w : World) (h : Mach w base b m) (hbase : base ≤ w.heap.size) (hk : Ok m.p) (hlo : 59 < c.toNat) (hhi : c.toNat ≤ 63) :
    Calls Tryd.prog 47 #[.pointer (some ⟨b, 0, none⟩), .int .u8 c.toNat] w (Runs base b w (m.csi c)) := by
  have hc := Utf.byte_lt c
  obtain ⟨pv, lv, pvs, hm⟩ := h
  obtain ⟨A, cc, rfl⟩ := own_shape hm.nums
  obtain ⟨A', cc', rfl⟩ := own_shape hm.evs
  obtain ⟨r0, r1, r2, r3, r4, r5⟩ := hm.reads
  obtain ⟨f0, f1, f2, f3, f4, f5⟩ := hm.free
  have HM := Lib.hid hm
  have hlow := hm.low
  have hblt := block_lt hm.block
  have hi3 := hk.i3
  have hn16 := hk.n16
  obtain ⟨bt, hbt⟩ : ∃ bt, between m.p.inter = bt := ⟨_, rfl⟩
  have HBT := Lib.hid hbt
  have HK := Lib.hid hk
  clear hm hk hbt
  go_enter Tryd.func47, Tryd.ntmps47
  go_upto_region 1 with (fail)
  go_cut [4, 5] (fun s4 s5 wx => s4 = .int .i64 m.p.params.length ∧ s5 = .bool bt ∧ MachAt wx base b m (.slice A m.p.params.length cc) (.slice A' m.l.length cc') pvs ∧ Below w.heap.size w wx)
  case first =>
    by_cases hi : 0 < m.p.inter.length
    · have hgd : decide ((0 : Int) < (m.p.inter.length : Int)) = true := decide_eq_true (by omega)
      have hgd2 : decide (0 < m.p.inter.length) = true := decide_eq_true hi
      have hw : IntKind.i64.wrap ((m.p.inter.length : Int) - 1) = (m.p.inter.length : Int) - 1 := IntWalk.i64_in _ (by omega)
      have hz : (0 : Int) ≤ (m.p.inter.length : Int) - 1 := by omega
      have hz2 : ((m.p.inter.length : Int) - 1).toNat = m.p.inter.length - 1 := by omega
      have hz4 : (1 : Int) ≤ (m.p.inter.length : Int) := by omega
      have hli := last_at m.p.inter hi
      have hbe : Hid (between m.p.inter = decide (((m.p.inter.getD (m.p.inter.length - 1) 0).toNat : Int) ≤ 47)) := Lib.hid (by
        unfold between; rw [decide_eq_true hi, Bool.true_and]
        rw [decide_eq_decide]; omega)
      generalize m.p.inter.getD (m.p.inter.length - 1) 0 = last at hli hbe
      clear hi
      go_quiet (fail)
      go_wp2_with fail
      go_meet
      exact ⟨rfl, by rw [← HBT.out, hbe.out], HM.out.kept (below_drewN (Below.refl _ _) _), below_drewN (Below.refl _ _) _⟩
    · have hgd : decide ((0 : Int) < (m.p.inter.length : Int)) = false := decide_eq_false (by omega)
      have hgd2 : decide (0 < m.p.inter.length) = false := decide_eq_false hi
      have hbe : Hid (between m.p.inter = false) := Lib.hid (by unfold between; rw [decide_eq_false hi]; rfl)
      clear hi
      go_quiet (fail)
      go_wp2_with fail
      go_meet
      exact ⟨rfl, by rw [← HBT.out, hbe.out], HM.out.kept (below_drewN (Below.refl _ _) _), below_drewN (Below.refl _ _) _⟩
  case rest =>
    obtain ⟨rfl, rfl, hmq, hbq0⟩ := hcut
    clear r0 r1 r2 r3 r4 r5 f0 f1 f2 f3 f4 f5 hblt
    have hbq : Below base w wc := hbq0.mono hbase
    have hbaseq : base ≤ wc.heap.size := Nat.le_trans hbase hbq.size
    obtain ⟨r0, r1, r2, r3, r4, r5⟩ := hmq.reads
    obtain ⟨f0, f1, f2, f3, f4, f5⟩ := hmq.free
    have HMQ := Lib.hid hmq
    have hblt := block_lt hmq.block
    clear hmq hbq0
    have h32 : ¬ c.toNat < 32 := by omega
    have hd1 : decide ((c.toNat : Int) < 32) = false := decide_eq_false (by omega)
    have h47 : ¬ c.toNat ≤ 47 := by omega
    have hd2 : decide ((c.toNat : Int) ≤ 47) = false := decide_eq_false (by omega)
    by_cases h63b : c.toNat ≤ 63 ∧ bt = true
    · obtain ⟨h63, rfl⟩ := h63b
      have HE : Hid (m.csi c = m.to 4) := Lib.hid (by unfold Mc.csi; rw [if_neg h32, if_neg h47, if_pos ⟨h63, HBT.out⟩])
      have hd3 : decide ((c.toNat : Int) ≤ 63) = true := decide_eq_true (by omega)
      clear h32 h47 h63
      go_wp2_with fail
      refine (to_any 4 rfl base b m _ ⟨_, _, _, HMQ.out⟩).mono ?_
      rintro e w1 ⟨rfl, hm1, hb1⟩
      have HM1 := Lib.hid hm1
      clear hm1
      go_wp2_with fail
      go_end0
      rw [HE.out]
      exact ⟨rfl, HM1.out, hbq.trans hb1⟩
    have hpick : Hid (decide ((c.toNat : Int) ≤ 63) = false ∨ bt = false) := Lib.hid (by
      by_cases h63 : c.toNat ≤ 63
      · right; cases bt
        · rfl
        · exact absurd ⟨h63, rfl⟩ h63b
      · left; exact decide_eq_false (by omega))
    have hnb : Hid (¬ (c.toNat ≤ 63 ∧ between m.p.inter = true)) := Lib.hid (by rw [HBT.out]; exact h63b)
    have h57 : ¬ c.toNat ≤ 57 := by omega
    have hd4 : decide ((c.toNat : Int) ≤ 57) = false := decide_eq_false (by omega)
    have h59 : ¬ c.toNat ≤ 59 := by omega
    have hd5 : decide ((c.toNat : Int) ≤ 59) = false := decide_eq_false (by omega)
    by_cases h63 : c.toNat ≤ 63
    · have hd3 : decide ((c.toNat : Int) ≤ 63) = true := decide_eq_true (by omega)
      obtain rfl : bt = false := by
        rcases hpick.out with h | h
        · rw [hd3] at h; cases h
        · exact h
      by_cases hn0 : 0 < m.p.params.length
      · have HE : Hid (m.csi c = m.to 4) := Lib.hid (by unfold Mc.csi; rw [if_neg h32, if_neg h47, if_neg hnb.out, if_neg h57, if_neg h59, if_pos h63, if_pos (.inl hn0)])
        have hd6 : decide (0 < m.p.params.length) = true := decide_eq_true hn0
        clear h63b hn0 h32 h47 h57 h59 h63
        go_wp2_with fail
        refine (to_any 4 rfl base b m _ ⟨_, _, _, HMQ.out⟩).mono ?_
        rintro e w1 ⟨rfl, hm1, hb1⟩
        have HM1 := Lib.hid hm1
        clear hm1
        go_wp2_with fail
        go_end0
        rw [HE.out]
        exact ⟨rfl, HM1.out, hbq.trans hb1⟩
      · have hd6 : decide (0 < m.p.params.length) = false := decide_eq_false hn0
        have hse := str_empty m.p.inter
        by_cases hie : m.p.inter = []
        · have HE : Hid (m.csi c = ⟨{ m.p with inter := [c] }, m.l⟩) := Lib.hid (by unfold Mc.csi; rw [if_neg h32, if_neg h47, if_neg hnb.out, if_neg h57, if_neg h59, if_pos h63, if_neg (by rintro (h | h); exact hn0 h; exact h hie)])
          have hi2 : m.p.inter.isEmpty = true := by rw [hie]; rfl
          rw [hi2] at hse
          have hcv := fun (W : World) (hq : W.cell? ⟨wc.heap.size, 0, none⟩ = some (.int .u8 c.toNat)) => run_convert_byte1 (P := Tryd.prog) W 46 9 5 ⟨wc.heap.size, 0, none⟩ 1 c Tryd.underlying46 Tryd.underlying5 Tryd.underlying9 hq
          clear h63b hn0 h32 h47 h57 h59 h63 hie
          go_wp2_with fail
          go_end0
          rw [HE.out]
          have h2 := HMQ.out.set_ 3 (.string ⟨#[c]⟩) { m.p with inter := [c] } rfl rfl
          have hb : Below base wc (wc.setCell ⟨b, 3, none⟩ (.string ⟨#[c]⟩)) := (Below.refl _ _).setCell (p := ⟨b, 3, none⟩) hlow _
          exact ⟨rfl, ⟨_, _, _, h2.kept ((Below.refl _ _).alloc (Nat.le_refl _) _)⟩, hbq.trans (hb.alloc (by simpa using hbaseq) _)⟩
        · have HE : Hid (m.csi c = m.to 4) := Lib.hid (by unfold Mc.csi; rw [if_neg h32, if_neg h47, if_neg hnb.out, if_neg h57, if_neg h59, if_pos h63, if_pos (.inr hie)])
          have hi2 : m.p.inter.isEmpty = false := by cases hq : m.p.inter; exact absurd hq hie; rfl
          rw [hi2] at hse
          clear h63b hn0 h32 h47 h57 h59 h63 hie
          go_wp2_with fail
          refine (to_any 4 rfl base b m _ ⟨_, _, _, HMQ.out⟩).mono ?_
          rintro e w1 ⟨rfl, hm1, hb1⟩
          have HM1 := Lib.hid hm1
          clear hm1
          go_wp2_with fail
          go_end0
          rw [HE.out]
          exact ⟨rfl, HM1.out, hbq.trans hb1⟩
    exact absurd hhi h63

set_option maxRecDepth 100000 in
set_option maxHeartbeats 3200000 in
theorem csi_end (base b : Nat) (m : Mc) (c : UInt8) (w : World) (h : Mach w base b m) (hbase : base ≤ w.heap.size) (hk : Ok m.p) (hhi : 127 ≤ c.toNat) :
    Calls Tryd.prog 47 #[.pointer (some ⟨b, 0, none⟩), .int .u8 c.toNat] w (Runs base b w (m.csi c)) := by
  have hc := Utf.byte_lt c
  obtain ⟨pv, lv, pvs, hm⟩ := h
  obtain ⟨A, cc, rfl⟩ := own_shape hm.nums
  obtain ⟨A', cc', rfl⟩ := own_shape hm.evs
  obtain ⟨r0, r1, r2, r3, r4, r5⟩ := hm.reads
  obtain ⟨f0, f1, f2, f3, f4, f5⟩ := hm.free
  have HM := Lib.hid hm
  have hlow := hm.low
  have hblt := block_lt hm.block
  have hi3 := hk.i3
  have hn16 := hk.n16
  obtain ⟨bt, hbt⟩ : ∃ bt, between m.p.inter = bt := ⟨_, rfl⟩
  have HBT := Lib.hid hbt
  have HK := Lib.hid hk
  clear hm hk hbt
  go_enter Tryd.func47, Tryd.ntmps47
  go_upto_region 1 with (fail)
  go_cut [4, 5] (fun s4 s5 wx => s4 = .int .i64 m.p.params.length ∧ s5 = .bool bt ∧ MachAt wx base b m (.slice A m.p.params.length cc) (.slice A' m.l.length cc') pvs ∧ Below w.heap.size w wx)
  case first =>
    by_cases hi : 0 < m.p.inter.length
    · have hgd : decide ((0 : Int) < (m.p.inter.length : Int)) = true := decide_eq_true (by omega)
      have hgd2 : decide (0 < m.p.inter.length) = true := decide_eq_true hi
      have hw : IntKind.i64.wrap ((m.p.inter.length : Int) - 1) = (m.p.inter.length : Int) - 1 := IntWalk.i64_in _ (by omega)
      have hz : (0 : Int) ≤ (m.p.inter.length : Int) - 1 := by omega
      have hz2 : ((m.p.inter.length : Int) - 1).toNat = m.p.inter.length - 1 := by omega
      have hz4 : (1 : Int) ≤ (m.p.inter.length : Int) := by omega
      have hli := last_at m.p.inter hi
      have hbe : Hid (between m.p.inter = decide (((m.p.inter.getD (m.p.inter.length - 1) 0).toNat : Int) ≤ 47)) := Lib.hid (by
        unfold between; rw [decide_eq_true hi, Bool.true_and]
        rw [decide_eq_decide]; omega)
      generalize m.p.inter.getD (m.p.inter.length - 1) 0 = last at hli hbe
      clear hi
      go_quiet (fail)
      go_wp2_with fail
      go_meet
      exact ⟨rfl, by rw [← HBT.out, hbe.out], HM.out.kept (below_drewN (Below.refl _ _) _), below_drewN (Below.refl _ _) _⟩
    · have hgd : decide ((0 : Int) < (m.p.inter.length : Int)) = false := decide_eq_false (by omega)
      have hgd2 : decide (0 < m.p.inter.length) = false := decide_eq_false hi
      have hbe : Hid (between m.p.inter = false) := Lib.hid (by unfold between; rw [decide_eq_false hi]; rfl)
      clear hi
      go_quiet (fail)
      go_wp2_with fail
      go_meet
      exact ⟨rfl, by rw [← HBT.out, hbe.out], HM.out.kept (below_drewN (Below.refl _ _) _), below_drewN (Below.refl _ _) _⟩
  case rest =>
    obtain ⟨rfl, rfl, hmq, hbq0⟩ := hcut
    clear r0 r1 r2 r3 r4 r5 f0 f1 f2 f3 f4 f5 hblt
    have hbq : Below base w wc := hbq0.mono hbase
    have hbaseq : base ≤ wc.heap.size := Nat.le_trans hbase hbq.size
    obtain ⟨r0, r1, r2, r3, r4, r5⟩ := hmq.reads
    obtain ⟨f0, f1, f2, f3, f4, f5⟩ := hmq.free
    have HMQ := Lib.hid hmq
    have hblt := block_lt hmq.block
    clear hmq hbq0
    have h32 : ¬ c.toNat < 32 := by omega
    have hd1 : decide ((c.toNat : Int) < 32) = false := decide_eq_false (by omega)
    have h47 : ¬ c.toNat ≤ 47 := by omega
    have hd2 : decide ((c.toNat : Int) ≤ 47) = false := decide_eq_false (by omega)
    have h63b : ¬ (c.toNat ≤ 63 ∧ bt = true) := fun h => by omega
    have hpick : Hid (decide ((c.toNat : Int) ≤ 63) = false ∨ bt = false) := Lib.hid (by
      by_cases h63 : c.toNat ≤ 63
      · right; cases bt
        · rfl
        · exact absurd ⟨h63, rfl⟩ h63b
      · left; exact decide_eq_false (by omega))
    have hnb : Hid (¬ (c.toNat ≤ 63 ∧ between m.p.inter = true)) := Lib.hid (by rw [HBT.out]; exact h63b)
    have h57 : ¬ c.toNat ≤ 57 := by omega
    have hd4 : decide ((c.toNat : Int) ≤ 57) = false := decide_eq_false (by omega)
    have h59 : ¬ c.toNat ≤ 59 := by omega
    have hd5 : decide ((c.toNat : Int) ≤ 59) = false := decide_eq_false (by omega)
    have h63 : ¬ c.toNat ≤ 63 := by omega
    have hd3 : decide ((c.toNat : Int) ≤ 63) = false := decide_eq_false (by omega)
    by_cases h127 : c.toNat = 127
    · have HE : Hid (m.csi c = m) := Lib.hid (by unfold Mc.csi; rw [if_neg h32, if_neg h47, if_neg hnb.out, if_neg h57, if_neg h59, if_neg h63, if_pos h127])
      have hd6 := u8_eq (c := c) (n := 127) (by omega)
      clear h63b h32 h47 h57 h59 h63 h127
      go_wp2_with fail
      go_end0
      rw [HE.out]
      exact ⟨rfl, ⟨_, _, _, HMQ.out⟩, hbq⟩
    have hd6 := u8_ne (c := c) (n := 127) (by omega)
    by_cases hgt : 127 < c.toNat
    · have HE : Hid (m.csi c = m.to 0) := Lib.hid (by unfold Mc.csi; rw [if_neg h32, if_neg h47, if_neg hnb.out, if_neg h57, if_neg h59, if_neg h63, if_neg h127, if_pos hgt])
      have hd7 : decide (127 < (c.toNat : Int)) = true := decide_eq_true (by omega)
      clear h63b h32 h47 h57 h59 h63 h127 hgt
      go_wp2_with fail
      refine (to_any 0 rfl base b m _ ⟨_, _, _, HMQ.out⟩).mono ?_
      rintro e w1 ⟨rfl, hm1, hb1⟩
      have HM1 := Lib.hid hm1
      clear hm1
      go_wp2_with fail
      go_end0
      rw [HE.out]
      exact ⟨rfl, HM1.out, hbq.trans hb1⟩
    omega
end Vt
end Go.Proofs.YtjodbmfjdpbbnaaDoor
