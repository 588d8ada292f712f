/- The reference's machine: a byte within a csi. -/
import Derived.Test.YtjodbmfjdpbbnaaDoorVtEsc
import Derived.Deep.DeepCutAuto
namespace Go.Proofs.YtjodbmfjdpbbnaaDoor
set_option maxRecDepth 100000
open Go.RowKit
namespace Vt
theorem last_at (l : List UInt8) (h : 0 < l.length) : ∀ q, (⟨l.toArray⟩ : ByteArray)[l.length - 1]'q = l.getD (l.length - 1) 0 := fun q => by
  have e : (⟨l.toArray⟩ : ByteArray)[l.length - 1]'q = l[l.length - 1]'(by omega) := rfl
  rw [e]; simp [List.getD, show l.length - 1 < l.length by omega]
/-- Behind an append to its numbers the machine's block stands. -/
theorem MachAt.beside2 {w w1 : World} {base b : Nat} {m : Mc} {pv lv : Value} {pvs : List Value} (h : MachAt w base b m pv lv pvs) (hg : w.grownBy w1 pv.ownBlock) : w1.heap[b]? = some (.cells (cells6 m.p pv lv) 60 (0, 0)) := by
  refine (hg.block b (block_lt h.block) ?_).trans h.block
  rcases own_not h.nums h.block (by decide) with e | e
  · rw [e]; simp
  · exact fun h => e h.symm
/-- The numbers are others, in the machine's block too. -/
theorem nums_end {w w1 : World} {base b : Nat} {m : Mc} {pv lv v : Value} {pvs : List Value} {ys : List Int} (h : MachAt w base b m pv lv pvs) (hg : w.grownBy w1 pv.ownBlock) (ho : w1.ownsRow base 3 1 v ys.length (ints ys))
    (hv : v.ownBlock = pv.ownBlock ∨ ∃ g, v.ownBlock = some g ∧ w.heap.size ≤ g) : MachAt (w1.setCell ⟨b, 2, none⟩ v) base b ⟨{ m.p with params := ys }, m.l⟩ v lv pvs := by
  have hb1 := h.beside2 hg
  have hg2 := set_grown w1 ⟨b, 2, none⟩ v
  have he1 := h.evs.kept hg (own_apart h.evs h.nums (by decide))
  refine ⟨?_, h.low, ho.kept hg2 (own_not ho hb1 (by decide)), h.len, he1.kept hg2 (own_not he1 hb1 (by decide)), fun k hk => ?_⟩
  · have := block_set hb1 2 v
    simpa [cells6] using this
  · obtain ⟨hk1, hk2⟩ := h.each k hk
    have h1 := hk1.kept hg hk2
    refine ⟨h1.kept hg2 (own_not h1 hb1 (by decide)), ?_⟩
    rcases hv with e | ⟨g, e, hge⟩
    · rw [e]; exact hk2
    · rw [e]
      cases hq : (pvs.getD k undef).ownBlock with
      | none => exact .inl rfl
      | some j =>
        right
        intro e2
        injection e2 with e2
        have := (hk1.lt j hq).2
        omega
theorem wrap_digit {c : UInt8} (h1 : 48 ≤ c.toNat) (h2 : c.toNat ≤ 57) (x : Int) : (if (10 * if 0 < x then x else 0) + ((c.toNat : Int) - 48) % 256 < 9999 then (10 * if 0 < x then x else 0) + ((c.toNat : Int) - 48) % 256 else 9999) = min 9999 (10 * max 0 x + ((c.toNat : Int) - 48)) := by
  have e : ((c.toNat : Int) - 48) % 256 = (c.toNat : Int) - 48 := by omega
  rw [e]
  split <;> split <;> omega
/-- The last number is another, in its place. -/
theorem digit_end {w : World} {base b g n cap : Nat} {m : Mc} {lv : Value} {pvs : List Value} {c : UInt8} {y : Int} (h : MachAt w base b m (.slice (some ⟨g, 0, none⟩) n cap) lv pvs) (hn : m.p.params ≠ [])
    (hy : y = min 9999 (10 * max 0 (m.p.params.getD (m.p.params.length - 1) 0) + ((c.toNat : Int) - 48))) (hgb : base ≤ g) :
    Runs base b w ⟨{ m.p with params := digit m.p.params c }, m.l⟩ (.returned (.tuple #[])) (w.setCell ⟨g, m.p.params.length - 1, none⟩ (.int .i64 y)).drew := by
  have hg := set_grown w ⟨g, m.p.params.length - 1, none⟩ (.int .i64 y)
  have hgd : w.grownBy (w.setCell ⟨g, m.p.params.length - 1, none⟩ (.int .i64 y)).drew (some g) := ⟨hg.os, hg.tape, hg.output, hg.size, hg.block⟩
  have hd : digit m.p.params c = m.p.params.set (m.p.params.length - 1) y := by
    unfold digit
    simp only [if_neg hn]
    rw [hy]
  have hnl : m.p.params.length = n := by
    have h2 := h.nums.2
    rcases h2 with ⟨e, _⟩ | ⟨_, _, _, e, _⟩
    · injection e with e _ _; cases e
    · injection e with _ e2 _; exact e2.symm
  have hb1 : (w.setCell ⟨g, m.p.params.length - 1, none⟩ (.int .i64 y)).heap[b]? = some (.cells (cells6 m.p (.slice (some ⟨g, 0, none⟩) n cap) lv) 60 (0, 0)) := by
    refine (hg.block b (block_lt h.block) ?_).trans h.block
    rcases own_not h.nums h.block (by decide) with e | e
    · cases e
    · exact fun hh => e hh.symm
  have hst := (hnl ▸ h.nums : w.ownsRow base 3 1 (.slice (some ⟨g, 0, none⟩) m.p.params.length cap) m.p.params.length (ints m.p.params)).stored (m.p.params.length - 1) (.int .i64 y)
  refine ⟨rfl, ⟨.slice (some ⟨g, 0, none⟩) n cap, lv, pvs, ?_⟩, (Below.refl base w).setCell (p := ⟨g, m.p.params.length - 1, none⟩) hgb _ |>.drew⟩
  refine ⟨hb1, h.low, ?_, h.len, h.evs.kept hgd (own_apart h.evs h.nums (by decide)), fun k hk => ⟨(h.each k hk).1.kept hgd (h.each k hk).2, (h.each k hk).2⟩⟩
  show (w.setCell _ _).ownsRow base _ 1 (.slice (some ⟨g, 0, none⟩) n cap) (digit m.p.params c).length (ints (digit m.p.params c))
  rw [hd, List.length_set]
  have e2 : ints (m.p.params.set (m.p.params.length - 1) y) = (ints m.p.params).set (m.p.params.length - 1) (.int .i64 y) := by unfold ints; rw [List.map_set]
  rw [e2, ← hnl]
  exact hst.1
theorem inter_end2 {w : World} {base b : Nat} {m : Mc} {pv lv : Value} {pvs : List Value} (h : MachAt w base b m pv lv pvs) (c : UInt8) (o : Obj) (hbase : base ≤ w.heap.size) :
    Runs base b w ⟨{ m.p with inter := m.p.inter ++ [c] }, m.l⟩ (.returned (.tuple #[])) ((w.setCell ⟨b, 3, none⟩ (.string (⟨m.p.inter.toArray⟩ ++ ⟨#[c]⟩))).alloc o).drew := by
  have h2 := h.set_ 3 (.string (⟨m.p.inter.toArray⟩ ++ ⟨#[c]⟩)) { m.p with inter := m.p.inter ++ [c] } rfl (by rw [Utf.str_snoc]; rfl)
  have hb : Below base w (w.setCell ⟨b, 3, none⟩ (.string (⟨m.p.inter.toArray⟩ ++ ⟨#[c]⟩))) := (Below.refl _ _).setCell (p := ⟨b, 3, none⟩) h.low _
  exact ⟨rfl, ⟨pv, lv, pvs, h2.kept ((Below.refl _ _).alloc (Nat.le_refl _) o).drew⟩, (hb.alloc (by simpa using hbase) o).drew⟩
/-- What is made later lies in no block of the machine's numbers. -/
theorem fresh_apart {w w3 : World} {base b n : Nat} {m : Mc} {pv lv v : Value} {pvs : List Value} {xs : List Value} (h : MachAt w base b m pv lv pvs) (ho : w3.ownsRow w.heap.size 3 1 v n xs) : v.ownBlock = none ∨ v.ownBlock ≠ pv.ownBlock := by
  cases hv : v.ownBlock with
  | none => exact .inl rfl
  | some g =>
    right
    intro e
    have h1 := (ho.lt g hv).1
    have h2 := (h.nums.lt g e.symm).2
    omega
set_option maxRecDepth 100000 in
set_option maxHeartbeats 3200000 in
theorem csi_low (base b : Nat) (m : Mc) (c : UInt8) (w : World) (h : Mach w base b m) (hl : m.l.length ≤ 600000000) (hbase : base ≤ w.heap.size) (hk : Ok m.p) (hhi : c.toNat ≤ 47) :
    Calls Tryd.prog 47 #[.pointer (some ⟨b, 0, none⟩), .int .u8 c.toNat] w (Runs base b w (m.csi c)) := by
  have hc := Utf.byte_lt c
  obtain ⟨pv, lv, pvs, hm⟩ := h
  obtain ⟨A, cc, rfl⟩ := own_shape hm.nums
  obtain ⟨A', cc', rfl⟩ := own_shape hm.evs
  obtain ⟨r0, r1, r2, r3, r4, r5⟩ := hm.reads
  obtain ⟨f0, f1, f2, f3, f4, f5⟩ := hm.free
  have HM := Lib.hid hm
  have hlow := hm.low
  have hblt := block_lt hm.block
  have hi3 := hk.i3
  have hn16 := hk.n16
  obtain ⟨bt, hbt⟩ : ∃ bt, between m.p.inter = bt := ⟨_, rfl⟩
  have HBT := Lib.hid hbt
  have HK := Lib.hid hk
  clear hm hk hbt
  go_enter Tryd.func47, Tryd.ntmps47
  go_upto_region 1 with (fail)
  go_cut [4, 5] (fun s4 s5 wx => s4 = .int .i64 m.p.params.length ∧ s5 = .bool bt ∧ MachAt wx base b m (.slice A m.p.params.length cc) (.slice A' m.l.length cc') pvs ∧ Below w.heap.size w wx)
  case first =>
    by_cases hi : 0 < m.p.inter.length
    · have hgd : decide ((0 : Int) < (m.p.inter.length : Int)) = true := decide_eq_true (by omega)
      have hgd2 : decide (0 < m.p.inter.length) = true := decide_eq_true hi
      have hw : IntKind.i64.wrap ((m.p.inter.length : Int) - 1) = (m.p.inter.length : Int) - 1 := IntWalk.i64_in _ (by omega)
      have hz : (0 : Int) ≤ (m.p.inter.length : Int) - 1 := by omega
      have hz2 : ((m.p.inter.length : Int) - 1).toNat = m.p.inter.length - 1 := by omega
      have hz4 : (1 : Int) ≤ (m.p.inter.length : Int) := by omega
      have hli := last_at m.p.inter hi
      have hbe : Hid (between m.p.inter = decide (((m.p.inter.getD (m.p.inter.length - 1) 0).toNat : Int) ≤ 47)) := Lib.hid (by
        unfold between; rw [decide_eq_true hi, Bool.true_and]
        rw [decide_eq_decide]; omega)
      generalize m.p.inter.getD (m.p.inter.length - 1) 0 = last at hli hbe
      clear hi
      go_quiet (fail)
      go_wp2_with fail
      go_meet
      exact ⟨rfl, by rw [← HBT.out, hbe.out], HM.out.kept (below_drewN (Below.refl _ _) _), below_drewN (Below.refl _ _) _⟩
    · have hgd : decide ((0 : Int) < (m.p.inter.length : Int)) = false := decide_eq_false (by omega)
      have hgd2 : decide (0 < m.p.inter.length) = false := decide_eq_false hi
      have hbe : Hid (between m.p.inter = false) := Lib.hid (by unfold between; rw [decide_eq_false hi]; rfl)
      clear hi
      go_quiet (fail)
      go_wp2_with fail
      go_meet
      exact ⟨rfl, by rw [← HBT.out, hbe.out], HM.out.kept (below_drewN (Below.refl _ _) _), below_drewN (Below.refl _ _) _⟩
  case rest =>
    obtain ⟨rfl, rfl, hmq, hbq0⟩ := hcut
    clear r0 r1 r2 r3 r4 r5 f0 f1 f2 f3 f4 f5 hblt
    have hbq : Below base w wc := hbq0.mono hbase
    have hbaseq : base ≤ wc.heap.size := Nat.le_trans hbase hbq.size
    obtain ⟨r0, r1, r2, r3, r4, r5⟩ := hmq.reads
    obtain ⟨f0, f1, f2, f3, f4, f5⟩ := hmq.free
    have HMQ := Lib.hid hmq
    have hblt := block_lt hmq.block
    clear hmq hbq0
    by_cases h32 : c.toNat < 32
    · have HE : Hid (m.csi c = m.control c) := Lib.hid (by unfold Mc.csi; rw [if_pos h32])
      have hd1 : decide ((c.toNat : Int) < 32) = true := decide_eq_true (by omega)
      clear h32
      go_wp2_with fail
      refine (control_any base b m c _ ⟨_, _, _, HMQ.out⟩ (by omega) hbaseq).mono ?_
      rintro e w1 ⟨rfl, hm1, hb1⟩
      have HM1 := Lib.hid hm1
      clear hm1
      go_wp2_with fail
      go_end0
      rw [HE.out]
      exact ⟨rfl, HM1.out, hbq.trans hb1⟩
    have hd1 : decide ((c.toNat : Int) < 32) = false := decide_eq_false (by omega)
    by_cases h47 : c.toNat ≤ 47
    · have hd2 : decide ((c.toNat : Int) ≤ 47) = true := decide_eq_true (by omega)
      by_cases h3 : m.p.inter.length = 3
      · have HE : Hid (m.csi c = m.to 4) := Lib.hid (by unfold Mc.csi; rw [if_neg h32, if_pos h47, if_pos h3])
        have hd3 : ((m.p.inter.length : Int) == 3) = true := by rw [beq_iff_eq]; omega
        clear h32 h47 h3
        go_wp2_with fail
        refine (to_any 4 rfl base b m _ ⟨_, _, _, HMQ.out⟩).mono ?_
        rintro e w1 ⟨rfl, hm1, hb1⟩
        have HM1 := Lib.hid hm1
        clear hm1
        go_wp2_with fail
        go_end0
        rw [HE.out]
        exact ⟨rfl, HM1.out, hbq.trans hb1⟩
      · have HE : Hid (m.csi c = ⟨{ m.p with inter := m.p.inter ++ [c] }, m.l⟩) := Lib.hid (by unfold Mc.csi; rw [if_neg h32, if_pos h47, if_neg h3])
        have hd3 : ((m.p.inter.length : Int) == 3) = false := by rw [beq_eq_false_iff_ne]; omega
        have hcat : ¬ 9223372036854775807 < m.p.inter.length + 1 := by omega
        have hcv := fun (W : World) (hq : W.cell? ⟨wc.heap.size, 0, none⟩ = some (.int .u8 c.toNat)) => run_convert_byte1 (P := Tryd.prog) W 46 9 5 ⟨wc.heap.size, 0, none⟩ 1 c Tryd.underlying46 Tryd.underlying5 Tryd.underlying9 hq
        clear h32 h47 h3
        go_wp2_with fail
        go_region
        go_wp2_with fail
        go_end0
        rw [HE.out]
        exact (inter_end2 HMQ.out c _ hbaseq).of hbq
    exact absurd hhi h47

set_option maxRecDepth 100000 in
set_option maxHeartbeats 3200000 in
theorem csi_digit (base b : Nat) (m : Mc) (c : UInt8) (w : World) (h : Mach w base b m) (hbase : base ≤ w.heap.size) (hk : Ok m.p) (hlo : 47 < c.toNat) (hhi : c.toNat ≤ 57) :
    Calls Tryd.prog 47 #[.pointer (some ⟨b, 0, none⟩), .int .u8 c.toNat] w (Runs base b w (m.csi c)) := by
  have hc := Utf.byte_lt c
  obtain ⟨pv, lv, pvs, hm⟩ := h
  obtain ⟨A, cc, rfl⟩ := own_shape hm.nums
  obtain ⟨A', cc', rfl⟩ := own_shape hm.evs
  obtain ⟨r0, r1, r2, r3, r4, r5⟩ := hm.reads
  obtain ⟨f0, f1, f2, f3, f4, f5⟩ := hm.free
  have HM := Lib.hid hm
  have hlow := hm.low
  have hblt := block_lt hm.block
  have hi3 := hk.i3
  have hn16 := hk.n16
  obtain ⟨bt, hbt⟩ : ∃ bt, between m.p.inter = bt := ⟨_, rfl⟩
  have HBT := Lib.hid hbt
  have HK := Lib.hid hk
  clear hm hk hbt
  go_enter Tryd.func47, Tryd.ntmps47
  go_upto_region 1 with (fail)
  go_cut [4, 5] (fun s4 s5 wx => s4 = .int .i64 m.p.params.length ∧ s5 = .bool bt ∧ MachAt wx base b m (.slice A m.p.params.length cc) (.slice A' m.l.length cc') pvs ∧ Below w.heap.size w wx)
  case first =>
    by_cases hi : 0 < m.p.inter.length
    · have hgd : decide ((0 : Int) < (m.p.inter.length : Int)) = true := decide_eq_true (by omega)
      have hgd2 : decide (0 < m.p.inter.length) = true := decide_eq_true hi
      have hw : IntKind.i64.wrap ((m.p.inter.length : Int) - 1) = (m.p.inter.length : Int) - 1 := IntWalk.i64_in _ (by omega)
      have hz : (0 : Int) ≤ (m.p.inter.length : Int) - 1 := by omega
      have hz2 : ((m.p.inter.length : Int) - 1).toNat = m.p.inter.length - 1 := by omega
      have hz4 : (1 : Int) ≤ (m.p.inter.length : Int) := by omega
      have hli := last_at m.p.inter hi
      have hbe : Hid (between m.p.inter = decide (((m.p.inter.getD (m.p.inter.length - 1) 0).toNat : Int) ≤ 47)) := Lib.hid (by
        unfold between; rw [decide_eq_true hi, Bool.true_and]
        rw [decide_eq_decide]; omega)
      generalize m.p.inter.getD (m.p.inter.length - 1) 0 = last at hli hbe
      clear hi
      go_quiet (fail)
      go_wp2_with fail
      go_meet
      exact ⟨rfl, by rw [← HBT.out, hbe.out], HM.out.kept (below_drewN (Below.refl _ _) _), below_drewN (Below.refl _ _) _⟩
    · have hgd : decide ((0 : Int) < (m.p.inter.length : Int)) = false := decide_eq_false (by omega)
      have hgd2 : decide (0 < m.p.inter.length) = false := decide_eq_false hi
      have hbe : Hid (between m.p.inter = false) := Lib.hid (by unfold between; rw [decide_eq_false hi]; rfl)
      clear hi
      go_quiet (fail)
      go_wp2_with fail
      go_meet
      exact ⟨rfl, by rw [← HBT.out, hbe.out], HM.out.kept (below_drewN (Below.refl _ _) _), below_drewN (Below.refl _ _) _⟩
  case rest =>
    obtain ⟨rfl, rfl, hmq, hbq0⟩ := hcut
    clear r0 r1 r2 r3 r4 r5 f0 f1 f2 f3 f4 f5 hblt
    have hbq : Below base w wc := hbq0.mono hbase
    have hbaseq : base ≤ wc.heap.size := Nat.le_trans hbase hbq.size
    obtain ⟨r0, r1, r2, r3, r4, r5⟩ := hmq.reads
    obtain ⟨f0, f1, f2, f3, f4, f5⟩ := hmq.free
    have HMQ := Lib.hid hmq
    have hblt := block_lt hmq.block
    clear hmq hbq0
    have h32 : ¬ c.toNat < 32 := by omega
    have hd1 : decide ((c.toNat : Int) < 32) = false := decide_eq_false (by omega)
    have h47 : ¬ c.toNat ≤ 47 := by omega
    have hd2 : decide ((c.toNat : Int) ≤ 47) = false := decide_eq_false (by omega)
    by_cases h63b : c.toNat ≤ 63 ∧ bt = true
    · obtain ⟨h63, rfl⟩ := h63b
      have HE : Hid (m.csi c = m.to 4) := Lib.hid (by unfold Mc.csi; rw [if_neg h32, if_neg h47, if_pos ⟨h63, HBT.out⟩])
      have hd3 : decide ((c.toNat : Int) ≤ 63) = true := decide_eq_true (by omega)
      clear h32 h47 h63
      go_wp2_with fail
      refine (to_any 4 rfl base b m _ ⟨_, _, _, HMQ.out⟩).mono ?_
      rintro e w1 ⟨rfl, hm1, hb1⟩
      have HM1 := Lib.hid hm1
      clear hm1
      go_wp2_with fail
      go_end0
      rw [HE.out]
      exact ⟨rfl, HM1.out, hbq.trans hb1⟩
    have hpick : Hid (decide ((c.toNat : Int) ≤ 63) = false ∨ bt = false) := Lib.hid (by
      by_cases h63 : c.toNat ≤ 63
      · right; cases bt
        · rfl
        · exact absurd ⟨h63, rfl⟩ h63b
      · left; exact decide_eq_false (by omega))
    have hnb : Hid (¬ (c.toNat ≤ 63 ∧ between m.p.inter = true)) := Lib.hid (by rw [HBT.out]; exact h63b)
    by_cases h57 : c.toNat ≤ 57
    · have HE : Hid (m.csi c = ⟨{ m.p with params := digit m.p.params c }, m.l⟩) := Lib.hid (by unfold Mc.csi; rw [if_neg h32, if_neg h47, if_neg hnb.out, if_pos h57])
      have hd4 : decide ((c.toNat : Int) ≤ 57) = true := decide_eq_true (by omega)
      have hd3 : decide ((c.toNat : Int) ≤ 63) = true := decide_eq_true (by omega)
      obtain rfl : bt = false := by
        rcases hpick.out with h | h
        · rw [hd3] at h; cases h
        · exact h
      by_cases hn0 : m.p.params.length = 0
      · have hp0 : m.p.params = [] := List.eq_nil_of_length_eq_zero hn0
        have hd5 : ((m.p.params.length : Int) == 0) = true := by rw [beq_iff_eq]; omega
        have hne : b ≠ wc.heap.size := by omega
        have H48 : Hid (48 ≤ c.toNat) := Lib.hid (by omega)
        have H57 := Lib.hid h57
        have HP0 := Lib.hid hp0
        clear h63b hn0 h32 h47 h57 hp0
        go_wp2_with fail
        go_region
        go_wp2_with fail
        go_end0
        rw [HE.out]
        have hdg : digit m.p.params c = [(c.toNat : Int) - 48] := by
          have := H48.out; have := H57.out
          rw [HP0.out]; unfold digit; simp; omega
        have hm1 := nums_end (w1 := wc.alloc (.cells #[.int .i64 ((c.toNat : Int) - 48)] 3)) (ys := [(c.toNat : Int) - 48]) HMQ.out (World.grownBy_alloc _ _ _) (owns_one base wc 3 (.int .i64 _) hbaseq) (.inr ⟨_, rfl, Nat.le_refl _⟩)
        rw [World.setCell_alloc_past _ _ _ _ hblt] at hm1
        have hb1 : Below base wc ((wc.setCell ⟨b, 2, none⟩ (.slice (some ⟨wc.heap.size, 0, none⟩) 1 1)).alloc (.cells #[.int .i64 ((c.toNat : Int) - 48)] 3)) := ((Below.refl _ _).setCell (p := ⟨b, 2, none⟩) hlow _).alloc (by simpa using hbaseq) _
        refine ⟨rfl, ⟨.slice (some ⟨wc.heap.size, 0, none⟩) 1 1, .slice A' m.l.length cc', pvs, ?_⟩, hbq.trans hb1.drew⟩
        rw [hdg]
        exact hm1.kept (Below.refl _ _).drew
      · have hd5 : ((m.p.params.length : Int) == 0) = false := by rw [beq_eq_false_iff_ne]; omega
        have hown := HMQ.out.nums
        obtain ⟨g, cap, hsl, hgb, hgl⟩ := hown.form (by omega)
        injection hsl with e1 e2 e3
        subst e1
        subst e3
        have hp0 : 0 < m.p.params.length := by omega
        have hcell := hown.cellAt (m.p.params.length - 1) (by omega)
        have hfree := hown.frozenAt (m.p.params.length - 1)
        rw [ints_get (by omega)] at hcell
        have hw : IntKind.i64.wrap ((m.p.params.length : Int) - 1) = (m.p.params.length : Int) - 1 := IntWalk.i64_in _ (by omega)
        have hz1 : (1 : Int) ≤ (m.p.params.length : Int) := by omega
        have hz3 : (m.p.params.length : Int) - 1 < (m.p.params.length : Int) := by omega
        have hz4 : m.p.params.length - 1 < m.p.params.length := by omega
        have hz2 : ((m.p.params.length : Int) - 1).toNat = m.p.params.length - 1 := by omega
        have hx : -1 ≤ m.p.params.getD (m.p.params.length - 1) 0 ∧ m.p.params.getD (m.p.params.length - 1) 0 ≤ 9999 := by
          have hlt : m.p.params.length - 1 < m.p.params.length := by omega
          exact HK.out.par _ (by simp [List.getD, hlt])
        obtain ⟨x, hxe⟩ : ∃ x, m.p.params.getD (m.p.params.length - 1) 0 = x := ⟨_, rfl⟩
        rw [hxe] at hcell hx
        have HX := Lib.hid hxe
        have H48 : Hid (48 ≤ c.toNat) := Lib.hid (by omega)
        have H57 := Lib.hid h57
        clear h63b hown hn0 hxe h32 h47 h57
        go_wp2_with fail
        go_region
        go_wp2_with fail
        all_goals
          go_end0
          rw [HE.out]
          exact (digit_end HMQ.out (fun e => by rw [e] at hp0; exact absurd hp0 (by decide)) (by rw [HX.out]; have := H48.out; have := H57.out; omega) hgb).of hbq
    exact absurd hhi h57
end Vt
end Go.Proofs.YtjodbmfjdpbbnaaDoor
