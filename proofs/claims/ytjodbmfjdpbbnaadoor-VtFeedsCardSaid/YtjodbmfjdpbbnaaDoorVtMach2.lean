/- The reference's machine: flush, ground, escape. -/
import Derived.Test.YtjodbmfjdpbbnaaDoorVtMach
import Derived.Test.YtjodbmfjdpbbnaaDoorUtfRefC
namespace Go.Proofs.YtjodbmfjdpbbnaaDoor
set_option maxRecDepth 100000
open Go.RowKit
namespace Vt

theorem MachAt.set1 {w : World} {base b : Nat} {m : Mc} {pv lv : Value} {pvs : List Value} (h : MachAt w base b m pv lv pvs) (j : Nat) (u : Value) (p' : Ps) (hp : p'.params = m.p.params) (hcs : (cells6 m.p pv lv).setIfInBounds j u = cells6 p' pv lv) :
    Mach (w.setCell ⟨b, j, none⟩ u) base b ⟨p', m.l⟩ := ⟨pv, lv, pvs, h.upd (set_grown w ⟨b, j, none⟩ u) p' hp (by rw [← hcs]; exact block_set h.block j u)⟩
theorem str_empty (l : List UInt8) : ((⟨l.toArray⟩ : ByteArray).toList.isEmpty) = l.isEmpty := by rw [Lib.toList_data]

set_option maxHeartbeats 800000 in
theorem flush_any (base b : Nat) (m : Mc) (w : World) (h : Mach w base b m) (hl : m.l.length ≤ 700000000) (hbase : base ≤ w.heap.size) :
    Calls Tryd.prog 42 #[.pointer (some ⟨b, 0, none⟩)] w (Runs base b w m.flush) := by
  obtain ⟨pv, lv, pvs, hm⟩ := h
  obtain ⟨A, c, rfl⟩ := own_shape hm.nums
  obtain ⟨A', c', rfl⟩ := own_shape hm.evs
  obtain ⟨r0, r1, r2, r3, r4, r5⟩ := hm.reads
  have HM := Lib.hid hm
  by_cases hp : m.p.part = []
  · have HF : Hid (m.flush = m) := Lib.hid (by unfold Mc.flush; rw [if_pos hp])
    rw [hp] at r1
    clear hp hm
    go_enter Tryd.func42, Tryd.ntmps42
    go_wp2_with fail
    go_end0
    rw [HF.out]
    exact ⟨rfl, ⟨_, _, _, HM.out⟩, Below.refl _ _⟩
  · have HF : Hid (m.flush = ⟨{ m.p with part := [] }, m.l ++ prints [65533]⟩) := Lib.hid (by unfold Mc.flush; rw [if_neg hp])
    have he : m.p.part.isEmpty = false := by cases hq : m.p.part; exact absurd hq hp; rfl
    have he2 := str_empty m.p.part
    rw [he] at he2
    have hlow := hm.low
    clear hp hm
    go_enter Tryd.func42, Tryd.ntmps42
    go_wp2_with fail
    have hal : Below w.heap.size w (w.alloc (.cells #[.int .i64 65533] 3)) := (Below.refl _ _).alloc (Nat.le_refl _) _
    refine (print_any base b m _ [65533] w.heap.size _ ⟨_, _, _, HM.out.kept hal⟩ (owns_one w.heap.size w _ _ (Nat.le_refl _)) (by decide) (by omega) (Nat.le_trans hbase hal.size)).mono ?_
    rintro e w1 ⟨rfl, hm1, hb1⟩
    obtain ⟨pv1, lv1, pvs1, hm1⟩ := hm1
    obtain ⟨q0, q1, q2, q3, q4, q5⟩ := hm1.reads
    obtain ⟨g0, g1, g2, g3, g4, g5⟩ := hm1.free
    have HM1 := Lib.hid hm1
    clear hm1
    go_wp2_with fail
    go_end0
    rw [HF.out]
    exact ⟨rfl, HM1.out.set1 1 (.string ⟨#[]⟩) { m.p with part := [] } rfl rfl, (((Below.refl base w).alloc hbase _).trans hb1).setCell hlow _⟩

set_option maxHeartbeats 1600000 in
theorem ground_any (base b : Nat) (m : Mc) (c : UInt8) (w : World) (h : Mach w base b m) (hl : m.l.length ≤ 600000000) (hbase : base ≤ w.heap.size) (hfit : Utf.fits m.p.part = true) :
    Calls Tryd.prog 45 #[.pointer (some ⟨b, 0, none⟩), .int .u8 c.toNat] w (Runs base b w (m.ground c)) := by
  have hc := Utf.byte_lt c
  by_cases h32 : c.toNat < 32
  · have HG : Hid (m.ground c = m.flush.control c) := Lib.hid (by unfold Mc.ground; rw [if_pos h32])
    have hd : decide ((c.toNat : Int) < 32) = true := decide_eq_true (by omega)
    have H := Lib.hid h
    have hfl : Hid (m.flush.l.length ≤ 600000001) := Lib.hid (by
      unfold Mc.flush
      split
      · omega
      · have := prints_len [65533]
        show (m.l ++ prints [65533]).length ≤ _
        rw [List.length_append]; simp at this; omega)
    clear h
    go_enter Tryd.func45, Tryd.ntmps45
    go_wp2_with fail
    refine (flush_any base b m _ H.out (by omega) hbase).mono ?_
    rintro e w1 ⟨rfl, hm1, hb1⟩
    have HM1 := Lib.hid hm1
    have z1 := hb1.size
    clear hm1
    go_wp2_with fail
    refine (control_any base b m.flush c _ HM1.out (by have := hfl.out; omega) (by omega)).mono ?_
    rintro e w2 ⟨rfl, hm2, hb2⟩
    have HM2 := Lib.hid hm2
    clear hm2
    go_wp2_with fail
    go_end0
    rw [HG.out]
    exact ⟨rfl, HM2.out, hb1.trans hb2⟩
  · have hd : decide ((c.toNat : Int) < 32) = false := decide_eq_false (by omega)
    by_cases h127 : c.toNat = 127
    · have HG : Hid (m.ground c = m.flush) := Lib.hid (by unfold Mc.ground; rw [if_neg h32, if_pos h127])
      have hd2 : ((c.toNat : Int) == 127) = true := by rw [beq_iff_eq]; omega
      have H := Lib.hid h
      clear h h127
      go_enter Tryd.func45, Tryd.ntmps45
      go_wp2_with fail
      refine (flush_any base b m _ H.out (by omega) hbase).mono ?_
      rintro e w1 ⟨rfl, hm1, hb1⟩
      have HM1 := Lib.hid hm1
      clear hm1
      go_wp2_with fail
      go_end0
      rw [HG.out]
      exact ⟨rfl, HM1.out, hb1⟩
    · have HG : Hid (m.ground c = ⟨{ m.p with part := (Utf.next m.p.part c).2 }, m.l ++ prints (Utf.next m.p.part c).1⟩) := Lib.hid (by unfold Mc.ground; rw [if_neg h32, if_neg h127])
      have hd2 : ((c.toNat : Int) == 127) = false := by rw [beq_eq_false_iff_ne]; omega
      have hnl := Utf.next_len m.p.part c
      obtain ⟨pv, lv, pvs, hm⟩ := h
      obtain ⟨r0, r1, r2, r3, r4, r5⟩ := hm.reads
      have HM := Lib.hid hm
      have hlow := hm.low
      clear hm
      go_enter Tryd.func45, Tryd.ntmps45
      go_wp2_with fail
      refine (Utf.next_any ⟨m.p.part.toArray⟩ m.p.part rfl c rfl _ hfit).mono ?_
      rintro e w1 ⟨v, rfl, ho, hb1⟩
      obtain ⟨X, hX⟩ : ∃ X, Utf.next m.p.part c = X := ⟨_, rfl⟩
      rw [hX] at ho hnl HG ⊢
      have HM1 := Lib.hid (HM.out.kept hb1)
      have z1 := hb1.size
      obtain ⟨q0, q1, q2, q3, q4, q5⟩ := HM1.out.reads
      obtain ⟨g0, g1, g2, g3, g4, g5⟩ := HM1.out.free
      have HO := Lib.hid ho
      clear ho hX
      go_wp2_with fail
      have hm2 : Mach (w1.setCell ⟨b, 1, none⟩ (.string ⟨X.2.toArray⟩)) base b ⟨{ m.p with part := X.2 }, m.l⟩ := HM1.out.set1 1 _ _ rfl rfl
      refine (print_any base b ⟨{ m.p with part := X.2 }, m.l⟩ v X.1 w.heap.size _ hm2 (HO.out.kept (set_grown w1 ⟨b, 1, none⟩ _) (own_not HO.out HM1.out.block (by decide))) (by omega) (by show m.l.length ≤ _; omega) (by simp; omega)).mono ?_
      rintro e w2 ⟨rfl, hm3, hb3⟩
      have HM3 := Lib.hid hm3
      clear hm3 hm2
      go_wp2_with fail
      go_end0
      rw [HG.out]
      exact ⟨rfl, HM3.out, ((hb1.mono hbase).setCell hlow _).trans hb3⟩
end Vt
end Go.Proofs.YtjodbmfjdpbbnaaDoor
