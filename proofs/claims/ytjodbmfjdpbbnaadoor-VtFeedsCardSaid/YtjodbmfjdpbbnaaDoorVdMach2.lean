/- The developers' machine: print, flush, between, begin, digit, separate, parameter. -/
import Derived.Test.YtjodbmfjdpbbnaaDoorVdMach
namespace Go.Proofs.YtjodbmfjdpbbnaaDoor
set_option maxRecDepth 100000
open Go.RowKit
namespace Vd
open Vt

/-! ### runes as numbers -/
theorem start_small (b : UInt8) : ∀ r ∈ (Utf.start b).1, 0 ≤ r ∧ r ≤ 3000000 := by
  intro r hr
  have := Utf.byte_lt b
  unfold Utf.start at hr
  split at hr
  · simp at hr; omega
  · split at hr
    · simp at hr
    · simp at hr; omega
theorem value_small (l : List UInt8) (b : UInt8) : Utf.value l b ≤ 3000000 := by
  unfold Utf.value
  split <;> omega
theorem next_small (p : List UInt8) (b : UInt8) : ∀ r ∈ (Utf.next p b).1, 0 ≤ r ∧ r ≤ 3000000 := by
  cases p with
  | nil => exact start_small b
  | cons f l =>
    intro r hr
    rw [Utf.next_cons] at hr
    split at hr
    · split at hr
      · simp at hr
      · have := value_small (f :: l) b
        simp at hr; omega
    · simp only [List.mem_cons] at hr
      rcases hr with rfl | hr
      · omega
      · exact start_small b r hr
theorem brk_small (p : List UInt8) : ∀ r ∈ Utf.brk p, 0 ≤ r ∧ r ≤ 3000000 := by
  intro r hr
  unfold Utf.brk at hr
  split at hr
  · simp at hr
  · simp at hr; omega
theorem flush_brk (m : Mc) : m.flush = ⟨{ m.p with part := [] }, m.l ++ prints (Utf.brk m.p.part)⟩ := by
  unfold Mc.flush Utf.brk
  split
  · rename_i h
    obtain ⟨p, l⟩ := m
    obtain ⟨s, a, n, i, t⟩ := p
    simp only at h
    subst h
    simp [prints]
  · rfl

set_option maxHeartbeats 1600000 in
theorem print_any (base b : Nat) (m : Mc) (x : Value) (xs : List Int) (B : Nat) (w : World) (h : Md w base b m) (hx : w.ownsRow B 3 1 x xs.length (ints xs)) (hr : ∀ r ∈ xs, 0 ≤ r ∧ r ≤ 3000000) (hn : xs.length ≤ 1000) (hl : m.l.length ≤ 800000000) (hbase : base ≤ w.heap.size) :
    Calls Tryd.prog 52 #[.pointer (some ⟨b, 0, none⟩), x] w (RunsD base b w (m.print xs)) := by
  obtain ⟨A, c, rfl⟩ := own_shape hx
  have HX := Lib.hid hx
  have HM0 := Lib.hid h
  have HR := Lib.hid hr
  have hbase' := Lib.hid hbase
  clear hx h hbase hr
  go_enter Tryd.func52, Tryd.ntmps52
  go_wp2_with fail
  go_loopw [8] (fun j wr => ∃ k : Nat, k ≤ xs.length ∧ j = .int .i64 k ∧ Hid (Md wr base b (m.print (xs.take k))) ∧ Hid (wr.ownsRow B 3 1 (.slice A xs.length c) xs.length (ints xs)) ∧ Below base w wr) (fun j _ => xs.length - (intOf j).toNat)
  case atStart => exact ⟨0, by omega, rfl, Lib.hid (by simpa [Mc.print, prints] using HM0.out), HX, Below.refl _ _⟩
  case round =>
    obtain ⟨k, hk, rfl, HM, HX2, hbl⟩ := hrel
    by_cases hlt : k < xs.length
    · obtain ⟨A', c', hA, hf⟩ := (Src.own HX2.out).form
      obtain ⟨ad, e, hE2⟩ := hf k hlt
      injection hA with h1 h2 h3
      subst h1
      subst h3
      subst e
      rw [ints_get hlt] at hE2
      clear hf
      have HS := Lib.hid (print_succ m hlt)
      have hrr := HR.out (xs.getD k 0) (by simp [List.getD, hlt])
      have hlen : (m.print (xs.take k)).l.length ≤ 800001000 := by
        have h1 := prints_len (xs.take k)
        have h2 : (xs.take k).length ≤ xs.length := by rw [List.length_take]; omega
        show (m.l ++ prints (xs.take k)).length ≤ _
        rw [List.length_append]; omega
      clear h2
      generalize xs.getD k 0 = r at hE2 HS hrr
      have hwr : IntKind.i32.wrap r = r := by rw [IntKind.wrap_i32]; omega
      have hbs : base ≤ wr.heap.size := Nat.le_trans hbase'.out hbl.size
      by_cases h128 : r < 128
      · have HS2 : Hid (m.print (xs.take (k + 1)) = (m.print (xs.take k)).tell (printE r)) := Lib.hid (by rw [HS.out, if_pos (by unfold shown; rw [decide_eq_true h128]; rfl)])
        have HG : Hid (Good (printE r)) := Lib.hid (.print r hrr.1 hrr.2)
        clear HS hrr
        go_wp2_with fail
        refine (tellk_any base b (m.print (xs.take k)) (printE r) _ rfl HG.out rfl _ HM.out (by omega) hbs).mono ?_
        rintro e w1 ⟨⟨rfl, hm1, hb1⟩, hk1⟩
        have HM1 := Lib.hid hm1
        have HX1 := Lib.hid (hk1 _ _ _ _ HX2.out)
        clear hm1 hk1
        go_wp2_with fail
        go_roundw
        case rel => exact ⟨k + 1, by omega, by go_num, by rw [HS2.out]; exact HM1, HX1, hbl.trans hb1⟩
        case measure => simp [intOf]; omega
      · have hd1 : decide (r < 128) = false := decide_eq_false h128
        by_cases h159 : 159 < r
        · have HS2 : Hid (m.print (xs.take (k + 1)) = (m.print (xs.take k)).tell (printE r)) := Lib.hid (by rw [HS.out, if_pos (by unfold shown; rw [decide_eq_true h159, Bool.or_true])])
          have HG : Hid (Good (printE r)) := Lib.hid (.print r hrr.1 hrr.2)
          clear HS h128 hrr
          go_wp2_with fail
          refine (tellk_any base b (m.print (xs.take k)) (printE r) _ rfl HG.out rfl _ HM.out (by omega) hbs).mono ?_
          rintro e w1 ⟨⟨rfl, hm1, hb1⟩, hk1⟩
          have HM1 := Lib.hid hm1
          have HX1 := Lib.hid (hk1 _ _ _ _ HX2.out)
          clear hm1 hk1
          go_wp2_with fail
          go_roundw
          case rel => exact ⟨k + 1, by omega, by go_num, by rw [HS2.out]; exact HM1, HX1, hbl.trans hb1⟩
          case measure => simp [intOf]; omega
        · have hd2 : decide (159 < r) = false := decide_eq_false h159
          have HS2 : Hid (m.print (xs.take (k + 1)) = m.print (xs.take k)) := Lib.hid (by rw [HS.out, if_neg (by unfold shown; rw [hd1, hd2]; decide)])
          clear HS h128 h159 hrr
          go_wp2_with fail
          go_roundw
          case rel => exact ⟨k + 1, by omega, by go_num, Lib.hid (by rw [HS2.out]; exact HM.out), HX2, hbl⟩
          case measure => simp [intOf]; omega
    · have hkl : k = xs.length := by omega
      subst hkl
      have HE : Hid (xs.take xs.length = xs) := Lib.hid (List.take_of_length_le (Nat.le_refl _))
      clear hlt
      go_wp2_with fail
      go_end0
      have hm := HM.out
      rw [HE.out] at hm
      exact ⟨rfl, hm, hbl⟩

theorem Md.set_ {w : World} {base b : Nat} {m : Mc} (h : Md w base b m) (j : Nat) (u : Value) (p' : Ps) (hp : p'.params = m.p.params) (hcs : ∀ pv lv, (cells6 m.p pv lv).setIfInBounds j u = cells6 p' pv lv) :
    Md (w.setCell ⟨b, j, none⟩ u) base b ⟨p', m.l⟩ := by
  obtain ⟨pv, lv, pvs, hm, ha⟩ := h
  exact ⟨pv, lv, pvs, hm.set_ j u p' hp (hcs pv lv), ha⟩
theorem Md.low {w : World} {base b : Nat} {m : Mc} (h : Md w base b m) : base ≤ b := by
  obtain ⟨pv, lv, pvs, hm, ha⟩ := h
  exact hm.low

set_option maxHeartbeats 800000 in
theorem flush_any (base b : Nat) (m : Mc) (w : World) (h : Md w base b m) (hl : m.l.length ≤ 700000000) (hbase : base ≤ w.heap.size) (hf : Utf.fits m.p.part = true) (ht : Utf.Tabs w) :
    Calls Tryd.prog 37 #[.pointer (some ⟨b, 0, none⟩)] w (RunsD base b w m.flush) := by
  have HF : Hid (m.flush = ⟨{ m.p with part := [] }, m.l ++ prints (Utf.brk m.p.part)⟩) := Lib.hid (flush_brk m)
  have HFit := Lib.hid hf
  have HT := Lib.hid ht
  have hp3 := Utf.fits_len hf
  have hbl := Utf.brk_len m.p.part
  obtain ⟨pv, lv, pvs, hm, ha⟩ := h
  obtain ⟨r0, r1, r2, r3, r4, r5⟩ := hm.reads
  have HM : Hid (Md w base b m) := Lib.hid ⟨pv, lv, pvs, hm, ha⟩
  have hlow := hm.low
  clear hm ha hf ht
  go_enter Tryd.func37, Tryd.ntmps37
  go_wp2_with fail
  refine (Utf.utfFlush_any ⟨m.p.part.toArray⟩ _ (by show m.p.part.length ≤ _; omega) HT.out HFit.out).mono ?_
  rintro e w1 ⟨v, rfl, ho, hb1⟩
  have HM1 := Lib.hid (HM.out.kept hb1)
  have z1 := hb1.size
  have HO := Lib.hid ho
  clear ho
  go_wp2_with fail
  refine (print_any base b m v (Utf.brk m.p.part) w.heap.size _ HM1.out HO.out (brk_small _) (by omega) (by omega) (by omega)).mono ?_
  rintro e w2 ⟨rfl, hm2, hb2⟩
  obtain ⟨pv2, lv2, pvs2, hm2, ha2⟩ := hm2
  obtain ⟨q0, q1, q2, q3, q4, q5⟩ := hm2.reads
  obtain ⟨g0, g1, g2, g3, g4, g5⟩ := hm2.free
  have HM2 : Hid (Md w2 base b (m.print (Utf.brk m.p.part))) := Lib.hid ⟨pv2, lv2, pvs2, hm2, ha2⟩
  clear hm2 ha2
  go_wp2_with fail
  go_end0
  rw [HF.out]
  exact ⟨rfl, HM2.out.set_ 1 (.string ⟨#[]⟩) { m.p with part := [] } rfl (fun _ _ => rfl), ((hb1.mono hbase).trans hb2).setCell hlow _⟩

theorem encode_small (c : UInt8) (h : c.toNat < 128) : Utf8.encode (c.toNat : Int) = ⟨#[c]⟩ := by
  have ha : ∀ n : Fin 128, Utf8.encode ((n.val : Nat) : Int) = ⟨#[UInt8.ofNat n.val]⟩ := by decide +kernel
  have := ha ⟨c.toNat, h⟩
  simpa using this
end Vd
end Go.Proofs.YtjodbmfjdpbbnaaDoor
