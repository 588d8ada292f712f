/- The developers' Check: numbers, bytes between, text; all of it. -/
import Derived.Test.YtjodbmfjdpbbnaaDoorVdCheck
import Derived.Test.YtjodbmfjdpbbnaaDoorRunes
import Derived.Lib.OthersKept
namespace Go.Proofs.YtjodbmfjdpbbnaaDoor
set_option maxRecDepth 100000
open Go.RowKit
namespace Vd
open Vt

set_option maxHeartbeats 800000 in
theorem paramsFit_any (p : Ps) (u : Value) (w : World) (hu : Src w u p.params.length (ints p.params)) (hn : p.params.length ≤ 1000000000) :
    Calls Tryd.prog 21 #[.agg #[.int .i64 p.state, .string ⟨p.part.toArray⟩, u, .string ⟨p.inter.toArray⟩, .string ⟨p.text.toArray⟩]] w fun e w' => e = .returned (.bool (nf p)) ∧ Below w.heap.size w w' := by
  obtain ⟨A, c, rfl, hA⟩ := hu.form
  have hb0 : Below w.heap.size w (w.alloc (.cells #[.int .i64 p.state, .string ⟨p.part.toArray⟩, .slice A p.params.length c, .string ⟨p.inter.toArray⟩, .string ⟨p.text.toArray⟩] 31)) := (Below.refl _ _).alloc (Nat.le_refl _) _
  have HB0 := Lib.hid hb0
  have HA := Lib.hid hA
  clear hb0 hA hu
  by_cases h3 : p.state = 3
  · have e3 : (p.state != 3) = false := bne_no h3
    by_cases h16 : p.params.length ≤ 16
    · have HE : Hid (nf p = p.params.all paramOk) := Lib.hid (by unfold nf; rw [if_neg (fun h => h h3), decide_eq_true h16, Bool.true_and])
      have d16 : decide (16 < (p.params.length : Int)) = false := decide_eq_false (by omega)
      clear h3
      go_enter Tryd.func21, Tryd.ntmps21
      go_wp2_with fail
      obtain ⟨wo, hwo⟩ : ∃ wo, w.alloc (.cells #[.int .i64 p.state, .string ⟨p.part.toArray⟩, .slice A p.params.length c, .string ⟨p.inter.toArray⟩, .string ⟨p.text.toArray⟩] 31) = wo := ⟨_, rfl⟩
      rw [hwo]
      rw [hwo] at HB0
      go_loopw [19] (fun j wr => ∃ k : Nat, k ≤ p.params.length ∧ j = .int .i64 k ∧ wr = wo ∧ Hid (p.params.all paramOk = (p.params.drop k).all paramOk)) (fun j _ => p.params.length - (intOf j).toNat)
      case atStart => exact ⟨0, by omega, rfl, rfl, Lib.hid (by rw [List.drop_zero])⟩
      case round =>
        obtain ⟨k, hk, rfl, rfl, HP⟩ := hrel
        by_cases hlt : k < p.params.length
        · obtain ⟨ad, rfl, hE⟩ := HA.out k hlt
          rw [ints_get hlt] at hE
          have hE2 := cell_kept HB0.out hE
          have HS : Hid (p.params.all paramOk = (paramOk (p.params.getD k 0) && (p.params.drop (k + 1)).all paramOk)) := Lib.hid (by
            rw [HP.out, List.drop_eq_getElem_cons hlt, List.all_cons]
            simp [List.getD, hlt])
          clear hE HP
          generalize p.params.getD k 0 = x at hE2 HS
          by_cases h1 : x < -1
          · have HF : Hid (nf p = false) := Lib.hid (by rw [HE.out, HS.out]; unfold paramOk; rw [decide_eq_false (by omega)]; simp)
            have d1 : decide (x < -1) = true := decide_eq_true h1
            clear h1
            go_wp2_with fail
            go_ret
            exact ⟨ret_bool HF.out.symm, HB0.out⟩
          · have d1 : decide (x < -1) = false := decide_eq_false h1
            by_cases h2 : 9999 < x
            · have HF : Hid (nf p = false) := Lib.hid (by rw [HE.out, HS.out]; unfold paramOk; rw [decide_eq_false (show ¬ x ≤ 9999 by omega)]; simp)
              have d2 : decide (9999 < x) = true := decide_eq_true h2
              clear h1 h2
              go_wp2_with fail
              go_ret
              exact ⟨ret_bool HF.out.symm, HB0.out⟩
            · have HT : Hid (p.params.all paramOk = (p.params.drop (k + 1)).all paramOk) := Lib.hid (by rw [HS.out]; unfold paramOk; rw [decide_eq_true (show -1 ≤ x by omega), decide_eq_true (show x ≤ 9999 by omega)]; simp)
              have d2 : decide (9999 < x) = false := decide_eq_false h2
              clear h1 h2
              go_wp2_with fail
              go_roundw
              case rel => exact ⟨k + 1, by omega, by go_num, by trivial, HT⟩
              case measure => simp [intOf]; omega
        · have HF : Hid (nf p = true) := Lib.hid (by rw [HE.out, HP.out, List.drop_eq_nil_of_le (by omega)]; rfl)
          have d1 : decide (k < p.params.length) = false := decide_eq_false hlt
          clear hlt
          go_wp2_with fail
          go_ret
          exact ⟨ret_bool HF.out.symm, HB0.out⟩
    · have HE : Hid (nf p = false) := Lib.hid (by unfold nf; rw [if_neg (fun h => h h3), decide_eq_false h16, Bool.false_and])
      have d16 : decide (16 < (p.params.length : Int)) = true := decide_eq_true (by omega)
      clear h3 h16
      go_enter Tryd.func21, Tryd.ntmps21
      go_wp2_with fail
      go_ret
      exact ⟨ret_bool HE.out.symm, HB0.out⟩
  · have HE : Hid (nf p = ((p.params.length : Int) == 0)) := Lib.hid (by
      unfold nf; rw [if_pos h3]
      by_cases h0 : p.params.length = 0
      · rw [decide_eq_true h0, h0]; rfl
      · rw [decide_eq_false h0]; symm; rw [beq_eq_false_iff_ne]; omega)
    have e3 : (p.state != 3) = true := bne_yes h3
    clear h3
    go_enter Tryd.func21, Tryd.ntmps21
    go_wp2_with fail
    go_ret
    exact ⟨ret_bool (by rw [HE.out]), HB0.out⟩

theorem drop_len {s : ByteArray} (pos : Nat) : (s.data.toList.drop pos).length = s.size - pos := by rw [List.length_drop]; rfl
theorem emp_dec (l : List UInt8) : ((⟨l.toArray⟩ : ByteArray).toList.isEmpty) = decide (l = []) := by
  rw [Lib.toList_data]; cases l <;> simp

set_option maxHeartbeats 1600000 in
theorem textFits_any (p : Ps) (A : Option Addr) (c : Nat) (w : World) (hn : p.text.length ≤ 1000000000) :
    Calls Tryd.prog 23 #[.agg #[.int .i64 p.state, .string ⟨p.part.toArray⟩, .slice A p.params.length c, .string ⟨p.inter.toArray⟩, .string ⟨p.text.toArray⟩]] w fun e w' => e = .returned (.bool (tf p)) ∧ Below w.heap.size w w' := by
  have hb0 : Below w.heap.size w (w.alloc (.cells #[.int .i64 p.state, .string ⟨p.part.toArray⟩, .slice A p.params.length c, .string ⟨p.inter.toArray⟩, .string ⟨p.text.toArray⟩] 31)) := (Below.refl _ _).alloc (Nat.le_refl _) _
  have HB0 := Lib.hid hb0
  clear hb0
  by_cases h57 : p.state ≠ 5 ∧ p.state ≠ 7
  · have e5 : (p.state != 5) = true := bne_yes h57.1
    have e7 : (p.state != 7) = true := bne_yes h57.2
    have HE : Hid (tf p = decide (p.text = [])) := Lib.hid (by unfold tf; rw [if_pos h57])
    clear h57
    by_cases h0 : p.text = []
    · have HF : Hid (tf p = true) := Lib.hid (by rw [HE.out, decide_eq_true h0])
      have hpe := strE p.text
      have he2 : p.text.isEmpty = true := by rw [h0]; rfl
      rw [he2] at hpe
      clear h0
      go_enter Tryd.func23, Tryd.ntmps23
      go_wp2_with fail
      go_ret
      exact ⟨ret_bool (by rw [HF.out]), HB0.out⟩
    · have HF : Hid (tf p = false) := Lib.hid (by rw [HE.out, decide_eq_false h0])
      have hpe := strE p.text
      have he2 : p.text.isEmpty = false := emp_no h0
      rw [he2] at hpe
      clear h0
      go_enter Tryd.func23, Tryd.ntmps23
      go_wp2_with fail
      go_ret
      exact ⟨ret_bool (by rw [HF.out]), HB0.out⟩
  · have HE : Hid (tf p = (decide (p.text.length ≤ 64) && textOk p.text)) := Lib.hid (by unfold tf; rw [if_neg h57])
    have hst : p.state = 5 ∨ p.state = 7 := by
      by_cases h5 : p.state = 5
      · exact .inl h5
      · exact .inr (Classical.not_not.1 fun h7 => h57 ⟨h5, h7⟩)
    obtain ⟨s, a, n, i, t⟩ := p
    simp only at HB0 HE hn hst ⊢
    clear h57
    by_cases h64 : t.length ≤ 64
    · have d64 : decide (64 < (t.length : Int)) = false := decide_eq_false (by omega)
      rw [decide_eq_true h64, Bool.true_and] at HE
      have hfs : ((s != 5) = false) ∨ ((s != 5) = true ∧ (s != 7) = false) := by
        rcases hst with e | e
        · exact .inl (bne_no e)
        · exact .inr ⟨bne_yes (by omega), bne_no e⟩
      clear hst
      rcases hfs with e5 | ⟨e5, e7⟩
      all_goals
        go_enter Tryd.func23, Tryd.ntmps23
        go_wp2_with fail
        obtain ⟨S, hS⟩ : ∃ S : ByteArray, ⟨t.toArray⟩ = S := ⟨_, rfl⟩
        have hSl : S.data.toList = t := by rw [← hS]
        have hSz : S.size = t.length := by rw [← hS]; rfl
        rw [hS] at HB0 ⊢
        obtain ⟨wo, hwo⟩ : ∃ wo, w.alloc (.cells #[.int .i64 s, .string ⟨a.toArray⟩, .slice A n.length c, .string ⟨i.toArray⟩, .string S] 31) = wo := ⟨_, rfl⟩
        have hz : wo.heap.size = w.heap.size + 1 := by rw [← hwo]; simp
        rw [hwo] at HB0 ⊢
        rw [show textOk t = textOk S.data.toList by rw [hSl]] at HE
        clear hwo hS d64
        go_loopw [4] (fun _ wr => ∃ pos : Nat, wr = wo.iter S pos ∧ pos ≤ S.size ∧ Hid (textOk S.data.toList = textOk (S.data.toList.drop pos))) (fun _ wr => S.size - wr.iterPos wo.heap.size)
        case atStart => exact ⟨0, rfl, by omega, Lib.hid (by rw [List.drop_zero])⟩
        case round =>
          obtain ⟨pos, rfl, hps, HR⟩ := hrel
          by_cases hp : pos < S.size
          · have hnx : ∀ ty, (Instr.next (.pointer (some ⟨wo.heap.size, 0, none⟩)) true ty).run Tryd.prog (wo.iter S pos) = _ := fun ty => run_next_any wo S pos ty hp
            rw [hz] at hnx
            have hk := dec_step (Utf.drop_ne hp)
            have HS := Lib.hid (textOk_step (Utf.drop_ne hp))
            have hle := hk.2
            rw [drop_len] at hle
            have hsm := Utf.dec_small (S.data.toList.drop pos)
            rw [Utf.dec_at] at hnx
            obtain ⟨d, hD⟩ : ∃ d, Utf.dec (S.data.toList.drop pos) = d := ⟨_, rfl⟩
            rw [hD] at hnx hk HS hle hsm
            have hk1 := hk.1
            clear hD hk
            by_cases h32 : d.1 < 32
            · have HF : Hid (tf ⟨s, a, n, i, t⟩ = false) := Lib.hid (by rw [HE.out, HR.out, HS.out, decide_eq_false (by omega), Bool.false_and])
              have d32 : decide ((d.1 : Int) < 32) = true := decide_eq_true (by omega)
              clear h32
              go_wp2_with fail
              go_ret
              exact ⟨ret_bool HF.out.symm, Utf.below_iter HB0.out HB0.out.size _ _⟩
            · have HT : Hid (textOk S.data.toList = textOk (S.data.toList.drop (pos + d.2))) := Lib.hid (by rw [HR.out, HS.out, decide_eq_true (by omega), Bool.true_and, List.drop_drop])
              have d32 : decide ((d.1 : Int) < 32) = false := decide_eq_false (by omega)
              clear h32
              go_wp2_with fail
              go_roundw
              case rel => exact ⟨pos + d.2, rfl, by omega, HT⟩
              case measure => simp only [World.iterPos_iter]; omega
          · have hnx : ∀ ty, (Instr.next (.pointer (some ⟨wo.heap.size, 0, none⟩)) true ty).run Tryd.prog (wo.iter S pos) = _ := fun ty => run_next_end wo S pos ty hp
            rw [hz] at hnx
            have HF : Hid (tf ⟨s, a, n, i, t⟩ = true) := Lib.hid (by rw [HE.out, HR.out, List.drop_eq_nil_of_le (by show S.size ≤ pos; omega)]; rfl)
            go_wp2_with fail
            go_ret
            exact ⟨ret_bool HF.out.symm, Utf.below_iter HB0.out HB0.out.size _ _⟩
    · have d64 : decide (64 < (t.length : Int)) = true := decide_eq_true (by omega)
      rw [decide_eq_false h64, Bool.false_and] at HE
      have hfs : ((s != 5) = false) ∨ ((s != 5) = true ∧ (s != 7) = false) := by
        rcases hst with e | e
        · exact .inl (bne_no e)
        · exact .inr ⟨bne_yes (by omega), bne_no e⟩
      clear hst h64
      rcases hfs with e5 | ⟨e5, e7⟩
      all_goals
        go_enter Tryd.func23, Tryd.ntmps23
        go_wp2_with fail
        go_ret
        exact ⟨ret_bool HE.out.symm, HB0.out⟩
end Vd
end Go.Proofs.YtjodbmfjdpbbnaaDoor
