/- The text of keys, to the developers: Text. -/
import Derived.Test.YtkkpdfjbgiijlaaDoorKeyDevB
import Derived.Test.YtkkpdfjbgiijlaaDoorKeyText
import Derived.Test.YtkkpdfjbgiijlaaDoorKeyLawT
import Derived.Laws.MakeOwn
namespace Go.Proofs.YtkkpdfjbgiijlaaDoor
set_option maxRecDepth 100000
open Go.RowKit Tri KeyM Byt
namespace Key

theorem make_bytes (n : Nat) (hn : n ≤ 1000000) (w : World) : ∃ wm, (Instr.makeSlice 56 (.int .i64 0) (.int .i64 n)).run Tryd.prog w = .ok (.slice (some ⟨w.heap.size, 0, none⟩) 0 n) wm ∧
    StB w.heap.size w wm (.slice (some ⟨w.heap.size, 0, none⟩) 0 n) [] := by
  obtain ⟨i, hi, hz, h1, h2⟩ := byte_row
  obtain ⟨wm, hr, ho, hg⟩ := run_make_own (P := Tryd.prog) w w.heap.size 56 5 i _ 1 Tryd.underlying56 hi hz h1 .i64 .i64 n (by rw [h2]; omega) (by simp only [maxLen]; omega) (Nat.le_refl _)
  exact ⟨wm, hr, ho, ⟨hg.os, hg.tape, hg.output, hg.size, fun k hk => hg.block k hk (by simp)⟩, hg.size⟩
theorem ret_text2 {a b : ByteArray} {x y : Int} (h : a = b) (hx : x = y) : Ending.returned (.tuple #[.string a, .int .i64 x]) = .returned (.tuple #[.string b, .int .i64 y]) := by rw [h, hx]
set_option maxHeartbeats 3200000 in
theorem devText : DevText := by
  intro l x w hx hn hsm
  obtain ⟨A, c, rfl, _⟩ := hx.form
  have HX := Lib.hid hx
  have HM := Lib.hid (fun i (hi : i < l.length) W => may_any (g l i) (hsm i hi) W)
  have HKB : Hid (keysB l = true → ∀ i, i < l.length → 0 ≤ (g l i).b ∧ (g l i).b ≤ 16777215) := Lib.hid fun h i hi => by
    have := keyB_facts (keysB_iff.1 h i hi); omega
  have HNO : Hid (∀ i, i < l.length → keyB (g l i) = false → keysB l = false) := Lib.hid fun i hi h => by
    cases q : keysB l
    · rfl
    · rw [keysB_iff.1 q i hi] at h; cases h
  have HYES : Hid ((∀ i, i < l.length → keyB (g l i) = true) → keysB l = true) := Lib.hid fun h => keysB_iff.2 h
  have HA : Hid (ansT l = if keysB l = true then (if l.length ≤ 200 then ⟨(textK l).toArray⟩ else ⟨#[]⟩) else ⟨#[]⟩) := Lib.hid rfl
  have HC : Hid (codeT l = if keysB l = true then (if l.length ≤ 200 then 0 else 2) else 1) := Lib.hid rfl
  generalize ansT l = ans at HA ⊢
  generalize codeT l = cc at HC ⊢
  generalize keysB l = kb at HKB HNO HYES HA HC
  clear hx hsm
  go_enter Tryd.func14, Tryd.ntmps14
  go_wp2_with fail
  go_loopw [11] (fun i wr => ∃ k : Nat, k ≤ l.length ∧ i = .int .i64 k ∧ Hid (∀ j, j < k → keyB (g l j) = true) ∧ Below w.heap.size w wr) (fun i _ => l.length - (intOf i).toNat)
  case atStart => exact ⟨0, by omega, rfl, Lib.hid fun j hj => absurd hj (by omega), Below.refl _ _⟩
  case round =>
    obtain ⟨k, hk, rfl, HAL, hbl⟩ := hrel
    by_cases hlt : k < l.length
    · obtain ⟨A', c', eA, hf⟩ := (HX.out.kept hbl).form
      injection eA with eA1 eA2 eA3
      subst eA1
      obtain ⟨ad, rfl, K⟩ := hf k hlt
      have HMK := Lib.hid (HM.out k hlt)
      have HN1 := Lib.hid (HNO.out k hlt)
      have HNX : Hid (keyB (g l k) = true → ∀ j, j < k + 1 → keyB (g l j) = true) := Lib.hid fun q j hj => by
        by_cases e : j = k
        · rw [e]; exact q
        · exact HAL.out j (by omega)
      clear hf eA3 eA2
      generalize g l k = t at K HMK HN1 HNX
      have h0 := K.head
      have h1 := K.next 0 rfl
      have h2 := K.next 1 rfl
      clear K
      generalize keyB t = tb at HMK HN1 HNX
      obtain ⟨p, q, r⟩ := t
      unfold tagg at HMK
      simp only at HMK h0 h1 h2
      have hbase := hbl.size
      have HB1 : Hid (∀ o, Below w.heap.size w (wr.alloc o)) := Lib.hid fun o => hbl.alloc hbase _
      cases tb with
      | false =>
        obtain rfl : kb = false := HN1.out rfl
        obtain rfl : ans = ⟨#[]⟩ := HA.out
        obtain rfl : cc = 1 := HC.out
        clear HNX HN1 HA HC hbl
        go_wp2_with fail
        refine (HMK.out _).mono ?_; rintro e w2 ⟨rfl, hb⟩
        have HB2 := Lib.hid ((HB1.out _).trans (hb.mono (HB1.out _).size))
        clear hb
        go_wp2_with fail
        go_ret2
        exact ⟨rfl, HB2.out⟩
      | true =>
        have HNX2 := Lib.hid (HNX.out rfl)
        clear HNX HN1 hbl
        go_wp2_with fail
        refine (HMK.out _).mono ?_; rintro e w2 ⟨rfl, hb⟩
        have HB2 := Lib.hid ((HB1.out _).trans (hb.mono (HB1.out _).size))
        clear hb
        go_wp2_with fail
        go_roundw
        case rel => exact ⟨k + 1, by omega, by go_num, HNX2, HB2.out⟩
        case measure => simp [intOf]; omega
    · obtain rfl : kb = true := HYES.out fun i hi => HAL.out i (by omega)
      have HKX : Hid (∀ i, i < l.length → 0 ≤ (g l i).b ∧ (g l i).b ≤ 16777215) := Lib.hid (HKB.out rfl)
      have HA2 : Hid (ans = if l.length ≤ 200 then ⟨(textK l).toArray⟩ else ⟨#[]⟩) := HA
      have HC2 : Hid (cc = if l.length ≤ 200 then 0 else 2) := HC
      have hkn : ¬ k < l.length := hlt
      have HX2 := Lib.hid (HX.out.kept hbl)
      have HBL := Lib.hid hbl
      clear HA HC HKB HNO HYES HAL HM hbl HX
      by_cases h200 : l.length ≤ 200
      · obtain rfl : ans = ⟨(textK l).toArray⟩ := by rw [HA2.out, if_pos h200]
        obtain rfl : cc = 0 := by rw [HC2.out, if_pos h200]
        clear HA2 HC2
        obtain ⟨w0, rfl⟩ : ∃ w0, w0 = wr := ⟨_, rfl⟩
        have hw5 : IntKind.i64.wrap (5 * (l.length : Int)) = ((5 * l.length : Nat) : Int) := by rw [IntKind.wrap_i64]; omega
        have hd200 : decide (200 < (l.length : Int)) = false := decide_eq_false (by omega)
        obtain ⟨wm, hm, HS0⟩ := make_bytes (5 * l.length) (by omega) w0
        have HS0 := Lib.hid HS0
        generalize 5 * l.length = L5 at hw5 hm HS0
        go_wp2_with fail
        clear hm hw5
        go_loopw [6, 28] (fun v i wn => ∃ k : Nat, k ≤ l.length ∧ i = .int .i64 k ∧ Hid (StB w0.heap.size w0 wn v (textK (l.take k)))) (fun _ i _ => l.length - (intOf i).toNat)
        case atStart => exact ⟨0, by omega, rfl, HS0⟩
        case round =>
          obtain ⟨k, hk, rfl, HS⟩ := hrel
          have HLN : Hid ((textK (l.take k)).length ≤ 500000) := Lib.hid (by rw [textK_length, List.length_take]; omega)
          by_cases hlt : k < l.length
          · have HT := Lib.hid (textK_take hlt)
            obtain ⟨A', c', eA, hf⟩ := (HX2.out.kept HS.out.bel).form
            injection eA with eA1 eA2 eA3
            subst eA1
            obtain ⟨ad, rfl, K⟩ := hf k hlt
            have HFV : Hid (five (g l k) = [Key.u8 (g l k).a, Key.u8 (g l k).c, Key.u8 ((g l k).b / 65536), Key.u8 ((g l k).b / 256), Key.u8 (g l k).b]) := Lib.hid rfl
            clear hf eA3 eA2
            generalize g l k = t at K HT HFV
            have h0 := K.head
            have h1 := K.next 0 rfl
            have h2 := K.next 1 rfl
            clear K
            generalize textK (l.take k) = X at HS HT HLN ⊢
            obtain ⟨p, q, r⟩ := t
            simp only at h0 h1 h2 HFV
            have y1 := u8_val p
            have y2 := u8_val r
            have y3 := u8_val (q / 65536)
            have y4 := u8_val (q / 256)
            have y5 := u8_val q
            generalize Key.u8 p = p1 at y1 HFV
            generalize Key.u8 r = p2 at y2 HFV
            generalize Key.u8 (q / 65536) = p3 at y3 HFV
            generalize Key.u8 (q / 256) = p4 at y4 HFV
            generalize Key.u8 q = p5 at y5 HFV
            obtain ⟨AA, cA, rfl⟩ := HS.out.own.shape
            have HSA := Lib.hid ((HS.out.alloc (kbx ⟨p, q, r⟩)).alloc (.cells #[.int .u8 (p1.toNat : Int), .int .u8 (p2.toNat : Int), .int .u8 (p3.toNat : Int), .int .u8 (p4.toNat : Int), .int .u8 (p5.toNat : Int)] 5))
            have HSR : Hid (∀ cap : Nat, Src ((wr.alloc (kbx ⟨p, q, r⟩)).alloc (.cells #[.int .u8 (p1.toNat : Int), .int .u8 (p2.toNat : Int), .int .u8 (p3.toNat : Int), .int .u8 (p4.toNat : Int), .int .u8 (p5.toNat : Int)] 5)) (.slice (some ⟨wr.heap.size + 1, 0, none⟩) 5 cap) 5 (bvals [p1, p2, p3, p4, p5])) :=
              Lib.hid fun cap => by
                have h := Src.made (wr.alloc (kbx ⟨p, q, r⟩)) (bvals [p1, p2, p3, p4, p5]) 5 5 cap rfl
                rw [show (wr.alloc (kbx ⟨p, q, r⟩)).heap.size = wr.heap.size + 1 by simp] at h
                exact h
            have hs16 : q >>> 16 = q / 65536 := by rw [Int.shiftRight_eq_div_pow]; rfl
            have hs8 : q >>> 8 = q / 256 := by rw [Int.shiftRight_eq_div_pow]; rfl
            go_wp2_with (at_builtin; refine wp_append_bytes rfl rfl w0.heap.size _ X rfl HSA.out.own _ [p1, p2, p3, p4, p5] rfl (HSR.out _) (by have := HLN.out; simp only [List.length_cons, List.length_nil]; omega) HSA.out.up ?_; intro v1 w1 ho1 hg1 hat1)
            have HS4 := Lib.hid (HSA.out.grown ho1 hg1)
            clear ho1 hg1 hat1 HSA HSR
            go_roundw
            case rel => exact ⟨k + 1, by omega, by go_num, by rw [HT.out, HFV.out]; exact HS4⟩
            case measure => simp [intOf]; omega
          · obtain rfl : k = l.length := by omega
            rw [List.take_of_length_le (Nat.le_refl _)] at HS
            have HB := Lib.hid HS.out.bel
            have HS5 := HS
            have hcv := run_text HS.out.own
            obtain ⟨AA, cA, rfl⟩ := HS.out.own.shape
            go_wp2_with fail
            go_ret2
            exact ⟨rfl, HBL.out.trans (HB.out.mono HBL.out.size)⟩
      · obtain rfl : ans = ⟨#[]⟩ := by rw [HA2.out, if_neg h200]
        obtain rfl : cc = 2 := by rw [HC2.out, if_neg h200]
        have hd200 : decide (200 < (l.length : Int)) = true := decide_eq_true (by omega)
        clear HA2 HC2
        go_wp2_with fail
        go_ret2
        exact ⟨rfl, HBL.out⟩
end Key
end Go.Proofs.YtkkpdfjbgiijlaaDoor
