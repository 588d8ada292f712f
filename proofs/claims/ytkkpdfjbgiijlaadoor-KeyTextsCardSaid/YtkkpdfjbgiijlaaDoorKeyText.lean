/- The page's text of keys. -/
import Derived.Test.YtkkpdfjbgiijlaaDoorKeyRef
import Derived.Test.YtkkpdfjbgiijlaaDoorBytesMem
import Derived.StillTailTactics
import Derived.Deep.RegionLaw
import Derived.Deep.AppendLies
namespace Go.Proofs.YtkkpdfjbgiijlaaDoor
set_option maxRecDepth 100000
open Go.RowKit Tri KeyM Byt
namespace Key

theorem u8_val (n : Int) : IntKind.u8.wrap n = ((u8 n).toNat : Int) := by
  rw [IntKind.wrap_u8]; unfold u8
  have : (UInt8.ofNat (n % 256).toNat).toNat = (n % 256).toNat := by simp; omega
  rw [this]; omega
theorem ret_text {a b : ByteArray} (h : a = b) : Ending.returned (.string a) = .returned (.string b) := by rw [h]
set_option maxHeartbeats 1600000 in
theorem refText_any (l : List T3) (x : Value) (w : World) (hx : Ts w x l) (hn : l.length ≤ 100000) (hf : ∀ i, i < l.length → 0 ≤ (g l i).b ∧ (g l i).b ≤ 16777215) :
    Calls Tryd.prog 16 #[x] w fun e w' => e = .returned (.string ⟨(textK l).toArray⟩) ∧ Below w.heap.size w w' := by
  obtain ⟨A, c, rfl, _⟩ := hx.form
  have HX := Lib.hid hx
  have HF := Lib.hid hf
  clear hx hf
  go_enter Tryd.func16, Tryd.ntmps16
  go_wp2_with fail
  go_loopw [3, 4] (fun v i wr => ∃ k : Nat, k ≤ l.length ∧ i = .int .i64 k ∧ Hid (StB w.heap.size w wr v (textK (l.take k)))) (fun _ i _ => l.length - (intOf i).toNat)
  case atStart => exact ⟨0, by omega, rfl, Lib.hid ⟨OwnB8.nil _ _, Below.refl _ _, Nat.le_refl _⟩⟩
  case round =>
    obtain ⟨k, hk, rfl, HS⟩ := hrel
    have HLN : Hid ((textK (l.take k)).length ≤ 500000) := Lib.hid (by rw [textK_length, List.length_take]; omega)
    by_cases hlt : k < l.length
    · have HT := Lib.hid (textK_take hlt)
      obtain ⟨A', c', eA, hf⟩ := (HX.out.kept HS.out.bel).form
      injection eA with eA1 eA2 eA3
      subst eA1
      obtain ⟨ad, rfl, K⟩ := hf k hlt
      have hbd := HF.out k hlt
      have HFV : Hid (five (g l k) = [Key.u8 (g l k).a, Key.u8 (g l k).c, Key.u8 ((g l k).b / 65536), Key.u8 ((g l k).b / 256), Key.u8 (g l k).b]) := Lib.hid rfl
      clear hf eA3 eA2
      generalize g l k = t at K HT hbd HFV
      have h0 := K.head
      have h1 := K.next 0 rfl
      have h2 := K.next 1 rfl
      clear K
      generalize textK (l.take k) = X at HS HT HLN ⊢
      obtain ⟨p, q, r⟩ := t
      simp only at h0 h1 h2 hbd HFV
      have y1 := u8_val p
      have y2 := u8_val r
      have y3 := u8_val (q / 65536)
      have y4 := u8_val (q / 256)
      have y5 := u8_val q
      generalize Key.u8 p = p1 at y1 HFV
      generalize Key.u8 r = p2 at y2 HFV
      generalize Key.u8 (q / 65536) = p3 at y3 HFV
      generalize Key.u8 (q / 256) = p4 at y4 HFV
      generalize Key.u8 q = p5 at y5 HFV
      obtain ⟨AA, cA, rfl⟩ := HS.out.own.shape
      have HNB : Hid (bvals [p1, p2, p3, p4, p5] = [.int .u8 (p1.toNat : Int), .int .u8 (p2.toNat : Int), .int .u8 (p3.toNat : Int), .int .u8 (p4.toNat : Int), .int .u8 (p5.toNat : Int)]) := Lib.hid rfl
      have HSA := Lib.hid (HS.out.drew.alloc (.cells #[.int .u8 (p1.toNat : Int), .int .u8 (p2.toNat : Int), .int .u8 (p3.toNat : Int), .int .u8 (p4.toNat : Int), .int .u8 (p5.toNat : Int)] 5))
      have hmaxl : X.length + 5 ≤ maxLen := by have := HLN.out; simp only [maxLen]; omega
      have hbytes : (X.length + 5) * 1 ≤ 140737488355328 := by have := HLN.out; omega
      obtain ⟨i, hi, hz, h1s, h1b⟩ := byte_row
      have HI := Lib.hid hi
      have HZ := Lib.hid hz
      have H1S := Lib.hid h1s
      have H1B := Lib.hid h1b
      clear hi hz h1s h1b
      have hs16 : q >>> 16 = q / 65536 := by rw [Int.shiftRight_eq_div_pow]; rfl
      have hs8 : q >>> 8 = q / 256 := by rw [Int.shiftRight_eq_div_pow]; rfl
      go_upto_region 6 with (fail)
      go_region_law ((refine step_append_lies _ rfl (.tmp 17) (.tmp 38) 56 rfl w.heap.size 5 i _ 1 1 Tryd.underlying56 HI.out HZ.out H1S.out H1B.out rfl (by decide) (.slice AA X.length cA) X.length _ (by simp [Act.eval]) HSA.out.own ⟨wr.heap.size, 0, none⟩ 5 5 (bvals [p1, p2, p3, p4, p5]) (by simp [Act.eval]) rfl (by rw [HNB.out]; exact World.news_of_block (heap_alloc_new _ _)) (bvals_cells _) (by decide) hmaxl hbytes HSA.out.up _ rfl ?_; intro gg cap w1 ho1 hg1 hat1 hlt1))
      all_goals
        have HS4 := Lib.hid (HSA.out.grown (own_app ho1 rfl rfl) hg1)
        clear ho1 hg1 hat1 hlt1 HSA HX HF
        go_wp2_with fail
        go_roundw
        case rel => exact ⟨k + 1, by omega, by go_num, by rw [HT.out, HFV.out]; exact HS4⟩
        case measure => simp [intOf]; omega
    · obtain rfl : k = l.length := by omega
      rw [List.take_of_length_le (Nat.le_refl _)] at HS
      have HB := Lib.hid HS.out.bel
      have hcv := run_text HS.out.own
      obtain ⟨AA, cA, rfl⟩ := HS.out.own.shape
      go_wp2_with fail
      go_ret
      exact ⟨rfl, HB.out⟩
end Key
end Go.Proofs.YtkkpdfjbgiijlaaDoor
