/- The walk of the law on widths of texts: whatever texts are asked, it answers true. -/
import Derived.Test.YtodecjdcaaonoaaWidLaws
namespace Go.Proofs.Ytodecjdcaaonoaa
open Go.RowKit
namespace Wid

theorem textOf_at (s : ByteArray) (n : Int) (hn : text s.data.toList = n) (w : World) (hs : s.size ≤ 1000000) : Calls Try.prog 9 #[.string s] w fun e w' => e = .returned (.int .i64 n) ∧ Below w.heap.size w w' := by
  subst hn; exact text_any s w hs
theorem sum_at {N M : Int} {r : Int} (h0 : 0 ≤ N) (hN : N ≤ 100000000) (hm : max 0 (wid r) = M) : Value.int .i64 (wrap64 (N + if 0 < wid r then wid r else 0)) = .int .i64 (N + M) := by
  have hb := adds_bd r
  have ha := adds_wid r
  have h1 : (if 0 < wid r then wid r else 0) = M := by rw [← hm]; omega
  rw [h1]
  have h2 : 0 ≤ M ∧ M ≤ 2 := by omega
  congr 1
  unfold wrap64
  omega
theorem iter_below {w w' : World} {k : Nat} {s : ByteArray} {pos : Nat} (hk : w.heap[k]? = some (.stringIter s pos)) (hb : Below w.heap.size w w') : w'.heap[k]? = some (.stringIter s pos) :=
  (hb.block k (Array.getElem?_eq_some_iff.1 hk).1).trans hk

set_option maxRecDepth 100000 in
set_option maxHeartbeats 3200000 in
theorem lawText_any {x y : Value} (ss : List ByteArray) (w : World) (hx : Strs w x ss) (hn : ss.length ≤ 140737488355328) (hs : ∀ k, k < ss.length → (ss.getD k ByteArray.empty).size ≤ 140737488355328) :
    Calls Try.prog 4 #[.agg #[x, y]] w fun e w' => e = .returned (.bool true) ∧ Below w.heap.size w w' := by
  obtain ⟨A, c, rfl, _⟩ := hx.at_
  have hx' := Lib.hid hx
  have hn' := Lib.hid hn
  have hs' := Lib.hid hs
  clear hx hn hs
  go_enter Try.func4, Try.ntmps4
  go_wp2_with fail
  have hb0 : Below w.heap.size w (w.alloc (.cells #[.slice A ss.length c, y] 27)) := (Below.refl _ _).alloc (Nat.le_refl _) _
  refine (heavy_any ss _ (Src.kept hx'.out hb0) hn'.out hs'.out).mono ?_
  rintro e w1 ⟨⟨b, rfl, hL⟩, hb1⟩
  have hbx : w1.cell? ⟨w.heap.size, 0, none⟩ = some (.slice A ss.length c) := cell_kept hb1 (by simp)
  have HX : Hid (Strs w1 (.slice A ss.length c) ss) := Lib.hid (Src.kept (Src.kept hx'.out hb0) hb1)
  have hb1 : Below w.heap.size w w1 := hb0.trans (hb1.mono (by simp))
  have HL := Lib.hid hL
  clear hL
  cases b
  · have HLL := Lib.hid (HL.out rfl)
    have hn4 : ss.length ≤ 4000 := HLL.out.1
    go_wp2_with fail
    go_loopw [3] (fun i wr => ∃ k : Nat, k ≤ ss.length ∧ i = .int .i64 k ∧ Below w1.heap.size w1 wr) (fun i _ => ss.length - (intOf i).toNat)
    case atStart => exact ⟨0, by omega, rfl, Below.refl _ _⟩
    case round =>
      obtain ⟨k, hk, rfl, hbl⟩ := hrel
      have hbx := cell_kept hbl hbx
      by_cases hlt : k < ss.length ∧ k < 8
      · obtain ⟨hlt, h8⟩ := hlt
        have hk8 : decide ((k : Int) < 8) = true := decide_eq_true (by omega)
        obtain ⟨A', c', hA, hcell⟩ := Strs.at_ (Src.kept HX.out hbl)
        obtain ⟨rfl, _, rfl⟩ : A = A' ∧ ss.length = ss.length ∧ c = c' := by injection hA with h1 h2 h3; exact ⟨h1, h2, h3⟩
        obtain ⟨ad, rfl, hck⟩ := hcell k hlt
        have hzk := HLL.out.2 k hlt
        clear hcell hA
        generalize ss.getD k ByteArray.empty = s at hck hzk
        go_wp2_with fail
        obtain ⟨wo, rfl⟩ : ∃ wo : World, wo = wr := ⟨_, rfl⟩
        go_loopw [4, 5] (fun n vb wr => ∃ (pos : Nat) (N : Int) (ok : Bool), pos ≤ s.size ∧ n = .int .i64 N ∧ vb = .bool ok ∧ 0 ≤ N ∧ N ≤ 2 * pos ∧ Hid (wr.heap[wo.heap.size]? = some (.stringIter s pos)) ∧
          Below wo.heap.size wo wr ∧ Hid (N + text (s.data.toList.drop pos) = text s.data.toList) ∧ Hid (ok = true → N + text (s.data.toList.drop pos ++ [97, 98]) = text (s.data.toList ++ [97, 98]))) (fun _ _ wr => s.size - wr.iterPos wo.heap.size)
        case atStart => exact ⟨0, 0, true, by omega, rfl, rfl, by omega, by omega, Lib.hid (World.iter_heap _ _ _), Utf.below_iter (Below.refl _ _) (Nat.le_refl _) _ _, Lib.hid (by simp), Lib.hid (by simp)⟩
        case round =>
          obtain ⟨pos, N, ok, hpos, rfl, rfl, h0, hN, HI, hbl3, HT, HOK⟩ := hrel
          have hbx2 := cell_kept hbl3 hbx
          have hck2 := cell_kept hbl3 hck
          by_cases hp : pos < s.size
          · have hnx : ∀ ty, (Instr.next (.pointer (some ⟨wo.heap.size, 0, none⟩)) true ty).run Try.prog wr = _ := fun ty => Lib.run_next_any_at wr wo.heap.size s pos ty HI.out hp
            have HIP : Hid (wr.iterPos wo.heap.size = pos) := Lib.hid (by simp [World.iterPos, HI.out])
            rw [Utf.dec_at] at hnx
            have hsm := Utf.dec_small (s.data.toList.drop pos)
            have hdl : (s.data.toList.drop pos).length = s.size - pos := by rw [List.length_drop]; rfl
            have hle := dec_le (Utf.drop_ne hp)
            have h1 := dec_pos (Utf.drop_ne hp)
            rw [hdl] at hle
            have HS : Hid (text (s.data.toList.drop pos) = adds (Utf.dec (s.data.toList.drop pos)).1 + text (s.data.toList.drop (pos + (Utf.dec (s.data.toList.drop pos)).2))) := Lib.hid (by
              have := text_step (Utf.drop_ne hp)
              rwa [List.drop_drop] at this)
            have hab := adds_bd (Utf.dec (s.data.toList.drop pos)).1
            have hmx := adds_wid (Utf.dec (s.data.toList.drop pos)).1
            have hit2 := Lib.iterAt_heap wr wo.heap.size s pos (pos + (Utf.dec (s.data.toList.drop pos)).2) HI.out
            have hbl4 : Below wo.heap.size wo (wr.iterAt wo.heap.size s (pos + (Utf.dec (s.data.toList.drop pos)).2)) := Lib.below_iterAt hbl3 (Nat.le_refl _) _ _
            have hownT : 3 ≤ s.size - pos → ((s.extract pos (pos + 3)).toList == [239, 191, 189]) = Utf.own (s.data.toList.drop pos) := fun h3 => by
              rw [Lib.toList_data, Utf.extract_list, Utf.own_take (by omega), List.drop_take, Nat.add_sub_cancel_left]
            rcases Utf.dec_rune _ (Utf.drop_ne hp) with ⟨hd, ho⟩ | ⟨hk2, hk1, hr, h65⟩
            · rw [hd] at hnx HS hab hmx hit2 hbl4
              have HIT2 := Lib.hid hit2
              clear hsm hle h1
              by_cases h3 : s.size - pos < 3
              · have hd3 : decide ((s.size : Int) - (pos : Int) < 3) = true := decide_eq_true (by omega)
                clear hownT hdl hd ho
                have HMX := Lib.hid hmx
                clear hit2 hmx
                go_wp2_with fail
                refine (width_any _ _).mono ?_; rintro e w2 ⟨rfl, hb2⟩
                have hb5 : Below wo.heap.size wo w2 := hbl4.trans (hb2.mono hbl4.size)
                have hbx3 := cell_kept hb5 hbx
                have hck3 := cell_kept hb5 hck
                have hit3 := iter_below HIT2.out hb2
                have HIP3 : Hid (w2.iterPos wo.heap.size = pos + 1) := Lib.hid (by simp [World.iterPos, hit3])
                have HIT3 := Lib.hid hit3
                clear hit3
                go_wp2_with fail
                go_roundw
                case rel => exact ⟨pos + 1, N + adds (65533 : Nat), false, by omega, sum_at h0 (by omega) HMX.out, rfl, by omega, by omega, HIT3, hb5, Lib.hid (by have := HT.out; rw [HS.out] at this; omega), Lib.hid (fun h => by cases h)⟩
                case measure => rw [HIP3.out, HIP.out]; omega
              · have hd3 : decide ((s.size : Int) - (pos : Int) < 3) = false := decide_eq_false (by omega)
                have ho3 := hownT (by omega)
                rw [ho] at ho3
                clear hownT hdl hd ho
                have HMX := Lib.hid hmx
                clear hit2 hmx
                go_wp2_with fail
                refine (width_any _ _).mono ?_; rintro e w2 ⟨rfl, hb2⟩
                have hb5 : Below wo.heap.size wo w2 := hbl4.trans (hb2.mono hbl4.size)
                have hbx3 := cell_kept hb5 hbx
                have hck3 := cell_kept hb5 hck
                have hit3 := iter_below HIT2.out hb2
                have HIP3 : Hid (w2.iterPos wo.heap.size = pos + 1) := Lib.hid (by simp [World.iterPos, hit3])
                have HIT3 := Lib.hid hit3
                clear hit3
                go_wp2_with fail
                go_roundw
                case rel => exact ⟨pos + 1, N + adds (65533 : Nat), false, by omega, sum_at h0 (by omega) HMX.out, rfl, by omega, by omega, HIT3, hb5, Lib.hid (by have := HT.out; rw [HS.out] at this; omega), Lib.hid (fun h => by cases h)⟩
                case measure => rw [HIP3.out, HIP.out]; omega
            · have HM : Hid (text (s.data.toList.drop pos ++ [97, 98]) = adds (Utf.dec (s.data.toList.drop pos)).1 + text (s.data.toList.drop (pos + (Utf.dec (s.data.toList.drop pos)).2) ++ [97, 98])) := Lib.hid (by
                have := text_more [97, 98] (Utf.drop_ne hp) hk2 hr
                rwa [List.drop_drop] at this)
              have hle2 : pos + (Utf.dec (s.data.toList.drop pos)).2 ≤ s.size := by omega
              obtain ⟨d, hD⟩ : ∃ d, Utf.dec (s.data.toList.drop pos) = d := ⟨_, rfl⟩
              rw [hD] at hnx HS HM hab hmx hit2 hbl4 hsm h65 hle2 hk1
              have HIT2 := Lib.hid hit2
              clear hr hk2 hle h1
              by_cases he : d.1 = 65533
              · have ho := h65 he
                have h3 : 3 ≤ s.size - pos := by
                  have := Utf.own_len ho
                  rw [hdl] at this; exact this
                have hd3 : decide ((s.size : Int) - (pos : Int) < 3) = false := decide_eq_false (by omega)
                have ho3 := hownT h3
                rw [ho] at ho3
                have hb65 : ((d.1 : Int) == 65533) = true := by rw [beq_iff_eq]; omega
                clear hownT hdl hD ho h65 he
                have HMX := Lib.hid hmx
                clear hit2 hmx
                go_wp2_with fail
                refine (width_any _ _).mono ?_; rintro e w2 ⟨rfl, hb2⟩
                have hb5 : Below wo.heap.size wo w2 := hbl4.trans (hb2.mono hbl4.size)
                have hbx3 := cell_kept hb5 hbx
                have hck3 := cell_kept hb5 hck
                have hit3 := iter_below HIT2.out hb2
                have HIP3 : Hid (w2.iterPos wo.heap.size = pos + d.2) := Lib.hid (by simp [World.iterPos, hit3])
                have HIT3 := Lib.hid hit3
                clear hit3
                go_wp2_with fail
                go_roundw
                case rel => exact ⟨pos + d.2, N + adds d.1, ok, by omega, sum_at h0 (by omega) HMX.out, rfl, by omega, by omega, HIT3, hb5, Lib.hid (by have := HT.out; rw [HS.out] at this; omega), Lib.hid (fun h => by have := HOK.out h; rw [HM.out] at this; omega)⟩
                case measure => rw [HIP3.out, HIP.out]; omega
              · have hb65 : ((d.1 : Int) == 65533) = false := by rw [beq_eq_false_iff_ne]; omega
                clear hownT hdl hD h65 he
                have HMX := Lib.hid hmx
                clear hit2 hmx
                go_wp2_with fail
                refine (width_any _ _).mono ?_; rintro e w2 ⟨rfl, hb2⟩
                have hb5 : Below wo.heap.size wo w2 := hbl4.trans (hb2.mono hbl4.size)
                have hbx3 := cell_kept hb5 hbx
                have hck3 := cell_kept hb5 hck
                have hit3 := iter_below HIT2.out hb2
                have HIP3 : Hid (w2.iterPos wo.heap.size = pos + d.2) := Lib.hid (by simp [World.iterPos, hit3])
                have HIT3 := Lib.hid hit3
                clear hit3
                go_wp2_with fail
                go_roundw
                case rel => exact ⟨pos + d.2, N + adds d.1, ok, by omega, sum_at h0 (by omega) HMX.out, rfl, by omega, by omega, HIT3, hb5, Lib.hid (by have := HT.out; rw [HS.out] at this; omega), Lib.hid (fun h => by have := HOK.out h; rw [HM.out] at this; omega)⟩
                case measure => rw [HIP3.out, HIP.out]; omega
          · have hnx : ∀ ty, (Instr.next (.pointer (some ⟨wo.heap.size, 0, none⟩)) true ty).run Try.prog wr = _ := fun ty => Lib.run_next_end_at wr wo.heap.size s pos ty HI.out hp
            have hdn : s.data.toList.drop pos = [] := List.drop_eq_nil_of_le (by show s.size ≤ pos; omega)
            have HT2 : Hid (text s.data.toList = N) := Lib.hid (by have := HT.out; rw [hdn, text_nil] at this; omega)
            have HOK2 : Hid (ok = true → text (s ++ (⟨#[97, 98]⟩ : ByteArray)).data.toList = N + 2) := Lib.hid (fun h => by
              have := HOK.out h
              rw [hdn, List.nil_append, text_ab] at this
              rw [show (s ++ (⟨#[97, 98]⟩ : ByteArray)).data.toList = s.data.toList ++ [97, 98] from by simp]
              omega)
            clear hdn
            have hcat : ¬ 9223372036854775807 < s.size + 2 := by omega
            cases ok
            · go_wp2_with fail
              refine (textOf_at s N HT2.out _ (by omega)).mono ?_; rintro e w2 ⟨rfl, hb2⟩
              have hb5 : Below wo.heap.size wo w2 := hbl3.trans (hb2.mono hbl3.size)
              go_wp2_with fail
              go_roundw
              case rel => exact ⟨k + 1, by omega, by go_num, hbl.trans (hb5.mono hbl.size)⟩
              case measure => simp [intOf]; omega
            · have HOK3 := Lib.hid (HOK2.out rfl)
              go_wp2_with fail
              refine (textOf_at s N HT2.out _ (by omega)).mono ?_; rintro e w2 ⟨rfl, hb2⟩
              have hb5 : Below wo.heap.size wo w2 := hbl3.trans (hb2.mono hbl3.size)
              have hbx3 := cell_kept hb5 hbx
              have hck3 := cell_kept hb5 hck
              go_wp2_with fail
              refine (textOf_at _ (N + 2) HOK3.out _ (by rw [ByteArray.size_append]; show s.size + 2 ≤ _; omega)).mono ?_; rintro e w3 ⟨rfl, hb3⟩
              have hb6 : Below wo.heap.size wo w3 := hb5.trans (hb3.mono hb5.size)
              go_wp2_with fail
              go_roundw
              case rel => exact ⟨k + 1, by omega, by go_num, hbl.trans (hb6.mono hbl.size)⟩
              case measure => simp [intOf]; omega
      · by_cases hkn : k < ss.length
        · have hk8 : decide ((k : Int) < 8) = false := decide_eq_false (by omega)
          clear hlt
          go_wp2_with fail
          refine (wakes_any _).mono ?_
          rintro e w2 ⟨rfl, hb2⟩
          go_wp2_with fail
          go_ret
          exact ⟨rfl, hb1.trans ((hbl.trans (hb2.mono hbl.size)).mono hb1.size)⟩
        · have hk8 : decide (k < ss.length) = false := decide_eq_false hkn
          clear hlt
          go_wp2_with fail
          refine (wakes_any _).mono ?_
          rintro e w2 ⟨rfl, hb2⟩
          go_wp2_with fail
          go_ret
          exact ⟨rfl, hb1.trans ((hbl.trans (hb2.mono hbl.size)).mono hb1.size)⟩
  · go_wp2_with fail
    go_ret
    exact ⟨rfl, hb1⟩
end Wid
end Go.Proofs.Ytodecjdcaaonoaa
