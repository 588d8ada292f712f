/- The walk of the law on bytes: whatever texts are played, behind each of them each byte makes what the reference says. -/
import Derived.Test.YthoakfnilacmnaaDoorUtfLawS
namespace Go.Proofs.YthoakfnilacmnaaDoor
open Go.RowKit
namespace Utf

theorem Tryd.str_info : (Tryd.prog.info? 9).map (fun i => (i.zero, i.size, i.bytes)) = some (some (.string ⟨#[]⟩), 1, 16) := by kernel_rfl
/-- The eight texts that the law asks of itself. -/
def eight : List ByteArray := [⟨#[]⟩, ⟨#[195]⟩, ⟨#[226, 130]⟩, ⟨#[240, 159, 152]⟩, ⟨#[237]⟩, ⟨#[244]⟩, ⟨#[224]⟩, ⟨#[240]⟩]
theorem owns_row (base : Nat) (W : World) (e : TypeId) (l : List Value) (h : base ≤ W.heap.size) (hl : l.length ≤ 1000) : (W.alloc (.cells l.toArray e)).ownsRow base e 1 (.slice (some ⟨W.heap.size, 0, none⟩) l.length l.length) l.length l :=
  ⟨by simp, .inr ⟨W.heap.size, l.length, l.toArray, rfl, h, heap_alloc_new W _, Nat.le_refl _, by simp only [maxLen]; omega, by simp, by simp⟩⟩
theorem strs_cells (l : List ByteArray) : ∀ u ∈ l.map Value.string, u.oneCell' = true := by
  intro u hu
  obtain ⟨_, _, rfl⟩ := List.mem_map.1 hu
  rfl
theorem strs_get {l : List ByteArray} {k : Nat} (h : k < l.length) : (l.map Value.string)[k]? = some (.string (l.getD k ByteArray.empty)) := by
  rw [List.getElem?_map, List.getElem?_eq_getElem h]; simp [List.getD, h]
theorem utfPart_at (s : ByteArray) (b : Bool) (hb : isPart s.data.toList = b) (w : World) (hs : s.size ≤ 1000000) (ht : Tabs w) :
    Calls Tryd.prog 7 #[.string s] w fun e w' => e = .returned (.bool b) ∧ Below w.heap.size w w' := by subst hb; exact utfPart_any s w hs ht
theorem part_at (s : ByteArray) (b : Bool) (hb : isPart s.data.toList = b) (w : World) (hs : s.size ≤ 1000000) :
    Calls Tryd.prog 8 #[.string s] w fun e w' => e = .returned (.bool b) ∧ Below w.heap.size w w' := by subst hb; exact part_any s w hs
theorem may_at (s : ByteArray) (b : Bool) (hb : fits s.data.toList = b) (w : World) (hs : s.size ≤ 1000000) :
    Calls Tryd.prog 10 #[.string s] w fun e w' => e = .returned (.bool b) ∧ Below w.heap.size w w' := by subst hb; exact may_any s w hs
theorem utfFlush_at (s : ByteArray) (xs : List Int) (hx : brk s.data.toList = xs) (w : World) (hs : s.size ≤ 1000000) (ht : Tabs w) (hf : fits s.data.toList = true) :
    Calls Tryd.prog 9 #[.string s] w fun e w' => ∃ v, e = .returned (.tuple #[v, .int .i64 0]) ∧ w'.ownsRow w.heap.size 3 1 v xs.length (ints xs) ∧ Below w.heap.size w w' := by subst hx; exact utfFlush_any s w hs ht hf
theorem utfNext_at (s : ByteArray) (b : UInt8) (X : List Int × List UInt8) (hX : next s.data.toList b = X) {x : Int} (hx : x = b.toNat) (w : World) (ht : Tabs w) (hf : fits s.data.toList = true) :
    Calls Tryd.prog 13 #[.string s, .int .u8 x] w (Gives3 w X 0) := by subst hX; exact utfNext_any s _ rfl b hx w ht hf
theorem next_at (s : ByteArray) (b : UInt8) (X : List Int × List UInt8) (hX : next s.data.toList b = X) {x : Int} (hx : x = b.toNat) (w : World) (hf : fits s.data.toList = true) :
    Calls Tryd.prog 14 #[.string s, .int .u8 x] w (Gives w X) := by subst hX; exact next_any s _ rfl b hx w hf
theorem eight_small : ∀ k, k < 8 → (eight.getD k ByteArray.empty).size ≤ 4000 := by
  intro k hk
  have : ∀ i : Fin 8, (eight.getD i ByteArray.empty).size ≤ 4000 := by decide +kernel
  exact this ⟨k, hk⟩
theorem both_small {ss : List ByteArray} (h : ∀ j, j < ss.length → (ss.getD j ByteArray.empty).size ≤ 4000) (k : Nat) (hk : k < 8 + ss.length) : ((eight ++ ss).getD k ByteArray.empty).size ≤ 4000 := by
  by_cases h8 : k < 8
  · have : (eight ++ ss).getD k ByteArray.empty = eight.getD k ByteArray.empty := by
      simp [List.getD, List.getElem?_append_left (show k < eight.length from h8)]
    rw [this]; exact eight_small k h8
  · have : (eight ++ ss).getD k ByteArray.empty = ss.getD (k - 8) ByteArray.empty := by
      simp [List.getD, List.getElem?_append_right (show eight.length ≤ k by show 8 ≤ k; omega)]; rfl
    rw [this]; exact h _ (by omega)

set_option maxRecDepth 100000 in
set_option maxHeartbeats 3200000 in
theorem lawBytes_any {x : Value} (ss : List ByteArray) (w : World) (hx : Strs w x ss) (ht : Tabs w) (hn : ss.length ≤ 140737488355328) (hs : ∀ k, k < ss.length → (ss.getD k ByteArray.empty).size ≤ 140737488355328) :
    Calls Tryd.prog 3 #[.agg #[x]] w fun e w' => e = .returned (.bool true) ∧ Below w.heap.size w w' := by
  obtain ⟨A, c, rfl, _⟩ := hx.at_
  have hx' := Lib.hid hx
  have ht' := Lib.hid ht
  have hn' := Lib.hid hn
  have hs' := Lib.hid hs
  clear hx ht hn hs
  go_enter Tryd.func3, Tryd.ntmps3
  go_wp2_with fail
  have hb0 : Below w.heap.size w (w.alloc (.cells #[.slice A ss.length c] 24)) := (Below.refl _ _).alloc (Nat.le_refl _) _
  refine (heavy_any ss _ (Src.kept hx'.out hb0) hn'.out hs'.out).mono ?_
  rintro e w1 ⟨⟨b, rfl, hL⟩, hb1⟩
  have HH : Hid (Held w.heap.size (.slice A ss.length c) ss w1) := Lib.hid (Held.kept ⟨by simp, Src.kept hx'.out hb0, ht'.out.kept hb0⟩ hb1)
  have hb1 : Below w.heap.size w w1 := hb0.trans (hb1.mono (by simp))
  have HL := Lib.hid hL
  clear hL
  cases b
  · have HLL := Lib.hid (HL.out rfl)
    have hn4 : ss.length ≤ 4000 := HLL.out.1
    have hbx := HH.out.1
    have z1 : w.heap.size < w1.heap.size := World.block_lt_of_cell? w1 _ hbx
    obtain ⟨i0, hi0, hz0, hs0, hb16⟩ := info_parts Tryd.str_info
    have HI := Lib.hid hi0
    have HI2 := Lib.hid hz0
    have HI3 := Lib.hid hs0
    have HI4 := Lib.hid hb16
    clear hi0 hz0 hs0 hb16
    go_wp2_with (at_builtin; refine wpList_append_src rfl rfl w1.heap.size 9 i0 _ 16 Tryd.underlying22 HI.out HI2.out HI3.out HI4.out rfl _ 8 (eight.map Value.string) rfl (owns_row _ w1 _ _ (Nat.le_refl _) (by decide)) _ ss.length (ss.map Value.string) rfl (Src.kept HH.out.2.1 ((Below.refl _ _).alloc (Nat.le_refl _) _)) (strs_cells _) (by simp only [maxLen]; omega) (by omega) (by simp) ?_; intro v0 w2 ho2 hg2 hat2)
    have hb2 : Below w1.heap.size w1 w2 := below_own ((Below.refl _ _).alloc (Nat.le_refl _) _) hg2 (by simp) (owns_row _ w1 _ _ (Nat.le_refl _) (by decide))
    have HT2 : Hid (Tabs w2) := Lib.hid (HH.out.2.2.kept hb2)
    have ho2 : w2.ownsRow w1.heap.size 9 1 v0 (8 + ss.length) ((eight ++ ss).map Value.string) := by rw [List.map_append]; exact ho2
    have hform : ∃ g cap, v0 = .slice (some ⟨g, 0, none⟩) (8 + ss.length) cap := by
      rcases ho2.2 with ⟨_, h0⟩ | ⟨g, cap, cur, h0, _⟩
      · omega
      · exact ⟨g, cap, h0⟩
    obtain ⟨g, cap, rfl⟩ := hform
    have HO := Lib.hid ho2
    have HS := Lib.hid (both_small HLL.out.2)
    clear ho2 hbx hat2 hg2
    go_wp2_with fail
    go_loopw [4] (fun i wr => ∃ k : Nat, k ≤ 8 + ss.length ∧ i = .int .i64 k ∧ Below w2.heap.size w2 wr) (fun i _ => 8 + ss.length - (intOf i).toNat)
    case atStart => exact ⟨0, by omega, rfl, Below.refl _ _⟩
    case round =>
      obtain ⟨k, hk, rfl, hbl⟩ := hrel
      by_cases hlt : k < 8 + ss.length ∧ k < 14
      · obtain ⟨hlt, h6⟩ := hlt
        have hk6 : decide ((k : Int) < 14) = true := decide_eq_true (by omega)
        have HT := Lib.hid (HT2.out.kept hbl)
        have hc := (own_kept HO.out hbl).cellAt k (by omega)
        rw [strs_get (show k < (eight ++ ss).length by rw [List.length_append]; exact hlt)] at hc
        have hz := HS.out k hlt
        generalize (eight ++ ss).getD k ByteArray.empty = s at hc hz
        cases hemp : s.data.toList.isEmpty
        · have h1 : s.toList.isEmpty = false := by rw [Lib.toList_data]; exact hemp
          cases hp : isPart s.data.toList
          · have hf : fits s.data.toList = false := by unfold fits; rw [hemp, hp]; rfl
            clear hemp
            have HPa := Lib.hid hp
            have HFi := Lib.hid hf
            clear hp hf
            go_wp2_with fail
            go_region_held3 (fun w' => w'.cell? ⟨g, k, none⟩ = some (.string s)) (first | exact hc | exact cell_kept hP1 hc | exact cell_kept hP2 (cell_kept hP1 hc))
              (first | (go_at_call 7; refine (utfPart_at s _ HPa.out _ (by omega) ?_).mono ?_; exact HT.out; rintro e wP ⟨rfl, hP1⟩) | (go_at_call 8; refine (part_at s _ HPa.out _ (by omega)).mono ?_; rintro e wQ ⟨rfl, hP2⟩))
            have hP1 : Below wr.heap.size wr wP := (Below.refl _ _).drew.trans hP1
            have hQ : Below wr.heap.size wr wQ := hP1.trans (hP2.mono hP1.size)
            have hcQ := cell_kept hQ hc
            have HTQ := Lib.hid (HT.out.kept hQ)
            go_wp2_with fail
            refine (utfFlush_bad s _ (by omega) HTQ.out HFi.out).mono ?_
            rintro e wR ⟨vR, rfl, hoR, hR⟩
            have hR : Below wr.heap.size wr wR := hQ.trans (hR.mono hQ.size)
            have hcR := cell_kept hR hc
            go_wp2_with fail
            refine (may_at s _ HFi.out _ (by omega)).mono ?_
            rintro e wS ⟨rfl, hS⟩
            have HOR := Lib.hid (own_kept hoR hS)
            have hS : Below wr.heap.size wr wS := hR.trans (hS.mono hR.size)
            have zS := hS.size
            have hcS := cell_kept hS hc
            clear hoR
            go_wp2_with fail
            refine (num_any 1 _).mono ?_; rintro e wT ⟨rfl, rfl⟩
            go_wp2_with fail
            refine (eqNumbers_same 0 0 [] [] _ (Src.own HOR.out) ⟨rfl, .inl ⟨rfl, rfl⟩⟩ rfl (by decide)).mono ?_
            rintro e wT ⟨rfl, q, rfl⟩
            have hT : Below wr.heap.size wr (wS.drewN q) := below_drewN hS q
            have hcT := cell_kept hT hc
            have HTT := Lib.hid (HT.out.kept hT)
            go_wp2_with fail
            obtain ⟨wF, hwF⟩ : ∃ wF : World, wF = (wS.drewN q) := ⟨_, rfl⟩
            rw [← hwF] at hT hcT HTT ⊢
            clear hwF
            obtain ⟨wo, rfl⟩ : ∃ wo : World, wo = wr := ⟨_, rfl⟩
            go_loopw [9] (fun j wr => ∃ b : Nat, b ≤ 256 ∧ j = .int .i64 b ∧ Below wF.heap.size wF wr) (fun j _ => 256 - (intOf j).toNat)
            case atStart => exact ⟨0, by omega, rfl, Below.refl _ _⟩
            case round =>
              obtain ⟨b, hb, rfl, hbl2⟩ := hrel
              have hc2 := cell_kept hbl2 hcT
              by_cases hb6 : b < 256
              · have HTb := Lib.hid (HTT.out.kept hbl2)
                go_wp2_with fail
                refine (utfNext_bad s _ _ (by omega) HTb.out HFi.out).mono ?_
                rintro e wG ⟨v1, rfl, ho1, hG⟩
                have zG := hG.size
                go_wp2_with fail
                refine (num_any 1 _).mono ?_; rintro e wH ⟨rfl, rfl⟩
                go_wp2_with fail
                refine (eqNumbers_same 0 0 [] [] _ (Src.own ho1) ⟨rfl, .inl ⟨rfl, rfl⟩⟩ rfl (by decide)).mono ?_
                rintro e wH ⟨rfl, q2, rfl⟩
                go_wp2_with fail
                go_roundw
                case rel => exact ⟨b + 1, by omega, by go_num, below_drewN (hbl2.trans (hG.mono hbl2.size)) q2⟩
                case measure => simp [intOf]; omega
              · have hd6 : decide ((b : Int) < 256) = false := decide_eq_false (by omega)
                clear hb6
                go_wp2_with fail
                go_roundw
                case rel => exact ⟨k + 1, by omega, by go_num, hbl.trans ((hT.trans (hbl2.mono hT.size)).mono hbl.size)⟩
                case measure => simp [intOf]; omega
          · have hf : fits s.data.toList = true := fits_part hp
            have HBR : Hid (brk s.data.toList = [65533]) := Lib.hid (by unfold brk; rw [if_neg (part_ne hp)])
            clear hemp
            have HPa := Lib.hid hp
            have HFi := Lib.hid hf
            clear hp hf
            go_wp2_with fail
            go_region_held3 (fun w' => w'.cell? ⟨g, k, none⟩ = some (.string s)) (first | exact hc | exact cell_kept hP1 hc | exact cell_kept hP2 (cell_kept hP1 hc))
              (first | (go_at_call 7; refine (utfPart_at s _ HPa.out _ (by omega) ?_).mono ?_; exact HT.out; rintro e wP ⟨rfl, hP1⟩) | (go_at_call 8; refine (part_at s _ HPa.out _ (by omega)).mono ?_; rintro e wQ ⟨rfl, hP2⟩))
            have hP1 : Below wr.heap.size wr wP := (Below.refl _ _).drew.trans hP1
            have hQ : Below wr.heap.size wr wQ := hP1.trans (hP2.mono hP1.size)
            have hcQ := cell_kept hQ hc
            have HTQ := Lib.hid (HT.out.kept hQ)
            go_wp2_with fail
            refine (utfFlush_at s [65533] HBR.out _ (by omega) HTQ.out HFi.out).mono ?_
            rintro e wR ⟨vR, rfl, hoR, hR⟩
            have hR : Below wr.heap.size wr wR := hQ.trans (hR.mono hQ.size)
            have hcR := cell_kept hR hc
            go_wp2_with fail
            refine (may_at s _ HFi.out _ (by omega)).mono ?_
            rintro e wS ⟨rfl, hS⟩
            have HOR := Lib.hid (own_kept hoR hS)
            have hS : Below wr.heap.size wr wS := hR.trans (hS.mono hR.size)
            have zS := hS.size
            have hcS := cell_kept hS hc
            clear hoR
            go_wp2_with fail
            refine (num_any 0 _).mono ?_; rintro e wT ⟨rfl, rfl⟩
            go_wp2_with fail
            refine (eqNumbers_same 1 1 [65533] [65533] _ (Src.own (HOR.out.alloc _)) (Src.one wS _ _ _) rfl (by decide)).mono ?_
            rintro e wT ⟨rfl, q, rfl⟩
            have hT : Below wr.heap.size wr ((wS.alloc (.cells #[.int .i64 65533] 3)).drewN q) := below_drewN (hS.alloc zS _) q
            have hcT := cell_kept hT hc
            have HTT := Lib.hid (HT.out.kept hT)
            go_wp2_with fail
            obtain ⟨wF, hwF⟩ : ∃ wF : World, wF = ((wS.alloc (.cells #[.int .i64 65533] 3)).drewN q) := ⟨_, rfl⟩
            rw [← hwF] at hT hcT HTT ⊢
            clear hwF
            obtain ⟨wo, rfl⟩ : ∃ wo : World, wo = wr := ⟨_, rfl⟩
            go_loopw [9] (fun j wr => ∃ b : Nat, b ≤ 256 ∧ j = .int .i64 b ∧ Below wF.heap.size wF wr) (fun j _ => 256 - (intOf j).toNat)
            case atStart => exact ⟨0, by omega, rfl, Below.refl _ _⟩
            case round =>
              obtain ⟨b, hb, rfl, hbl2⟩ := hrel
              have hc2 := cell_kept hbl2 hcT
              by_cases hb6 : b < 256
              · have HTb := Lib.hid (HTT.out.kept hbl2)
                go_wp2_with fail
                obtain ⟨X, hX⟩ : ∃ X, next s.data.toList (UInt8.ofNat b) = X := ⟨_, rfl⟩
                have HX := Lib.hid hX
                have hXl : X.1.length ≤ 2 := by rw [← hX]; exact next_len _ _
                have HBb : Hid ((b : Int) = ((UInt8.ofNat b).toNat : Int)) := Lib.hid (by simp; omega)
                clear hX
                refine (utfNext_at s _ X HX.out HBb.out _ HTb.out HFi.out).mono ?_
                rintro e wG ⟨v1, rfl, ho1, hG⟩
                have hG : Below wr.heap.size wr wG := hG
                have zG := hG.size
                have hcG := cell_kept hG hc2
                have HO1 := Lib.hid ho1
                clear ho1
                go_wp2_with fail
                refine (next_at s _ X HX.out HBb.out _ HFi.out).mono ?_
                rintro e wH ⟨v2, rfl, ho2, hH⟩
                have HO2 := Lib.hid ho2
                have HO3 := Lib.hid (own_kept HO1.out hH)
                have hGH : Below wr.heap.size wr wH := hG.trans (hH.mono zG)
                clear ho2
                go_wp2_with fail
                refine (num_any 0 _).mono ?_; rintro e wI ⟨rfl, rfl⟩
                go_wp2_with fail
                refine (eqNumbers_same _ _ X.1 X.1 _ (Src.own HO3.out) (Src.own HO2.out) rfl (by omega)).mono ?_
                rintro e wI ⟨rfl, q2, rfl⟩
                go_wp2_with fail
                go_roundw
                case rel => exact ⟨b + 1, by omega, by go_num, below_drewN (hbl2.trans (hGH.mono hbl2.size)) q2⟩
                case measure => simp [intOf]; omega
              · have hd6 : decide ((b : Int) < 256) = false := decide_eq_false (by omega)
                clear hb6
                go_wp2_with fail
                go_roundw
                case rel => exact ⟨k + 1, by omega, by go_num, hbl.trans ((hT.trans (hbl2.mono hT.size)).mono hbl.size)⟩
                case measure => simp [intOf]; omega
        · have h1 : s.toList.isEmpty = true := by rw [Lib.toList_data]; exact hemp
          have hnil : s.data.toList = [] := List.isEmpty_iff.1 hemp
          have hp : isPart s.data.toList = false := by rw [hnil]; rfl
          have hf : fits s.data.toList = true := by rw [hnil]; rfl
          have HBR : Hid (brk s.data.toList = []) := Lib.hid (by rw [hnil]; rfl)
          clear hemp hnil
          have HPa := Lib.hid hp
          have HFi := Lib.hid hf
          clear hp hf
          go_wp2_with fail
          go_region_held3 (fun w' => w'.cell? ⟨g, k, none⟩ = some (.string s)) (first | exact hc | exact cell_kept hP1 hc | exact cell_kept hP2 (cell_kept hP1 hc))
            (first | (go_at_call 7; refine (utfPart_at s _ HPa.out _ (by omega) ?_).mono ?_; exact HT.out; rintro e wP ⟨rfl, hP1⟩) | (go_at_call 8; refine (part_at s _ HPa.out _ (by omega)).mono ?_; rintro e wQ ⟨rfl, hP2⟩))
          have hP1 : Below wr.heap.size wr wP := (Below.refl _ _).drew.trans hP1
          have hQ : Below wr.heap.size wr wQ := hP1.trans (hP2.mono hP1.size)
          have hcQ := cell_kept hQ hc
          have HTQ := Lib.hid (HT.out.kept hQ)
          go_wp2_with fail
          refine (utfFlush_at s [] HBR.out _ (by omega) HTQ.out HFi.out).mono ?_
          rintro e wR ⟨vR, rfl, hoR, hR⟩
          have hR : Below wr.heap.size wr wR := hQ.trans (hR.mono hQ.size)
          have hcR := cell_kept hR hc
          go_wp2_with fail
          refine (may_at s _ HFi.out _ (by omega)).mono ?_
          rintro e wS ⟨rfl, hS⟩
          have HOR := Lib.hid (own_kept hoR hS)
          have hS : Below wr.heap.size wr wS := hR.trans (hS.mono hR.size)
          have zS := hS.size
          have hcS := cell_kept hS hc
          clear hoR
          go_wp2_with fail
          refine (num_any 0 _).mono ?_; rintro e wT ⟨rfl, rfl⟩
          go_wp2_with fail
          refine (eqNumbers_same 0 0 [] [] _ (Src.own HOR.out) ⟨rfl, .inl ⟨rfl, rfl⟩⟩ rfl (by decide)).mono ?_
          rintro e wT ⟨rfl, q, rfl⟩
          have hT : Below wr.heap.size wr (wS.drewN q) := below_drewN hS q
          have hcT := cell_kept hT hc
          have HTT := Lib.hid (HT.out.kept hT)
          go_wp2_with fail
          obtain ⟨wF, hwF⟩ : ∃ wF : World, wF = (wS.drewN q) := ⟨_, rfl⟩
          rw [← hwF] at hT hcT HTT ⊢
          clear hwF
          obtain ⟨wo, rfl⟩ : ∃ wo : World, wo = wr := ⟨_, rfl⟩
          go_loopw [9] (fun j wr => ∃ b : Nat, b ≤ 256 ∧ j = .int .i64 b ∧ Below wF.heap.size wF wr) (fun j _ => 256 - (intOf j).toNat)
          case atStart => exact ⟨0, by omega, rfl, Below.refl _ _⟩
          case round =>
            obtain ⟨b, hb, rfl, hbl2⟩ := hrel
            have hc2 := cell_kept hbl2 hcT
            by_cases hb6 : b < 256
            · have HTb := Lib.hid (HTT.out.kept hbl2)
              go_wp2_with fail
              obtain ⟨X, hX⟩ : ∃ X, next s.data.toList (UInt8.ofNat b) = X := ⟨_, rfl⟩
              have HX := Lib.hid hX
              have hXl : X.1.length ≤ 2 := by rw [← hX]; exact next_len _ _
              have HBb : Hid ((b : Int) = ((UInt8.ofNat b).toNat : Int)) := Lib.hid (by simp; omega)
              clear hX
              refine (utfNext_at s _ X HX.out HBb.out _ HTb.out HFi.out).mono ?_
              rintro e wG ⟨v1, rfl, ho1, hG⟩
              have hG : Below wr.heap.size wr wG := hG
              have zG := hG.size
              have hcG := cell_kept hG hc2
              have HO1 := Lib.hid ho1
              clear ho1
              go_wp2_with fail
              refine (next_at s _ X HX.out HBb.out _ HFi.out).mono ?_
              rintro e wH ⟨v2, rfl, ho2, hH⟩
              have HO2 := Lib.hid ho2
              have HO3 := Lib.hid (own_kept HO1.out hH)
              have hGH : Below wr.heap.size wr wH := hG.trans (hH.mono zG)
              clear ho2
              go_wp2_with fail
              refine (num_any 0 _).mono ?_; rintro e wI ⟨rfl, rfl⟩
              go_wp2_with fail
              refine (eqNumbers_same _ _ X.1 X.1 _ (Src.own HO3.out) (Src.own HO2.out) rfl (by omega)).mono ?_
              rintro e wI ⟨rfl, q2, rfl⟩
              go_wp2_with fail
              go_roundw
              case rel => exact ⟨b + 1, by omega, by go_num, below_drewN (hbl2.trans (hGH.mono hbl2.size)) q2⟩
              case measure => simp [intOf]; omega
            · have hd6 : decide ((b : Int) < 256) = false := decide_eq_false (by omega)
              clear hb6
              go_wp2_with fail
              go_roundw
              case rel => exact ⟨k + 1, by omega, by go_num, hbl.trans ((hT.trans (hbl2.mono hT.size)).mono hbl.size)⟩
              case measure => simp [intOf]; omega
      · by_cases hkn : k < 8 + ss.length
        · have hk6 : decide ((k : Int) < 14) = false := decide_eq_false (by omega)
          clear hlt
          go_wp2_with fail
          refine (wakes_any _ (HT2.out.kept hbl)).mono ?_
          rintro e w3 ⟨rfl, hb3⟩
          go_wp2_with fail
          go_ret
          exact ⟨rfl, hb1.trans ((hb2.trans ((hbl.trans (hb3.mono hbl.size)).mono hb2.size)).mono hb1.size)⟩
        · have hk6 : decide ((k : Int) < 8 + (ss.length : Int)) = false := decide_eq_false (by omega)
          clear hlt
          go_wp2_with fail
          refine (wakes_any _ (HT2.out.kept hbl)).mono ?_
          rintro e w3 ⟨rfl, hb3⟩
          go_wp2_with fail
          go_ret
          exact ⟨rfl, hb1.trans ((hb2.trans ((hbl.trans (hb3.mono hbl.size)).mono hb2.size)).mono hb1.size)⟩
  · go_wp2_with fail
    go_ret
    exact ⟨rfl, hb1⟩
end Utf
end Go.Proofs.YthoakfnilacmnaaDoor
