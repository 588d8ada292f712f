/- The walk of the law on All: whatever texts are played, it answers true. -/
import Derived.Test.YthoakfnilacmnaaDoorUtfAll
import Derived.Test.YthoakfnilacmnaaDoorTexts
import Derived.StillTailTactics
import Derived.Deep.RegionHeld3
namespace Go.Proofs.YthoakfnilacmnaaDoor
open Go.RowKit
namespace Utf

theorem refAll_at (p s : ByteArray) (X : List Int × List UInt8) (hX : all p.data.toList s.data.toList = X) (w : World) (hp : fits p.data.toList = true) (hs : s.size ≤ 1000000) :
    Calls Tryd.prog 17 #[.string p, .string s] w (Gives w X) := by subst hX; exact refAll_any p s w hp hs
theorem wakes_any (w : World) (ht : Tabs w) : Calls Tryd.prog 15 #[] w fun e w' => e = .returned (.bool true) ∧ Below w.heap.size w w' := by
  have HT := Lib.hid ht
  clear ht
  have hA : Hid (all [] [195, 169] = ([233], [])) := Lib.hid (by decide)
  go_enter Tryd.func15, Tryd.ntmps15
  go_wp2_with fail
  refine (utfAll_any ⟨#[]⟩ ⟨#[195, 169]⟩ _ (by show 0 + 2 ≤ _; omega) HT.out rfl).mono ?_
  rintro e w1 ⟨v, rfl, ho, hb⟩
  have hA2 : all (⟨#[]⟩ : ByteArray).data.toList (⟨#[195, 169]⟩ : ByteArray).data.toList = ([233], []) := hA.out
  rw [hA2] at ho ⊢
  have HO := Lib.hid ho
  clear ho hA2
  go_wp2_with fail
  refine (num_any 0 _).mono ?_
  rintro e w2 ⟨rfl, rfl⟩
  go_wp2_with fail
  refine (eqNumbers_same 1 1 [233] [233] _ (Src.own (HO.out.alloc _)) (Src.one w1 _ _ _) rfl (by decide)).mono ?_
  rintro e w3 ⟨rfl, q, rfl⟩
  go_wp2_with fail
  go_ret
  exact ⟨rfl, below_drewN (hb.alloc hb.size _) q⟩

/-- What a law's walk goes on to hold: the box of its argument, the texts, the library's tables. -/
def Held (B : Nat) (x : Value) (ss : List ByteArray) (w : World) : Prop := w.cell? ⟨B, 0, none⟩ = some x ∧ Strs w x ss ∧ Tabs w
theorem Held.kept {B : Nat} {x : Value} {ss : List ByteArray} {w w' : World} (h : Held B x ss w) (hb : Below w.heap.size w w') : Held B x ss w' :=
  ⟨cell_kept hb h.1, Src.kept h.2.1 hb, h.2.2.kept hb⟩

set_option maxRecDepth 100000 in
set_option maxHeartbeats 1600000 in
theorem lawAll_any {x : Value} (ss : List ByteArray) (w : World) (hx : Strs w x ss) (ht : Tabs w) (hn : ss.length ≤ 140737488355328) (hs : ∀ k, k < ss.length → (ss.getD k ByteArray.empty).size ≤ 140737488355328) :
    Calls Tryd.prog 4 #[.agg #[x]] w fun e w' => e = .returned (.bool true) ∧ Below w.heap.size w w' := by
  obtain ⟨A, c, rfl, _⟩ := hx.at_
  have hx' := Lib.hid hx
  have ht' := Lib.hid ht
  have hn' := Lib.hid hn
  have hs' := Lib.hid hs
  clear hx ht hn hs
  go_enter Tryd.func4, Tryd.ntmps4
  go_wp2_with fail
  have hb0 : Below w.heap.size w (w.alloc (.cells #[.slice A ss.length c] 24)) := (Below.refl _ _).alloc (Nat.le_refl _) _
  refine (heavy_any ss _ (Src.kept hx'.out hb0) hn'.out hs'.out).mono ?_
  rintro e w1 ⟨⟨b, rfl, hL⟩, hb1⟩
  have HH : Hid (Held w.heap.size (.slice A ss.length c) ss w1) := Lib.hid (Held.kept ⟨by simp, Src.kept hx'.out hb0, ht'.out.kept hb0⟩ hb1)
  have hb1 : Below w.heap.size w w1 := hb0.trans (hb1.mono (by simp))
  have HL := Lib.hid hL
  clear hL
  cases b
  · have HLL := Lib.hid (HL.out rfl)
    have hn4 : ss.length ≤ 4000 := HLL.out.1
    have hbx := HH.out.1
    go_wp2_with fail
    go_loopw [3] (fun i wr => ∃ k : Nat, k ≤ ss.length ∧ i = .int .i64 k ∧ Below w1.heap.size w1 wr) (fun i _ => ss.length - (intOf i).toNat)
    case atStart => exact ⟨0, by omega, rfl, Below.refl _ _⟩
    case round =>
      obtain ⟨k, hk, rfl, hbl⟩ := hrel
      have hbx := cell_kept hbl hbx
      by_cases hlt : k < ss.length ∧ k < 6
      · obtain ⟨hlt, h6⟩ := hlt
        have hk6 : decide ((k : Int) < 6) = true := decide_eq_true (by omega)
        go_wp2_with fail
        obtain ⟨wo, rfl⟩ : ∃ wo : World, wo = wr := ⟨_, rfl⟩
        go_loopw [4] (fun j wr => ∃ m : Nat, m ≤ ss.length ∧ j = .int .i64 m ∧ Below w1.heap.size w1 wr) (fun j _ => ss.length - (intOf j).toNat)
        case atStart => exact ⟨0, by omega, rfl, hbl⟩
        case round =>
          obtain ⟨m, hm, rfl, hbl2⟩ := hrel
          have hbx2 := cell_kept hbl2 HH.out.1
          by_cases hlt2 : m < ss.length ∧ m < 6
          · obtain ⟨hlt2, h62⟩ := hlt2
            have hm6 : decide ((m : Int) < 6) = true := decide_eq_true (by omega)
            have HW := Lib.hid (HH.out.kept hbl2)
            obtain ⟨A', c', hA, hcell⟩ := Strs.at_ HW.out.2.1
            obtain ⟨rfl, _, rfl⟩ : A = A' ∧ ss.length = ss.length ∧ c = c' := by injection hA with h1 h2 h3; exact ⟨h1, h2, h3⟩
            obtain ⟨ad, rfl, hck⟩ := hcell k hlt
            have hcm := (hcell m hlt2)
            obtain ⟨ad', e, hcm⟩ := hcm
            injection e with e
            subst e
            have hzk := HLL.out.2 k hlt
            have hzm := HLL.out.2 m hlt2
            clear hcell hA
            generalize ss.getD k ByteArray.empty = p at hck hzk
            generalize ss.getD m ByteArray.empty = s at hcm hzm
            have HT2 := Lib.hid HW.out.2.2
            cases hf : fits p.data.toList
            · have HF := Lib.hid hf
              clear hf
              go_wp2_with fail
              go_region_held3 (fun w' => w'.cell? ⟨w.heap.size, 0, none⟩ = some (.slice (some ad) ss.length c) ∧ w'.cell? (ad.add k) = some (.string p) ∧ w'.cell? (ad.add m) = some (.string s))
                (first | exact ⟨hbx2, hck, hcm⟩ | exact ⟨cell_kept hb2 hbx2, cell_kept hb2 hck, cell_kept hb2 hcm⟩)
                (first | (go_at_call 16; refine (utfAll_bad p s _ (by omega) ?_ HF.out).mono ?_; exact HT2.out; rintro e w2 ⟨v, rfl, ho, hb2⟩))
              have hb2 : Below wr.heap.size wr w2 := (Below.refl _ _).drew.trans hb2
              have hbx3 := cell_kept hb2 hbx2
              have hck3 := cell_kept hb2 hck
              have hcm3 := cell_kept hb2 hcm
              go_wp2_with fail
              refine (may_any p _ (by omega)).mono ?_
              rw [HF.out]
              rintro e w3 ⟨rfl, hb3⟩
              have hb3 : Below wr.heap.size wr w3 := hb2.trans (hb3.mono hb2.size)
              have ho := Lib.hid (show w3.ownsRow wr.heap.size 3 1 v 0 (ints []) from own_kept ho (by assumption))
              go_wp2_with fail
              refine (num_any 1 _).mono ?_; rintro e w4 ⟨rfl, rfl⟩
              go_wp2_with fail
              refine (eqNumbers_same 0 0 [] [] _ (Src.own ho.out) ⟨rfl, .inl ⟨rfl, rfl⟩⟩ rfl (by decide)).mono ?_
              rintro e w5 ⟨rfl, q, rfl⟩
              go_wp2_with fail
              refine (numbers_any 0 _ _ (own_drewN ho.out q) (by decide)).mono ?_
              rintro e w6 ⟨rfl, hb6⟩
              go_wp2_with fail
              go_roundw
              case rel => exact ⟨m + 1, by omega, by go_num, hbl2.trans (((below_drewN hb3 q).trans hb6).mono hbl2.size)⟩
              case measure => simp [intOf]; omega
            · have HF := Lib.hid hf
              clear hf
              go_wp2_with fail
              go_region_held3 (fun w' => w'.cell? ⟨w.heap.size, 0, none⟩ = some (.slice (some ad) ss.length c) ∧ w'.cell? (ad.add k) = some (.string p) ∧ w'.cell? (ad.add m) = some (.string s))
                (first | exact ⟨hbx2, hck, hcm⟩ | exact ⟨cell_kept hb2 hbx2, cell_kept hb2 hck, cell_kept hb2 hcm⟩)
                (first | (go_at_call 16; refine (utfAll_any p s _ (by omega) ?_ HF.out).mono ?_; exact HT2.out; rintro e w2 ⟨v, rfl, ho, hb2⟩))
              have hb2 : Below wr.heap.size wr w2 := (Below.refl _ _).drew.trans hb2
              have hbx3 := cell_kept hb2 hbx2
              have hck3 := cell_kept hb2 hck
              have hcm3 := cell_kept hb2 hcm
              have hlen := all_len p.data.toList s.data.toList
              have hsl : s.data.toList.length = s.size := rfl
              rw [hsl] at hlen
              clear hsl
              obtain ⟨X, hX⟩ : ∃ X, all p.data.toList s.data.toList = X := ⟨_, rfl⟩
              have HA := Lib.hid hX
              rw [hX] at ho hlen ⊢
              clear hX
              go_wp2_with fail
              refine (may_any p _ (by omega)).mono ?_
              rw [HF.out]
              rintro e w3 ⟨rfl, hb3⟩
              go_wp2_with fail
              have hb3 : Below wr.heap.size wr w3 := hb2.trans (hb3.mono hb2.size)
              have ho3 := Lib.hid (show w3.ownsRow wr.heap.size 3 1 v X.1.length (ints X.1) from own_kept ho (by assumption))
              have hbx4 := cell_kept hb3 hbx2
              have hck4 := cell_kept hb3 hck
              have hcm4 := cell_kept hb3 hcm
              go_region_held3 (fun w' => w'.cell? ⟨w.heap.size, 0, none⟩ = some (.slice (some ad) ss.length c) ∧ w'.cell? (ad.add k) = some (.string p) ∧ w'.cell? (ad.add m) = some (.string s))
                (first | exact ⟨hbx4, hck4, hcm4⟩ | exact ⟨cell_kept hb4 hbx4, cell_kept hb4 hck4, cell_kept hb4 hcm4⟩)
                (first | (go_at_call 17; refine (refAll_at p s X HA.out _ HF.out (by omega)).mono ?_; rintro e w4 ⟨v2, rfl, ho4, hb4⟩))
              have z3 := hb3.size
              have hb4 : Below w3.heap.size w3 w4 := (Below.refl _ _).drew.trans hb4
              have ho5 := Lib.hid (own_kept ho3.out hb4)
              have ho6 := Lib.hid (show w4.ownsRow w3.heap.size 3 1 v2 X.1.length (ints X.1) from ho4)
              have hb5 : Below wr.heap.size wr w4 := hb3.trans (hb4.mono z3)
              clear ho ho4
              go_wp2_with fail
              refine (num_any 0 _).mono ?_; rintro e w5 ⟨rfl, rfl⟩
              go_wp2_with fail
              refine (eqNumbers_same _ _ X.1 X.1 _ (Src.own ho5.out) (Src.own ho6.out) rfl (by omega)).mono ?_
              rintro e w5 ⟨rfl, q, rfl⟩
              go_wp2_with fail
              refine (numbers_any _ _ _ (own_drewN ho5.out q) (by omega)).mono ?_
              rintro e w6 ⟨rfl, hb6⟩
              go_wp2_with fail
              go_roundw
              case rel => exact ⟨m + 1, by omega, by go_num, hbl2.trans (((below_drewN hb5 q).trans hb6).mono hbl2.size)⟩
              case measure => simp [intOf]; omega
          · by_cases hmn : m < ss.length
            · have hm6 : decide ((m : Int) < 6) = false := decide_eq_false (by omega)
              clear hlt2
              go_wp2_with fail
              go_roundw
              case rel => exact ⟨k + 1, by omega, by go_num, hbl2⟩
              case measure => simp [intOf]; omega
            · have hm6 : decide (m < ss.length) = false := decide_eq_false hmn
              clear hlt2
              go_wp2_with fail
              go_roundw
              case rel => exact ⟨k + 1, by omega, by go_num, hbl2⟩
              case measure => simp [intOf]; omega
      · by_cases hkn : k < ss.length
        · have hk6 : decide ((k : Int) < 6) = false := decide_eq_false (by omega)
          clear hlt
          go_wp2_with fail
          refine (wakes_any _ (HH.out.kept hbl).2.2).mono ?_
          rintro e w2 ⟨rfl, hb2⟩
          go_wp2_with fail
          go_ret
          exact ⟨rfl, hb1.trans ((hbl.trans (hb2.mono hbl.size)).mono hb1.size)⟩
        · have hk6 : decide (k < ss.length) = false := decide_eq_false hkn
          clear hlt
          go_wp2_with fail
          refine (wakes_any _ (HH.out.kept hbl).2.2).mono ?_
          rintro e w2 ⟨rfl, hb2⟩
          go_wp2_with fail
          go_ret
          exact ⟨rfl, hb1.trans ((hbl.trans (hb2.mono hbl.size)).mono hb1.size)⟩
  · go_wp2_with fail
    go_ret
    exact ⟨rfl, hb1⟩
end Utf
end Go.Proofs.YthoakfnilacmnaaDoor
