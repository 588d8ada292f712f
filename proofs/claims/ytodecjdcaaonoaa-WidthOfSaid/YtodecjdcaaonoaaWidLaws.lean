/- The walks of the laws on widths: whatever is asked, they answer true. -/
import Derived.Test.YtodecjdcaaonoaaWidOf
import Derived.Test.YtodecjdcaaonoaaWidRef
import Derived.Test.YtodecjdcaaonoaaTexts
import Derived.StillTailTactics
import Derived.Deep.RegionHeld3
namespace Go.Proofs.Ytodecjdcaaonoaa
open Go.RowKit
namespace Wid

theorem of_at (r k : Int) (hk : wid r = k) (w : World) : Calls Try.prog 5 #[.int .i64 r] w fun e w' => e = .returned (.int .i64 k) ∧ Below w.heap.size w w' := by subst hk; exact of_any r w
theorem width_at (r k : Int) (hk : wid r = k) (w : World) : Calls Try.prog 6 #[.int .i64 r] w fun e w' => e = .returned (.int .i64 k) ∧ Below w.heap.size w w' := by subst hk; exact width_any r w

set_option maxHeartbeats 400000 in
theorem wakes_any (w : World) : Calls Try.prog 7 #[] w fun e w' => e = .returned (.bool true) ∧ Below w.heap.size w w' := by
  go_enter Try.func7, Try.ntmps7
  go_wp2_with fail
  refine (of_at 97 1 (by decide) _).mono ?_; rintro e w1 ⟨rfl, hb1⟩
  go_wp2_with fail
  refine (of_at 19968 2 (by decide) _).mono ?_; rintro e w2 ⟨rfl, hb2⟩
  have hb2 : Below w.heap.size w w2 := hb1.trans (hb2.mono hb1.size)
  go_wp2_with fail
  refine (of_at 769 0 (by decide) _).mono ?_; rintro e w3 ⟨rfl, hb3⟩
  have hb3 : Below w.heap.size w w3 := hb2.trans (hb3.mono hb2.size)
  go_wp2_with fail
  go_ret
  exact ⟨rfl, hb3⟩

def edgeL : List Int := [31, 32, 127, 159, 0xd800, 0xe000, 0x10ffff, 0x110000, 0x300, 0x36f, 0x1ab0, 0x1aff, 0x200b, 0x200f, 0x20d0, 0x20ff, 0xfe00, 0xfe0f, 0xfe20, 0xfe2f, 0x1100, 0x115f, 0x2e80, 0x303e, 0x3041, 0xa4cf, 0xac00, 0xd7a3, 0xf900, 0xfaff, 0xfe30, 0xfe6f, 0xff00, 0xff60, 0xffe0, 0xffe6, 0x1f300, 0x1f64f, 0x1f900, 0x1f9ff, 0x20000, 0x3fffd, -1]

theorem edge_bd (k : Nat) (h : k < 43) : -1 ≤ edgeL.getD k 0 ∧ edgeL.getD k 0 ≤ 1114112 := by
  have : ∀ i : Fin 43, -1 ≤ edgeL.getD i.val 0 ∧ edgeL.getD i.val 0 ≤ 1114112 := by decide +kernel
  exact this ⟨k, h⟩
theorem edge_cell {w : World} {b c k : Nat} (h : Src w (.slice (some ⟨b, 0, none⟩) 43 c) 43 (ints edgeL)) (hk : k < 43) : w.cell? ⟨b, k, none⟩ = some (.int .i64 (edgeL.getD k 0)) := by
  obtain ⟨A, c', hA, hf⟩ := h.form
  obtain ⟨ad', e, hc⟩ := hf k hk
  injection hA with h1 h2 h3
  rw [e] at h1
  injection h1 with h1
  subst h1
  have ha : (⟨b, 0, none⟩ : Addr).add k = ⟨b, k, none⟩ := by
    unfold Addr.add
    by_cases h0 : k = 0
    · subst h0; rfl
    · simp [h0]
  rw [← ha, hc, ints_get (by simpa [edgeL] using hk)]

theorem kept2 {w0 W W' : World} {p : Addr} {u : Value} (h : W.cell? p = some u ∧ Below w0.heap.size w0 W) (hb : Below W.heap.size W W') : W'.cell? p = some u ∧ Below w0.heap.size w0 W' :=
  ⟨cell_kept hb h.1, h.2.trans (hb.mono h.2.size)⟩

theorem kept3 {w0 W W' : World} {p q : Addr} {u v : Value} (h : W.cell? p = some u ∧ W.cell? q = some v ∧ Below w0.heap.size w0 W) (hb : Below W.heap.size W W') : W'.cell? p = some u ∧ W'.cell? q = some v ∧ Below w0.heap.size w0 W' :=
  ⟨cell_kept hb h.1, cell_kept hb h.2.1, h.2.2.trans (hb.mono h.2.2.size)⟩

set_option maxRecDepth 100000 in
set_option maxHeartbeats 1600000 in
theorem lawOf_any {x y : Value} (rs : List Int) (w : World) (hy : Src w y rs.length (ints rs)) (hn : rs.length ≤ 140737488355328) :
    Calls Try.prog 3 #[.agg #[x, y]] w fun e w' => e = .returned (.bool true) ∧ Below w.heap.size w w' := by
  obtain ⟨A, c, rfl, _⟩ := hy.form
  have hy' := Lib.hid hy
  clear hy
  by_cases h400 : 400 < rs.length
  · have hd : decide (400 < (rs.length : Int)) = true := decide_eq_true (by omega)
    go_enter Try.func3, Try.ntmps3
    go_wp2_with fail
    go_ret
    exact ⟨rfl, (Below.refl _ _).alloc (Nat.le_refl _) _⟩
  · have hd : decide (400 < (rs.length : Int)) = false := decide_eq_false (by omega)
    go_enter Try.func3, Try.ntmps3
    go_wp2_with fail
    go_loopw [4] (fun i wr => ∃ (k : Nat), k ≤ 43 ∧ i = .int .i64 k ∧ Hid (Src wr (.slice (some ⟨w.heap.size + 1, 0, none⟩) 43 43) 43 (ints edgeL)) ∧ wr.cell? ⟨w.heap.size, 1, none⟩ = some (.slice A rs.length c) ∧ Below w.heap.size w wr) (fun i _ => 43 - (intOf i).toNat)
    case atStart => exact ⟨0, by omega, rfl, Lib.hid (Src.made_at _ _ _ _ _ _ _ (by simp) rfl rfl), by simp, ((Below.refl _ _).alloc (Nat.le_refl _) _).alloc (by simp) _⟩
    case round =>
      obtain ⟨k, hk, rfl, HE, hbx, hbl⟩ := hrel
      by_cases hlt : k < 43
      · have hE := edge_cell HE.out hlt
        have hEb := edge_bd k hlt
        generalize edgeL.getD k 0 = e0 at hE hEb
        have hlt5 : decide ((k : Int) < 43) = true := decide_eq_true (by omega)
        go_wp2_with fail
        obtain ⟨wo, rfl⟩ : ∃ wo : World, wo = wr := ⟨_, rfl⟩
        go_loopw [5] (fun j wr => ∃ d : Int, -1 ≤ d ∧ d ≤ 2 ∧ j = .int .i64 d ∧ Below wo.heap.size wo wr) (fun j _ => (2 - intOf j).toNat)
        case atStart => exact ⟨-1, by omega, by omega, rfl, Below.refl _ _⟩
        case round =>
          obtain ⟨d, hd1, hd2, rfl, hbl2⟩ := hrel
          by_cases hd3 : d ≤ 1
          · have hE2 := cell_kept hbl2 hE
            clear hlt5
            have hlt6 : (k : Int) < 43 := by omega
            go_wp2_with fail
            go_region_held3 (fun w' => w'.cell? ⟨w.heap.size + 1, k, none⟩ = some (.int .i64 e0) ∧ Below wr.heap.size wr w')
              (first | exact ⟨hE2, (Below.refl _ _).drew⟩ | exact kept2 (by assumption) hb2)
              (first | (go_at_call 5; refine (of_any _ _).mono ?_; rintro e w2 ⟨rfl, hb2⟩) | (go_at_call 6; refine (width_any _ _).mono ?_; rintro e w2 ⟨rfl, hb2⟩))
            have hS : Below wr.heap.size wr w2 := And.right (by assumption)
            go_wp2_with fail
            go_roundw
            case rel => exact ⟨d + 1, by omega, by omega, rfl, hbl2.trans (hS.mono hbl2.size)⟩
            case measure => simp [intOf]; omega
          · have hd4 : decide (d ≤ 1) = false := decide_eq_false hd3
            clear hd3
            go_wp2_with fail
            go_roundw
            case rel => exact ⟨k + 1, by omega, by go_num, Lib.hid (Src.kept HE.out hbl2), cell_kept hbl2 hbx, hbl.trans (hbl2.mono hbl.size)⟩
            case measure => simp [intOf]; omega
      · have hlt2 : decide (k < 43) = false := decide_eq_false hlt
        have hlt3 : decide ((k : Int) < 43) = false := decide_eq_false (by omega)
        clear hlt
        have hyw := Lib.hid (Src.kept hy'.out hbl)
        go_wp2_with fail
        obtain ⟨wo, rfl⟩ : ∃ wo : World, wo = wr := ⟨_, rfl⟩
        go_loopw [6] (fun i wr => ∃ m : Nat, m ≤ rs.length ∧ i = .int .i64 m ∧ Below wo.heap.size wo wr) (fun i _ => rs.length - (intOf i).toNat)
        case atStart => exact ⟨0, by omega, rfl, Below.refl _ _⟩
        case round =>
          obtain ⟨m, hm, rfl, hbl2⟩ := hrel
          have hbx2 := cell_kept hbl2 hbx
          by_cases hlt : m < rs.length
          · obtain ⟨A', c', hA, hf⟩ := (Src.kept hyw.out hbl2).form
            obtain ⟨ad, e, hE2⟩ := hf m hlt
            injection hA with h1 h2 h3
            subst h1
            subst h3
            subst e
            rw [ints_get hlt] at hE2
            clear hf
            generalize rs.getD m 0 = e0 at hE2
            go_wp2_with fail
            go_region_held3 (fun w' => w'.cell? ⟨w.heap.size, 1, none⟩ = some (.slice (some ad) rs.length c) ∧ w'.cell? (ad.add m) = some (.int .i64 e0) ∧ Below wr.heap.size wr w')
              (first | exact ⟨hbx2, hE2, (Below.refl _ _).drew⟩ | exact kept3 (by assumption) hb2)
              (first | (go_at_call 5; refine (of_any _ _).mono ?_; rintro e w2 ⟨rfl, hb2⟩) | (go_at_call 6; refine (width_any _ _).mono ?_; rintro e w2 ⟨rfl, hb2⟩))
            have hS : Below wr.heap.size wr w2 := And.right (And.right (by assumption))
            go_wp2_with fail
            go_roundw
            case rel => exact ⟨m + 1, by omega, by go_num, hbl2.trans (hS.mono hbl2.size)⟩
            case measure => simp [intOf]; omega
          · have hlt4 : decide (m < rs.length) = false := decide_eq_false hlt
            clear hlt
            go_wp2_with fail
            refine (wakes_any _).mono ?_; rintro e w2 ⟨rfl, hb2⟩
            go_wp2_with fail
            go_ret
            exact ⟨rfl, hbl.trans ((hbl2.trans (hb2.mono hbl2.size)).mono hbl.size)⟩
end Wid
end Go.Proofs.Ytodecjdcaaonoaa
