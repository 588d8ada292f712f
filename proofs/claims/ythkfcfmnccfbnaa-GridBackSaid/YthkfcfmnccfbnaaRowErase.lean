/- The developers' Erase and Blank. -/
import Derived.Test.YthkfcfmnccfbnaaRowPut
namespace Go.Proofs.Ythkfcfmnccfbnaa
set_option maxRecDepth 100000
open Go.RowKit
namespace Row
open Utf Wid

set_option maxHeartbeats 1600000 in
theorem erase_unfit (l : List Cl) (a : Look) (p r : Int) (x : Value) (w : World) (hx : Cs w x l) (hs : Held l) (hl : l.length ≤ 1000) (h : ¬ (RowOk l ∧ attrOk a = true)) :
    Calls Try.prog 34 #[x, .int .i64 p, .int .i64 r, .agg #[.int .i64 a.fg, .int .i64 a.bg, .int .i64 a.flags]] w fun e w' => e = .returned (.tuple #[.slice none 0 0, .int .i64 1]) ∧ Below w.heap.size w w' := by
  have hb0 : Below w.heap.size w (w.alloc (.cells #[.int .i64 a.fg, .int .i64 a.bg, .int .i64 a.flags] 33)) := (Below.refl _ _).alloc (Nat.le_refl _) _
  have HX := Lib.hid (hx.kept hb0)
  have HF := Lib.hid (fun w' (k : Cs w' x l) => fit_no h hs hl x w' k)
  clear hx hs h hb0
  go_enter Try.func34, Try.ntmps34
  go_wp2_with fail
  refine (HF.out _ HX.out).mono ?_; rintro e w2 ⟨rfl, hb2⟩
  obtain ⟨_, hbw⟩ := box_kept hb2
  have HB2 := Lib.hid hbw
  clear hb2 hbw
  go_wp2_with fail
  go_ret2
  exact ⟨rfl, HB2.out⟩
set_option maxHeartbeats 1600000 in
theorem erase_out1 (l : List Cl) (a : Look) (p r : Int) (x : Value) (w : World) (hx : Cs w x l) (hs : Held l) (hl : l.length ≤ 1000) (h : RowOk l) (ha : attrOk a = true) (hp : ¬ (0 ≤ p ∧ p ≤ r)) :
    Calls Try.prog 34 #[x, .int .i64 p, .int .i64 r, .agg #[.int .i64 a.fg, .int .i64 a.bg, .int .i64 a.flags]] w fun e w' => e = .returned (.tuple #[.slice none 0 0, .int .i64 1]) ∧ Below w.heap.size w w' := by
  have hb0 : Below w.heap.size w (w.alloc (.cells #[.int .i64 a.fg, .int .i64 a.bg, .int .i64 a.flags] 33)) := (Below.refl _ _).alloc (Nat.le_refl _) _
  have HX := Lib.hid (hx.kept hb0)
  have HF := Lib.hid (fun w' (k : Cs w' x l) => fit_yes h ha hs hl x w' k)
  have HR : Hid (rng p 0 r = false) := Lib.hid (rng_no hp)
  obtain ⟨A, c, rfl, _⟩ := hx.form
  clear hx hs h hb0 hp ha
  go_enter Try.func34, Try.ntmps34
  go_wp2_with fail
  refine (HF.out _ HX.out).mono ?_; rintro e w2 ⟨rfl, hb2⟩
  obtain ⟨_, hbw⟩ := box_kept hb2
  have HB2 := Lib.hid hbw
  clear hb2 hbw
  go_wp2_with fail
  refine (rowIn_at _ _ _ _ HR.out _).mono ?_; rintro e w' ⟨rfl, rfl⟩
  go_wp2_with fail
  go_ret2
  exact ⟨rfl, HB2.out⟩
set_option maxHeartbeats 1600000 in
theorem erase_out2 (l : List Cl) (a : Look) (p r : Int) (x : Value) (w : World) (hx : Cs w x l) (hs : Held l) (hl : l.length ≤ 1000) (h : RowOk l) (ha : attrOk a = true) (hp : 0 ≤ p ∧ p ≤ r) (hr : (l.length : Int) < r) :
    Calls Try.prog 34 #[x, .int .i64 p, .int .i64 r, .agg #[.int .i64 a.fg, .int .i64 a.bg, .int .i64 a.flags]] w fun e w' => e = .returned (.tuple #[.slice none 0 0, .int .i64 1]) ∧ Below w.heap.size w w' := by
  have hb0 : Below w.heap.size w (w.alloc (.cells #[.int .i64 a.fg, .int .i64 a.bg, .int .i64 a.flags] 33)) := (Below.refl _ _).alloc (Nat.le_refl _) _
  have HX := Lib.hid (hx.kept hb0)
  have HF := Lib.hid (fun w' (k : Cs w' x l) => fit_yes h ha hs hl x w' k)
  have HR : Hid (rng p 0 r = true) := Lib.hid (rng_yes hp.1 hp.2)
  have hd : decide ((l.length : Int) < r) = true := decide_eq_true hr
  obtain ⟨A, c, rfl, _⟩ := hx.form
  clear hx hs h hb0 hp ha hr
  go_enter Try.func34, Try.ntmps34
  go_wp2_with fail
  refine (HF.out _ HX.out).mono ?_; rintro e w2 ⟨rfl, hb2⟩
  obtain ⟨_, hbw⟩ := box_kept hb2
  have HB2 := Lib.hid hbw
  clear hb2 hbw
  go_wp2_with fail
  refine (rowIn_at _ _ _ _ HR.out _).mono ?_; rintro e w' ⟨rfl, rfl⟩
  go_wp2_with fail
  go_ret2
  exact ⟨rfl, HB2.out⟩
set_option maxHeartbeats 1600000 in
theorem erase_fits (l : List Cl) (a : Look) (low high : Nat) (x : Value) (w : World) (hx : Cs w x l) (hs : Held l) (hl : l.length ≤ 1000) (h : RowOk l) (ha : attrOk a = true) (h1 : low ≤ high) (h2 : high ≤ l.length) :
    Calls Try.prog 34 #[x, .int .i64 low, .int .i64 high, .agg #[.int .i64 a.fg, .int .i64 a.bg, .int .i64 a.flags]] w fun e w' => ∃ v, e = .returned (.tuple #[v, .int .i64 0]) ∧ OwnCs w' w.heap.size v (repl l low high (List.replicate (high - low) (blank a))) ∧ Below w.heap.size w w' := by
  have hb0 : Below w.heap.size w (w.alloc (.cells #[.int .i64 a.fg, .int .i64 a.bg, .int .i64 a.flags] 33)) := (Below.refl _ _).alloc (Nat.le_refl _) _
  have HX0 := Lib.hid hx
  have HX := Lib.hid (hx.kept hb0)
  have HF := Lib.hid (fun w' (k : Cs w' x l) => fit_yes h ha hs hl x w' k)
  have HR : Hid (rng (low : Int) 0 (high : Int) = true) := Lib.hid (rng_yes (by omega) (by omega))
  have hd : decide (l.length < high) = false := decide_eq_false (by omega)
  have HBK := Lib.hid (fun w' => blanks_any (high - low) a w' (by omega))
  have HRP := Lib.hid (fun y w' (k1 : Cs w' x l) (k2 : Cs w' y (List.replicate (high - low) (blank a))) => replaced_any l (List.replicate (high - low) (blank a)) low high x y w' k1 k2 h.2.2 hs hl (by rw [List.length_replicate]; omega) h1 h2)
  have hwrap : IntKind.i64.wrap ((high : Int) - (low : Int)) = ((high - low : Nat) : Int) := by rw [IntKind.wrap_i64]; omega
  generalize repl l low high (List.replicate (high - low) (blank a)) = res at HRP ⊢
  generalize List.replicate (high - low) (blank a) = bs at HBK HRP
  generalize high - low = m at HBK hwrap
  obtain ⟨A, c, rfl, _⟩ := hx.form
  clear hx hs h hb0 ha h1 h2
  go_enter Try.func34, Try.ntmps34
  go_wp2_with fail
  refine (HF.out _ HX.out).mono ?_; rintro e w2 ⟨rfl, hb2⟩
  obtain ⟨hk2, hbw⟩ := box_kept hb2
  have HB2 := Lib.hid hbw
  obtain ⟨k0, k1, k2⟩ := box_cells hk2
  clear hb2 hbw hk2
  go_wp2_with fail
  refine (rowIn_at _ _ _ _ HR.out _).mono ?_; rintro e w' ⟨rfl, rfl⟩
  go_wp2_with fail
  refine (HBK.out _).mono ?_; rintro e w3 ⟨v3, rfl, ho3, hb3⟩
  have HB3 : Hid (Below w.heap.size w w3) := Lib.hid (HB2.out.trans (hb3.mono HB2.out.size))
  have HC3 := Lib.hid ho3.cs
  clear ho3 hb3
  go_wp2_with fail
  refine (HRP.out _ _ (HX0.out.kept HB3.out) HC3.out).mono ?_; rintro e w4 ⟨v4, rfl, ho4, hb4⟩
  have HO4 : Hid (OwnCs w4 w.heap.size v4 res) := Lib.hid (ho4.low HB3.out.size)
  have HB4 : Hid (Below w.heap.size w w4) := Lib.hid (HB3.out.trans (hb4.mono HB3.out.size))
  clear ho4 hb4
  go_wp2_with fail
  go_ret2
  exact ⟨v4, rfl, HO4.out, HB4.out⟩

set_option maxHeartbeats 1600000 in
theorem rowBlank_fits (n : Nat) (a : Look) (w : World) (h1 : 1 ≤ n) (h2 : n ≤ 40) (ha : attrOk a = true) :
    Calls Try.prog 31 #[.int .i64 n, .agg #[.int .i64 a.fg, .int .i64 a.bg, .int .i64 a.flags]] w fun e w' => ∃ v, e = .returned (.tuple #[v, .int .i64 0]) ∧ OwnCs w' w.heap.size v (List.replicate n (blank a)) ∧ Below w.heap.size w w' := by
  have HR : Hid (rng (n : Int) 1 40 = true) := Lib.hid (rng_yes (by omega) (by omega))
  have HCK := Lib.hid (fun w' => check_any a true ha w')
  have HBK := Lib.hid (fun w' => blanks_any n a w' (by omega))
  clear ha
  go_enter Try.func31, Try.ntmps31
  go_wp2_with fail
  refine (rowIn_at _ _ _ _ HR.out _).mono ?_; rintro e w' ⟨rfl, rfl⟩
  go_wp2_with fail
  refine (HCK.out _).mono ?_; rintro e w2 ⟨rfl, hb2⟩
  obtain ⟨hk2, hbw⟩ := box_kept hb2
  have HB2 := Lib.hid hbw
  obtain ⟨k0, k1, k2⟩ := box_cells hk2
  clear hb2 hbw hk2
  go_wp2_with fail
  refine (HBK.out _).mono ?_; rintro e w3 ⟨v3, rfl, ho3, hb3⟩
  have HB3 : Hid (Below w.heap.size w w3) := Lib.hid (HB2.out.trans (hb3.mono HB2.out.size))
  have HO3 : Hid (OwnCs w3 w.heap.size v3 (List.replicate n (blank a))) := Lib.hid (ho3.low HB2.out.size)
  clear ho3 hb3
  go_wp2_with fail
  go_ret2
  exact ⟨v3, rfl, HO3.out, HB3.out⟩
set_option maxHeartbeats 1600000 in
theorem rowBlank_no (n : Int) (a : Look) (w : World) (h : ¬ ((1 ≤ n ∧ n ≤ 40) ∧ attrOk a = true)) :
    Calls Try.prog 31 #[.int .i64 n, .agg #[.int .i64 a.fg, .int .i64 a.bg, .int .i64 a.flags]] w fun e w' => e = .returned (.tuple #[.slice none 0 0, .int .i64 1]) ∧ Below w.heap.size w w' := by
  by_cases hn : 1 ≤ n ∧ n ≤ 40
  · have HR : Hid (rng n 1 40 = true) := Lib.hid (rng_yes (by omega) (by omega))
    have HCK := Lib.hid (fun w' => check_any a false (by cases q : attrOk a; rfl; exact absurd ⟨hn, q⟩ h) w')
    clear h hn
    go_enter Try.func31, Try.ntmps31
    go_wp2_with fail
    refine (rowIn_at _ _ _ _ HR.out _).mono ?_; rintro e w' ⟨rfl, rfl⟩
    go_wp2_with fail
    refine (HCK.out _).mono ?_; rintro e w2 ⟨rfl, hb2⟩
    obtain ⟨_, hbw⟩ := box_kept hb2
    have HB2 := Lib.hid hbw
    clear hb2 hbw
    go_wp2_with fail
    go_ret2
    exact ⟨rfl, HB2.out⟩
  · have HR : Hid (rng n 1 40 = false) := Lib.hid (rng_no hn)
    clear h hn
    go_enter Try.func31, Try.ntmps31
    go_wp2_with fail
    refine (rowIn_at _ _ _ _ HR.out _).mono ?_; rintro e w' ⟨rfl, rfl⟩
    go_wp2_with fail
    go_ret2
    exact ⟨rfl, (Below.refl _ _).alloc (Nat.le_refl _) _⟩
end Row
end Go.Proofs.Ythkfcfmnccfbnaa
