/- The developers' Put, Erase and Blank. -/
import Derived.Test.YtchdkgmednoobaaDoorRowOps2
namespace Go.Proofs.YtchdkgmednoobaaDoor
set_option maxRecDepth 100000
open Go.RowKit
namespace Row
open Utf Wid

theorem rng_yes {n lo hi : Int} (h : lo ≤ n) (k : n ≤ hi) : rng n lo hi = true := by unfold rng; rw [decide_eq_true h, decide_eq_true k]; rfl
theorem rng_no {n lo hi : Int} (h : ¬ (lo ≤ n ∧ n ≤ hi)) : rng n lo hi = false := by
  unfold rng
  rw [Bool.and_eq_false_iff]
  by_cases k : lo ≤ n
  · exact .inr (decide_eq_false fun k2 => h ⟨k, k2⟩)
  · exact .inl (decide_eq_false k)
def attrV (a : Look) : Value := .agg #[.int .i64 a.fg, .int .i64 a.bg, .int .i64 a.flags]
theorem fit_yes {l : List Cl} {a : Look} (h : RowOk l) (ha : attrOk a = true) (hs : Held l) (hl : l.length ≤ 1000) (x : Value) (w : World) (hx : Cs w x l) :
    Calls Tryd.prog 21 #[x, .agg #[.int .i64 a.fg, .int .i64 a.bg, .int .i64 a.flags]] w fun e w' => e = .returned (.bool true) ∧ Below w.heap.size w w' :=
  fit_any l a true x w hx hs (by omega) ⟨fun _ => ⟨h, ha⟩, fun _ => rfl⟩
theorem fit_no {l : List Cl} {a : Look} (h : ¬ (RowOk l ∧ attrOk a = true)) (hs : Held l) (hl : l.length ≤ 1000) (x : Value) (w : World) (hx : Cs w x l) :
    Calls Tryd.prog 21 #[x, .agg #[.int .i64 a.fg, .int .i64 a.bg, .int .i64 a.flags]] w fun e w' => e = .returned (.bool false) ∧ Below w.heap.size w w' :=
  fit_any l a false x w hx hs (by omega) ⟨(fun h => by cases h), fun k => absurd k h⟩
/-- The box that a function lays its attribute into, behind calls that only made blocks. -/
theorem box_kept {w w1 : World} {a : Look} (hb : Below (w.alloc (.cells #[.int .i64 a.fg, .int .i64 a.bg, .int .i64 a.flags] 32)).heap.size (w.alloc (.cells #[.int .i64 a.fg, .int .i64 a.bg, .int .i64 a.flags] 32)) w1) :
    w1.heap[w.heap.size]? = some (.cells #[.int .i64 a.fg, .int .i64 a.bg, .int .i64 a.flags] 32 (0, 0)) ∧ Below w.heap.size w w1 :=
  ⟨Blk.kept (heap_alloc_new _ _) hb, ((Below.refl _ _).alloc (Nat.le_refl _) _).trans (hb.mono (by simp))⟩
set_option maxHeartbeats 1600000 in
theorem put_unfit (l : List Cl) (a : Look) (p r : Int) (x : Value) (w : World) (hx : Cs w x l) (hs : Held l) (hl : l.length ≤ 1000) (h : ¬ (RowOk l ∧ attrOk a = true)) :
    Calls Tryd.prog 11 #[x, .int .i64 p, .int .i64 r, .agg #[.int .i64 a.fg, .int .i64 a.bg, .int .i64 a.flags]] w fun e w' => e = .returned (.tuple #[.slice none 0 0, .int .i64 1]) ∧ Below w.heap.size w w' := by
  have HX := Lib.hid hx
  have HF := Lib.hid (fun w' (k : Cs w' x l) => fit_no h hs hl x w' k)
  clear hx hs h
  go_enter Tryd.func11, Tryd.ntmps11
  go_wp2_with fail
  refine (of_any r _).mono ?_; rintro e w1 ⟨rfl, hb1⟩
  obtain ⟨hk1, hbw⟩ := box_kept hb1
  have HB1 := Lib.hid hbw
  obtain ⟨k0, k1, k2⟩ := box_cells hk1
  generalize wid r = q
  clear hb1 hk1 hbw
  go_wp2_with fail
  refine (HF.out _ (HX.out.kept HB1.out)).mono ?_; rintro e w2 ⟨rfl, hb2⟩
  have HB2 : Hid (Below w.heap.size w w2) := Lib.hid (HB1.out.trans (hb2.mono HB1.out.size))
  clear hb2
  go_wp2_with fail
  go_ret2
  exact ⟨rfl, HB2.out⟩
set_option maxHeartbeats 1600000 in
theorem put_out (l : List Cl) (a : Look) (p r : Int) (x : Value) (w : World) (hx : Cs w x l) (hs : Held l) (hl : l.length ≤ 1000) (h : RowOk l) (ha : attrOk a = true) (hp : ¬ (0 ≤ p ∧ p ≤ (l.length : Int) - 1)) :
    Calls Tryd.prog 11 #[x, .int .i64 p, .int .i64 r, .agg #[.int .i64 a.fg, .int .i64 a.bg, .int .i64 a.flags]] w fun e w' => e = .returned (.tuple #[.slice none 0 0, .int .i64 1]) ∧ Below w.heap.size w w' := by
  have HX := Lib.hid hx
  have HF := Lib.hid (fun w' (k : Cs w' x l) => fit_yes h ha hs hl x w' k)
  have HR : Hid (rng p 0 ((l.length : Int) - 1) = false) := Lib.hid (rng_no hp)
  have hl1 : 1 ≤ l.length := h.1
  have hwrap : IntKind.i64.wrap ((l.length : Int) - 1) = (l.length : Int) - 1 := by rw [IntKind.wrap_i64]; omega
  obtain ⟨A, c, rfl, _⟩ := hx.form
  clear hx hs h ha hp
  go_enter Tryd.func11, Tryd.ntmps11
  go_wp2_with fail
  refine (of_any r _).mono ?_; rintro e w1 ⟨rfl, hb1⟩
  obtain ⟨hk1, hbw⟩ := box_kept hb1
  have HB1 := Lib.hid hbw
  obtain ⟨k0, k1, k2⟩ := box_cells hk1
  generalize wid r = q
  clear hb1 hk1 hbw
  go_wp2_with fail
  refine (HF.out _ (HX.out.kept HB1.out)).mono ?_; rintro e w2 ⟨rfl, hb2⟩
  have HB2 : Hid (Below w.heap.size w w2) := Lib.hid (HB1.out.trans (hb2.mono HB1.out.size))
  clear hb2
  go_wp2_with fail
  refine (rowIn_at _ _ _ _ HR.out _).mono ?_; rintro e w' ⟨rfl, rfl⟩
  go_wp2_with fail
  go_ret2
  exact ⟨rfl, HB2.out⟩
set_option maxHeartbeats 1600000 in
theorem put_thin (l : List Cl) (a : Look) (p r : Int) (x : Value) (w : World) (hx : Cs w x l) (hs : Held l) (hl : l.length ≤ 1000) (h : RowOk l) (ha : attrOk a = true) (hp : 0 ≤ p ∧ p ≤ (l.length : Int) - 1) (hr : wid r < 1) :
    Calls Tryd.prog 11 #[x, .int .i64 p, .int .i64 r, .agg #[.int .i64 a.fg, .int .i64 a.bg, .int .i64 a.flags]] w fun e w' => e = .returned (.tuple #[.slice none 0 0, .int .i64 1]) ∧ Below w.heap.size w w' := by
  have HX := Lib.hid hx
  have HF := Lib.hid (fun w' (k : Cs w' x l) => fit_yes h ha hs hl x w' k)
  have HR : Hid (rng p 0 ((l.length : Int) - 1) = true) := Lib.hid (rng_yes hp.1 hp.2)
  have hl1 : 1 ≤ l.length := h.1
  have hwrap : IntKind.i64.wrap ((l.length : Int) - 1) = (l.length : Int) - 1 := by rw [IntKind.wrap_i64]; omega
  obtain ⟨A, c, rfl, _⟩ := hx.form
  have HOF := Lib.hid (fun w' => of_any r w')
  have hd : decide (wid r < 1) = true := decide_eq_true hr
  generalize wid r = q at HOF hd
  clear hx hs h ha hp hr
  go_enter Tryd.func11, Tryd.ntmps11
  go_wp2_with fail
  refine (HOF.out _).mono ?_; rintro e w1 ⟨rfl, hb1⟩
  obtain ⟨hk1, hbw⟩ := box_kept hb1
  have HB1 := Lib.hid hbw
  obtain ⟨k0, k1, k2⟩ := box_cells hk1
  clear hb1 hk1 hbw
  go_wp2_with fail
  refine (HF.out _ (HX.out.kept HB1.out)).mono ?_; rintro e w2 ⟨rfl, hb2⟩
  have HB2 : Hid (Below w.heap.size w w2) := Lib.hid (HB1.out.trans (hb2.mono HB1.out.size))
  clear hb2
  go_wp2_with fail
  refine (rowIn_at _ _ _ _ HR.out _).mono ?_; rintro e w' ⟨rfl, rfl⟩
  go_wp2_with fail
  go_ret2
  exact ⟨rfl, HB2.out⟩
set_option maxHeartbeats 1600000 in
theorem put_full (l : List Cl) (a : Look) (p r : Int) (x : Value) (w : World) (hx : Cs w x l) (hs : Held l) (hl : l.length ≤ 1000) (h : RowOk l) (ha : attrOk a = true) (hp : 0 ≤ p ∧ p ≤ (l.length : Int) - 1) (hr : 1 ≤ wid r) (hf : ¬ p + wid r ≤ l.length) :
    Calls Tryd.prog 11 #[x, .int .i64 p, .int .i64 r, .agg #[.int .i64 a.fg, .int .i64 a.bg, .int .i64 a.flags]] w fun e w' => e = .returned (.tuple #[.slice none 0 0, .int .i64 5]) ∧ Below w.heap.size w w' := by
  have HX := Lib.hid hx
  have HF := Lib.hid (fun w' (k : Cs w' x l) => fit_yes h ha hs hl x w' k)
  have HR : Hid (rng p 0 ((l.length : Int) - 1) = true) := Lib.hid (rng_yes hp.1 hp.2)
  have hl1 : 1 ≤ l.length := h.1
  have hwrap : IntKind.i64.wrap ((l.length : Int) - 1) = (l.length : Int) - 1 := by rw [IntKind.wrap_i64]; omega
  obtain ⟨A, c, rfl, _⟩ := hx.form
  have HOF := Lib.hid (fun w' => of_any r w')
  have hq : wid r ≤ 2 := by rcases wid_cases r with e | e | e | e <;> omega
  have hd : decide (wid r < 1) = false := decide_eq_false (by omega)
  generalize wid r = q at HOF hd hr hf hq
  have hwrap2 : IntKind.i64.wrap (p + q) = p + q := by rw [IntKind.wrap_i64]; omega
  have hd2 : decide ((l.length : Int) < p + q) = true := decide_eq_true (by omega)
  clear hx hs h ha hp hr hf hq
  go_enter Tryd.func11, Tryd.ntmps11
  go_wp2_with fail
  refine (HOF.out _).mono ?_; rintro e w1 ⟨rfl, hb1⟩
  obtain ⟨hk1, hbw⟩ := box_kept hb1
  have HB1 := Lib.hid hbw
  obtain ⟨k0, k1, k2⟩ := box_cells hk1
  clear hb1 hk1 hbw
  go_wp2_with fail
  refine (HF.out _ (HX.out.kept HB1.out)).mono ?_; rintro e w2 ⟨rfl, hb2⟩
  have HB2 : Hid (Below w.heap.size w w2) := Lib.hid (HB1.out.trans (hb2.mono HB1.out.size))
  clear hb2
  go_wp2_with fail
  refine (rowIn_at _ _ _ _ HR.out _).mono ?_; rintro e w' ⟨rfl, rfl⟩
  go_wp2_with fail
  go_ret2
  exact ⟨rfl, HB2.out⟩
set_option maxHeartbeats 1600000 in
theorem put_fits (l : List Cl) (a : Look) (k n : Nat) (r : Int) (x : Value) (w : World) (hx : Cs w x l) (hs : Held l) (hl : l.length ≤ 1000) (h : RowOk l) (ha : attrOk a = true) (hr : wid r = n) (hn : 1 ≤ n) (hf : k + n ≤ l.length) :
    Calls Tryd.prog 11 #[x, .int .i64 k, .int .i64 r, .agg #[.int .i64 a.fg, .int .i64 a.bg, .int .i64 a.flags]] w fun e w' => ∃ v, e = .returned (.tuple #[v, .int .i64 0]) ∧ OwnCs w' w.heap.size v (mid l k (k + n) (cellsOf r a)) ∧ Below w.heap.size w w' := by
  have HX := Lib.hid hx
  have HF := Lib.hid (fun w' (k : Cs w' x l) => fit_yes h ha hs hl x w' k)
  have HR : Hid (rng (k : Int) 0 ((l.length : Int) - 1) = true) := Lib.hid (rng_yes (by omega) (by omega))
  have hl1 : 1 ≤ l.length := h.1
  have hwrap : IntKind.i64.wrap ((l.length : Int) - 1) = (l.length : Int) - 1 := by rw [IntKind.wrap_i64]; omega
  have hr12 : wid r = 1 ∨ wid r = 2 := by rcases wid_cases r with e | e | e | e <;> omega
  have HCE := Lib.hid (fun w' => cells_any r a w' hr12)
  have hcl := cells_length (a := a) hr12
  have HRP := Lib.hid (fun y w' (h1 : Cs w' x l) (h2 : Cs w' y (cellsOf r a)) => replaced_any l (cellsOf r a) k (k + n) x y w' h1 h2 h.2.2 hs hl (by omega) (by omega) hf)
  have HM : Hid (repl l k (k + n) (cellsOf r a) = mid l k (k + n) (cellsOf r a)) := Lib.hid (by unfold repl; rw [if_neg]; rintro ⟨e, _⟩; omega)
  rw [HM.out] at HRP
  clear HM
  obtain ⟨A, c, rfl, _⟩ := hx.form
  have HOF := Lib.hid (fun w' => of_any r w')
  rw [hr] at HOF
  have hd : decide ((n : Int) < 1) = false := decide_eq_false (by omega)
  have hwrap2 : IntKind.i64.wrap ((k : Int) + (n : Int)) = ((k + n : Nat) : Int) := by rw [IntKind.wrap_i64]; omega
  have hd2 : decide (l.length < k + n) = false := decide_eq_false (by omega)
  generalize k + n = kn at HRP hwrap2 hd2 ⊢
  generalize mid l k kn (cellsOf r a) = res at HRP ⊢
  generalize cellsOf r a = cs at HCE HRP
  clear hx hs h ha hr hr12 hcl hn hf
  go_enter Tryd.func11, Tryd.ntmps11
  go_wp2_with fail
  refine (HOF.out _).mono ?_; rintro e w1 ⟨rfl, hb1⟩
  obtain ⟨hk1, hbw⟩ := box_kept hb1
  have HB1 := Lib.hid hbw
  have HK1 := Lib.hid hk1
  obtain ⟨k0, k1, k2⟩ := box_cells hk1
  clear hb1 hk1 hbw
  go_wp2_with fail
  refine (HF.out _ (HX.out.kept HB1.out)).mono ?_; rintro e w2 ⟨rfl, hb2⟩
  have HB2 : Hid (Below w.heap.size w w2) := Lib.hid (HB1.out.trans (hb2.mono HB1.out.size))
  clear k0 k1 k2
  obtain ⟨k0, k1, k2⟩ := box_cells (Blk.kept HK1.out hb2)
  clear hb2
  go_wp2_with fail
  refine (rowIn_at _ _ _ _ HR.out _).mono ?_; rintro e w' ⟨rfl, rfl⟩
  go_wp2_with fail
  refine (HCE.out _).mono ?_; rintro e w3 ⟨v3, rfl, ho3, hb3⟩
  have HB3 : Hid (Below w.heap.size w w3) := Lib.hid (HB2.out.trans (hb3.mono HB2.out.size))
  have HC3 := Lib.hid ho3.cs
  clear ho3 hb3
  go_wp2_with fail
  refine (HRP.out _ _ (HX.out.kept HB3.out) HC3.out).mono ?_; rintro e w4 ⟨v4, rfl, ho4, hb4⟩
  have HO4 : Hid (OwnCs w4 w.heap.size v4 res) := Lib.hid (ho4.low HB3.out.size)
  have HB4 : Hid (Below w.heap.size w w4) := Lib.hid (HB3.out.trans (hb4.mono HB3.out.size))
  clear ho4 hb4
  go_wp2_with fail
  go_ret2
  exact ⟨v4, rfl, HO4.out, HB4.out⟩
end Row
end Go.Proofs.YtchdkgmednoobaaDoor
