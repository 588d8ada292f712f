/- Joined texts: RowOps, RowOps2, RowPut, RowErase, GrdSmall. -/
import Derived.Test.YtjcfbeiljdohcaaGreatDoorJB12
import Derived.Deep.RegionHeld3
namespace Go.Proofs.YtjcfbeiljdohcaaGreatDoor
set_option maxRecDepth 100000
section
open Go.RowKit
namespace Row
open Utf Wid
theorem held_cut {l : List Cl} (h : Held l) (p : Nat) : Held (cutL l p) := by
  intro i hi
  rw [cutL_length] at hi
  rw [cutL_g]
  split
  · exact Nat.zero_le _
  · exact h i hi
theorem Cs.upto {w : World} {A : Option Addr} {n c : Nat} {l : List Cl} (h : Cs w (.slice A n c) l) (hc : n ≤ c) (k : Nat) (hk : k ≤ l.length) :
    (∀ w' : World, (Instr.slice 27 (.slice A n c) none (some (.int .i64 k)) none).run Tryz.prog w' = .ok (.slice A k c) w') ∧ Cs w (.slice A k c) (l.take k) := by
  obtain ⟨A', c', e, hf⟩ := h.form
  injection e with e1 e2 e3
  subst e1; subst e2; subst e3
  have hu : Tryz.prog.underlying 27 = some (.slice (Tryz.prog.elem 27)) := by kernel_rfl
  refine ⟨fun w' => ?_, ?_⟩
  · rw [run_slice_h w' 27 A l.length c hu .i64 k (by omega) (by omega)]
    have hs : (sizeOf (Tryz.prog.elem 27)).run Tryz.prog w' = .ok 6 w' := by kernel_rfl
    rw [hs]
    simp [Result.andThen, sliced]
    intro _
    cases A <;> simp [Addr.add]
  · have hl : (l.take k).length = k := by rw [List.length_take]; omega
    rcases h.2.2 with ⟨e, h0⟩ | ⟨ad, c2, e, hcell⟩
    · injection e with e1 e2 e3
      subst e1; subst e3
      have : k = 0 := by omega
      subst this
      exact Cs.nil w
    · injection e with e1 e2 e3
      subst e1; subst e3
      have := Cs.of (w := w) (ad := ad) (c := c) (l := l.take k) fun j u hu => by
        refine h.flat.2 j u ?_
        have hj : j < (Row.flat (l.take k)).length := (List.getElem?_eq_some_iff.1 hu).1
        have hs : Row.flat l = Row.flat (l.take k) ++ Row.flat (l.drop k) := by rw [← flat_append, List.take_append_drop]
        rw [hs, List.getElem?_append_left hj]; exact hu
      rwa [hl] at this
theorem Cs.from {w : World} {A : Option Addr} {n c : Nat} {l : List Cl} (h : Cs w (.slice A n c) l) (hc : n ≤ c) (k : Nat) (hk : k ≤ l.length) :
    Cs w (.slice (if c = k then A else A.map (fun x => x.add (k * 6))) (n - k) (c - k)) (l.drop k) := by
  obtain ⟨A', c', e, hf⟩ := h.form
  injection e with e1 e2 e3
  subst e1; subst e2; subst e3
  have hl : (l.drop k).length = l.length - k := List.length_drop
  rcases h.2.2 with ⟨e, h0⟩ | ⟨ad, c2, e, hcell⟩
  · injection e with e1 e2 e3
    subst e1; subst e3
    have h0 : l.length = 0 := h0
    have hl0 : l = [] := List.eq_nil_of_length_eq_zero h0
    subst hl0
    have hk0 : k = 0 := by simpa using hk
    subst hk0
    simp only [List.length_nil] at h0 ⊢
    exact Cs.nil w
  · injection e with e1 e2 e3
    subst e1; subst e3
    by_cases hck : c = k
    · rw [if_pos hck]
      have hd : l.drop k = [] := List.drop_eq_nil_of_le (by omega)
      have := Cs.of (w := w) (ad := ad) (c := c - k) (l := l.drop k) fun j u hu => by rw [hd] at hu; simp [Row.flat] at hu
      rwa [hl] at this
    · rw [if_neg hck]
      have := Cs.of (w := w) (ad := ad.add (k * 6)) (c := c - k) (l := l.drop k) fun j u hu => by
        rw [Go.Deep.add_add]
        refine h.flat.2 (k * 6 + j) u ?_
        have hlt : (Row.flat (l.take k)).length = k * 6 := by rw [flat_length, List.length_take, Nat.min_eq_left hk]
        have hs : Row.flat l = Row.flat (l.take k) ++ Row.flat (l.drop k) := by rw [← flat_append, List.take_append_drop]
        rw [hs, List.getElem?_append_right (by omega), hlt, show k * 6 + j - k * 6 = j from by omega]
        exact hu
      rwa [hl] at this
theorem OwnCs.room {w : World} {base n c : Nat} {A : Option Addr} {l : List Cl} (h : OwnCs w base (.slice A n c) l) : n ≤ c := by
  rcases h.shape with ⟨e, _⟩ | ⟨b, cap, e, _, hc⟩
  · injection e with e1 e2 e3; omega
  · injection e with e1 e2 e3; omega
set_option maxHeartbeats 800000 in
theorem blanks_any (n : Nat) (a : Look) (w : World) (hn : n ≤ 1000) :
    Calls Tryz.prog 107 #[.int .i64 n, .agg #[.int .i64 a.fg, .int .i64 a.bg, .int .i64 a.flags]] w fun e w' => ∃ v, e = .returned v ∧ OwnCs w' w.heap.size v (List.replicate n (blank a)) ∧ Below w.heap.size w w' := by
  have HB : Hid (∀ w', Calls Tryz.prog 113 #[.agg #[.int .i64 a.fg, .int .i64 a.bg, .int .i64 a.flags]] w' fun e w'' => e = .returned (.agg #[.int .i64 32, .string ⟨#[]⟩, .int .i64 0, .int .i64 (-1), .int .i64 a.bg, .int .i64 0]) ∧ Below w'.heap.size w' w'') := Lib.hid (fun w' => blank_any a w')
  have HR := Lib.hid (fun x w' (h : Cs w' x [blank a]) => repeat_any (blank a) x n w' h (by omega))
  have HO : Hid (∀ w' : World, Cs (w'.alloc (.cells #[.int .i64 32, .string ⟨#[]⟩, .int .i64 0, .int .i64 (-1), .int .i64 a.bg, .int .i64 0] 78)) (.slice (some ⟨w'.heap.size, 0, none⟩) 1 1) [blank a]) := Lib.hid fun w' => Cs.one w' (blank a) _ 1 _ rfl
  go_enter Tryz.func107, Tryz.ntmps107
  go_wp2_with fail
  refine (HB.out _).mono ?_; rintro e w1 ⟨rfl, hb1⟩
  have HB1 : Hid (Below w.heap.size w w1) := Lib.hid (((Below.refl _ _).alloc (Nat.le_refl _) _).trans (hb1.mono (by simp)))
  clear hb1
  go_wp2_with fail
  refine (HR.out _ _ (HO.out w1)).mono ?_; rintro e w2 ⟨v, rfl, ho2, hb2⟩
  have HO2 : Hid (OwnCs w2 w.heap.size v (List.replicate n (blank a))) := Lib.hid (ho2.low (by have := HB1.out.size; simp; omega))
  have HB2 : Hid (Below w.heap.size w w2) := Lib.hid ((HB1.out.alloc HB1.out.size _).trans (hb2.mono (by have := HB1.out.size; simp; omega)))
  clear ho2 hb2
  go_wp2_with fail
  go_ret
  exact ⟨v, rfl, HO2.out, HB2.out⟩
end Row
end
section
open Go.RowKit
namespace Row
open Utf Wid
theorem repl_nil {l : List Cl} (p : Nat) : repl l p p [] = l := by unfold repl; rw [if_pos ⟨rfl, rfl⟩]
theorem three {w : World} {a b c : Value} {p q r : List Cl} (h1 : Cs w a p) (h2 : Cs w b q) (h3 : Cs w c r) : ∀ k, k < [p, q, r].length → Cs w ([a, b, c].getD k undef) ([p, q, r].getD k []) := by
  intro k hk
  have hk : k < 3 := hk
  rcases (by omega : k = 0 ∨ k = 1 ∨ k = 2) with rfl | rfl | rfl
  · exact h1
  · exact h2
  · exact h3
end Row
end
section
open Go.RowKit
namespace Row
open Utf Wid
theorem rng_yes {n lo hi : Int} (h : lo ≤ n) (k : n ≤ hi) : rng n lo hi = true := by unfold rng; rw [decide_eq_true h, decide_eq_true k]; rfl
theorem rng_no {n lo hi : Int} (h : ¬ (lo ≤ n ∧ n ≤ hi)) : rng n lo hi = false := by
  unfold rng
  rw [Bool.and_eq_false_iff]
  by_cases k : lo ≤ n
  · exact .inr (decide_eq_false fun k2 => h ⟨k, k2⟩)
  · exact .inl (decide_eq_false k)
def attrV (a : Look) : Value := .agg #[.int .i64 a.fg, .int .i64 a.bg, .int .i64 a.flags]
theorem box_kept {w w1 : World} {a : Look} (hb : Below (w.alloc (.cells #[.int .i64 a.fg, .int .i64 a.bg, .int .i64 a.flags] 76)).heap.size (w.alloc (.cells #[.int .i64 a.fg, .int .i64 a.bg, .int .i64 a.flags] 76)) w1) :
    w1.heap[w.heap.size]? = some (.cells #[.int .i64 a.fg, .int .i64 a.bg, .int .i64 a.flags] 76 (0, 0)) ∧ Below w.heap.size w w1 :=
  ⟨Blk.kept (heap_alloc_new _ _) hb, ((Below.refl _ _).alloc (Nat.le_refl _) _).trans (hb.mono (by simp))⟩
end Row
end
section
open Go.RowKit
namespace Row
open Utf Wid
set_option maxHeartbeats 1600000 in
theorem rowBlank_fits (n : Nat) (a : Look) (w : World) (h1 : 1 ≤ n) (h2 : n ≤ 40) (ha : attrOk a = true) :
    Calls Tryz.prog 98 #[.int .i64 n, .agg #[.int .i64 a.fg, .int .i64 a.bg, .int .i64 a.flags]] w fun e w' => ∃ v, e = .returned (.tuple #[v, .int .i64 0]) ∧ OwnCs w' w.heap.size v (List.replicate n (blank a)) ∧ Below w.heap.size w w' := by
  have HR : Hid (rng (n : Int) 1 40 = true) := Lib.hid (rng_yes (by omega) (by omega))
  have HCK := Lib.hid (fun w' => check_any a true ha w')
  have HBK := Lib.hid (fun w' => blanks_any n a w' (by omega))
  clear ha
  go_enter Tryz.func98, Tryz.ntmps98
  go_wp2_with fail
  refine (rowIn_at _ _ _ _ HR.out _).mono ?_; rintro e w' ⟨rfl, rfl⟩
  go_wp2_with fail
  refine (HCK.out _).mono ?_; rintro e w2 ⟨rfl, hb2⟩
  obtain ⟨hk2, hbw⟩ := box_kept hb2
  have HB2 := Lib.hid hbw
  obtain ⟨k0, k1, k2⟩ := box_cells hk2
  clear hb2 hbw hk2
  go_wp2_with fail
  refine (HBK.out _).mono ?_; rintro e w3 ⟨v3, rfl, ho3, hb3⟩
  have HB3 : Hid (Below w.heap.size w w3) := Lib.hid (HB2.out.trans (hb3.mono HB2.out.size))
  have HO3 : Hid (OwnCs w3 w.heap.size v3 (List.replicate n (blank a))) := Lib.hid (ho3.low HB2.out.size)
  clear ho3 hb3
  go_wp2_with fail
  go_ret2
  exact ⟨v3, rfl, HO3.out, HB3.out⟩
set_option maxHeartbeats 1600000 in
theorem rowBlank_no (n : Int) (a : Look) (w : World) (h : ¬ ((1 ≤ n ∧ n ≤ 40) ∧ attrOk a = true)) :
    Calls Tryz.prog 98 #[.int .i64 n, .agg #[.int .i64 a.fg, .int .i64 a.bg, .int .i64 a.flags]] w fun e w' => e = .returned (.tuple #[.slice none 0 0, .int .i64 1]) ∧ Below w.heap.size w w' := by
  by_cases hn : 1 ≤ n ∧ n ≤ 40
  · have HR : Hid (rng n 1 40 = true) := Lib.hid (rng_yes (by omega) (by omega))
    have HCK := Lib.hid (fun w' => check_any a false (by cases q : attrOk a; rfl; exact absurd ⟨hn, q⟩ h) w')
    clear h hn
    go_enter Tryz.func98, Tryz.ntmps98
    go_wp2_with fail
    refine (rowIn_at _ _ _ _ HR.out _).mono ?_; rintro e w' ⟨rfl, rfl⟩
    go_wp2_with fail
    refine (HCK.out _).mono ?_; rintro e w2 ⟨rfl, hb2⟩
    obtain ⟨_, hbw⟩ := box_kept hb2
    have HB2 := Lib.hid hbw
    clear hb2 hbw
    go_wp2_with fail
    go_ret2
    exact ⟨rfl, HB2.out⟩
  · have HR : Hid (rng n 1 40 = false) := Lib.hid (rng_no hn)
    clear h hn
    go_enter Tryz.func98, Tryz.ntmps98
    go_wp2_with fail
    refine (rowIn_at _ _ _ _ HR.out _).mono ?_; rintro e w' ⟨rfl, rfl⟩
    go_wp2_with fail
    go_ret2
    exact ⟨rfl, (Below.refl _ _).alloc (Nat.le_refl _) _⟩
end Row
end
section
open Go.RowKit
namespace Row
theorem gridIn_at (n lo hi : Int) (b : Bool) (hb : rng n lo hi = b) (w : World) : Calls Tryz.prog 97 #[.int .i64 n, .int .i64 lo, .int .i64 hi] w fun e w' => e = .returned (.bool b) ∧ w = w' := by
  subst hb
  by_cases h : lo ≤ n
  · by_cases k : n ≤ hi
    · have H : Hid (rng n lo hi = true) := Lib.hid (by unfold rng; rw [decide_eq_true h, decide_eq_true k]; rfl)
      go_enter Tryz.func97, Tryz.ntmps97
      go_wp2_with fail
      go_ret
      exact ⟨ret_bool H.out.symm, rfl⟩
    · have H : Hid (rng n lo hi = false) := Lib.hid (by unfold rng; rw [decide_eq_false k, Bool.and_false])
      have hd : decide (n ≤ hi) = false := decide_eq_false k
      go_enter Tryz.func97, Tryz.ntmps97
      go_wp2_with fail
      go_ret
      exact ⟨ret_bool H.out.symm, rfl⟩
  · have H : Hid (rng n lo hi = false) := Lib.hid (by unfold rng; rw [decide_eq_false h, Bool.false_and])
    have hd : decide (lo ≤ n) = false := decide_eq_false h
    go_enter Tryz.func97, Tryz.ntmps97
    go_wp2_with fail
    go_ret
    exact ⟨ret_bool H.out.symm, rfl⟩
def sidesOk (r c : Int) : Bool := rng r 1 40 && rng c 1 40
theorem sidesOk_iff (r c : Int) : sidesOk r c = true ↔ (1 ≤ r ∧ r ≤ 40) ∧ (1 ≤ c ∧ c ≤ 40) := by unfold sidesOk rng; simp [and_assoc]
theorem sides_at (r c : Int) (b : Bool) (hb : sidesOk r c = b) (w : World) : Calls Tryz.prog 82 #[.int .i64 r, .int .i64 c] w fun e w' => e = .returned (.bool b) ∧ w = w' := by
  subst hb
  cases h1 : rng r 1 40 with
  | false =>
    have H1 := Lib.hid h1
    have H : Hid (sidesOk r c = false) := Lib.hid (by unfold sidesOk; rw [h1]; rfl)
    clear h1
    go_enter Tryz.func82, Tryz.ntmps82
    go_wp2_with fail
    refine (gridIn_at _ _ _ _ H1.out _).mono ?_; rintro e w' ⟨rfl, rfl⟩
    go_wp2_with fail
    go_ret
    exact ⟨ret_bool H.out.symm, rfl⟩
  | true =>
    have H1 := Lib.hid h1
    have H : Hid (sidesOk r c = rng c 1 40) := Lib.hid (by unfold sidesOk; rw [h1]; rfl)
    clear h1
    go_enter Tryz.func82, Tryz.ntmps82
    go_wp2_with fail
    refine (gridIn_at r _ _ _ H1.out _).mono ?_; rintro e w' ⟨rfl, rfl⟩
    go_wp2_with fail
    refine (gridIn_at c _ _ _ rfl _).mono ?_; rintro e w' ⟨rfl, rfl⟩
    go_wp2_with fail
    go_ret
    exact ⟨ret_bool H.out.symm, rfl⟩
set_option maxHeartbeats 800000 in
theorem paints_at (a : Look) (b : Bool) (hb : attrOk a = b) (w : World) : Calls Tryz.prog 83 #[.agg #[.int .i64 a.fg, .int .i64 a.bg, .int .i64 a.flags]] w fun e w' => e = .returned (.bool b) ∧ Below w.heap.size w w' := by
  have HB0 : Hid (Below w.heap.size w (w.alloc (.cells #[.int .i64 a.fg, .int .i64 a.bg, .int .i64 a.flags] 76))) := Lib.hid ((Below.refl _ _).alloc (Nat.le_refl _) _)
  cases b with
  | true =>
    have HBK := Lib.hid (fun w' => rowBlank_fits 1 a w' (by omega) (by omega) hb)
    clear hb
    go_enter Tryz.func83, Tryz.ntmps83
    go_wp2_with fail
    refine (HBK.out _).mono ?_; rintro e w2 ⟨v, rfl, ho, hb2⟩
    have HB2 : Hid (Below w.heap.size w w2) := Lib.hid (HB0.out.trans (hb2.mono (by simp)))
    clear ho hb2
    go_wp2_with fail
    go_ret
    exact ⟨rfl, HB2.out⟩
  | false =>
    have HBK := Lib.hid (fun w' => rowBlank_no 1 a w' (by rw [hb]; simp))
    clear hb
    go_enter Tryz.func83, Tryz.ntmps83
    go_wp2_with fail
    refine (HBK.out _).mono ?_; rintro e w2 ⟨rfl, hb2⟩
    have HB2 : Hid (Below w.heap.size w w2) := Lib.hid (HB0.out.trans (hb2.mono (by simp)))
    clear hb2
    go_wp2_with fail
    go_ret
    exact ⟨rfl, HB2.out⟩
set_option maxHeartbeats 800000 in
theorem gridBlanks_any (n : Nat) (a : Look) (w : World) (h1 : 1 ≤ n) (h2 : n ≤ 40) (ha : attrOk a = true) :
    Calls Tryz.prog 108 #[.int .i64 n, .agg #[.int .i64 a.fg, .int .i64 a.bg, .int .i64 a.flags]] w fun e w' => ∃ v, e = .returned v ∧ OwnCs w' w.heap.size v (blankRow n a) ∧ Below w.heap.size w w' := by
  have HB0 : Hid (Below w.heap.size w (w.alloc (.cells #[.int .i64 a.fg, .int .i64 a.bg, .int .i64 a.flags] 76))) := Lib.hid ((Below.refl _ _).alloc (Nat.le_refl _) _)
  have HBK := Lib.hid (fun w' => rowBlank_fits n a w' h1 h2 ha)
  clear ha
  go_enter Tryz.func108, Tryz.ntmps108
  go_wp2_with fail
  refine (HBK.out _).mono ?_; rintro e w2 ⟨v, rfl, ho, hb2⟩
  have HB2 : Hid (Below w.heap.size w w2) := Lib.hid (HB0.out.trans (hb2.mono (by simp)))
  have HO : Hid (OwnCs w2 w.heap.size v (blankRow n a)) := Lib.hid (ho.low (by simp))
  clear ho hb2
  go_wp2_with fail
  go_ret
  exact ⟨v, rfl, HO.out, HB2.out⟩
end Row
end
end Go.Proofs.YtjcfbeiljdohcaaGreatDoor
