/- The developers' Insert and Delete, where all may be. -/
import Derived.Test.YtchdkgmednoobaaDoorRowErase
namespace Go.Proofs.YtchdkgmednoobaaDoor
set_option maxRecDepth 100000
open Go.RowKit
namespace Row
open Utf Wid

theorem held_repl {l r : List Cl} (h : Held l) (hr : Held r) {low high : Nat} (h1 : low ≤ high) (h2 : high ≤ l.length) : Held (repl l low high r) := by
  unfold repl
  split
  · exact h
  · have hc := held_cut (held_cut h low) high
    have hcl : (cutL (cutL l low) high).length = l.length := by rw [cutL_length, cutL_length]
    unfold mid
    generalize cutL (cutL l low) high = m at hc hcl
    intro i hi
    have hlt : (m.take low).length = low := by rw [List.length_take]; omega
    by_cases hi1 : i < (m.take low).length
    · rw [g_append_left hi1, g_take (by omega)]; exact hc i (by omega)
    · rw [g_append_right (by omega)]
      by_cases hi2 : i - (m.take low).length < r.length
      · rw [g_append_left hi2]; exact hr _ hi2
      · rw [g_append_right (by omega), g_drop]
        rw [List.length_append, List.length_append, List.length_drop, hlt] at hi
        exact hc _ (by rw [hlt] at *; omega)
theorem held_nil : Held [] := fun i h => absurd h (by simp)
set_option maxHeartbeats 1600000 in
theorem room_fits (l : List Cl) (a : Look) (k n : Nat) (m : Nat) (hm : m = min n (l.length - k)) (x : Value) (w : World) (hx : Cs w x l) (hs : Held l) (hl : l.length ≤ 1000) (h : RowOk l) (ha : attrOk a = true) (hk : k ≤ l.length) (hn : n ≤ 9999) :
    Calls Tryd.prog 24 #[x, .int .i64 k, .int .i64 n, .agg #[.int .i64 a.fg, .int .i64 a.bg, .int .i64 a.flags]] w fun e w' => e = .returned (.tuple #[.int .i64 m, .int .i64 0]) ∧ Below w.heap.size w w' := by
  have hb0 : Below w.heap.size w (w.alloc (.cells #[.int .i64 a.fg, .int .i64 a.bg, .int .i64 a.flags] 32)) := (Below.refl _ _).alloc (Nat.le_refl _) _
  have HX := Lib.hid (hx.kept hb0)
  have HF := Lib.hid (fun w' (k : Cs w' x l) => fit_yes h ha hs hl x w' k)
  have HR1 : Hid (rng (k : Int) 0 (l.length : Int) = true) := Lib.hid (rng_yes (by omega) (by omega))
  have HR2 : Hid (rng (n : Int) 0 9999 = true) := Lib.hid (rng_yes (by omega) (by omega))
  have hwrap : IntKind.i64.wrap ((l.length : Int) - (k : Int)) = ((l.length - k : Nat) : Int) := by rw [IntKind.wrap_i64]; omega
  obtain ⟨A, c, rfl, _⟩ := hx.form
  clear hx hs h hb0 ha
  by_cases hlt : n ≤ l.length - k
  · have hmn : m = n := by omega
    subst hmn
    generalize l.length - k = q at hwrap hlt
    clear hm
    go_enter Tryd.func24, Tryd.ntmps24
    go_wp2_with fail
    refine (HF.out _ HX.out).mono ?_; rintro e w2 ⟨rfl, hb2⟩
    obtain ⟨_, hbw⟩ := box_kept hb2
    have HB2 := Lib.hid hbw
    clear hb2 hbw
    go_wp2_with fail
    refine (rowIn_at _ _ _ _ HR1.out _).mono ?_; rintro e w' ⟨rfl, rfl⟩
    go_wp2_with fail
    refine (rowIn_at _ _ _ _ HR2.out _).mono ?_; rintro e w' ⟨rfl, rfl⟩
    go_wp2_with fail
    go_ret2
    exact ⟨by simp; omega, HB2.out⟩
  · have hmn : m = l.length - k := by omega
    rw [← hmn] at hwrap
    have hlt : m < n := by omega
    clear hm hmn
    go_enter Tryd.func24, Tryd.ntmps24
    go_wp2_with fail
    refine (HF.out _ HX.out).mono ?_; rintro e w2 ⟨rfl, hb2⟩
    obtain ⟨_, hbw⟩ := box_kept hb2
    have HB2 := Lib.hid hbw
    clear hb2 hbw
    go_wp2_with fail
    refine (rowIn_at _ _ _ _ HR1.out _).mono ?_; rintro e w' ⟨rfl, rfl⟩
    go_wp2_with fail
    refine (rowIn_at _ _ _ _ HR2.out _).mono ?_; rintro e w' ⟨rfl, rfl⟩
    go_wp2_with fail
    go_ret2
    exact ⟨by simp; omega, HB2.out⟩
set_option maxHeartbeats 1600000 in
theorem insert_fits (l : List Cl) (a : Look) (k n m : Nat) (hm : m = min n (l.length - k)) (x : Value) (w : World) (hx : Cs w x l) (hs : Held l) (hl : l.length ≤ 500) (h : RowOk l) (ha : attrOk a = true) (hk : k ≤ l.length) (hn : n ≤ 9999) :
    Calls Tryd.prog 12 #[x, .int .i64 k, .int .i64 n, .agg #[.int .i64 a.fg, .int .i64 a.bg, .int .i64 a.flags]] w fun e w' => ∃ v, e = .returned (.tuple #[v, .int .i64 0]) ∧ OwnCs w' w.heap.size v (insertOf l k m a) ∧ Below w.heap.size w w' := by
  have hb0 : Below w.heap.size w (w.alloc (.cells #[.int .i64 a.fg, .int .i64 a.bg, .int .i64 a.flags] 32)) := (Below.refl _ _).alloc (Nat.le_refl _) _
  have HX0 := Lib.hid hx
  have HX := Lib.hid (hx.kept hb0)
  have HRM := Lib.hid (fun w' (h1 : Cs w' x l) => room_fits l a k n m hm x w' h1 hs (by omega) h ha hk hn)
  have hml : k + m ≤ l.length := by omega
  have HR1 := Lib.hid (fun w' (h1 : Cs w' x l) => replaced_any l [] (l.length - m) l.length x (.slice none 0 0) w' h1 (Cs.nil w') h.2.2 hs (by omega) (by simp) (by omega) (Nat.le_refl _))
  have hg1 := good_repl h.2.2 (l.length - m) l.length good_nil
  have hh1 := held_repl hs held_nil (low := l.length - m) (high := l.length) (by omega) (Nat.le_refl _)
  have hl1 := repl_length (l := l) (low := l.length - m) (high := l.length) (by omega) (Nat.le_refl _) []
  rw [List.length_nil] at hl1
  have HR2 := Lib.hid (fun z y w' (k1 : Cs w' z (repl l (l.length - m) l.length [])) (k2 : Cs w' y (List.replicate m (blank a))) => replaced_any (repl l (l.length - m) l.length []) (List.replicate m (blank a)) k k z y w' k1 k2 hg1 hh1 (by omega) (by rw [List.length_replicate]; omega) (Nat.le_refl _) (by omega))
  have HI : Hid (insertOf l k m a = repl (repl l (l.length - m) l.length []) k k (List.replicate m (blank a))) := Lib.hid rfl
  have HBK := Lib.hid (fun w' => blanks_any m a w' (by omega))
  have hwrap : IntKind.i64.wrap ((l.length : Int) - (m : Int)) = ((l.length - m : Nat) : Int) := by rw [IntKind.wrap_i64]; omega
  generalize insertOf l k m a = res at HI ⊢
  generalize l.length - m = lm at HR1 HR2 HI hwrap
  generalize repl l lm l.length [] = l1 at HR1 HR2 HI
  generalize List.replicate m (blank a) = bs at HR2 HI HBK
  obtain ⟨A, c, rfl, _⟩ := hx.form
  clear hx hs h hb0 ha hg1 hh1 hl1 hm
  go_enter Tryd.func12, Tryd.ntmps12
  go_wp2_with fail
  refine (HRM.out _ HX.out).mono ?_; rintro e w2 ⟨rfl, hb2⟩
  obtain ⟨hk2, hbw⟩ := box_kept hb2
  have HB2 := Lib.hid hbw
  have HK2 := Lib.hid hk2
  clear hb2 hbw hk2
  go_wp2_with fail
  refine (HR1.out _ (HX0.out.kept HB2.out)).mono ?_; rintro e w3 ⟨v3, rfl, ho3, hb3⟩
  have HB3 : Hid (Below w.heap.size w w3) := Lib.hid (HB2.out.trans (hb3.mono HB2.out.size))
  have HC3 := Lib.hid ho3.cs
  obtain ⟨k0, k1, k2⟩ := box_cells (Blk.kept HK2.out hb3)
  clear ho3 hb3
  go_wp2_with fail
  refine (HBK.out _).mono ?_; rintro e w4 ⟨v4, rfl, ho4, hb4⟩
  have HB4 : Hid (Below w.heap.size w w4) := Lib.hid (HB3.out.trans (hb4.mono HB3.out.size))
  have HC4 := Lib.hid ho4.cs
  have HC34 := Lib.hid (HC3.out.kept hb4)
  clear ho4 hb4
  go_wp2_with fail
  refine (HR2.out _ _ _ HC34.out HC4.out).mono ?_; rintro e w5 ⟨v5, rfl, ho5, hb5⟩
  have HO5 : Hid (OwnCs w5 w.heap.size v5 res) := Lib.hid (by rw [HI.out]; exact ho5.low HB4.out.size)
  have HB5 : Hid (Below w.heap.size w w5) := Lib.hid (HB4.out.trans (hb5.mono HB4.out.size))
  clear ho5 hb5
  go_wp2_with fail
  go_ret2
  exact ⟨v5, rfl, HO5.out, HB5.out⟩
set_option maxHeartbeats 1600000 in
theorem delete_fits (l : List Cl) (a : Look) (k n m : Nat) (hm : m = min n (l.length - k)) (x : Value) (w : World) (hx : Cs w x l) (hs : Held l) (hl : l.length ≤ 500) (h : RowOk l) (ha : attrOk a = true) (hk : k ≤ l.length) (hn : n ≤ 9999) :
    Calls Tryd.prog 13 #[x, .int .i64 k, .int .i64 n, .agg #[.int .i64 a.fg, .int .i64 a.bg, .int .i64 a.flags]] w fun e w' => ∃ v, e = .returned (.tuple #[v, .int .i64 0]) ∧ OwnCs w' w.heap.size v (deleteOf l k m a) ∧ Below w.heap.size w w' := by
  have hb0 : Below w.heap.size w (w.alloc (.cells #[.int .i64 a.fg, .int .i64 a.bg, .int .i64 a.flags] 32)) := (Below.refl _ _).alloc (Nat.le_refl _) _
  have HX0 := Lib.hid hx
  have HX := Lib.hid (hx.kept hb0)
  have HRM := Lib.hid (fun w' (h1 : Cs w' x l) => room_fits l a k n m hm x w' h1 hs (by omega) h ha hk hn)
  have hml : k + m ≤ l.length := by omega
  have HR1 := Lib.hid (fun w' (h1 : Cs w' x l) => replaced_any l [] k (k + m) x (.slice none 0 0) w' h1 (Cs.nil w') h.2.2 hs (by omega) (by simp) (by omega) hml)
  have hl1 := repl_length (l := l) (low := k) (high := k + m) (by omega) hml []
  rw [List.length_nil] at hl1
  have HI : Hid (deleteOf l k m a = repl l k (k + m) [] ++ List.replicate m (blank a)) := Lib.hid rfl
  have HBK := Lib.hid (fun w' => blanks_any m a w' (by omega))
  have hwrap : IntKind.i64.wrap ((k : Int) + (m : Int)) = ((k + m : Nat) : Int) := by rw [IntKind.wrap_i64]; omega
  have HLB : Hid ((repl l k (k + m) []).length + (List.replicate m (blank a)).length ≤ 1000000000) := Lib.hid (by rw [List.length_replicate]; omega)
  generalize deleteOf l k m a = res at HI ⊢
  generalize k + m = km at HR1 HI hwrap HLB
  generalize repl l k km [] = l1 at HR1 HI HLB
  generalize List.replicate m (blank a) = bs at HI HBK HLB
  obtain ⟨A, c, rfl, _⟩ := hx.form
  clear hx hs h hb0 ha hl1 hm hml
  go_enter Tryd.func13, Tryd.ntmps13
  go_wp2_with fail
  refine (HRM.out _ HX.out).mono ?_; rintro e w2 ⟨rfl, hb2⟩
  obtain ⟨hk2, hbw⟩ := box_kept hb2
  have HB2 := Lib.hid hbw
  have HK2 := Lib.hid hk2
  clear hb2 hbw hk2
  go_wp2_with fail
  refine (HR1.out _ (HX0.out.kept HB2.out)).mono ?_; rintro e w3 ⟨v3, rfl, ho3, hb3⟩
  have HB3 : Hid (Below w.heap.size w w3) := Lib.hid (HB2.out.trans (hb3.mono HB2.out.size))
  have HO3 : Hid (OwnCs w3 w.heap.size v3 l1) := Lib.hid (ho3.low HB2.out.size)
  obtain ⟨k0, k1, k2⟩ := box_cells (Blk.kept HK2.out hb3)
  clear ho3 hb3
  go_wp2_with fail
  refine (HBK.out _).mono ?_; rintro e w4 ⟨v4, rfl, ho4, hb4⟩
  have HB4 : Hid (Below w.heap.size w w4) := Lib.hid (HB3.out.trans (hb4.mono HB3.out.size))
  have HC4 := Lib.hid ho4.cs
  have HO34 := Lib.hid (HO3.out.kept hb4)
  clear ho4 hb4
  go_wp2_with (at_builtin; refine wp_append_cs rfl rfl w.heap.size _ _ l1 bs rfl HO34.out rfl HC4.out HLB.out HB4.out.size ?_; intro v5 w5 ho5 hg5 hat5; have HO5 : Hid (OwnCs w5 w.heap.size v5 res) := Lib.hid (by rw [HI.out]; exact ho5); have HB5 : Hid (Below w.heap.size w w5) := Lib.hid (below_cs HB4.out hg5 HB4.out.size HO34.out); clear ho5 hg5 hat5)
  go_ret2
  exact ⟨v5, rfl, HO5.out, HB5.out⟩
end Row
end Go.Proofs.YtchdkgmednoobaaDoor
