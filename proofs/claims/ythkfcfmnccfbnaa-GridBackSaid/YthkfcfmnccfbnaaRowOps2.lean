/- The developers' rows: what is replaced in a row; Put, Erase, Insert, Delete. -/
import Derived.Test.YthkfcfmnccfbnaaRowOps
namespace Go.Proofs.Ythkfcfmnccfbnaa
set_option maxRecDepth 100000
open Go.RowKit
namespace Row
open Utf Wid

theorem repl_nil {l : List Cl} (p : Nat) : repl l p p [] = l := by unfold repl; rw [if_pos ⟨rfl, rfl⟩]
set_option maxHeartbeats 1600000 in
theorem replaced_none (l : List Cl) (p : Nat) (x y : Value) (w : World) (hx : Cs w x l) (hy : Cs w y []) (hl : l.length ≤ 1000) :
    Calls Try.prog 42 #[x, .int .i64 p, .int .i64 p, y] w fun e w' => ∃ v, e = .returned v ∧ OwnCs w' w.heap.size v l ∧ Below w.heap.size w w' := by
  obtain ⟨A, c, rfl, _⟩ := hy.form
  have HCL := Lib.hid (clone_any l x w hx (by omega))
  clear hx hy
  go_enter Try.func42, Try.ntmps42
  go_wp2_with fail
  refine HCL.out.mono ?_; rintro e w1 ⟨v, rfl, ho1, hb1⟩
  have HO1 := Lib.hid ho1
  have HB1 := Lib.hid hb1
  clear ho1 hb1
  go_wp2_with fail
  go_ret
  exact ⟨v, rfl, HO1.out, HB1.out⟩
theorem three {w : World} {a b c : Value} {p q r : List Cl} (h1 : Cs w a p) (h2 : Cs w b q) (h3 : Cs w c r) : ∀ k, k < [p, q, r].length → Cs w ([a, b, c].getD k undef) ([p, q, r].getD k []) := by
  intro k hk
  have hk : k < 3 := hk
  rcases (by omega : k = 0 ∨ k = 1 ∨ k = 2) with rfl | rfl | rfl
  · exact h1
  · exact h2
  · exact h3
set_option maxHeartbeats 1600000 in
theorem replaced_mid (l r : List Cl) (low high : Nat) (x y : Value) (w : World) (hx : Cs w x l) (hy : Cs w y r) (hg : Good l) (hs : Held l) (hl : l.length ≤ 1000) (hr : r.length ≤ 1000) (h1 : low ≤ high) (h2 : high ≤ l.length) (hne : low ≠ high ∨ r ≠ []) :
    Calls Try.prog 42 #[x, .int .i64 low, .int .i64 high, y] w fun e w' => ∃ v, e = .returned v ∧ OwnCs w' w.heap.size v (mid l low high r) ∧ Below w.heap.size w w' := by
  obtain ⟨A, c, rfl, _⟩ := hy.form
  have HY := Lib.hid hy
  have HCL := Lib.hid (clone_any l x w hx (by omega))
  have HC1 := Lib.hid (fun v w' (h : OwnCs w' w.heap.size v l) (hb : w.heap.size ≤ w'.heap.size) => cut_any l w.heap.size v low w' h hb hg hs (by omega) (by omega))
  have hg1 := good_cut hg low
  have hs1 := held_cut hs low
  have hl1 := cutL_length l low
  have HC2 := Lib.hid (fun v w' (h : OwnCs w' w.heap.size v (cutL l low)) (hb : w.heap.size ≤ w'.heap.size) => cut_any (cutL l low) w.heap.size v high w' h hb hg1 hs1 (by omega) (by omega))
  have hl2 := cutL_length (cutL l low) high
  have hmid : mid l low high r = ([(cutL (cutL l low) high).take low, r, (cutL (cutL l low) high).drop high] : List (List Cl)).flatten := by simp [mid]
  have HM := Lib.hid hmid
  have hml := mid_length h1 h2 r
  rw [hmid] at hml
  generalize cutL (cutL l low) high = m at HC2 hl2 HM hml
  have hlm : m.length = l.length := by omega
  have HCC := Lib.hid (fun (xs : List Value) x w' hxl hxx hcc => concat_any [m.take low, r, m.drop high] xs x w' hxl hxx hcc (by omega) (by simp))
  have hd : (low == high && r.length == 0) = false := by
    rcases hne with h | h
    · rw [(beq_eq_false_iff_ne).2 h]; rfl
    · rw [(beq_eq_false_iff_ne).2 (fun e => h (List.eq_nil_of_length_eq_zero e)), Bool.and_false]
  by_cases hlh : low = high
  · subst hlh
    have hr0 : r ≠ [] := by
      rcases hne with h | h
      · exact absurd rfl h
      · exact h
    have hb1 : ((r.length : Int) == 0) = false := by rw [beq_eq_false_iff_ne]; exact fun e => hr0 (List.eq_nil_of_length_eq_zero (by omega))
    clear hr0
    clear hx hy hne hd hmid hg hs hg1 hs1 hml
    go_enter Try.func42, Try.ntmps42
    go_wp2_with fail
    refine HCL.out.mono ?_; rintro e w1 ⟨v, rfl, ho1, hb1⟩
    have HO1 := Lib.hid ho1
    have HB1 := Lib.hid hb1
    clear ho1 hb1
    go_wp2_with fail
    refine (HC1.out _ _ HO1.out HB1.out.size).mono ?_; rintro e w2 ⟨rfl, ho2, hb2⟩
    have HO2 := Lib.hid ho2
    have HB2 : Hid (Below w.heap.size w w2) := Lib.hid (HB1.out.trans hb2)
    clear ho2 hb2
    go_wp2_with fail
    refine (HC2.out _ _ HO2.out HB2.out.size).mono ?_; rintro e w3 ⟨rfl, ho3, hb3⟩
    have HO3 := Lib.hid ho3
    have HB3 : Hid (Below w.heap.size w w3) := Lib.hid (HB2.out.trans hb3)
    have hcs := ho3.cs
    clear ho3 hb3
    obtain ⟨A2, c2, e2, _⟩ := hcs.form
    subst e2
    rw [hlm] at HO3 hcs
    have hroom := HO3.out.room
    have hlc : low ≤ c2 := by omega
    have hhl : low ≤ l.length := by omega
    obtain ⟨_, hcs1⟩ := hcs.upto hroom low (by omega)
    have hcs2 := hcs.from hroom low (by omega)
    have HV1 := Lib.hid hcs1
    have HV2 := Lib.hid hcs2
    clear hcs hcs1 hcs2
    go_wp2_with fail
    have HBD : Hid (Below w3.heap.size w3 (w3.drew.alloc (.cells #[.slice A2 low c2, .slice A r.length c, (.slice (if c2 = low then A2 else A2.map (fun x => x.add (low * 6))) (l.length - low) (c2 - low))] 22))) := Lib.hid ((Below.refl _ _).drew.alloc (Nat.le_refl _) _)
    have HBW : Hid (Below w.heap.size w (w3.drew.alloc (.cells #[.slice A2 low c2, .slice A r.length c, (.slice (if c2 = low then A2 else A2.map (fun x => x.add (low * 6))) (l.length - low) (c2 - low))] 22))) := Lib.hid (HB3.out.trans (HBD.out.mono HB3.out.size))
    have HCALL := Lib.hid (HCC.out [.slice A2 low c2, .slice A r.length c, (.slice (if c2 = low then A2 else A2.map (fun x => x.add (low * 6))) (l.length - low) (c2 - low))] (.slice (some ⟨w3.heap.size, 0, none⟩) 3 3) (w3.drew.alloc (.cells #[.slice A2 low c2, .slice A r.length c, (.slice (if c2 = low then A2 else A2.map (fun x => x.add (low * 6))) (l.length - low) (c2 - low))] 22)) rfl (Src.made_at w3.drew _ _ _ _ _ _ rfl rfl rfl) (three (HV1.out.kept HBD.out) ((HY.out.kept HB3.out).kept HBD.out) (HV2.out.kept HBD.out)))
    go_region_law (first
      | (go_simp; go_at_call 52; refine HCALL.out.mono ?_; rintro e w4 ⟨v4, rfl, ho4, hb4⟩; have HO4 : Hid (OwnCs w4 w.heap.size v4 (mid l low low r)) := Lib.hid (by rw [HM.out]; exact ho4.low HBW.out.size); have HB4 : Hid (Below w.heap.size w w4) := Lib.hid (HBW.out.trans (hb4.mono HBW.out.size)); clear ho4 hb4))
    all_goals
      go_simp
      go_wp2_with fail
      all_goals
        go_ret
        exact ⟨_, rfl, HO4.out, HB4.out⟩
  · have hb1 : ((low : Int) == (high : Int)) = false := by rw [beq_eq_false_iff_ne]; omega
    clear hx hy hne hd hmid hg hs hg1 hs1 hml
    go_enter Try.func42, Try.ntmps42
    go_wp2_with fail
    refine HCL.out.mono ?_; rintro e w1 ⟨v, rfl, ho1, hb1⟩
    have HO1 := Lib.hid ho1
    have HB1 := Lib.hid hb1
    clear ho1 hb1
    go_wp2_with fail
    refine (HC1.out _ _ HO1.out HB1.out.size).mono ?_; rintro e w2 ⟨rfl, ho2, hb2⟩
    have HO2 := Lib.hid ho2
    have HB2 : Hid (Below w.heap.size w w2) := Lib.hid (HB1.out.trans hb2)
    clear ho2 hb2
    go_wp2_with fail
    refine (HC2.out _ _ HO2.out HB2.out.size).mono ?_; rintro e w3 ⟨rfl, ho3, hb3⟩
    have HO3 := Lib.hid ho3
    have HB3 : Hid (Below w.heap.size w w3) := Lib.hid (HB2.out.trans hb3)
    have hcs := ho3.cs
    clear ho3 hb3
    obtain ⟨A2, c2, e2, _⟩ := hcs.form
    subst e2
    rw [hlm] at HO3 hcs
    have hroom := HO3.out.room
    have hlc : low ≤ c2 := by omega
    have hhl : high ≤ l.length := by omega
    obtain ⟨_, hcs1⟩ := hcs.upto hroom low (by omega)
    have hcs2 := hcs.from hroom high (by omega)
    have HV1 := Lib.hid hcs1
    have HV2 := Lib.hid hcs2
    clear hcs hcs1 hcs2
    go_wp2_with fail
    have HBD : Hid (Below w3.heap.size w3 (w3.drew.alloc (.cells #[.slice A2 low c2, .slice A r.length c, (.slice (if c2 = high then A2 else A2.map (fun x => x.add (high * 6))) (l.length - high) (c2 - high))] 22))) := Lib.hid ((Below.refl _ _).drew.alloc (Nat.le_refl _) _)
    have HBW : Hid (Below w.heap.size w (w3.drew.alloc (.cells #[.slice A2 low c2, .slice A r.length c, (.slice (if c2 = high then A2 else A2.map (fun x => x.add (high * 6))) (l.length - high) (c2 - high))] 22))) := Lib.hid (HB3.out.trans (HBD.out.mono HB3.out.size))
    have HCALL := Lib.hid (HCC.out [.slice A2 low c2, .slice A r.length c, (.slice (if c2 = high then A2 else A2.map (fun x => x.add (high * 6))) (l.length - high) (c2 - high))] (.slice (some ⟨w3.heap.size, 0, none⟩) 3 3) (w3.drew.alloc (.cells #[.slice A2 low c2, .slice A r.length c, (.slice (if c2 = high then A2 else A2.map (fun x => x.add (high * 6))) (l.length - high) (c2 - high))] 22)) rfl (Src.made_at w3.drew _ _ _ _ _ _ rfl rfl rfl) (three (HV1.out.kept HBD.out) ((HY.out.kept HB3.out).kept HBD.out) (HV2.out.kept HBD.out)))
    go_region_law (first
      | (go_simp; go_at_call 52; refine HCALL.out.mono ?_; rintro e w4 ⟨v4, rfl, ho4, hb4⟩; have HO4 : Hid (OwnCs w4 w.heap.size v4 (mid l low high r)) := Lib.hid (by rw [HM.out]; exact ho4.low HBW.out.size); have HB4 : Hid (Below w.heap.size w w4) := Lib.hid (HBW.out.trans (hb4.mono HBW.out.size)); clear ho4 hb4))
    all_goals
      go_simp
      go_wp2_with fail
      all_goals
        go_ret
        exact ⟨_, rfl, HO4.out, HB4.out⟩

theorem replaced_any (l r : List Cl) (low high : Nat) (x y : Value) (w : World) (hx : Cs w x l) (hy : Cs w y r) (hg : Good l) (hs : Held l) (hl : l.length ≤ 1000) (hr : r.length ≤ 1000) (h1 : low ≤ high) (h2 : high ≤ l.length) :
    Calls Try.prog 42 #[x, .int .i64 low, .int .i64 high, y] w fun e w' => ∃ v, e = .returned v ∧ OwnCs w' w.heap.size v (repl l low high r) ∧ Below w.heap.size w w' := by
  by_cases h : low = high ∧ r = []
  · obtain ⟨rfl, rfl⟩ := h
    rw [repl_nil]
    exact replaced_none l low x y w hx hy hl
  · have hm : repl l low high r = mid l low high r := by unfold repl; rw [if_neg h]
    rw [hm]
    refine replaced_mid l r low high x y w hx hy hg hs hl hr h1 h2 ?_
    by_cases hlh : low = high
    · exact .inr fun e => h ⟨hlh, e⟩
    · exact .inl hlh
end Row
end Go.Proofs.Ythkfcfmnccfbnaa
