/- The developers' Line. -/
import Derived.Test.YtabplmhmanbmjaaSgrDev5
namespace Go.Proofs.Ytabplmhmanbmjaa
set_option maxRecDepth 100000
open Go.RowKit
namespace Sd
open Sgr
/-- Put behind: what a row of the call's own becomes. -/
def Puts (w : World) (base : Nat) (xs : List Int) (e : Ending) (w' : World) : Prop := ∃ u, e = .returned u ∧ w'.ownsRow base 3 1 u xs.length (ints xs) ∧ Below base w w'
theorem puts_mk {w w' : World} {base n m : Nat} {u : Value} {xs ys : List Int} (hl : xs.length = n) (hm : ys.length = m) (h : w'.ownsRow base 3 1 u (n + m) (ints (xs ++ ys))) (hb : Below base w w') : Puts w base (xs ++ ys) (.returned u) w' :=
  ⟨u, rfl, by rw [List.length_append, hl, hm]; exact h, hb⟩
set_option maxHeartbeats 1600000 in
theorem colour_any (c b : Int) (v : Value) (xs : List Int) (base : Nat) (w : World) (hv : w.ownsRow base 3 1 v xs.length (ints xs)) (hx : xs.length ≤ 1000) (hbase : base ≤ w.heap.size) (hc : -1 ≤ c) (hc' : c ≤ 16777471) (hb : 0 ≤ b) (hb' : b ≤ 10) :
    Calls Try.prog 22 #[v, .int .i64 c, .int .i64 b] w (Puts w base (xs ++ formOf c b)) := by
  by_cases h0 : c = -1
  · have e : formOf c b = [] := by unfold formOf; rw [if_pos (by omega)]
    have b1 : (c == -1) = true := by rw [beq_iff_eq]; exact h0
    rw [e, List.append_nil]
    clear h0 e
    go_enter Try.func22, Try.ntmps22
    go_wp2_with fail
    go_ret
    exact ⟨v, rfl, hv, Below.refl _ _⟩
  have b1 : (c == -1) = false := by rw [beq_eq_false_iff_ne]; exact h0
  by_cases h1 : c < 8
  · have e : formOf c b = [30 + b + c] := by unfold formOf; rw [if_neg (by omega), if_pos h1]
    rw [e]
    clear h0 e
    go_enter Try.func22, Try.ntmps22
    go_wp2_with (at_builtin; refine wp_append_ints rfl rfl base v _ xs rfl (hv.alloc _) _ 1 [30 + b + c] rfl (Src.one w _ _ _) (by omega) (by simp; omega) ?_; intro v1 w2 ho1 hg1 hat1)
    go_ret
    exact puts_mk rfl rfl ho1 (below_own ((Below.refl _ _).alloc hbase _) hg1 (by simp; omega) (hv.alloc _))
  have d1 : decide (c < 8) = false := decide_eq_false h1
  by_cases h2 : c < 16
  · have e : formOf c b = [90 + b + c - 8] := by unfold formOf; rw [if_neg (by omega), if_neg h1, if_pos h2]; congr 1; omega
    rw [e]
    clear h0 h1 e
    go_enter Try.func22, Try.ntmps22
    go_wp2_with (at_builtin; refine wp_append_ints rfl rfl base v _ xs rfl (hv.alloc _) _ 1 [90 + b + c - 8] rfl (Src.one w _ _ _) (by omega) (by simp; omega) ?_; intro v1 w2 ho1 hg1 hat1)
    go_ret
    exact puts_mk rfl rfl ho1 (below_own ((Below.refl _ _).alloc hbase _) hg1 (by simp; omega) (hv.alloc _))
  have d2 : decide (c < 16) = false := decide_eq_false h2
  by_cases h3 : c ≤ 255
  · have e : formOf c b = [38 + b, 5, c] := by unfold formOf; rw [if_neg (by omega), if_neg h1, if_neg h2, if_pos (by omega)]
    rw [e]
    clear h0 h1 h2 e
    go_enter Try.func22, Try.ntmps22
    go_wp2_with (at_builtin; refine wp_append_ints rfl rfl base v _ xs rfl (hv.alloc _) _ 3 [38 + b, 5, c] rfl (Src.made w (ints [38 + b, 5, c]) _ 3 3 rfl) (by omega) (by simp; omega) ?_; intro v1 w2 ho1 hg1 hat1)
    go_ret
    exact puts_mk rfl rfl ho1 (below_own ((Below.refl _ _).alloc hbase _) hg1 (by simp; omega) (hv.alloc _))
  have d3 : decide (c ≤ 255) = false := decide_eq_false h3
  have e : formOf c b = [38 + b, 2, (c - 256) / 65536, (c - 256) / 256 % 256, c % 256] := by unfold formOf; rw [if_neg (by omega), if_neg h1, if_neg h2, if_neg (by omega), show (c - 256) % 256 = c % 256 by omega]
  have HM1 : Hid (bits .and .i64 ((c - 256) / 256) 255 = (c - 256) / 256 % 256) := Lib.hid (i64_and255 _ (by omega) (by omega))
  have HM2 : Hid (bits .and .i64 (c - 256) 255 = c % 256) := Lib.hid ((i64_and255 _ (by omega) (by omega)).trans (by omega))
  rw [e]
  clear h0 h1 h2 e
  go_enter Try.func22, Try.ntmps22
  go_wp2_with (at_builtin; refine wp_append_ints rfl rfl base v _ xs rfl (hv.alloc _) _ 5 [38 + b, 2, (c - 256) / 65536, (c - 256) / 256 % 256, c % 256] rfl (Src.made_at w _ (ints [38 + b, 2, (c - 256) / 65536, (c - 256) / 256 % 256, c % 256]) _ _ 5 5 rfl (by rw [HM1.out, HM2.out]; rfl) rfl) (by omega) (by simp; omega) ?_; intro v1 w2 ho1 hg1 hat1)
  go_ret
  exact puts_mk rfl rfl ho1 (below_own ((Below.refl _ _).alloc hbase _) hg1 (by simp; omega) (hv.alloc _))

theorem bit_all : ∀ (f : Fin 256) (k : Fin 8), (bits .and .i64 (f.val : Int) (2 ^ k.val) != 0) = bitAt f.val k.val := by decide +kernel
theorem bit_dev (f : Int) (k : Nat) (hf : Byt f) (hk : k < 8) : (bits .and .i64 f (2 ^ k) != 0) = bitAt f k := by
  obtain ⟨g, rfl⟩ := hf.fin; exact bit_all g ⟨k, hk⟩
theorem iter_not_own {w : World} {B e n : Nat} {v : Value} {xs : List Value} {k : Nat} {s : ByteArray} {pos : Nat} (h : w.ownsRow B e 1 v n xs) (hk : w.heap[k]? = some (.stringIter s pos)) : some k ≠ v.ownBlock := by
  intro e
  rcases h.2 with ⟨rfl, _⟩ | ⟨g, cap, cur, rfl, hb, hg, rest⟩
  · cases e
  · injection e with e; subst e
    rw [hk] at hg; cases hg
theorem own_moved {w : World} {B e n : Nat} {v : Value} {xs : List Value} {k : Nat} {s : ByteArray} {pos : Nat} (h : w.ownsRow B e 1 v n xs) (hk : w.heap[k]? = some (.stringIter s pos)) (pos' : Nat) : (w.iterAt k s pos').ownsRow B e 1 v n xs := by
  have hn := iter_not_own h hk
  refine ⟨h.1, ?_⟩
  rcases h.2 with h0 | ⟨g, cap, cur, rfl, hb, hg, rest⟩
  · exact .inl h0
  · refine .inr ⟨g, cap, cur, rfl, hb, ?_, rest⟩
    rw [Lib.iterAt_other w k g s pos' (fun e => hn (by rw [e]; rfl))]; exact hg
theorem next_dig_at (w : World) (g k : Nat) (ty : TypeId) (hg : w.heap[g]? = some (.stringIter digs k)) (h : k < 8) : (Instr.next (.pointer (some ⟨g, 0, none⟩)) true ty).run Try.prog w =
      .ok (.tuple #[.bool true, .int .i64 k, .int .i32 (48 + digit k)]) (w.iterAt g digs (k + 1)) := by
  rw [Lib.run_next_any_at w g digs k ty hg h]
  have := dec_all ⟨k, h⟩
  rw [this.1, this.2]
/-- The numbers, and an error. -/
def Lined (w : World) (l : List Int) (n : Int) (e : Ending) (w' : World) : Prop := ∃ u, e = .returned (.tuple #[u, .int .i64 n]) ∧ w'.ownsRow w.heap.size 3 1 u l.length (ints l) ∧ Below w.heap.size w w'
set_option maxHeartbeats 800000 in
theorem line_bad (a : Look) (ha : attrOk a = false) (w : World) : Calls Try.prog 8 #[.agg #[.int .i64 a.fg, .int .i64 a.bg, .int .i64 a.flags]] w (Lined w [] 1) := by
  have HA := Lib.hid ha
  clear ha
  go_enter Try.func8, Try.ntmps8
  go_wp2_with fail
  refine (check_any a false HA.out _).mono ?_; rintro e w2 ⟨rfl, hb2⟩
  have HB : Hid (Below w.heap.size w w2) := Lib.hid (((Below.refl _ _).alloc (Nat.le_refl _) _).trans (hb2.mono (by simp)))
  clear hb2
  go_wp2_with fail
  go_ret2
  exact ⟨_, rfl, World.ownsRow_nil _ _ _ _, HB.out⟩
set_option maxHeartbeats 1600000 in
theorem line_good (a : Look) (ha : attrOk a = true) (w : World) : Calls Try.prog 8 #[.agg #[.int .i64 a.fg, .int .i64 a.bg, .int .i64 a.flags]] w (Lined w (lineOf a) 0) := by
  have HA := Lib.hid ha
  have HBY := Lib.hid (attr_byt ha)
  have hr : (-1 ≤ a.fg ∧ a.fg ≤ 16777471) ∧ (-1 ≤ a.bg ∧ a.bg ≤ 16777471) := by
    unfold attrOk colourOk rng at ha
    simp only [Bool.and_eq_true, decide_eq_true_eq] at ha
    exact ha.1
  obtain ⟨⟨hr1, hr2⟩, hr3, hr4⟩ := hr
  clear ha
  go_enter Try.func8, Try.ntmps8
  go_wp2_with fail
  refine (check_any a true HA.out _).mono ?_; rintro e w2 ⟨rfl, hb2⟩
  have HB : Hid (Below w.heap.size w w2) := Lib.hid (((Below.refl _ _).alloc (Nat.le_refl _) _).trans (hb2.mono (by simp)))
  have HAB : Hid (w2.heap[w.heap.size]? = some (.cells #[.int .i64 a.fg, .int .i64 a.bg, .int .i64 a.flags] 29 (0, 0))) := Lib.hid (Blk.kept (heap_alloc_new _ _) hb2)
  have hlt0 := Blk.lt HAB.out
  clear hb2
  go_wp2_with fail
  obtain ⟨B, hB⟩ : ∃ B, w2.heap.size = B := ⟨_, rfl⟩
  have HZ := Lib.hid hB
  rw [hB] at hlt0 ⊢
  have hS : Hid (((w2.alloc (.cells #[.int .i64 0] 3)).iter digs 0).ownsRow B 3 1 (.slice (some ⟨B, 0, none⟩) 1 1) 1 (ints [0]) ∧ ((w2.alloc (.cells #[.int .i64 0] 3)).iter digs 0).heap[B + 1]? = some (.stringIter digs 0) ∧ Below B w2 ((w2.alloc (.cells #[.int .i64 0] 3)).iter digs 0)) :=
    Lib.hid ⟨(owns_one_at B w2 3 (.int .i64 0) B hB (Nat.le_refl _)).alloc _, new_alloc _ _ _ (by simp [hB]), below_iter ((Below.refl _ _).alloc (by omega) _) (by simp; omega) _ _⟩
  clear hB
  go_loopw [5] (fun v wr => ∃ k : Nat, k ≤ 8 ∧ wr.ownsRow B 3 1 v (flagsUpto a.flags k).length.succ (ints (0 :: flagsUpto a.flags k)) ∧ Hid (wr.heap[B + 1]? = some (.stringIter digs k)) ∧ Below B w2 wr) (fun _ wr => 8 - wr.iterPos (B + 1))
  case atStart => exact ⟨0, by omega, hS.out.1, Lib.hid hS.out.2.1, hS.out.2.2⟩
  case round =>
    obtain ⟨k, hk, hown, HI, hbl⟩ := hrel
    have HL := Lib.hid (flagsUpto_len a.flags k)
    have HIP : Hid (wr.iterPos (B + 1) = k) := Lib.hid (by simp [World.iterPos, HI.out])
    have hzr := hbl.size
    rw [HZ.out] at hzr
    by_cases hlt : k < 8
    · have hnx := fun ty => next_dig_at wr (B + 1) k ty HI.out hlt
      have own2 := own_moved hown HI.out (k + 1)
      have hit2 := Lib.hid (Lib.iterAt_heap wr (B + 1) digs k (k + 1) HI.out)
      have hbl2 : Below B w2 (wr.iterAt (B + 1) digs (k + 1)) := Lib.below_iterAt hbl (by omega) _ _
      have hz2 := hbl2.size
      rw [HZ.out] at hz2
      have hcells : Hid ((wr.iterAt (B + 1) digs (k + 1)).heap[w.heap.size]? = some (.cells #[.int .i64 a.fg, .int .i64 a.bg, .int .i64 a.flags] 29 (0, 0))) := Lib.hid (Blk.kept HAB.out (by rw [HZ.out]; exact hbl2))
      obtain ⟨d0, d1⟩ := digit_cases k hlt
      have hk0 : (0 : Int) ≤ k := by omega
      have hbt := bit_dev a.flags k HBY.out hlt
      have hW : wrap64 ((2 : Int) ^ k) = 2 ^ k := spow_all ⟨k, hlt⟩
      have HN1 : Hid (flagsUpto a.flags (k + 1) = flagsUpto a.flags k ++ (if bitAt a.flags k = true then [digit k] else [])) := Lib.hid rfl
      generalize digit k = r at *
      have hcv : 48 + r - 48 = r := by omega
      generalize hw3 : wr.iterAt (B + 1) digs (k + 1) = w3 at *
      have c2 : w3.cell? ⟨w.heap.size, 2, none⟩ = some (.int .i64 a.flags) := Blk.cell hcells.out 2
      clear hw3
      cases hbb : bitAt a.flags k with
      | true =>
        rw [hbb] at hbt
        have HN : Hid (0 :: flagsUpto a.flags (k + 1) = (0 :: flagsUpto a.flags k) ++ [r]) := Lib.hid (by rw [HN1.out, hbb]; rfl)
        have HN2 : Hid ((flagsUpto a.flags (k + 1)).length.succ = (flagsUpto a.flags k).length.succ + 1) := Lib.hid (by rw [HN1.out, hbb]; simp)
        clear hbb HN1
        go_wp2_with fail
        go_quiet (fail)
        have HO3 := Lib.hid (own_drewN own2 nq)
        have HI3 : Hid ((w3.drewN nq).heap[B + 1]? = some (.stringIter digs (k + 1))) := hit2
        have HB3 := Lib.hid (below_drewN hbl2 nq)
        have hz3 : B ≤ (w3.drewN nq).heap.size := hz2
        clear c2 hW hbt own2 hit2 hbl2
        go_wp2_with (at_builtin; refine wp_append_ints rfl rfl B u5 _ (0 :: flagsUpto a.flags k) rfl (HO3.out.alloc _) _ 1 [r] rfl (Src.one _ _ _ _) (by have := HL.out; omega) (by simp at hz3 ⊢; omega) ?_; intro v1 w4 ho1 hg1 hat1)
        have hb4 := below_own (HB3.out.alloc hz3 _) hg1 (by simp at hz3 ⊢; omega) (HO3.out.alloc _)
        have HI4 : Hid (w4.heap[B + 1]? = some (.stringIter digs (k + 1))) := Lib.hid ((hg1.block (B + 1) (Blk.lt (old_alloc HI3.out _)) (iter_not_own HO3.out HI3.out)).trans (old_alloc HI3.out _))
        have HIP4 : Hid (w4.iterPos (B + 1) = k + 1) := Lib.hid (by simp [World.iterPos, HI4.out])
        go_roundw
        case rel => exact ⟨k + 1, by omega, by rw [HN.out, HN2.out]; exact ho1, HI4, hb4⟩
        case measure => rw [HIP4.out, HIP.out]; omega
      | false =>
        rw [hbb] at hbt
        have HN : Hid (flagsUpto a.flags (k + 1) = flagsUpto a.flags k) := Lib.hid (by rw [HN1.out, hbb]; simp)
        clear hbb HN1
        go_wp2_with fail
        go_quiet (fail)
        have HO3 := Lib.hid (own_drewN own2 nq)
        have HI3 : Hid ((w3.drewN nq).heap[B + 1]? = some (.stringIter digs (k + 1))) := hit2
        have HB3 := Lib.hid (below_drewN hbl2 nq)
        have HIP4 : Hid ((w3.drewN nq).iterPos (B + 1) = k + 1) := Lib.hid (by unfold World.iterPos; rw [HI3.out])
        clear c2 hW hbt own2 hit2 hbl2
        go_wp2_with fail
        go_roundw
        case rel => exact ⟨k + 1, by omega, by rw [HN.out]; exact HO3.out, HI3, HB3.out⟩
        case measure => rw [HIP4.out, HIP.out]; omega
    · obtain rfl : k = 8 := by omega
      have hnx : ∀ ty, (Instr.next (.pointer (some ⟨B + 1, 0, none⟩)) true ty).run Try.prog wr = .ok (.tuple #[.bool false]) wr := fun ty => Lib.run_next_end_at wr (B + 1) digs 8 ty HI.out (by decide)
      have HA3 : Hid (wr.heap[w.heap.size]? = some (.cells #[.int .i64 a.fg, .int .i64 a.bg, .int .i64 a.flags] 29 (0, 0))) := Lib.hid (Blk.kept HAB.out (by rw [HZ.out]; exact hbl))
      have c0 : wr.cell? ⟨w.heap.size, 0, none⟩ = some (.int .i64 a.fg) := Blk.cell HA3.out 0
      go_wp2_with fail
      refine (colour_any a.fg 0 u5 (0 :: flagsUpto a.flags 8) B _ hown (by have := HL.out; simp; omega) hzr hr1 hr2 (by decide) (by decide)).mono ?_
      rintro e w4 ⟨v1, rfl, ho1, hb4⟩
      have hbB := hbl.trans hb4
      have z4 := hb4.size
      have HA4 : Hid (w4.heap[w.heap.size]? = some (.cells #[.int .i64 a.fg, .int .i64 a.bg, .int .i64 a.flags] 29 (0, 0))) := Lib.hid (Blk.kept HAB.out (by rw [HZ.out]; exact hbB))
      have c1 : w4.cell? ⟨w.heap.size, 1, none⟩ = some (.int .i64 a.bg) := Blk.cell HA4.out 1
      have HF1 := Lib.hid (formOf_len a.fg 0)
      have HBB := Lib.hid hbB
      clear c0 hnx hb4 hbB
      go_wp2_with fail
      refine (colour_any a.bg 10 v1 (0 :: flagsUpto a.flags 8 ++ formOf a.fg 0) B _ ho1 (by have := HL.out; have := HF1.out; simp; omega) (by omega) hr3 hr4 (by decide) (by decide)).mono ?_
      rintro e w5 ⟨v2, rfl, ho2, hb5⟩
      go_wp2_with fail
      go_ret2
      have e : lineOf a = 0 :: flagsUpto a.flags 8 ++ formOf a.fg 0 ++ formOf a.bg 10 := by unfold lineOf; simp
      refine ⟨v2, rfl, ?_, HB.out.trans ((HBB.out.trans hb5).mono (by omega))⟩
      rw [e]
      exact Blk.low ho2 (by omega)
/-- Line. -/
theorem line_any (a : Look) (b : Bool) (hb : attrOk a = b) (w : World) : Calls Try.prog 8 #[.agg #[.int .i64 a.fg, .int .i64 a.bg, .int .i64 a.flags]] w (Lined w (bif b then lineOf a else []) (bif b then 0 else 1)) := by
  cases b with
  | false => exact line_bad a hb w
  | true => exact line_good a hb w
end Sd
end Go.Proofs.Ytabplmhmanbmjaa
