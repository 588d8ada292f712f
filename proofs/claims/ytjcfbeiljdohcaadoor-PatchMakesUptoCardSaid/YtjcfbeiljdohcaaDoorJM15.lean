/- Joined texts: ScrSmall, ScrText, PatRefA. -/
import Derived.Test.YtjcfbeiljdohcaaDoorJM10
import Derived.Test.YtjcfbeiljdohcaaDoorJM14
namespace Go.Proofs.YtjcfbeiljdohcaaDoor
set_option maxRecDepth 100000
section
open Go.RowKit
namespace Scr
open Go.Proofs.YtjcfbeiljdohcaaDoor.Row Wid
theorem in_any (n lo hi : Int) (w : World) : Calls Tryd.prog 73 #[.int .i64 n, .int .i64 lo, .int .i64 hi] w fun e w' => e = .returned (.bool (rng n lo hi)) ∧ w = w' := by
  by_cases h : lo ≤ n
  · by_cases k : n ≤ hi
    · have H : Hid (rng n lo hi = true) := Lib.hid (by unfold rng; rw [decide_eq_true h, decide_eq_true k]; rfl)
      go_enter Tryd.func73, Tryd.ntmps73
      go_wp2_with fail
      go_ret
      exact ⟨ret_bool H.out.symm, rfl⟩
    · have H : Hid (rng n lo hi = false) := Lib.hid (by unfold rng; rw [decide_eq_false k, Bool.and_false])
      have hd : decide (n ≤ hi) = false := decide_eq_false k
      go_enter Tryd.func73, Tryd.ntmps73
      go_wp2_with fail
      go_ret
      exact ⟨ret_bool H.out.symm, rfl⟩
  · have H : Hid (rng n lo hi = false) := Lib.hid (by unfold rng; rw [decide_eq_false h, Bool.false_and])
    have hd : decide (lo ≤ n) = false := decide_eq_false h
    go_enter Tryd.func73, Tryd.ntmps73
    go_wp2_with fail
    go_ret
    exact ⟨ret_bool H.out.symm, rfl⟩
theorem isSet_any (n : Int) (w : World) : Calls Tryd.prog 82 #[.int .i64 n] w fun e w' => e = .returned (.bool (rng n 0 1)) ∧ w = w' := by
  by_cases h : n = 0
  · subst h
    go_enter Tryd.func82, Tryd.ntmps82
    go_wp2_with fail
    go_ret
    exact ⟨rfl, rfl⟩
  · by_cases k : n = 1
    · subst k
      go_enter Tryd.func82, Tryd.ntmps82
      go_wp2_with fail
      go_ret
      exact ⟨rfl, rfl⟩
    · have H : Hid (rng n 0 1 = false) := Lib.hid (rngN (by omega))
      have h0 : (n == 0) = false := by rw [beq_eq_false_iff_ne]; exact h
      have h1 : (n == 1) = false := by rw [beq_eq_false_iff_ne]; exact k
      clear h k
      go_enter Tryd.func82, Tryd.ntmps82
      go_wp2_with fail
      go_ret
      exact ⟨ret_bool H.out.symm, rfl⟩
theorem plain_any (w : World) : Calls Tryd.prog 55 #[] w fun e w' => e = .returned (.agg #[.int .i64 plain.fg, .int .i64 plain.bg, .int .i64 plain.flags]) ∧ Below w.heap.size w w' := by
  go_enter Tryd.func55, Tryd.ntmps55
  go_wp2_with fail
  go_returns
  exact ⟨rfl, by repeat (first | exact Below.refl _ _ | refine Below.alloc ?_ (Nat.le_refl _) _ | refine Below.alloc ?_ (by simp) _ | refine Below.setCell ?_ (by simp) _)⟩
set_option maxHeartbeats 800000 in
theorem margins_any (top bottom rows : Int) (w : World) : Calls Tryd.prog 71 #[.agg #[.int .i64 top, .int .i64 bottom], .int .i64 rows] w fun e w' => e = .returned (.bool (marginsB top bottom rows)) ∧ Below w.heap.size w w' := by
  have HB : Hid (Below w.heap.size w (w.alloc (.cells #[.int .i64 top, .int .i64 bottom] 130))) := Lib.hid ((Below.refl _ _).alloc (Nat.le_refl _) _)
  by_cases hr : rows = 1
  · subst hr
    have H : Hid (marginsB top bottom 1 = (top == 0 && bottom == 0)) := Lib.hid (by unfold marginsB; rw [if_pos rfl])
    cases h0 : (top == 0)
    all_goals
      cases h1 : (bottom == 0)
      all_goals
        rw [h0, h1] at H
        go_enter Tryd.func71, Tryd.ntmps71
        go_wp2_with fail
        go_ret
        exact ⟨ret_bool H.out.symm, HB.out⟩
  · have H : Hid (marginsB top bottom rows = (decide (0 ≤ top) && (decide (top < bottom) && decide (bottom < rows)))) := Lib.hid (by unfold marginsB; rw [if_neg hr])
    have hr0 : (rows == 1) = false := by rw [beq_eq_false_iff_ne]; exact hr
    clear hr
    by_cases h0 : 0 ≤ top
    · by_cases h1 : top < bottom
      · by_cases h2 : bottom < rows
        · rw [decide_eq_true h0, decide_eq_true h1, decide_eq_true h2] at H
          go_enter Tryd.func71, Tryd.ntmps71
          go_wp2_with fail
          go_ret
          exact ⟨ret_bool H.out.symm, HB.out⟩
        · rw [decide_eq_false h2, Bool.and_false, Bool.and_false] at H
          have hd : decide (bottom < rows) = false := decide_eq_false h2
          go_enter Tryd.func71, Tryd.ntmps71
          go_wp2_with fail
          go_ret
          exact ⟨ret_bool H.out.symm, HB.out⟩
      · rw [decide_eq_false h1, Bool.false_and, Bool.and_false] at H
        have hd : decide (top < bottom) = false := decide_eq_false h1
        go_enter Tryd.func71, Tryd.ntmps71
        go_wp2_with fail
        go_ret
        exact ⟨ret_bool H.out.symm, HB.out⟩
    · rw [decide_eq_false h0, Bool.false_and] at H
      have hd : decide (0 ≤ top) = false := decide_eq_false h0
      go_enter Tryd.func71, Tryd.ntmps71
      go_wp2_with fail
      go_ret
      exact ⟨ret_bool H.out.symm, HB.out⟩
theorem rowFits_any (l : List Cl) (b : Bool) (x : Value) (w : World) (hx : Rm w x l) (hs : Held l) (hb : b = true ↔ GridOk ⟨1, l.length, l⟩) :
    Calls Tryd.prog 83 #[x] w fun e w' => e = .returned (.bool b) ∧ Below w.heap.size w w' := by
  have HC := Lib.hid (gridCheck_any ⟨1, l.length, l⟩ b x w hx hs hb)
  obtain ⟨A, c, rfl, _⟩ := hx.2
  clear hx hs hb
  simp only at HC
  generalize l.length = n at HC ⊢
  go_enter Tryd.func83, Tryd.ntmps83
  go_wp2_with fail
  refine HC.out.mono ?_; rintro e w1 ⟨rfl, h1⟩
  cases b
  all_goals
    go_wp2_with fail
    go_ret
    exact ⟨rfl, h1⟩
theorem rowOk_one {c : Cl} : RowOk [c] ↔ kind c = 1 := by
  constructor
  · rintro ⟨_, _, h⟩
    have h0 := h 0 (by simp)
    rcases h0 with h0 | ⟨_, h0, _⟩ | ⟨_, h0, _⟩
    · exact h0
    · simp at h0
    · omega
  · intro h
    refine ⟨by simp, by simp, fun i hi => ?_⟩
    obtain rfl : i = 0 := by simpa using hi
    exact .inl h
theorem gridOk_one {c : Cl} : GridOk ⟨1, ([c].length : Nat), [c]⟩ ↔ kind c = 1 := by
  constructor
  · rintro ⟨_, _, _, h⟩
    exact rowOk_one.1 (h 0 (show (0 : Int) < 1 by decide))
  · intro h
    refine ⟨⟨Int.le_refl _, show (1 : Int) ≤ 40 by decide⟩, ⟨show (1 : Int) ≤ ((1 : Nat) : Int) by decide, show ((1 : Nat) : Int) ≤ 40 by decide⟩, by simp, fun i hi => ?_⟩
    obtain rfl : i = 0 := by have : (i : Int) < 1 := hi; omega
    exact rowOk_one.2 h
theorem kind_look (a : Look) : kind ⟨32, [], 0, a⟩ = 1 ↔ attrOk a = true := by
  constructor
  · intro h
    exact kind_attr (c := ⟨32, [], 0, a⟩) (by rw [h]; decide)
  · intro h
    exact kind_whole (by decide) h
theorem kind_rune (r : Int) : kind ⟨r, [], 0, ⟨0, 0, 0⟩⟩ = 1 ↔ wid r = 1 := by
  constructor
  · intro h
    unfold kind at h
    have e1 : (combOk [] && attrOk ⟨0, 0, 0⟩) = true := by decide
    simp only at h
    rw [e1] at h
    by_cases q : wid r = 1
    · exact q
    · exfalso
      rw [decide_eq_false q] at h
      simp [isSec] at h
  · intro h
    exact kind_whole h (by decide)
theorem rowOk_two (r : Int) : RowOk [⟨r, [], 1, ⟨0, 0, 0⟩⟩, ⟨0, [], 2, ⟨0, 0, 0⟩⟩] ↔ wid r = 2 := by
  constructor
  · rintro ⟨_, _, h⟩
    have h0 := h 0 (by simp)
    have hg : g [⟨r, [], 1, ⟨0, 0, 0⟩⟩, ⟨0, [], 2, ⟨0, 0, 0⟩⟩] 0 = ⟨r, [], 1, ⟨0, 0, 0⟩⟩ := rfl
    unfold okAt at h0
    rw [hg] at h0
    rcases h0 with h0 | ⟨h0, _⟩ | ⟨_, h0, _⟩
    · have h1 : (1 : Int) = 0 := kind_1 h0
      exact absurd h1 (by decide)
    · unfold kind at h0
      have e1 : (combOk [] && attrOk ⟨0, 0, 0⟩) = true := by decide
      simp only at h0
      rw [e1] at h0
      by_cases q : wid r = 2
      · exact q
      · exfalso
        rw [decide_eq_false q] at h0
        simp [isSec] at h0
    · omega
  · intro h
    refine ⟨by simp, by simp, fun i hi => ?_⟩
    have hi : i = 0 ∨ i = 1 := by simp at hi; omega
    rcases hi with rfl | rfl
    · exact .inr (.inl ⟨kind_first h (by decide), by simp, rfl⟩)
    · exact .inr (.inr ⟨kind_sec (by decide), by decide, rfl⟩)
theorem gridOk_two (r : Int) : GridOk ⟨1, ([(⟨r, [], 1, ⟨0, 0, 0⟩⟩ : Cl), ⟨0, [], 2, ⟨0, 0, 0⟩⟩].length : Nat), [⟨r, [], 1, ⟨0, 0, 0⟩⟩, ⟨0, [], 2, ⟨0, 0, 0⟩⟩]⟩ ↔ wid r = 2 := by
  constructor
  · rintro ⟨_, _, _, h⟩
    exact (rowOk_two r).1 (h 0 (show (0 : Int) < 1 by decide))
  · intro h
    refine ⟨⟨Int.le_refl _, show (1 : Int) ≤ 40 by decide⟩, ⟨show (1 : Int) ≤ ((2 : Nat) : Int) by decide, show ((2 : Nat) : Int) ≤ 40 by decide⟩, by simp, fun i hi => ?_⟩
    obtain rfl : i = 0 := by have : (i : Int) < 1 := hi; omega
    exact (rowOk_two r).2 h
end Scr
end
section
open Go.RowKit
namespace Scr
open Go.Proofs.YtjcfbeiljdohcaaDoor.Row Utf Wid
theorem dsize (t : List UInt8) : (⟨t.toArray⟩ : ByteArray).size = t.length := by show t.toArray.size = _; simp
theorem plainN_enough : ∀ (n : Nat) (l : List UInt8), l.length ≤ n → plainN n l = plainN l.length l := fun n l h => by rw [plain_iff n l h, plain_iff l.length l (Nat.le_refl _)]
theorem plainN_step {l : List UInt8} (h : l ≠ []) : plainN l.length l = (decide (32 ≤ (Utf.dec l).1) && plainN (l.drop (Utf.dec l).2).length (l.drop (Utf.dec l).2)) := by
  have h1 := dec_pos h
  obtain ⟨m, hm⟩ : ∃ m, l.length = m + 1 := ⟨l.length - 1, by have : l.length ≠ 0 := fun e => h (List.eq_nil_of_length_eq_zero e); omega⟩
  rw [hm]
  simp only [plainN, if_neg h]
  rw [plainN_enough m _ (by rw [List.length_drop]; omega)]
set_option maxHeartbeats 1600000 in
theorem titleLoop (s : ByteArray) (w : World) (hs : s.size ≤ 64) (hv : Lib.validD s.data.toList = true) (hT : Tabs w) :
    Calls Tryd.prog 74 #[.string s] w fun e w' => e = .returned (.bool (plainN s.data.toList.length s.data.toList)) ∧ Below w.heap.size w w' := by
  have HV := Lib.hid (valid_any s w (by omega) hT)
  rw [hv] at HV
  clear hv hT
  go_enter Tryd.func74, Tryd.ntmps74
  go_wp2_with fail
  refine HV.out.mono ?_; rintro e w0 ⟨rfl, hb0⟩
  have HB0 := Lib.hid hb0
  clear hb0 HV
  go_wp2_with fail
  go_loopw [] (fun wr => ∃ pos : Nat, pos ≤ s.size ∧ Hid (plainN (s.data.toList.drop pos).length (s.data.toList.drop pos) = plainN s.data.toList.length s.data.toList) ∧ Hid (wr.heap[w0.heap.size]? = some (.stringIter s pos)) ∧ Hid (Below w.heap.size w wr) ∧ Hid (w0.heap.size < wr.heap.size)) (fun wr => s.size - wr.iterPos w0.heap.size)
  case atStart => exact ⟨0, by omega, Lib.hid (by rw [List.drop_zero]), Lib.hid (World.iter_heap _ _ _), Lib.hid (HB0.out.trans (Utf.below_iter (Below.refl _ _) (by exact HB0.out.size) _ _)), Lib.hid (by have := (Array.getElem?_eq_some_iff.1 (World.iter_heap w0 s 0)).1; exact this)⟩
  case round =>
    obtain ⟨pos, hpos, HT, HI, hbl, HZ⟩ := hrel
    by_cases hp : pos < s.size
    · have hnx : ∀ ty, (Instr.next (.pointer (some ⟨w0.heap.size, 0, none⟩)) true ty).run Tryd.prog wr = _ := fun ty => Lib.run_next_any_at wr w0.heap.size s pos ty HI.out hp
      have HIP : Hid (wr.iterPos w0.heap.size = pos) := Lib.hid (by simp [World.iterPos, HI.out])
      rw [Utf.dec_at] at hnx
      have hstep := plainN_step (Utf.drop_ne hp)
      rw [List.drop_drop] at hstep
      have hle := dec_le (Utf.drop_ne hp)
      have h1 := dec_pos (Utf.drop_ne hp)
      have hsm := Utf.dec_small (s.data.toList.drop pos)
      rw [List.length_drop, show s.data.toList.length = s.size from rfl] at hle
      obtain ⟨d, hD⟩ : ∃ d, Utf.dec (s.data.toList.drop pos) = d := ⟨_, rfl⟩
      rw [hD] at hnx hstep hle h1 hsm
      clear hD
      have HS := Lib.hid hstep
      clear hstep
      have hit2 := Lib.iterAt_heap wr w0.heap.size s pos (pos + d.2) HI.out
      have HIT2 := Lib.hid hit2
      have hIP2 : Hid ((wr.iterAt w0.heap.size s (pos + d.2)).iterPos w0.heap.size = pos + d.2) := Lib.hid (by simp [World.iterPos, hit2])
      have HBL2 : Hid (Below w.heap.size w (wr.iterAt w0.heap.size s (pos + d.2))) := Lib.hid (Lib.below_iterAt hbl.out HB0.out.size _ _)
      have HSZ : Hid (w0.heap.size < (wr.iterAt w0.heap.size s (pos + d.2)).heap.size) := Lib.hid (Array.getElem?_eq_some_iff.1 hit2).1
      clear hit2
      by_cases h32 : 32 ≤ d.1
      · have hlt : decide ((d.1 : Int) < 32) = false := decide_eq_false (by omega)
        go_wp2_with fail
        go_roundw
        case rel => exact ⟨pos + d.2, by omega, Lib.hid (by rw [← HT.out, HS.out, decide_eq_true h32, Bool.true_and]), HIT2, HBL2, HSZ⟩
        case measure => rw [hIP2.out, HIP.out]; omega
      · have hlt : decide ((d.1 : Int) < 32) = true := decide_eq_true (by omega)
        go_wp2_with fail
        go_ret
        exact ⟨ret_bool (by rw [← HT.out, HS.out, decide_eq_false h32, Bool.false_and]), HBL2.out⟩
    · have hnx : ∀ ty, (Instr.next (.pointer (some ⟨w0.heap.size, 0, none⟩)) true ty).run Tryd.prog wr = _ := fun ty => Lib.run_next_end_at wr w0.heap.size s pos ty HI.out hp
      have HE : Hid (plainN s.data.toList.length s.data.toList = true) := Lib.hid (by
        have h := HT.out
        rw [List.drop_eq_nil_of_le (by show s.size ≤ pos; omega)] at h
        rw [← h]; rfl)
      go_wp2_with fail
      go_ret
      exact ⟨ret_bool HE.out.symm, hbl.out⟩
set_option maxHeartbeats 800000 in
theorem title_any (t : List UInt8) (w : World) (ht : t.length ≤ 1152921504606846976) (hT : Tabs w) : Calls Tryd.prog 74 #[.string ⟨t.toArray⟩] w fun e w' => e = .returned (.bool (titleB t)) ∧ Below w.heap.size w w' := by
  have hsz : (⟨t.toArray⟩ : ByteArray).size = t.length := dsize t
  have hdl : (⟨t.toArray⟩ : ByteArray).data.toList = t := rfl
  by_cases h64 : t.length ≤ 64
  · by_cases hv : Lib.validD t = true
    · have HE : titleB t = plainN t.length t := by unfold titleB; rw [decide_eq_true h64, hv, Bool.true_and, Bool.true_and, plain_iff _ _ (Nat.le_refl _)]
      rw [HE]
      exact titleLoop ⟨t.toArray⟩ w (by omega) hv hT
    · have hv : Lib.validD t = false := by simpa using hv
      have HE : Hid (titleB t = false) := Lib.hid (by unfold titleB; rw [hv, Bool.false_and, Bool.and_false])
      have HV := Lib.hid (valid_any ⟨t.toArray⟩ w (by omega) hT)
      rw [hdl, hv] at HV
      clear hv hT hdl
      generalize (⟨t.toArray⟩ : ByteArray) = s at HV hsz ⊢
      go_enter Tryd.func74, Tryd.ntmps74
      have hs64 : s.size ≤ 64 := by omega
      clear hsz h64
      go_wp2_with fail
      refine HV.out.mono ?_; rintro e w0 ⟨rfl, hb0⟩
      go_wp2_with fail
      go_ret
      exact ⟨ret_bool HE.out.symm, hb0⟩
  · have HE : Hid (titleB t = false) := Lib.hid (by unfold titleB; rw [decide_eq_false h64, Bool.false_and])
    clear hT hdl
    generalize (⟨t.toArray⟩ : ByteArray) = s at hsz ⊢
    have hs64 : ¬ s.size ≤ 64 := by omega
    clear hsz h64
    go_enter Tryd.func74, Tryd.ntmps74
    go_wp2_with fail
    go_ret
    exact ⟨ret_bool HE.out.symm, Below.refl _ _⟩
set_option maxHeartbeats 800000 in
theorem refTitle_any (t : List UInt8) (w : World) (ht : t.length ≤ 1000000000) (hT : Tabs w) : Calls Tryd.prog 15 #[.string ⟨t.toArray⟩] w fun e w' => e = .returned (.bool (titleB t)) ∧ Below w.heap.size w w' := by
  have hsz : (⟨t.toArray⟩ : ByteArray).size = t.length := dsize t
  have hdl : (⟨t.toArray⟩ : ByteArray).data.toList = t := rfl
  have HV := Lib.hid (valid_any ⟨t.toArray⟩ w (by omega) hT)
  rw [hdl] at HV
  clear hT
  generalize (⟨t.toArray⟩ : ByteArray) = s at HV hsz hdl ⊢
  subst hdl
  have hs : s.size ≤ 1000000000 := by omega
  have HSZ := Lib.hid hsz
  clear hsz ht
  go_enter Tryd.func15, Tryd.ntmps15
  go_wp2_with fail
  go_loopw [3] (fun i wr => ∃ k : Nat, k ≤ s.size ∧ k ≤ 65 ∧ i = .int .i64 k ∧ Hid ((s.data.toList.take k).all (fun b => decide (32 ≤ b.toNat)) = true) ∧ wr = w) (fun i _ => s.size - (intOf i).toNat)
  case atStart => exact ⟨0, by omega, by omega, rfl, Lib.hid rfl, rfl⟩
  case round =>
    obtain ⟨k, hk, hk2, rfl, HA, rfl⟩ := hrel
    by_cases hlt : k < s.size
    · by_cases h65 : k ≤ 64
      · have hget : s.data.toList[k]? = some s[k] := by
          rw [List.getElem?_eq_getElem (by have := HSZ.out; omega)]; rfl
        have hT : s.data.toList.take (k + 1) = s.data.toList.take k ++ [s[k]] := by rw [List.take_add_one, hget]; rfl
        by_cases hb : 32 ≤ s[k].toNat
        · have HA2 : Hid ((s.data.toList.take (k + 1)).all (fun b => decide (32 ≤ b.toNat)) = true) := Lib.hid (by
            rw [hT, List.all_append, HA.out]; simpa using hb)
          clear hget hT
          have hd : decide (((s[k].toNat : Nat) : Int) < 32) = false := decide_eq_false (by omega)
          go_wp2_with fail
          go_roundw
          case rel => exact ⟨k + 1, by omega, by omega, by go_num, HA2, trivial⟩
          case measure => simp [intOf]; omega
        · have HE : Hid (titleB s.data.toList = false) := Lib.hid (by
            unfold titleB
            have hall : s.data.toList.all (fun b => decide (32 ≤ b.toNat)) = false := by
              rw [List.all_eq_false]
              exact ⟨s[k], List.mem_of_getElem? hget, by simpa using hb⟩
            rw [hall, Bool.and_false, Bool.and_false])
          clear hget hT
          have hd : decide (((s[k].toNat : Nat) : Int) < 32) = true := decide_eq_true (by omega)
          go_wp2_with fail
          go_ret
          exact ⟨ret_bool HE.out.symm, Below.refl _ _⟩
      · have HE : Hid (titleB s.data.toList = false) := Lib.hid (by unfold titleB; rw [decide_eq_false (by have := HSZ.out; omega), Bool.false_and])
        have hs64 : ¬ s.size ≤ 64 := by omega
        go_wp2_with fail
        go_ret
        exact ⟨ret_bool HE.out.symm, Below.refl _ _⟩
    · have hks : k = s.size := by omega
      subst hks
      have hall : s.data.toList.all (fun b => decide (32 ≤ b.toNat)) = true := by
        have := HA.out
        rwa [List.take_of_length_le (by rw [← HSZ.out]; exact Nat.le_refl _)] at this
      by_cases h64 : s.size ≤ 64
      · have HE : Hid (titleB s.data.toList = Lib.validD s.data.toList) := Lib.hid (by unfold titleB; rw [decide_eq_true (by have := HSZ.out; omega), hall, Bool.true_and, Bool.and_true])
        clear hall
        go_wp2_with fail
        refine HV.out.mono ?_; rintro e w1 ⟨rfl, hb1⟩
        go_wp2_with fail
        go_ret
        exact ⟨ret_bool HE.out.symm, hb1⟩
      · have HE : Hid (titleB s.data.toList = false) := Lib.hid (by unfold titleB; rw [decide_eq_false (by have := HSZ.out; omega), Bool.false_and])
        clear hall
        go_wp2_with fail
        go_ret
        exact ⟨ret_bool HE.out.symm, Below.refl _ _⟩
theorem cs_made (w : World) (l : List Cl) (e : TypeId) (cap : Nat) (arr : Array Value) (h : (flat l).toArray = arr) : Cs (w.alloc (.cells arr e)) (.slice (some ⟨w.heap.size, 0, none⟩) l.length cap) l := by
  subst h
  refine Cs.of (l := l) fun j u hu => ?_
  have hl : (w.alloc (.cells (flat l).toArray e)).heap[w.heap.size]? = some (.cells (flat l).toArray e) := heap_alloc_new _ _
  exact World.news_of_block hl j u (by simpa using hu)
theorem held_one {c : Cl} (h : c.comb = []) : Held [c] := by
  intro i hi
  obtain rfl : i = 0 := by have : i < 1 := hi; omega
  show c.comb.length ≤ _
  rw [h]; exact Nat.zero_le _
theorem held_two {c d : Cl} (h : c.comb = []) (h' : d.comb = []) : Held [c, d] := by
  intro i hi
  have : i = 0 ∨ i = 1 := by have : i < 2 := hi; omega
  rcases this with rfl | rfl
  · show c.comb.length ≤ _
    rw [h]; exact Nat.zero_le _
  · show d.comb.length ≤ _
    rw [h']; exact Nat.zero_le _
theorem runeFits (r : Int) (W : World) (b : Bool) (hb : (wid r == 1) = b) : Calls Tryd.prog 83 #[.slice (some ⟨W.heap.size, 0, none⟩) 1 1] (W.alloc (.cells #[.int .i64 r, .string ⟨#[]⟩, .int .i64 0, .int .i64 0, .int .i64 0, .int .i64 0] 63))
    fun e w' => e = .returned (.bool b) ∧ Below W.heap.size W w' := by
  have h := rowFits_any [⟨r, [], 0, ⟨0, 0, 0⟩⟩] b (.slice (some ⟨W.heap.size, 0, none⟩) 1 1) (W.alloc (.cells #[.int .i64 r, .string ⟨#[]⟩, .int .i64 0, .int .i64 0, .int .i64 0, .int .i64 0] 63))
    ⟨Cs.one W ⟨r, [], 0, ⟨0, 0, 0⟩⟩ _ 1 _ rfl, _, _, rfl, Nat.le_refl _⟩ (held_one rfl) (by rw [← hb, gridOk_one, kind_rune, beq_iff_eq])
  exact h.mono fun e w' h => ⟨h.1, (((Below.refl W.heap.size W).alloc (Nat.le_refl _) _)).trans (h.2.mono (by simp))⟩
theorem wideFits (r : Int) (W : World) (b : Bool) (hb : (wid r == 2) = b) : Calls Tryd.prog 83 #[.slice (some ⟨W.heap.size, 0, none⟩) 2 2]
    (W.alloc (.cells #[.int .i64 r, .string ⟨#[]⟩, .int .i64 1, .int .i64 0, .int .i64 0, .int .i64 0, .int .i64 0, .string ⟨#[]⟩, .int .i64 2, .int .i64 0, .int .i64 0, .int .i64 0] 63)) fun e w' => e = .returned (.bool b) ∧ Below W.heap.size W w' := by
  have h := rowFits_any [⟨r, [], 1, ⟨0, 0, 0⟩⟩, ⟨0, [], 2, ⟨0, 0, 0⟩⟩] b (.slice (some ⟨W.heap.size, 0, none⟩) 2 2)
    (W.alloc (.cells #[.int .i64 r, .string ⟨#[]⟩, .int .i64 1, .int .i64 0, .int .i64 0, .int .i64 0, .int .i64 0, .string ⟨#[]⟩, .int .i64 2, .int .i64 0, .int .i64 0, .int .i64 0] 63))
    ⟨cs_made W [⟨r, [], 1, ⟨0, 0, 0⟩⟩, ⟨0, [], 2, ⟨0, 0, 0⟩⟩] _ 2 _ rfl, _, _, rfl, Nat.le_refl _⟩ (held_two rfl rfl) (by rw [← hb, gridOk_two, beq_iff_eq])
  exact h.mono fun e w' h => ⟨h.1, (((Below.refl W.heap.size W).alloc (Nat.le_refl _) _)).trans (h.2.mono (by simp))⟩
set_option maxHeartbeats 800000 in
theorem lastFits_any (r : Int) (w : World) : Calls Tryd.prog 75 #[.int .i64 r] w fun e w' => e = .returned (.bool (lastB r)) ∧ Below w.heap.size w w' := by
  by_cases h0 : r = 0
  · subst h0
    go_enter Tryd.func75, Tryd.ntmps75
    go_wp2_with fail
    go_ret
    exact ⟨rfl, Below.refl _ _⟩
  · have h00 : (r == 0) = false := by rw [beq_eq_false_iff_ne]; exact h0
    clear h0
    cases h1 : (wid r == 1)
    · have HE : Hid (lastB r = (wid r == 2)) := Lib.hid (by unfold lastB; rw [h00, h1]; rfl)
      have H1 := Lib.hid h1
      clear h1
      cases h2 : (wid r == 2)
      all_goals
        have H2 := Lib.hid h2
        rw [h2] at HE
        clear h2
        go_enter Tryd.func75, Tryd.ntmps75
        go_wp2_with fail
        refine (runeFits r w _ H1.out).mono ?_; rintro e w1 ⟨rfl, hb1⟩
        have HB1 := Lib.hid hb1
        clear hb1
        go_wp2_with fail
        refine (wideFits r w1 _ H2.out).mono ?_; rintro e w2 ⟨rfl, hb2⟩
        have HB2 : Hid (Below w.heap.size w w2) := Lib.hid (HB1.out.trans (hb2.mono HB1.out.size))
        clear hb2
        go_wp2_with fail
        go_ret
        exact ⟨ret_bool HE.out.symm, HB2.out⟩
    · have HE : Hid (lastB r = true) := Lib.hid (by unfold lastB; rw [h1, Bool.true_or, Bool.or_true])
      have H1 := Lib.hid h1
      clear h1
      go_enter Tryd.func75, Tryd.ntmps75
      go_wp2_with fail
      refine (runeFits r w _ H1.out).mono ?_; rintro e w1 ⟨rfl, hb1⟩
      go_wp2_with fail
      go_ret
      exact ⟨ret_bool HE.out.symm, hb1⟩
end Scr
end
section
open Go.RowKit
namespace Pat
open Go.Proofs.YtjcfbeiljdohcaaDoor.Row Go.Proofs.YtjcfbeiljdohcaaDoor.Scr Agb
theorem rng_no {n lo hi : Int} : Row.rng n lo hi = false ↔ ¬ (lo ≤ n ∧ n ≤ hi) := by rw [← rng_yes]; cases Row.rng n lo hi <;> simp
theorem pnum_any (n hi : Int) (w : World) : Calls Tryd.prog 14 #[.int .i64 n, .int .i64 hi] w fun e w' => e = .returned (.bool (Row.rng n 0 hi)) ∧ w = w' := by
  by_cases h : 0 ≤ n
  · by_cases k : n ≤ hi
    · have H : Hid (Row.rng n 0 hi = true) := Lib.hid (rng_yes.2 ⟨h, k⟩)
      go_enter Tryd.func14, Tryd.ntmps14
      go_wp2_with fail
      go_ret
      exact ⟨ret_bool H.out.symm, rfl⟩
    · have H : Hid (Row.rng n 0 hi = false) := Lib.hid (rng_no.2 fun q => k q.2)
      have hd : decide (n ≤ hi) = false := decide_eq_false k
      go_enter Tryd.func14, Tryd.ntmps14
      go_wp2_with fail
      go_ret
      exact ⟨ret_bool H.out.symm, rfl⟩
  · have H : Hid (Row.rng n 0 hi = false) := Lib.hid (rng_no.2 fun q => h q.1)
    have hd : decide (0 ≤ n) = false := decide_eq_false h
    go_enter Tryd.func14, Tryd.ntmps14
    go_wp2_with fail
    go_ret
    exact ⟨ret_bool H.out.symm, rfl⟩
def TellsP (f : FuncId) (args : Array Value) (b : Bool) : Prop := ∀ W, Calls Tryd.prog f args W fun e w' => e = .returned (.bool b) ∧ W = w'
def TellsB (f : FuncId) (args : Array Value) (b : Bool) (w0 : World) : Prop := ∀ W, Below w0.heap.size w0 W → Calls Tryd.prog f args W fun e w' => e = .returned (.bool b) ∧ Below W.heap.size W w'
theorem ret_bool2 {a b : Bool} (h : a = b) : Ending.returned (.bool a) = .returned (.bool b) := by rw [h]
set_option maxHeartbeats 1600000 in
theorem refView_t (R C p q m : Int) (t : List UInt8) (l : List Cl) (A : Option Addr) (c : Nat) (gb tb : Bool) (w : World)
    (HG : Hid (TellsB 13 #[.agg #[.int .i64 R, .int .i64 C, .slice A l.length c]] gb (w.alloc (.cells #[.int .i64 R, .int .i64 C, .slice A l.length c, .int .i64 p, .int .i64 q, .int .i64 m, .string ⟨t.toArray⟩] 32)))) (HT : Hid (TellsB 15 #[.string ⟨t.toArray⟩] tb w)) (hg : gb = true → 1 ≤ R ∧ R ≤ 40 ∧ 1 ≤ C ∧ C ≤ 40) :
    Calls Tryd.prog 5 #[.agg #[.int .i64 R, .int .i64 C, .slice A l.length c, .int .i64 p, .int .i64 q, .int .i64 m, .string ⟨t.toArray⟩]] w fun e w' => e = .returned (.bool (gb && (Row.rng p 0 (R - 1) && (Row.rng q 0 (C - 1) && (Row.rng m 0 1023 && tb))))) ∧ Below w.heap.size w w' := by
  have HB := Lib.hid ((Below.refl w.heap.size w).alloc (Nat.le_refl _) (.cells #[.int .i64 R, .int .i64 C, .slice A l.length c, .int .i64 p, .int .i64 q, .int .i64 m, .string ⟨t.toArray⟩] 32))
  have HX := Lib.hid (new_alloc w (.cells #[.int .i64 R, .int .i64 C, .slice A l.length c, .int .i64 p, .int .i64 q, .int .i64 m, .string ⟨t.toArray⟩] 32) _ rfl)
  have HP : Hid (TellsP 14 #[.int .i64 p, .int .i64 (R - 1)] (Row.rng p 0 (R - 1))) := Lib.hid (pnum_any _ _)
  have HQ : Hid (TellsP 14 #[.int .i64 q, .int .i64 (C - 1)] (Row.rng q 0 (C - 1))) := Lib.hid (pnum_any _ _)
  have HM : Hid (TellsP 14 #[.int .i64 m, .int .i64 1023] (Row.rng m 0 1023)) := Lib.hid (pnum_any _ _)
  have hw1 : gb = true → IntKind.i64.wrap (R - 1) = R - 1 := fun h => by have := hg h; rw [IntKind.wrap_i64]; omega
  have hw2 : gb = true → IntKind.i64.wrap (C - 1) = C - 1 := fun h => by have := hg h; rw [IntKind.wrap_i64]; omega
  generalize (⟨t.toArray⟩ : ByteArray) = T at *
  generalize Row.rng p 0 (R - 1) = b1 at HP ⊢
  generalize Row.rng q 0 (C - 1) = b2 at HQ ⊢
  generalize Row.rng m 0 1023 = b3 at HM ⊢
  clear hg
  cases gb with
  | false =>
    clear hw1 hw2
    go_enter Tryd.func5, Tryd.ntmps5
    go_wp2_with fail
    refine (HG.out _ (Below.refl _ _)).mono ?_; rintro e w1 ⟨rfl, hb⟩
    have hG := Blk.kept HX.out hb
    have HB1 := Lib.hid (HB.out.trans (hb.mono HB.out.size))
    have c0 : w1.cell? ⟨w.heap.size, 0, none⟩ = some (.int .i64 R) := Blk.cell hG 0
    have c1 : w1.cell? ⟨w.heap.size, 1, none⟩ = some (.int .i64 C) := Blk.cell hG 1
    have c2 : w1.cell? ⟨w.heap.size, 2, none⟩ = some (.slice A l.length c) := Blk.cell hG 2
    have c3 : w1.cell? ⟨w.heap.size, 3, none⟩ = some (.int .i64 p) := Blk.cell hG 3
    have c4 : w1.cell? ⟨w.heap.size, 4, none⟩ = some (.int .i64 q) := Blk.cell hG 4
    have c5 : w1.cell? ⟨w.heap.size, 5, none⟩ = some (.int .i64 m) := Blk.cell hG 5
    have c6 : w1.cell? ⟨w.heap.size, 6, none⟩ = some (.string T) := Blk.cell hG 6
    clear hb hG HX HB
    go_wp2_with fail
    go_ret
    exact ⟨rfl, HB1.out⟩
  | true =>
    have hw1 := hw1 rfl
    have hw2 := hw2 rfl
    cases b1 with
    | false =>
      go_enter Tryd.func5, Tryd.ntmps5
      go_wp2_with fail
      refine (HG.out _ (Below.refl _ _)).mono ?_; rintro e w1 ⟨rfl, hb⟩
      have hG := Blk.kept HX.out hb
      have HB1 := Lib.hid (HB.out.trans (hb.mono HB.out.size))
      have c0 : w1.cell? ⟨w.heap.size, 0, none⟩ = some (.int .i64 R) := Blk.cell hG 0
      have c1 : w1.cell? ⟨w.heap.size, 1, none⟩ = some (.int .i64 C) := Blk.cell hG 1
      have c2 : w1.cell? ⟨w.heap.size, 2, none⟩ = some (.slice A l.length c) := Blk.cell hG 2
      have c3 : w1.cell? ⟨w.heap.size, 3, none⟩ = some (.int .i64 p) := Blk.cell hG 3
      have c4 : w1.cell? ⟨w.heap.size, 4, none⟩ = some (.int .i64 q) := Blk.cell hG 4
      have c5 : w1.cell? ⟨w.heap.size, 5, none⟩ = some (.int .i64 m) := Blk.cell hG 5
      have c6 : w1.cell? ⟨w.heap.size, 6, none⟩ = some (.string T) := Blk.cell hG 6
      clear hb hG HX HB
      go_wp2_with fail
      refine (HP.out _).mono ?_; rintro e w2 ⟨rfl, rfl⟩
      go_wp2_with fail
      go_ret
      exact ⟨rfl, HB1.out⟩
    | true =>
      cases b2 with
      | false =>
        go_enter Tryd.func5, Tryd.ntmps5
        go_wp2_with fail
        refine (HG.out _ (Below.refl _ _)).mono ?_; rintro e w1 ⟨rfl, hb⟩
        have hG := Blk.kept HX.out hb
        have HB1 := Lib.hid (HB.out.trans (hb.mono HB.out.size))
        have c0 : w1.cell? ⟨w.heap.size, 0, none⟩ = some (.int .i64 R) := Blk.cell hG 0
        have c1 : w1.cell? ⟨w.heap.size, 1, none⟩ = some (.int .i64 C) := Blk.cell hG 1
        have c2 : w1.cell? ⟨w.heap.size, 2, none⟩ = some (.slice A l.length c) := Blk.cell hG 2
        have c3 : w1.cell? ⟨w.heap.size, 3, none⟩ = some (.int .i64 p) := Blk.cell hG 3
        have c4 : w1.cell? ⟨w.heap.size, 4, none⟩ = some (.int .i64 q) := Blk.cell hG 4
        have c5 : w1.cell? ⟨w.heap.size, 5, none⟩ = some (.int .i64 m) := Blk.cell hG 5
        have c6 : w1.cell? ⟨w.heap.size, 6, none⟩ = some (.string T) := Blk.cell hG 6
        clear hb hG HX HB
        go_wp2_with fail
        refine (HP.out _).mono ?_; rintro e w2 ⟨rfl, rfl⟩
        go_wp2_with fail
        refine (HQ.out _).mono ?_; rintro e w2 ⟨rfl, rfl⟩
        go_wp2_with fail
        go_ret
        exact ⟨rfl, HB1.out⟩
      | true =>
        cases b3 with
        | false =>
          go_enter Tryd.func5, Tryd.ntmps5
          go_wp2_with fail
          refine (HG.out _ (Below.refl _ _)).mono ?_; rintro e w1 ⟨rfl, hb⟩
          have hG := Blk.kept HX.out hb
          have HB1 := Lib.hid (HB.out.trans (hb.mono HB.out.size))
          have c0 : w1.cell? ⟨w.heap.size, 0, none⟩ = some (.int .i64 R) := Blk.cell hG 0
          have c1 : w1.cell? ⟨w.heap.size, 1, none⟩ = some (.int .i64 C) := Blk.cell hG 1
          have c2 : w1.cell? ⟨w.heap.size, 2, none⟩ = some (.slice A l.length c) := Blk.cell hG 2
          have c3 : w1.cell? ⟨w.heap.size, 3, none⟩ = some (.int .i64 p) := Blk.cell hG 3
          have c4 : w1.cell? ⟨w.heap.size, 4, none⟩ = some (.int .i64 q) := Blk.cell hG 4
          have c5 : w1.cell? ⟨w.heap.size, 5, none⟩ = some (.int .i64 m) := Blk.cell hG 5
          have c6 : w1.cell? ⟨w.heap.size, 6, none⟩ = some (.string T) := Blk.cell hG 6
          clear hb hG HX HB
          go_wp2_with fail
          refine (HP.out _).mono ?_; rintro e w2 ⟨rfl, rfl⟩
          go_wp2_with fail
          refine (HQ.out _).mono ?_; rintro e w2 ⟨rfl, rfl⟩
          go_wp2_with fail
          refine (HM.out _).mono ?_; rintro e w2 ⟨rfl, rfl⟩
          go_wp2_with fail
          go_ret
          exact ⟨rfl, HB1.out⟩
        | true =>
          go_enter Tryd.func5, Tryd.ntmps5
          go_wp2_with fail
          refine (HG.out _ (Below.refl _ _)).mono ?_; rintro e w1 ⟨rfl, hb⟩
          have hG := Blk.kept HX.out hb
          have HB1 := Lib.hid (HB.out.trans (hb.mono HB.out.size))
          have c0 : w1.cell? ⟨w.heap.size, 0, none⟩ = some (.int .i64 R) := Blk.cell hG 0
          have c1 : w1.cell? ⟨w.heap.size, 1, none⟩ = some (.int .i64 C) := Blk.cell hG 1
          have c2 : w1.cell? ⟨w.heap.size, 2, none⟩ = some (.slice A l.length c) := Blk.cell hG 2
          have c3 : w1.cell? ⟨w.heap.size, 3, none⟩ = some (.int .i64 p) := Blk.cell hG 3
          have c4 : w1.cell? ⟨w.heap.size, 4, none⟩ = some (.int .i64 q) := Blk.cell hG 4
          have c5 : w1.cell? ⟨w.heap.size, 5, none⟩ = some (.int .i64 m) := Blk.cell hG 5
          have c6 : w1.cell? ⟨w.heap.size, 6, none⟩ = some (.string T) := Blk.cell hG 6
          clear hb hG HX HB
          go_wp2_with fail
          refine (HP.out _).mono ?_; rintro e w2 ⟨rfl, rfl⟩
          go_wp2_with fail
          refine (HQ.out _).mono ?_; rintro e w2 ⟨rfl, rfl⟩
          go_wp2_with fail
          refine (HM.out _).mono ?_; rintro e w2 ⟨rfl, rfl⟩
          go_wp2_with fail
          refine (HT.out _ HB1.out).mono ?_; rintro e w3 ⟨rfl, hb⟩
          have HB3 := Lib.hid (HB1.out.trans (hb.mono HB1.out.size))
          clear hb
          go_wp2_with fail
          go_ret
          exact ⟨by cases tb <;> rfl, HB3.out⟩
theorem refView_any (v : Vw) (x : Value) (w : World) (hx : Rm w x v.g.cells) (hs : Short v.g.cells) (hT : Tabs w) (hl : v.g.cells.length ≤ 1000000) (ht : v.title.length ≤ 1000000000) :
    Calls Tryd.prog 5 #[vagg v x] w fun e w' => e = .returned (.bool (viewB v)) ∧ Below w.heap.size w w' := by
  obtain ⟨A, c, rfl, _⟩ := id hx.2
  have hW : Below w.heap.size w (w.alloc (vbox v (.slice A v.g.cells.length c))) := (Below.refl _ _).alloc (Nat.le_refl _) _
  exact refView_t v.g.rows v.g.cols v.row v.col v.modes v.title v.g.cells A c (gridB v.g) (titleB v.title) w
    (Lib.hid fun W hb => refGrid_any v.g (gridB v.g) _ W ((hx.kept hW).kept hb) hs ((hT.kept hW).kept hb) hl gridB_iff)
    (Lib.hid fun W hb => refTitle_any v.title W ht (hT.kept hb)) (fun h => by have := gridB_iff.1 h; exact ⟨this.1.1, this.1.2, this.2.1.1, this.2.1.2⟩)
end Pat
end
end Go.Proofs.YtjcfbeiljdohcaaDoor
