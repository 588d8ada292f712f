/- The developers' rows: how many marks a text has; what a cell has of its rune. -/
import Derived.Test.YthkfcfmnccfbnaaRowHelp
import Derived.Test.YthkfcfmnccfbnaaRunes
import Derived.Lib.QuietBelow
namespace Go.Proofs.Ythkfcfmnccfbnaa
set_option maxRecDepth 100000
open Go.RowKit
namespace Row
open Utf Wid

def marksV (m : Option Nat) : Value := match m with
  | some n => .tuple #[.int .i64 n, .bool true]
  | none => .tuple #[.int .i64 0, .bool false]
theorem marksV_some (n : Nat) : marksV (some n) = .tuple #[.int .i64 n, .bool true] := rfl
theorem marksV_none : marksV none = .tuple #[.int .i64 0, .bool false] := rfl
set_option maxHeartbeats 800000 in
theorem marks_any (s : ByteArray) (w : World) (hs : s.size ≤ 1152921504606846976) : Calls Try.prog 43 #[.string s] w fun e w' => e = .returned (marksV (marks s.data.toList)) ∧ Below w.heap.size w w' := by
  go_enter Try.func43, Try.ntmps43
  go_wp2_with fail
  go_loopw [2] (fun t wr => ∃ pos n : Nat, pos ≤ s.size ∧ t = .int .i64 n ∧ n ≤ pos ∧ Hid ((marks (s.data.toList.drop pos)).map (· + n) = marks s.data.toList) ∧ Hid (wr.heap[w.heap.size]? = some (.stringIter s pos)) ∧ Below w.heap.size w wr) (fun _ wr => s.size - wr.iterPos w.heap.size)
  case atStart => exact ⟨0, 0, by omega, rfl, by omega, Lib.hid (by rw [List.drop_zero]; cases marks s.data.toList <;> rfl), Lib.hid (World.iter_heap _ _ _), Utf.below_iter (Below.refl _ _) (Nat.le_refl _) _ _⟩
  case round =>
    obtain ⟨pos, n, hpos, rfl, hn, HT, HI, hbl⟩ := hrel
    by_cases hp : pos < s.size
    · have hnx : ∀ ty, (Instr.next (.pointer (some ⟨w.heap.size, 0, none⟩)) true ty).run Try.prog wr = _ := fun ty => Lib.run_next_any_at wr w.heap.size s pos ty HI.out hp
      have HIP : Hid (wr.iterPos w.heap.size = pos) := Lib.hid (by simp [World.iterPos, HI.out])
      rw [Utf.dec_at] at hnx
      have hstep := marks_step (Utf.drop_ne hp)
      rw [List.drop_drop] at hstep
      have hle := dec_le (Utf.drop_ne hp)
      have h1 := dec_pos (Utf.drop_ne hp)
      have hsm := Utf.dec_small (s.data.toList.drop pos)
      rw [List.length_drop, show s.data.toList.length = s.size from rfl] at hle
      obtain ⟨d, hD⟩ : ∃ d, Utf.dec (s.data.toList.drop pos) = d := ⟨_, rfl⟩
      rw [hD] at hnx hstep hle h1 hsm
      clear hD
      have HS := Lib.hid hstep
      clear hstep
      have hit2 := Lib.iterAt_heap wr w.heap.size s pos (pos + d.2) HI.out
      have HIT2 := Lib.hid hit2
      have hIP2 : Hid ((wr.iterAt w.heap.size s (pos + d.2)).iterPos w.heap.size = pos + d.2) := Lib.hid (by simp [World.iterPos, hit2])
      have HBL2 : Hid (Below w.heap.size w (wr.iterAt w.heap.size s (pos + d.2))) := Lib.hid (Lib.below_iterAt hbl (Nat.le_refl _) _ _)
      have HOF := Lib.hid (of_any (d.1 : Int) (wr.iterAt w.heap.size s (pos + d.2)))
      have HSZ : Hid (w.heap.size < (wr.iterAt w.heap.size s (pos + d.2)).heap.size) := Lib.hid (Array.getElem?_eq_some_iff.1 hit2).1
      clear hit2
      by_cases hw0 : wid (d.1 : Int) = 0
      · have HM : Hid (marks (s.data.toList.drop pos) = (marks (s.data.toList.drop (pos + d.2))).map (· + 1)) := Lib.hid (by rw [HS.out, if_pos hw0])
        rw [hw0] at HOF
        go_wp2_with fail
        refine HOF.out.mono ?_; rintro e w1 ⟨rfl, hb1⟩
        have HB1 := Lib.hid hb1
        have HH1 : Hid (w1.heap[w.heap.size]? = some (.stringIter s (pos + d.2))) := Lib.hid (by rw [hb1.block _ HSZ.out]; exact HIT2.out)
        have HIP1 : Hid (w1.iterPos w.heap.size = pos + d.2) := Lib.hid (by simp [World.iterPos, HH1.out])
        have HBW : Hid (Below w.heap.size w w1) := Lib.hid (HBL2.out.trans (hb1.mono HBL2.out.size))
        clear hb1
        go_wp2_with fail
        go_roundw
        case rel => exact ⟨pos + d.2, n + 1, by omega, by go_num, by omega, Lib.hid (by rw [← HT.out, HM.out]; cases marks (s.data.toList.drop (pos + d.2)) <;> simp <;> omega), HH1, HBW.out⟩
        case measure => rw [HIP1.out, HIP.out]; omega
      · have HM : Hid (marks s.data.toList = none) := Lib.hid (by rw [← HT.out, HS.out, if_neg hw0]; rfl)
        have hb1 : (wid (d.1 : Int) != 0) = true := by rw [bne_iff_ne]; exact hw0
        generalize wid (d.1 : Int) = q at HOF hb1
        go_wp2_with fail
        refine HOF.out.mono ?_; rintro e w1 ⟨rfl, hb1⟩
        have HBW : Hid (Below w.heap.size w w1) := Lib.hid (HBL2.out.trans (hb1.mono HBL2.out.size))
        clear hb1
        go_wp2_with fail
        go_ret2
        exact ⟨by rw [HM.out]; rfl, HBW.out⟩
    · have hnx : ∀ ty, (Instr.next (.pointer (some ⟨w.heap.size, 0, none⟩)) true ty).run Try.prog wr = _ := fun ty => Lib.run_next_end_at wr w.heap.size s pos ty HI.out hp
      have HE : Hid (marks s.data.toList = some n) := Lib.hid (by
        have h := HT.out
        rw [List.drop_eq_nil_of_le (by show s.size ≤ pos; omega), marks_nil] at h
        rw [← h]; simp)
      go_wp2_with fail
      go_ret2
      exact ⟨by rw [HE.out]; rfl, hbl⟩

/-- What look hands back of the cell at p. -/
def partV (k : Nat) (p : Addr) : Value :=
  if k = 1 then .iface 83 (.agg #[.pointer (some p)]) else if k = 2 then .iface 78 (.agg #[.pointer (some p)]) else if k = 3 then .iface 81 (.agg #[.pointer (some p)]) else .iface 97 (.agg #[])
@[go_sem] theorem p_ff (v : Value) (w : World) : (Instr.typeAssert (.iface 78 v) 74 78 true).run Try.prog w = .ok (.tuple #[v, .bool true]) w := by kernel_rfl
@[go_sem] theorem p_ss (v : Value) (w : World) : (Instr.typeAssert (.iface 81 v) 74 81 true).run Try.prog w = .ok (.tuple #[v, .bool true]) w := by kernel_rfl
@[go_sem] theorem p_ww (v : Value) (w : World) : (Instr.typeAssert (.iface 83 v) 74 83 true).run Try.prog w = .ok (.tuple #[v, .bool true]) w := by kernel_rfl
@[go_sem] theorem p_wf (v : Value) (w : World) : (Instr.typeAssert (.iface 83 v) 74 78 true).run Try.prog w = .ok (.tuple #[.agg #[.pointer none], .bool false]) w := by kernel_rfl
@[go_sem] theorem p_sf (v : Value) (w : World) : (Instr.typeAssert (.iface 81 v) 74 78 true).run Try.prog w = .ok (.tuple #[.agg #[.pointer none], .bool false]) w := by kernel_rfl
@[go_sem] theorem p_nf (v : Value) (w : World) : (Instr.typeAssert (.iface 97 v) 74 78 true).run Try.prog w = .ok (.tuple #[.agg #[.pointer none], .bool false]) w := by kernel_rfl
@[go_sem] theorem p_ws (v : Value) (w : World) : (Instr.typeAssert (.iface 83 v) 74 81 true).run Try.prog w = .ok (.tuple #[.agg #[.pointer none], .bool false]) w := by kernel_rfl
@[go_sem] theorem p_fs (v : Value) (w : World) : (Instr.typeAssert (.iface 78 v) 74 81 true).run Try.prog w = .ok (.tuple #[.agg #[.pointer none], .bool false]) w := by kernel_rfl
@[go_sem] theorem p_ns (v : Value) (w : World) : (Instr.typeAssert (.iface 97 v) 74 81 true).run Try.prog w = .ok (.tuple #[.agg #[.pointer none], .bool false]) w := by kernel_rfl
@[go_sem] theorem p_nw (v : Value) (w : World) : (Instr.typeAssert (.iface 97 v) 74 83 true).run Try.prog w = .ok (.tuple #[.agg #[.pointer none], .bool false]) w := by kernel_rfl
@[go_sem] theorem p_must (v : Value) (w : World) : (Instr.typeAssert (.iface 78 v) 74 78 false).run Try.prog w = .ok v w := by kernel_rfl
theorem eql_sec (c : Cl) (w : World) : (binOp .eql 39 (cagg c) (cagg (sec c.a))).run Try.prog w = .ok (.bool (isSec c)) w := by
  obtain ⟨r, cb, x, ⟨fg, bg, fl⟩⟩ := c
  have hs : isSec ⟨r, cb, x, ⟨fg, bg, fl⟩⟩ = (decide (r = 0) && (decide (cb = []) && decide (x = 2))) := rfl
  rw [hs]
  by_cases h1 : r = 0
  · by_cases h2 : cb = []
    · by_cases h3 : x = 2
      · simp [cagg, sec, go_sem, h1, h2, h3]
      · simp [cagg, sec, go_sem, h1, h2, h3]
    · simp [cagg, sec, go_sem, h1, h2]
  · simp [cagg, sec, go_sem, h1]

/-- A walk's end at a region that only read, under callees that made blocks. -/
theorem kind_bad {c : Cl} (h : combOk c.comb = false) : kind c = 0 := by unfold kind; rw [h]; rfl
theorem kind_bada {c : Cl} (h : attrOk c.a = false) : kind c = 0 := by unfold kind; rw [h, Bool.and_false]; rfl
theorem kind_fine {c : Cl} (h : combOk c.comb = true) (h2 : attrOk c.a = true) :
    kind c = bif decide (wid c.rune = 1) && decide (c.wide = 0) then 1 else bif decide (wid c.rune = 2) && decide (c.wide = 1) then 2 else bif isSec c then 3 else 0 := by unfold kind; rw [h, h2]; rfl

set_option maxHeartbeats 1600000 in
theorem look_bad (c : Cl) (ad : Addr) (w : World) (hc : At w ad (cvals c)) (hs : c.comb.length ≤ 1152921504606846976) (h : combOk c.comb = false) :
    Calls Try.prog 35 #[.pointer (some ad)] w fun e w' => e = .returned (partV (kind c) ad) ∧ Below w.heap.size w w' := by
  rw [kind_bad h]
  have HMK := Lib.hid (fun w' => marks_any ⟨c.comb.toArray⟩ w' hs)
  obtain ⟨rune, cb, wide, ⟨fg, bg, fl⟩⟩ := c
  have h1 := hc.next 0 rfl
  have hm : marks cb = none ∨ ∃ n, marks cb = some n ∧ 2 < n := by
    have h : combOk cb = false := h
    unfold combOk at h
    cases hm : marks cb with
    | none => exact .inl rfl
    | some n => rw [hm] at h; exact .inr ⟨n, rfl, by have := of_decide_eq_false h; omega⟩
  have hml : ∀ n, marks cb = some n → n ≤ cb.length := fun n e => marks_le _ cb n (Nat.le_refl _) e
  rcases hm with hm | ⟨n, hm, hn⟩
  · have HM : Hid (marks (⟨cb.toArray⟩ : ByteArray).data.toList = none) := Lib.hid hm
    clear hm hml h hc
    go_enter Try.func35, Try.ntmps35
    go_wp2_with fail
    refine (HMK.out _).mono ?_; rw [HM.out, marksV_none]; rintro e w1 ⟨rfl, hb1⟩
    have HB1 := Lib.hid hb1
    clear hb1
    go_wp2_with fail
    go_ret
    exact ⟨rfl, HB1.out⟩
  · have HM : Hid (marks (⟨cb.toArray⟩ : ByteArray).data.toList = some n) := Lib.hid hm
    have hnl := hml n hm
    have hsl : cb.length ≤ 1152921504606846976 := hs
    clear hm hml h hc hs
    go_enter Try.func35, Try.ntmps35
    go_wp2_with fail
    refine (HMK.out _).mono ?_; rw [HM.out, marksV_some]; rintro e w1 ⟨rfl, hb1⟩
    have HB1 := Lib.hid hb1
    clear hb1
    go_wp2_with fail
    go_ret
    exact ⟨rfl, HB1.out⟩
set_option maxHeartbeats 1600000 in
theorem look_bada (c : Cl) (ad : Addr) (w : World) (hc : At w ad (cvals c)) (hs : c.comb.length ≤ 1152921504606846976) (h : combOk c.comb = true) (h2 : attrOk c.a = false) :
    Calls Try.prog 35 #[.pointer (some ad)] w fun e w' => e = .returned (partV (kind c) ad) ∧ Below w.heap.size w w' := by
  rw [kind_bada h2]
  have HMK := Lib.hid (fun w' => marks_any ⟨c.comb.toArray⟩ w' hs)
  have HCK := Lib.hid (fun w' => check_any c.a false h2 w')
  obtain ⟨rune, cb, wide, ⟨fg, bg, fl⟩⟩ := c
  have h1 := hc.next 0 rfl
  have HAT := Lib.hid hc
  have hm : ∃ n, marks cb = some n ∧ n ≤ 2 := by
    have h : combOk cb = true := h
    unfold combOk at h
    cases hm : marks cb with
    | none => rw [hm] at h; cases h
    | some n => rw [hm] at h; exact ⟨n, rfl, of_decide_eq_true h⟩
  obtain ⟨n, hm, hn⟩ := hm
  have HM : Hid (marks (⟨cb.toArray⟩ : ByteArray).data.toList = some n) := Lib.hid hm
  clear hm h hc hs h2
  go_enter Try.func35, Try.ntmps35
  go_wp2_with fail
  refine (HMK.out _).mono ?_; rw [HM.out, marksV_some]; rintro e w1 ⟨rfl, hb1⟩
  have HB1 := Lib.hid hb1
  have hc1 := HAT.out.kept hb1
  have k3 := hc1.next 2 rfl
  have k4 := hc1.next 3 rfl
  have k5 := hc1.next 4 rfl
  clear hb1 hc1
  go_wp2_with fail
  refine (HCK.out _).mono ?_; rintro e w2 ⟨rfl, hb2⟩
  have HB2 : Hid (Below w.heap.size w w2) := Lib.hid (HB1.out.trans (hb2.mono HB1.out.size))
  clear hb2
  go_wp2_with fail
  go_ret
  exact ⟨rfl, HB2.out⟩
set_option maxHeartbeats 3200000 in
theorem look_fine (c : Cl) (ad : Addr) (w : World) (hc : At w ad (cvals c)) (hs : c.comb.length ≤ 1152921504606846976) (h : combOk c.comb = true) (h2 : attrOk c.a = true) :
    Calls Try.prog 35 #[.pointer (some ad)] w fun e w' => e = .returned (partV (kind c) ad) ∧ Below w.heap.size w w' := by
  have hk := kind_fine h h2
  generalize kind c = kk at hk ⊢
  have HK := Lib.hid hk
  clear hk
  have HMK := Lib.hid (fun w' => marks_any ⟨c.comb.toArray⟩ w' hs)
  have HCK := Lib.hid (fun w' => check_any c.a true h2 w')
  have HOF := Lib.hid (fun w' => of_any c.rune w')
  have HSC := Lib.hid (fun w' => sec_any c.a w')
  have heq := eql_sec c
  obtain ⟨rune, cb, wide, ⟨fg, bg, fl⟩⟩ := c
  simp only [cagg, sec] at heq
  have h1 := hc.next 0 rfl
  have HAT := Lib.hid hc
  have hm : ∃ n, marks cb = some n ∧ n ≤ 2 := by
    have h : combOk cb = true := h
    unfold combOk at h
    cases hm : marks cb with
    | none => rw [hm] at h; cases h
    | some n => rw [hm] at h; exact ⟨n, rfl, of_decide_eq_true h⟩
  obtain ⟨n, hm, hn⟩ := hm
  have HM : Hid (marks (⟨cb.toArray⟩ : ByteArray).data.toList = some n) := Lib.hid hm
  clear hm h hc hs h2
  go_enter Try.func35, Try.ntmps35
  go_wp2_with fail
  refine (HMK.out _).mono ?_; rw [HM.out, marksV_some]; rintro e w1 ⟨rfl, hb1⟩
  have HB1 := Lib.hid hb1
  have hc1 := HAT.out.kept hb1
  have k3 := hc1.next 2 rfl
  have k4 := hc1.next 3 rfl
  have k5 := hc1.next 4 rfl
  clear hb1 hc1
  go_wp2_with fail
  refine (HCK.out _).mono ?_; rintro e w2 ⟨rfl, hb2⟩
  have HB2 : Hid (Below w.heap.size w w2) := Lib.hid (HB1.out.trans (hb2.mono HB1.out.size))
  clear hb2 k3 k4 k5
  have hc2 := HAT.out.kept HB2.out
  have m0 := hc2.head
  have m2 := hc2.next 1 rfl
  clear hc2
  go_wp2_with fail
  refine (HOF.out _).mono ?_; rintro e w3 ⟨rfl, hb3⟩
  have HB3 : Hid (Below w.heap.size w w3) := Lib.hid (HB2.out.trans (hb3.mono HB2.out.size))
  clear hb3 m0 m2
  have hc3 := HAT.out.kept HB3.out
  have q0 := hc3.head
  have q1 := hc3.next 0 rfl
  have q2 := hc3.next 1 rfl
  have q3 := hc3.next 2 rfl
  have q4 := hc3.next 3 rfl
  have q5 := hc3.next 4 rfl
  clear hc3
  have HK2 : Hid (kk = bif decide (wid rune = 1) && decide (wide = 0) then 1 else bif decide (wid rune = 2) && decide (wide = 1) then 2 else bif isSec ⟨rune, cb, wide, ⟨fg, bg, fl⟩⟩ then 3 else 0) := HK
  clear HK
  generalize wid rune = q at HK2 HOF ⊢
  by_cases e1 : q = 1 ∧ wide = 0
  · obtain ⟨rfl, rfl⟩ := e1
    have HKK : Hid (kk = 1) := HK2
    go_wp2_with fail
    go_ret
    exact ⟨by rw [HKK.out]; rfl, HB3.out⟩
  · by_cases e2 : q = 2 ∧ wide = 1
    · obtain ⟨rfl, rfl⟩ := e2
      have HKK : Hid (kk = 2) := HK2
      go_wp2_with fail
      go_ret
      exact ⟨by rw [HKK.out]; rfl, HB3.out⟩
    · have HKK : Hid (kk = bif isSec ⟨rune, cb, wide, ⟨fg, bg, fl⟩⟩ then 3 else 0) := Lib.hid (by
        have := HK2.out
        rw [this]
        have f1 : (decide (q = 1) && decide (wide = 0)) = false := by
          rw [Bool.and_eq_false_iff]
          by_cases h : q = 1
          · exact .inr (decide_eq_false fun h2 => e1 ⟨h, h2⟩)
          · exact .inl (decide_eq_false h)
        have f2 : (decide (q = 2) && decide (wide = 1)) = false := by
          rw [Bool.and_eq_false_iff]
          by_cases h : q = 2
          · exact .inr (decide_eq_false fun h2 => e2 ⟨h, h2⟩)
          · exact .inl (decide_eq_false h)
        rw [f1, f2]; rfl)
      clear HK2
      have hways : (q = 1 ∧ wide ≠ 0) ∨ (q = 2 ∧ wide ≠ 1) ∨ (q ≠ 1 ∧ q ≠ 2) := by omega
      clear e1 e2
      have z0 := cell_regrown q0
      have z1 := cell_regrown q1
      have z2 := cell_regrown q2
      have z3 := cell_regrown q3
      have z4 := cell_regrown q4
      have z5 := cell_regrown q5
      have cS : ∀ d os, Calls Try.prog 36 #[.agg #[.int .i64 fg, .int .i64 bg, .int .i64 fl]] (Go.Sort.grow (redrawn w3 d) os) fun e w'' => e = .returned (.agg #[.int .i64 0, .string ⟨#[]⟩, .int .i64 2, .int .i64 fg, .int .i64 bg, .int .i64 fl]) ∧ ∃ p : Regrown, w'' = Go.Sort.grow (redrawn w3 p.d) p.os := fun d os => Calls.regrown_of (HSC.out _)
      generalize isSec ⟨rune, cb, wide, ⟨fg, bg, fl⟩⟩ = b at heq HKK
      have BC : Hid (∀ d os, Below w.heap.size w (Go.Sort.grow (redrawn w3 d) os)) := Lib.hid fun d os => HB3.out.trans ((below_regrown w3 d os).mono HB3.out.size)
      rcases hways with ⟨rfl, hw⟩ | ⟨rfl, hw⟩ | ⟨hq1, hq2⟩
      · have b1 : (wide == 0) = false := by rw [beq_eq_false_iff_ne]; exact hw
        clear hw
        go_wp2_with fail
        refine wp_region_quiet_below (by kernel_rfl) (by kernel_rfl) ?_
        repeat (quiet_step (exact cS _ _))
        refine wpQuiet_nil ?_
        intro _ hw'
        obtain ⟨⟨dq, osq⟩, hw''⟩ := hw'
        subst hw''
        have HB4 := Lib.hid (BC.out dq osq)
        clear heq z0 z1 z2 z3 z4 z5 cS q0 q1 q2 q3 q4 q5
        generalize Go.Sort.grow (redrawn w3 dq) osq = w4 at HB4 ⊢
        cases b
        all_goals
          go_wp2_with fail
          go_ret
          exact ⟨by rw [HKK.out]; rfl, HB4.out⟩
      · have b1 : (wide == 1) = false := by rw [beq_eq_false_iff_ne]; exact hw
        clear hw
        go_wp2_with fail
        refine wp_region_quiet_below (by kernel_rfl) (by kernel_rfl) ?_
        repeat (quiet_step (exact cS _ _))
        refine wpQuiet_nil ?_
        intro _ hw'
        obtain ⟨⟨dq, osq⟩, hw''⟩ := hw'
        subst hw''
        have HB4 := Lib.hid (BC.out dq osq)
        clear heq z0 z1 z2 z3 z4 z5 cS q0 q1 q2 q3 q4 q5
        generalize Go.Sort.grow (redrawn w3 dq) osq = w4 at HB4 ⊢
        cases b
        all_goals
          go_wp2_with fail
          go_ret
          exact ⟨by rw [HKK.out]; rfl, HB4.out⟩
      · have b1 : (q == 1) = false := by rw [beq_eq_false_iff_ne]; exact hq1
        have b2 : (q == 2) = false := by rw [beq_eq_false_iff_ne]; exact hq2
        clear hq1 hq2
        go_wp2_with fail
        refine wp_region_quiet_below (by kernel_rfl) (by kernel_rfl) ?_
        repeat (quiet_step (exact cS _ _))
        refine wpQuiet_nil ?_
        intro _ hw'
        obtain ⟨⟨dq, osq⟩, hw''⟩ := hw'
        subst hw''
        have HB4 := Lib.hid (BC.out dq osq)
        clear heq z0 z1 z2 z3 z4 z5 cS q0 q1 q2 q3 q4 q5
        generalize Go.Sort.grow (redrawn w3 dq) osq = w4 at HB4 ⊢
        cases b
        all_goals
          go_wp2_with fail
          go_ret
          exact ⟨by rw [HKK.out]; rfl, HB4.out⟩
theorem look_any (c : Cl) (ad : Addr) (w : World) (hc : At w ad (cvals c)) (hs : c.comb.length ≤ 1152921504606846976) :
    Calls Try.prog 35 #[.pointer (some ad)] w fun e w' => e = .returned (partV (kind c) ad) ∧ Below w.heap.size w w' := by
  cases h : combOk c.comb with
  | false => exact look_bad c ad w hc hs h
  | true =>
    cases h2 : attrOk c.a with
    | false => exact look_bada c ad w hc hs h h2
    | true => exact look_fine c ad w hc hs h h2
end Row
end Go.Proofs.Ythkfcfmnccfbnaa
