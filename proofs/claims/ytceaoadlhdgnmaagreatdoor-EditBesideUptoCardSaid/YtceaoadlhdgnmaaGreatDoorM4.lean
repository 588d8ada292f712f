/- Joined texts: Runes, RowDev, RowCheck, RowCut, Law, RowFine, RowShort. -/
import Derived.Test.YtceaoadlhdgnmaaGreatDoorM2
import Derived.Laws.RangeAny
import Derived.Laws.Runes
import Derived.LoopTactic
import Derived.Lib.OthersKept
import Derived.Lib.QuietBelow
import Derived.Deep.RegionHeld
import Derived.ProofKit
import Derived.OpenShut
import Derived.Deep.DeepHandedRow
import Derived.Lib.LaidTab
import Derived.WideKeyArgs
import Derived.ChangeSame
import Derived.SliceStrings
import Derived.Deep.Slices
namespace Go.Proofs.YtceaoadlhdgnmaaGreatDoor
set_option maxRecDepth 100000
section
open Go.RowKit
namespace Utf
theorem dec_at (s : ByteArray) (pos : Nat) : Utf8.decode s pos = dec (s.data.toList.drop pos) := by
  rw [← Lib.decodeL_drop, Lib.decodeL_N]; rfl
theorem drop_ne {s : ByteArray} {pos : Nat} (h : pos < s.size) : s.data.toList.drop pos ≠ [] := by
  intro e
  have : (s.data.toList.drop pos).length = 0 := by rw [e]; rfl
  rw [List.length_drop] at this
  have : s.data.toList.length = s.size := rfl
  omega
theorem below_iter {B : Nat} {a w : World} (h : Below B a w) (hB : B ≤ w.heap.size) (s : ByteArray) (pos : Nat) : Below B a (w.iter s pos) := h.alloc hB _
theorem dec_small (l : List UInt8) : (dec l).1 ≤ 1114111 := by
  rcases decodeN_cases l.length (l.getD 0 0).toNat (l.getD 1 0).toNat (l.getD 2 0).toNat (l.getD 3 0).toNat (byte_lt _) (byte_lt _) (byte_lt _) (byte_lt _) with e | ⟨h1, e⟩ | ⟨hn, h1, h2, e⟩ | ⟨hn, h1, h2, h3, e⟩ | ⟨hn, h1, h2, h3, h4, e⟩
  · unfold dec; rw [e]; decide
  · unfold dec; rw [e]; show _ ≤ _; simp only; omega
  · unfold dec; rw [e]; simp only; omega
  · unfold dec; rw [e]; simp only; omega
  · unfold dec; rw [e]; simp only
    have q := follows_iff.1 h2
    unfold more at h1
    unfold low high at q
    simp only [if_true] at q
    repeat' split at h1
    all_goals (repeat' split at q)
    all_goals omega
end Utf
end
section
open Go.RowKit
namespace Row
open Utf Wid
def marksV (m : Option Nat) : Value := match m with
  | some n => .tuple #[.int .i64 n, .bool true]
  | none => .tuple #[.int .i64 0, .bool false]
theorem marksV_some (n : Nat) : marksV (some n) = .tuple #[.int .i64 n, .bool true] := rfl
theorem marksV_none : marksV none = .tuple #[.int .i64 0, .bool false] := rfl
set_option maxHeartbeats 800000 in
theorem marks_any (s : ByteArray) (w : World) (hs : s.size ≤ 1152921504606846976) : Calls Tryz.prog 166 #[.string s] w fun e w' => e = .returned (marksV (marks s.data.toList)) ∧ Below w.heap.size w w' := by
  go_enter Tryz.func166, Tryz.ntmps166
  go_wp2_with fail
  go_loopw [2] (fun t wr => ∃ pos n : Nat, pos ≤ s.size ∧ t = .int .i64 n ∧ n ≤ pos ∧ Hid ((marks (s.data.toList.drop pos)).map (· + n) = marks s.data.toList) ∧ Hid (wr.heap[w.heap.size]? = some (.stringIter s pos)) ∧ Below w.heap.size w wr) (fun _ wr => s.size - wr.iterPos w.heap.size)
  case atStart => exact ⟨0, 0, by omega, rfl, by omega, Lib.hid (by rw [List.drop_zero]; cases marks s.data.toList <;> rfl), Lib.hid (World.iter_heap _ _ _), Utf.below_iter (Below.refl _ _) (Nat.le_refl _) _ _⟩
  case round =>
    obtain ⟨pos, n, hpos, rfl, hn, HT, HI, hbl⟩ := hrel
    by_cases hp : pos < s.size
    · have hnx : ∀ ty, (Instr.next (.pointer (some ⟨w.heap.size, 0, none⟩)) true ty).run Tryz.prog wr = _ := fun ty => Lib.run_next_any_at wr w.heap.size s pos ty HI.out hp
      have HIP : Hid (wr.iterPos w.heap.size = pos) := Lib.hid (by simp [World.iterPos, HI.out])
      rw [Utf.dec_at] at hnx
      have hstep := marks_step (Utf.drop_ne hp)
      rw [List.drop_drop] at hstep
      have hle := dec_le (Utf.drop_ne hp)
      have h1 := dec_pos (Utf.drop_ne hp)
      have hsm := Utf.dec_small (s.data.toList.drop pos)
      rw [List.length_drop, show s.data.toList.length = s.size from rfl] at hle
      obtain ⟨d, hD⟩ : ∃ d, Utf.dec (s.data.toList.drop pos) = d := ⟨_, rfl⟩
      rw [hD] at hnx hstep hle h1 hsm
      clear hD
      have HS := Lib.hid hstep
      clear hstep
      have hit2 := Lib.iterAt_heap wr w.heap.size s pos (pos + d.2) HI.out
      have HIT2 := Lib.hid hit2
      have hIP2 : Hid ((wr.iterAt w.heap.size s (pos + d.2)).iterPos w.heap.size = pos + d.2) := Lib.hid (by simp [World.iterPos, hit2])
      have HBL2 : Hid (Below w.heap.size w (wr.iterAt w.heap.size s (pos + d.2))) := Lib.hid (Lib.below_iterAt hbl (Nat.le_refl _) _ _)
      have HOF := Lib.hid (of_any (d.1 : Int) (wr.iterAt w.heap.size s (pos + d.2)))
      have HSZ : Hid (w.heap.size < (wr.iterAt w.heap.size s (pos + d.2)).heap.size) := Lib.hid (Array.getElem?_eq_some_iff.1 hit2).1
      clear hit2
      by_cases hw0 : wid (d.1 : Int) = 0
      · have HM : Hid (marks (s.data.toList.drop pos) = (marks (s.data.toList.drop (pos + d.2))).map (· + 1)) := Lib.hid (by rw [HS.out, if_pos hw0])
        rw [hw0] at HOF
        go_wp2_with fail
        refine HOF.out.mono ?_; rintro e w1 ⟨rfl, hb1⟩
        have HB1 := Lib.hid hb1
        have HH1 : Hid (w1.heap[w.heap.size]? = some (.stringIter s (pos + d.2))) := Lib.hid (by rw [hb1.block _ HSZ.out]; exact HIT2.out)
        have HIP1 : Hid (w1.iterPos w.heap.size = pos + d.2) := Lib.hid (by simp [World.iterPos, HH1.out])
        have HBW : Hid (Below w.heap.size w w1) := Lib.hid (HBL2.out.trans (hb1.mono HBL2.out.size))
        clear hb1
        go_wp2_with fail
        go_roundw
        case rel => exact ⟨pos + d.2, n + 1, by omega, by go_num, by omega, Lib.hid (by rw [← HT.out, HM.out]; cases marks (s.data.toList.drop (pos + d.2)) <;> simp <;> omega), HH1, HBW.out⟩
        case measure => rw [HIP1.out, HIP.out]; omega
      · have HM : Hid (marks s.data.toList = none) := Lib.hid (by rw [← HT.out, HS.out, if_neg hw0]; rfl)
        have hb1 : (wid (d.1 : Int) != 0) = true := by rw [bne_iff_ne]; exact hw0
        generalize wid (d.1 : Int) = q at HOF hb1
        go_wp2_with fail
        refine HOF.out.mono ?_; rintro e w1 ⟨rfl, hb1⟩
        have HBW : Hid (Below w.heap.size w w1) := Lib.hid (HBL2.out.trans (hb1.mono HBL2.out.size))
        clear hb1
        go_wp2_with fail
        go_ret2
        exact ⟨by rw [HM.out]; rfl, HBW.out⟩
    · have hnx : ∀ ty, (Instr.next (.pointer (some ⟨w.heap.size, 0, none⟩)) true ty).run Tryz.prog wr = _ := fun ty => Lib.run_next_end_at wr w.heap.size s pos ty HI.out hp
      have HE : Hid (marks s.data.toList = some n) := Lib.hid (by
        have h := HT.out
        rw [List.drop_eq_nil_of_le (by show s.size ≤ pos; omega), marks_nil] at h
        rw [← h]; simp)
      go_wp2_with fail
      go_ret2
      exact ⟨by rw [HE.out]; rfl, hbl⟩
def partV (k : Nat) (p : Addr) : Value :=
  if k = 1 then .iface 239 (.agg #[.pointer (some p)]) else if k = 2 then .iface 222 (.agg #[.pointer (some p)]) else if k = 3 then .iface 218 (.agg #[.pointer (some p)]) else .iface 241 (.agg #[])
@[go_sem] theorem p_ff (v : Value) (w : World) : (Instr.typeAssert (.iface 222 v) 220 222 true).run Tryz.prog w = .ok (.tuple #[v, .bool true]) w := by kernel_rfl
@[go_sem] theorem p_ss (v : Value) (w : World) : (Instr.typeAssert (.iface 218 v) 220 218 true).run Tryz.prog w = .ok (.tuple #[v, .bool true]) w := by kernel_rfl
@[go_sem] theorem p_ww (v : Value) (w : World) : (Instr.typeAssert (.iface 239 v) 220 239 true).run Tryz.prog w = .ok (.tuple #[v, .bool true]) w := by kernel_rfl
@[go_sem] theorem p_wf (v : Value) (w : World) : (Instr.typeAssert (.iface 239 v) 220 222 true).run Tryz.prog w = .ok (.tuple #[.agg #[.pointer none], .bool false]) w := by kernel_rfl
@[go_sem] theorem p_sf (v : Value) (w : World) : (Instr.typeAssert (.iface 218 v) 220 222 true).run Tryz.prog w = .ok (.tuple #[.agg #[.pointer none], .bool false]) w := by kernel_rfl
@[go_sem] theorem p_nf (v : Value) (w : World) : (Instr.typeAssert (.iface 241 v) 220 222 true).run Tryz.prog w = .ok (.tuple #[.agg #[.pointer none], .bool false]) w := by kernel_rfl
@[go_sem] theorem p_ws (v : Value) (w : World) : (Instr.typeAssert (.iface 239 v) 220 218 true).run Tryz.prog w = .ok (.tuple #[.agg #[.pointer none], .bool false]) w := by kernel_rfl
@[go_sem] theorem p_fs (v : Value) (w : World) : (Instr.typeAssert (.iface 222 v) 220 218 true).run Tryz.prog w = .ok (.tuple #[.agg #[.pointer none], .bool false]) w := by kernel_rfl
@[go_sem] theorem p_ns (v : Value) (w : World) : (Instr.typeAssert (.iface 241 v) 220 218 true).run Tryz.prog w = .ok (.tuple #[.agg #[.pointer none], .bool false]) w := by kernel_rfl
@[go_sem] theorem p_nw (v : Value) (w : World) : (Instr.typeAssert (.iface 241 v) 220 239 true).run Tryz.prog w = .ok (.tuple #[.agg #[.pointer none], .bool false]) w := by kernel_rfl
@[go_sem] theorem p_must (v : Value) (w : World) : (Instr.typeAssert (.iface 222 v) 220 222 false).run Tryz.prog w = .ok v w := by kernel_rfl
theorem eql_sec (c : Cl) (w : World) : (binOp .eql 57 (cagg c) (cagg (sec c.a))).run Tryz.prog w = .ok (.bool (isSec c)) w := by
  obtain ⟨r, cb, x, ⟨fg, bg, fl⟩⟩ := c
  have hs : isSec ⟨r, cb, x, ⟨fg, bg, fl⟩⟩ = (decide (r = 0) && (decide (cb = []) && decide (x = 2))) := rfl
  rw [hs]
  by_cases h1 : r = 0
  · by_cases h2 : cb = []
    · by_cases h3 : x = 2
      · simp [cagg, sec, go_sem, h1, h2, h3]
      · simp [cagg, sec, go_sem, h1, h2, h3]
    · simp [cagg, sec, go_sem, h1, h2]
  · simp [cagg, sec, go_sem, h1]
theorem kind_bad {c : Cl} (h : combOk c.comb = false) : kind c = 0 := by unfold kind; rw [h]; rfl
theorem kind_bada {c : Cl} (h : attrOk c.a = false) : kind c = 0 := by unfold kind; rw [h, Bool.and_false]; rfl
theorem kind_fine {c : Cl} (h : combOk c.comb = true) (h2 : attrOk c.a = true) :
    kind c = bif decide (wid c.rune = 1) && decide (c.wide = 0) then 1 else bif decide (wid c.rune = 2) && decide (c.wide = 1) then 2 else bif isSec c then 3 else 0 := by unfold kind; rw [h, h2]; rfl
set_option maxHeartbeats 1600000 in
theorem look_bad (c : Cl) (ad : Addr) (w : World) (hc : At w ad (cvals c)) (hs : c.comb.length ≤ 1152921504606846976) (h : combOk c.comb = false) :
    Calls Tryz.prog 187 #[.pointer (some ad)] w fun e w' => e = .returned (partV (kind c) ad) ∧ Below w.heap.size w w' := by
  rw [kind_bad h]
  have HMK := Lib.hid (fun w' => marks_any ⟨c.comb.toArray⟩ w' hs)
  obtain ⟨rune, cb, wide, ⟨fg, bg, fl⟩⟩ := c
  have h1 := hc.next 0 rfl
  have hm : marks cb = none ∨ ∃ n, marks cb = some n ∧ 2 < n := by
    have h : combOk cb = false := h
    unfold combOk at h
    cases hm : marks cb with
    | none => exact .inl rfl
    | some n => rw [hm] at h; exact .inr ⟨n, rfl, by have := of_decide_eq_false h; omega⟩
  have hml : ∀ n, marks cb = some n → n ≤ cb.length := fun n e => marks_le _ cb n (Nat.le_refl _) e
  rcases hm with hm | ⟨n, hm, hn⟩
  · have HM : Hid (marks (⟨cb.toArray⟩ : ByteArray).data.toList = none) := Lib.hid hm
    clear hm hml h hc
    go_enter Tryz.func187, Tryz.ntmps187
    go_wp2_with fail
    refine (HMK.out _).mono ?_; rw [HM.out, marksV_none]; rintro e w1 ⟨rfl, hb1⟩
    have HB1 := Lib.hid hb1
    clear hb1
    go_wp2_with fail
    go_ret
    exact ⟨rfl, HB1.out⟩
  · have HM : Hid (marks (⟨cb.toArray⟩ : ByteArray).data.toList = some n) := Lib.hid hm
    have hnl := hml n hm
    have hsl : cb.length ≤ 1152921504606846976 := hs
    clear hm hml h hc hs
    go_enter Tryz.func187, Tryz.ntmps187
    go_wp2_with fail
    refine (HMK.out _).mono ?_; rw [HM.out, marksV_some]; rintro e w1 ⟨rfl, hb1⟩
    have HB1 := Lib.hid hb1
    clear hb1
    go_wp2_with fail
    go_ret
    exact ⟨rfl, HB1.out⟩
set_option maxHeartbeats 1600000 in
theorem look_bada (c : Cl) (ad : Addr) (w : World) (hc : At w ad (cvals c)) (hs : c.comb.length ≤ 1152921504606846976) (h : combOk c.comb = true) (h2 : attrOk c.a = false) :
    Calls Tryz.prog 187 #[.pointer (some ad)] w fun e w' => e = .returned (partV (kind c) ad) ∧ Below w.heap.size w w' := by
  rw [kind_bada h2]
  have HMK := Lib.hid (fun w' => marks_any ⟨c.comb.toArray⟩ w' hs)
  have HCK := Lib.hid (fun w' => check_any c.a false h2 w')
  obtain ⟨rune, cb, wide, ⟨fg, bg, fl⟩⟩ := c
  have h1 := hc.next 0 rfl
  have HAT := Lib.hid hc
  have hm : ∃ n, marks cb = some n ∧ n ≤ 2 := by
    have h : combOk cb = true := h
    unfold combOk at h
    cases hm : marks cb with
    | none => rw [hm] at h; cases h
    | some n => rw [hm] at h; exact ⟨n, rfl, of_decide_eq_true h⟩
  obtain ⟨n, hm, hn⟩ := hm
  have HM : Hid (marks (⟨cb.toArray⟩ : ByteArray).data.toList = some n) := Lib.hid hm
  clear hm h hc hs h2
  go_enter Tryz.func187, Tryz.ntmps187
  go_wp2_with fail
  refine (HMK.out _).mono ?_; rw [HM.out, marksV_some]; rintro e w1 ⟨rfl, hb1⟩
  have HB1 := Lib.hid hb1
  have hc1 := HAT.out.kept hb1
  have k3 := hc1.next 2 rfl
  have k4 := hc1.next 3 rfl
  have k5 := hc1.next 4 rfl
  clear hb1 hc1
  go_wp2_with fail
  refine (HCK.out _).mono ?_; rintro e w2 ⟨rfl, hb2⟩
  have HB2 : Hid (Below w.heap.size w w2) := Lib.hid (HB1.out.trans (hb2.mono HB1.out.size))
  clear hb2
  go_wp2_with fail
  go_ret
  exact ⟨rfl, HB2.out⟩
set_option maxHeartbeats 3200000 in
theorem look_fine (c : Cl) (ad : Addr) (w : World) (hc : At w ad (cvals c)) (hs : c.comb.length ≤ 1152921504606846976) (h : combOk c.comb = true) (h2 : attrOk c.a = true) :
    Calls Tryz.prog 187 #[.pointer (some ad)] w fun e w' => e = .returned (partV (kind c) ad) ∧ Below w.heap.size w w' := by
  have hk := kind_fine h h2
  generalize kind c = kk at hk ⊢
  have HK := Lib.hid hk
  clear hk
  have HMK := Lib.hid (fun w' => marks_any ⟨c.comb.toArray⟩ w' hs)
  have HCK := Lib.hid (fun w' => check_any c.a true h2 w')
  have HOF := Lib.hid (fun w' => of_any c.rune w')
  have HSC := Lib.hid (fun w' => sec_any c.a w')
  have heq := eql_sec c
  obtain ⟨rune, cb, wide, ⟨fg, bg, fl⟩⟩ := c
  simp only [cagg, sec] at heq
  have h1 := hc.next 0 rfl
  have HAT := Lib.hid hc
  have hm : ∃ n, marks cb = some n ∧ n ≤ 2 := by
    have h : combOk cb = true := h
    unfold combOk at h
    cases hm : marks cb with
    | none => rw [hm] at h; cases h
    | some n => rw [hm] at h; exact ⟨n, rfl, of_decide_eq_true h⟩
  obtain ⟨n, hm, hn⟩ := hm
  have HM : Hid (marks (⟨cb.toArray⟩ : ByteArray).data.toList = some n) := Lib.hid hm
  clear hm h hc hs h2
  go_enter Tryz.func187, Tryz.ntmps187
  go_wp2_with fail
  refine (HMK.out _).mono ?_; rw [HM.out, marksV_some]; rintro e w1 ⟨rfl, hb1⟩
  have HB1 := Lib.hid hb1
  have hc1 := HAT.out.kept hb1
  have k3 := hc1.next 2 rfl
  have k4 := hc1.next 3 rfl
  have k5 := hc1.next 4 rfl
  clear hb1 hc1
  go_wp2_with fail
  refine (HCK.out _).mono ?_; rintro e w2 ⟨rfl, hb2⟩
  have HB2 : Hid (Below w.heap.size w w2) := Lib.hid (HB1.out.trans (hb2.mono HB1.out.size))
  clear hb2 k3 k4 k5
  have hc2 := HAT.out.kept HB2.out
  have m0 := hc2.head
  have m2 := hc2.next 1 rfl
  clear hc2
  go_wp2_with fail
  refine (HOF.out _).mono ?_; rintro e w3 ⟨rfl, hb3⟩
  have HB3 : Hid (Below w.heap.size w w3) := Lib.hid (HB2.out.trans (hb3.mono HB2.out.size))
  clear hb3 m0 m2
  have hc3 := HAT.out.kept HB3.out
  have q0 := hc3.head
  have q1 := hc3.next 0 rfl
  have q2 := hc3.next 1 rfl
  have q3 := hc3.next 2 rfl
  have q4 := hc3.next 3 rfl
  have q5 := hc3.next 4 rfl
  clear hc3
  have HK2 : Hid (kk = bif decide (wid rune = 1) && decide (wide = 0) then 1 else bif decide (wid rune = 2) && decide (wide = 1) then 2 else bif isSec ⟨rune, cb, wide, ⟨fg, bg, fl⟩⟩ then 3 else 0) := HK
  clear HK
  generalize wid rune = q at HK2 HOF ⊢
  by_cases e1 : q = 1 ∧ wide = 0
  · obtain ⟨rfl, rfl⟩ := e1
    have HKK : Hid (kk = 1) := HK2
    go_wp2_with fail
    go_ret
    exact ⟨by rw [HKK.out]; rfl, HB3.out⟩
  · by_cases e2 : q = 2 ∧ wide = 1
    · obtain ⟨rfl, rfl⟩ := e2
      have HKK : Hid (kk = 2) := HK2
      go_wp2_with fail
      go_ret
      exact ⟨by rw [HKK.out]; rfl, HB3.out⟩
    · have HKK : Hid (kk = bif isSec ⟨rune, cb, wide, ⟨fg, bg, fl⟩⟩ then 3 else 0) := Lib.hid (by
        have := HK2.out
        rw [this]
        have f1 : (decide (q = 1) && decide (wide = 0)) = false := by
          rw [Bool.and_eq_false_iff]
          by_cases h : q = 1
          · exact .inr (decide_eq_false fun h2 => e1 ⟨h, h2⟩)
          · exact .inl (decide_eq_false h)
        have f2 : (decide (q = 2) && decide (wide = 1)) = false := by
          rw [Bool.and_eq_false_iff]
          by_cases h : q = 2
          · exact .inr (decide_eq_false fun h2 => e2 ⟨h, h2⟩)
          · exact .inl (decide_eq_false h)
        rw [f1, f2]; rfl)
      clear HK2
      have hways : (q = 1 ∧ wide ≠ 0) ∨ (q = 2 ∧ wide ≠ 1) ∨ (q ≠ 1 ∧ q ≠ 2) := by omega
      clear e1 e2
      have z0 := cell_regrown q0
      have z1 := cell_regrown q1
      have z2 := cell_regrown q2
      have z3 := cell_regrown q3
      have z4 := cell_regrown q4
      have z5 := cell_regrown q5
      have cS : ∀ d os, Calls Tryz.prog 206 #[.agg #[.int .i64 fg, .int .i64 bg, .int .i64 fl]] (Go.Sort.grow (redrawn w3 d) os) fun e w'' => e = .returned (.agg #[.int .i64 0, .string ⟨#[]⟩, .int .i64 2, .int .i64 fg, .int .i64 bg, .int .i64 fl]) ∧ ∃ p : Regrown, w'' = Go.Sort.grow (redrawn w3 p.d) p.os := fun d os => Calls.regrown_of (HSC.out _)
      generalize isSec ⟨rune, cb, wide, ⟨fg, bg, fl⟩⟩ = b at heq HKK
      have BC : Hid (∀ d os, Below w.heap.size w (Go.Sort.grow (redrawn w3 d) os)) := Lib.hid fun d os => HB3.out.trans ((below_regrown w3 d os).mono HB3.out.size)
      rcases hways with ⟨rfl, hw⟩ | ⟨rfl, hw⟩ | ⟨hq1, hq2⟩
      · have b1 : (wide == 0) = false := by rw [beq_eq_false_iff_ne]; exact hw
        clear hw
        go_wp2_with fail
        refine wp_region_quiet_below (by kernel_rfl) (by kernel_rfl) ?_
        repeat (quiet_step (exact cS _ _))
        refine wpQuiet_nil ?_
        intro _ hw'
        obtain ⟨⟨dq, osq⟩, hw''⟩ := hw'
        subst hw''
        have HB4 := Lib.hid (BC.out dq osq)
        clear heq z0 z1 z2 z3 z4 z5 cS q0 q1 q2 q3 q4 q5
        generalize Go.Sort.grow (redrawn w3 dq) osq = w4 at HB4 ⊢
        cases b
        all_goals
          go_wp2_with fail
          go_ret
          exact ⟨by rw [HKK.out]; rfl, HB4.out⟩
      · have b1 : (wide == 1) = false := by rw [beq_eq_false_iff_ne]; exact hw
        clear hw
        go_wp2_with fail
        refine wp_region_quiet_below (by kernel_rfl) (by kernel_rfl) ?_
        repeat (quiet_step (exact cS _ _))
        refine wpQuiet_nil ?_
        intro _ hw'
        obtain ⟨⟨dq, osq⟩, hw''⟩ := hw'
        subst hw''
        have HB4 := Lib.hid (BC.out dq osq)
        clear heq z0 z1 z2 z3 z4 z5 cS q0 q1 q2 q3 q4 q5
        generalize Go.Sort.grow (redrawn w3 dq) osq = w4 at HB4 ⊢
        cases b
        all_goals
          go_wp2_with fail
          go_ret
          exact ⟨by rw [HKK.out]; rfl, HB4.out⟩
      · have b1 : (q == 1) = false := by rw [beq_eq_false_iff_ne]; exact hq1
        have b2 : (q == 2) = false := by rw [beq_eq_false_iff_ne]; exact hq2
        clear hq1 hq2
        go_wp2_with fail
        refine wp_region_quiet_below (by kernel_rfl) (by kernel_rfl) ?_
        repeat (quiet_step (exact cS _ _))
        refine wpQuiet_nil ?_
        intro _ hw'
        obtain ⟨⟨dq, osq⟩, hw''⟩ := hw'
        subst hw''
        have HB4 := Lib.hid (BC.out dq osq)
        clear heq z0 z1 z2 z3 z4 z5 cS q0 q1 q2 q3 q4 q5
        generalize Go.Sort.grow (redrawn w3 dq) osq = w4 at HB4 ⊢
        cases b
        all_goals
          go_wp2_with fail
          go_ret
          exact ⟨by rw [HKK.out]; rfl, HB4.out⟩
theorem look_any (c : Cl) (ad : Addr) (w : World) (hc : At w ad (cvals c)) (hs : c.comb.length ≤ 1152921504606846976) :
    Calls Tryz.prog 187 #[.pointer (some ad)] w fun e w' => e = .returned (partV (kind c) ad) ∧ Below w.heap.size w w' := by
  cases h : combOk c.comb with
  | false => exact look_bad c ad w hc hs h
  | true =>
    cases h2 : attrOk c.a with
    | false => exact look_bada c ad w hc hs h h2
    | true => exact look_fine c ad w hc hs h h2
end Row
end
section
open Go.RowKit
namespace Row
open Utf Wid
theorem partV_1 (p : Addr) : partV 1 p = .iface 239 (.agg #[.pointer (some p)]) := rfl
theorem partV_2 (p : Addr) : partV 2 p = .iface 222 (.agg #[.pointer (some p)]) := rfl
theorem partV_3 (p : Addr) : partV 3 p = .iface 218 (.agg #[.pointer (some p)]) := rfl
theorem partV_0 (p : Addr) : partV 0 p = .iface 241 (.agg #[]) := rfl
def secOf (d : Cl) (a : Look) : Bool := decide (d.rune = 0) && (decide (d.comb = []) && (decide (d.wide = 2) && (decide (d.a.fg = a.fg) && (decide (d.a.bg = a.bg) && decide (d.a.flags = a.flags)))))
theorem secOf_iff (d : Cl) (a : Look) : secOf d a = true ↔ d = sec a := by
  obtain ⟨r, m, x, ⟨f1, f2, f3⟩⟩ := d
  obtain ⟨g1, g2, g3⟩ := a
  simp [secOf, sec]
theorem eql_secOf (d : Cl) (a : Look) (w : World) : (binOp .eql 57 (cagg d) (cagg (sec a))).run Tryz.prog w = .ok (.bool (secOf d a)) w := by
  obtain ⟨r, cb, x, ⟨f1, f2, f3⟩⟩ := d
  obtain ⟨g1, g2, g3⟩ := a
  have hs : secOf ⟨r, cb, x, ⟨f1, f2, f3⟩⟩ ⟨g1, g2, g3⟩ = (decide (r = 0) && (decide (cb = []) && (decide (x = 2) && (decide (f1 = g1) && (decide (f2 = g2) && decide (f3 = g3)))))) := rfl
  rw [hs]
  by_cases h1 : r = 0
  · by_cases h2 : cb = []
    · by_cases h3 : x = 2
      · by_cases h4 : f1 = g1
        · by_cases h5 : f2 = g2
          · by_cases h6 : f3 = g3
            · simp [cagg, sec, go_sem, h1, h2, h3, h4, h5, h6]
            · simp [cagg, sec, go_sem, h1, h2, h3, h4, h5, h6]
          · simp [cagg, sec, go_sem, h1, h2, h3, h4, h5]
        · simp [cagg, sec, go_sem, h1, h2, h3, h4]
      · simp [cagg, sec, go_sem, h1, h2, h3]
    · simp [cagg, sec, go_sem, h1, h2]
  · simp [cagg, sec, go_sem, h1]
def Held (l : List Cl) : Prop := ∀ i, i < l.length → (g l i).comb.length ≤ 1152921504606846976
set_option maxHeartbeats 1600000 in
theorem stands_0 (l : List Cl) (k : Nat) (b : Bool) (x : Value) (w : World) (hk : k < l.length) (hx : Cs w x l) (hs : Held l) (hb : b = true ↔ okAt l k) (e : kind (g l k) = 0) :
    Calls Tryz.prog 186 #[x, .int .i64 k] w fun e w' => e = .returned (.bool b) ∧ Below w.heap.size w w' := by
  obtain ⟨A, c, rfl, ha⟩ := hx.form
  obtain ⟨ad, rfl, hat⟩ := ha k hk
  have HLK := Lib.hid (fun w' (h : At w' (ad.add (k * 6)) (cvals (g l k))) => look_any (g l k) (ad.add (k * 6)) w' h (hs k hk))
  have HAT := Lib.hid hat
  have hbf : b = false := by
    cases b
    · rfl
    · exact absurd e (okAt_kind (hb.1 rfl))
  subst hbf
  rw [e, partV_0] at HLK
  clear hb hs ha hx hat e
  go_enter Tryz.func186, Tryz.ntmps186
  go_wp2_with fail
  refine (HLK.out _ HAT.out).mono ?_; rintro e w1 ⟨rfl, hb1⟩
  have HB1 := Lib.hid hb1
  clear hb1
  go_wp2_with fail
  go_ret
  exact ⟨rfl, by have h1 := HB1.out; have h2 := h1.size; repeat (first | exact h1 | refine Below.alloc ?_ (by first | exact h2 | (simp; omega)) _)⟩
set_option maxHeartbeats 1600000 in
theorem stands_1 (l : List Cl) (k : Nat) (b : Bool) (x : Value) (w : World) (hk : k < l.length) (hx : Cs w x l) (hs : Held l) (hb : b = true ↔ okAt l k) (e : kind (g l k) = 1) :
    Calls Tryz.prog 186 #[x, .int .i64 k] w fun e w' => e = .returned (.bool b) ∧ Below w.heap.size w w' := by
  obtain ⟨A, c, rfl, ha⟩ := hx.form
  obtain ⟨ad, rfl, hat⟩ := ha k hk
  have HLK := Lib.hid (fun w' (h : At w' (ad.add (k * 6)) (cvals (g l k))) => look_any (g l k) (ad.add (k * 6)) w' h (hs k hk))
  have HAT := Lib.hid hat
  have hbt : b = true := hb.2 (.inl e)
  subst hbt
  rw [e, partV_1] at HLK
  clear hb hs ha hx hat e
  go_enter Tryz.func186, Tryz.ntmps186
  go_wp2_with fail
  refine (HLK.out _ HAT.out).mono ?_; rintro e w1 ⟨rfl, hb1⟩
  have HB1 := Lib.hid hb1
  clear hb1
  go_wp2_with fail
  go_ret
  exact ⟨rfl, by have h1 := HB1.out; have h2 := h1.size; repeat (first | exact h1 | refine Below.alloc ?_ (by first | exact h2 | (simp; omega)) _)⟩
set_option maxHeartbeats 1600000 in
theorem stands_2 (l : List Cl) (k : Nat) (b : Bool) (x : Value) (w : World) (hk : k < l.length) (hx : Cs w x l) (hs : Held l) (hl : l.length ≤ 1000000) (hb : b = true ↔ okAt l k) (e : kind (g l k) = 2) :
    Calls Tryz.prog 186 #[x, .int .i64 k] w fun e w' => e = .returned (.bool b) ∧ Below w.heap.size w w' := by
  obtain ⟨A, c, rfl, ha⟩ := hx.form
  obtain ⟨ad, rfl, hat⟩ := ha k hk
  have HLK := Lib.hid (fun w' (h : At w' (ad.add (k * 6)) (cvals (g l k))) => look_any (g l k) (ad.add (k * 6)) w' h (hs k hk))
  have HAT := Lib.hid hat
  by_cases hk1 : k + 1 < l.length
  · have hbb : b = secOf (g l (k + 1)) (g l k).a := by
      have : b = true ↔ secOf (g l (k + 1)) (g l k).a = true := by
        rw [hb, secOf_iff]
        constructor
        · rintro (h | ⟨_, _, h⟩ | ⟨h, _⟩)
          · omega
          · exact h
          · omega
        · intro h; exact .inr (.inl ⟨e, hk1, h⟩)
      cases b <;> cases hq : secOf (g l (k + 1)) (g l k).a <;> simp_all
    have heq := eql_secOf (g l (k + 1)) (g l k).a
    have HSC := Lib.hid (fun w' => sec_any (g l k).a w')
    obtain ⟨k1, hk1e⟩ : ∃ k1, k1 = k + 1 := ⟨_, rfl⟩
    rw [← hk1e] at hk1 hbb heq
    obtain ⟨ad', e2, hat2⟩ := ha k1 hk1
    injection e2 with e2
    subst e2
    have HAT2 := Lib.hid hat2
    rw [← hbb] at heq
    rw [e, partV_2] at HLK
    clear hb hs ha hx hat hat2 e hbb
    generalize g l k1 = d at heq HAT2
    generalize g l k = f at heq HAT HLK HSC
    obtain ⟨dr, dc, dw, ⟨d1, d2, d3⟩⟩ := d
    obtain ⟨fr, fc, fw, ⟨f1, f2, f3⟩⟩ := f
    simp only [cagg, sec] at heq
    have hwrap : IntKind.i64.wrap ((k : Int) + 1) = (k1 : Int) := by rw [IntKind.wrap_i64]; omega
    clear hk1e
    go_enter Tryz.func186, Tryz.ntmps186
    go_wp2_with fail
    refine (HLK.out _ HAT.out).mono ?_; rintro e w1 ⟨rfl, hb1⟩
    have HB1 := Lib.hid hb1
    clear hb1
    go_wp2_with fail
    have hb2 : Below w.heap.size w (w1.alloc (.cells #[.pointer (some (ad.add (k * 6)))] 222)) := HB1.out.alloc HB1.out.size _
    have hA := HAT.out.kept hb2
    have hD := HAT2.out.kept hb2
    have p0 : (w1.alloc (.cells #[.pointer (some (ad.add (k * 6)))] 222)).cell? ⟨w1.heap.size, 0, none⟩ = some (.pointer (some (ad.add (k * 6)))) := Blk.cell (heap_alloc_new _ _) 0
    have y0 := cell_regrown p0
    have y3 := cell_regrown (hA.next 2 rfl)
    have y4 := cell_regrown (hA.next 3 rfl)
    have y5 := cell_regrown (hA.next 4 rfl)
    have z0 := cell_regrown hD.head
    have z1 := cell_regrown (hD.next 0 rfl)
    have z2 := cell_regrown (hD.next 1 rfl)
    have z3 := cell_regrown (hD.next 2 rfl)
    have z4 := cell_regrown (hD.next 3 rfl)
    have z5 := cell_regrown (hD.next 4 rfl)
    clear hA hD p0
    have BC : Hid (∀ d os, Below w.heap.size w (Go.Sort.grow (redrawn (w1.alloc (.cells #[.pointer (some (ad.add (k * 6)))] 222)) d) os)) := Lib.hid fun d os => hb2.trans ((below_regrown _ d os).mono hb2.size)
    clear hb2
    have cS : ∀ d os, Calls Tryz.prog 206 #[.agg #[.int .i64 f1, .int .i64 f2, .int .i64 f3]] (Go.Sort.grow (redrawn (w1.alloc (.cells #[.pointer (some (ad.add (k * 6)))] 222)) d) os) fun e w'' => e = .returned (.agg #[.int .i64 0, .string ⟨#[]⟩, .int .i64 2, .int .i64 f1, .int .i64 f2, .int .i64 f3]) ∧ ∃ p : Regrown, w'' = Go.Sort.grow (redrawn (w1.alloc (.cells #[.pointer (some (ad.add (k * 6)))] 222)) p.d) p.os := fun d os => Calls.regrown_of (HSC.out _)
    generalize w1.alloc (.cells #[.pointer (some (ad.add (k * 6)))] 222) = wa at y0 y3 y4 y5 z0 z1 z2 z3 z4 z5 BC cS ⊢
    refine wp_region_quiet_below (by kernel_rfl) (by kernel_rfl) ?_
    repeat (quiet_step (exact cS _ _))
    refine wpQuiet_nil ?_
    intro _ hw'
    obtain ⟨⟨dq, osq⟩, hw''⟩ := hw'
    subst hw''
    have HB4 := Lib.hid (BC.out dq osq)
    clear heq y0 y3 y4 y5 z0 z1 z2 z3 z4 z5 cS BC
    generalize Go.Sort.grow (redrawn wa dq) osq = w4 at HB4 ⊢
    go_wp2_with fail
    go_ret
    exact ⟨rfl, HB4.out⟩
  · have hbf : b = false := by
      cases b
      · rfl
      · rcases hb.1 rfl with h | ⟨_, h, _⟩ | ⟨h, _⟩
        · omega
        · exact absurd h hk1
        · omega
    subst hbf
    obtain ⟨k1, hk1e⟩ : ∃ k1, k1 = k + 1 := ⟨_, rfl⟩
    have hd : decide (k1 < l.length) = false := decide_eq_false (by omega)
    rw [e, partV_2] at HLK
    have hwrap : IntKind.i64.wrap ((k : Int) + 1) = (k1 : Int) := by rw [IntKind.wrap_i64]; omega
    clear hb hs ha hx hat e hk1 hk1e
    go_enter Tryz.func186, Tryz.ntmps186
    go_wp2_with fail
    refine (HLK.out _ HAT.out).mono ?_; rintro e w1 ⟨rfl, hb1⟩
    have HB1 := Lib.hid hb1
    clear hb1
    go_wp2_with fail
    go_quiet (fail)
    go_wp2_with fail
    go_ret
    exact ⟨rfl, by have h1 := HB1.out; have h2 := h1.size; refine below_drewN ?_ _; repeat (first | exact h1 | refine Below.alloc ?_ (by first | exact h2 | (simp; omega)) _)⟩
set_option maxHeartbeats 1600000 in
theorem stands_3 (l : List Cl) (k : Nat) (b : Bool) (x : Value) (w : World) (hk : k < l.length) (hx : Cs w x l) (hs : Held l) (hl : l.length ≤ 1000000) (hb : b = true ↔ okAt l k) (e : kind (g l k) = 3) :
    Calls Tryz.prog 186 #[x, .int .i64 k] w fun e w' => e = .returned (.bool b) ∧ Below w.heap.size w w' := by
  obtain ⟨A, c, rfl, ha⟩ := hx.form
  obtain ⟨ad, rfl, hat⟩ := ha k hk
  have HLK := Lib.hid (fun w' (h : At w' (ad.add (k * 6)) (cvals (g l k))) => look_any (g l k) (ad.add (k * 6)) w' h (hs k hk))
  have HAT := Lib.hid hat
  by_cases hk1 : 0 < k
  · obtain ⟨j, hj⟩ : ∃ j, j = k - 1 := ⟨_, rfl⟩
    have hbb : b = decide ((g l j).wide = 1) := by
      have : b = true ↔ (g l j).wide = 1 := by
        rw [hb, hj]
        constructor
        · rintro (h | ⟨h, _⟩ | ⟨_, _, h⟩)
          · omega
          · omega
          · exact h
        · intro h; exact .inr (.inr ⟨e, hk1, h⟩)
      cases b
      · exact (decide_eq_false fun h => by have := this.2 h; cases this).symm
      · exact (decide_eq_true (this.1 rfl)).symm
    obtain ⟨ad', e2, hat2⟩ := ha j (by omega)
    injection e2 with e2
    subst e2
    have HAT2 := Lib.hid hat2
    have hbb2 : ((g l j).wide == 1) = b := by rw [hbb]; exact Bool.beq_eq_decide_eq _ _
    rw [e, partV_3] at HLK
    clear hb hs ha hx hat hat2 e hbb
    generalize g l j = d at hbb2 HAT2
    obtain ⟨dr, dc, dw, ⟨d1, d2, d3⟩⟩ := d
    have hwrap : IntKind.i64.wrap ((k : Int) - 1) = (j : Int) := by rw [IntKind.wrap_i64]; omega
    have hjl : j < l.length := by omega
    clear hj
    go_enter Tryz.func186, Tryz.ntmps186
    go_wp2_with fail
    refine (HLK.out _ HAT.out).mono ?_; rintro e w1 ⟨rfl, hb1⟩
    have HB1 := Lib.hid hb1
    have hD := HAT2.out.kept hb1
    have z2 := hD.next 1 rfl
    have zlt := World.block_lt_of_cell? w1 _ z2
    clear hb1 hD
    go_wp2_with fail
    go_ret
    exact ⟨rfl, by have h1 := HB1.out; have h2 := h1.size; repeat (first | exact h1 | refine Below.alloc ?_ (by first | exact h2 | (simp; omega)) _)⟩
  · have h0 : k = 0 := by omega
    subst h0
    have hbf : b = false := by
      cases b
      · rfl
      · rcases hb.1 rfl with h | ⟨h, _⟩ | ⟨_, h, _⟩ <;> omega
    subst hbf
    rw [e, partV_3] at HLK
    clear hb hs ha hx hat e hk1
    go_enter Tryz.func186, Tryz.ntmps186
    go_wp2_with fail
    refine (HLK.out _ HAT.out).mono ?_; rintro e w1 ⟨rfl, hb1⟩
    have HB1 := Lib.hid hb1
    clear hb1
    go_wp2_with fail
    go_ret
    exact ⟨rfl, by have h1 := HB1.out; have h2 := h1.size; repeat (first | exact h1 | refine Below.alloc ?_ (by first | exact h2 | (simp; omega)) _)⟩
theorem stands_any (l : List Cl) (k : Nat) (b : Bool) (x : Value) (w : World) (hk : k < l.length) (hx : Cs w x l) (hs : Held l) (hl : l.length ≤ 1000000) (hb : b = true ↔ okAt l k) :
    Calls Tryz.prog 186 #[x, .int .i64 k] w fun e w' => e = .returned (.bool b) ∧ Below w.heap.size w w' := by
  have hkl := kind_le (g l k)
  rcases (by omega : kind (g l k) = 0 ∨ kind (g l k) = 1 ∨ kind (g l k) = 2 ∨ kind (g l k) = 3) with e | e | e | e
  · exact stands_0 l k b x w hk hx hs hb e
  · exact stands_1 l k b x w hk hx hs hb e
  · exact stands_2 l k b x w hk hx hs hl hb e
  · exact stands_3 l k b x w hk hx hs hl hb e
theorem rowIn_at (n lo hi : Int) (b : Bool) (hb : rng n lo hi = b) (w : World) : Calls Tryz.prog 164 #[.int .i64 n, .int .i64 lo, .int .i64 hi] w fun e w' => e = .returned (.bool b) ∧ w = w' := by
  subst hb; exact rowIn_any n lo hi w
set_option maxHeartbeats 1600000 in
theorem rowCheck_any (l : List Cl) (b : Bool) (x : Value) (w : World) (hx : Cs w x l) (hs : Held l) (hl : l.length ≤ 1000000) (hb : b = true ↔ RowOk l) :
    Calls Tryz.prog 163 #[x] w fun e w' => e = .returned (.int .i64 (bif b then 0 else 1)) ∧ Below w.heap.size w w' := by
  have HX := Lib.hid hx
  obtain ⟨A, c, rfl, ha⟩ := hx.form
  clear ha
  by_cases hr : 1 ≤ l.length ∧ l.length ≤ 40
  · have H1 : Hid (rng (l.length : Int) 1 40 = true) := Lib.hid (by unfold rng; rw [decide_eq_true (show (1 : Int) ≤ (l.length : Int) by omega), decide_eq_true (show (l.length : Int) ≤ 40 by omega)]; rfl)
    have HS := Lib.hid hs
    have HB := Lib.hid hb
    clear hx hs hb
    go_enter Tryz.func163, Tryz.ntmps163
    go_wp2_with fail
    refine (rowIn_at _ _ _ _ H1.out _).mono ?_; rintro e w' ⟨rfl, rfl⟩
    go_wp2_with fail
    go_loopw [10] (fun i wr => ∃ k : Nat, k ≤ l.length ∧ i = .int .i64 k ∧ Hid (∀ j, j < k → okAt l j) ∧ Below w.heap.size w wr) (fun i _ => l.length - (intOf i).toNat)
    case atStart => exact ⟨0, by omega, rfl, Lib.hid fun j hj => absurd hj (by omega), Below.refl _ _⟩
    case round =>
      obtain ⟨k, hk, rfl, HG, hbl⟩ := hrel
      by_cases hlt : k < l.length
      · by_cases hok : okAt l k
        · have HOK : Hid (∀ j, j < k + 1 → okAt l j) := Lib.hid fun j hj => by
            by_cases hjk : j < k
            · exact HG.out j hjk
            · obtain rfl : j = k := by omega
              exact hok
          have HST := Lib.hid (stands_any l k true (.slice A l.length c) wr hlt (HX.out.kept hbl) HS.out hl ⟨fun _ => hok, fun _ => rfl⟩)
          clear hok
          go_wp2_with fail
          refine HST.out.mono ?_; rintro e w1 ⟨rfl, hb1⟩
          have HB1 : Hid (Below w.heap.size w w1) := Lib.hid (hbl.trans (hb1.mono hbl.size))
          clear hb1
          go_wp2_with fail
          go_roundw
          case rel => exact ⟨k + 1, by omega, by go_num, HOK, HB1.out⟩
          case measure => simp [intOf]; omega
        · have HST := Lib.hid (stands_any l k false (.slice A l.length c) wr hlt (HX.out.kept hbl) HS.out hl ⟨(fun h => by cases h), fun h => absurd h hok⟩)
          have hbf : b = false := by
            cases b
            · rfl
            · exact absurd ((HB.out.1 rfl).2.2 k hlt) hok
          subst hbf
          clear hok
          go_wp2_with fail
          refine HST.out.mono ?_; rintro e w1 ⟨rfl, hb1⟩
          have HB1 : Hid (Below w.heap.size w w1) := Lib.hid (hbl.trans (hb1.mono hbl.size))
          clear hb1
          go_wp2_with fail
          go_ret
          exact ⟨rfl, HB1.out⟩
      · have hkn : k = l.length := by omega
        subst hkn
        have hbt : b = true := HB.out.2 ⟨hr.1, hr.2, HG.out⟩
        subst hbt
        go_wp2_with fail
        go_ret
        exact ⟨rfl, hbl⟩
  · have H1 : Hid (rng (l.length : Int) 1 40 = false) := Lib.hid (by
      unfold rng
      rw [Bool.and_eq_false_iff]
      by_cases h : 1 ≤ l.length
      · exact .inr (decide_eq_false (by omega))
      · exact .inl (decide_eq_false (by omega)))
    have hbf : b = false := by
      cases b
      · rfl
      · have := hb.1 rfl; exact absurd ⟨this.1, this.2.1⟩ hr
    subst hbf
    clear hx hs hb hr
    go_enter Tryz.func163, Tryz.ntmps163
    go_wp2_with fail
    refine (rowIn_at _ _ _ _ H1.out _).mono ?_; rintro e w' ⟨rfl, rfl⟩
    go_wp2_with fail
    go_ret
    exact ⟨rfl, Below.refl _ _⟩
end Row
end
section
open Go.RowKit
namespace Row
open Utf Wid
set_option maxHeartbeats 400000 in
theorem cut_end (l : List Cl) (base : Nat) (v : Value) (w : World) (ho : OwnCs w base v l) :
    Calls Tryz.prog 208 #[v, .int .i64 l.length] w fun e w' => e = .returned (.tuple #[]) ∧ w = w' := by
  obtain ⟨A, c, rfl, _⟩ := ho.cs.form
  clear ho
  go_enter Tryz.func208, Tryz.ntmps208
  go_wp2_with fail
  go_returns
  exact ⟨rfl, rfl⟩
set_option maxHeartbeats 800000 in
theorem cut_not (l : List Cl) (base b k cap : Nat) (w : World) (ho : OwnCs w base (.slice (some ⟨b, 0, none⟩) l.length cap) l) (hs : Held l) (hk : k < l.length) (h0 : kind (g l k) ≠ 0) (h3 : kind (g l k) ≠ 3) :
    Calls Tryz.prog 208 #[.slice (some ⟨b, 0, none⟩) l.length cap, .int .i64 k] w fun e w' => e = .returned (.tuple #[]) ∧ Below w.heap.size w w' := by
  obtain ⟨A, c, e, ha⟩ := ho.cs.form
  injection e with e1 e2 e3
  subst e1
  obtain ⟨ad, e, hat⟩ := ha k hk
  injection e with e
  subst e
  have hl : ((⟨b, 0, none⟩ : Addr).add (k * 6)) = ⟨b, k * 6, none⟩ := by
    unfold Addr.add
    split
    · rename_i h; rw [h]
    · simp
  rw [hl] at hat
  have HLK := Lib.hid (fun w' (h : At w' ⟨b, k * 6, none⟩ (cvals (g l k))) => look_any (g l k) ⟨b, k * 6, none⟩ w' h (hs k hk))
  have HAT := Lib.hid hat
  have hkl := kind_le (g l k)
  have hne : ((k : Int) == (l.length : Int)) = false := by rw [beq_eq_false_iff_ne]; omega
  rcases (by omega : kind (g l k) = 1 ∨ kind (g l k) = 2) with e | e
  · rw [e, partV_1] at HLK
    clear ha hat hs ho h0 h3 e hkl hl
    go_enter Tryz.func208, Tryz.ntmps208
    go_wp2_with fail
    refine (HLK.out _ HAT.out).mono ?_; rintro e w1 ⟨rfl, hb1⟩
    have HB1 := Lib.hid hb1
    clear hb1
    go_wp2_with fail
    go_end0
    exact ⟨rfl, by have h1 := HB1.out; have h2 := h1.size; repeat (first | exact h1 | refine Below.alloc ?_ (by first | exact h2 | (simp; omega)) _)⟩
  · rw [e, partV_2] at HLK
    clear ha hat hs ho h0 h3 e hkl hl
    go_enter Tryz.func208, Tryz.ntmps208
    go_wp2_with fail
    refine (HLK.out _ HAT.out).mono ?_; rintro e w1 ⟨rfl, hb1⟩
    have HB1 := Lib.hid hb1
    clear hb1
    go_wp2_with fail
    go_end0
    exact ⟨rfl, by have h1 := HB1.out; have h2 := h1.size; repeat (first | exact h1 | refine Below.alloc ?_ (by first | exact h2 | (simp; omega)) _)⟩
theorem OwnCs.at {w : World} {base b n cap : Nat} {l : List Cl} (h : OwnCs w base (.slice (some ⟨b, 0, none⟩) n cap) l) {k : Nat} (hk : k < l.length) : At w ⟨b, k * 6, none⟩ (cvals (g l k)) := by
  intro j u hu
  have hj : j < 6 := (List.getElem?_eq_some_iff.1 hu).1
  have e : (⟨b, k * 6, none⟩ : Addr).add j = ⟨b, k * 6 + j, none⟩ := by
    unfold Addr.add
    split
    · rename_i h; rw [h]; rfl
    · rfl
  rw [e, h.cell hk hj]; exact hu
theorem first_facts {w : World} {base b n cap j : Nat} {l : List Cl} {r x a1 a2 a3 : Int} {c : List UInt8} (h : OwnCs w base (.slice (some ⟨b, 0, none⟩) n cap) l) (hj : j < l.length) (hg : g l j = ⟨r, c, x, ⟨a1, a2, a3⟩⟩) :
    w.cell? ⟨b, j * 6, none⟩ = some (.int .i64 r) ∧
    w.cell? ⟨b, j * 6 + 1, none⟩ = some (.string ⟨c.toArray⟩) ∧
    w.cell? ⟨b, j * 6 + 2, none⟩ = some (.int .i64 x) ∧
    w.cell? ⟨b, j * 6 + 3, none⟩ = some (.int .i64 a1) ∧
    w.cell? ⟨b, j * 6 + 4, none⟩ = some (.int .i64 a2) ∧
    w.cell? ⟨b, j * 6 + 5, none⟩ = some (.int .i64 a3) ∧
    w.frozen? ⟨b, j * 6, none⟩ = false ∧
    w.frozen? ⟨b, j * 6 + 1, none⟩ = false ∧
    w.frozen? ⟨b, j * 6 + 2, none⟩ = false ∧
    w.frozen? ⟨b, j * 6 + 3, none⟩ = false ∧
    w.frozen? ⟨b, j * 6 + 4, none⟩ = false ∧
    w.frozen? ⟨b, j * 6 + 5, none⟩ = false := by
  have e : ∀ i, i < 6 → w.cell? ⟨b, j * 6 + i, none⟩ = (cvals ⟨r, c, x, ⟨a1, a2, a3⟩⟩)[i]? := fun i hi => by rw [h.cell hj hi, hg]
  exact ⟨e 0 (by decide), e 1 (by decide), e 2 (by decide), e 3 (by decide), e 4 (by decide), e 5 (by decide), h.free _, h.free _, h.free _, h.free _, h.free _, h.free _⟩
theorem second_facts {w : World} {base b n cap j k : Nat} {l : List Cl} {jb r x a1 a2 a3 : Int} {c : List UInt8} (h : OwnCs (putCell w b j ⟨32, [], 0, ⟨-1, jb, 0⟩⟩) base (.slice (some ⟨b, 0, none⟩) n cap) l) (hk : k < l.length) (hg : g l k = ⟨r, c, x, ⟨a1, a2, a3⟩⟩) :
    ((((((w.setCell ⟨b, j * 6, none⟩ (.int .i64 32)).setCell ⟨b, j * 6 + 1, none⟩ (.string ⟨#[]⟩)).setCell ⟨b, j * 6 + 2, none⟩ (.int .i64 0)).setCell ⟨b, j * 6 + 3, none⟩ (.int .i64 (-1))).setCell ⟨b, j * 6 + 4, none⟩ (.int .i64 jb)).setCell ⟨b, j * 6 + 5, none⟩ (.int .i64 0)).cell? ⟨b, k * 6, none⟩ = some (.int .i64 r) ∧
    ((((((w.setCell ⟨b, j * 6, none⟩ (.int .i64 32)).setCell ⟨b, j * 6 + 1, none⟩ (.string ⟨#[]⟩)).setCell ⟨b, j * 6 + 2, none⟩ (.int .i64 0)).setCell ⟨b, j * 6 + 3, none⟩ (.int .i64 (-1))).setCell ⟨b, j * 6 + 4, none⟩ (.int .i64 jb)).setCell ⟨b, j * 6 + 5, none⟩ (.int .i64 0)).cell? ⟨b, k * 6 + 1, none⟩ = some (.string ⟨c.toArray⟩) ∧
    ((((((w.setCell ⟨b, j * 6, none⟩ (.int .i64 32)).setCell ⟨b, j * 6 + 1, none⟩ (.string ⟨#[]⟩)).setCell ⟨b, j * 6 + 2, none⟩ (.int .i64 0)).setCell ⟨b, j * 6 + 3, none⟩ (.int .i64 (-1))).setCell ⟨b, j * 6 + 4, none⟩ (.int .i64 jb)).setCell ⟨b, j * 6 + 5, none⟩ (.int .i64 0)).cell? ⟨b, k * 6 + 2, none⟩ = some (.int .i64 x) ∧
    ((((((w.setCell ⟨b, j * 6, none⟩ (.int .i64 32)).setCell ⟨b, j * 6 + 1, none⟩ (.string ⟨#[]⟩)).setCell ⟨b, j * 6 + 2, none⟩ (.int .i64 0)).setCell ⟨b, j * 6 + 3, none⟩ (.int .i64 (-1))).setCell ⟨b, j * 6 + 4, none⟩ (.int .i64 jb)).setCell ⟨b, j * 6 + 5, none⟩ (.int .i64 0)).cell? ⟨b, k * 6 + 3, none⟩ = some (.int .i64 a1) ∧
    ((((((w.setCell ⟨b, j * 6, none⟩ (.int .i64 32)).setCell ⟨b, j * 6 + 1, none⟩ (.string ⟨#[]⟩)).setCell ⟨b, j * 6 + 2, none⟩ (.int .i64 0)).setCell ⟨b, j * 6 + 3, none⟩ (.int .i64 (-1))).setCell ⟨b, j * 6 + 4, none⟩ (.int .i64 jb)).setCell ⟨b, j * 6 + 5, none⟩ (.int .i64 0)).cell? ⟨b, k * 6 + 4, none⟩ = some (.int .i64 a2) ∧
    ((((((w.setCell ⟨b, j * 6, none⟩ (.int .i64 32)).setCell ⟨b, j * 6 + 1, none⟩ (.string ⟨#[]⟩)).setCell ⟨b, j * 6 + 2, none⟩ (.int .i64 0)).setCell ⟨b, j * 6 + 3, none⟩ (.int .i64 (-1))).setCell ⟨b, j * 6 + 4, none⟩ (.int .i64 jb)).setCell ⟨b, j * 6 + 5, none⟩ (.int .i64 0)).cell? ⟨b, k * 6 + 5, none⟩ = some (.int .i64 a3) ∧
    ((((((w.setCell ⟨b, j * 6, none⟩ (.int .i64 32)).setCell ⟨b, j * 6 + 1, none⟩ (.string ⟨#[]⟩)).setCell ⟨b, j * 6 + 2, none⟩ (.int .i64 0)).setCell ⟨b, j * 6 + 3, none⟩ (.int .i64 (-1))).setCell ⟨b, j * 6 + 4, none⟩ (.int .i64 jb)).setCell ⟨b, j * 6 + 5, none⟩ (.int .i64 0)).frozen? ⟨b, k * 6, none⟩ = false ∧
    ((((((w.setCell ⟨b, j * 6, none⟩ (.int .i64 32)).setCell ⟨b, j * 6 + 1, none⟩ (.string ⟨#[]⟩)).setCell ⟨b, j * 6 + 2, none⟩ (.int .i64 0)).setCell ⟨b, j * 6 + 3, none⟩ (.int .i64 (-1))).setCell ⟨b, j * 6 + 4, none⟩ (.int .i64 jb)).setCell ⟨b, j * 6 + 5, none⟩ (.int .i64 0)).frozen? ⟨b, k * 6 + 1, none⟩ = false ∧
    ((((((w.setCell ⟨b, j * 6, none⟩ (.int .i64 32)).setCell ⟨b, j * 6 + 1, none⟩ (.string ⟨#[]⟩)).setCell ⟨b, j * 6 + 2, none⟩ (.int .i64 0)).setCell ⟨b, j * 6 + 3, none⟩ (.int .i64 (-1))).setCell ⟨b, j * 6 + 4, none⟩ (.int .i64 jb)).setCell ⟨b, j * 6 + 5, none⟩ (.int .i64 0)).frozen? ⟨b, k * 6 + 2, none⟩ = false ∧
    ((((((w.setCell ⟨b, j * 6, none⟩ (.int .i64 32)).setCell ⟨b, j * 6 + 1, none⟩ (.string ⟨#[]⟩)).setCell ⟨b, j * 6 + 2, none⟩ (.int .i64 0)).setCell ⟨b, j * 6 + 3, none⟩ (.int .i64 (-1))).setCell ⟨b, j * 6 + 4, none⟩ (.int .i64 jb)).setCell ⟨b, j * 6 + 5, none⟩ (.int .i64 0)).frozen? ⟨b, k * 6 + 3, none⟩ = false ∧
    ((((((w.setCell ⟨b, j * 6, none⟩ (.int .i64 32)).setCell ⟨b, j * 6 + 1, none⟩ (.string ⟨#[]⟩)).setCell ⟨b, j * 6 + 2, none⟩ (.int .i64 0)).setCell ⟨b, j * 6 + 3, none⟩ (.int .i64 (-1))).setCell ⟨b, j * 6 + 4, none⟩ (.int .i64 jb)).setCell ⟨b, j * 6 + 5, none⟩ (.int .i64 0)).frozen? ⟨b, k * 6 + 4, none⟩ = false ∧
    ((((((w.setCell ⟨b, j * 6, none⟩ (.int .i64 32)).setCell ⟨b, j * 6 + 1, none⟩ (.string ⟨#[]⟩)).setCell ⟨b, j * 6 + 2, none⟩ (.int .i64 0)).setCell ⟨b, j * 6 + 3, none⟩ (.int .i64 (-1))).setCell ⟨b, j * 6 + 4, none⟩ (.int .i64 jb)).setCell ⟨b, j * 6 + 5, none⟩ (.int .i64 0)).frozen? ⟨b, k * 6 + 5, none⟩ = false :=
  first_facts h hk hg
theorem put_far {w : World} {b p : Nat} (h : b ≠ p) (k : Nat) (c : Cl) (o : Nat) : (putCell w b k c).cell? ⟨p, o, none⟩ = w.cell? ⟨p, o, none⟩ := by
  unfold putCell
  rw [World.cell?_setCell_far _ _ _ _ h, World.cell?_setCell_far _ _ _ _ h, World.cell?_setCell_far _ _ _ _ h, World.cell?_setCell_far _ _ _ _ h, World.cell?_setCell_far _ _ _ _ h, World.cell?_setCell_far _ _ _ _ h]
theorem far_1 {w : World} {b p j o : Nat} {jb : Int} {v : Value} (h : b ≠ p) (hc : w.cell? ⟨p, o, none⟩ = some v) :
    ((((((w.setCell ⟨b, j * 6, none⟩ (.int .i64 32)).setCell ⟨b, j * 6 + 1, none⟩ (.string ⟨#[]⟩)).setCell ⟨b, j * 6 + 2, none⟩ (.int .i64 0)).setCell ⟨b, j * 6 + 3, none⟩ (.int .i64 (-1))).setCell ⟨b, j * 6 + 4, none⟩ (.int .i64 jb)).setCell ⟨b, j * 6 + 5, none⟩ (.int .i64 0)).cell? ⟨p, o, none⟩ = some v := (put_far h j ⟨32, [], 0, ⟨-1, jb, 0⟩⟩ o).trans hc
theorem far_2 {w : World} {b p j k o : Nat} {jb kb : Int} {v : Value} (h : b ≠ p) (hc : w.cell? ⟨p, o, none⟩ = some v) :
    ((((((((((((w.setCell ⟨b, j * 6, none⟩ (.int .i64 32)).setCell ⟨b, j * 6 + 1, none⟩ (.string ⟨#[]⟩)).setCell ⟨b, j * 6 + 2, none⟩ (.int .i64 0)).setCell ⟨b, j * 6 + 3, none⟩ (.int .i64 (-1))).setCell ⟨b, j * 6 + 4, none⟩ (.int .i64 jb)).setCell ⟨b, j * 6 + 5, none⟩ (.int .i64 0)).setCell ⟨b, k * 6, none⟩ (.int .i64 32)).setCell ⟨b, k * 6 + 1, none⟩ (.string ⟨#[]⟩)).setCell ⟨b, k * 6 + 2, none⟩ (.int .i64 0)).setCell ⟨b, k * 6 + 3, none⟩ (.int .i64 (-1))).setCell ⟨b, k * 6 + 4, none⟩ (.int .i64 kb)).setCell ⟨b, k * 6 + 5, none⟩ (.int .i64 0)).cell? ⟨p, o, none⟩ = some v := (put_far h k ⟨32, [], 0, ⟨-1, kb, 0⟩⟩ o).trans (far_1 h hc)
set_option maxHeartbeats 6400000 in
theorem cut_pair (l : List Cl) (base b j k cap : Nat) (w : World) (ho : OwnCs w base (.slice (some ⟨b, 0, none⟩) l.length cap) l) (hb : base ≤ w.heap.size) (hs : Held l) (hl : l.length ≤ 1000000) (hk : k < l.length) (hj : k = j + 1) (h3 : kind (g l k) = 3) (h2 : kind (g l j) = 2) :
    Calls Tryz.prog 208 #[.slice (some ⟨b, 0, none⟩) l.length cap, .int .i64 k] w fun e w' => e = .returned (.tuple #[]) ∧ OwnCs w' base (.slice (some ⟨b, 0, none⟩) l.length cap) ((l.set j (blank (g l j).a)).set k (blank (g l k).a)) ∧ Below base w w' := by
  have hjl : j < l.length := by omega
  have hwrap : IntKind.i64.wrap ((k : Int) - 1) = (j : Int) := by rw [IntKind.wrap_i64]; omega
  have hne : ((k : Int) == (l.length : Int)) = false := by rw [beq_eq_false_iff_ne]; omega
  have HLK := Lib.hid (fun w' (h : At w' ⟨b, k * 6, none⟩ (cvals (g l k))) => look_any (g l k) ⟨b, k * 6, none⟩ w' h (hs k hk))
  have HLJ := Lib.hid (fun w' (h : At w' ⟨b, j * 6, none⟩ (cvals (g l j))) => look_any (g l j) ⟨b, j * 6, none⟩ w' h (hs j hjl))
  rw [h3, partV_3] at HLK
  rw [h2, partV_2] at HLJ
  have HO := Lib.hid ho
  have HBS := Lib.hid hb
  have hbb : base ≤ b := by
    rcases ho.shape with ⟨e, _⟩ | ⟨b', _, e, h, _⟩
    · injection e with e; cases e
    · injection e with e; injection e with e; injection e with e; rw [e]; exact h
  have hlt : b < w.heap.size := (ho.lt b rfl).2
  have HBB := Lib.hid hbb
  have HJK := Lib.hid hj
  clear hs ho h3 h2 hb hbb hj
  go_enter Tryz.func208, Tryz.ntmps208
  go_wp2_with fail
  refine (HLK.out _ (HO.out.at hk)).mono ?_; rintro e w1 ⟨rfl, hb1⟩
  have HB1 := Lib.hid hb1
  have z1 := hb1.size
  clear hb1
  go_wp2_with fail
  have hb2 : Below w.heap.size w (w1.alloc (.cells #[.pointer (some ⟨b, k * 6, none⟩)] 218)) := HB1.out.alloc HB1.out.size _
  refine (HLJ.out _ ((HO.out.kept hb2).at hjl)).mono ?_; rintro e w2 ⟨rfl, hb3⟩
  have HB3 : Hid (Below w.heap.size w w2) := Lib.hid (hb2.trans (hb3.mono hb2.size))
  have HP4 : Hid (w2.heap[w1.heap.size]? = some (.cells #[.pointer (some ⟨b, k * 6, none⟩)] 218 (0, 0))) := Lib.hid (Blk.kept (heap_alloc_new _ _) hb3)
  have z3 : w1.heap.size < w2.heap.size := Blk.lt HP4.out
  clear hb2 hb3
  go_wp2_with fail
  have HB4 : Hid (Below w.heap.size w (w2.alloc (.cells #[.pointer (some ⟨b, j * 6, none⟩)] 222))) := Lib.hid (HB3.out.alloc HB3.out.size _)
  have HP4' : Hid ((w2.alloc (.cells #[.pointer (some ⟨b, j * 6, none⟩)] 222)).heap[w1.heap.size]? = some (.cells #[.pointer (some ⟨b, k * 6, none⟩)] 218 (0, 0))) := Lib.hid (by rw [heap_alloc_old _ _ z3]; exact HP4.out)
  have HP6 : Hid ((w2.alloc (.cells #[.pointer (some ⟨b, j * 6, none⟩)] 222)).heap[w2.heap.size]? = some (.cells #[.pointer (some ⟨b, j * 6, none⟩)] 222 (0, 0))) := Lib.hid (heap_alloc_new _ _)
  generalize w2.heap.size = p6 at HP6 z3 ⊢
  generalize w1.heap.size = p4 at HP4' z1 z3 ⊢
  generalize w2.alloc (.cells #[.pointer (some ⟨b, j * 6, none⟩)] 222) = w3 at HB4 HP4' HP6 ⊢
  clear HP4 HB3 HB1
  have HO3 := Lib.hid (HO.out.kept HB4.out)
  have hn4 : b ≠ p4 := by omega
  have hn6 : b ≠ p6 := by omega
  have hn46 : p4 ≠ p6 := by omega
  have HJN : Hid (j ≠ k) := Lib.hid (by have := HJK.out; omega)
  have hq4 : w3.cell? ⟨p4, 0, none⟩ = some (.pointer (some ⟨b, k * 6, none⟩)) := Blk.cell HP4'.out 0
  have hq6 : w3.cell? ⟨p6, 0, none⟩ = some (.pointer (some ⟨b, j * 6, none⟩)) := Blk.cell HP6.out 0
  have HF : Hid (∃ f : Cl, g l j = f) := Lib.hid ⟨_, rfl⟩
  have aj := HO3.out.at hjl
  have ak := HO3.out.at hk
  have HPJ := Lib.hid (fun (w' : World) (h : OwnCs w' base (.slice (some ⟨b, 0, none⟩) l.length cap) l) => h.put hjl (blank (g l j).a))
  have HGK : Hid (g (l.set j (blank (g l j).a)) k = g l k) := Lib.hid (g_set_ne HJN.out _)
  have HKL : Hid (k < (l.set j (blank (g l j).a)).length) := Lib.hid (by rw [List.length_set]; exact hk)
  have HPK := Lib.hid (fun (w' : World) (h : OwnCs w' base (.slice (some ⟨b, 0, none⟩) l.length cap) (l.set j (blank (g l j).a))) => h.put HKL.out (blank (g l k).a))
  have HBJ := Lib.hid (fun w' => blank_any (g l j).a w')
  have HBK := Lib.hid (fun w' => blank_any (g l k).a w')
  generalize l.set j (blank (g l j).a) = lj at HPJ HGK HKL HPK ⊢
  generalize hfj : g l j = fj at aj HPJ HBJ
  generalize hfk : g l k = fk at ak HGK HPK HBK ⊢
  have HFJ := Lib.hid hfj
  have HFK := Lib.hid hfk
  clear hfj hfk HF
  obtain ⟨jr, jc, jw, ⟨j1, j2, j3⟩⟩ := fj
  obtain ⟨kr, kc, kw, ⟨k1, k2, k3⟩⟩ := fk
  have HEND : Hid (∀ wB, OwnCs wB base (.slice (some ⟨b, 0, none⟩) l.length cap) l → OwnCs (putCell (putCell wB b j ⟨32, [], 0, ⟨-1, j2, 0⟩⟩) b k ⟨32, [], 0, ⟨-1, k2, 0⟩⟩) base (.slice (some ⟨b, 0, none⟩) l.length cap) ((l.set j (blank (g l j).a)).set k (blank (g l k).a))) := Lib.hid fun wB h => by
    have h1 := h.put hjl (blank (g l j).a)
    have h2 := h1.put (show k < (l.set j (blank (g l j).a)).length by rw [List.length_set]; exact hk) (blank (g l k).a)
    rw [HFJ.out, HFK.out] at h2 ⊢
    exact h2
  have x3 := aj.next 2 rfl
  have x4 := aj.next 3 rfl
  have x5 := aj.next 4 rfl
  have y3 := ak.next 2 rfl
  have y4 := ak.next 3 rfl
  have y5 := ak.next 4 rfl
  clear aj ak
  have HBJ : Hid (∀ w', Calls Tryz.prog 211 #[.agg #[.int .i64 j1, .int .i64 j2, .int .i64 j3]] w' fun e w'' => e = .returned (.agg #[.int .i64 32, .string ⟨#[]⟩, .int .i64 0, .int .i64 (-1), .int .i64 j2, .int .i64 0]) ∧ Below w'.heap.size w' w'') := HBJ
  have HBK : Hid (∀ w', Calls Tryz.prog 211 #[.agg #[.int .i64 k1, .int .i64 k2, .int .i64 k3]] w' fun e w'' => e = .returned (.agg #[.int .i64 32, .string ⟨#[]⟩, .int .i64 0, .int .i64 (-1), .int .i64 k2, .int .i64 0]) ∧ Below w'.heap.size w' w'') := HBK
  have HBW : Hid (Below base w w3) := Lib.hid (HB4.out.mono HBS.out)
  have z9 := Blk.lt HP6.out
  have q4 : w3.drew.cell? ⟨p4, 0, none⟩ = some (.pointer (some ⟨b, k * 6, none⟩)) := hq4
  have q6 : w3.drew.cell? ⟨p6, 0, none⟩ = some (.pointer (some ⟨b, j * 6, none⟩)) := hq6
  refine wp_region_held_drew (S := fun w' => w'.cell? ⟨p4, 0, none⟩ = some (.pointer (some ⟨b, k * 6, none⟩)) ∧ w'.cell? ⟨p6, 0, none⟩ = some (.pointer (some ⟨b, j * 6, none⟩))) (by kernel_rfl) ⟨q4, q6⟩ (fun hHeld => ?_)
  refine wpAnyH_take (i := 0) (v := ?_) rfl (by kernel_rfl) (by kernel_rfl) (by kernel_rfl) (fun _ _ _ h => h) (Or.inl ⟨by rfl, ?_⟩) (by assumption) ?_
  rotate_left
  · intro w' hSw; first | (go_simp; done) | (go_simp; with_reducible rfl)
  simp only [Act.put, List.getElem_toArray, List.getElem_cons_zero, List.setIfInBounds_toArray, List.set_cons_zero, List.set_cons_succ]
  refine wpAnyH_take (i := 1) (v := ?_) rfl (by kernel_rfl) (by kernel_rfl) (by kernel_rfl) (fun _ _ _ h => h) (Or.inl ⟨by rfl, ?_⟩) (by assumption) ?_
  rotate_left
  · intro w' hSw; first | (go_simp; done) | (go_simp; with_reducible rfl)
  simp only [Act.put, List.getElem_toArray, List.getElem_cons_zero, List.getElem_cons_succ, List.setIfInBounds_toArray, List.set_cons_zero, List.set_cons_succ]
  refine wpAnyH_take (i := 2) (v := ?_) rfl (by kernel_rfl) (by kernel_rfl) (by kernel_rfl) (fun _ _ _ h => h) (Or.inl ⟨by rfl, ?_⟩) (by assumption) ?_
  rotate_left
  · intro w' hSw; first | (go_simp; done) | (go_simp; with_reducible rfl)
  simp only [Act.put, List.getElem_toArray, List.getElem_cons_zero, List.getElem_cons_succ, List.setIfInBounds_toArray, List.set_cons_zero, List.set_cons_succ]
  refine wpAnyH_take (i := 3) (v := ?_) rfl (by kernel_rfl) (by kernel_rfl) (by kernel_rfl) (fun _ _ _ h => h) (Or.inl ⟨by rfl, ?_⟩) (by assumption) ?_
  rotate_left
  · intro w' hSw; first | (go_simp; done) | (go_simp; with_reducible rfl)
  simp only [Act.put, List.getElem_toArray, List.getElem_cons_zero, List.getElem_cons_succ, List.setIfInBounds_toArray, List.set_cons_zero, List.set_cons_succ]
  refine wpAnyH_take (i := 4) (v := ?_) rfl (by kernel_rfl) (by kernel_rfl) (by kernel_rfl) (fun _ _ _ h => h) (Or.inl ⟨by rfl, ?_⟩) (by assumption) ?_
  rotate_left
  · intro w' hSw; first | (go_simp; done) | (go_simp; with_reducible rfl)
  simp only [Act.put, List.getElem_toArray, List.getElem_cons_zero, List.getElem_cons_succ, List.setIfInBounds_toArray, List.set_cons_zero, List.set_cons_succ]
  refine wpAnyH_take (i := 5) (v := ?_) rfl (by kernel_rfl) (by kernel_rfl) (by kernel_rfl) (fun _ _ _ h => h) (Or.inl ⟨by rfl, ?_⟩) (by assumption) ?_
  rotate_left
  · intro w' hSw; first | (go_simp; done) | (go_simp; with_reducible rfl)
  simp only [Act.put, List.getElem_toArray, List.getElem_cons_zero, List.getElem_cons_succ, List.setIfInBounds_toArray, List.set_cons_zero, List.set_cons_succ]
  refine wpAnyH_take (i := 6) (v := ?_) rfl (by kernel_rfl) (by kernel_rfl) (by kernel_rfl) (fun _ _ _ h => h) (Or.inl ⟨by rfl, ?_⟩) (by assumption) ?_
  rotate_left
  · intro w' hSw; first | (go_simp; done) | (go_simp; with_reducible rfl)
  simp only [Act.put, List.getElem_toArray, List.getElem_cons_zero, List.getElem_cons_succ, List.setIfInBounds_toArray, List.set_cons_zero, List.set_cons_succ]
  refine wpAnyH_take (i := 7) (v := ?_) rfl (by kernel_rfl) (by kernel_rfl) (by kernel_rfl) (fun _ _ _ h => h) (Or.inl ⟨by rfl, ?_⟩) (by assumption) ?_
  rotate_left
  · intro w' hSw; first | (go_simp; done) | (go_simp; with_reducible rfl)
  simp only [Act.put, List.getElem_toArray, List.getElem_cons_zero, List.getElem_cons_succ, List.setIfInBounds_toArray, List.set_cons_zero, List.set_cons_succ]
  refine wpAnyH_take (i := 10) (v := ?_) rfl (by kernel_rfl) (by kernel_rfl) (by kernel_rfl) (fun _ _ _ h => h) (Or.inl ⟨by rfl, ?_⟩) (by assumption) ?_
  rotate_left
  · intro w' hSw; first | (go_simp; done) | (go_simp; with_reducible rfl)
  simp only [Act.put, List.getElem_toArray, List.getElem_cons_zero, List.getElem_cons_succ, List.setIfInBounds_toArray, List.set_cons_zero, List.set_cons_succ]
  refine wpAnyH_take (i := 11) (v := ?_) rfl (by kernel_rfl) (by kernel_rfl) (by kernel_rfl) (fun _ _ _ h => h) (Or.inl ⟨by rfl, ?_⟩) (by assumption) ?_
  rotate_left
  · intro w' hSw; first | (go_simp; done) | (go_simp; with_reducible rfl)
  simp only [Act.put, List.getElem_toArray, List.getElem_cons_zero, List.getElem_cons_succ, List.setIfInBounds_toArray, List.set_cons_zero, List.set_cons_succ]
  refine wpAnyH_take (i := 12) (v := ?_) rfl (by kernel_rfl) (by kernel_rfl) (by kernel_rfl) (fun _ _ _ h => h) (Or.inl ⟨by rfl, ?_⟩) (by assumption) ?_
  rotate_left
  · intro w' hSw; first | (go_simp; done) | (go_simp; with_reducible rfl)
  simp only [Act.put, List.getElem_toArray, List.getElem_cons_zero, List.getElem_cons_succ, List.setIfInBounds_toArray, List.set_cons_zero, List.set_cons_succ]
  refine wpAnyH_take (i := 13) (v := ?_) rfl (by kernel_rfl) (by kernel_rfl) (by kernel_rfl) (fun _ _ _ h => h) (Or.inl ⟨by rfl, ?_⟩) (by assumption) ?_
  rotate_left
  · intro w' hSw; first | (go_simp; done) | (go_simp; with_reducible rfl)
  simp only [Act.put, List.getElem_toArray, List.getElem_cons_zero, List.getElem_cons_succ, List.setIfInBounds_toArray, List.set_cons_zero, List.set_cons_succ]
  refine wpAnyH_ready (rs := [8, 14]) (by kernel_rfl) (by simp) ?_
  refine AllReadyH.cons rfl (fun K hK => ?_) ?_
  · go_simp
    refine hK.out _ _ ⟨q4, q6⟩ (fun hHeld => ?_)
    clear hK K
    refine wpAnyH_ready (rs := [9, 14]) (by kernel_rfl) (by simp) ?_
    refine AllReadyH.cons rfl (fun K hK => ?_) ?_
    · go_simp
      go_wp2_with (go_at_call 211; refine (HBJ.out _).mono ?_; rintro e wA ⟨rfl, hbA⟩; have hbA : Below w3.heap.size w3 wA := (Below.refl _ _).drew.trans hbA; have HOA := Lib.hid (HO3.out.kept hbA); have HBWA : Hid (Below base w wA) := Lib.hid (HBW.out.trans (hbA.mono (Nat.le_trans HBS.out HB4.out.size))); have c4A := cell_kept hbA hq4; have c6A := cell_kept hbA hq6; have y3A := cell_kept hbA y3; have y4A := cell_kept hbA y4; have y5A := cell_kept hbA y5; have HSZ : Hid (w3.heap.size ≤ wA.heap.size) := Lib.hid hbA.size; clear hbA)
      refine hK.out _ _ ⟨c4A, c6A⟩ (fun hHeld => ?_)
      clear hK K
      refine wpAnyH_ready (rs := [14]) (by kernel_rfl) (by simp) ?_
      refine AllReadyH.cons rfl (fun K hK => ?_) ?_
      · go_simp
        refine hK.out _ _ ⟨c4A, c6A⟩ (fun hHeld => ?_)
        clear hK K
        refine wpAnyH_ready (rs := [15]) (by kernel_rfl) (by simp) ?_
        refine AllReadyH.cons rfl (fun K hK => ?_) ?_
        · go_simp
          go_wp2_with (go_at_call 211; refine (HBK.out _).mono ?_; rintro e wB ⟨rfl, hbB⟩; have HOB := Lib.hid (HOA.out.kept hbB); have HBWB : Hid (Below base w wB) := Lib.hid (HBWA.out.trans (hbB.mono (Nat.le_trans HBS.out (Nat.le_trans HB4.out.size HSZ.out)))); have c4B := cell_kept hbB c4A; have c6B := cell_kept hbB c6A; obtain ⟨d0, d1, d2, d3, d4, d5, f0, f1, f2, f3, f4, f5⟩ := first_facts HOB.out hjl HFJ.out; obtain ⟨e0, e1, e2, e3, e4, e5, g0, g1, g2, g3, g4, g5⟩ := second_facts (HPJ.out _ HOB.out) HKL.out HGK.out; have v4 := far_1 (j := j) (jb := j2) hn4 c4B; have v6 := far_1 (j := j) (jb := j2) hn6 c6B; have u4 := far_2 (j := j) (k := k) (jb := j2) (kb := k2) hn4 c4B; have u6 := far_2 (j := j) (k := k) (jb := j2) (kb := k2) hn6 c6B; clear hbB)
          refine hK.out _ _ ⟨c4B, c6B⟩ (fun hHeld => ?_)
          clear hK K
          refine wpAnyH_take (i := 16) (v := ?_) rfl (by kernel_rfl) (by kernel_rfl) (by kernel_rfl) (fun _ _ _ h => h) (Or.inl ⟨by rfl, ?_⟩) (by assumption) ?_
          rotate_left
          · intro w' hSw; first | (go_simp; done) | (go_simp; with_reducible rfl)
          simp only [Act.put, List.getElem_toArray, List.getElem_cons_zero, List.getElem_cons_succ, List.setIfInBounds_toArray, List.set_cons_zero, List.set_cons_succ]
          refine wpAnyH_ready (rs := [17]) (by kernel_rfl) (by simp) ?_
          refine AllReadyH.cons rfl (fun K hK => ?_) ?_
          · go_simp
            refine hK.out _ _ ⟨v4, v6⟩ (fun hHeld => ?_)
            clear hK K
            refine wpAnyH_take (i := 18) (v := ?_) rfl (by kernel_rfl) (by kernel_rfl) (by kernel_rfl) (fun _ _ _ h => h) (Or.inl ⟨by rfl, ?_⟩) (by assumption) ?_
            rotate_left
            · intro w' hSw; first | (go_simp; done) | (go_simp; with_reducible rfl)
            simp only [Act.put, List.getElem_toArray, List.getElem_cons_zero, List.getElem_cons_succ, List.setIfInBounds_toArray, List.set_cons_zero, List.set_cons_succ]
            refine wpAnyH_ready (rs := [19]) (by kernel_rfl) (by simp) ?_
            refine AllReadyH.cons rfl (fun K hK => ?_) ?_
            · go_simp
              refine hK.out _ _ ⟨u4, u6⟩ (fun hHeld => ?_)
              clear hK K
              refine wpAnyH_done (by kernel_rfl) ?_ _
              go_wp2_with fail
              go_end0
              exact ⟨rfl, HEND.out _ HOB.out, below_put (below_put HBWB.out HBB.out j ⟨32, [], 0, ⟨-1, j2, 0⟩⟩) HBB.out k ⟨32, [], 0, ⟨-1, k2, 0⟩⟩⟩
            exact AllReadyH.nil
          exact AllReadyH.nil
        exact AllReadyH.nil
      exact AllReadyH.nil
    refine AllReadyH.cons rfl (fun K hK => ?_) ?_
    · go_simp
      refine hK.out _ _ ⟨q4, q6⟩ (fun hHeld => ?_)
      clear hK K
      refine wpAnyH_ready (rs := [9]) (by kernel_rfl) (by simp) ?_
      refine AllReadyH.cons rfl (fun K hK => ?_) ?_
      · go_simp
        go_wp2_with (go_at_call 211; refine (HBJ.out _).mono ?_; rintro e wA ⟨rfl, hbA⟩; have hbA : Below w3.heap.size w3 wA := (Below.refl _ _).drew.trans hbA; have HOA := Lib.hid (HO3.out.kept hbA); have HBWA : Hid (Below base w wA) := Lib.hid (HBW.out.trans (hbA.mono (Nat.le_trans HBS.out HB4.out.size))); have c4A := cell_kept hbA hq4; have c6A := cell_kept hbA hq6; have y3A := cell_kept hbA y3; have y4A := cell_kept hbA y4; have y5A := cell_kept hbA y5; have HSZ : Hid (w3.heap.size ≤ wA.heap.size) := Lib.hid hbA.size; clear hbA)
        refine hK.out _ _ ⟨c4A, c6A⟩ (fun hHeld => ?_)
        clear hK K
        refine wpAnyH_ready (rs := [15]) (by kernel_rfl) (by simp) ?_
        refine AllReadyH.cons rfl (fun K hK => ?_) ?_
        · go_simp
          go_wp2_with (go_at_call 211; refine (HBK.out _).mono ?_; rintro e wB ⟨rfl, hbB⟩; have HOB := Lib.hid (HOA.out.kept hbB); have HBWB : Hid (Below base w wB) := Lib.hid (HBWA.out.trans (hbB.mono (Nat.le_trans HBS.out (Nat.le_trans HB4.out.size HSZ.out)))); have c4B := cell_kept hbB c4A; have c6B := cell_kept hbB c6A; obtain ⟨d0, d1, d2, d3, d4, d5, f0, f1, f2, f3, f4, f5⟩ := first_facts HOB.out hjl HFJ.out; obtain ⟨e0, e1, e2, e3, e4, e5, g0, g1, g2, g3, g4, g5⟩ := second_facts (HPJ.out _ HOB.out) HKL.out HGK.out; have v4 := far_1 (j := j) (jb := j2) hn4 c4B; have v6 := far_1 (j := j) (jb := j2) hn6 c6B; have u4 := far_2 (j := j) (k := k) (jb := j2) (kb := k2) hn4 c4B; have u6 := far_2 (j := j) (k := k) (jb := j2) (kb := k2) hn6 c6B; clear hbB)
          refine hK.out _ _ ⟨c4B, c6B⟩ (fun hHeld => ?_)
          clear hK K
          refine wpAnyH_take (i := 16) (v := ?_) rfl (by kernel_rfl) (by kernel_rfl) (by kernel_rfl) (fun _ _ _ h => h) (Or.inl ⟨by rfl, ?_⟩) (by assumption) ?_
          rotate_left
          · intro w' hSw; first | (go_simp; done) | (go_simp; with_reducible rfl)
          simp only [Act.put, List.getElem_toArray, List.getElem_cons_zero, List.getElem_cons_succ, List.setIfInBounds_toArray, List.set_cons_zero, List.set_cons_succ]
          refine wpAnyH_ready (rs := [17]) (by kernel_rfl) (by simp) ?_
          refine AllReadyH.cons rfl (fun K hK => ?_) ?_
          · go_simp
            refine hK.out _ _ ⟨v4, v6⟩ (fun hHeld => ?_)
            clear hK K
            refine wpAnyH_take (i := 18) (v := ?_) rfl (by kernel_rfl) (by kernel_rfl) (by kernel_rfl) (fun _ _ _ h => h) (Or.inl ⟨by rfl, ?_⟩) (by assumption) ?_
            rotate_left
            · intro w' hSw; first | (go_simp; done) | (go_simp; with_reducible rfl)
            simp only [Act.put, List.getElem_toArray, List.getElem_cons_zero, List.getElem_cons_succ, List.setIfInBounds_toArray, List.set_cons_zero, List.set_cons_succ]
            refine wpAnyH_ready (rs := [19]) (by kernel_rfl) (by simp) ?_
            refine AllReadyH.cons rfl (fun K hK => ?_) ?_
            · go_simp
              refine hK.out _ _ ⟨u4, u6⟩ (fun hHeld => ?_)
              clear hK K
              refine wpAnyH_done (by kernel_rfl) ?_ _
              go_wp2_with fail
              go_end0
              exact ⟨rfl, HEND.out _ HOB.out, below_put (below_put HBWB.out HBB.out j ⟨32, [], 0, ⟨-1, j2, 0⟩⟩) HBB.out k ⟨32, [], 0, ⟨-1, k2, 0⟩⟩⟩
            exact AllReadyH.nil
          exact AllReadyH.nil
        exact AllReadyH.nil
      exact AllReadyH.nil
    exact AllReadyH.nil
  refine AllReadyH.cons rfl (fun K hK => ?_) ?_
  · go_simp
    refine hK.out _ _ ⟨q4, q6⟩ (fun hHeld => ?_)
    clear hK K
    refine wpAnyH_ready (rs := [8]) (by kernel_rfl) (by simp) ?_
    refine AllReadyH.cons rfl (fun K hK => ?_) ?_
    · go_simp
      refine hK.out _ _ ⟨q4, q6⟩ (fun hHeld => ?_)
      clear hK K
      refine wpAnyH_ready (rs := [9]) (by kernel_rfl) (by simp) ?_
      refine AllReadyH.cons rfl (fun K hK => ?_) ?_
      · go_simp
        go_wp2_with (go_at_call 211; refine (HBJ.out _).mono ?_; rintro e wA ⟨rfl, hbA⟩; have hbA : Below w3.heap.size w3 wA := (Below.refl _ _).drew.trans hbA; have HOA := Lib.hid (HO3.out.kept hbA); have HBWA : Hid (Below base w wA) := Lib.hid (HBW.out.trans (hbA.mono (Nat.le_trans HBS.out HB4.out.size))); have c4A := cell_kept hbA hq4; have c6A := cell_kept hbA hq6; have y3A := cell_kept hbA y3; have y4A := cell_kept hbA y4; have y5A := cell_kept hbA y5; have HSZ : Hid (w3.heap.size ≤ wA.heap.size) := Lib.hid hbA.size; clear hbA)
        refine hK.out _ _ ⟨c4A, c6A⟩ (fun hHeld => ?_)
        clear hK K
        refine wpAnyH_ready (rs := [15]) (by kernel_rfl) (by simp) ?_
        refine AllReadyH.cons rfl (fun K hK => ?_) ?_
        · go_simp
          go_wp2_with (go_at_call 211; refine (HBK.out _).mono ?_; rintro e wB ⟨rfl, hbB⟩; have HOB := Lib.hid (HOA.out.kept hbB); have HBWB : Hid (Below base w wB) := Lib.hid (HBWA.out.trans (hbB.mono (Nat.le_trans HBS.out (Nat.le_trans HB4.out.size HSZ.out)))); have c4B := cell_kept hbB c4A; have c6B := cell_kept hbB c6A; obtain ⟨d0, d1, d2, d3, d4, d5, f0, f1, f2, f3, f4, f5⟩ := first_facts HOB.out hjl HFJ.out; obtain ⟨e0, e1, e2, e3, e4, e5, g0, g1, g2, g3, g4, g5⟩ := second_facts (HPJ.out _ HOB.out) HKL.out HGK.out; have v4 := far_1 (j := j) (jb := j2) hn4 c4B; have v6 := far_1 (j := j) (jb := j2) hn6 c6B; have u4 := far_2 (j := j) (k := k) (jb := j2) (kb := k2) hn4 c4B; have u6 := far_2 (j := j) (k := k) (jb := j2) (kb := k2) hn6 c6B; clear hbB)
          refine hK.out _ _ ⟨c4B, c6B⟩ (fun hHeld => ?_)
          clear hK K
          refine wpAnyH_take (i := 16) (v := ?_) rfl (by kernel_rfl) (by kernel_rfl) (by kernel_rfl) (fun _ _ _ h => h) (Or.inl ⟨by rfl, ?_⟩) (by assumption) ?_
          rotate_left
          · intro w' hSw; first | (go_simp; done) | (go_simp; with_reducible rfl)
          simp only [Act.put, List.getElem_toArray, List.getElem_cons_zero, List.getElem_cons_succ, List.setIfInBounds_toArray, List.set_cons_zero, List.set_cons_succ]
          refine wpAnyH_ready (rs := [17]) (by kernel_rfl) (by simp) ?_
          refine AllReadyH.cons rfl (fun K hK => ?_) ?_
          · go_simp
            refine hK.out _ _ ⟨v4, v6⟩ (fun hHeld => ?_)
            clear hK K
            refine wpAnyH_take (i := 18) (v := ?_) rfl (by kernel_rfl) (by kernel_rfl) (by kernel_rfl) (fun _ _ _ h => h) (Or.inl ⟨by rfl, ?_⟩) (by assumption) ?_
            rotate_left
            · intro w' hSw; first | (go_simp; done) | (go_simp; with_reducible rfl)
            simp only [Act.put, List.getElem_toArray, List.getElem_cons_zero, List.getElem_cons_succ, List.setIfInBounds_toArray, List.set_cons_zero, List.set_cons_succ]
            refine wpAnyH_ready (rs := [19]) (by kernel_rfl) (by simp) ?_
            refine AllReadyH.cons rfl (fun K hK => ?_) ?_
            · go_simp
              refine hK.out _ _ ⟨u4, u6⟩ (fun hHeld => ?_)
              clear hK K
              refine wpAnyH_done (by kernel_rfl) ?_ _
              go_wp2_with fail
              go_end0
              exact ⟨rfl, HEND.out _ HOB.out, below_put (below_put HBWB.out HBB.out j ⟨32, [], 0, ⟨-1, j2, 0⟩⟩) HBB.out k ⟨32, [], 0, ⟨-1, k2, 0⟩⟩⟩
            exact AllReadyH.nil
          exact AllReadyH.nil
        exact AllReadyH.nil
      exact AllReadyH.nil
    exact AllReadyH.nil
  exact AllReadyH.nil
theorem cut_any (l : List Cl) (base : Nat) (v : Value) (p : Nat) (w : World) (ho : OwnCs w base v l) (hb : base ≤ w.heap.size) (hg : Good l) (hs : Held l) (hl : l.length ≤ 1000000) (hp : p ≤ l.length) :
    Calls Tryz.prog 208 #[v, .int .i64 p] w fun e w' => e = .returned (.tuple #[]) ∧ OwnCs w' base v (cutL l p) ∧ Below base w w' := by
  rcases Nat.lt_or_ge p l.length with hlt | hge
  · rcases ho.shape with ⟨_, e⟩ | ⟨b, cap, rfl, hbb, _⟩
    · subst e; simp at hlt
    · have hk0 := okAt_kind (hg p hlt)
      by_cases h3 : kind (g l p) = 3
      · obtain ⟨hp0, h2, _⟩ := good_ahead hg hlt h3
        have hc : cutL l p = (l.set (p - 1) (blank (g l (p - 1)).a)).set p (blank (g l p).a) := by
          unfold cutL; rw [if_pos ⟨hp0, hlt, kind_3w h3⟩]
        rw [hc]
        exact cut_pair l base b (p - 1) p cap w ho hb hs hl hlt (by omega) h3 h2
      · have hc : cutL l p = l := by
          unfold cutL
          rw [if_neg]
          rintro ⟨_, _, hw⟩
          exact h3 (kind_of_wide2 hk0 hw)
        rw [hc]
        refine (cut_not l base b p cap w ho hs hlt hk0 h3).mono ?_
        rintro e w1 ⟨rfl, h1⟩
        exact ⟨rfl, ho.kept h1, h1.mono hb⟩
  · have he : p = l.length := by omega
    subst he
    have hc : cutL l l.length = l := by unfold cutL; rw [if_neg (by omega)]
    rw [hc]
    refine (cut_end l base v w ho).mono ?_
    rintro e w1 ⟨rfl, rfl⟩
    exact ⟨rfl, ho, Below.refl _ _⟩
end Row
end
section
open Go.ChangeShapes Go.WideShapes Go.RowKit
theorem Tryz.own : ownKnob Tryz.prog.godebug = none := by kernel_rfl
theorem Tryz.laidOut : laidOutB Tryz.prog = true := by kernel_rfl
section
variable {H : Type} {enc : TypeId × Value → H} {P : Program}
theorem law_post {f : Func} {s : ChangeSpec} {fresh handsOn : Bool} {W W' : World} {v0 : Value} {d0 : DataW H} {before : List MemPlace} {t tb : TypeId}
    (hl : laidOutB P = true) (hr : P.readableRec t = true) (hrow : t < P.types.size) (hp : f.params = #[t]) (hres : f.resultTypes = #[tb]) (htb : P.underlying tb = some .bool) (hv : s.vars = [])
    (hfn : (s.fn H [d0]).results = [.lit (.bool true)] ∧ (s.fn H [d0]).args = [d0] ∧ (s.fn H [d0]).vars = [])
    (hW : DataW.Whole enc P f.params.toList s.vars false W [v0] [d0] [] before) (h0 : DataW.Trod enc P W 0 (fun _ => true) true t v0 d0 before) (hB : Below W.heap.size W W') :
    s.post enc P f false fresh handsOn false W #[v0] (.bool true) W' := by
  have hlt : ∀ p ∈ before, p.block < W.heap.size := fun p hp => hW.lt p hp
  refine ⟨[d0], [], before, [], before, [], hW, ?_, ?_, ?_, hB.frame _, fun h => by cases h⟩
  · rw [hres, List.append_nil, hfn.1]
    exact trodAll_mk1 (shut_bool htb true)
  · rw [hp, List.append_nil, hfn.2.1]
    exact trodAll_mk1 (WideElems.Trod_stays hl hr hrow h0 (fun p hp => hB.same (hlt p hp)) (fun p hp => decide_eq_true (hlt p hp)))
  · rw [hv, List.append_nil, hfn.2.2]
    rfl
end
end
section
open Go.ChangeShapes Go.WideShapes Go.RowKit Go.Deep
namespace RowF
def Reads (bnd : Nat) (P : Program) (w : World) : Nat → TypeId → List Value → Prop
  | 0, _, _ => False
  | n + 1, t, cs => match P.underlying t with
    | some (.int k) => ∃ m, cs = [.int k m] ∧ (Lit.int k m).wf = true
    | some .bool => ∃ b, cs = [.bool b]
    | some .string => ∃ s : ByteArray, cs = [.string s] ∧ s.size ≤ bnd
    | some (.slice e) => cs = [.slice none 0 0] ∨ ∃ a len cap, cs = [.slice (some a) len cap] ∧ len * P.bytesOf e ≤ reachBytes ∧ (len ≤ cap ∧ len ≤ maxLen) ∧
        ∀ i, i < len → ∃ es : List Value, es.length = P.cellsOf e ∧ (∀ j u, es[j]? = some u → w.cell? (a.add (i * P.cellsOf e + j)) = some u) ∧ Reads bnd P w n e es
    | some (.struct fs) => cs.length = P.cellsOf t ∧ ∀ (i : Nat) (f : Field), fs[i]? = some f → Reads bnd P w n f.type ((cs.drop f.offset).take (P.cellsOf f.type))
    | _ => True
def Fine (bnd : Nat) (P : Program) (w : World) (t : TypeId) (cs : List Value) : Prop := ∃ n, Reads bnd P w n t cs
section
variable {bnd : Nat} {P : Program} {w w' : World} {t e : TypeId} {cs : List Value}
theorem Reads.kept (hb : Below w.heap.size w w') : ∀ (n : Nat) (t : TypeId) (cs : List Value), Reads bnd P w n t cs → Reads bnd P w' n t cs
  | 0, _, _, h => h
  | n + 1, t, cs, h => by
    unfold Reads at h ⊢
    revert h
    split <;> intro h
    · exact h
    · exact h
    · exact h
    · rcases h with h | ⟨a, len, cap, h1, h2, h3, h4⟩
      · exact .inl h
      · exact .inr ⟨a, len, cap, h1, h2, h3, fun i hi => by
          obtain ⟨es, g1, g2, g3⟩ := h4 i hi
          exact ⟨es, g1, fun j u hu => cell_kept hb (g2 j u hu), Reads.kept hb n _ es g3⟩⟩
    · exact ⟨h.1, fun i f hf => Reads.kept hb n _ _ (h.2 i f hf)⟩
    · trivial
theorem Fine.kept (h : Fine bnd P w t cs) (hb : Below w.heap.size w w') : Fine bnd P w' t cs := by
  obtain ⟨n, h⟩ := h; exact ⟨n, Reads.kept hb n t cs h⟩
theorem Fine.int {k : IntKind} (hu : P.underlying t = some (.int k)) (h : Fine bnd P w t cs) : ∃ m, cs = [.int k m] ∧ (Lit.int k m).wf = true := by
  obtain ⟨n, h⟩ := h
  cases n with
  | zero => exact h.elim
  | succ n => simpa only [Reads, hu] using h
theorem Fine.bool (hu : P.underlying t = some .bool) (h : Fine bnd P w t cs) : ∃ b, cs = [.bool b] := by
  obtain ⟨n, h⟩ := h
  cases n with
  | zero => exact h.elim
  | succ n => simpa only [Reads, hu] using h
theorem Fine.string (hu : P.underlying t = some .string) (h : Fine bnd P w t cs) : ∃ s : ByteArray, cs = [.string s] ∧ s.size ≤ bnd := by
  obtain ⟨n, h⟩ := h
  cases n with
  | zero => exact h.elim
  | succ n => simpa only [Reads, hu] using h
theorem Fine.slice (hu : P.underlying t = some (.slice e)) (h : Fine bnd P w t cs) : cs = [.slice none 0 0] ∨ ∃ a len cap, cs = [.slice (some a) len cap] ∧ len * P.bytesOf e ≤ reachBytes ∧ (len ≤ cap ∧ len ≤ maxLen) ∧
    ∀ i, i < len → ∃ es : List Value, es.length = P.cellsOf e ∧ (∀ j u, es[j]? = some u → w.cell? (a.add (i * P.cellsOf e + j)) = some u) ∧ Fine bnd P w e es := by
  obtain ⟨n, h⟩ := h
  cases n with
  | zero => exact h.elim
  | succ n =>
    simp only [Reads, hu] at h
    rcases h with h | ⟨a, len, cap, h1, h2, h3, h4⟩
    · exact .inl h
    · exact .inr ⟨a, len, cap, h1, h2, h3, fun i hi => by
        obtain ⟨es, g1, g2, g3⟩ := h4 i hi
        exact ⟨es, g1, g2, n, g3⟩⟩
theorem Fine.len {fs : Array Field} (hu : P.underlying t = some (.struct fs)) (h : Fine bnd P w t cs) : cs.length = P.cellsOf t := by
  obtain ⟨n, h⟩ := h
  cases n with
  | zero => exact h.elim
  | succ n => simp only [Reads, hu] at h; exact h.1
theorem Fine.field {fs : Array Field} (hu : P.underlying t = some (.struct fs)) (h : Fine bnd P w t cs) (i : Nat) {f : Field} (hf : fs[i]? = some f) : Fine bnd P w f.type ((cs.drop f.offset).take (P.cellsOf f.type)) := by
  obtain ⟨n, h⟩ := h
  cases n with
  | zero => exact h.elim
  | succ n => simp only [Reads, hu] at h; exact ⟨n, h.2 i f hf⟩
theorem Fine.part {fs : Array Field} (hu : P.underlying t = some (.struct fs)) (h : Fine bnd P w t cs) (i : Nat) {f : Field} {t' : TypeId} {o c : Nat} (hf : fs[i]? = some f) (ht : f.type = t') (ho : f.offset = o) (hc : P.cellsOf t' = c) : Fine bnd P w t' ((cs.drop o).take c) := by
  subst ht; subst ho; subst hc; exact h.field hu i hf
end
section
variable {bnd : Nat} {H : Type} {enc : TypeId × Value → H} {P : Program} {w : World}
theorem weights_mem_all {e : TypeId} : ∀ {l : List (DataW H)} {d : DataW H}, d ∈ l → ∀ n ∈ d.weights P e, n ∈ DataW.weightsAll P e l
  | x :: r, d, h, n, hn => by
    simp only [DataW.weightsAll, List.mem_append]
    cases List.mem_cons.1 h with
    | inl e => subst e; exact .inl hn
    | inr e => exact .inr (weights_mem_all e n hn)
theorem weights_mem_each : ∀ {ts : List TypeId} {l : List (DataW H)} {i : Nat} {t : TypeId} {d : DataW H}, ts[i]? = some t → l[i]? = some d → ∀ n ∈ d.weights P t, n ∈ DataW.weightsEach P ts l
  | [], _, i, _, _, ht, _, _, _ => by simp at ht
  | _ :: _, [], i, _, _, _, hd, _, _ => by simp at hd
  | t' :: ts, d' :: l, 0, t, d, ht, hd, n, hn => by
    obtain rfl : t' = t := by simpa using ht
    obtain rfl : d' = d := by simpa using hd
    simp only [DataW.weightsEach, List.mem_append]; exact .inl hn
  | t' :: ts, d' :: l, i + 1, t, d, ht, hd, n, hn => by
    simp only [DataW.weightsEach, List.mem_append]
    exact .inr (weights_mem_each (i := i) (by simpa using ht) (by simpa using hd) n hn)
theorem bulk_part {d : DataW H} {l : List (DataW H)} (h : d ∈ l) : Rows.uptoBulk d ≤ Rows.uptoBulkAll l := by
  induction l with
  | nil => cases h
  | cons x r ih =>
    simp only [Rows.uptoBulkAll]
    cases List.mem_cons.1 h with
    | inl e => subst e; omega
    | inr e => have := ih e; omega
theorem reads_of : ∀ (n : Nat) (t : TypeId) (cs : List Value) (y : DataW H × List MemPlace), DataW.trod enc P w 0 (fun _ => true) true n t cs = some y → (∀ k ∈ y.1.weights P t, k ≤ reachBytes) → (Rows.uptoBulk y.1 ≤ bnd ∨ reachBytes ≤ bnd) → Reads bnd P w n t cs
  | 0, t, cs, y, h, _, _ => by simp [DataW.trod] at h
  | n + 1, t, cs, y, h, hw, hbk => by
    unfold Reads
    split
    · rename_i k hu
      obtain ⟨m, h1, _, h2⟩ := DataW.trod_int hu h
      exact ⟨m, h1, h2⟩
    · rename_i hu
      obtain ⟨b, h1, _⟩ := DataW.trod_bool hu h
      exact ⟨b, h1⟩
    · rename_i hu
      obtain ⟨s, h1, h2, _⟩ := DataW.trod_string hu h
      refine ⟨s, h1, ?_⟩
      subst h2
      have h3 := hw s.data.toList.length (by simp [DataW.weights])
      have h3 : s.size ≤ reachBytes := h3
      rcases hbk with hb | hb
      · have : Rows.uptoBulk (DataW.lit (H := H) (.string s.data.toList)) = s.size + 1 := by simp [Rows.uptoBulk]
        have hb : Rows.uptoBulk (DataW.lit (H := H) (.string s.data.toList)) ≤ bnd := hb
        omega
      · omega
    · rename_i e hu
      rcases DataW.trod_slice hu h with ⟨h0, _⟩ | ⟨a, len, cap, elems, rest, m, hm, rfl, rfl, hb, hl, hmx, hlen, hel, hsp, hns⟩
      · exact .inl h0
      · obtain rfl : n = m := by omega
        have hwl := hw ((elems.length + rest.length) * P.bytesOf e) (by simp [DataW.weights, hu])
        refine .inr ⟨a, len, cap, rfl, ?_, ⟨hl, by omega⟩, fun i hi => ?_⟩
        · refine Nat.le_trans (Nat.mul_le_mul_right _ ?_) hwl
          omega
        · have hx := hel i hi
          have hei : elems[i]? = some (elems[i]'(by omega)) := List.getElem?_eq_getElem (by omega)
          rw [hei] at hx
          obtain ⟨cs', hc, ht⟩ := Option.bind_eq_some_iff.1 hx
          obtain ⟨_, hcl, hat⟩ := World.cells?_some hc
          refine ⟨cs', hcl, fun j u hu => ?_, reads_of n e cs' _ ht (fun k hk => hw k ?_) ?_⟩
          · have hj : j < P.cellsOf e := by
              have := (List.getElem?_eq_some_iff.1 hu).1
              omega
            rw [← Go.Deep.add_add, hat j hj, hu]
          · simp only [DataW.weights, hu, List.mem_cons, List.mem_append]
            exact .inr (.inl (weights_mem_all (List.mem_map.2 ⟨_, List.getElem_mem (by omega), rfl⟩) k hk))
          · refine hbk.imp (fun hb => Nat.le_trans ?_ hb) id
            simp only [Rows.uptoBulk]
            exact Nat.le_trans (bulk_part (List.mem_map.2 ⟨_, List.getElem_mem (by omega), rfl⟩)) (Nat.le_trans (Nat.le_add_right _ _) (Nat.le_succ _))
    · rename_i fs hu
      obtain ⟨xs, m, hm, rfl, hl, hlen, hf⟩ := DataW.trod_struct hu h
      obtain rfl : n = m := by omega
      refine ⟨hl, fun i f hfi => ?_⟩
      have hx := hf i f hfi
      have hi : i < fs.size := (Array.getElem?_eq_some_iff.1 hfi).1
      have hxi : xs[i]? = some (xs[i]'(by omega)) := List.getElem?_eq_getElem (by omega)
      rw [hxi] at hx
      refine reads_of n f.type _ _ hx (fun k hk => hw k ?_) ?_
      · simp only [DataW.weights, hu]
        refine weights_mem_each (i := i) (t := f.type) (d := (xs[i]'(by omega)).1) ?_ ?_ k hk
        · rw [List.getElem?_map, Array.getElem?_toList, hfi]; rfl
        · rw [List.getElem?_map, hxi]; rfl
      · refine hbk.imp (fun hb => Nat.le_trans ?_ hb) id
        simp only [Rows.uptoBulk]
        exact Nat.le_trans (bulk_part (List.mem_map.2 ⟨_, List.getElem_mem (by omega), rfl⟩)) (Nat.le_succ _)
    · trivial
theorem fine_of {t : TypeId} {ts : List TypeId} {v : Value} {d : DataW H} {p : List MemPlace} (h : DataW.Trod enc P w 0 (fun _ => true) true t v d p)
    (hsz : (DataW.weightsEach P (t :: ts) [d]).all (· ≤ reachBytes) = true) (hbk : Rows.uptoBulk d ≤ bnd ∨ reachBytes ≤ bnd) : Fine bnd P w t v.cells.toList := by
  obtain ⟨n, hn⟩ := h
  refine ⟨n, reads_of n t _ _ hn (fun k hk => ?_) hbk⟩
  have := List.all_eq_true.1 hsz k (by simp only [DataW.weightsEach, List.mem_append]; exact .inl hk)
  simpa using this
end
theorem list_of {α : Type} (d : α) {Q : Nat → α → Prop} : ∀ (n : Nat), (∀ i, i < n → ∃ a, Q i a) → ∃ l : List α, l.length = n ∧ ∀ i, i < n → Q i (l.getD i d)
  | 0, _ => ⟨[], rfl, fun i hi => absurd hi (by omega)⟩
  | n + 1, h => by
    obtain ⟨l, hl, hq⟩ := list_of d n fun i hi => h i (by omega)
    obtain ⟨a, ha⟩ := h n (by omega)
    refine ⟨l ++ [a], by simp [hl], fun i hi => ?_⟩
    by_cases e : i = n
    · subst e; subst hl; simpa [List.getD] using ha
    · have := hq i (by omega)
      simp only [List.getD, List.getElem?_append_left (show i < l.length by omega)] at this ⊢
      exact this
theorem i64_bd {m : Int} (h : (Lit.int .i64 m).wf = true) : -9223372036854775808 ≤ m ∧ m ≤ 9223372036854775807 := by
  simp [Lit.wf] at h
  exact ⟨Int.le_trans (by decide) h.1, h.2⟩
theorem arg_fine {bnd : Nat} {H : Type} {enc : TypeId × Value → H} {P : Program} {W : World} {r : Reach} {b0 : Nat} {t : TypeId} {ts : List TypeId} {fs : Array Field} {v0 : Value} {d0 : DataW H} {p : List MemPlace} (hu : P.underlying t = some (.struct fs)) (hv : Value.okWide P W r b0 t v0)
    (h : DataW.Trod enc P W 0 (fun _ => true) true t v0 d0 p) (hsz : (DataW.weightsEach P (t :: ts) [d0]).all (· ≤ reachBytes) = true) (hbk : Rows.uptoBulk d0 ≤ bnd ∨ reachBytes ≤ bnd) : ∃ cs : List Value, v0 = .agg cs.toArray ∧ Fine bnd P W t cs := by
  obtain ⟨cs, rfl, _⟩ := okWide_struct hu hv
  exact ⟨cs.toList, by simp, fine_of h hsz hbk⟩
end RowF
end
section
open Go.RowKit
namespace Row
open Utf Wid
theorem dec_four (l : List UInt8) : (dec l).2 ≤ 4 := by
  rcases decodeN_cases l.length (l.getD 0 0).toNat (l.getD 1 0).toNat (l.getD 2 0).toNat (l.getD 3 0).toNat (byte_lt _) (byte_lt _) (byte_lt _) (byte_lt _) with e | ⟨_, e⟩ | ⟨_, _, _, e⟩ | ⟨_, _, _, _, e⟩ | ⟨_, _, _, _, _, e⟩
  all_goals
    unfold dec
    rw [e]
    exact Nat.le_of_ble_eq_true rfl
theorem marks_long : ∀ (k : Nat) (l : List UInt8) (n : Nat), l.length ≤ k → marks l = some n → l.length ≤ 4 * n
  | 0, l, n, h, _ => by omega
  | k + 1, l, n, h, hm => by
    by_cases hl : l = []
    · subst hl; simp
    · rw [marks_step hl] at hm
      have h1 := dec_pos hl
      have h2 := dec_le hl
      have h4 := dec_four l
      by_cases hw : wid (dec l).1 = 0
      · rw [if_pos hw] at hm
        obtain ⟨m, hm', hmn⟩ := Option.map_eq_some_iff.1 hm
        have := marks_long k (l.drop (dec l).2) m (by rw [List.length_drop]; omega) hm'
        rw [List.length_drop] at this
        omega
      · rw [if_neg hw] at hm; cases hm
theorem combOk_short {m : List UInt8} (h : combOk m = true) : m.length ≤ 8 := by
  unfold combOk at h
  cases hm : marks m with
  | none => rw [hm] at h; cases h
  | some n =>
    rw [hm] at h
    have h2 : n ≤ 2 := of_decide_eq_true h
    have := marks_long m.length m n (Nat.le_refl _) hm
    omega
theorem good_texts {l : List Cl} (h : Good l) : ∀ i, i < l.length → (g l i).comb.length ≤ 8 := by
  intro i hi
  have hk := okAt_kind (h i hi)
  cases hc : combOk (g l i).comb with
  | true => exact combOk_short hc
  | false => exact absurd (kind_bad hc) hk
theorem RowOk.held {l : List Cl} (h : RowOk l) : Held l := fun i hi => by have := good_texts h.2.2 i hi; omega
end Row
end
end Go.Proofs.YtceaoadlhdgnmaaGreatDoor
