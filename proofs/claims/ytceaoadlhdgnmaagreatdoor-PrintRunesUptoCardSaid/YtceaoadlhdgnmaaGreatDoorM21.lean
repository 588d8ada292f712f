/- Joined texts: RowRow. -/
import Derived.Test.YtceaoadlhdgnmaaGreatDoorM32
namespace Go.Proofs.YtceaoadlhdgnmaaGreatDoor
set_option maxRecDepth 100000
section
open Go.RowKit
namespace Row
open Utf Wid
theorem btw_at (n lo hi : Int) (b : Bool) (hb : rng n lo hi = b) (w : World) : Calls Tryz.prog 61 #[.int .i64 n, .int .i64 lo, .int .i64 hi] w fun e w' => e = .returned (.bool b) ∧ w = w' := by
  subst hb; exact between_any n lo hi w
def Short (l : List Cl) : Prop := ∀ i, i < l.length → (g l i).comb.length ≤ 1000000000
def firstBad (l : List Cl) (i : Nat) : Prop := (g l i).wide = 1 ∧ ¬ (i + 1 < l.length ∧ (g l (i + 1)).wide = 2 ∧ (g l (i + 1)).a = (g l i).a)
def secondBad (l : List Cl) (i : Nat) : Prop := (g l i).wide = 2 ∧ ¬ (0 < i ∧ (g l (i - 1)).wide = 1)
theorem refAt_iff (l : List Cl) (i : Nat) : refAt l i ↔ kind (g l i) ≠ 0 ∧ ¬ firstBad l i ∧ ¬ secondBad l i := by
  unfold refAt firstBad secondBad
  constructor
  · rintro ⟨h1, h2, h3⟩
    exact ⟨h1, fun ⟨a, b⟩ => b (h2 a), fun ⟨a, b⟩ => b (h3 a)⟩
  · rintro ⟨h1, h2, h3⟩
    refine ⟨h1, fun a => ?_, fun a => ?_⟩
    · by_cases h : i + 1 < l.length ∧ (g l (i + 1)).wide = 2 ∧ (g l (i + 1)).a = (g l i).a
      · exact h
      · exact absurd ⟨a, h⟩ h2
    · by_cases h : 0 < i ∧ (g l (i - 1)).wide = 1
      · exact h
      · exact absurd ⟨a, h⟩ h3
@[go_sem] theorem neq_attr (f1 f2 f3 : Int) (w : World) : (binOp .neq 31 (.agg #[.int .i64 f1, .int .i64 f2, .int .i64 f3]) (.agg #[.int .i64 f1, .int .i64 f2, .int .i64 f3])).run Tryz.prog w = .ok (.bool false) w := by
  simp [go_sem]
theorem neq_attr_not {a b : Look} (h : a ≠ b) (w : World) : (binOp .neq 31 (.agg #[.int .i64 a.fg, .int .i64 a.bg, .int .i64 a.flags]) (.agg #[.int .i64 b.fg, .int .i64 b.bg, .int .i64 b.flags])).run Tryz.prog w = .ok (.bool true) w := by
  obtain ⟨f1, f2, f3⟩ := a
  obtain ⟨g1, g2, g3⟩ := b
  by_cases h1 : f1 = g1
  · by_cases h2 : f2 = g2
    · have h3 : f3 ≠ g3 := by rintro rfl; exact h (by rw [h1, h2])
      simp [go_sem, h1, h2, h3]
    · simp [go_sem, h1, h2]
  · simp [go_sem, h1]
set_option maxHeartbeats 6400000 in
theorem refRow_any (l : List Cl) (b : Bool) (x : Value) (w : World) (hx : Cs w x l) (hs : Short l) (hT : Tabs w) (hl : l.length ≤ 1000000) (hb : b = true ↔ RowOk l) :
    Calls Tryz.prog 109 #[x] w fun e w' => e = .returned (.bool b) ∧ Below w.heap.size w w' := by
  obtain ⟨A, c, rfl, ha⟩ := hx.form
  by_cases hr : 1 ≤ l.length ∧ l.length ≤ 40
  · have H1 : Hid (rng (l.length : Int) 1 40 = true) := Lib.hid (by unfold rng; rw [decide_eq_true (show (1 : Int) ≤ (l.length : Int) by omega), decide_eq_true (show (l.length : Int) ≤ 40 by omega)]; rfl)
    have HA := Lib.hid ha
    have HS := Lib.hid hs
    have HB : Hid (b = true ↔ ∀ i, i < l.length → refAt l i) := Lib.hid (by
      rw [hb]
      constructor
      · intro h; exact (good_iff l).1 h.2.2
      · intro h; exact ⟨hr.1, hr.2, (good_iff l).2 h⟩)
    clear hx hs hb ha hr
    go_enter Tryz.func109, Tryz.ntmps109
    go_wp2_with fail
    refine (btw_at _ _ _ _ H1.out _).mono ?_; rintro e w' ⟨rfl, rfl⟩
    go_wp2_with fail
    go_loopw [3] (fun i wr => ∃ k : Nat, k ≤ l.length ∧ i = .int .i64 k ∧ Hid (∀ j, j < k → refAt l j) ∧ Below w.heap.size w wr) (fun i _ => l.length - (intOf i).toNat)
    case atStart => exact ⟨0, by omega, rfl, Lib.hid fun j hj => absurd hj (by omega), Below.refl _ _⟩
    case round =>
      obtain ⟨k, hk, rfl, HG, hbl⟩ := hrel
      have HBL := Lib.hid hbl
      by_cases hlt : k < l.length
      · obtain ⟨ad, rfl, hat⟩ := HA.out k hlt
        have HAT := Lib.hid hat
        have hK := hat.kept hbl
        have HTW := Lib.hid (hT.kept hbl)
        have HNX : Hid (refAt l k → ∀ j, j < k + 1 → refAt l j) := Lib.hid fun h j hj => by
          by_cases hjk : j < k
          · exact HG.out j hjk
          · obtain rfl : j = k := by omega
            exact h
        have HNO : Hid (¬ refAt l k → b = false) := Lib.hid fun h => by
          cases b
          · rfl
          · exact absurd (HB.out.1 rfl k hlt) h
        have HIF := Lib.hid (refAt_iff l k)
        have hsk := HS.out k hlt
        by_cases hkind : kind (g l k) = 0
        · have hbf : b = false := HNO.out fun h => (HIF.out.1 h).1 hkind
          subst hbf
          have HCELL := Lib.hid (refCell_any (g l k) false wr hsk HTW.out ⟨(fun h => by cases h), fun h => absurd hkind h⟩)
          clear hkind hat hbl
          generalize g l k = ck at hK HCELL
          obtain ⟨cr, cm, cx, ⟨f1, f2, f3⟩⟩ := ck
          have c0 := hK.head
          have c1 := hK.next 0 rfl
          have c2 := hK.next 1 rfl
          have c3 := hK.next 2 rfl
          have c4 := hK.next 3 rfl
          have c5 := hK.next 4 rfl
          have HCELL : Hid (Calls Tryz.prog 145 #[.agg #[.int .i64 cr, .string ⟨cm.toArray⟩, .int .i64 cx, .int .i64 f1, .int .i64 f2, .int .i64 f3]] wr fun e w' => e = .returned (.bool false) ∧ Below wr.heap.size wr w') := HCELL
          clear hK
          go_wp2_with fail
          refine HCELL.out.mono ?_; rintro e w4 ⟨rfl, hb4⟩
          have HB4 : Hid (Below w.heap.size w w4) := Lib.hid (HBL.out.trans (hb4.mono HBL.out.size))
          clear hb4
          go_wp2_with fail
          go_ret
          exact ⟨rfl, HB4.out⟩
        · have HCELL := Lib.hid (refCell_any (g l k) true wr hsk HTW.out ⟨fun _ => hkind, fun _ => rfl⟩)
          have HKD := Lib.hid hkind
          have HW1 := Lib.hid (fun h => kind_of_wide1 hkind h)
          have HW2 := Lib.hid (fun h => kind_of_wide2 hkind h)
          by_cases hx1 : (g l k).wide = 1
          · obtain ⟨k1, hk1e⟩ : ∃ k1, k1 = k + 1 := ⟨_, rfl⟩
            have hwrap : IntKind.i64.wrap ((k : Int) + 1) = (k1 : Int) := by rw [IntKind.wrap_i64]; omega
            by_cases hk1 : k1 < l.length
            · obtain ⟨ad', e2, hat2⟩ := HA.out k1 hk1
              injection e2 with e2
              subst e2
              have HAT2 := Lib.hid hat2
              have hkb : ((k1 : Int) == (l.length : Int)) = false := by rw [beq_eq_false_iff_ne]; omega
              have HPASS : Hid ((g l k1).wide = 2 → (g l k1).a = (g l k).a → refAt l k) := Lib.hid fun h1 h2 => HIF.out.2 ⟨HKD.out, fun h => h.2 (by rw [← hk1e]; exact ⟨hk1, h1, h2⟩), fun h => by have := h.1; omega⟩
              have HFAIL : Hid (¬ ((g l k1).wide = 2 ∧ (g l k1).a = (g l k).a) → b = false) := Lib.hid fun h => HNO.out fun hr => (HIF.out.1 hr).2.1 ⟨hx1, fun q => h (by rw [hk1e]; exact q.2)⟩
              have HK1E := Lib.hid hk1e
              clear hat hat2 hbl hk1e HNO HIF
              generalize g l k1 = dk at HAT2 HPASS HFAIL
              generalize g l k = ck at hK HCELL HAT hx1 HPASS HFAIL HKD HW1 HW2
              obtain ⟨cr, cm, cx, ⟨f1, f2, f3⟩⟩ := ck
              obtain ⟨dr, dm, dx, ⟨e1, e2, e3⟩⟩ := dk
              obtain rfl : cx = 1 := hx1
              have c0 := hK.head
              have c1 := hK.next 0 rfl
              have c2 := hK.next 1 rfl
              have c3 := hK.next 2 rfl
              have c4 := hK.next 3 rfl
              have c5 := hK.next 4 rfl
              have HCELL : Hid (Calls Tryz.prog 145 #[.agg #[.int .i64 cr, .string ⟨cm.toArray⟩, .int .i64 1, .int .i64 f1, .int .i64 f2, .int .i64 f3]] wr fun e w' => e = .returned (.bool true) ∧ Below wr.heap.size wr w') := HCELL
              clear hK
              go_wp2_with fail
              refine HCELL.out.mono ?_; rintro e w4 ⟨rfl, hb4⟩
              have HB4 : Hid (Below w.heap.size w w4) := Lib.hid (HBL.out.trans (hb4.mono HBL.out.size))
              have hK4 := HAT.out.kept HB4.out
              have hD4 := HAT2.out.kept HB4.out
              clear hb4 c0 c1 c2 c3 c4 c5
              have c2 := hK4.next 1 rfl
              have c3 := hK4.next 2 rfl
              have c4 := hK4.next 3 rfl
              have c5 := hK4.next 4 rfl
              have d2 := hD4.next 1 rfl
              have d3 := hD4.next 2 rfl
              have d4 := hD4.next 3 rfl
              have d5 := hD4.next 4 rfl
              clear hK4 hD4
              by_cases hdx : dx = 2
              · subst hdx
                by_cases hat : (⟨e1, e2, e3⟩ : Look) = ⟨f1, f2, f3⟩
                · have HNX2 := Lib.hid (HNX.out (HPASS.out rfl hat))
                  injection hat with q1 q2 q3
                  subst q1
                  subst q2
                  subst q3
                  clear HFAIL HPASS
                  go_wp2_with fail
                  go_quiet (fail)
                  go_wp2_with fail
                  go_roundw
                  case rel => exact ⟨k1, by omega, by go_num, by rw [HK1E.out]; exact HNX2, below_drewN HB4.out _⟩
                  case measure => have := HK1E.out; simp [intOf]; omega
                · have hbf : b = false := HFAIL.out fun h => hat h.2
                  subst hbf
                  have hneq := neq_attr_not hat
                  simp only [] at hneq
                  clear hat HFAIL HPASS
                  go_wp2_with fail
                  go_quiet (fail)
                  go_wp2_with fail
                  go_ret
                  exact ⟨rfl, below_drewN HB4.out _⟩
              · have hbf : b = false := HFAIL.out fun h => hdx h.1
                subst hbf
                have hdb : (dx != 2) = true := by rw [bne_iff_ne]; exact hdx
                clear hdx HFAIL HPASS
                go_wp2_with fail
                go_quiet (fail)
                go_wp2_with fail
                go_ret
                exact ⟨rfl, below_drewN HB4.out _⟩
            · have hkb : ((k1 : Int) == (l.length : Int)) = true := by rw [beq_iff_eq]; omega
              have hbf : b = false := HNO.out fun hr => (HIF.out.1 hr).2.1 ⟨hx1, fun q => by have := q.1; omega⟩
              subst hbf
              clear hat hbl HNO HIF hk1e hk1
              generalize g l k = ck at hK HCELL HAT hx1 HKD HW1 HW2
              obtain ⟨cr, cm, cx, ⟨f1, f2, f3⟩⟩ := ck
              obtain rfl : cx = 1 := hx1
              have c0 := hK.head
              have c1 := hK.next 0 rfl
              have c2 := hK.next 1 rfl
              have c3 := hK.next 2 rfl
              have c4 := hK.next 3 rfl
              have c5 := hK.next 4 rfl
              have HCELL : Hid (Calls Tryz.prog 145 #[.agg #[.int .i64 cr, .string ⟨cm.toArray⟩, .int .i64 1, .int .i64 f1, .int .i64 f2, .int .i64 f3]] wr fun e w' => e = .returned (.bool true) ∧ Below wr.heap.size wr w') := HCELL
              clear hK
              go_wp2_with fail
              refine HCELL.out.mono ?_; rintro e w4 ⟨rfl, hb4⟩
              have HB4 : Hid (Below w.heap.size w w4) := Lib.hid (HBL.out.trans (hb4.mono HBL.out.size))
              have hK4 := HAT.out.kept HB4.out
              clear hb4 c0 c1 c2 c3 c4 c5
              have c2 := hK4.next 1 rfl
              clear hK4
              go_wp2_with fail
              go_quiet (fail)
              go_wp2_with fail
              go_ret
              exact ⟨rfl, below_drewN HB4.out _⟩
          · have hxb1 : ((g l k).wide == 1) = false := by rw [beq_eq_false_iff_ne]; exact hx1
            by_cases hx2 : (g l k).wide = 2
            · by_cases hk0 : 0 < k
              · obtain ⟨j, hj⟩ : ∃ j, j = k - 1 := ⟨_, rfl⟩
                have hwrap : IntKind.i64.wrap ((k : Int) - 1) = (j : Int) := by rw [IntKind.wrap_i64]; omega
                have hkb : ((k : Int) == 0) = false := by rw [beq_eq_false_iff_ne]; omega
                obtain ⟨ad', e2, hat2⟩ := HA.out j (by omega)
                injection e2 with e2
                subst e2
                have HAT2 := Lib.hid hat2
                have hjl : j < l.length := by omega
                have HPASS : Hid ((g l j).wide = 1 → refAt l k) := Lib.hid fun h1 => HIF.out.2 ⟨HKD.out, fun h => hx1 h.1, fun h => h.2 ⟨hk0, by rw [← hj]; exact h1⟩⟩
                have HFAIL : Hid (¬ (g l j).wide = 1 → b = false) := Lib.hid fun h => HNO.out fun hr => (HIF.out.1 hr).2.2 ⟨hx2, fun q => h (by rw [hj]; exact q.2)⟩
                clear hat hat2 hbl hj HNO HIF hx1 hxb1
                generalize g l j = dk at HAT2 HPASS HFAIL
                generalize g l k = ck at hK HCELL HAT hx2 HPASS HFAIL HKD HW1 HW2
                obtain ⟨cr, cm, cx, ⟨f1, f2, f3⟩⟩ := ck
                obtain ⟨dr, dm, dx, ⟨e1, e2, e3⟩⟩ := dk
                obtain rfl : cx = 2 := hx2
                have c0 := hK.head
                have c1 := hK.next 0 rfl
                have c2 := hK.next 1 rfl
                have c3 := hK.next 2 rfl
                have c4 := hK.next 3 rfl
                have c5 := hK.next 4 rfl
                have HCELL : Hid (Calls Tryz.prog 145 #[.agg #[.int .i64 cr, .string ⟨cm.toArray⟩, .int .i64 2, .int .i64 f1, .int .i64 f2, .int .i64 f3]] wr fun e w' => e = .returned (.bool true) ∧ Below wr.heap.size wr w') := HCELL
                clear hK
                go_wp2_with fail
                refine HCELL.out.mono ?_; rintro e w4 ⟨rfl, hb4⟩
                have HB4 : Hid (Below w.heap.size w w4) := Lib.hid (HBL.out.trans (hb4.mono HBL.out.size))
                have hK4 := HAT.out.kept HB4.out
                have hD4 := HAT2.out.kept HB4.out
                clear hb4 c0 c1 c2 c3 c4 c5
                have c2 := hK4.next 1 rfl
                have d2 := hD4.next 1 rfl
                clear hK4 hD4
                by_cases hdx : dx = 1
                · subst hdx
                  have HNX2 := Lib.hid (HNX.out (HPASS.out rfl))
                  clear HPASS HFAIL
                  go_wp2_with fail
                  go_quiet (fail)
                  go_wp2_with fail
                  go_roundw
                  case rel => exact ⟨k + 1, by omega, by go_num, HNX2, below_drewN HB4.out _⟩
                  case measure => simp [intOf]; omega
                · have hbf : b = false := HFAIL.out hdx
                  subst hbf
                  have hdb : (dx != 1) = true := by rw [bne_iff_ne]; exact hdx
                  clear hdx HPASS HFAIL
                  go_wp2_with fail
                  go_quiet (fail)
                  go_wp2_with fail
                  go_ret
                  exact ⟨rfl, below_drewN HB4.out _⟩
              · have h0 : k = 0 := by omega
                subst h0
                have hbf : b = false := HNO.out fun hr => (HIF.out.1 hr).2.2 ⟨hx2, fun q => by have := q.1; omega⟩
                subst hbf
                have e0 : ad.add (0 * 6) = ad := by simp [Addr.add]
                rw [e0] at hK HAT
                clear hat hbl HNO HIF hx1 hxb1 hk0 e0
                generalize g l 0 = ck at hK HCELL HAT hx2 HKD HW1 HW2
                obtain ⟨cr, cm, cx, ⟨f1, f2, f3⟩⟩ := ck
                obtain rfl : cx = 2 := hx2
                have c0 := hK.head
                have c1 := hK.next 0 rfl
                have c2 := hK.next 1 rfl
                have c3 := hK.next 2 rfl
                have c4 := hK.next 3 rfl
                have c5 := hK.next 4 rfl
                have HCELL : Hid (Calls Tryz.prog 145 #[.agg #[.int .i64 cr, .string ⟨cm.toArray⟩, .int .i64 2, .int .i64 f1, .int .i64 f2, .int .i64 f3]] wr fun e w' => e = .returned (.bool true) ∧ Below wr.heap.size wr w') := HCELL
                clear hK
                go_wp2_with fail
                refine HCELL.out.mono ?_; rintro e w4 ⟨rfl, hb4⟩
                have HB4 : Hid (Below w.heap.size w w4) := Lib.hid (HBL.out.trans (hb4.mono HBL.out.size))
                have hK4 := HAT.out.kept HB4.out
                clear hb4 c0 c1 c2 c3 c4 c5
                have c2 := hK4.next 1 rfl
                clear hK4
                go_wp2_with fail
                go_quiet (fail)
                go_wp2_with fail
                go_ret
                exact ⟨rfl, below_drewN HB4.out _⟩
            · have hxb2 : ((g l k).wide == 2) = false := by rw [beq_eq_false_iff_ne]; exact hx2
              have HNX2 := Lib.hid (HNX.out (HIF.out.2 ⟨HKD.out, fun h => hx1 h.1, fun h => hx2 h.1⟩))
              clear hat hbl HNO HIF hx1 hx2
              generalize g l k = ck at hK HCELL HAT hxb1 hxb2 HKD HW1 HW2
              obtain ⟨cr, cm, cx, ⟨f1, f2, f3⟩⟩ := ck
              have c0 := hK.head
              have c1 := hK.next 0 rfl
              have c2 := hK.next 1 rfl
              have c3 := hK.next 2 rfl
              have c4 := hK.next 3 rfl
              have c5 := hK.next 4 rfl
              have HCELL : Hid (Calls Tryz.prog 145 #[.agg #[.int .i64 cr, .string ⟨cm.toArray⟩, .int .i64 cx, .int .i64 f1, .int .i64 f2, .int .i64 f3]] wr fun e w' => e = .returned (.bool true) ∧ Below wr.heap.size wr w') := HCELL
              clear hK
              go_wp2_with fail
              refine HCELL.out.mono ?_; rintro e w4 ⟨rfl, hb4⟩
              have HB4 : Hid (Below w.heap.size w w4) := Lib.hid (HBL.out.trans (hb4.mono HBL.out.size))
              have hK4 := HAT.out.kept HB4.out
              clear hb4 c0 c1 c2 c3 c4 c5
              have c2 := hK4.next 1 rfl
              clear hK4
              go_wp2_with fail
              go_quiet (fail)
              go_wp2_with fail
              go_roundw
              case rel => exact ⟨k + 1, by omega, by go_num, HNX2, below_drewN HB4.out _⟩
              case measure => simp [intOf]; omega
      · have hkn : k = l.length := by omega
        subst hkn
        have hbt : b = true := HB.out.2 HG.out
        subst hbt
        go_wp2_with fail
        go_ret
        exact ⟨rfl, hbl⟩
  · have H1 : Hid (rng (l.length : Int) 1 40 = false) := Lib.hid (by
      unfold rng
      rw [Bool.and_eq_false_iff]
      by_cases h : 1 ≤ l.length
      · exact .inr (decide_eq_false (by omega))
      · exact .inl (decide_eq_false (by omega)))
    have hbf : b = false := by
      cases b
      · rfl
      · have := hb.1 rfl; exact absurd ⟨this.1, this.2.1⟩ hr
    subst hbf
    clear hx hs hb hr ha
    go_enter Tryz.func109, Tryz.ntmps109
    go_wp2_with fail
    refine (btw_at _ _ _ _ H1.out _).mono ?_; rintro e w' ⟨rfl, rfl⟩
    go_wp2_with fail
    go_ret
    exact ⟨rfl, Below.refl _ _⟩
end Row
end
end Go.Proofs.YtceaoadlhdgnmaaGreatDoor
