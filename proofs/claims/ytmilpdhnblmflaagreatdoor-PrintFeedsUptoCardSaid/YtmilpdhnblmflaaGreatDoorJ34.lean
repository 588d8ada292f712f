/- Joined texts: GrdMend. -/
import Derived.Test.YtmilpdhnblmflaaGreatDoorJ1
import Derived.Test.YtmilpdhnblmflaaGreatDoorJ2
import Derived.Test.YtmilpdhnblmflaaGreatDoorJ4
import Derived.Test.YtmilpdhnblmflaaGreatDoorJ6
import Derived.Test.YtmilpdhnblmflaaGreatDoorJ21
section
/- The page's mend: of a row that was cut, its last half. -/
namespace Go.Proofs.YtmilpdhnblmflaaGreatDoor
set_option maxRecDepth 100000
open Go.RowKit
namespace Row

/-- The beginning of a row that may be: halves are whole, but for the last. -/
def Begun (l : List Cl) : Prop := ∀ i, i < l.length → ((g l i).wide = 1 → i + 1 < l.length → (g l (i + 1)).wide = 2) ∧ ((g l i).wide = 2 → 0 < i ∧ (g l (i - 1)).wide = 1)
theorem begun_take {l : List Cl} (h : Good l) (n : Nat) (hn : n ≤ l.length) : Begun (l.take n) := by
  intro i hi
  rw [List.length_take, Nat.min_eq_left hn] at hi ⊢
  have hr := (good_iff l).1 h i (by omega)
  rw [g_take hi]
  refine ⟨fun h1 h2 => ?_, fun h1 => ?_⟩
  · rw [g_take h2]; exact (hr.2.1 h1).2.1
  · obtain ⟨h2, h3⟩ := hr.2.2 h1
    exact ⟨h2, by rw [g_take (by omega)]; exact h3⟩
def mendTo (l : List Cl) (k : Nat) : List Cl := if k = l.length then mendEnd l else l
theorem mendTo_lt {l : List Cl} {k : Nat} (h : k < l.length) : mendTo l k = l := by unfold mendTo; rw [if_neg (by omega)]
theorem mendTo_keep {l : List Cl} {k : Nat} (hw : ¬ ((g l k).wide = 1 ∧ k + 1 = l.length)) : mendTo l (k + 1) = l := by
  unfold mendTo
  by_cases e : k + 1 = l.length
  · rw [if_pos e]
    unfold mendEnd
    rw [if_neg (fun q => hw ⟨by rw [show k = l.length - 1 by omega]; exact q.2, e⟩)]
  · rw [if_neg e]
theorem mendTo_put {l : List Cl} {k : Nat} (h : k + 1 = l.length) (hw : (g l k).wide = 1) : mendTo l (k + 1) = l.set k (blank (g l k).a) := by
  unfold mendTo
  rw [if_pos h]
  unfold mendEnd
  have e : l.length - 1 = k := by omega
  rw [e, if_pos ⟨by intro q; subst q; simp at h, hw⟩]
theorem mendTo_all (l : List Cl) : mendTo l l.length = mendEnd l := by unfold mendTo; rw [if_pos rfl]
theorem OwnCs.att {w : World} {base b n cap : Nat} {l : List Cl} (h : OwnCs w base (.slice (some ⟨b, 0, none⟩) n cap) l) {k : Nat} (hk : k < l.length) : At w ⟨b, k * 6, none⟩ (cvals (g l k)) := by
  intro j u hu
  have hj : j < 6 := (List.getElem?_eq_some_iff.1 hu).1
  have e : (⟨b, k * 6, none⟩ : Addr).add j = ⟨b, k * 6 + j, none⟩ := by
    unfold Addr.add
    split
    · rename_i h; rw [h]; rfl
    · rfl
  rw [e, h.cell hk hj]; exact hu

set_option maxHeartbeats 3200000 in
theorem refMend_any (l : List Cl) (base b cap : Nat) (w : World) (ho : OwnCs w base (.slice (some ⟨b, 0, none⟩) l.length cap) l) (hbase : base ≤ w.heap.size) (hl : l.length ≤ 1000000) (hg : Begun l) :
    Calls Tryz.prog 91 #[.slice (some ⟨b, 0, none⟩) l.length cap] w fun e w' => e = .returned (.tuple #[]) ∧ OwnCs w' base (.slice (some ⟨b, 0, none⟩) l.length cap) (mendEnd l) ∧ Below base w w' := by
  have hbb : base ≤ b := by
    rcases ho.shape with ⟨e, _⟩ | ⟨b', _, e, h, _⟩
    · injection e with e; cases e
    · injection e with e; injection e with e; injection e with e; rw [e]; exact h
  have HBB := Lib.hid hbb
  have HBS := Lib.hid hbase
  have HG := Lib.hid hg
  have HO : Hid (OwnCs w base (.slice (some ⟨b, 0, none⟩) l.length cap) (mendTo l 0)) := Lib.hid (by
    by_cases e : 0 < l.length
    · rw [mendTo_lt e]; exact ho
    · have : l = [] := List.eq_nil_of_length_eq_zero (by omega)
      subst this
      exact ho)
  clear ho hbb hbase hg
  go_enter Tryz.func91, Tryz.ntmps91
  go_wp2_with fail
  go_loopw [2] (fun i wr => ∃ k : Nat, k ≤ l.length ∧ i = .int .i64 k ∧ Hid (OwnCs wr base (.slice (some ⟨b, 0, none⟩) l.length cap) (mendTo l k)) ∧ Hid (Below base w wr)) (fun i _ => l.length - (intOf i).toNat)
  case atStart => exact ⟨0, by omega, rfl, HO, Lib.hid (Below.refl _ _)⟩
  case round =>
    obtain ⟨k, hk, rfl, HOW, HBL⟩ := hrel
    by_cases hlt : k < l.length
    · rw [mendTo_lt hlt] at HOW
      have hgk := HG.out k hlt
      have hat := HOW.out.att hlt
      obtain ⟨k1, hk1⟩ : ∃ q, k + 1 = q := ⟨_, rfl⟩
      have hw1 : IntKind.i64.wrap ((k : Int) + 1) = (k1 : Int) := by rw [IntKind.wrap_i64]; omega
      have HK1 := Lib.hid hk1
      by_cases h1 : (g l k).wide = 1
      · by_cases h2 : k1 = l.length
        · have hkeep := mendTo_put (by omega) h1
          rw [hk1] at hkeep
          have HKEEP := Lib.hid hkeep
          have HRB := Lib.hid (fun w' => refblank_any (g l k).a w')
          have hput := fun (w' : World) (q : OwnCs w' base (.slice (some ⟨b, 0, none⟩) l.length cap) l) => q.put hlt (blank (g l k).a)
          have HPUT := Lib.hid hput
          have hfac := fun (w' : World) (q : OwnCs w' base (.slice (some ⟨b, 0, none⟩) l.length cap) l) => (fun (j : Nat) (hj : j < 6) => q.cell hlt hj)
          have HFAC := Lib.hid hfac
          clear hgk hkeep hput hfac
          generalize g l k = ck at h1 hat HRB HKEEP HPUT HFAC
          obtain ⟨cr, cm, cx, ⟨f1, f2, f3⟩⟩ := ck
          obtain rfl : cx = 1 := h1
          have c2 := hat.next 1 rfl
          have c3 := hat.next 2 rfl
          have c4 := hat.next 3 rfl
          have c5 := hat.next 4 rfl
          have heq : ((k1 : Int) == (l.length : Int)) = true := by rw [beq_iff_eq]; omega
          clear hat hk1
          have HRB : Hid (∀ w', Calls Tryz.prog 113 #[.agg #[.int .i64 f1, .int .i64 f2, .int .i64 f3]] w' fun e w'' => e = .returned (.agg #[.int .i64 32, .string ⟨#[]⟩, .int .i64 0, .int .i64 (-1), .int .i64 f2, .int .i64 0]) ∧ Below w'.heap.size w' w'') := HRB
          go_wp2_with fail
          refine (HRB.out _).mono ?_; rintro e w1 ⟨rfl, hb1⟩
          have ho1 := HOW.out.kept hb1
          have HB1 : Hid (Below base w w1) := Lib.hid (HBL.out.trans (hb1.mono (Nat.le_trans HBS.out HBL.out.size)))
          have d0 : w1.cell? ⟨b, k * 6, none⟩ = some (.int .i64 cr) := HFAC.out w1 ho1 0 (by decide)
          have d1 : w1.cell? ⟨b, k * 6 + 1, none⟩ = some (.string ⟨cm.toArray⟩) := HFAC.out w1 ho1 1 (by decide)
          have d2 : w1.cell? ⟨b, k * 6 + 2, none⟩ = some (.int .i64 1) := HFAC.out w1 ho1 2 (by decide)
          have d3 : w1.cell? ⟨b, k * 6 + 3, none⟩ = some (.int .i64 f1) := HFAC.out w1 ho1 3 (by decide)
          have d4 : w1.cell? ⟨b, k * 6 + 4, none⟩ = some (.int .i64 f2) := HFAC.out w1 ho1 4 (by decide)
          have d5 : w1.cell? ⟨b, k * 6 + 5, none⟩ = some (.int .i64 f3) := HFAC.out w1 ho1 5 (by decide)
          have g0 := ho1.free (k * 6)
          have g1 := ho1.free (k * 6 + 1)
          have g2 := ho1.free (k * 6 + 2)
          have g3 := ho1.free (k * 6 + 3)
          have g4 := ho1.free (k * 6 + 4)
          have g5 := ho1.free (k * 6 + 5)
          have HP := Lib.hid (HPUT.out w1 ho1)
          have HB5 := Lib.hid (below_put HB1.out HBB.out k (blank ⟨f1, f2, f3⟩))
          clear ho1 hb1 c2 c3 c4 c5 HB1
          go_wp2_with fail
          clear d0 d1 d2 d3 d4 d5 g0 g1 g2 g3 g4 g5
          rw [← HKEEP.out] at HP
          simp only [putCell, blank] at HP HB5
          generalize (((((w1.setCell ⟨b, k * 6, none⟩ (.int .i64 32)).setCell ⟨b, k * 6 + 1, none⟩ (.string ⟨#[]⟩)).setCell ⟨b, k * 6 + 2, none⟩ (.int .i64 0)).setCell ⟨b, k * 6 + 3, none⟩ (.int .i64 (-1))).setCell ⟨b, k * 6 + 4, none⟩ (.int .i64 f2)).setCell ⟨b, k * 6 + 5, none⟩ (.int .i64 0) = wz at HP HB5 ⊢
          go_roundw
          case rel => exact ⟨k1, by have := HK1.out; omega, by rw [h2], HP, HB5⟩
          case measure => have := HK1.out; simp [intOf]; omega
        · have hkeep := mendTo_keep (l := l) (k := k) (fun q => h2 (by rw [← hk1]; exact q.2))
          rw [hk1] at hkeep
          have h3 : (g l k1).wide = 2 := by have := hgk.1 h1 (by omega); rwa [hk1] at this
          have hk1l : k1 < l.length := by omega
          have hat1 := HOW.out.att hk1l
          have HKEEP := Lib.hid hkeep
          clear hgk hkeep
          generalize g l k = ck at h1 hat
          generalize g l k1 = dk at h3 hat1
          obtain ⟨cr, cm, cx, ⟨f1, f2, f3⟩⟩ := ck
          obtain rfl : cx = 1 := h1
          obtain ⟨dr, dm, dx, ⟨e1, e2, e3⟩⟩ := dk
          obtain rfl : dx = 2 := h3
          have c2 := hat.next 1 rfl
          have d2 := hat1.next 1 rfl
          have hne : ((k1 : Int) == (l.length : Int)) = false := by rw [beq_eq_false_iff_ne]; omega
          clear hat hat1 hk1
          go_wp2_with fail
          go_roundw
          case rel => exact ⟨k1, by have := HK1.out; omega, rfl, by rw [HKEEP.out]; exact HOW, HBL⟩
          case measure => have := HK1.out; simp [intOf]; omega
      · have hkeep := mendTo_keep (k := k) (fun q => h1 q.1)
        rw [hk1] at hkeep
        have HKEEP := Lib.hid hkeep
        by_cases h2 : (g l k).wide = 2
        · obtain ⟨hk0, h3⟩ := hgk.2 h2
          obtain ⟨j, hj⟩ : ∃ j, k - 1 = j := ⟨_, rfl⟩
          rw [hj] at h3
          have hw0 : IntKind.i64.wrap ((k : Int) - 1) = (j : Int) := by rw [IntKind.wrap_i64]; omega
          have hjl : j < l.length := by omega
          have hat1 := HOW.out.att hjl
          have hkz : ((k : Int) == 0) = false := by rw [beq_eq_false_iff_ne]; omega
          have hkz' : (k == 0) = false := by rw [beq_eq_false_iff_ne]; omega
          clear hgk hkeep h1
          generalize g l k = ck at h2 hat
          generalize g l j = dk at h3 hat1
          obtain ⟨cr, cm, cx, ⟨f1, f2, f3⟩⟩ := ck
          obtain rfl : cx = 2 := h2
          obtain ⟨dr, dm, dx, ⟨e1, e2, e3⟩⟩ := dk
          obtain rfl : dx = 1 := h3
          have c2 := hat.next 1 rfl
          have d2 := hat1.next 1 rfl
          clear hat hat1 hk1 hj
          go_wp2_with fail
          go_roundw
          case rel => exact ⟨k1, by have := HK1.out; omega, rfl, by rw [HKEEP.out]; exact HOW, HBL⟩
          case measure => have := HK1.out; simp [intOf]; omega
        · clear hgk hkeep
          generalize g l k = ck at h1 h2 hat
          obtain ⟨cr, cm, cx, ⟨f1, f2, f3⟩⟩ := ck
          have hx1 : (cx == 1) = false := by rw [beq_eq_false_iff_ne]; exact h1
          have hx2 : (cx == 2) = false := by rw [beq_eq_false_iff_ne]; exact h2
          have c2 : wr.cell? ⟨b, k * 6 + (1 + 1), none⟩ = some (.int .i64 cx) := hat.next 1 rfl
          clear hat hk1 h1 h2
          go_wp2_with fail
          go_roundw
          case rel => exact ⟨k1, by have := HK1.out; omega, rfl, by rw [HKEEP.out]; exact HOW, HBL⟩
          case measure => have := HK1.out; simp [intOf]; omega
    · have hkn : k = l.length := by omega
      subst hkn
      rw [mendTo_all] at HOW
      go_wp2_with fail
      go_end0
      exact ⟨rfl, HOW.out, HBL.out⟩
end Row
end Go.Proofs.YtmilpdhnblmflaaGreatDoor
end
