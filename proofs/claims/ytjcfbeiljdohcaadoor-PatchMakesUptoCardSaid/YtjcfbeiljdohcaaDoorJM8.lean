/- Joined texts: RowRef, RowRow. -/
import Derived.Test.YtjcfbeiljdohcaaDoorJM7
namespace Go.Proofs.YtjcfbeiljdohcaaDoor
set_option maxRecDepth 100000
section
open Go.RowKit
namespace Row
open Utf Wid
def runeVals (l : List UInt8) : List Value := (runesN l.length l).map (Value.int .i32)
theorem runesFrom_is (s : ByteArray) : ∀ (n pos : Nat) (acc : Array Value), (Conv.runesFrom s n pos acc).toList = acc.toList ++ (runesN n (s.data.toList.drop pos)).map (Value.int .i32)
  | 0, pos, acc => by simp [Conv.runesFrom, runesN]
  | n + 1, pos, acc => by
    unfold Conv.runesFrom
    by_cases hp : pos < s.size
    · rw [if_pos hp]
      have hne := Utf.drop_ne hp
      simp only [runesN, if_neg hne, Utf.dec_at, List.drop_drop]
      rw [runesFrom_is s n _ _, Array.toList_push, List.append_assoc]
      rfl
    · rw [if_neg hp]
      have he : s.data.toList.drop pos = [] := List.drop_eq_nil_of_le (by show s.size ≤ pos; omega)
      simp [runesN, he]
theorem runes_at (s : ByteArray) : (Conv.runesFrom s s.size 0 #[]).toList = runeVals s.data.toList := by
  rw [runesFrom_is s s.size 0 #[]]; rfl
theorem runesN_le : ∀ (n : Nat) (l : List UInt8), (runesN n l).length ≤ n
  | 0, _ => by simp [runesN]
  | n + 1, l => by
    unfold runesN
    split
    · simp
    · have := runesN_le n (l.drop (dec l).2)
      simp; omega
theorem runesN_bd : ∀ (n : Nat) (l : List UInt8) (k : Nat), 0 ≤ (runesN n l).getD k 0 ∧ (runesN n l).getD k 0 ≤ 1114111
  | 0, _, k => by simp [runesN]
  | n + 1, l, k => by
    unfold runesN
    split
    · simp
    · cases k with
      | zero =>
        have := Utf.dec_small l
        simp only [List.getD_cons_zero]
        omega
      | succ k => exact runesN_bd n _ k
theorem run_runes (s : ByteArray) (w : World) (hs : s.size ≤ 1000000000) :
    ∃ c w', (convert 9 105 (.string s)).run Tryd.prog w = .ok (.slice (some ⟨w.heap.size, 0, none⟩) (runesN s.size s.data.toList).length c) w' ∧
      (∀ k, k < (runesN s.size s.data.toList).length → w'.cell? ⟨w.heap.size, k, none⟩ = some (.int .i32 ((runesN s.size s.data.toList).getD k 0))) ∧ Below w.heap.size w w' := by
  have hsz : (Conv.runesFrom s s.size 0 #[]).size = (runesN s.size s.data.toList).length := by
    rw [← Array.length_toList, runes_at]; simp [runeVals]
  have hle : (Conv.runesFrom s s.size 0 #[]).size ≤ 70368744177664 := by rw [hsz]; have := runesN_le s.size s.data.toList; omega
  have hr := run_runes_of_string (P := Tryd.prog) w 9 105 21 s Tryd.underlying9 Tryd.underlying105 Tryd.underlying21 hle
  rw [hsz] at hr
  refine ⟨_, _, hr, fun k hk => ?_, (Below.refl _ _).drew.alloc (Nat.le_refl _) _⟩
  have hb := heap_alloc_new w.drew (.cells (Conv.runesFrom s s.size 0 #[] ++ Array.replicate (grownCap w (runesN s.size s.data.toList).length 0 21 - (runesN s.size s.data.toList).length) (.int .i32 0)) 21)
  have hc := Blk.cell hb k
  have hd : (w.drew).heap.size = w.heap.size := rfl
  rw [hd] at hc
  rw [hc, Array.getElem?_append_left (by rw [hsz]; exact hk), ← Array.getElem?_toList, runes_at]
  show ((runesN s.size s.data.toList).map (Value.int .i32))[k]? = _
  rw [List.getElem?_map]
  simp [List.getD, hk]
def allM (l : List Int) (k : Nat) : Bool := (l.drop k).all fun r => decide (wid r = 0)
theorem allM_step {l : List Int} {k : Nat} (h : k < l.length) : allM l k = (decide (wid (l.getD k 0) = 0) && allM l (k + 1)) := by
  unfold allM
  rw [List.drop_eq_getElem_cons h, List.all_cons]
  simp [List.getD, h]
theorem combOk_runes (l : List UInt8) : combOk l = (Lib.validD l && (allM (runesN l.length l) 0 && decide ((runesN l.length l).length ≤ 2))) := by
  have hm := marks_runes l.length l (Nat.le_refl _)
  unfold combOk allM
  rw [List.drop_zero]
  cases ha : (runesN l.length l).all fun r => decide (wid r = 0) with
  | true =>
    rw [ha, if_pos rfl] at hm
    rw [hm, marks_valid l.length l _ (Nat.le_refl _) hm]
    simp
  | false =>
    rw [ha, if_neg (by decide)] at hm
    rw [hm]
    simp
theorem cbox_kept {w w1 : World} {c : Cl} {arr : Array Value} (ha : arr = (cvals c).toArray) (hb : Below (w.alloc (.cells arr 63)).heap.size (w.alloc (.cells arr 63)) w1) :
    w1.heap[w.heap.size]? = some (.cells (cvals c).toArray 63 (0, 0)) ∧ Below w.heap.size w w1 := by
  subst ha
  exact ⟨Blk.kept (heap_alloc_new _ _) hb, ((Below.refl _ _).alloc (Nat.le_refl _) _).trans (hb.mono (by simp))⟩
theorem cbox_cells {w : World} {b : Nat} {r x f1 f2 f3 : Int} {m : List UInt8} (h : w.heap[b]? = some (.cells (cvals ⟨r, m, x, ⟨f1, f2, f3⟩⟩).toArray 63 (0, 0))) :
    w.cell? ⟨b, 0, none⟩ = some (.int .i64 r) ∧ w.cell? ⟨b, 1, none⟩ = some (.string ⟨m.toArray⟩) ∧ w.cell? ⟨b, 2, none⟩ = some (.int .i64 x) ∧ w.cell? ⟨b, 3, none⟩ = some (.int .i64 f1) ∧ w.cell? ⟨b, 4, none⟩ = some (.int .i64 f2) ∧ w.cell? ⟨b, 5, none⟩ = some (.int .i64 f3) :=
  ⟨Blk.cell h 0, Blk.cell h 1, Blk.cell h 2, Blk.cell h 3, Blk.cell h 4, Blk.cell h 5⟩
theorem attr_at (a : Look) (b : Bool) (hb : attrOk a = b) (w : World) : Calls Tryd.prog 52 #[.agg #[.int .i64 a.fg, .int .i64 a.bg, .int .i64 a.flags]] w fun e w' => e = .returned (.bool b) ∧ Below w.heap.size w w' := by
  subst hb; exact attr_any a w
theorem width_at (r q : Int) (hq : wid r = q) (w : World) : Calls Tryd.prog 53 #[.int .i64 r] w fun e w' => e = .returned (.int .i64 q) ∧ Below w.heap.size w w' := by
  subst hq; exact width_any r w
set_option maxHeartbeats 1600000 in
theorem refCell_bada (c : Cl) (w : World) (h : attrOk c.a = false) :
    Calls Tryd.prog 41 #[cagg c] w fun e w' => e = .returned (.bool false) ∧ Below w.heap.size w w' := by
  have HA := Lib.hid (fun w' => attr_at c.a false h w')
  obtain ⟨r, m, x, ⟨f1, f2, f3⟩⟩ := c
  clear h
  unfold cagg
  go_enter Tryd.func41, Tryd.ntmps41
  go_wp2_with fail
  refine (HA.out _).mono ?_; rintro e w1 ⟨rfl, hb1⟩
  obtain ⟨hk1, hbw⟩ := cbox_kept (c := ⟨r, m, x, ⟨f1, f2, f3⟩⟩) rfl hb1
  have HB1 := Lib.hid hbw
  clear hb1 hk1 hbw
  go_wp2_with fail
  go_ret
  exact ⟨rfl, HB1.out⟩
set_option maxHeartbeats 1600000 in
theorem refCell_badv (c : Cl) (w : World) (h : attrOk c.a = true) (hv : Lib.validD c.comb = false) (hs : c.comb.length ≤ 1000000000) (hT : Tabs w) :
    Calls Tryd.prog 41 #[cagg c] w fun e w' => e = .returned (.bool false) ∧ Below w.heap.size w w' := by
  have HA := Lib.hid (fun w' => attr_at c.a true h w')
  have HV := Lib.hid (fun w' (k : Tabs w') => valid_any ⟨c.comb.toArray⟩ w' hs k)
  obtain ⟨r, m, x, ⟨f1, f2, f3⟩⟩ := c
  have HV2 : Hid (Lib.validD (⟨m.toArray⟩ : ByteArray).data.toList = false) := Lib.hid hv
  rw [HV2.out] at HV
  clear h hv hs
  unfold cagg
  go_enter Tryd.func41, Tryd.ntmps41
  go_wp2_with fail
  refine (HA.out _).mono ?_; rintro e w1 ⟨rfl, hb1⟩
  obtain ⟨hk1, hbw⟩ := cbox_kept (c := ⟨r, m, x, ⟨f1, f2, f3⟩⟩) rfl hb1
  have HB1 := Lib.hid hbw
  have HT1 := Lib.hid (hT.kept hbw)
  obtain ⟨k0, k1, k2, k3, k4, k5⟩ := cbox_cells hk1
  clear hb1 hk1 hbw
  go_wp2_with fail
  refine (HV.out _ HT1.out).mono ?_; rintro e w2 ⟨rfl, hb2⟩
  have HB2 : Hid (Below w.heap.size w w2) := Lib.hid (HB1.out.trans (hb2.mono HB1.out.size))
  clear hb2
  go_wp2_with fail
  go_ret
  exact ⟨rfl, HB2.out⟩
set_option maxHeartbeats 3200000 in
theorem refCell_fine (c : Cl) (b : Bool) (w : World) (h : attrOk c.a = true) (hv : Lib.validD c.comb = true) (hs : c.comb.length ≤ 1000000000) (hT : Tabs w) (hb : b = true ↔ kind c ≠ 0) :
    Calls Tryd.prog 41 #[cagg c] w fun e w' => e = .returned (.bool b) ∧ Below w.heap.size w w' := by
  have HA := Lib.hid (fun w' => attr_at c.a true h w')
  have HV := Lib.hid (fun w' (k : Tabs w') => valid_any ⟨c.comb.toArray⟩ w' hs k)
  have HRN := Lib.hid (fun w' => run_runes ⟨c.comb.toArray⟩ w' hs)
  have hcr := combOk_runes c.comb
  rw [hv, Bool.true_and] at hcr
  have HWD := Lib.hid (fun q hq w' => width_at c.rune q hq w')
  have HKB : Hid (combOk c.comb = false → b = false) := Lib.hid fun e => by
    cases b
    · rfl
    · exact absurd (kind_bad e) (hb.1 rfl)
  have HKF : Hid (combOk c.comb = true → (b = true ↔ (bif decide (wid c.rune = 1) && decide (c.wide = 0) then 1 else bif decide (wid c.rune = 2) && decide (c.wide = 1) then 2 else bif isSec c then 3 else 0) ≠ 0)) := Lib.hid fun e => by rw [hb, kind_fine e h]
  obtain ⟨r, m, x, ⟨f1, f2, f3⟩⟩ := c
  have HV2 : Hid (Lib.validD (⟨m.toArray⟩ : ByteArray).data.toList = true) := Lib.hid hv
  have HCR : Hid (combOk m = (allM (runesN m.length m) 0 && decide ((runesN m.length m).length ≤ 2))) := Lib.hid hcr
  rw [HV2.out] at HV
  have HRN : Hid (∀ w' : World, ∃ c w'', (convert 9 105 (.string ⟨m.toArray⟩)).run Tryd.prog w' = .ok (.slice (some ⟨w'.heap.size, 0, none⟩) (runesN m.length m).length c) w'' ∧
      (∀ k, k < (runesN m.length m).length → w''.cell? ⟨w'.heap.size, k, none⟩ = some (.int .i32 ((runesN m.length m).getD k 0))) ∧ Below w'.heap.size w' w'') := HRN
  have hle := runesN_le m.length m
  have HBD := Lib.hid (runesN_bd m.length m)
  have hsm : m.length ≤ 1000000000 := hs
  generalize runesN m.length m = rs at HCR HRN hle HBD
  clear h hv hs hcr hb
  unfold cagg
  go_enter Tryd.func41, Tryd.ntmps41
  go_wp2_with fail
  refine (HA.out _).mono ?_; rintro e w1 ⟨rfl, hb1⟩
  obtain ⟨hk1, hbw⟩ := cbox_kept (c := ⟨r, m, x, ⟨f1, f2, f3⟩⟩) rfl hb1
  have HB1 := Lib.hid hbw
  have HT1 := Lib.hid (hT.kept hbw)
  have HK1 := Lib.hid hk1
  obtain ⟨k0, k1, k2, k3, k4, k5⟩ := cbox_cells hk1
  clear hb1 hk1 hbw
  go_wp2_with fail
  refine (HV.out _ HT1.out).mono ?_; rintro e w2 ⟨rfl, hb2⟩
  have HB2 : Hid (Below w.heap.size w w2) := Lib.hid (HB1.out.trans (hb2.mono HB1.out.size))
  have HK2 := Lib.hid (Blk.kept HK1.out hb2)
  clear hb2 k0 k1 k2 k3 k4 k5
  obtain ⟨k0, k1, k2, k3, k4, k5⟩ := cbox_cells HK2.out
  obtain ⟨cp, w3, hrun, hcells, hb3⟩ := HRN.out w2
  have HB3 : Hid (Below w.heap.size w w3) := Lib.hid (HB2.out.trans (hb3.mono HB2.out.size))
  have HK3 := Lib.hid (Blk.kept HK2.out hb3)
  have HCE := Lib.hid hcells
  clear hcells hb3
  go_wp2_with fail
  go_loopw [4] (fun i wr => ∃ k : Nat, k ≤ rs.length ∧ i = .int .i64 k ∧ Hid (allM rs 0 = allM rs k) ∧ Below w3.heap.size w3 wr) (fun i _ => rs.length - (intOf i).toNat)
  case atStart => exact ⟨0, by omega, rfl, Lib.hid rfl, Below.refl _ _⟩
  case round =>
    obtain ⟨k, hk, rfl, HM, hbl⟩ := hrel
    have HBL := Lib.hid hbl
    have HBW : Hid (Below w.heap.size w wr) := Lib.hid (HB3.out.trans (hbl.mono HB3.out.size))
    clear k0 k1 k2 k3 k4 k5
    by_cases hlt : k < rs.length
    · have c1 := cell_kept hbl (HCE.out k hlt)
      have hpb := HBD.out k
      by_cases hw : wid (rs.getD k 0) = 0
      · have HM2 : Hid (allM rs 0 = allM rs (k + 1)) := Lib.hid (by rw [HM.out, allM_step hlt, decide_eq_true hw, Bool.true_and])
        have HW := Lib.hid (fun w' => width_at _ 0 hw w')
        clear hw hbl
        generalize rs.getD k 0 = p at c1 hpb HW
        go_wp2_with fail
        refine (HW.out _).mono ?_; rintro e w4 ⟨rfl, hb4⟩
        have HB4 : Hid (Below w3.heap.size w3 w4) := Lib.hid (HBL.out.trans (hb4.mono HBL.out.size))
        clear hb4
        go_wp2_with fail
        go_roundw
        case rel => exact ⟨k + 1, by omega, by go_num, HM2, HB4.out⟩
        case measure => simp [intOf]; omega
      · have hbf : b = false := HKB.out (by rw [HCR.out, HM.out, allM_step hlt, decide_eq_false hw, Bool.false_and, Bool.false_and])
        subst hbf
        have HW := Lib.hid (fun w' => width_at (rs.getD k 0) _ rfl w')
        have hb1 : (wid (rs.getD k 0) != 0) = true := by rw [bne_iff_ne]; exact hw
        clear hw hbl
        generalize rs.getD k 0 = p at c1 hpb HW hb1
        generalize wid p = q at HW hb1
        go_wp2_with fail
        refine (HW.out _).mono ?_; rintro e w4 ⟨rfl, hb4⟩
        have HB4 : Hid (Below w.heap.size w w4) := Lib.hid (HBW.out.trans (hb4.mono HBW.out.size))
        clear hb4
        go_wp2_with fail
        go_ret
        exact ⟨rfl, HB4.out⟩
    · have hkn : k = rs.length := by omega
      subst hkn
      have hall : allM rs rs.length = true := by unfold allM; rw [List.drop_length]; rfl
      have HCM : Hid (combOk m = decide (rs.length ≤ 2)) := Lib.hid (by rw [HCR.out, HM.out, hall, Bool.true_and])
      obtain ⟨k0, k1, k2, k3, k4, k5⟩ := cbox_cells (Blk.kept HK3.out hbl)
      clear hall hbl
      by_cases h2 : rs.length ≤ 2
      · have HKK := Lib.hid (HKF.out (by rw [HCM.out]; exact decide_eq_true h2))
        have hd2 : decide (2 < rs.length) = false := decide_eq_false (by omega)
        by_cases hx0 : x = 0
        · subst hx0
          have hbq : (wid r == 1) = b := by
            have := HKK.out
            cases b
            · rw [beq_eq_false_iff_ne]
              intro e
              have h1 := this.2
              simp [e] at h1
            · rw [beq_iff_eq]
              have h1 := this.1 rfl
              simp [isSec] at h1
              by_cases e : wid r = 1
              · exact e
              · simp [e] at h1
          have HW := Lib.hid (fun w' => HWD.out _ rfl w')
          generalize wid r = q at HW hbq
          go_wp2_with fail
          refine (HW.out _).mono ?_; rintro e w4 ⟨rfl, hb4⟩
          have HB4 : Hid (Below w.heap.size w w4) := Lib.hid (HBW.out.trans (hb4.mono HBW.out.size))
          clear hb4
          go_wp2_with fail
          go_ret
          exact ⟨rfl, HB4.out⟩
        · have hxb0 : (x == 0) = false := by rw [beq_eq_false_iff_ne]; exact hx0
          by_cases hx1 : x = 1
          · subst hx1
            have hbq : (wid r == 2) = b := by
              have := HKK.out
              cases b
              · rw [beq_eq_false_iff_ne]
                intro e
                have h1 := this.2
                simp [e] at h1
              · rw [beq_iff_eq]
                have h1 := this.1 rfl
                simp [isSec] at h1
                by_cases e : wid r = 2
                · exact e
                · simp [e] at h1
            have HW := Lib.hid (fun w' => HWD.out _ rfl w')
            generalize wid r = q at HW hbq
            go_wp2_with fail
            refine (HW.out _).mono ?_; rintro e w4 ⟨rfl, hb4⟩
            have HB4 : Hid (Below w.heap.size w w4) := Lib.hid (HBW.out.trans (hb4.mono HBW.out.size))
            clear hb4
            go_wp2_with fail
            go_ret
            exact ⟨rfl, HB4.out⟩
          · have hxb1 : (x == 1) = false := by rw [beq_eq_false_iff_ne]; exact hx1
            have HBS : Hid (b = (decide (x = 2) && (decide (r = 0) && decide (m = [])))) := Lib.hid (by
              have := HKK.out
              simp only [decide_eq_false hx0, decide_eq_false hx1, Bool.and_false, cond_false] at this
              have hs : isSec ⟨r, m, x, ⟨f1, f2, f3⟩⟩ = (decide (r = 0) && (decide (m = []) && decide (x = 2))) := rfl
              rw [hs] at this
              by_cases e1 : r = 0
              · by_cases e2 : m = []
                · by_cases e3 : x = 2
                  · simp [e1, e2, e3] at this ⊢; exact this
                  · simp [e1, e2, e3] at this ⊢; exact this
                · simp [e1, e2] at this ⊢; exact this
              · simp [e1] at this ⊢; exact this)
            clear hx0 hx1
            by_cases e3 : x = 2
            · subst e3
              by_cases e1 : r = 0
              · subst e1
                by_cases e2 : m = []
                · subst e2
                  go_wp2_with fail
                  go_ret
                  exact ⟨by rw [HBS.out]; rfl, HBW.out⟩
                · have HBF : Hid (b = false) := Lib.hid (by rw [HBS.out, decide_eq_false e2]; simp)
                  have hme : m.isEmpty = false := by cases m with
                    | nil => exact absurd rfl e2
                    | cons _ _ => rfl
                  clear e2
                  go_wp2_with fail
                  go_ret
                  exact ⟨by rw [HBF.out]; rfl, HBW.out⟩
              · have HBF : Hid (b = false) := Lib.hid (by rw [HBS.out, decide_eq_false e1]; simp)
                have hrb : (r == 0) = false := by rw [beq_eq_false_iff_ne]; exact e1
                clear e1
                go_wp2_with fail
                go_ret
                exact ⟨by rw [HBF.out]; rfl, HBW.out⟩
            · have HBF : Hid (b = false) := Lib.hid (by rw [HBS.out, decide_eq_false e3]; simp)
              have hrb : (x == 2) = false := by rw [beq_eq_false_iff_ne]; exact e3
              clear e3
              go_wp2_with fail
              go_ret
              exact ⟨by rw [HBF.out]; rfl, HBW.out⟩
      · have hbf : b = false := HKB.out (by rw [HCM.out]; exact decide_eq_false h2)
        subst hbf
        have hd2 : decide (2 < rs.length) = true := decide_eq_true (by omega)
        go_wp2_with fail
        go_ret
        exact ⟨rfl, HBW.out⟩
theorem refCell_any (c : Cl) (b : Bool) (w : World) (hs : c.comb.length ≤ 1000000000) (hT : Tabs w) (hb : b = true ↔ kind c ≠ 0) :
    Calls Tryd.prog 41 #[cagg c] w fun e w' => e = .returned (.bool b) ∧ Below w.heap.size w w' := by
  cases h : attrOk c.a with
  | false =>
    have hbf : b = false := by
      cases b
      · rfl
      · exact absurd (kind_bada h) (hb.1 rfl)
    subst hbf
    exact refCell_bada c w h
  | true =>
    cases hv : Lib.validD c.comb with
    | false =>
      have hbf : b = false := by
        cases b
        · rfl
        · exact absurd (kind_bad (by rw [combOk_runes, hv]; rfl)) (hb.1 rfl)
      subst hbf
      exact refCell_badv c w h hv hs hT
    | true => exact refCell_fine c b w h hv hs hT hb
end Row
end
section
open Go.RowKit
namespace Row
open Utf Wid
theorem btw_at (n lo hi : Int) (b : Bool) (hb : rng n lo hi = b) (w : World) : Calls Tryd.prog 28 #[.int .i64 n, .int .i64 lo, .int .i64 hi] w fun e w' => e = .returned (.bool b) ∧ w = w' := by
  subst hb; exact between_any n lo hi w
def Short (l : List Cl) : Prop := ∀ i, i < l.length → (g l i).comb.length ≤ 1000000000
def firstBad (l : List Cl) (i : Nat) : Prop := (g l i).wide = 1 ∧ ¬ (i + 1 < l.length ∧ (g l (i + 1)).wide = 2 ∧ (g l (i + 1)).a = (g l i).a)
def secondBad (l : List Cl) (i : Nat) : Prop := (g l i).wide = 2 ∧ ¬ (0 < i ∧ (g l (i - 1)).wide = 1)
theorem refAt_iff (l : List Cl) (i : Nat) : refAt l i ↔ kind (g l i) ≠ 0 ∧ ¬ firstBad l i ∧ ¬ secondBad l i := by
  unfold refAt firstBad secondBad
  constructor
  · rintro ⟨h1, h2, h3⟩
    exact ⟨h1, fun ⟨a, b⟩ => b (h2 a), fun ⟨a, b⟩ => b (h3 a)⟩
  · rintro ⟨h1, h2, h3⟩
    refine ⟨h1, fun a => ?_, fun a => ?_⟩
    · by_cases h : i + 1 < l.length ∧ (g l (i + 1)).wide = 2 ∧ (g l (i + 1)).a = (g l i).a
      · exact h
      · exact absurd ⟨a, h⟩ h2
    · by_cases h : 0 < i ∧ (g l (i - 1)).wide = 1
      · exact h
      · exact absurd ⟨a, h⟩ h3
@[go_sem] theorem neq_attr (f1 f2 f3 : Int) (w : World) : (binOp .neq 60 (.agg #[.int .i64 f1, .int .i64 f2, .int .i64 f3]) (.agg #[.int .i64 f1, .int .i64 f2, .int .i64 f3])).run Tryd.prog w = .ok (.bool false) w := by
  simp [go_sem]
theorem neq_attr_not {a b : Look} (h : a ≠ b) (w : World) : (binOp .neq 60 (.agg #[.int .i64 a.fg, .int .i64 a.bg, .int .i64 a.flags]) (.agg #[.int .i64 b.fg, .int .i64 b.bg, .int .i64 b.flags])).run Tryd.prog w = .ok (.bool true) w := by
  obtain ⟨f1, f2, f3⟩ := a
  obtain ⟨g1, g2, g3⟩ := b
  by_cases h1 : f1 = g1
  · by_cases h2 : f2 = g2
    · have h3 : f3 ≠ g3 := by rintro rfl; exact h (by rw [h1, h2])
      simp [go_sem, h1, h2, h3]
    · simp [go_sem, h1, h2]
  · simp [go_sem, h1]
set_option maxHeartbeats 6400000 in
theorem refRow_any (l : List Cl) (b : Bool) (x : Value) (w : World) (hx : Cs w x l) (hs : Short l) (hT : Tabs w) (hl : l.length ≤ 1000000) (hb : b = true ↔ RowOk l) :
    Calls Tryd.prog 29 #[x] w fun e w' => e = .returned (.bool b) ∧ Below w.heap.size w w' := by
  obtain ⟨A, c, rfl, ha⟩ := hx.form
  by_cases hr : 1 ≤ l.length ∧ l.length ≤ 40
  · have H1 : Hid (rng (l.length : Int) 1 40 = true) := Lib.hid (by unfold rng; rw [decide_eq_true (show (1 : Int) ≤ (l.length : Int) by omega), decide_eq_true (show (l.length : Int) ≤ 40 by omega)]; rfl)
    have HA := Lib.hid ha
    have HS := Lib.hid hs
    have HB : Hid (b = true ↔ ∀ i, i < l.length → refAt l i) := Lib.hid (by
      rw [hb]
      constructor
      · intro h; exact (good_iff l).1 h.2.2
      · intro h; exact ⟨hr.1, hr.2, (good_iff l).2 h⟩)
    clear hx hs hb ha hr
    go_enter Tryd.func29, Tryd.ntmps29
    go_wp2_with fail
    refine (btw_at _ _ _ _ H1.out _).mono ?_; rintro e w' ⟨rfl, rfl⟩
    go_wp2_with fail
    go_loopw [3] (fun i wr => ∃ k : Nat, k ≤ l.length ∧ i = .int .i64 k ∧ Hid (∀ j, j < k → refAt l j) ∧ Below w.heap.size w wr) (fun i _ => l.length - (intOf i).toNat)
    case atStart => exact ⟨0, by omega, rfl, Lib.hid fun j hj => absurd hj (by omega), Below.refl _ _⟩
    case round =>
      obtain ⟨k, hk, rfl, HG, hbl⟩ := hrel
      have HBL := Lib.hid hbl
      by_cases hlt : k < l.length
      · obtain ⟨ad, rfl, hat⟩ := HA.out k hlt
        have HAT := Lib.hid hat
        have hK := hat.kept hbl
        have HTW := Lib.hid (hT.kept hbl)
        have HNX : Hid (refAt l k → ∀ j, j < k + 1 → refAt l j) := Lib.hid fun h j hj => by
          by_cases hjk : j < k
          · exact HG.out j hjk
          · obtain rfl : j = k := by omega
            exact h
        have HNO : Hid (¬ refAt l k → b = false) := Lib.hid fun h => by
          cases b
          · rfl
          · exact absurd (HB.out.1 rfl k hlt) h
        have HIF := Lib.hid (refAt_iff l k)
        have hsk := HS.out k hlt
        by_cases hkind : kind (g l k) = 0
        · have hbf : b = false := HNO.out fun h => (HIF.out.1 h).1 hkind
          subst hbf
          have HCELL := Lib.hid (refCell_any (g l k) false wr hsk HTW.out ⟨(fun h => by cases h), fun h => absurd hkind h⟩)
          clear hkind hat hbl
          generalize g l k = ck at hK HCELL
          obtain ⟨cr, cm, cx, ⟨f1, f2, f3⟩⟩ := ck
          have c0 := hK.head
          have c1 := hK.next 0 rfl
          have c2 := hK.next 1 rfl
          have c3 := hK.next 2 rfl
          have c4 := hK.next 3 rfl
          have c5 := hK.next 4 rfl
          have HCELL : Hid (Calls Tryd.prog 41 #[.agg #[.int .i64 cr, .string ⟨cm.toArray⟩, .int .i64 cx, .int .i64 f1, .int .i64 f2, .int .i64 f3]] wr fun e w' => e = .returned (.bool false) ∧ Below wr.heap.size wr w') := HCELL
          clear hK
          go_wp2_with fail
          refine HCELL.out.mono ?_; rintro e w4 ⟨rfl, hb4⟩
          have HB4 : Hid (Below w.heap.size w w4) := Lib.hid (HBL.out.trans (hb4.mono HBL.out.size))
          clear hb4
          go_wp2_with fail
          go_ret
          exact ⟨rfl, HB4.out⟩
        · have HCELL := Lib.hid (refCell_any (g l k) true wr hsk HTW.out ⟨fun _ => hkind, fun _ => rfl⟩)
          have HKD := Lib.hid hkind
          have HW1 := Lib.hid (fun h => kind_of_wide1 hkind h)
          have HW2 := Lib.hid (fun h => kind_of_wide2 hkind h)
          by_cases hx1 : (g l k).wide = 1
          · obtain ⟨k1, hk1e⟩ : ∃ k1, k1 = k + 1 := ⟨_, rfl⟩
            have hwrap : IntKind.i64.wrap ((k : Int) + 1) = (k1 : Int) := by rw [IntKind.wrap_i64]; omega
            by_cases hk1 : k1 < l.length
            · obtain ⟨ad', e2, hat2⟩ := HA.out k1 hk1
              injection e2 with e2
              subst e2
              have HAT2 := Lib.hid hat2
              have hkb : ((k1 : Int) == (l.length : Int)) = false := by rw [beq_eq_false_iff_ne]; omega
              have HPASS : Hid ((g l k1).wide = 2 → (g l k1).a = (g l k).a → refAt l k) := Lib.hid fun h1 h2 => HIF.out.2 ⟨HKD.out, fun h => h.2 (by rw [← hk1e]; exact ⟨hk1, h1, h2⟩), fun h => by have := h.1; omega⟩
              have HFAIL : Hid (¬ ((g l k1).wide = 2 ∧ (g l k1).a = (g l k).a) → b = false) := Lib.hid fun h => HNO.out fun hr => (HIF.out.1 hr).2.1 ⟨hx1, fun q => h (by rw [hk1e]; exact q.2)⟩
              have HK1E := Lib.hid hk1e
              clear hat hat2 hbl hk1e HNO HIF
              generalize g l k1 = dk at HAT2 HPASS HFAIL
              generalize g l k = ck at hK HCELL HAT hx1 HPASS HFAIL HKD HW1 HW2
              obtain ⟨cr, cm, cx, ⟨f1, f2, f3⟩⟩ := ck
              obtain ⟨dr, dm, dx, ⟨e1, e2, e3⟩⟩ := dk
              obtain rfl : cx = 1 := hx1
              have c0 := hK.head
              have c1 := hK.next 0 rfl
              have c2 := hK.next 1 rfl
              have c3 := hK.next 2 rfl
              have c4 := hK.next 3 rfl
              have c5 := hK.next 4 rfl
              have HCELL : Hid (Calls Tryd.prog 41 #[.agg #[.int .i64 cr, .string ⟨cm.toArray⟩, .int .i64 1, .int .i64 f1, .int .i64 f2, .int .i64 f3]] wr fun e w' => e = .returned (.bool true) ∧ Below wr.heap.size wr w') := HCELL
              clear hK
              go_wp2_with fail
              refine HCELL.out.mono ?_; rintro e w4 ⟨rfl, hb4⟩
              have HB4 : Hid (Below w.heap.size w w4) := Lib.hid (HBL.out.trans (hb4.mono HBL.out.size))
              have hK4 := HAT.out.kept HB4.out
              have hD4 := HAT2.out.kept HB4.out
              clear hb4 c0 c1 c2 c3 c4 c5
              have c2 := hK4.next 1 rfl
              have c3 := hK4.next 2 rfl
              have c4 := hK4.next 3 rfl
              have c5 := hK4.next 4 rfl
              have d2 := hD4.next 1 rfl
              have d3 := hD4.next 2 rfl
              have d4 := hD4.next 3 rfl
              have d5 := hD4.next 4 rfl
              clear hK4 hD4
              by_cases hdx : dx = 2
              · subst hdx
                by_cases hat : (⟨e1, e2, e3⟩ : Look) = ⟨f1, f2, f3⟩
                · have HNX2 := Lib.hid (HNX.out (HPASS.out rfl hat))
                  injection hat with q1 q2 q3
                  subst q1
                  subst q2
                  subst q3
                  clear HFAIL HPASS
                  go_wp2_with fail
                  go_quiet (fail)
                  go_wp2_with fail
                  go_roundw
                  case rel => exact ⟨k1, by omega, by go_num, by rw [HK1E.out]; exact HNX2, below_drewN HB4.out _⟩
                  case measure => have := HK1E.out; simp [intOf]; omega
                · have hbf : b = false := HFAIL.out fun h => hat h.2
                  subst hbf
                  have hneq := neq_attr_not hat
                  simp only [] at hneq
                  clear hat HFAIL HPASS
                  go_wp2_with fail
                  go_quiet (fail)
                  go_wp2_with fail
                  go_ret
                  exact ⟨rfl, below_drewN HB4.out _⟩
              · have hbf : b = false := HFAIL.out fun h => hdx h.1
                subst hbf
                have hdb : (dx != 2) = true := by rw [bne_iff_ne]; exact hdx
                clear hdx HFAIL HPASS
                go_wp2_with fail
                go_quiet (fail)
                go_wp2_with fail
                go_ret
                exact ⟨rfl, below_drewN HB4.out _⟩
            · have hkb : ((k1 : Int) == (l.length : Int)) = true := by rw [beq_iff_eq]; omega
              have hbf : b = false := HNO.out fun hr => (HIF.out.1 hr).2.1 ⟨hx1, fun q => by have := q.1; omega⟩
              subst hbf
              clear hat hbl HNO HIF hk1e hk1
              generalize g l k = ck at hK HCELL HAT hx1 HKD HW1 HW2
              obtain ⟨cr, cm, cx, ⟨f1, f2, f3⟩⟩ := ck
              obtain rfl : cx = 1 := hx1
              have c0 := hK.head
              have c1 := hK.next 0 rfl
              have c2 := hK.next 1 rfl
              have c3 := hK.next 2 rfl
              have c4 := hK.next 3 rfl
              have c5 := hK.next 4 rfl
              have HCELL : Hid (Calls Tryd.prog 41 #[.agg #[.int .i64 cr, .string ⟨cm.toArray⟩, .int .i64 1, .int .i64 f1, .int .i64 f2, .int .i64 f3]] wr fun e w' => e = .returned (.bool true) ∧ Below wr.heap.size wr w') := HCELL
              clear hK
              go_wp2_with fail
              refine HCELL.out.mono ?_; rintro e w4 ⟨rfl, hb4⟩
              have HB4 : Hid (Below w.heap.size w w4) := Lib.hid (HBL.out.trans (hb4.mono HBL.out.size))
              have hK4 := HAT.out.kept HB4.out
              clear hb4 c0 c1 c2 c3 c4 c5
              have c2 := hK4.next 1 rfl
              clear hK4
              go_wp2_with fail
              go_quiet (fail)
              go_wp2_with fail
              go_ret
              exact ⟨rfl, below_drewN HB4.out _⟩
          · have hxb1 : ((g l k).wide == 1) = false := by rw [beq_eq_false_iff_ne]; exact hx1
            by_cases hx2 : (g l k).wide = 2
            · by_cases hk0 : 0 < k
              · obtain ⟨j, hj⟩ : ∃ j, j = k - 1 := ⟨_, rfl⟩
                have hwrap : IntKind.i64.wrap ((k : Int) - 1) = (j : Int) := by rw [IntKind.wrap_i64]; omega
                have hkb : ((k : Int) == 0) = false := by rw [beq_eq_false_iff_ne]; omega
                obtain ⟨ad', e2, hat2⟩ := HA.out j (by omega)
                injection e2 with e2
                subst e2
                have HAT2 := Lib.hid hat2
                have hjl : j < l.length := by omega
                have HPASS : Hid ((g l j).wide = 1 → refAt l k) := Lib.hid fun h1 => HIF.out.2 ⟨HKD.out, fun h => hx1 h.1, fun h => h.2 ⟨hk0, by rw [← hj]; exact h1⟩⟩
                have HFAIL : Hid (¬ (g l j).wide = 1 → b = false) := Lib.hid fun h => HNO.out fun hr => (HIF.out.1 hr).2.2 ⟨hx2, fun q => h (by rw [hj]; exact q.2)⟩
                clear hat hat2 hbl hj HNO HIF hx1 hxb1
                generalize g l j = dk at HAT2 HPASS HFAIL
                generalize g l k = ck at hK HCELL HAT hx2 HPASS HFAIL HKD HW1 HW2
                obtain ⟨cr, cm, cx, ⟨f1, f2, f3⟩⟩ := ck
                obtain ⟨dr, dm, dx, ⟨e1, e2, e3⟩⟩ := dk
                obtain rfl : cx = 2 := hx2
                have c0 := hK.head
                have c1 := hK.next 0 rfl
                have c2 := hK.next 1 rfl
                have c3 := hK.next 2 rfl
                have c4 := hK.next 3 rfl
                have c5 := hK.next 4 rfl
                have HCELL : Hid (Calls Tryd.prog 41 #[.agg #[.int .i64 cr, .string ⟨cm.toArray⟩, .int .i64 2, .int .i64 f1, .int .i64 f2, .int .i64 f3]] wr fun e w' => e = .returned (.bool true) ∧ Below wr.heap.size wr w') := HCELL
                clear hK
                go_wp2_with fail
                refine HCELL.out.mono ?_; rintro e w4 ⟨rfl, hb4⟩
                have HB4 : Hid (Below w.heap.size w w4) := Lib.hid (HBL.out.trans (hb4.mono HBL.out.size))
                have hK4 := HAT.out.kept HB4.out
                have hD4 := HAT2.out.kept HB4.out
                clear hb4 c0 c1 c2 c3 c4 c5
                have c2 := hK4.next 1 rfl
                have d2 := hD4.next 1 rfl
                clear hK4 hD4
                by_cases hdx : dx = 1
                · subst hdx
                  have HNX2 := Lib.hid (HNX.out (HPASS.out rfl))
                  clear HPASS HFAIL
                  go_wp2_with fail
                  go_quiet (fail)
                  go_wp2_with fail
                  go_roundw
                  case rel => exact ⟨k + 1, by omega, by go_num, HNX2, below_drewN HB4.out _⟩
                  case measure => simp [intOf]; omega
                · have hbf : b = false := HFAIL.out hdx
                  subst hbf
                  have hdb : (dx != 1) = true := by rw [bne_iff_ne]; exact hdx
                  clear hdx HPASS HFAIL
                  go_wp2_with fail
                  go_quiet (fail)
                  go_wp2_with fail
                  go_ret
                  exact ⟨rfl, below_drewN HB4.out _⟩
              · have h0 : k = 0 := by omega
                subst h0
                have hbf : b = false := HNO.out fun hr => (HIF.out.1 hr).2.2 ⟨hx2, fun q => by have := q.1; omega⟩
                subst hbf
                have e0 : ad.add (0 * 6) = ad := by simp [Addr.add]
                rw [e0] at hK HAT
                clear hat hbl HNO HIF hx1 hxb1 hk0 e0
                generalize g l 0 = ck at hK HCELL HAT hx2 HKD HW1 HW2
                obtain ⟨cr, cm, cx, ⟨f1, f2, f3⟩⟩ := ck
                obtain rfl : cx = 2 := hx2
                have c0 := hK.head
                have c1 := hK.next 0 rfl
                have c2 := hK.next 1 rfl
                have c3 := hK.next 2 rfl
                have c4 := hK.next 3 rfl
                have c5 := hK.next 4 rfl
                have HCELL : Hid (Calls Tryd.prog 41 #[.agg #[.int .i64 cr, .string ⟨cm.toArray⟩, .int .i64 2, .int .i64 f1, .int .i64 f2, .int .i64 f3]] wr fun e w' => e = .returned (.bool true) ∧ Below wr.heap.size wr w') := HCELL
                clear hK
                go_wp2_with fail
                refine HCELL.out.mono ?_; rintro e w4 ⟨rfl, hb4⟩
                have HB4 : Hid (Below w.heap.size w w4) := Lib.hid (HBL.out.trans (hb4.mono HBL.out.size))
                have hK4 := HAT.out.kept HB4.out
                clear hb4 c0 c1 c2 c3 c4 c5
                have c2 := hK4.next 1 rfl
                clear hK4
                go_wp2_with fail
                go_quiet (fail)
                go_wp2_with fail
                go_ret
                exact ⟨rfl, below_drewN HB4.out _⟩
            · have hxb2 : ((g l k).wide == 2) = false := by rw [beq_eq_false_iff_ne]; exact hx2
              have HNX2 := Lib.hid (HNX.out (HIF.out.2 ⟨HKD.out, fun h => hx1 h.1, fun h => hx2 h.1⟩))
              clear hat hbl HNO HIF hx1 hx2
              generalize g l k = ck at hK HCELL HAT hxb1 hxb2 HKD HW1 HW2
              obtain ⟨cr, cm, cx, ⟨f1, f2, f3⟩⟩ := ck
              have c0 := hK.head
              have c1 := hK.next 0 rfl
              have c2 := hK.next 1 rfl
              have c3 := hK.next 2 rfl
              have c4 := hK.next 3 rfl
              have c5 := hK.next 4 rfl
              have HCELL : Hid (Calls Tryd.prog 41 #[.agg #[.int .i64 cr, .string ⟨cm.toArray⟩, .int .i64 cx, .int .i64 f1, .int .i64 f2, .int .i64 f3]] wr fun e w' => e = .returned (.bool true) ∧ Below wr.heap.size wr w') := HCELL
              clear hK
              go_wp2_with fail
              refine HCELL.out.mono ?_; rintro e w4 ⟨rfl, hb4⟩
              have HB4 : Hid (Below w.heap.size w w4) := Lib.hid (HBL.out.trans (hb4.mono HBL.out.size))
              have hK4 := HAT.out.kept HB4.out
              clear hb4 c0 c1 c2 c3 c4 c5
              have c2 := hK4.next 1 rfl
              clear hK4
              go_wp2_with fail
              go_quiet (fail)
              go_wp2_with fail
              go_roundw
              case rel => exact ⟨k + 1, by omega, by go_num, HNX2, below_drewN HB4.out _⟩
              case measure => simp [intOf]; omega
      · have hkn : k = l.length := by omega
        subst hkn
        have hbt : b = true := HB.out.2 HG.out
        subst hbt
        go_wp2_with fail
        go_ret
        exact ⟨rfl, hbl⟩
  · have H1 : Hid (rng (l.length : Int) 1 40 = false) := Lib.hid (by
      unfold rng
      rw [Bool.and_eq_false_iff]
      by_cases h : 1 ≤ l.length
      · exact .inr (decide_eq_false (by omega))
      · exact .inl (decide_eq_false (by omega)))
    have hbf : b = false := by
      cases b
      · rfl
      · have := hb.1 rfl; exact absurd ⟨this.1, this.2.1⟩ hr
    subst hbf
    clear hx hs hb hr ha
    go_enter Tryd.func29, Tryd.ntmps29
    go_wp2_with fail
    refine (btw_at _ _ _ _ H1.out _).mono ?_; rintro e w' ⟨rfl, rfl⟩
    go_wp2_with fail
    go_ret
    exact ⟨rfl, Below.refl _ _⟩
end Row
end
end Go.Proofs.YtjcfbeiljdohcaaDoor
