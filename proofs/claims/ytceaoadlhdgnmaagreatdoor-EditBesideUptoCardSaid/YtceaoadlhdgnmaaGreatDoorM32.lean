/- Joined texts: RowMarks, RowRef. -/
import Derived.Test.YtceaoadlhdgnmaaGreatDoorM6
import Derived.Lib.ValidLaws
namespace Go.Proofs.YtceaoadlhdgnmaaGreatDoor
set_option maxRecDepth 100000
section
namespace Row
open Wid Utf
theorem dec_L (l : List UInt8) : Lib.decodeL l = dec l := by rw [Lib.decodeL_N]; rfl
theorem marks_valid : ∀ (k : Nat) (l : List UInt8) (n : Nat), l.length ≤ k → marks l = some n → Lib.validD l = true
  | 0, l, n, h, _ => by
    have : l = [] := List.eq_nil_of_length_eq_zero (by omega)
    subst this; rfl
  | k + 1, l, n, h, hm => by
    by_cases hl : l = []
    · subst hl; rfl
    · rw [marks_step hl] at hm
      have h1 := dec_pos hl
      by_cases hw : wid (dec l).1 = 0
      · rw [if_pos hw] at hm
        obtain ⟨m, hm', _⟩ := Option.map_eq_some_iff.1 hm
        have := marks_valid k (l.drop (dec l).2) m (by rw [List.length_drop]; omega) hm'
        rw [Lib.validD_step l hl, dec_L, if_neg, this]
        rintro ⟨e, _⟩
        rw [e] at hw
        exact absurd hw (by decide)
      · rw [if_neg hw] at hm; cases hm
end Row
end
section
open Go.RowKit
namespace Row
open Utf Wid
def runeVals (l : List UInt8) : List Value := (runesN l.length l).map (Value.int .i32)
theorem runesFrom_is (s : ByteArray) : ∀ (n pos : Nat) (acc : Array Value), (Conv.runesFrom s n pos acc).toList = acc.toList ++ (runesN n (s.data.toList.drop pos)).map (Value.int .i32)
  | 0, pos, acc => by simp [Conv.runesFrom, runesN]
  | n + 1, pos, acc => by
    unfold Conv.runesFrom
    by_cases hp : pos < s.size
    · rw [if_pos hp]
      have hne := Utf.drop_ne hp
      simp only [runesN, if_neg hne, Utf.dec_at, List.drop_drop]
      rw [runesFrom_is s n _ _, Array.toList_push, List.append_assoc]
      rfl
    · rw [if_neg hp]
      have he : s.data.toList.drop pos = [] := List.drop_eq_nil_of_le (by show s.size ≤ pos; omega)
      simp [runesN, he]
theorem runes_at (s : ByteArray) : (Conv.runesFrom s s.size 0 #[]).toList = runeVals s.data.toList := by
  rw [runesFrom_is s s.size 0 #[]]; rfl
theorem runesN_le : ∀ (n : Nat) (l : List UInt8), (runesN n l).length ≤ n
  | 0, _ => by simp [runesN]
  | n + 1, l => by
    unfold runesN
    split
    · simp
    · have := runesN_le n (l.drop (dec l).2)
      simp; omega
theorem runesN_bd : ∀ (n : Nat) (l : List UInt8) (k : Nat), 0 ≤ (runesN n l).getD k 0 ∧ (runesN n l).getD k 0 ≤ 1114111
  | 0, _, k => by simp [runesN]
  | n + 1, l, k => by
    unfold runesN
    split
    · simp
    · cases k with
      | zero =>
        have := Utf.dec_small l
        simp only [List.getD_cons_zero]
        omega
      | succ k => exact runesN_bd n _ k
theorem run_runes (s : ByteArray) (w : World) (hs : s.size ≤ 1000000000) :
    ∃ c w', (convert 9 139 (.string s)).run Tryz.prog w = .ok (.slice (some ⟨w.heap.size, 0, none⟩) (runesN s.size s.data.toList).length c) w' ∧
      (∀ k, k < (runesN s.size s.data.toList).length → w'.cell? ⟨w.heap.size, k, none⟩ = some (.int .i32 ((runesN s.size s.data.toList).getD k 0))) ∧ Below w.heap.size w w' := by
  have hsz : (Conv.runesFrom s s.size 0 #[]).size = (runesN s.size s.data.toList).length := by
    rw [← Array.length_toList, runes_at]; simp [runeVals]
  have hle : (Conv.runesFrom s s.size 0 #[]).size ≤ 70368744177664 := by rw [hsz]; have := runesN_le s.size s.data.toList; omega
  have hr := run_runes_of_string (P := Tryz.prog) w 9 139 21 s Tryz.underlying9 Tryz.underlying139 Tryz.underlying21 hle
  rw [hsz] at hr
  refine ⟨_, _, hr, fun k hk => ?_, (Below.refl _ _).drew.alloc (Nat.le_refl _) _⟩
  have hb := heap_alloc_new w.drew (.cells (Conv.runesFrom s s.size 0 #[] ++ Array.replicate (grownCap w (runesN s.size s.data.toList).length 0 21 - (runesN s.size s.data.toList).length) (.int .i32 0)) 21)
  have hc := Blk.cell hb k
  have hd : (w.drew).heap.size = w.heap.size := rfl
  rw [hd] at hc
  rw [hc, Array.getElem?_append_left (by rw [hsz]; exact hk), ← Array.getElem?_toList, runes_at]
  show ((runesN s.size s.data.toList).map (Value.int .i32))[k]? = _
  rw [List.getElem?_map]
  simp [List.getD, hk]
def allM (l : List Int) (k : Nat) : Bool := (l.drop k).all fun r => decide (wid r = 0)
theorem allM_step {l : List Int} {k : Nat} (h : k < l.length) : allM l k = (decide (wid (l.getD k 0) = 0) && allM l (k + 1)) := by
  unfold allM
  rw [List.drop_eq_getElem_cons h, List.all_cons]
  simp [List.getD, h]
theorem combOk_runes (l : List UInt8) : combOk l = (Lib.validD l && (allM (runesN l.length l) 0 && decide ((runesN l.length l).length ≤ 2))) := by
  have hm := marks_runes l.length l (Nat.le_refl _)
  unfold combOk allM
  rw [List.drop_zero]
  cases ha : (runesN l.length l).all fun r => decide (wid r = 0) with
  | true =>
    rw [ha, if_pos rfl] at hm
    rw [hm, marks_valid l.length l _ (Nat.le_refl _) hm]
    simp
  | false =>
    rw [ha, if_neg (by decide)] at hm
    rw [hm]
    simp
theorem cbox_kept {w w1 : World} {c : Cl} {arr : Array Value} (ha : arr = (cvals c).toArray) (hb : Below (w.alloc (.cells arr 57)).heap.size (w.alloc (.cells arr 57)) w1) :
    w1.heap[w.heap.size]? = some (.cells (cvals c).toArray 57 (0, 0)) ∧ Below w.heap.size w w1 := by
  subst ha
  exact ⟨Blk.kept (heap_alloc_new _ _) hb, ((Below.refl _ _).alloc (Nat.le_refl _) _).trans (hb.mono (by simp))⟩
theorem cbox_cells {w : World} {b : Nat} {r x f1 f2 f3 : Int} {m : List UInt8} (h : w.heap[b]? = some (.cells (cvals ⟨r, m, x, ⟨f1, f2, f3⟩⟩).toArray 57 (0, 0))) :
    w.cell? ⟨b, 0, none⟩ = some (.int .i64 r) ∧ w.cell? ⟨b, 1, none⟩ = some (.string ⟨m.toArray⟩) ∧ w.cell? ⟨b, 2, none⟩ = some (.int .i64 x) ∧ w.cell? ⟨b, 3, none⟩ = some (.int .i64 f1) ∧ w.cell? ⟨b, 4, none⟩ = some (.int .i64 f2) ∧ w.cell? ⟨b, 5, none⟩ = some (.int .i64 f3) :=
  ⟨Blk.cell h 0, Blk.cell h 1, Blk.cell h 2, Blk.cell h 3, Blk.cell h 4, Blk.cell h 5⟩
theorem attr_at (a : Look) (b : Bool) (hb : attrOk a = b) (w : World) : Calls Tryz.prog 110 #[.agg #[.int .i64 a.fg, .int .i64 a.bg, .int .i64 a.flags]] w fun e w' => e = .returned (.bool b) ∧ Below w.heap.size w w' := by
  subst hb; exact attr_any a w
theorem width_at (r q : Int) (hq : wid r = q) (w : World) : Calls Tryz.prog 34 #[.int .i64 r] w fun e w' => e = .returned (.int .i64 q) ∧ Below w.heap.size w w' := by
  subst hq; exact width_any r w
set_option maxHeartbeats 1600000 in
theorem refCell_bada (c : Cl) (w : World) (h : attrOk c.a = false) :
    Calls Tryz.prog 145 #[cagg c] w fun e w' => e = .returned (.bool false) ∧ Below w.heap.size w w' := by
  have HA := Lib.hid (fun w' => attr_at c.a false h w')
  obtain ⟨r, m, x, ⟨f1, f2, f3⟩⟩ := c
  clear h
  unfold cagg
  go_enter Tryz.func145, Tryz.ntmps145
  go_wp2_with fail
  refine (HA.out _).mono ?_; rintro e w1 ⟨rfl, hb1⟩
  obtain ⟨hk1, hbw⟩ := cbox_kept (c := ⟨r, m, x, ⟨f1, f2, f3⟩⟩) rfl hb1
  have HB1 := Lib.hid hbw
  clear hb1 hk1 hbw
  go_wp2_with fail
  go_ret
  exact ⟨rfl, HB1.out⟩
set_option maxHeartbeats 1600000 in
theorem refCell_badv (c : Cl) (w : World) (h : attrOk c.a = true) (hv : Lib.validD c.comb = false) (hs : c.comb.length ≤ 1000000000) (hT : Tabs w) :
    Calls Tryz.prog 145 #[cagg c] w fun e w' => e = .returned (.bool false) ∧ Below w.heap.size w w' := by
  have HA := Lib.hid (fun w' => attr_at c.a true h w')
  have HV := Lib.hid (fun w' (k : Tabs w') => valid_any ⟨c.comb.toArray⟩ w' hs k)
  obtain ⟨r, m, x, ⟨f1, f2, f3⟩⟩ := c
  have HV2 : Hid (Lib.validD (⟨m.toArray⟩ : ByteArray).data.toList = false) := Lib.hid hv
  rw [HV2.out] at HV
  clear h hv hs
  unfold cagg
  go_enter Tryz.func145, Tryz.ntmps145
  go_wp2_with fail
  refine (HA.out _).mono ?_; rintro e w1 ⟨rfl, hb1⟩
  obtain ⟨hk1, hbw⟩ := cbox_kept (c := ⟨r, m, x, ⟨f1, f2, f3⟩⟩) rfl hb1
  have HB1 := Lib.hid hbw
  have HT1 := Lib.hid (hT.kept hbw)
  obtain ⟨k0, k1, k2, k3, k4, k5⟩ := cbox_cells hk1
  clear hb1 hk1 hbw
  go_wp2_with fail
  refine (HV.out _ HT1.out).mono ?_; rintro e w2 ⟨rfl, hb2⟩
  have HB2 : Hid (Below w.heap.size w w2) := Lib.hid (HB1.out.trans (hb2.mono HB1.out.size))
  clear hb2
  go_wp2_with fail
  go_ret
  exact ⟨rfl, HB2.out⟩
set_option maxHeartbeats 3200000 in
theorem refCell_fine (c : Cl) (b : Bool) (w : World) (h : attrOk c.a = true) (hv : Lib.validD c.comb = true) (hs : c.comb.length ≤ 1000000000) (hT : Tabs w) (hb : b = true ↔ kind c ≠ 0) :
    Calls Tryz.prog 145 #[cagg c] w fun e w' => e = .returned (.bool b) ∧ Below w.heap.size w w' := by
  have HA := Lib.hid (fun w' => attr_at c.a true h w')
  have HV := Lib.hid (fun w' (k : Tabs w') => valid_any ⟨c.comb.toArray⟩ w' hs k)
  have HRN := Lib.hid (fun w' => run_runes ⟨c.comb.toArray⟩ w' hs)
  have hcr := combOk_runes c.comb
  rw [hv, Bool.true_and] at hcr
  have HWD := Lib.hid (fun q hq w' => width_at c.rune q hq w')
  have HKB : Hid (combOk c.comb = false → b = false) := Lib.hid fun e => by
    cases b
    · rfl
    · exact absurd (kind_bad e) (hb.1 rfl)
  have HKF : Hid (combOk c.comb = true → (b = true ↔ (bif decide (wid c.rune = 1) && decide (c.wide = 0) then 1 else bif decide (wid c.rune = 2) && decide (c.wide = 1) then 2 else bif isSec c then 3 else 0) ≠ 0)) := Lib.hid fun e => by rw [hb, kind_fine e h]
  obtain ⟨r, m, x, ⟨f1, f2, f3⟩⟩ := c
  have HV2 : Hid (Lib.validD (⟨m.toArray⟩ : ByteArray).data.toList = true) := Lib.hid hv
  have HCR : Hid (combOk m = (allM (runesN m.length m) 0 && decide ((runesN m.length m).length ≤ 2))) := Lib.hid hcr
  rw [HV2.out] at HV
  have HRN : Hid (∀ w' : World, ∃ c w'', (convert 9 139 (.string ⟨m.toArray⟩)).run Tryz.prog w' = .ok (.slice (some ⟨w'.heap.size, 0, none⟩) (runesN m.length m).length c) w'' ∧
      (∀ k, k < (runesN m.length m).length → w''.cell? ⟨w'.heap.size, k, none⟩ = some (.int .i32 ((runesN m.length m).getD k 0))) ∧ Below w'.heap.size w' w'') := HRN
  have hle := runesN_le m.length m
  have HBD := Lib.hid (runesN_bd m.length m)
  have hsm : m.length ≤ 1000000000 := hs
  generalize runesN m.length m = rs at HCR HRN hle HBD
  clear h hv hs hcr hb
  unfold cagg
  go_enter Tryz.func145, Tryz.ntmps145
  go_wp2_with fail
  refine (HA.out _).mono ?_; rintro e w1 ⟨rfl, hb1⟩
  obtain ⟨hk1, hbw⟩ := cbox_kept (c := ⟨r, m, x, ⟨f1, f2, f3⟩⟩) rfl hb1
  have HB1 := Lib.hid hbw
  have HT1 := Lib.hid (hT.kept hbw)
  have HK1 := Lib.hid hk1
  obtain ⟨k0, k1, k2, k3, k4, k5⟩ := cbox_cells hk1
  clear hb1 hk1 hbw
  go_wp2_with fail
  refine (HV.out _ HT1.out).mono ?_; rintro e w2 ⟨rfl, hb2⟩
  have HB2 : Hid (Below w.heap.size w w2) := Lib.hid (HB1.out.trans (hb2.mono HB1.out.size))
  have HK2 := Lib.hid (Blk.kept HK1.out hb2)
  clear hb2 k0 k1 k2 k3 k4 k5
  obtain ⟨k0, k1, k2, k3, k4, k5⟩ := cbox_cells HK2.out
  obtain ⟨cp, w3, hrun, hcells, hb3⟩ := HRN.out w2
  have HB3 : Hid (Below w.heap.size w w3) := Lib.hid (HB2.out.trans (hb3.mono HB2.out.size))
  have HK3 := Lib.hid (Blk.kept HK2.out hb3)
  have HCE := Lib.hid hcells
  clear hcells hb3
  go_wp2_with fail
  go_loopw [4] (fun i wr => ∃ k : Nat, k ≤ rs.length ∧ i = .int .i64 k ∧ Hid (allM rs 0 = allM rs k) ∧ Below w3.heap.size w3 wr) (fun i _ => rs.length - (intOf i).toNat)
  case atStart => exact ⟨0, by omega, rfl, Lib.hid rfl, Below.refl _ _⟩
  case round =>
    obtain ⟨k, hk, rfl, HM, hbl⟩ := hrel
    have HBL := Lib.hid hbl
    have HBW : Hid (Below w.heap.size w wr) := Lib.hid (HB3.out.trans (hbl.mono HB3.out.size))
    clear k0 k1 k2 k3 k4 k5
    by_cases hlt : k < rs.length
    · have c1 := cell_kept hbl (HCE.out k hlt)
      have hpb := HBD.out k
      by_cases hw : wid (rs.getD k 0) = 0
      · have HM2 : Hid (allM rs 0 = allM rs (k + 1)) := Lib.hid (by rw [HM.out, allM_step hlt, decide_eq_true hw, Bool.true_and])
        have HW := Lib.hid (fun w' => width_at _ 0 hw w')
        clear hw hbl
        generalize rs.getD k 0 = p at c1 hpb HW
        go_wp2_with fail
        refine (HW.out _).mono ?_; rintro e w4 ⟨rfl, hb4⟩
        have HB4 : Hid (Below w3.heap.size w3 w4) := Lib.hid (HBL.out.trans (hb4.mono HBL.out.size))
        clear hb4
        go_wp2_with fail
        go_roundw
        case rel => exact ⟨k + 1, by omega, by go_num, HM2, HB4.out⟩
        case measure => simp [intOf]; omega
      · have hbf : b = false := HKB.out (by rw [HCR.out, HM.out, allM_step hlt, decide_eq_false hw, Bool.false_and, Bool.false_and])
        subst hbf
        have HW := Lib.hid (fun w' => width_at (rs.getD k 0) _ rfl w')
        have hb1 : (wid (rs.getD k 0) != 0) = true := by rw [bne_iff_ne]; exact hw
        clear hw hbl
        generalize rs.getD k 0 = p at c1 hpb HW hb1
        generalize wid p = q at HW hb1
        go_wp2_with fail
        refine (HW.out _).mono ?_; rintro e w4 ⟨rfl, hb4⟩
        have HB4 : Hid (Below w.heap.size w w4) := Lib.hid (HBW.out.trans (hb4.mono HBW.out.size))
        clear hb4
        go_wp2_with fail
        go_ret
        exact ⟨rfl, HB4.out⟩
    · have hkn : k = rs.length := by omega
      subst hkn
      have hall : allM rs rs.length = true := by unfold allM; rw [List.drop_length]; rfl
      have HCM : Hid (combOk m = decide (rs.length ≤ 2)) := Lib.hid (by rw [HCR.out, HM.out, hall, Bool.true_and])
      obtain ⟨k0, k1, k2, k3, k4, k5⟩ := cbox_cells (Blk.kept HK3.out hbl)
      clear hall hbl
      by_cases h2 : rs.length ≤ 2
      · have HKK := Lib.hid (HKF.out (by rw [HCM.out]; exact decide_eq_true h2))
        have hd2 : decide (2 < rs.length) = false := decide_eq_false (by omega)
        by_cases hx0 : x = 0
        · subst hx0
          have hbq : (wid r == 1) = b := by
            have := HKK.out
            cases b
            · rw [beq_eq_false_iff_ne]
              intro e
              have h1 := this.2
              simp [e] at h1
            · rw [beq_iff_eq]
              have h1 := this.1 rfl
              simp [isSec] at h1
              by_cases e : wid r = 1
              · exact e
              · simp [e] at h1
          have HW := Lib.hid (fun w' => HWD.out _ rfl w')
          generalize wid r = q at HW hbq
          go_wp2_with fail
          refine (HW.out _).mono ?_; rintro e w4 ⟨rfl, hb4⟩
          have HB4 : Hid (Below w.heap.size w w4) := Lib.hid (HBW.out.trans (hb4.mono HBW.out.size))
          clear hb4
          go_wp2_with fail
          go_ret
          exact ⟨rfl, HB4.out⟩
        · have hxb0 : (x == 0) = false := by rw [beq_eq_false_iff_ne]; exact hx0
          by_cases hx1 : x = 1
          · subst hx1
            have hbq : (wid r == 2) = b := by
              have := HKK.out
              cases b
              · rw [beq_eq_false_iff_ne]
                intro e
                have h1 := this.2
                simp [e] at h1
              · rw [beq_iff_eq]
                have h1 := this.1 rfl
                simp [isSec] at h1
                by_cases e : wid r = 2
                · exact e
                · simp [e] at h1
            have HW := Lib.hid (fun w' => HWD.out _ rfl w')
            generalize wid r = q at HW hbq
            go_wp2_with fail
            refine (HW.out _).mono ?_; rintro e w4 ⟨rfl, hb4⟩
            have HB4 : Hid (Below w.heap.size w w4) := Lib.hid (HBW.out.trans (hb4.mono HBW.out.size))
            clear hb4
            go_wp2_with fail
            go_ret
            exact ⟨rfl, HB4.out⟩
          · have hxb1 : (x == 1) = false := by rw [beq_eq_false_iff_ne]; exact hx1
            have HBS : Hid (b = (decide (x = 2) && (decide (r = 0) && decide (m = [])))) := Lib.hid (by
              have := HKK.out
              simp only [decide_eq_false hx0, decide_eq_false hx1, Bool.and_false, cond_false] at this
              have hs : isSec ⟨r, m, x, ⟨f1, f2, f3⟩⟩ = (decide (r = 0) && (decide (m = []) && decide (x = 2))) := rfl
              rw [hs] at this
              by_cases e1 : r = 0
              · by_cases e2 : m = []
                · by_cases e3 : x = 2
                  · simp [e1, e2, e3] at this ⊢; exact this
                  · simp [e1, e2, e3] at this ⊢; exact this
                · simp [e1, e2] at this ⊢; exact this
              · simp [e1] at this ⊢; exact this)
            clear hx0 hx1
            by_cases e3 : x = 2
            · subst e3
              by_cases e1 : r = 0
              · subst e1
                by_cases e2 : m = []
                · subst e2
                  go_wp2_with fail
                  go_ret
                  exact ⟨by rw [HBS.out]; rfl, HBW.out⟩
                · have HBF : Hid (b = false) := Lib.hid (by rw [HBS.out, decide_eq_false e2]; simp)
                  have hme : m.isEmpty = false := by cases m with
                    | nil => exact absurd rfl e2
                    | cons _ _ => rfl
                  clear e2
                  go_wp2_with fail
                  go_ret
                  exact ⟨by rw [HBF.out]; rfl, HBW.out⟩
              · have HBF : Hid (b = false) := Lib.hid (by rw [HBS.out, decide_eq_false e1]; simp)
                have hrb : (r == 0) = false := by rw [beq_eq_false_iff_ne]; exact e1
                clear e1
                go_wp2_with fail
                go_ret
                exact ⟨by rw [HBF.out]; rfl, HBW.out⟩
            · have HBF : Hid (b = false) := Lib.hid (by rw [HBS.out, decide_eq_false e3]; simp)
              have hrb : (x == 2) = false := by rw [beq_eq_false_iff_ne]; exact e3
              clear e3
              go_wp2_with fail
              go_ret
              exact ⟨by rw [HBF.out]; rfl, HBW.out⟩
      · have hbf : b = false := HKB.out (by rw [HCM.out]; exact decide_eq_false h2)
        subst hbf
        have hd2 : decide (2 < rs.length) = true := decide_eq_true (by omega)
        go_wp2_with fail
        go_ret
        exact ⟨rfl, HBW.out⟩
theorem refCell_any (c : Cl) (b : Bool) (w : World) (hs : c.comb.length ≤ 1000000000) (hT : Tabs w) (hb : b = true ↔ kind c ≠ 0) :
    Calls Tryz.prog 145 #[cagg c] w fun e w' => e = .returned (.bool b) ∧ Below w.heap.size w w' := by
  cases h : attrOk c.a with
  | false =>
    have hbf : b = false := by
      cases b
      · rfl
      · exact absurd (kind_bada h) (hb.1 rfl)
    subst hbf
    exact refCell_bada c w h
  | true =>
    cases hv : Lib.validD c.comb with
    | false =>
      have hbf : b = false := by
        cases b
        · rfl
        · exact absurd (kind_bad (by rw [combOk_runes, hv]; rfl)) (hb.1 rfl)
      subst hbf
      exact refCell_badv c w h hv hs hT
    | true => exact refCell_fine c b w h hv hs hT hb
end Row
end
end Go.Proofs.YtceaoadlhdgnmaaGreatDoor
