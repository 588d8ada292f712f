/- Joined texts: GrdRef1, GrdRef2, GrdMend. -/
import Derived.Test.YtenhgkhonaglaaaDoorJ1
import Derived.Test.YtenhgkhonaglaaaDoorJ2
import Derived.Test.YtenhgkhonaglaaaDoorJ4
import Derived.Test.YtenhgkhonaglaaaDoorJ5
import Derived.Test.YtenhgkhonaglaaaDoorJ6
import Derived.RegionTactic
import Derived.Deep.RegionLaw
section
/- The page's grids: copied, held against each other, which may be, new ones, a row taken and put. -/
namespace Go.Proofs.YtenhgkhonaglaaaDoor
set_option maxRecDepth 100000
open Go.RowKit
namespace Row
open Utf Wid

/-- A copy. -/
theorem copyGrid_any (R C : Int) (l : List Cl) (x : Value) (w : World) (hx : Cs w x l) (hn : l.length ≤ 100000000) :
    Calls Tryd.prog 5 #[.agg #[.int .i64 R, .int .i64 C, x]] w fun e w' => ∃ v, e = .returned (.agg #[.int .i64 R, .int .i64 C, v]) ∧ OwnCs w' w.heap.size v l ∧ Below w.heap.size w w' := by
  have HX := Lib.hid hx
  have HCC := Lib.hid (fun w' v (k : Cs w' v l) => copyCells_any l v w' k hn)
  obtain ⟨A, c, rfl, _⟩ := hx.form
  clear hx
  go_enter Tryd.func5, Tryd.ntmps5
  go_wp2_with fail
  have hW := (((Below.refl w.heap.size w).alloc (Nat.le_refl _) (gbox R C (.slice A l.length c))).alloc (by simp) (gbox 0 0 (.slice none 0 0))).alloc (by simp; omega) (gbox R C (.slice A l.length c))
  refine (HCC.out _ _ (HX.out.kept hW)).mono ?_; rintro e w1 ⟨v, rfl, ho, hb⟩
  have hG1 : w1.heap[w.heap.size + 1]? = some (gbox 0 0 (.slice none 0 0)) := Blk.kept (old_alloc (new_alloc _ _ _ (by simp)) _) hb
  have hG2 : w1.heap[w.heap.size + 1 + 1]? = some (gbox R C (.slice A l.length c)) := Blk.kept (new_alloc _ _ _ (by simp)) hb
  have HB : Hid (Below w.heap.size w w1) := Lib.hid (hW.trans (hb.mono hW.size))
  obtain ⟨A1, c1, rfl, _⟩ := ho.cs.form
  have HO : Hid (OwnCs w1 (w.heap.size + 3) (.slice A1 l.length c1) l) := Lib.hid (ho.low (by simp))
  have d0 : w1.cell? ⟨w.heap.size + 1 + 1, 0, none⟩ = some (.int .i64 R) := Blk.cell hG2 0
  have d1 : w1.cell? ⟨w.heap.size + 1 + 1, 1, none⟩ = some (.int .i64 C) := Blk.cell hG2 1
  have d2 : w1.cell? ⟨w.heap.size + 1 + 1, 2, none⟩ = some (.slice A l.length c) := Blk.cell hG2 2
  have f2 := Blk.free hG2 2
  have r0 : w1.cell? ⟨w.heap.size + 1, 0, none⟩ = some (.int .i64 0) := Blk.cell hG1 0
  have r1 : w1.cell? ⟨w.heap.size + 1, 1, none⟩ = some (.int .i64 0) := Blk.cell hG1 1
  have r2 : w1.cell? ⟨w.heap.size + 1, 2, none⟩ = some (.slice none 0 0) := Blk.cell hG1 2
  have s0 := Blk.free hG1 0
  have s1 := Blk.free hG1 1
  have s2 := Blk.free hG1 2
  have HF := Lib.hid (gput_box (Blk.other hG1 (g := w.heap.size + 1 + 1) (by omega) 2 (.slice A1 l.length c1)) R C (.slice A1 l.length c1))
  have HO2 : Hid (OwnCs (gput (w1.setCell ⟨w.heap.size + 1 + 1, 2, none⟩ (.slice A1 l.length c1)) (w.heap.size + 1) R C (.slice A1 l.length c1)) (w.heap.size + 3) (.slice A1 l.length c1) l) := Lib.hid (gput_own (HO.out.set (by omega) _ _) (by omega) _ _ _)
  have HB2 : Hid (Below w.heap.size w (gput (w1.setCell ⟨w.heap.size + 1 + 1, 2, none⟩ (.slice A1 l.length c1)) (w.heap.size + 1) R C (.slice A1 l.length c1))) := Lib.hid (gput_below (HB.out.setCell (p := ⟨w.heap.size + 1 + 1, 2, none⟩) (by simp; omega) _) (by simp) _ _ _)
  clear hW hb ho hG1 hG2 HO HB
  go_wp2_with fail
  show bodyPost _ _ _ _ _ (gput (w1.setCell ⟨w.heap.size + 1 + 1, 2, none⟩ (.slice A1 l.length c1)) (w.heap.size + 1) R C (.slice A1 l.length c1))
  clear d0 d1 d2 f2 r0 r1 r2 s0 s1 s2
  generalize gput (w1.setCell ⟨w.heap.size + 1 + 1, 2, none⟩ (.slice A1 l.length c1)) (w.heap.size + 1) R C (.slice A1 l.length c1) = wF at HF HO2 HB2 ⊢
  have c0 : wF.cell? ⟨w.heap.size + 1, 0, none⟩ = some (.int .i64 R) := Blk.cell HF.out 0
  have c1' : wF.cell? ⟨w.heap.size + 1, 1, none⟩ = some (.int .i64 C) := Blk.cell HF.out 1
  have c2 : wF.cell? ⟨w.heap.size + 1, 2, none⟩ = some (.slice A1 l.length c1) := Blk.cell HF.out 2
  exact bodyPost_ret (v := .agg #[.int .i64 R, .int .i64 C, .slice A1 l.length c1]) (by simp [results, Tryd.results5, go_sem, c0, c1', c2]) rfl ⟨_, rfl, HO2.out.low (by omega), HB2.out⟩

/-- A new one. -/
theorem refNew_any (r c : Nat) (a : Look) (w : World) (hr : r ≤ 40) (hc : c ≤ 40) :
    Calls Tryd.prog 30 #[.int .i64 r, .int .i64 c, .agg #[.int .i64 a.fg, .int .i64 a.bg, .int .i64 a.flags]] w fun e w' => ∃ v, e = .returned (.agg #[.int .i64 r, .int .i64 c, v]) ∧ OwnCs w' w.heap.size v (List.replicate (r * c) (blank a)) ∧ Below w.heap.size w w' := by
  have hm : r * c ≤ 1600 := Nat.mul_le_mul hr hc
  obtain ⟨n, hn⟩ : ∃ q, r * c = q := ⟨_, rfl⟩
  have hw : IntKind.i64.wrap ((r : Int) * (c : Int)) = (n : Int) := by rw [← Int.natCast_mul, hn, IntKind.wrap_i64]; omega
  rw [hn] at hm ⊢
  have HBL := Lib.hid (fun w' => refBlank_big n a w' (by omega))
  clear hn hm hr hc
  have hW := ((Below.refl w.heap.size w).alloc (Nat.le_refl _) (.cells #[.int .i64 a.fg, .int .i64 a.bg, .int .i64 a.flags] 31 (0, 0))).alloc (by simp) (gbox 0 0 (.slice none 0 0))
  go_enter Tryd.func30, Tryd.ntmps30
  go_wp2_with fail
  refine (HBL.out _).mono ?_; rintro e w1 ⟨v, rfl, ho, hb⟩
  have hG1 : w1.heap[w.heap.size + 1]? = some (gbox 0 0 (.slice none 0 0)) := Blk.kept (new_alloc _ _ _ (by simp)) hb
  have HB : Hid (Below w.heap.size w w1) := Lib.hid (hW.trans (hb.mono hW.size))
  have HO : Hid (OwnCs w1 (w.heap.size + 2) v (List.replicate n (blank a))) := Lib.hid (ho.low (by simp))
  obtain ⟨A1, c1, rfl, _⟩ := ho.cs.form
  rw [List.length_replicate] at HO ⊢
  have r0 : w1.cell? ⟨w.heap.size + 1, 0, none⟩ = some (.int .i64 0) := Blk.cell hG1 0
  have r1 : w1.cell? ⟨w.heap.size + 1, 1, none⟩ = some (.int .i64 0) := Blk.cell hG1 1
  have r2 : w1.cell? ⟨w.heap.size + 1, 2, none⟩ = some (.slice none 0 0) := Blk.cell hG1 2
  have s0 := Blk.free hG1 0
  have s1 := Blk.free hG1 1
  have s2 := Blk.free hG1 2
  have HF := Lib.hid (gput_box hG1 r c (.slice A1 n c1))
  have HO2 : Hid (OwnCs (gput w1 (w.heap.size + 1) r c (.slice A1 n c1)) (w.heap.size + 2) (.slice A1 n c1) (List.replicate n (blank a))) := Lib.hid (gput_own HO.out (by omega) _ _ _)
  have HB2 : Hid (Below w.heap.size w (gput w1 (w.heap.size + 1) r c (.slice A1 n c1))) := Lib.hid (gput_below HB.out (by omega) _ _ _)
  clear hW hb ho hG1 HO HB
  go_wp2_with fail
  show bodyPost _ _ _ _ _ (gput w1 (w.heap.size + 1) r c (.slice A1 n c1))
  clear r0 r1 r2 s0 s1 s2
  generalize gput w1 (w.heap.size + 1) r c (.slice A1 n c1) = wF at HF HO2 HB2 ⊢
  have z0 : wF.cell? ⟨w.heap.size + 1, 0, none⟩ = some (.int .i64 r) := Blk.cell HF.out 0
  have z1 : wF.cell? ⟨w.heap.size + 1, 1, none⟩ = some (.int .i64 c) := Blk.cell HF.out 1
  have z2 : wF.cell? ⟨w.heap.size + 1, 2, none⟩ = some (.slice A1 n c1) := Blk.cell HF.out 2
  exact bodyPost_ret (v := .agg #[.int .i64 r, .int .i64 c, (.slice A1 n c1)]) (by simp [results, Tryd.results30, go_sem, z0, z1, z2]) rfl ⟨_, rfl, HO2.out.low (by omega), HB2.out⟩

/-- May rows from top to bottom be? -/
theorem region_any (R C : Int) (A : Option Addr) (n c : Nat) (top bot : Int) (b : Bool) (w : World) (hb : b = (decide (0 ≤ top) && (decide (top ≤ bot) && decide (bot < R)))) :
    Calls Tryd.prog 16 #[.agg #[.int .i64 R, .int .i64 C, .slice A n c], .int .i64 top, .int .i64 bot] w fun e w' => e = .returned (.bool b) ∧ Below w.heap.size w w' := by
  have HB : Hid (Below w.heap.size w (w.alloc (gbox R C (.slice A n c)))) := Lib.hid ((Below.refl w.heap.size w).alloc (Nat.le_refl _) _)
  subst hb
  cases h1 : decide (0 ≤ top)
  · go_enter Tryd.func16, Tryd.ntmps16
    go_wp2_with fail
    go_ret
    exact ⟨rfl, HB.out⟩
  · cases h2 : decide (top ≤ bot)
    · go_enter Tryd.func16, Tryd.ntmps16
      go_wp2_with fail
      go_ret
      exact ⟨rfl, HB.out⟩
    · go_enter Tryd.func16, Tryd.ntmps16
      go_wp2_with fail
      go_ret
      exact ⟨rfl, HB.out⟩

/-- A row: a copy. -/
theorem refAt_any (R : Int) (C i : Nat) (l : List Cl) (x : Value) (w : World) (hC : C ≤ 40) (hi : i < 40) (hi1 : (i + 1) * C ≤ l.length) (hx : Rm w x l) :
    Calls Tryd.prog 22 #[.agg #[.int .i64 R, .int .i64 C, x], .int .i64 i] w fun e w' => ∃ v, e = .returned v ∧ OwnCs w' w.heap.size v (rowAt l C i) ∧ Below w.heap.size w w' := by
  have hW : Below w.heap.size w (w.alloc (gbox R C x)) := (Below.refl w.heap.size w).alloc (Nat.le_refl _) _
  have hsm : (i + 1) * C ≤ 40 * 40 := Nat.mul_le_mul hi hC
  obtain ⟨A, c, rfl, _⟩ := hx.2
  obtain ⟨A', c', hs, hm⟩ := hx.row C i hi1 _ _ rfl rfl
  have hrl : (rowAt l C i).length ≤ 40 := by unfold rowAt; rw [List.length_take]; omega
  have HM := Lib.hid ((copyCells_any (rowAt l C i) (.slice A' C c') _ (hm.kept hW).cs (by omega)).mono fun e w' ⟨v, h1, h2, h3⟩ => (⟨v, h1, h2.low hW.size, hW.trans (h3.mono hW.size)⟩ : ∃ v, e = Ending.returned v ∧ OwnCs w' w.heap.size v (rowAt l C i) ∧ Below w.heap.size w w'))
  obtain ⟨i1, hi1'⟩ : ∃ q, i + 1 = q := ⟨_, rfl⟩
  have hle : i * C ≤ i1 * C := Nat.mul_le_mul_right _ (by omega)
  rw [hi1'] at hs hi1 hsm
  obtain ⟨p, hp⟩ : ∃ q, i * C = q := ⟨_, rfl⟩
  obtain ⟨q, hq⟩ : ∃ q, i1 * C = q := ⟨_, rfl⟩
  have w1 : IntKind.i64.wrap ((i : Int) + 1) = (i1 : Int) := by rw [IntKind.wrap_i64]; omega
  have w2 : IntKind.i64.wrap ((i : Int) * (C : Int)) = (p : Int) := by rw [← Int.natCast_mul, hp, IntKind.wrap_i64]; omega
  have w3 : IntKind.i64.wrap ((i1 : Int) * (C : Int)) = (q : Int) := by rw [← Int.natCast_mul, hq, IntKind.wrap_i64]; omega
  rw [hp, hq] at hs
  clear hp hq hi1 hi1' hx hm hrl hsm hi hW hC hle
  go_enter Tryd.func22, Tryd.ntmps22
  go_wp2_with fail
  refine HM.out.mono ?_; rintro e w4 ⟨v, rfl, ho, hb⟩
  have HO := Lib.hid ho
  have HB := Lib.hid hb
  clear ho hb
  go_wp2_with fail
  go_ret
  exact ⟨_, rfl, HO.out, HB.out⟩

set_option maxHeartbeats 1600000 in
/-- May a grid be? -/
theorem refGrid_any (G : Gr) (b : Bool) (x : Value) (w : World) (hx : Rm w x G.cells) (hs : Short G.cells) (hT : Tabs w) (hl : G.cells.length ≤ 1000000) (hb : b = true ↔ GridOk G) :
    Calls Tryd.prog 6 #[.agg #[.int .i64 G.rows, .int .i64 G.cols, x]] w fun e w' => e = .returned (.bool b) ∧ Below w.heap.size w w' := by
  obtain ⟨R, C, l⟩ := G
  obtain ⟨A, c, rfl, hroom⟩ := hx.2
  have hW : Below w.heap.size w (w.alloc (gbox R C (.slice A l.length c))) := (Below.refl w.heap.size w).alloc (Nat.le_refl _) _
  have HB := Lib.hid hW
  by_cases h1 : 1 ≤ R ∧ R ≤ 40
  · have HR := Lib.hid (fun w' => btw_at R 1 40 true (rngY h1) w')
    by_cases h2 : 1 ≤ C ∧ C ≤ 40
    · have HC := Lib.hid (fun w' => btw_at C 1 40 true (rngY h2) w')
      obtain ⟨R, rfl⟩ := Int.eq_ofNat_of_zero_le (show 0 ≤ R by omega)
      obtain ⟨C, rfl⟩ := Int.eq_ofNat_of_zero_le (show 0 ≤ C by omega)
      have hm : R * C ≤ 40 * 40 := Nat.mul_le_mul (by omega) (by omega)
      by_cases h3 : l.length = R * C
      · have hbi : b = true ↔ ∀ i, i < R → RowOk (rowAt l C i) := by
          rw [hb]
          constructor
          · intro h i hi
            have := h.2.2.2 i (show (i : Int) < (R : Int) by omega)
            rwa [show ((⟨(R : Int), (C : Int), l⟩ : Gr).cols.toNat) = C from Int.toNat_natCast C] at this
          · intro h
            refine ⟨h1, h2, ?_, fun i hi => ?_⟩
            · show ((l.length : Nat) : Int) = (R : Int) * (C : Int)
              rw [h3, Int.natCast_mul]
            · have hi : i < R := by have : (i : Int) < (R : Int) := hi; omega
              show RowOk (rowAt l ((C : Int).toNat) i)
              rw [Int.toNat_natCast]; exact h i hi
        have w0 : IntKind.i64.wrap ((R : Int) * (C : Int)) = (l.length : Int) := by rw [← Int.natCast_mul, ← h3, IntKind.wrap_i64]; omega
        have HX := Lib.hid hx
        have HS := Lib.hid hs
        have HT := Lib.hid hT
        have HBI := Lib.hid hbi
        have HH := Lib.hid (⟨h1, h2, h3, hm⟩ : (1 ≤ (R : Int) ∧ (R : Int) ≤ 40) ∧ (1 ≤ (C : Int) ∧ (C : Int) ≤ 40) ∧ l.length = R * C ∧ R * C ≤ 40 * 40)
        have HK : Hid ((w.alloc (gbox R C (.slice A l.length c))).heap[w.heap.size]? = some (gbox R C (.slice A l.length c))) := Lib.hid (new_alloc _ _ _ rfl)
        have hR40 : R ≤ 40 := by omega
        clear hb hbi hx hs hT hl hroom hW h1 h2 h3 hm
        go_enter Tryd.func6, Tryd.ntmps6
        go_wp2_with fail
        refine (HR.out _).mono ?_; rintro e wn ⟨rfl, rfl⟩
        go_wp2_with fail
        refine (HC.out _).mono ?_; rintro e wn ⟨rfl, rfl⟩
        go_wp2_with fail
        generalize w.alloc (gbox R C (.slice A l.length c)) = wa at HB HK ⊢
        have zk := Blk.lt HK.out
        go_loopw [3] (fun i wr => ∃ k : Nat, k ≤ R ∧ i = .int .i64 k ∧ Hid (∀ j, j < k → RowOk (rowAt l C j)) ∧ Hid (Below wa.heap.size wa wr)) (fun i _ => R - (intOf i).toNat)
        case atStart => exact ⟨0, by omega, rfl, Lib.hid fun j hj => absurd hj (by omega), Lib.hid (Below.refl _ _)⟩
        case round =>
          obtain ⟨k, hk, rfl, HRO, HBL⟩ := hrel
          have HBW : Hid (Below w.heap.size w wr) := Lib.hid (HB.out.trans (HBL.out.mono HB.out.size))
          have hkk := Blk.kept HK.out HBL.out
          have c0 : wr.cell? ⟨w.heap.size, 0, none⟩ = some (.int .i64 R) := Blk.cell hkk 0
          have c1 : wr.cell? ⟨w.heap.size, 1, none⟩ = some (.int .i64 C) := Blk.cell hkk 1
          have c2 : wr.cell? ⟨w.heap.size, 2, none⟩ = some (.slice A l.length c) := Blk.cell hkk 2
          have zr := Blk.lt hkk
          clear hkk
          by_cases hlt : k < R
          · have hi1 : (k + 1) * C ≤ l.length := by rw [HH.out.2.2.1]; exact Nat.mul_le_mul_right _ hlt
            have hsm : (k + 1) * C ≤ 40 * 40 := Nat.le_trans hi1 (by rw [HH.out.2.2.1]; exact HH.out.2.2.2)
            obtain ⟨A', c', hs, hm⟩ := HX.out.row C k hi1 _ _ rfl rfl
            have HM := Lib.hid hm
            have hrl : (rowAt l C k).length ≤ 1000000 := by unfold rowAt; rw [List.length_take]; have := HH.out.2.1.2; omega
            have hsh : Short (rowAt l C k) := fun j hj => by
              have e : g (rowAt l C k) j = g l (k * C + j) := by
                unfold rowAt at hj ⊢
                rw [List.length_take] at hj
                rw [g_take (by omega), g_drop]
              rw [e]
              refine HS.out _ ?_
              unfold rowAt at hj
              rw [List.length_take, List.length_drop] at hj
              omega
            obtain ⟨i1, hi1'⟩ : ∃ q, k + 1 = q := ⟨_, rfl⟩
            have hle : k * C ≤ i1 * C := Nat.mul_le_mul_right _ (by omega)
            rw [hi1'] at hs hi1 hsm
            obtain ⟨p, hp⟩ : ∃ q, k * C = q := ⟨_, rfl⟩
            obtain ⟨q, hq⟩ : ∃ q, i1 * C = q := ⟨_, rfl⟩
            have w1 : IntKind.i64.wrap ((k : Int) + 1) = (i1 : Int) := by rw [IntKind.wrap_i64]; omega
            have w2 : IntKind.i64.wrap ((k : Int) * (C : Int)) = (p : Int) := by rw [← Int.natCast_mul, hp, IntKind.wrap_i64]; omega
            have w3 : IntKind.i64.wrap ((i1 : Int) * (C : Int)) = (q : Int) := by rw [← Int.natCast_mul, hq, IntKind.wrap_i64]; omega
            rw [hp, hq] at hs
            have HI1 := Lib.hid hi1'
            clear hp hq hi1 hi1' hm hsm hle
            by_cases hok : RowOk (rowAt l C k)
            · have HCALL := Lib.hid (refRow_any (rowAt l C k) true _ _ (HM.out.kept HBW.out).cs hsh (HT.out.kept HBW.out) hrl ⟨fun _ => hok, fun _ => rfl⟩)
              have HOK := Lib.hid hok
              clear hok hsh hrl
              go_wp2_with fail
              refine HCALL.out.mono ?_; rintro e w5 ⟨rfl, hb⟩
              have HB5 := Lib.hid (HBL.out.trans (hb.mono HBL.out.size))
              clear hb
              go_wp2_with fail
              go_roundw
              case rel => exact ⟨i1, by have := HI1.out; omega, rfl, Lib.hid (fun j hj => by
                have := HI1.out
                by_cases e : j = k
                · subst e; exact HOK.out
                · exact HRO.out j (by omega)), HB5⟩
              case measure => have := HI1.out; simp [intOf]; omega
            · have HCALL := Lib.hid (refRow_any (rowAt l C k) false _ _ (HM.out.kept HBW.out).cs hsh (HT.out.kept HBW.out) hrl ⟨(fun h => by cases h), fun h => absurd h hok⟩)
              have hbf : b = false := by
                cases hb : b
                · rfl
                · exact absurd (HBI.out.1 hb k hlt) hok
              have HBF := Lib.hid hbf
              clear hok hsh hrl hbf
              go_wp2_with fail
              refine HCALL.out.mono ?_; rintro e w5 ⟨rfl, hb⟩
              have HB5 := Lib.hid (HBW.out.trans (hb.mono HBW.out.size))
              clear hb
              go_wp2_with fail
              go_ret
              exact ⟨by rw [HBF.out]; rfl, HB5.out⟩
          · have hbt : b = true := HBI.out.2 fun j hj => HRO.out j (by omega)
            have HBT := Lib.hid hbt
            clear hbt
            go_wp2_with fail
            go_ret
            exact ⟨by rw [HBT.out]; rfl, HBW.out⟩
      · have hbf : b = false := by
          cases b
          · rfl
          · have := (hb.1 rfl).2.2.1
            have h4 : ((l.length : Nat) : Int) = (R : Int) * (C : Int) := this
            rw [← Int.natCast_mul] at h4
            omega
        subst hbf
        obtain ⟨m, hmm⟩ : ∃ q, R * C = q := ⟨_, rfl⟩
        have w0 : IntKind.i64.wrap ((R : Int) * (C : Int)) = (m : Int) := by rw [← Int.natCast_mul, hmm, IntKind.wrap_i64]; omega
        have hne : ((l.length : Int) == (m : Int)) = false := by rw [beq_eq_false_iff_ne]; omega
        have hne2 : (l.length == m) = false := by rw [beq_eq_false_iff_ne]; omega
        clear h1 h2 hb hx hs hT hl hroom hW h3 hm hmm
        go_enter Tryd.func6, Tryd.ntmps6
        go_wp2_with fail
        refine (HR.out _).mono ?_; rintro e wn ⟨rfl, rfl⟩
        go_wp2_with fail
        refine (HC.out _).mono ?_; rintro e wn ⟨rfl, rfl⟩
        go_wp2_with fail
        go_ret
        exact ⟨rfl, HB.out⟩
    · have HC := Lib.hid (fun w' => btw_at C 1 40 false (rngN h2) w')
      have hbf : b = false := by
        cases b
        · rfl
        · exact absurd (hb.1 rfl).2.1 h2
      subst hbf
      clear h1 h2 hb hx hs hT hl hroom hW
      go_enter Tryd.func6, Tryd.ntmps6
      go_wp2_with fail
      refine (HR.out _).mono ?_; rintro e wn ⟨rfl, rfl⟩
      go_wp2_with fail
      refine (HC.out _).mono ?_; rintro e wn ⟨rfl, rfl⟩
      go_wp2_with fail
      go_ret
      exact ⟨rfl, HB.out⟩
  · have HR := Lib.hid (fun w' => btw_at R 1 40 false (rngN h1) w')
    have hbf : b = false := by
      cases b
      · rfl
      · exact absurd (hb.1 rfl).1 h1
    subst hbf
    clear h1 hb hx hs hT hl hroom hW
    go_enter Tryd.func6, Tryd.ntmps6
    go_wp2_with fail
    refine (HR.out _).mono ?_; rintro e wn ⟨rfl, rfl⟩
    go_wp2_with fail
    go_ret
    exact ⟨rfl, HB.out⟩
end Row
end Go.Proofs.YtenhgkhonaglaaaDoor
end
section
/- The page's grids: a row put; halves mended. -/
namespace Go.Proofs.YtenhgkhonaglaaaDoor
set_option maxRecDepth 100000
open Go.RowKit
namespace Row
open Utf Wid

/-- What stands in the cells while row i is put, cell by cell. -/
def putting (l x : List Cl) (p k : Nat) : List Cl := l.take p ++ x.take k ++ l.drop (p + k)
theorem putting_zero (l x : List Cl) (p : Nat) : putting l x p 0 = l := by simp [putting]
theorem putting_length {l x : List Cl} {p k : Nat} (h : p + k ≤ l.length) (hk : k ≤ x.length) : (putting l x p k).length = l.length := by
  simp [putting]; omega
theorem putting_succ {l x : List Cl} {p k : Nat} (h : p + k < l.length) (hk : k < x.length) : (putting l x p k).set (p + k) (g x k) = putting l x p (k + 1) := by
  have hl := putting_length (Nat.le_of_lt h) (Nat.le_of_lt hk)
  have hl2 := putting_length (l := l) (x := x) (p := p) (k := k + 1) (by omega) (by omega)
  refine ext_g (by rw [List.length_set, hl, hl2]) fun i hi => ?_
  rw [List.length_set, hl] at hi
  have ht : (l.take p).length = p := by rw [List.length_take]; omega
  have hx : (x.take k).length = k := by rw [List.length_take]; omega
  have hx1 : (x.take (k + 1)).length = k + 1 := by rw [List.length_take]; omega
  have key : ∀ m, m ≤ x.length → p + m ≤ l.length → g (putting l x p m) i = if i < p then g l i else if i < p + m then g x (i - p) else g l i := by
    intro m hm1 hm2
    have hxm : (x.take m).length = m := by rw [List.length_take]; omega
    unfold putting
    by_cases h1 : i < p
    · rw [if_pos h1, List.append_assoc, g_append_left (by omega), g_take h1]
    · rw [if_neg h1]
      by_cases h2 : i < p + m
      · rw [if_pos h2, g_append_left (by rw [List.length_append]; omega), g_append_right (by omega), ht, g_take (by omega)]
      · rw [if_neg h2, g_append_right (by rw [List.length_append]; omega), List.length_append, ht, hxm, g_drop]
        congr 1; omega
  by_cases e : i = p + k
  · subst e
    rw [g_set_same (by omega), key (k + 1) (by omega) (by omega), if_neg (by omega), if_pos (by omega)]
    congr 1; omega
  · rw [g_set_ne (fun h => e h.symm), key k (by omega) (by omega), key (k + 1) (by omega) (by omega)]
    by_cases h1 : i < p
    · rw [if_pos h1, if_pos h1]
    · rw [if_neg h1, if_neg h1]
      by_cases h2 : i < p + k
      · rw [if_pos h2, if_pos (by omega)]
      · rw [if_neg h2, if_neg (by omega)]
theorem putting_row {c : Nat} {rs : List (List Cl)} (h : Even c rs) {i : Nat} (hi : i < rs.length) {x : List Cl} (hx : x.length = c) : putting rs.flatten x (i * c) c = (rs.set i x).flatten := by
  unfold putting
  rw [List.take_of_length_le (show x.length ≤ c by omega), take_flat h, ← Nat.succ_mul, drop_flat h, List.set_eq_take_append_cons_drop, if_pos hi]
  simp

set_option maxHeartbeats 1600000 in
/-- A row put. -/
theorem refWith_any (R : Int) (C i : Nat) (l m : List Cl) (x y : Value) (w : World) (hC : C ≤ 40) (hi : i < 40) (hi1 : (i + 1) * C ≤ l.length) (hl : l.length ≤ 100000000) (hx : Cs w x l) (hy : Cs w y m) (hm : m.length = C) :
    Calls Tryd.prog 28 #[.agg #[.int .i64 R, .int .i64 C, x], .int .i64 i, y] w fun e w' => ∃ v, e = .returned (.agg #[.int .i64 R, .int .i64 C, v]) ∧ OwnCs w' w.heap.size v (putting l m (i * C) C) ∧ Below w.heap.size w w' := by
  have HX := Lib.hid hx
  have HY := Lib.hid hy
  have HCG := Lib.hid (fun w' (k : Cs w' x l) => copyGrid_any R C l x w' k hl)
  obtain ⟨A, c, rfl, _⟩ := hx.form
  obtain ⟨A', c', rfl, _⟩ := hy.form
  have hsm : (i + 1) * C ≤ 40 * 40 := Nat.mul_le_mul hi hC
  obtain ⟨p, hp⟩ : ∃ q, i * C = q := ⟨_, rfl⟩
  have hpc : p + C ≤ l.length := by rw [Nat.succ_mul] at hi1; omega
  have hp2 : p ≤ 1600 := by rw [Nat.succ_mul] at hsm; omega
  have w2 : IntKind.i64.wrap ((i : Int) * (C : Int)) = (p : Int) := by rw [← Int.natCast_mul, hp, IntKind.wrap_i64]; omega
  rw [hp]
  clear hx hy hsm hp hi1
  have hW := ((Below.refl w.heap.size w).alloc (Nat.le_refl _) (gbox R C (.slice A l.length c))).alloc (by simp) (gbox 0 0 (.slice none 0 0))
  go_enter Tryd.func28, Tryd.ntmps28
  go_wp2_with fail
  refine (HCG.out _ (HX.out.kept hW)).mono ?_; rintro e w1 ⟨v, rfl, ho, hb⟩
  have hG1 : w1.heap[w.heap.size + 1]? = some (gbox 0 0 (.slice none 0 0)) := Blk.kept (new_alloc _ _ _ (by simp)) hb
  have hG0 : w1.heap[w.heap.size]? = some (gbox R C (.slice A l.length c)) := Blk.kept (old_alloc (new_alloc _ _ _ rfl) _) hb
  have HB : Hid (Below w.heap.size w w1) := Lib.hid (hW.trans (hb.mono hW.size))
  have HO : Hid (OwnCs w1 (w.heap.size + 2) v l) := Lib.hid (ho.low (by simp))
  obtain ⟨A1, c1, rfl, _⟩ := ho.cs.form
  have HG0 : Hid ((gput w1 w.heap.size R C (.slice A1 l.length c1)).heap[w.heap.size]? = some (gbox R C (.slice A1 l.length c1))) := Lib.hid (gput_box hG0 _ _ _)
  have HG1 : Hid ((gput w1 w.heap.size R C (.slice A1 l.length c1)).heap[w.heap.size + 1]? = some (gbox 0 0 (.slice none 0 0))) := Lib.hid (gput_other hG1 (by omega) _ _ _)
  have HO2 : Hid (OwnCs (gput w1 w.heap.size R C (.slice A1 l.length c1)) (w.heap.size + 2) (.slice A1 l.length c1) l) := Lib.hid (gput_own HO.out (by omega) _ _ _)
  have HB2 : Hid (Below w.heap.size w (gput w1 w.heap.size R C (.slice A1 l.length c1))) := Lib.hid (gput_below HB.out (Nat.le_refl _) _ _ _)
  have r0 : w1.cell? ⟨w.heap.size, 0, none⟩ = some (.int .i64 R) := Blk.cell hG0 0
  have r1 : w1.cell? ⟨w.heap.size, 1, none⟩ = some (.int .i64 C) := Blk.cell hG0 1
  have r2 : w1.cell? ⟨w.heap.size, 2, none⟩ = some (.slice A l.length c) := Blk.cell hG0 2
  have s0 := Blk.free hG0 0
  have s1 := Blk.free hG0 1
  have s2 := Blk.free hG0 2
  clear ho hb hG0 hG1 hW HB HO HCG
  go_wp2_with fail
  unfold gput at HG0 HG1 HO2 HB2
  clear r0 r1 r2 s0 s1 s2
  generalize ((w1.setCell ⟨w.heap.size, 0, none⟩ (.int .i64 R)).setCell ⟨w.heap.size, 1, none⟩ (.int .i64 C)).setCell ⟨w.heap.size, 2, none⟩ (.slice A1 l.length c1) = wa at HG0 HG1 HO2 HB2 ⊢
  have HSH := Lib.hid HO2.out.shape
  have zk := Blk.lt HG1.out
  go_loopw [7] (fun j wr => ∃ k : Nat, k ≤ C ∧ j = .int .i64 k ∧ Hid (OwnCs wr (w.heap.size + 2) (.slice A1 l.length c1) (putting l m p k)) ∧ Hid (Below (w.heap.size + 2) wa wr)) (fun j _ => C - (intOf j).toNat)
  case atStart => exact ⟨0, by omega, rfl, by rw [putting_zero]; exact HO2, Lib.hid (Below.refl _ _)⟩
  case round =>
    obtain ⟨k, hk, rfl, HOW, HBL⟩ := hrel
    have hg0 := (HBL.out.block w.heap.size (by omega)).trans HG0.out
    have hg1 := (HBL.out.block (w.heap.size + 1) (by omega)).trans HG1.out
    have b0 : wr.cell? ⟨w.heap.size, 0, none⟩ = some (.int .i64 R) := Blk.cell hg0 0
    have b1 : wr.cell? ⟨w.heap.size, 1, none⟩ = some (.int .i64 C) := Blk.cell hg0 1
    have b2 : wr.cell? ⟨w.heap.size, 2, none⟩ = some (.slice A1 l.length c1) := Blk.cell hg0 2
    by_cases hlt : k < C
    · have HBW : Hid (Below w.heap.size w wr) := Lib.hid (HB2.out.trans (HBL.out.mono (by omega)))
      obtain ⟨A2, c2, e2, hf⟩ := (HY.out.kept HBW.out).form
      injection e2 with e2 _ e2c
      subst e2
      subst e2c
      obtain ⟨ad, e3, K⟩ := hf k (by omega)
      subst e3
      rcases HSH.out with ⟨e4, e5⟩ | ⟨g1, cap, e4, hg, _⟩
      · exfalso
        rw [e5] at hpc
        simp only [List.length_nil] at hpc
        omega
      injection e4 with e4 _ e6
      subst e4
      subst e6
      have hkl : p + k < (putting l m p k).length := by rw [putting_length (by omega) (by omega)]; omega
      have d0 := HOW.out.cell hkl (show 0 < 6 by decide)
      have d1 := HOW.out.cell hkl (show 1 < 6 by decide)
      have d2 := HOW.out.cell hkl (show 2 < 6 by decide)
      have d3 := HOW.out.cell hkl (show 3 < 6 by decide)
      have d4 := HOW.out.cell hkl (show 4 < 6 by decide)
      have d5 := HOW.out.cell hkl (show 5 < 6 by decide)
      have f0 := HOW.out.free ((p + k) * 6)
      have f1 := HOW.out.free ((p + k) * 6 + 1)
      have f2 := HOW.out.free ((p + k) * 6 + 2)
      have f3 := HOW.out.free ((p + k) * 6 + 3)
      have f4 := HOW.out.free ((p + k) * 6 + 4)
      have f5 := HOW.out.free ((p + k) * 6 + 5)
      simp only [cvals, Nat.add_zero, List.getElem?_cons_zero, List.getElem?_cons_succ] at d0 d1 d2 d3 d4 d5
      have HP := Lib.hid (HOW.out.put hkl (g m k))
      rw [putting_succ (by omega) (by omega)] at HP
      have HB5 := Lib.hid (below_put HBL.out hg (p + k) (g m k))
      generalize g m k = ev at K HP HB5
      generalize g (putting l m p k) (p + k) = cc at d0 d1 d2 d3 d4 d5
      obtain ⟨rune, cb, wide, ⟨fg, bg, fl⟩⟩ := ev
      obtain ⟨rune', cb', wide', ⟨fg', bg', fl'⟩⟩ := cc
      have h0 := K.head
      have h1 := K.next 0 rfl
      have h2 := K.next 1 rfl
      have h3 := K.next 2 rfl
      have h4 := K.next 3 rfl
      have h5 := K.next 4 rfl
      obtain ⟨q, hq⟩ : ∃ q, p + k = q := ⟨_, rfl⟩
      have w3 : IntKind.i64.wrap ((p : Int) + (k : Int)) = (q : Int) := by rw [IntKind.wrap_i64]; omega
      have hql : q < l.length := by omega
      rw [hq] at d0 d1 d2 d3 d4 d5 f0 f1 f2 f3 f4 f5 HP HB5
      have zg : g1 < wr.heap.size := (HOW.out.lt g1 rfl).2
      clear K hf hkl hg0 hg1 hq
      go_wp2_with fail
      go_region
      go_wp2_with fail
      simp only [putCell] at HP HB5
      clear b0 b1 b2 d0 d1 d2 d3 d4 d5 f0 f1 f2 f3 f4 f5 h0 h1 h2 h3 h4 h5
      generalize (((((wr.setCell ⟨g1, q * 6, none⟩ (.int .i64 rune)).setCell ⟨g1, q * 6 + 1, none⟩ (.string ⟨cb.toArray⟩)).setCell ⟨g1, q * 6 + 2, none⟩ (.int .i64 wide)).setCell ⟨g1, q * 6 + 3, none⟩ (.int .i64 fg)).setCell ⟨g1, q * 6 + 4, none⟩ (.int .i64 bg)).setCell ⟨g1, q * 6 + 5, none⟩ (.int .i64 fl) = wz at HP HB5 ⊢
      go_roundw
      case rel => exact ⟨k + 1, by omega, by go_num, HP, Lib.hid HB5.out.drew⟩
      case measure => simp [intOf]; omega
    · have hkn : k = C := by omega
      subst hkn
      have HBW : Hid (Below w.heap.size w wr) := Lib.hid (HB2.out.trans (HBL.out.mono (by omega)))
      have r0 : wr.cell? ⟨w.heap.size + 1, 0, none⟩ = some (.int .i64 0) := Blk.cell hg1 0
      have r1 : wr.cell? ⟨w.heap.size + 1, 1, none⟩ = some (.int .i64 0) := Blk.cell hg1 1
      have r2 : wr.cell? ⟨w.heap.size + 1, 2, none⟩ = some (.slice none 0 0) := Blk.cell hg1 2
      have s0 := Blk.free hg1 0
      have s1 := Blk.free hg1 1
      have s2 := Blk.free hg1 2
      have HF := Lib.hid (gput_box hg1 R k (.slice A1 l.length c1))
      have HO3 : Hid (OwnCs (gput wr (w.heap.size + 1) R k (.slice A1 l.length c1)) (w.heap.size + 2) (.slice A1 l.length c1) (putting l m p k)) := Lib.hid (gput_own HOW.out (by omega) _ _ _)
      have HB3 : Hid (Below w.heap.size w (gput wr (w.heap.size + 1) R k (.slice A1 l.length c1))) := Lib.hid (gput_below HBW.out (by omega) _ _ _)
      clear HOW HBL HO2 HB2 hg0 hg1 HG0 HG1
      go_wp2_with fail
      show bodyPost _ _ _ _ _ (gput wr (w.heap.size + 1) R k (.slice A1 l.length c1))
      clear r0 r1 r2 s0 s1 s2
      generalize gput wr (w.heap.size + 1) R k (.slice A1 l.length c1) = wF at HF HO3 HB3 ⊢
      have z0 : wF.cell? ⟨w.heap.size + 1, 0, none⟩ = some (.int .i64 R) := Blk.cell HF.out 0
      have z1 : wF.cell? ⟨w.heap.size + 1, 1, none⟩ = some (.int .i64 k) := Blk.cell HF.out 1
      have z2 : wF.cell? ⟨w.heap.size + 1, 2, none⟩ = some (.slice A1 l.length c1) := Blk.cell HF.out 2
      exact bodyPost_ret (v := .agg #[.int .i64 R, .int .i64 k, (.slice A1 l.length c1)]) (by simp [results, Tryd.results28, go_sem, z0, z1, z2]) rfl ⟨_, rfl, HO3.out.low (by omega), HB3.out⟩

end Row
end Go.Proofs.YtenhgkhonaglaaaDoor
end
section
/- The page's mend: of a row that was cut, its last half. -/
namespace Go.Proofs.YtenhgkhonaglaaaDoor
set_option maxRecDepth 100000
open Go.RowKit
namespace Row

/-- The beginning of a row that may be: halves are whole, but for the last. -/
def Begun (l : List Cl) : Prop := ∀ i, i < l.length → ((g l i).wide = 1 → i + 1 < l.length → (g l (i + 1)).wide = 2) ∧ ((g l i).wide = 2 → 0 < i ∧ (g l (i - 1)).wide = 1)
theorem begun_take {l : List Cl} (h : Good l) (n : Nat) (hn : n ≤ l.length) : Begun (l.take n) := by
  intro i hi
  rw [List.length_take, Nat.min_eq_left hn] at hi ⊢
  have hr := (good_iff l).1 h i (by omega)
  rw [g_take hi]
  refine ⟨fun h1 h2 => ?_, fun h1 => ?_⟩
  · rw [g_take h2]; exact (hr.2.1 h1).2.1
  · obtain ⟨h2, h3⟩ := hr.2.2 h1
    exact ⟨h2, by rw [g_take (by omega)]; exact h3⟩
def mendTo (l : List Cl) (k : Nat) : List Cl := if k = l.length then mendEnd l else l
theorem mendTo_lt {l : List Cl} {k : Nat} (h : k < l.length) : mendTo l k = l := by unfold mendTo; rw [if_neg (by omega)]
theorem mendTo_keep {l : List Cl} {k : Nat} (hw : ¬ ((g l k).wide = 1 ∧ k + 1 = l.length)) : mendTo l (k + 1) = l := by
  unfold mendTo
  by_cases e : k + 1 = l.length
  · rw [if_pos e]
    unfold mendEnd
    rw [if_neg (fun q => hw ⟨by rw [show k = l.length - 1 by omega]; exact q.2, e⟩)]
  · rw [if_neg e]
theorem mendTo_put {l : List Cl} {k : Nat} (h : k + 1 = l.length) (hw : (g l k).wide = 1) : mendTo l (k + 1) = l.set k (blank (g l k).a) := by
  unfold mendTo
  rw [if_pos h]
  unfold mendEnd
  have e : l.length - 1 = k := by omega
  rw [e, if_pos ⟨by intro q; subst q; simp at h, hw⟩]
theorem mendTo_all (l : List Cl) : mendTo l l.length = mendEnd l := by unfold mendTo; rw [if_pos rfl]
theorem OwnCs.att {w : World} {base b n cap : Nat} {l : List Cl} (h : OwnCs w base (.slice (some ⟨b, 0, none⟩) n cap) l) {k : Nat} (hk : k < l.length) : At w ⟨b, k * 6, none⟩ (cvals (g l k)) := by
  intro j u hu
  have hj : j < 6 := (List.getElem?_eq_some_iff.1 hu).1
  have e : (⟨b, k * 6, none⟩ : Addr).add j = ⟨b, k * 6 + j, none⟩ := by
    unfold Addr.add
    split
    · rename_i h; rw [h]; rfl
    · rfl
  rw [e, h.cell hk hj]; exact hu

set_option maxHeartbeats 3200000 in
theorem refMend_any (l : List Cl) (base b cap : Nat) (w : World) (ho : OwnCs w base (.slice (some ⟨b, 0, none⟩) l.length cap) l) (hbase : base ≤ w.heap.size) (hl : l.length ≤ 1000000) (hg : Begun l) :
    Calls Tryd.prog 43 #[.slice (some ⟨b, 0, none⟩) l.length cap] w fun e w' => e = .returned (.tuple #[]) ∧ OwnCs w' base (.slice (some ⟨b, 0, none⟩) l.length cap) (mendEnd l) ∧ Below base w w' := by
  have hbb : base ≤ b := by
    rcases ho.shape with ⟨e, _⟩ | ⟨b', _, e, h, _⟩
    · injection e with e; cases e
    · injection e with e; injection e with e; injection e with e; rw [e]; exact h
  have HBB := Lib.hid hbb
  have HBS := Lib.hid hbase
  have HG := Lib.hid hg
  have HO : Hid (OwnCs w base (.slice (some ⟨b, 0, none⟩) l.length cap) (mendTo l 0)) := Lib.hid (by
    by_cases e : 0 < l.length
    · rw [mendTo_lt e]; exact ho
    · have : l = [] := List.eq_nil_of_length_eq_zero (by omega)
      subst this
      exact ho)
  clear ho hbb hbase hg
  go_enter Tryd.func43, Tryd.ntmps43
  go_wp2_with fail
  go_loopw [2] (fun i wr => ∃ k : Nat, k ≤ l.length ∧ i = .int .i64 k ∧ Hid (OwnCs wr base (.slice (some ⟨b, 0, none⟩) l.length cap) (mendTo l k)) ∧ Hid (Below base w wr)) (fun i _ => l.length - (intOf i).toNat)
  case atStart => exact ⟨0, by omega, rfl, HO, Lib.hid (Below.refl _ _)⟩
  case round =>
    obtain ⟨k, hk, rfl, HOW, HBL⟩ := hrel
    by_cases hlt : k < l.length
    · rw [mendTo_lt hlt] at HOW
      have hgk := HG.out k hlt
      have hat := HOW.out.att hlt
      obtain ⟨k1, hk1⟩ : ∃ q, k + 1 = q := ⟨_, rfl⟩
      have hw1 : IntKind.i64.wrap ((k : Int) + 1) = (k1 : Int) := by rw [IntKind.wrap_i64]; omega
      have HK1 := Lib.hid hk1
      by_cases h1 : (g l k).wide = 1
      · by_cases h2 : k1 = l.length
        · have hkeep := mendTo_put (by omega) h1
          rw [hk1] at hkeep
          have HKEEP := Lib.hid hkeep
          have HRB := Lib.hid (fun w' => refblank_any (g l k).a w')
          have hput := fun (w' : World) (q : OwnCs w' base (.slice (some ⟨b, 0, none⟩) l.length cap) l) => q.put hlt (blank (g l k).a)
          have HPUT := Lib.hid hput
          have hfac := fun (w' : World) (q : OwnCs w' base (.slice (some ⟨b, 0, none⟩) l.length cap) l) => (fun (j : Nat) (hj : j < 6) => q.cell hlt hj)
          have HFAC := Lib.hid hfac
          clear hgk hkeep hput hfac
          generalize g l k = ck at h1 hat HRB HKEEP HPUT HFAC
          obtain ⟨cr, cm, cx, ⟨f1, f2, f3⟩⟩ := ck
          obtain rfl : cx = 1 := h1
          have c2 := hat.next 1 rfl
          have c3 := hat.next 2 rfl
          have c4 := hat.next 3 rfl
          have c5 := hat.next 4 rfl
          have heq : ((k1 : Int) == (l.length : Int)) = true := by rw [beq_iff_eq]; omega
          clear hat hk1
          have HRB : Hid (∀ w', Calls Tryd.prog 53 #[.agg #[.int .i64 f1, .int .i64 f2, .int .i64 f3]] w' fun e w'' => e = .returned (.agg #[.int .i64 32, .string ⟨#[]⟩, .int .i64 0, .int .i64 (-1), .int .i64 f2, .int .i64 0]) ∧ Below w'.heap.size w' w'') := HRB
          go_wp2_with fail
          refine (HRB.out _).mono ?_; rintro e w1 ⟨rfl, hb1⟩
          have ho1 := HOW.out.kept hb1
          have HB1 : Hid (Below base w w1) := Lib.hid (HBL.out.trans (hb1.mono (Nat.le_trans HBS.out HBL.out.size)))
          have d0 : w1.cell? ⟨b, k * 6, none⟩ = some (.int .i64 cr) := HFAC.out w1 ho1 0 (by decide)
          have d1 : w1.cell? ⟨b, k * 6 + 1, none⟩ = some (.string ⟨cm.toArray⟩) := HFAC.out w1 ho1 1 (by decide)
          have d2 : w1.cell? ⟨b, k * 6 + 2, none⟩ = some (.int .i64 1) := HFAC.out w1 ho1 2 (by decide)
          have d3 : w1.cell? ⟨b, k * 6 + 3, none⟩ = some (.int .i64 f1) := HFAC.out w1 ho1 3 (by decide)
          have d4 : w1.cell? ⟨b, k * 6 + 4, none⟩ = some (.int .i64 f2) := HFAC.out w1 ho1 4 (by decide)
          have d5 : w1.cell? ⟨b, k * 6 + 5, none⟩ = some (.int .i64 f3) := HFAC.out w1 ho1 5 (by decide)
          have g0 := ho1.free (k * 6)
          have g1 := ho1.free (k * 6 + 1)
          have g2 := ho1.free (k * 6 + 2)
          have g3 := ho1.free (k * 6 + 3)
          have g4 := ho1.free (k * 6 + 4)
          have g5 := ho1.free (k * 6 + 5)
          have HP := Lib.hid (HPUT.out w1 ho1)
          have HB5 := Lib.hid (below_put HB1.out HBB.out k (blank ⟨f1, f2, f3⟩))
          clear ho1 hb1 c2 c3 c4 c5 HB1
          go_wp2_with fail
          clear d0 d1 d2 d3 d4 d5 g0 g1 g2 g3 g4 g5
          rw [← HKEEP.out] at HP
          simp only [putCell, blank] at HP HB5
          generalize (((((w1.setCell ⟨b, k * 6, none⟩ (.int .i64 32)).setCell ⟨b, k * 6 + 1, none⟩ (.string ⟨#[]⟩)).setCell ⟨b, k * 6 + 2, none⟩ (.int .i64 0)).setCell ⟨b, k * 6 + 3, none⟩ (.int .i64 (-1))).setCell ⟨b, k * 6 + 4, none⟩ (.int .i64 f2)).setCell ⟨b, k * 6 + 5, none⟩ (.int .i64 0) = wz at HP HB5 ⊢
          go_roundw
          case rel => exact ⟨k1, by have := HK1.out; omega, by rw [h2], HP, HB5⟩
          case measure => have := HK1.out; simp [intOf]; omega
        · have hkeep := mendTo_keep (l := l) (k := k) (fun q => h2 (by rw [← hk1]; exact q.2))
          rw [hk1] at hkeep
          have h3 : (g l k1).wide = 2 := by have := hgk.1 h1 (by omega); rwa [hk1] at this
          have hk1l : k1 < l.length := by omega
          have hat1 := HOW.out.att hk1l
          have HKEEP := Lib.hid hkeep
          clear hgk hkeep
          generalize g l k = ck at h1 hat
          generalize g l k1 = dk at h3 hat1
          obtain ⟨cr, cm, cx, ⟨f1, f2, f3⟩⟩ := ck
          obtain rfl : cx = 1 := h1
          obtain ⟨dr, dm, dx, ⟨e1, e2, e3⟩⟩ := dk
          obtain rfl : dx = 2 := h3
          have c2 := hat.next 1 rfl
          have d2 := hat1.next 1 rfl
          have hne : ((k1 : Int) == (l.length : Int)) = false := by rw [beq_eq_false_iff_ne]; omega
          clear hat hat1 hk1
          go_wp2_with fail
          go_roundw
          case rel => exact ⟨k1, by have := HK1.out; omega, rfl, by rw [HKEEP.out]; exact HOW, HBL⟩
          case measure => have := HK1.out; simp [intOf]; omega
      · have hkeep := mendTo_keep (k := k) (fun q => h1 q.1)
        rw [hk1] at hkeep
        have HKEEP := Lib.hid hkeep
        by_cases h2 : (g l k).wide = 2
        · obtain ⟨hk0, h3⟩ := hgk.2 h2
          obtain ⟨j, hj⟩ : ∃ j, k - 1 = j := ⟨_, rfl⟩
          rw [hj] at h3
          have hw0 : IntKind.i64.wrap ((k : Int) - 1) = (j : Int) := by rw [IntKind.wrap_i64]; omega
          have hjl : j < l.length := by omega
          have hat1 := HOW.out.att hjl
          have hkz : ((k : Int) == 0) = false := by rw [beq_eq_false_iff_ne]; omega
          have hkz' : (k == 0) = false := by rw [beq_eq_false_iff_ne]; omega
          clear hgk hkeep h1
          generalize g l k = ck at h2 hat
          generalize g l j = dk at h3 hat1
          obtain ⟨cr, cm, cx, ⟨f1, f2, f3⟩⟩ := ck
          obtain rfl : cx = 2 := h2
          obtain ⟨dr, dm, dx, ⟨e1, e2, e3⟩⟩ := dk
          obtain rfl : dx = 1 := h3
          have c2 := hat.next 1 rfl
          have d2 := hat1.next 1 rfl
          clear hat hat1 hk1 hj
          go_wp2_with fail
          go_roundw
          case rel => exact ⟨k1, by have := HK1.out; omega, rfl, by rw [HKEEP.out]; exact HOW, HBL⟩
          case measure => have := HK1.out; simp [intOf]; omega
        · clear hgk hkeep
          generalize g l k = ck at h1 h2 hat
          obtain ⟨cr, cm, cx, ⟨f1, f2, f3⟩⟩ := ck
          have hx1 : (cx == 1) = false := by rw [beq_eq_false_iff_ne]; exact h1
          have hx2 : (cx == 2) = false := by rw [beq_eq_false_iff_ne]; exact h2
          have c2 : wr.cell? ⟨b, k * 6 + (1 + 1), none⟩ = some (.int .i64 cx) := hat.next 1 rfl
          clear hat hk1 h1 h2
          go_wp2_with fail
          go_roundw
          case rel => exact ⟨k1, by have := HK1.out; omega, rfl, by rw [HKEEP.out]; exact HOW, HBL⟩
          case measure => have := HK1.out; simp [intOf]; omega
    · have hkn : k = l.length := by omega
      subst hkn
      rw [mendTo_all] at HOW
      go_wp2_with fail
      go_end0
      exact ⟨rfl, HOW.out, HBL.out⟩
end Row
end Go.Proofs.YtenhgkhonaglaaaDoor
end
