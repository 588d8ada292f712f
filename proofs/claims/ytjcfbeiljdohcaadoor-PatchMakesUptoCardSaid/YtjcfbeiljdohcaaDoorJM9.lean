/- Joined texts: RowRefBl, GrdRef1, Nums, AggBox. -/
import Derived.Test.YtjcfbeiljdohcaaDoorJM8
import Derived.Laws.CopyOwn
import Derived.Laws.Tables
import Derived.Laws.Rows
namespace Go.Proofs.YtjcfbeiljdohcaaDoor
set_option maxRecDepth 100000
section
open Go.RowKit
namespace Row
set_option maxHeartbeats 800000 in
theorem refBlank_big (n : Nat) (a : Look) (w : World) (hn : n ≤ 1000000) :
    Calls Tryd.prog 39 #[.int .i64 n, .agg #[.int .i64 a.fg, .int .i64 a.bg, .int .i64 a.flags]] w fun e w' => ∃ v, e = .returned v ∧ OwnCs w' w.heap.size v (List.replicate n (blank a)) ∧ Below w.heap.size w w' := by
  have HB : Hid (∀ w', Calls Tryd.prog 50 #[.agg #[.int .i64 a.fg, .int .i64 a.bg, .int .i64 a.flags]] w' fun e w'' => e = .returned (.agg #[.int .i64 32, .string ⟨#[]⟩, .int .i64 0, .int .i64 (-1), .int .i64 a.bg, .int .i64 0]) ∧ Below w'.heap.size w' w'') := Lib.hid (fun w' => refblank_any a w')
  have HO : Hid (∀ w' : World, Cs (w'.alloc (.cells #[.int .i64 32, .string ⟨#[]⟩, .int .i64 0, .int .i64 (-1), .int .i64 a.bg, .int .i64 0] 63)) (.slice (some ⟨w'.heap.size, 0, none⟩) 1 1) [blank a]) := Lib.hid fun w' => Cs.one w' (blank a) _ 1 _ rfl
  have hb0 : Below w.heap.size w (w.alloc (.cells #[.int .i64 a.fg, .int .i64 a.bg, .int .i64 a.flags] 60)) := (Below.refl _ _).alloc (Nat.le_refl _) _
  have hk0 : (w.alloc (.cells #[.int .i64 a.fg, .int .i64 a.bg, .int .i64 a.flags] 60)).heap[w.heap.size]? = some (.cells #[.int .i64 a.fg, .int .i64 a.bg, .int .i64 a.flags] 60 (0, 0)) := heap_alloc_new _ _
  have HB0 := Lib.hid hb0
  have HK0 := Lib.hid hk0
  clear hb0 hk0
  go_enter Tryd.func39, Tryd.ntmps39
  go_wp2_with fail
  go_loopw [5, 6] (fun v i wr => ∃ k : Nat, k ≤ n ∧ i = .int .i64 k ∧ OwnCs wr (w.heap.size + 1) v (List.replicate k (blank a)) ∧ Below (w.heap.size + 1) (w.alloc (.cells #[.int .i64 a.fg, .int .i64 a.bg, .int .i64 a.flags] 60)) wr) (fun _ i _ => n - (intOf i).toNat)
  case atStart => exact ⟨0, by omega, rfl, OwnCs.nil _ _, Below.refl _ _⟩
  case round =>
    obtain ⟨k, hk, rfl, hown, hbl⟩ := hrel
    have HOW := Lib.hid hown
    have HBL := Lib.hid hbl
    have hsz : w.heap.size + 1 ≤ wr.heap.size := by have := hbl.size; simpa using this
    by_cases hlt : k < n
    · have hkk := hbl.block w.heap.size (by omega)
      rw [HK0.out] at hkk
      obtain ⟨k0, k1, k2⟩ := box_cells hkk
      have HR : Hid (List.replicate (k + 1) (blank a) = List.replicate k (blank a) ++ [blank a]) := Lib.hid (by rw [← List.replicate_append_replicate]; rfl)
      clear hkk hown hbl
      go_wp2_with fail
      refine (HB.out _).mono ?_; rintro e w1 ⟨rfl, hb1⟩
      have HB1 : Hid (Below (w.heap.size + 1) (w.alloc (.cells #[.int .i64 a.fg, .int .i64 a.bg, .int .i64 a.flags] 60)) w1) := Lib.hid (HBL.out.trans (hb1.mono hsz))
      have HO1 := Lib.hid (HOW.out.kept hb1)
      have hsz1 : w.heap.size + 1 ≤ w1.heap.size := Nat.le_trans hsz hb1.size
      clear hb1 k0 k1 k2
      go_wp2_with (at_builtin; refine wp_append_cs rfl rfl (w.heap.size + 1) _ _ (List.replicate k (blank a)) [blank a] rfl (HO1.out.kept ((Below.refl _ _).alloc (Nat.le_refl _) _)) rfl (HO.out w1) (by rw [List.length_replicate]; simp; omega) (by simp; omega) ?_; intro v2 w2 ho2 hg2 hat2; have HO2 := Lib.hid ho2; have HB2 : Hid (Below (w.heap.size + 1) (w.alloc (.cells #[.int .i64 a.fg, .int .i64 a.bg, .int .i64 a.flags] 60)) w2) := Lib.hid (below_cs (HB1.out.alloc hsz1 _) hg2 (by simp; omega) (HO1.out.kept ((Below.refl _ _).alloc (Nat.le_refl _) _))); clear ho2 hg2 hat2)
      go_roundw
      case rel => exact ⟨k + 1, by omega, by go_num, by rw [HR.out]; exact HO2.out, HB2.out⟩
      case measure => simp [intOf]; omega
    · have hkn : k = n := by omega
      subst hkn
      clear hown hbl
      go_wp2_with fail
      go_ret
      exact ⟨_, rfl, HOW.out.low (Nat.le_succ _), HB0.out.trans (HBL.out.mono (Nat.le_succ _))⟩
end Row
end
section
open Go.RowKit
namespace Row
open Utf Wid
theorem copyGrid_any (R C : Int) (l : List Cl) (x : Value) (w : World) (hx : Cs w x l) (hn : l.length ≤ 100000000) :
    Calls Tryd.prog 40 #[.agg #[.int .i64 R, .int .i64 C, x]] w fun e w' => ∃ v, e = .returned (.agg #[.int .i64 R, .int .i64 C, v]) ∧ OwnCs w' w.heap.size v l ∧ Below w.heap.size w w' := by
  have HX := Lib.hid hx
  have HCC := Lib.hid (fun w' v (k : Cs w' v l) => copyCells_any l v w' k hn)
  obtain ⟨A, c, rfl, _⟩ := hx.form
  clear hx
  go_enter Tryd.func40, Tryd.ntmps40
  go_wp2_with fail
  have hW := (((Below.refl w.heap.size w).alloc (Nat.le_refl _) (gbox R C (.slice A l.length c))).alloc (by simp) (gbox 0 0 (.slice none 0 0))).alloc (by simp; omega) (gbox R C (.slice A l.length c))
  refine (HCC.out _ _ (HX.out.kept hW)).mono ?_; rintro e w1 ⟨v, rfl, ho, hb⟩
  have hG1 : w1.heap[w.heap.size + 1]? = some (gbox 0 0 (.slice none 0 0)) := Blk.kept (old_alloc (new_alloc _ _ _ (by simp)) _) hb
  have hG2 : w1.heap[w.heap.size + 1 + 1]? = some (gbox R C (.slice A l.length c)) := Blk.kept (new_alloc _ _ _ (by simp)) hb
  have HB : Hid (Below w.heap.size w w1) := Lib.hid (hW.trans (hb.mono hW.size))
  obtain ⟨A1, c1, rfl, _⟩ := ho.cs.form
  have HO : Hid (OwnCs w1 (w.heap.size + 3) (.slice A1 l.length c1) l) := Lib.hid (ho.low (by simp))
  have d0 : w1.cell? ⟨w.heap.size + 1 + 1, 0, none⟩ = some (.int .i64 R) := Blk.cell hG2 0
  have d1 : w1.cell? ⟨w.heap.size + 1 + 1, 1, none⟩ = some (.int .i64 C) := Blk.cell hG2 1
  have d2 : w1.cell? ⟨w.heap.size + 1 + 1, 2, none⟩ = some (.slice A l.length c) := Blk.cell hG2 2
  have f2 := Blk.free hG2 2
  have r0 : w1.cell? ⟨w.heap.size + 1, 0, none⟩ = some (.int .i64 0) := Blk.cell hG1 0
  have r1 : w1.cell? ⟨w.heap.size + 1, 1, none⟩ = some (.int .i64 0) := Blk.cell hG1 1
  have r2 : w1.cell? ⟨w.heap.size + 1, 2, none⟩ = some (.slice none 0 0) := Blk.cell hG1 2
  have s0 := Blk.free hG1 0
  have s1 := Blk.free hG1 1
  have s2 := Blk.free hG1 2
  have HF := Lib.hid (gput_box (Blk.other hG1 (g := w.heap.size + 1 + 1) (by omega) 2 (.slice A1 l.length c1)) R C (.slice A1 l.length c1))
  have HO2 : Hid (OwnCs (gput (w1.setCell ⟨w.heap.size + 1 + 1, 2, none⟩ (.slice A1 l.length c1)) (w.heap.size + 1) R C (.slice A1 l.length c1)) (w.heap.size + 3) (.slice A1 l.length c1) l) := Lib.hid (gput_own (HO.out.set (by omega) _ _) (by omega) _ _ _)
  have HB2 : Hid (Below w.heap.size w (gput (w1.setCell ⟨w.heap.size + 1 + 1, 2, none⟩ (.slice A1 l.length c1)) (w.heap.size + 1) R C (.slice A1 l.length c1))) := Lib.hid (gput_below (HB.out.setCell (p := ⟨w.heap.size + 1 + 1, 2, none⟩) (by simp; omega) _) (by simp) _ _ _)
  clear hW hb ho hG1 hG2 HO HB
  go_wp2_with fail
  show bodyPost _ _ _ _ _ (gput (w1.setCell ⟨w.heap.size + 1 + 1, 2, none⟩ (.slice A1 l.length c1)) (w.heap.size + 1) R C (.slice A1 l.length c1))
  clear d0 d1 d2 f2 r0 r1 r2 s0 s1 s2
  generalize gput (w1.setCell ⟨w.heap.size + 1 + 1, 2, none⟩ (.slice A1 l.length c1)) (w.heap.size + 1) R C (.slice A1 l.length c1) = wF at HF HO2 HB2 ⊢
  have c0 : wF.cell? ⟨w.heap.size + 1, 0, none⟩ = some (.int .i64 R) := Blk.cell HF.out 0
  have c1' : wF.cell? ⟨w.heap.size + 1, 1, none⟩ = some (.int .i64 C) := Blk.cell HF.out 1
  have c2 : wF.cell? ⟨w.heap.size + 1, 2, none⟩ = some (.slice A1 l.length c1) := Blk.cell HF.out 2
  exact bodyPost_ret (v := .agg #[.int .i64 R, .int .i64 C, .slice A1 l.length c1]) (by simp [results, Tryd.results40, go_sem, c0, c1', c2]) rfl ⟨_, rfl, HO2.out.low (by omega), HB2.out⟩
theorem refNew_any (r c : Nat) (a : Look) (w : World) (hr : r ≤ 40) (hc : c ≤ 40) :
    Calls Tryd.prog 25 #[.int .i64 r, .int .i64 c, .agg #[.int .i64 a.fg, .int .i64 a.bg, .int .i64 a.flags]] w fun e w' => ∃ v, e = .returned (.agg #[.int .i64 r, .int .i64 c, v]) ∧ OwnCs w' w.heap.size v (List.replicate (r * c) (blank a)) ∧ Below w.heap.size w w' := by
  have hm : r * c ≤ 1600 := Nat.mul_le_mul hr hc
  obtain ⟨n, hn⟩ : ∃ q, r * c = q := ⟨_, rfl⟩
  have hw : IntKind.i64.wrap ((r : Int) * (c : Int)) = (n : Int) := by rw [← Int.natCast_mul, hn, IntKind.wrap_i64]; omega
  rw [hn] at hm ⊢
  have HBL := Lib.hid (fun w' => refBlank_big n a w' (by omega))
  clear hn hm hr hc
  have hW := ((Below.refl w.heap.size w).alloc (Nat.le_refl _) (.cells #[.int .i64 a.fg, .int .i64 a.bg, .int .i64 a.flags] 60 (0, 0))).alloc (by simp) (gbox 0 0 (.slice none 0 0))
  go_enter Tryd.func25, Tryd.ntmps25
  go_wp2_with fail
  refine (HBL.out _).mono ?_; rintro e w1 ⟨v, rfl, ho, hb⟩
  have hG1 : w1.heap[w.heap.size + 1]? = some (gbox 0 0 (.slice none 0 0)) := Blk.kept (new_alloc _ _ _ (by simp)) hb
  have HB : Hid (Below w.heap.size w w1) := Lib.hid (hW.trans (hb.mono hW.size))
  have HO : Hid (OwnCs w1 (w.heap.size + 2) v (List.replicate n (blank a))) := Lib.hid (ho.low (by simp))
  obtain ⟨A1, c1, rfl, _⟩ := ho.cs.form
  rw [List.length_replicate] at HO ⊢
  have r0 : w1.cell? ⟨w.heap.size + 1, 0, none⟩ = some (.int .i64 0) := Blk.cell hG1 0
  have r1 : w1.cell? ⟨w.heap.size + 1, 1, none⟩ = some (.int .i64 0) := Blk.cell hG1 1
  have r2 : w1.cell? ⟨w.heap.size + 1, 2, none⟩ = some (.slice none 0 0) := Blk.cell hG1 2
  have s0 := Blk.free hG1 0
  have s1 := Blk.free hG1 1
  have s2 := Blk.free hG1 2
  have HF := Lib.hid (gput_box hG1 r c (.slice A1 n c1))
  have HO2 : Hid (OwnCs (gput w1 (w.heap.size + 1) r c (.slice A1 n c1)) (w.heap.size + 2) (.slice A1 n c1) (List.replicate n (blank a))) := Lib.hid (gput_own HO.out (by omega) _ _ _)
  have HB2 : Hid (Below w.heap.size w (gput w1 (w.heap.size + 1) r c (.slice A1 n c1))) := Lib.hid (gput_below HB.out (by omega) _ _ _)
  clear hW hb ho hG1 HO HB
  go_wp2_with fail
  show bodyPost _ _ _ _ _ (gput w1 (w.heap.size + 1) r c (.slice A1 n c1))
  clear r0 r1 r2 s0 s1 s2
  generalize gput w1 (w.heap.size + 1) r c (.slice A1 n c1) = wF at HF HO2 HB2 ⊢
  have z0 : wF.cell? ⟨w.heap.size + 1, 0, none⟩ = some (.int .i64 r) := Blk.cell HF.out 0
  have z1 : wF.cell? ⟨w.heap.size + 1, 1, none⟩ = some (.int .i64 c) := Blk.cell HF.out 1
  have z2 : wF.cell? ⟨w.heap.size + 1, 2, none⟩ = some (.slice A1 n c1) := Blk.cell HF.out 2
  exact bodyPost_ret (v := .agg #[.int .i64 r, .int .i64 c, (.slice A1 n c1)]) (by simp [results, Tryd.results25, go_sem, z0, z1, z2]) rfl ⟨_, rfl, HO2.out.low (by omega), HB2.out⟩
set_option maxHeartbeats 1600000 in
theorem refGrid_any (G : Gr) (b : Bool) (x : Value) (w : World) (hx : Rm w x G.cells) (hs : Short G.cells) (hT : Tabs w) (hl : G.cells.length ≤ 1000000) (hb : b = true ↔ GridOk G) :
    Calls Tryd.prog 13 #[.agg #[.int .i64 G.rows, .int .i64 G.cols, x]] w fun e w' => e = .returned (.bool b) ∧ Below w.heap.size w w' := by
  obtain ⟨R, C, l⟩ := G
  obtain ⟨A, c, rfl, hroom⟩ := hx.2
  have hW : Below w.heap.size w (w.alloc (gbox R C (.slice A l.length c))) := (Below.refl w.heap.size w).alloc (Nat.le_refl _) _
  have HB := Lib.hid hW
  by_cases h1 : 1 ≤ R ∧ R ≤ 40
  · have HR := Lib.hid (fun w' => btw_at R 1 40 true (rngY h1) w')
    by_cases h2 : 1 ≤ C ∧ C ≤ 40
    · have HC := Lib.hid (fun w' => btw_at C 1 40 true (rngY h2) w')
      obtain ⟨R, rfl⟩ := Int.eq_ofNat_of_zero_le (show 0 ≤ R by omega)
      obtain ⟨C, rfl⟩ := Int.eq_ofNat_of_zero_le (show 0 ≤ C by omega)
      have hm : R * C ≤ 40 * 40 := Nat.mul_le_mul (by omega) (by omega)
      by_cases h3 : l.length = R * C
      · have hbi : b = true ↔ ∀ i, i < R → RowOk (rowAt l C i) := by
          rw [hb]
          constructor
          · intro h i hi
            have := h.2.2.2 i (show (i : Int) < (R : Int) by omega)
            rwa [show ((⟨(R : Int), (C : Int), l⟩ : Gr).cols.toNat) = C from Int.toNat_natCast C] at this
          · intro h
            refine ⟨h1, h2, ?_, fun i hi => ?_⟩
            · show ((l.length : Nat) : Int) = (R : Int) * (C : Int)
              rw [h3, Int.natCast_mul]
            · have hi : i < R := by have : (i : Int) < (R : Int) := hi; omega
              show RowOk (rowAt l ((C : Int).toNat) i)
              rw [Int.toNat_natCast]; exact h i hi
        have w0 : IntKind.i64.wrap ((R : Int) * (C : Int)) = (l.length : Int) := by rw [← Int.natCast_mul, ← h3, IntKind.wrap_i64]; omega
        have HX := Lib.hid hx
        have HS := Lib.hid hs
        have HT := Lib.hid hT
        have HBI := Lib.hid hbi
        have HH := Lib.hid (⟨h1, h2, h3, hm⟩ : (1 ≤ (R : Int) ∧ (R : Int) ≤ 40) ∧ (1 ≤ (C : Int) ∧ (C : Int) ≤ 40) ∧ l.length = R * C ∧ R * C ≤ 40 * 40)
        have HK : Hid ((w.alloc (gbox R C (.slice A l.length c))).heap[w.heap.size]? = some (gbox R C (.slice A l.length c))) := Lib.hid (new_alloc _ _ _ rfl)
        have hR40 : R ≤ 40 := by omega
        clear hb hbi hx hs hT hl hroom hW h1 h2 h3 hm
        go_enter Tryd.func13, Tryd.ntmps13
        go_wp2_with fail
        refine (HR.out _).mono ?_; rintro e wn ⟨rfl, rfl⟩
        go_wp2_with fail
        refine (HC.out _).mono ?_; rintro e wn ⟨rfl, rfl⟩
        go_wp2_with fail
        generalize w.alloc (gbox R C (.slice A l.length c)) = wa at HB HK ⊢
        have zk := Blk.lt HK.out
        go_loopw [3] (fun i wr => ∃ k : Nat, k ≤ R ∧ i = .int .i64 k ∧ Hid (∀ j, j < k → RowOk (rowAt l C j)) ∧ Hid (Below wa.heap.size wa wr)) (fun i _ => R - (intOf i).toNat)
        case atStart => exact ⟨0, by omega, rfl, Lib.hid fun j hj => absurd hj (by omega), Lib.hid (Below.refl _ _)⟩
        case round =>
          obtain ⟨k, hk, rfl, HRO, HBL⟩ := hrel
          have HBW : Hid (Below w.heap.size w wr) := Lib.hid (HB.out.trans (HBL.out.mono HB.out.size))
          have hkk := Blk.kept HK.out HBL.out
          have c0 : wr.cell? ⟨w.heap.size, 0, none⟩ = some (.int .i64 R) := Blk.cell hkk 0
          have c1 : wr.cell? ⟨w.heap.size, 1, none⟩ = some (.int .i64 C) := Blk.cell hkk 1
          have c2 : wr.cell? ⟨w.heap.size, 2, none⟩ = some (.slice A l.length c) := Blk.cell hkk 2
          have zr := Blk.lt hkk
          clear hkk
          by_cases hlt : k < R
          · have hi1 : (k + 1) * C ≤ l.length := by rw [HH.out.2.2.1]; exact Nat.mul_le_mul_right _ hlt
            have hsm : (k + 1) * C ≤ 40 * 40 := Nat.le_trans hi1 (by rw [HH.out.2.2.1]; exact HH.out.2.2.2)
            obtain ⟨A', c', hs, hm⟩ := HX.out.row C k hi1 _ _ rfl rfl
            have HM := Lib.hid hm
            have hrl : (rowAt l C k).length ≤ 1000000 := by unfold rowAt; rw [List.length_take]; have := HH.out.2.1.2; omega
            have hsh : Short (rowAt l C k) := fun j hj => by
              have e : g (rowAt l C k) j = g l (k * C + j) := by
                unfold rowAt at hj ⊢
                rw [List.length_take] at hj
                rw [g_take (by omega), g_drop]
              rw [e]
              refine HS.out _ ?_
              unfold rowAt at hj
              rw [List.length_take, List.length_drop] at hj
              omega
            obtain ⟨i1, hi1'⟩ : ∃ q, k + 1 = q := ⟨_, rfl⟩
            have hle : k * C ≤ i1 * C := Nat.mul_le_mul_right _ (by omega)
            rw [hi1'] at hs hi1 hsm
            obtain ⟨p, hp⟩ : ∃ q, k * C = q := ⟨_, rfl⟩
            obtain ⟨q, hq⟩ : ∃ q, i1 * C = q := ⟨_, rfl⟩
            have w1 : IntKind.i64.wrap ((k : Int) + 1) = (i1 : Int) := by rw [IntKind.wrap_i64]; omega
            have w2 : IntKind.i64.wrap ((k : Int) * (C : Int)) = (p : Int) := by rw [← Int.natCast_mul, hp, IntKind.wrap_i64]; omega
            have w3 : IntKind.i64.wrap ((i1 : Int) * (C : Int)) = (q : Int) := by rw [← Int.natCast_mul, hq, IntKind.wrap_i64]; omega
            rw [hp, hq] at hs
            have HI1 := Lib.hid hi1'
            clear hp hq hi1 hi1' hm hsm hle
            by_cases hok : RowOk (rowAt l C k)
            · have HCALL := Lib.hid (refRow_any (rowAt l C k) true _ _ (HM.out.kept HBW.out).cs hsh (HT.out.kept HBW.out) hrl ⟨fun _ => hok, fun _ => rfl⟩)
              have HOK := Lib.hid hok
              clear hok hsh hrl
              go_wp2_with fail
              refine HCALL.out.mono ?_; rintro e w5 ⟨rfl, hb⟩
              have HB5 := Lib.hid (HBL.out.trans (hb.mono HBL.out.size))
              clear hb
              go_wp2_with fail
              go_roundw
              case rel => exact ⟨i1, by have := HI1.out; omega, rfl, Lib.hid (fun j hj => by
                have := HI1.out
                by_cases e : j = k
                · subst e; exact HOK.out
                · exact HRO.out j (by omega)), HB5⟩
              case measure => have := HI1.out; simp [intOf]; omega
            · have HCALL := Lib.hid (refRow_any (rowAt l C k) false _ _ (HM.out.kept HBW.out).cs hsh (HT.out.kept HBW.out) hrl ⟨(fun h => by cases h), fun h => absurd h hok⟩)
              have hbf : b = false := by
                cases hb : b
                · rfl
                · exact absurd (HBI.out.1 hb k hlt) hok
              have HBF := Lib.hid hbf
              clear hok hsh hrl hbf
              go_wp2_with fail
              refine HCALL.out.mono ?_; rintro e w5 ⟨rfl, hb⟩
              have HB5 := Lib.hid (HBW.out.trans (hb.mono HBW.out.size))
              clear hb
              go_wp2_with fail
              go_ret
              exact ⟨by rw [HBF.out]; rfl, HB5.out⟩
          · have hbt : b = true := HBI.out.2 fun j hj => HRO.out j (by omega)
            have HBT := Lib.hid hbt
            clear hbt
            go_wp2_with fail
            go_ret
            exact ⟨by rw [HBT.out]; rfl, HBW.out⟩
      · have hbf : b = false := by
          cases b
          · rfl
          · have := (hb.1 rfl).2.2.1
            have h4 : ((l.length : Nat) : Int) = (R : Int) * (C : Int) := this
            rw [← Int.natCast_mul] at h4
            omega
        subst hbf
        obtain ⟨m, hmm⟩ : ∃ q, R * C = q := ⟨_, rfl⟩
        have w0 : IntKind.i64.wrap ((R : Int) * (C : Int)) = (m : Int) := by rw [← Int.natCast_mul, hmm, IntKind.wrap_i64]; omega
        have hne : ((l.length : Int) == (m : Int)) = false := by rw [beq_eq_false_iff_ne]; omega
        have hne2 : (l.length == m) = false := by rw [beq_eq_false_iff_ne]; omega
        clear h1 h2 hb hx hs hT hl hroom hW h3 hm hmm
        go_enter Tryd.func13, Tryd.ntmps13
        go_wp2_with fail
        refine (HR.out _).mono ?_; rintro e wn ⟨rfl, rfl⟩
        go_wp2_with fail
        refine (HC.out _).mono ?_; rintro e wn ⟨rfl, rfl⟩
        go_wp2_with fail
        go_ret
        exact ⟨rfl, HB.out⟩
    · have HC := Lib.hid (fun w' => btw_at C 1 40 false (rngN h2) w')
      have hbf : b = false := by
        cases b
        · rfl
        · exact absurd (hb.1 rfl).2.1 h2
      subst hbf
      clear h1 h2 hb hx hs hT hl hroom hW
      go_enter Tryd.func13, Tryd.ntmps13
      go_wp2_with fail
      refine (HR.out _).mono ?_; rintro e wn ⟨rfl, rfl⟩
      go_wp2_with fail
      refine (HC.out _).mono ?_; rintro e wn ⟨rfl, rfl⟩
      go_wp2_with fail
      go_ret
      exact ⟨rfl, HB.out⟩
  · have HR := Lib.hid (fun w' => btw_at R 1 40 false (rngN h1) w')
    have hbf : b = false := by
      cases b
      · rfl
      · exact absurd (hb.1 rfl).1 h1
    subst hbf
    clear h1 hb hx hs hT hl hroom hW
    go_enter Tryd.func13, Tryd.ntmps13
    go_wp2_with fail
    refine (HR.out _).mono ?_; rintro e wn ⟨rfl, rfl⟩
    go_wp2_with fail
    go_ret
    exact ⟨rfl, HB.out⟩
end Row
end
section
open Go.RowKit
set_option maxHeartbeats 400000 in
theorem eqNumbers_any {u v : Value} (n m : Nat) (xs ys : List Int) (w : World) (hx : Src w u n (ints xs)) (hy : Src w v m (ints ys)) (hn : n ≤ 1000000000) (hm : m ≤ 1000000000) :
    Calls Tryd.prog 27 #[u, v] w fun e w' => e = .returned (.bool (decide (xs = ys))) ∧ ∃ q, w' = w.drewN q := by
  have lx : xs.length = n := by have := hx.len; rwa [ints_length] at this
  have ly : ys.length = m := by have := hy.len; rwa [ints_length] at this
  obtain ⟨A, c, rfl, ha⟩ := hx.form
  obtain ⟨A', c', rfl, hb⟩ := hy.form
  by_cases hnm : n = m
  · subst hnm
    have ha' := Lib.hid ha
    have hb' := Lib.hid hb
    have lx' := Lib.hid lx
    have ly' := Lib.hid ly
    clear ha hb hx hy lx ly
    go_enter Tryd.func27, Tryd.ntmps27
    go_wp2_with fail
    go_loopw [5] (fun i wr => ∃ k q : Nat, k ≤ n ∧ i = .int .i64 k ∧ Alike xs ys k ∧ wr = w.drewN q) (fun i _ => n - (intOf i).toNat)
    case atStart => exact ⟨0, 0, by omega, rfl, fun j h => by omega, rfl⟩
    case round =>
      obtain ⟨k, q, hk, rfl, hal, rfl⟩ := hrel
      by_cases hlt : k < n
      · obtain ⟨ad, rfl, h1⟩ := ha'.out k hlt
        obtain ⟨ad', rfl, h2⟩ := hb'.out k hlt
        rw [ints_get (by rw [lx'.out]; exact hlt)] at h1
        rw [ints_get (by rw [ly'.out]; exact hlt)] at h2
        by_cases he : xs.getD k 0 = ys.getD k 0
        · have HA := Lib.hid (hal.succ he)
          rw [← he] at h2
          clear he
          generalize xs.getD k 0 = p at h1 h2
          go_wp2_with fail
          go_quiet (fail)
          go_wp2_with fail
          go_roundw
          case rel => exact ⟨k + 1, _, by omega, by go_num, HA.out, rfl⟩
          case measure => simp [intOf]; omega
        · have HF : Hid (decide (xs = ys) = false) := Lib.hid (decide_eq_false fun e => he (by rw [e]))
          have hb1 : (xs.getD k 0 != ys.getD k 0) = true := by rw [bne_iff_ne]; exact he
          clear he
          generalize xs.getD k 0 = p at h1 hb1
          generalize ys.getD k 0 = p' at h2 hb1
          go_wp2_with fail
          go_quiet (fail)
          go_wp2_with fail
          go_ret
          exact ⟨ret_bool HF.out.symm, _, World.drewN_drewN _ _ _⟩
      · have HF : Hid (decide (xs = ys) = true) := Lib.hid (decide_eq_true (eq_of_getD (by rw [lx'.out, ly'.out]) fun j hj => hal j (by have := lx'.out; omega)))
        go_wp2_with fail
        go_ret
        exact ⟨ret_bool HF.out.symm, _, rfl⟩
  · have hb1 : ((n : Int) != (m : Int)) = true := by rw [bne_iff_ne]; omega
    have HF : Hid (decide (xs = ys) = false) := Lib.hid (decide_eq_false fun e => by subst e; omega)
    clear ha hb hx hy lx ly hnm
    go_enter Tryd.func27, Tryd.ntmps27
    go_wp2_with fail
    go_ret
    exact ⟨ret_bool HF.out.symm, 0, rfl⟩
theorem eqNumbers_same {u v : Value} (n m : Nat) (xs ys : List Int) (w : World) (hx : Src w u n (ints xs)) (hy : Src w v m (ints ys)) (he : xs = ys) (hn : n ≤ 1000000000) :
    Calls Tryd.prog 27 #[u, v] w fun e w' => e = .returned (.bool true) ∧ ∃ q, w' = w.drewN q := by
  have hm : m ≤ 1000000000 := by
    have h1 := hx.1; have h2 := hy.1
    rw [ints_length] at h1 h2
    subst he; omega
  refine (eqNumbers_any n m xs ys w hx hy hn hm).mono fun e w' h => ⟨by rw [h.1]; simp [he], h.2⟩
def Shapes (w w' : World) : Prop := ∀ (k : Nat) (cs : Array Value) (t : TypeId) (fr : Nat × Nat), w.heap[k]? = some (.cells cs t fr) → ∃ cs', w'.heap[k]? = some (.cells cs' t fr) ∧ cs'.size = cs.size
theorem Shapes.refl (w : World) : Shapes w w := fun _ cs _ _ h => ⟨cs, h, rfl⟩
theorem Shapes.trans {a b c : World} (h : Shapes a b) (k : Shapes b c) : Shapes a c := fun i cs t fr e => by
  obtain ⟨cs', e', h'⟩ := h i cs t fr e
  obtain ⟨cs'', e'', h''⟩ := k i cs' t fr e'
  exact ⟨cs'', e'', h''.trans h'⟩
theorem Shapes.drewN {a b : World} (h : Shapes a b) (q : Nat) : Shapes a (b.drewN q) := h
theorem Shapes.setCell {a b : World} (h : Shapes a b) (p : Addr) (u : Value) : Shapes a (b.setCell p u) := h.trans fun k cs t fr e => by
  by_cases hk : k = p.block
  · subst hk
    refine ⟨if p.spot.isSome = true then cs else cs.setIfInBounds p.off u, ?_, by split <;> simp⟩
    simp [World.setCell, Array.getElem?_modify, e]
  · exact ⟨cs, by rw [Below.heap_setCell b p u k hk]; exact e, rfl⟩
theorem Shapes.owned {w w' : World} (h : Shapes w w') {base C : Nat} {e : TypeId} {v : Value} {n : Nat} {xs : List Value} (ho : w.ownsRow base e C v n xs) : ∃ ys, w'.ownsRow base e C v n ys := by
  rcases ho.2 with ⟨rfl, h0⟩ | ⟨g, cap, cur, rfl, hb, hg, hc, hm, hs, ht⟩
  · exact ⟨[], by simp [h0], .inl ⟨rfl, h0⟩⟩
  · obtain ⟨cs', e', hs'⟩ := h g cur e (0, 0) hg
    refine ⟨cs'.toList.take (n * C), ?_, .inr ⟨g, cap, cs', rfl, hb, e', hc, hm, by rw [hs', hs], rfl⟩⟩
    rw [List.length_take, Array.length_toList, hs', hs]
    exact Nat.min_eq_left (Nat.mul_le_mul_right _ hc)
end
section
open Go.RowKit
namespace Agb
structure Agg (t : TypeId) (n : Nat) : Prop where
  und : ∃ d, Tryd.prog.underlying t = some (.struct d)
  size : (Tryd.prog.info? t).map (·.size) = some n
theorem wp_loadA {t : TypeId} {n : Nat} (ht : Agg t n) {w : World} {ops : Array Oper} {rest : List Oper} {o : Oper} {a : Act} {Q : Exit → Act → World → Prop} {x : Operand} (hgd : Region.wanted o (yielded ops a.tmps) = true) (ho : o.op = .load t x)
    {b : Nat} {A : Array Value} {t' : TypeId} (hx : a.eval x = .pointer (some ⟨b, 0, none⟩)) (h : w.heap[b]? = some (.cells A t' (0, 0))) (hA : A.size = n) (k : wpList Tryd.prog ops Q rest (a.put o.dst (.agg A)) w) : wpList Tryd.prog ops Q (o :: rest) a w := by
  refine wpList_step fun K hK => ?_
  rw [if_pos hgd]
  obtain ⟨d, hu⟩ := ht.und
  exact wp_load_row t x ho b hx _ _ (0, 0) _ h hu rfl (by rw [hA]; exact ht.size) (hK _ _ k)
structure Sto (t : TypeId) (w : World) (b : Nat) (A : Array Value) (w' : World) : Prop where
  box : w'.heap[b]? = some (.cells A t (0, 0))
  other : ∀ i, i ≠ b → w'.heap[i]? = w.heap[i]?
  size : w'.heap.size = w.heap.size
  below : ∀ (B : Nat) (u : World), B ≤ b → Below B u w → Below B u w'
theorem wp_storeA {t : TypeId} {n : Nat} (ht : Agg t n) {w : World} {ops : Array Oper} {rest : List Oper} {o : Oper} {a : Act} {Q : Exit → Act → World → Prop} {x y : Operand} {T : World → Prop} {b : Nat} {A old : Array Value} (hgd : Region.wanted o (yielded ops a.tmps) = true) (ho : o.op = .store t x y)
    (hx : a.eval x = .pointer (some ⟨b, 0, none⟩)) (hy : a.eval y = .agg A) (hA : A.size = n) (hA1 : A.all (·.oneCell') = true) (hg : w.heap[b]? = some (.cells old t (0, 0))) (hold : old.size = n)
    (hT : ∀ w', Sto t w b A w' → T w') (k : ∀ w', Hid (T w') → wpList Tryd.prog ops Q rest (a.put o.dst undef) w') : wpList Tryd.prog ops Q (o :: rest) a w := by
  refine wpList_step fun K hK => ?_
  rw [if_pos hgd]
  refine wp_store_row t x y ho b A hx hy _ old hg (by rw [hA]; exact ht.size) (by rw [hA, hold]) hA1 (hK _ _ (k _ (Lib.hid (hT _ ⟨setRow_heap _ _ _ _ _ _ hg, fun i hi => setRow_other _ _ _ _ hi, size_setRow _ _ _, fun B u hB h => below_setRow h hB _⟩))))
theorem Sto.drew {t : TypeId} {w w' : World} {b : Nat} {A : Array Value} (h : Sto t w b A w') : Sto t w b A w'.drew := ⟨h.box, h.other, h.size, fun B u hB hb => (h.below B u hB hb).drew⟩
theorem step_storeA {t : TypeId} {n : Nat} (ht : Agg t n) {w : World} {ops : Array Oper} {o : Oper} {a : Act} {K : Act → World → Prop} {Q : Exit → Act → World → Prop} {E : Prop} {x y : Operand} (hgd : o.guard = none) (ho : o.op = .store t x y)
    {b : Nat} {A old : Array Value} (hx : a.eval x = .pointer (some ⟨b, 0, none⟩)) (hy : a.eval y = .agg A) (hA : A.size = n) (hA1 : List.all A.toList (·.oneCell') = true) (hg : w.heap[b]? = some (.cells old t (0, 0))) (hold : old.size = n)
    (hK : ∀ w', Sto t w b A w' → K (a.put o.dst undef) w') : if Region.wanted o (yielded ops a.tmps) = true then Oper.wp Tryd.prog o a w K Q else E := by
  have hw : Region.wanted o (yielded ops a.tmps) = true := by simp [Region.wanted, hgd]
  rw [if_pos hw]
  exact wp_store_row t x y ho b A hx hy _ old hg (by rw [hA]; exact ht.size) (by rw [hA, hold]) (by rw [← Array.all_toList]; exact hA1) (hK _ ⟨setRow_heap _ _ _ _ _ _ hg, fun i hi => setRow_other _ _ _ _ hi, size_setRow _ _ _, fun B u hB h => below_setRow h hB _⟩)
theorem step_loadA {t : TypeId} {n : Nat} (ht : Agg t n) {w : World} {ops : Array Oper} {o : Oper} {a : Act} {K : Act → World → Prop} {Q : Exit → Act → World → Prop} {E : Prop} {x : Operand} (hgd : o.guard = none) (ho : o.op = .load t x)
    {b : Nat} {A : Array Value} {t' : TypeId} (hx : a.eval x = .pointer (some ⟨b, 0, none⟩)) (h : w.heap[b]? = some (.cells A t' (0, 0))) (hA : A.size = n) (hK : K (a.put o.dst (.agg A)) w) : if Region.wanted o (yielded ops a.tmps) = true then Oper.wp Tryd.prog o a w K Q else E := by
  have hw : Region.wanted o (yielded ops a.tmps) = true := by simp [Region.wanted, hgd]
  rw [if_pos hw]
  obtain ⟨d, hu⟩ := ht.und
  exact wp_load_row t x ho b hx _ _ (0, 0) _ h hu rfl (by rw [hA]; exact ht.size) hK
theorem ret1A {t : TypeId} {n : Nat} (ht : Agg t n) {fn : Func} {p : Tmp} (h : fn.results = #[.cell p t]) {tmps : Array Value} {w : World} {b : Nat} {A : Array Value} {t' : TypeId} (hp : tmps.getD p undef = .pointer (some ⟨b, 0, none⟩)) (hb : w.heap[b]? = some (.cells A t' (0, 0))) (hA : A.size = n) :
    (results fn tmps).run Tryd.prog w = .ok (.agg A) w := by
  obtain ⟨d, hu⟩ := ht.und
  exact results_cell_row h tmps w b _ _ (0, 0) _ hp hb hu rfl (by rw [hA]; exact ht.size)
theorem ret2A {t : TypeId} {n : Nat} (ht : Agg t n) {fn : Func} {p q : Tmp} (h : fn.results = #[.cell p t, .tmp q]) {tmps : Array Value} {w : World} {b : Nat} {A : Array Value} {t' : TypeId} {v : Value} (hp : tmps.getD p undef = .pointer (some ⟨b, 0, none⟩)) (hb : w.heap[b]? = some (.cells A t' (0, 0))) (hA : A.size = n) (hq : tmps.getD q undef = v) :
    (results fn tmps).run Tryd.prog w = .ok (.tuple #[.agg A, v]) w := by
  obtain ⟨d, hu⟩ := ht.und
  have hp' : tmps[p]?.getD undef = .pointer (some ⟨b, 0, none⟩) := by simpa using hp
  have hq' : tmps[q]?.getD undef = v := by simpa using hq
  simp [results, h, hp', hq', asAddr, run_loadVar_row w b _ _ _ (0, 0) _ hb hu rfl (by rw [hA]; exact ht.size)]
theorem Sto.row {t : TypeId} {w w' : World} {b base : Nat} {A : Array Value} {v : Value} {e C n : Nat} {xs : List Value} (h : Sto t w b A w') (ho : w.ownsRow base e C v n xs) (hb : b < base) : w'.ownsRow base e C v n xs := by
  refine ⟨ho.1, ?_⟩
  rcases ho.2 with h0 | ⟨g, cap, cur, hv, hg, hc, rest⟩
  · exact .inl h0
  · exact .inr ⟨g, cap, cur, hv, hg, (h.other g (by omega)).trans hc, rest⟩
theorem row_set {w : World} {base g : Nat} {v : Value} {e C n : Nat} {xs : List Value} (h : w.ownsRow base e C v n xs) (hg : g < base) (j : Nat) (u : Value) : (w.setCell ⟨g, j, none⟩ u).ownsRow base e C v n xs := by
  refine ⟨h.1, ?_⟩
  rcases h.2 with h0 | ⟨b, cap, cur, hv, hb, hk, rest⟩
  · exact .inl h0
  · exact .inr ⟨b, cap, cur, hv, hb, Blk.other hk (by omega) j u, rest⟩
end Agb
end
end Go.Proofs.YtjcfbeiljdohcaaDoor
