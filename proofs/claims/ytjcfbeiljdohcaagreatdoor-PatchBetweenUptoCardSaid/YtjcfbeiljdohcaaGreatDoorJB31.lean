/- Joined texts: PatRefB. -/
import Derived.Test.YtjcfbeiljdohcaaGreatDoorJB30
namespace Go.Proofs.YtjcfbeiljdohcaaGreatDoor
set_option maxRecDepth 100000
section
open Go.RowKit
namespace Pat
open Go.Proofs.YtjcfbeiljdohcaaGreatDoor.Row Go.Proofs.YtjcfbeiljdohcaaGreatDoor.Scr Agb
noncomputable def diffTo (a b : List (List Cl)) (k : Nat) : List Nat := (List.range k).filter fun i => @decide (rowOf a i ≠ rowOf b i) (Classical.propDecidable _)
theorem diffTo_all (a b : List (List Cl)) : diffTo a b b.length = diff a b := rfl
theorem diffTo_same {a b : List (List Cl)} {k : Nat} (h : rowOf a k = rowOf b k) : diffTo a b (k + 1) = diffTo a b k := by
  unfold diffTo
  rw [List.range_succ, List.filter_append, List.filter_cons, @decide_eq_false _ (Classical.propDecidable _) (fun q => q h)]
  simp
theorem diffTo_other {a b : List (List Cl)} {k : Nat} (h : rowOf a k ≠ rowOf b k) : diffTo a b (k + 1) = diffTo a b k ++ [k] := by
  unfold diffTo
  rw [List.range_succ, List.filter_append, List.filter_cons, @decide_eq_true _ (Classical.propDecidable _) h]
  simp
noncomputable def betTo (b : Vw) (R C : Nat) (rs ss : List (List Cl)) (k : Nat) : Pt := ⟨R, C, false, ofN (diffTo rs ss k), ((diffTo rs ss k).map (rowOf ss)).flatten, b.row, b.col, b.modes, b.title⟩
theorem ofN_snoc (l : List Nat) (k : Nat) : ofN (l ++ [k]) = ofN l ++ [(k : Int)] := by unfold ofN; simp
theorem diffTo_len (a b : List (List Cl)) (k : Nat) : (diffTo a b k).length ≤ k := by
  unfold diffTo
  have := List.length_filter_le (fun i => @decide (rowOf a i ≠ rowOf b i) (Classical.propDecidable _)) (List.range k)
  rw [List.length_range] at this; exact this
theorem diffTo_flat {R C : Nat} {rs ss : List (List Cl)} (hs : Rws R C ss) (k : Nat) (hk : k ≤ R) : (((diffTo rs ss k).map (rowOf ss)).flatten).length ≤ 1600 := by
  have he : Even C ((diffTo rs ss k).map (rowOf ss)) := by
    intro r hr
    obtain ⟨i, hi, rfl⟩ := List.mem_map.1 hr
    unfold diffTo at hi
    have := (List.mem_filter.1 hi).1
    rw [List.mem_range] at this
    exact hs.rlen (by omega)
  rw [even_length he, List.length_map]
  have h1 := diffTo_len rs ss k
  have := hs.r40; have := hs.c40
  exact Nat.le_trans (Nat.mul_le_mul (show _ ≤ 40 by omega) (show C ≤ 40 by omega)) (by decide)
set_option maxHeartbeats 6400000 in
theorem refBetween_t (R C R' C' : Nat) (p1 q1 m1 p2 q2 m2 : Int) (T1 : ByteArray) (t2 : List UInt8) (rs ss : List (List Cl)) (l1 l2 : List Cl) (Ax Ay : Option Addr) (cx cy : Nat) (bt : Pt) (w : World) (hx : Rm w (.slice Ax l1.length cx) l1) (hy : Rm w (.slice Ay l2.length cy) l2)
    (hl1 : rs.flatten = l1) (hl2 : ss.flatten = l2) (hr : Rws R C rs) (hs : Rws R' C' ss)
    (hno : ¬ (R = R' ∧ C = C') → bt = ⟨R', C', true, [], l2, p2, q2, m2, t2⟩) (hyes : R = R' → C = C' → bt = ⟨R', C', false, ofN (diff rs ss), ((diff rs ss).map (rowOf ss)).flatten, p2, q2, m2, t2⟩) :
    Calls Tryz.prog 15 #[.agg #[.int .i64 R, .int .i64 C, .slice Ax l1.length cx, .int .i64 p1, .int .i64 q1, .int .i64 m1, .string T1], .agg #[.int .i64 R', .int .i64 C', .slice Ay l2.length cy, .int .i64 p2, .int .i64 q2, .int .i64 m2, .string ⟨t2.toArray⟩]] w fun e w' => ∃ u v, e = .returned (pagg bt u v) ∧ OwnN w' w.heap.size u bt.at_ ∧ OwnCs w' w.heap.size v bt.cells ∧ Below w.heap.size w w' := by
  have hal : l1.length ≤ 1600 := by rw [← hl1]; exact hr.small
  have hbl : l2.length ≤ 1600 := by rw [← hl2]; exact hs.small
  have HL1 := Lib.hid hl1
  have HL2 := Lib.hid hl2
  have HX := Lib.hid hx
  have HY := Lib.hid hy
  have HR := Lib.hid hr
  have HS := Lib.hid hs
  have HNO := Lib.hid hno
  have HYES := Lib.hid hyes
  have HWH := Lib.hid (fun W (k : Cs W (.slice Ay l2.length cy) l2) => refWhole_t R' C' p2 q2 m2 ⟨t2.toArray⟩ l2 (.slice Ay l2.length cy) W k (by omega))
  have HSM := Lib.hid (fun W => same_t R C p1 q1 m1 R' C' p2 q2 m2 T1 ⟨t2.toArray⟩ (.slice Ax l1.length cx) (.slice Ay l2.length cy) W)
  clear hx hy hr hs hno hyes hl1 hl2
  go_enter Tryz.func15, Tryz.ntmps15
  go_wp2_with fail
  have hW := (((Below.refl w.heap.size w).alloc (Nat.le_refl _) (.cells #[.int .i64 R, .int .i64 C, .slice Ax l1.length cx, .int .i64 p1, .int .i64 q1, .int .i64 m1, .string T1] 31 (0, 0))).alloc (by simp) (.cells #[.int .i64 R', .int .i64 C', .slice Ay l2.length cy, .int .i64 p2, .int .i64 q2, .int .i64 m2, .string ⟨t2.toArray⟩] 31 (0, 0))).alloc (by simp; omega) (pbox noP nilS nilS)
  refine (HWH.out _ (HY.out.kept hW).cs).mono ?_; rintro e w1 ⟨y1, rfl, ho, hb⟩
  obtain ⟨A1, ca, rfl⟩ := own_shape ho
  have HB1 := Lib.hid (hW.trans (hb.mono hW.size))
  have h0 : w1.heap[w.heap.size]? = some (.cells #[.int .i64 R, .int .i64 C, .slice Ax l1.length cx, .int .i64 p1, .int .i64 q1, .int .i64 m1, .string T1] 31 (0, 0)) := Blk.kept (old_alloc (old_alloc (new_alloc _ _ _ rfl) _) _) hb
  have h1 : w1.heap[w.heap.size + 1]? = some (.cells #[.int .i64 R', .int .i64 C', .slice Ay l2.length cy, .int .i64 p2, .int .i64 q2, .int .i64 m2, .string ⟨t2.toArray⟩] 31 (0, 0)) := Blk.kept (old_alloc (new_alloc _ _ _ (by simp)) _) hb
  have h2 : w1.heap[w.heap.size + 1 + 1]? = some (pbox noP nilS nilS) := Blk.kept (new_alloc _ _ _ (by simp)) hb
  have H0 : Hid ((w1.alloc (.cells #[.int .i64 R', .int .i64 C', .bool true, .slice none 0 0, .slice A1 l2.length ca, .int .i64 p2, .int .i64 q2, .int .i64 m2, .string ⟨t2.toArray⟩] 36)).heap[w.heap.size]? = some (.cells #[.int .i64 R, .int .i64 C, .slice Ax l1.length cx, .int .i64 p1, .int .i64 q1, .int .i64 m1, .string T1] 31 (0, 0))) := Lib.hid (old_alloc h0 _)
  have H1 : Hid ((w1.alloc (.cells #[.int .i64 R', .int .i64 C', .bool true, .slice none 0 0, .slice A1 l2.length ca, .int .i64 p2, .int .i64 q2, .int .i64 m2, .string ⟨t2.toArray⟩] 36)).heap[w.heap.size + 1]? = some (.cells #[.int .i64 R', .int .i64 C', .slice Ay l2.length cy, .int .i64 p2, .int .i64 q2, .int .i64 m2, .string ⟨t2.toArray⟩] 31 (0, 0))) := Lib.hid (old_alloc h1 _)
  have H2 : Hid ((w1.alloc (.cells #[.int .i64 R', .int .i64 C', .bool true, .slice none 0 0, .slice A1 l2.length ca, .int .i64 p2, .int .i64 q2, .int .i64 m2, .string ⟨t2.toArray⟩] 36)).heap[w.heap.size + 1 + 1]? = some (pbox noP nilS nilS)) := Lib.hid (old_alloc h2 _)
  have H3 : Hid ((w1.alloc (.cells #[.int .i64 R', .int .i64 C', .bool true, .slice none 0 0, .slice A1 l2.length ca, .int .i64 p2, .int .i64 q2, .int .i64 m2, .string ⟨t2.toArray⟩] 36)).heap[w1.heap.size]? = some (.cells #[.int .i64 R', .int .i64 C', .bool true, .slice none 0 0, .slice A1 l2.length ca, .int .i64 p2, .int .i64 q2, .int .i64 m2, .string ⟨t2.toArray⟩] 36 (0, 0))) := Lib.hid (new_alloc _ _ _ rfl)
  have HL3 : Hid (w.heap.size + 1 + 1 < w1.heap.size) := Lib.hid (Blk.lt h2)
  have HO1 : Hid (OwnCs (w1.alloc (.cells #[.int .i64 R', .int .i64 C', .bool true, .slice none 0 0, .slice A1 l2.length ca, .int .i64 p2, .int .i64 q2, .int .i64 m2, .string ⟨t2.toArray⟩] 36)) (w.heap.size + 3) (.slice A1 l2.length ca) l2) := Lib.hid (row_kept (ho.low (by simp)) ((Below.refl _ _).alloc (Nat.le_refl _) _))
  have HB2 : Hid (Below w.heap.size w (w1.alloc (.cells #[.int .i64 R', .int .i64 C', .bool true, .slice none 0 0, .slice A1 l2.length ca, .int .i64 p2, .int .i64 q2, .int .i64 m2, .string ⟨t2.toArray⟩] 36))) := Lib.hid (HB1.out.alloc HB1.out.size _)
  clear hW hb ho h0 h1 h2 HB1
  go_upto_region 2 with (fail)
  generalize w1.alloc (.cells #[.int .i64 R', .int .i64 C', .bool true, .slice none 0 0, .slice A1 l2.length ca, .int .i64 p2, .int .i64 q2, .int .i64 m2, .string ⟨t2.toArray⟩] 36) = w2 at H0 H1 H2 H3 HO1 HB2 ⊢
  obtain ⟨b3, hb3⟩ : ∃ b, w1.heap.size = b := ⟨_, rfl⟩
  rw [hb3] at H3 HL3 ⊢
  clear hb3
  have c0 : w2.cell? ⟨w.heap.size, 0, none⟩ = some (.int .i64 R) := Blk.cell H0.out 0
  have c1 : w2.cell? ⟨w.heap.size, 1, none⟩ = some (.int .i64 C) := Blk.cell H0.out 1
  have c2 : w2.cell? ⟨w.heap.size, 2, none⟩ = some (.slice Ax l1.length cx) := Blk.cell H0.out 2
  have c3 : w2.cell? ⟨w.heap.size, 3, none⟩ = some (.int .i64 p1) := Blk.cell H0.out 3
  have c4 : w2.cell? ⟨w.heap.size, 4, none⟩ = some (.int .i64 q1) := Blk.cell H0.out 4
  have c5 : w2.cell? ⟨w.heap.size, 5, none⟩ = some (.int .i64 m1) := Blk.cell H0.out 5
  have c6 : w2.cell? ⟨w.heap.size, 6, none⟩ = some (.string T1) := Blk.cell H0.out 6
  have d0 : w2.cell? ⟨w.heap.size + 1, 0, none⟩ = some (.int .i64 R') := Blk.cell H1.out 0
  have d1 : w2.cell? ⟨w.heap.size + 1, 1, none⟩ = some (.int .i64 C') := Blk.cell H1.out 1
  have d2 : w2.cell? ⟨w.heap.size + 1, 2, none⟩ = some (.slice Ay l2.length cy) := Blk.cell H1.out 2
  have d3 : w2.cell? ⟨w.heap.size + 1, 3, none⟩ = some (.int .i64 p2) := Blk.cell H1.out 3
  have d4 : w2.cell? ⟨w.heap.size + 1, 4, none⟩ = some (.int .i64 q2) := Blk.cell H1.out 4
  have d5 : w2.cell? ⟨w.heap.size + 1, 5, none⟩ = some (.int .i64 m2) := Blk.cell H1.out 5
  have d6 : w2.cell? ⟨w.heap.size + 1, 6, none⟩ = some (.string ⟨t2.toArray⟩) := Blk.cell H1.out 6
  go_wp2_with fail
  refine (HSM.out _).mono ?_; rintro e w3 ⟨rfl, hb⟩
  have h0 := Blk.kept H0.out hb
  have h1 := Blk.kept H1.out hb
  have h2 := Blk.kept H2.out hb
  have h3 := Blk.kept H3.out hb
  have HO3 : Hid (OwnCs w3 (w.heap.size + 3) (.slice A1 l2.length ca) l2) := Lib.hid (row_kept HO1.out hb)
  have HB3 := Lib.hid (HB2.out.trans (hb.mono HB2.out.size))
  clear hb H0 H1 H2 H3 HO1 HB2 c0 c1 c2 c3 c4 c5 c6 d0 d1 d2 d3 d4 d5 d6
  have H0 := Lib.hid h0
  have H1 := Lib.hid h1
  have H2 := Lib.hid h2
  have H3 := Lib.hid h3
  clear h0 h1 h2 h3
  by_cases hsame : R = R' ∧ C = C'
  · obtain ⟨rfl, rfl⟩ := hsame
    obtain rfl := HYES.out rfl rfl
    have hee : ((R : Int) == (R : Int) && (C : Int) == (C : Int)) = true := by simp
    clear HNO HYES HSM HWH HO3
    have hlr : ss.length = R := HS.out.len
    have hdf : diff rs ss = diffTo rs ss R := by rw [← diffTo_all, hlr]
    have HDF := Lib.hid hdf
    clear hdf
    have z2 : w3.cell? ⟨b3, 2, none⟩ = some (.bool true) := Blk.cell H3.out 2
    have z4 : w3.cell? ⟨b3, 4, none⟩ = some (.slice A1 l2.length ca) := Blk.cell H3.out 4
    have y2 := Blk.free H3.out 2
    have y4 := Blk.free H3.out 4
    have HLT0 : Hid (w.heap.size < b3 ∧ w.heap.size + 1 < b3 ∧ w.heap.size + 1 + 1 < b3) := Lib.hid (by have := HL3.out; omega)
    have HBD : Hid (Bd w [(w.heap.size, .cells #[.int .i64 R, .int .i64 C, .slice Ax l1.length cx, .int .i64 p1, .int .i64 q1, .int .i64 m1, .string T1] 31 (0, 0)), (w.heap.size + 1, .cells #[.int .i64 R, .int .i64 C, .slice Ay l2.length cy, .int .i64 p2, .int .i64 q2, .int .i64 m2, .string ⟨t2.toArray⟩] 31 (0, 0)), (w.heap.size + 1 + 1, pbox noP nilS nilS)] b3 (⟨R, C, false, ofN (diffTo rs ss 0), ((diffTo rs ss 0).map (rowOf ss)).flatten, p2, q2, m2, t2⟩ : Pt) (.slice none 0 0) (.slice none 0 0) ((w3.setCell ⟨b3, 2, none⟩ (.bool false)).setCell ⟨b3, 4, none⟩ (.slice none 0 0))) := Lib.hid (by
      have h := HLT0.out
      refine ⟨(HB3.out.setCell (p := ⟨b3, 2, none⟩) (by show w.heap.size ≤ b3; omega) _).setCell (p := ⟨b3, 4, none⟩) (by show w.heap.size ≤ b3; omega) _, fun q hq => ?_, Blk.set (Blk.set H3.out 2 _) 4 _, OwnN.nil _ _, World.ownsRow_nil _ _ _ _, by omega⟩
      simp only [List.mem_cons, List.not_mem_nil, or_false] at hq
      rcases hq with rfl | rfl | rfl
      · exact ⟨Blk.other (Blk.other H0.out (by omega) _ _) (by omega) _ _, h.1⟩
      · exact ⟨Blk.other (Blk.other H1.out (by omega) _ _) (by omega) _ _, h.2.1⟩
      · exact ⟨Blk.other (Blk.other H2.out (by omega) _ _) (by omega) _ _, h.2.2⟩)
    clear H0 H1 H2 H3 HB3
    generalize (((R : Int) == (R : Int)) && ((C : Int) == (C : Int))) = sb at hee ⊢
    subst hee
    go_wp2_with fail
    clear z2 z4 y2 y4
    generalize ((w3.setCell ⟨b3, 2, none⟩ (.bool false)).setCell ⟨b3, 4, none⟩ (.slice none 0 0)) = w4 at HBD ⊢
    have hR40 : R ≤ 40 := HR.out.r40
    go_loopw [6] (fun i wr => ∃ (k : Nat) (u v : Value), k ≤ R ∧ i = .int .i64 k ∧ Hid (Bd w [(w.heap.size, .cells #[.int .i64 R, .int .i64 C, .slice Ax l1.length cx, .int .i64 p1, .int .i64 q1, .int .i64 m1, .string T1] 31 (0, 0)), (w.heap.size + 1, .cells #[.int .i64 R, .int .i64 C, .slice Ay l2.length cy, .int .i64 p2, .int .i64 q2, .int .i64 m2, .string ⟨t2.toArray⟩] 31 (0, 0)), (w.heap.size + 1 + 1, pbox noP nilS nilS)] b3 (⟨R, C, false, ofN (diffTo rs ss k), ((diffTo rs ss k).map (rowOf ss)).flatten, p2, q2, m2, t2⟩ : Pt) u v wr)) (fun i _ => R - (intOf i).toNat)
    case atStart => exact ⟨0, _, _, by omega, rfl, HBD⟩
    case round =>
      obtain ⟨k, u, v, hk, rfl, HD⟩ := hrel
      have HFL := Lib.hid (diffTo_flat (rs := rs) HS.out k hk)
      obtain ⟨dn, hdn⟩ : ∃ d, ofN (diffTo rs ss k) = d := ⟨_, rfl⟩
      obtain ⟨fl, hfl⟩ : ∃ d, ((diffTo rs ss k).map (rowOf ss)).flatten = d := ⟨_, rfl⟩
      have HLD : Hid (dn.length ≤ k) := Lib.hid (by rw [← hdn, ofN_length]; exact diffTo_len rs ss k)
      rw [hdn, hfl] at HD
      rw [hfl] at HFL
      have HDE := Lib.hid hdn
      have HFE := Lib.hid hfl
      clear hdn hfl
      have e0 : wr.cell? ⟨b3, 0, none⟩ = some (.int .i64 R) := Blk.cell HD.out.h3 0
      by_cases hlt : k < R
      · have hB1 := (HD.out.bs (w.heap.size + 1, .cells #[.int .i64 R, .int .i64 C, .slice Ay l2.length cy, .int .i64 p2, .int .i64 q2, .int .i64 m2, .string ⟨t2.toArray⟩] 31 (0, 0)) (by simp)).1
        have d0 : wr.cell? ⟨w.heap.size + 1, 0, none⟩ = some (.int .i64 R) := Blk.cell hB1 0
        have d1 : wr.cell? ⟨w.heap.size + 1, 1, none⟩ = some (.int .i64 C) := Blk.cell hB1 1
        have d2 : wr.cell? ⟨w.heap.size + 1, 2, none⟩ = some (.slice Ay l2.length cy) := Blk.cell hB1 2
        have HAY : Hid (Row.rowAt l2 C k = rowOf ss k) := Lib.hid (by rw [← HL2.out]; exact rowAt_flat HS.out.even (by rw [hlr]; exact hlt))
        have HAX : Hid (Row.rowAt l1 C k = rowOf rs k) := Lib.hid (by rw [← HL1.out]; exact rowAt_flat HR.out.even (by rw [HR.out.len]; exact hlt))
        have HCALL := Lib.hid (refAt_any R C k l2 (.slice Ay l2.length cy) wr HS.out.c40 (by omega) (by rw [← HL2.out, even_length HS.out.even, hlr]; exact Nat.mul_le_mul_right _ hlt) (HY.out.kept HD.out.bel))
        have HCALX := Lib.hid (fun W (hW : Below w.heap.size w W) => refAt_any R C k l1 (.slice Ax l1.length cx) W HS.out.c40 (by omega) (by rw [← HL1.out, even_length HR.out.even, HR.out.len]; exact Nat.mul_le_mul_right _ hlt) (HX.out.kept hW))
        rw [HAY.out] at HCALL
        rw [HAX.out] at HCALX
        have hrl : (rowOf rs k).length = C := HR.out.rlen hlt
        have hsl : (rowOf ss k).length = C := HS.out.rlen hlt
        have HCL : Hid ((rowOf rs k).length ≤ 40 ∧ (rowOf ss k).length ≤ 40) := Lib.hid (by have := HS.out.c40; omega)
        have HSAME := Lib.hid (fun h => diffTo_same (a := rs) (b := ss) (k := k) h)
        have HOTH := Lib.hid (fun h => diffTo_other (a := rs) (b := ss) (k := k) h)
        obtain ⟨rk, hrk⟩ : ∃ r, rowOf rs k = r := ⟨_, rfl⟩
        obtain ⟨sk, hsk⟩ : ∃ r, rowOf ss k = r := ⟨_, rfl⟩
        rw [hrk] at HCALX HCL HSAME HOTH
        rw [hsk] at HCALL HCL HSAME HOTH
        have HSK := Lib.hid hsk
        clear hrl hsl HAY HAX hB1 hrk hsk
        go_wp2_with fail
        refine HCALL.out.mono ?_; rintro e w5 ⟨v1, rfl, ho1, hb⟩
        have HD5 := Lib.hid (HD.out.kept hb)
        have HUP := Lib.hid HD.out.up
        have HV1 : Hid (OwnCs w5 (b3 + 1) v1 sk) := Lib.hid (ho1.low HUP.out)
        clear ho1 hb HD d0 d1 d2 e0 HCALL
        have hB0 := (HD5.out.bs (w.heap.size, .cells #[.int .i64 R, .int .i64 C, .slice Ax l1.length cx, .int .i64 p1, .int .i64 q1, .int .i64 m1, .string T1] 31 (0, 0)) (by simp)).1
        have d0 : w5.cell? ⟨w.heap.size, 0, none⟩ = some (.int .i64 R) := Blk.cell hB0 0
        have d1 : w5.cell? ⟨w.heap.size, 1, none⟩ = some (.int .i64 C) := Blk.cell hB0 1
        have d2 : w5.cell? ⟨w.heap.size, 2, none⟩ = some (.slice Ax l1.length cx) := Blk.cell hB0 2
        clear hB0
        go_wp2_with fail
        refine (HCALX.out _ HD5.out.bel).mono ?_; rintro e w6 ⟨v2, rfl, ho2, hb⟩
        have HD6 := Lib.hid (HD5.out.kept hb)
        have HV6 : Hid (OwnCs w6 (b3 + 1) v1 sk) := Lib.hid (row_kept HV1.out hb)
        have HX6 := Lib.hid ho2
        clear ho2 hb HD5 HV1 d0 d1 d2 HCALX
        go_wp2_with fail
        by_cases hrs : rk = sk
        · refine (eqCells_is rk sk true ⟨fun _ => hrs, fun _ => rfl⟩ v2 v1 w6 HX6.out.cs HV6.out.cs (by have := HCL.out; omega)).mono ?_; rintro e w7 ⟨rfl, q, rfl⟩
          have HD7 := Lib.hid (HD6.out.drewN q)
          have HSM := Lib.hid (HSAME.out hrs)
          clear HD6 HV6 HX6 hrs HOTH HSAME
          go_wp2_with fail
          go_roundw
          case rel => exact ⟨k + 1, u, v, by omega, by go_num, by rw [HSM.out, HDE.out, HFE.out]; exact HD7⟩
          case measure => simp [intOf]; omega
        · refine (eqCells_is rk sk false ⟨fun h => (by cases h), fun h => absurd h hrs⟩ v2 v1 w6 HX6.out.cs HV6.out.cs (by have := HCL.out; omega)).mono ?_; rintro e w7 ⟨rfl, q, rfl⟩
          have HD7 := Lib.hid (HD6.out.drewN q)
          have HV7 : Hid (OwnCs (w6.drewN q) (b3 + 1) v1 sk) := HV6
          have HOT := Lib.hid (HOTH.out hrs)
          clear HD6 HV6 HX6 hrs HOTH HSAME
          generalize w6.drewN q = w7 at HD7 HV7 ⊢
          have e3 : w7.cell? ⟨b3, 3, none⟩ = some u := Blk.cell HD7.out.h3 3
          have HSR : Hid (∀ cap : Nat, Src (w7.alloc (.cells #[.int .i64 k] 3)) (.slice (some ⟨w7.heap.size, 0, none⟩) 1 cap) 1 (ints [(k : Int)])) := Lib.hid fun cap => Src.made w7 (ints [(k : Int)]) 3 1 cap rfl
          have HDA := Lib.hid (HD7.out.kept ((Below.refl _ _).alloc (Nat.le_refl _) (.cells #[.int .i64 k] 3)))
          have HVA : Hid (OwnCs (w7.alloc (.cells #[.int .i64 k] 3)) (b3 + 1) v1 sk) := Lib.hid (row_kept HV7.out ((Below.refl _ _).alloc (Nat.le_refl _) _))
          obtain ⟨Au, cu, rfl⟩ := own_shape HD7.out.on
          obtain ⟨Av, cv, rfl⟩ := own_shape HD7.out.oc
          have hon : OwnN (w7.alloc (.cells #[.int .i64 k] 3)) (b3 + 1) (.slice Au dn.length cu) dn := HDA.out.on
          clear HD7 HV7
          go_upto_region 11 with (at_builtin; refine wp_append_ints rfl rfl (b3 + 1) (.slice Au dn.length cu) _ dn rfl hon _ 1 [(k : Int)] rfl (HSR.out _) (by have := HLD.out; omega) HDA.out.up ?_; intro u' w9 ho9 hg9 hat9; have h9 := box_grown HDA.out.h3 hg9 HDA.out.on (Nat.lt_succ_self _); have z3 : w9.cell? ⟨b3, 3, none⟩ = some (.slice Au dn.length cu) := Blk.cell h9 3; have y3 := Blk.free h9 3; obtain ⟨A9, c9, rfl⟩ := own_shape ho9; have HDN : Hid (Bd w [(w.heap.size, .cells #[.int .i64 R, .int .i64 C, .slice Ax l1.length cx, .int .i64 p1, .int .i64 q1, .int .i64 m1, .string T1] 31 (0, 0)), (w.heap.size + 1, .cells #[.int .i64 R, .int .i64 C, .slice Ay l2.length cy, .int .i64 p2, .int .i64 q2, .int .i64 m2, .string ⟨t2.toArray⟩] 31 (0, 0)), (w.heap.size + 1 + 1, pbox noP nilS nilS)] b3 (⟨R, C, false, dn ++ [(k : Int)], fl, p2, q2, m2, t2⟩ : Pt) (.slice A9 (dn.length + 1) c9) (.slice Av fl.length cv) (w9.setCell ⟨b3, 3, none⟩ (.slice A9 (dn.length + 1) c9))) := Lib.hid (HDA.out.pushN (l := dn ++ [(k : Int)]) (by unfold OwnN; rw [List.length_append]; exact ho9) hg9); have HVN : Hid (OwnCs (w9.setCell ⟨b3, 3, none⟩ (.slice A9 (dn.length + 1) c9)) (b3 + 1) v1 sk) := Lib.hid (OwnCs.set (World.ownsRow.kept HVA.out hg9 (own_apart HVA.out HDA.out.on (by decide))) (Nat.lt_succ_self _) _ _); clear h9 ho9 hg9 hat9)
          clear z3 y3 e3 HSR HDA HVA hon
          generalize (w9.setCell ⟨b3, 3, none⟩ (.slice A9 (dn.length + 1) c9)) = w10 at HDN HVN ⊢
          have hoc : OwnCs w10 (b3 + 1) (.slice Av fl.length cv) fl := HDN.out.oc
          have e4 : w10.cell? ⟨b3, 4, none⟩ = some (.slice Av fl.length cv) := Blk.cell HDN.out.h3 4
          go_wp2_with (at_builtin; refine wp_append_cs rfl rfl (b3 + 1) (.slice Av fl.length cv) _ fl sk rfl hoc rfl HVN.out.cs (by have := HFL.out; have := HCL.out; omega) HDN.out.up ?_; intro v' w11 ho11 hg11 hat11; have h11 := box_grown HDN.out.h3 hg11 HDN.out.oc (Nat.lt_succ_self _); have z4 : w11.cell? ⟨b3, 4, none⟩ = some (.slice Av fl.length cv) := Blk.cell h11 4; have y4 := Blk.free h11 4; obtain ⟨A11, c11, rfl⟩ := own_shape ho11; rw [List.length_append] at ho11; have HDM : Hid (Bd w [(w.heap.size, .cells #[.int .i64 R, .int .i64 C, .slice Ax l1.length cx, .int .i64 p1, .int .i64 q1, .int .i64 m1, .string T1] 31 (0, 0)), (w.heap.size + 1, .cells #[.int .i64 R, .int .i64 C, .slice Ay l2.length cy, .int .i64 p2, .int .i64 q2, .int .i64 m2, .string ⟨t2.toArray⟩] 31 (0, 0)), (w.heap.size + 1 + 1, pbox noP nilS nilS)] b3 (⟨R, C, false, dn ++ [(k : Int)], fl ++ sk, p2, q2, m2, t2⟩ : Pt) (.slice A9 (dn.length + 1) c9) (.slice A11 (fl.length + sk.length) c11) (w11.setCell ⟨b3, 4, none⟩ (.slice A11 (fl.length + sk.length) c11))) := Lib.hid (HDN.out.pushC (l := fl ++ sk) ho11 hg11); clear h11 ho11 hg11 hat11 HDN HVN)
          go_roundw
          case rel => exact ⟨k + 1, (.slice A9 (dn.length + 1) c9), (.slice A11 (fl.length + sk.length) c11), by omega, by go_num, by rw [HOT.out, ofN_snoc, List.map_append, List.flatten_append, List.map_singleton, HSK.out, List.flatten_singleton, HDE.out, HFE.out]; exact HDM⟩
          case measure => simp [intOf]; omega
      · obtain rfl : k = R := by omega
        have HU : Hid (w.heap.size ≤ b3 + 1) := Lib.hid (by have := HLT0.out; omega)
        have hB2 := Lib.hid (HD.out.bs (w.heap.size + 1 + 1, pbox noP nilS nilS) (by simp)).1
        obtain ⟨Au, cu, rfl⟩ := own_shape HD.out.on
        obtain ⟨Av, cv, rfl⟩ := own_shape HD.out.oc
        have HD3 : Hid (wr.heap[b3]? = some (.cells #[.int .i64 k, .int .i64 C, .bool false, .slice Au dn.length cu, .slice Av fl.length cv, .int .i64 p2, .int .i64 q2, .int .i64 m2, .string ⟨t2.toArray⟩] 36 (0, 0))) := Lib.hid HD.out.h3
        go_upto_region 12 with (fail)
        clear e0
        go_wp2_with (first
          | (refine wp_loadP rfl rfl rfl HD3.out ?_)
          | (refine wp_storeP (T := fun w' => w'.heap[w.heap.size + 1 + 1]? = some (.cells #[.int .i64 k, .int .i64 C, .bool false, .slice Au dn.length cu, .slice Av fl.length cv, .int .i64 p2, .int .i64 q2, .int .i64 m2, .string ⟨t2.toArray⟩] 36 (0, 0)) ∧ OwnN w' (b3 + 1) (.slice Au dn.length cu) dn ∧ OwnCs w' (b3 + 1) (.slice Av fl.length cv) fl ∧ Below w.heap.size w w') rfl rfl rfl rfl rfl hB2.out (fun w' h => ⟨h.box, h.row HD.out.on (by have := HLT0.out; omega), h.row HD.out.oc (by have := HLT0.out; omega), h.below _ _ (by omega) HD.out.bel⟩) ?_; intro wF HF))
        have HEQ : Hid (ofN (diff rs ss) = dn ∧ ((diff rs ss).map (rowOf ss)).flatten = fl) := Lib.hid (by rw [HDF.out]; exact ⟨HDE.out, HFE.out⟩)
        refine bodyPost_ret (v := .agg #[.int .i64 k, .int .i64 C, .bool false, .slice Au dn.length cu, .slice Av fl.length cv, .int .i64 p2, .int .i64 q2, .int .i64 m2, .string ⟨t2.toArray⟩]) (ret1A aggPatch Tryz.results15 rfl HF.out.1 rfl) rfl ⟨_, _, rfl, by rw [HEQ.out.1]; exact HF.out.2.1.low HU.out, by rw [HEQ.out.2]; exact HF.out.2.2.1.low HU.out, HF.out.2.2.2⟩
  · obtain rfl := HNO.out hsame
    have hee : ((R : Int) == (R' : Int) && (C : Int) == (C' : Int)) = false := by
      cases q : ((R : Int) == (R' : Int) && (C : Int) == (C' : Int))
      · rfl
      · exact absurd (by simp at q; omega) hsame
    generalize ((R : Int) == (R' : Int) && (C : Int) == (C' : Int)) = sb at hee ⊢
    subst hee
    clear hsame HNO HYES
    go_wp2_with (first
      | (refine wp_loadP rfl rfl rfl H3.out ?_)
      | (refine wp_storeP (T := fun w' => w'.heap[w.heap.size + 1 + 1]? = some (.cells #[.int .i64 R', .int .i64 C', .bool true, .slice none 0 0, .slice A1 l2.length ca, .int .i64 p2, .int .i64 q2, .int .i64 m2, .string ⟨t2.toArray⟩] 36 (0, 0)) ∧ OwnCs w' (w.heap.size + 3) (.slice A1 l2.length ca) l2 ∧ Below w.heap.size w w') rfl rfl rfl rfl rfl H2.out (fun w' h => ⟨h.box, h.row HO3.out (by omega), h.below _ _ (by omega) HB3.out⟩) ?_; intro wF HF))
    refine bodyPost_ret (v := .agg #[.int .i64 R', .int .i64 C', .bool true, .slice none 0 0, .slice A1 l2.length ca, .int .i64 p2, .int .i64 q2, .int .i64 m2, .string ⟨t2.toArray⟩]) (ret1A aggPatch Tryz.results15 rfl HF.out.1 rfl) rfl ⟨_, _, rfl, OwnN.nil _ _, HF.out.2.1.low (by omega), HF.out.2.2⟩
theorem refBetween_any (a b : Vw) (x y : Value) (w : World) (hx : Rm w x a.g.cells) (hy : Rm w y b.g.cells) (ha : viewB a = true) (hb : viewB b = true) :
    Calls Tryz.prog 15 #[vagg a x, vagg b y] w fun e w' => ∃ u v, e = .returned (pagg (between a b) u v) ∧ OwnN w' w.heap.size u (between a b).at_ ∧ OwnCs w' w.heap.size v (between a b).cells ∧ Below w.heap.size w w' := by
  obtain ⟨_, R, C, rs, ea, hr⟩ := (viewB_iff a).1 ha
  obtain ⟨_, R', C', ss, eb, hs⟩ := (viewB_iff b).1 hb
  obtain ⟨Ax, cx, rfl, _⟩ := id hx.2
  obtain ⟨Ay, cy, rfl, _⟩ := id hy.2
  obtain ⟨⟨r1, k1, l1⟩, p1, q1, m1, t1⟩ := a
  obtain ⟨⟨r2, k2, l2⟩, p2, q2, m2, t2⟩ := b
  simp only [Gr.mk.injEq] at ea eb
  obtain ⟨rfl, rfl, rfl⟩ := ea
  obtain ⟨rfl, rfl, rfl⟩ := eb
  refine refBetween_t R C R' C' p1 q1 m1 p2 q2 m2 ⟨t1.toArray⟩ t2 rs ss rs.flatten ss.flatten Ax Ay cx cy _ w hx hy rfl rfl hr hs (fun h => ?_) fun e1 e2 => ?_
  · unfold between
    have : sameB ⟨⟨(R : Int), (C : Int), rs.flatten⟩, p1, q1, m1, t1⟩ ⟨⟨(R' : Int), (C' : Int), ss.flatten⟩, p2, q2, m2, t2⟩ = false := by
      cases q : sameB ⟨⟨(R : Int), (C : Int), rs.flatten⟩, p1, q1, m1, t1⟩ ⟨⟨(R' : Int), (C' : Int), ss.flatten⟩, p2, q2, m2, t2⟩
      · rfl
      · exact absurd ((same_rows rfl rfl).1 q) h
    rw [this]; rfl
  · subst e1; subst e2
    exact between_rows rfl rfl hr hs
end Pat
end
end Go.Proofs.YtjcfbeiljdohcaaGreatDoor
