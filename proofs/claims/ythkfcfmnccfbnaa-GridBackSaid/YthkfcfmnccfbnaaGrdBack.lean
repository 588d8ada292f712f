/- The law on grids moved up and down again. -/
import Derived.Test.YthkfcfmnccfbnaaGrdWakes
import Derived.Test.YthkfcfmnccfbnaaGrdDown
import Derived.Test.YthkfcfmnccfbnaaGrdResize
import Derived.Test.YthkfcfmnccfbnaaGrdEq
import Derived.Test.YthkfcfmnccfbnaaGrdHeld
import Derived.BigQuiet
namespace Go.Proofs.Ythkfcfmnccfbnaa
set_option maxRecDepth 100000
open Go.RowKit
namespace Row

def plainA : Look := ⟨-1, -1, 0⟩
set_option maxHeartbeats 8000000 in
theorem lawBack_ok {bnd : Nat} (R C : Nat) (rs : List (List Cl)) (x y : Value) (l : List Cl) (t : List ActG) (w : World) (h : Rws R C rs) (hle : rs.flatten = l) (hx : Rm w x l) (hy : Acts bnd w y t) (hn : l.length ≤ 140737488355328) (hm : t.length ≤ 140737488355328) :
    Calls Try.prog 3 #[.agg #[.int .i64 R, .int .i64 C, x, y]] w fun e w' => e = .returned (.bool true) ∧ Below w.heap.size w w' := by
  have hR1 := h.r1
  have hR40 := h.r40
  have hC1 := h.c1
  have hC40 := h.c40
  have hll : l.length = R * C := by rw [← hle, even_length h.even, h.len]
  have hm16 : R * C ≤ 1600 := Nat.mul_le_mul hR40 hC40
  have HX := Lib.hid hx
  have HY := Lib.hid hy
  have HHV := Lib.hid (fun w' (h1 : Rm w' x l) (h2 : Acts bnd w' y t) => heavy_any R C x y l t w' h1 h2 hn hm)
  have HCK := Lib.hid (fun w' (k : Rm w' x l) => gridCheck_any ⟨R, C, l⟩ true x w' k (by rw [← hle]; exact h.held) ⟨fun _ => by rw [← hle]; exact h.grid, fun _ => rfl⟩)
  have HUP := Lib.hid (fun (n : Nat) (hn : n ≤ R) w' (k : Rm w' x l) => up_fits R C rs plainA 0 (R - 1) n x w' h (by rw [hle]; exact k) h.held (by decide) (by omega) (by omega) (by omega))
  have HDN := Lib.hid (fun (n : Nat) (hn : n ≤ R) v w' (k : Rm w' v (moved rs 0 (R - 1) n C plainA).flatten) => down_fits R C (moved rs 0 (R - 1) n C plainA) plainA 0 (R - 1) n v w' (moved_rws h (by omega) _ (by decide)) k (moved_rws h (by omega) _ (by decide)).held (by decide) (by omega) (by omega) (by omega))
  have HRZ := Lib.hid (fun w' (k : Rm w' x l) => resize_fits R C R C rs plainA x w' h (by rw [hle]; exact k) h.held (by decide) hR1 hR40 hC1 hC40)
  have hfit : (Row.fitted rs R C plainA).flatten = l := by
    have : Row.fitted rs R C plainA = rs := by
      refine rows_ext (by unfold Row.fitted; rw [List.length_map, List.length_range, h.len]) fun i hi => ?_
      unfold Row.fitted at hi ⊢
      rw [List.length_map, List.length_range] at hi
      rw [rowOf_map _ hi, if_pos (by rw [h.len]; exact hi)]
      have := fit_same (l := rowOf rs i) plainA
      rwa [h.rlen hi] at this
    rw [this, hle]
  rw [hfit] at HRZ
  have HBC : Hid (∀ n, n ≤ R → (moved (moved rs 0 (R - 1) n C plainA) 0 (R - 1) (-(n : Int)) C plainA).flatten.length = l.length ∧ ∀ i, n * C ≤ i → i < l.length → g (moved (moved rs 0 (R - 1) n C plainA) 0 (R - 1) (-(n : Int)) C plainA).flatten i = g l i) := Lib.hid fun n _ => by
    have m1 := moved_rws h (top := 0) (bot := R - 1) (by omega) (n : Int) (a := plainA) (by decide)
    have m2 := moved_rws m1 (top := 0) (bot := R - 1) (by omega) (-(n : Int)) (a := plainA) (by decide)
    refine ⟨by rw [even_length m2.even, m2.len, hll], fun i h1 h2 => ?_⟩
    rw [back_cells h (by decide) h1 (by rw [← hll]; exact h2), hle]
  have HEQ := Lib.hid (fun (x' y' : Value) w' (k1 : Cs w' x' l) (k2 : Cs w' y' l) => eqGrid_same R C l x' y' w' k1 k2 (by omega))
  obtain ⟨_, A, cp, rfl, _⟩ := hx
  obtain ⟨A', c', rfl, _⟩ := hy.form
  have HB1 : Hid (Below w.heap.size w (w.alloc (pbox R C (.slice A l.length cp) (.slice A' t.length c')))) := Lib.hid ((Below.refl _ _).alloc (Nat.le_refl _) _)
  have HK1 : Hid ((w.alloc (pbox R C (.slice A l.length cp) (.slice A' t.length c'))).heap[w.heap.size]? = some (pbox R C (.slice A l.length cp) (.slice A' t.length c'))) := Lib.hid (new_alloc _ _ _ rfl)
  have hw1 : IntKind.i64.wrap ((R : Int) * (C : Int)) = (l.length : Int) := by rw [hll, ← Int.natCast_mul, IntKind.wrap_i64]; omega
  have hw2 : IntKind.i64.wrap ((R : Int) - 1) = ((R - 1 : Nat) : Int) := by rw [IntKind.wrap_i64]; omega
  have hd1 : decide ((R : Int) < 1) = false := decide_eq_false (by omega)
  have HLL := Lib.hid hll
  clear hy hn hm h hle hfit hll
  obtain ⟨R1, hR1e⟩ : ∃ q, R - 1 = q := ⟨_, rfl⟩
  rw [hR1e] at hw2 HUP HDN HBC
  clear hR1e
  obtain ⟨up, hup⟩ : ∃ up : Nat → List Cl, ∀ n : Nat, (moved rs 0 R1 n C plainA).flatten = up n := ⟨_, fun _ => rfl⟩
  obtain ⟨dn, hdn⟩ : ∃ dn : Nat → List Cl, ∀ n : Nat, (moved (moved rs 0 R1 n C plainA) 0 R1 (-(n : Int)) C plainA).flatten = dn n := ⟨_, fun _ => rfl⟩
  have HUP : Hid (∀ (n : Nat), n ≤ R → ∀ w', Rm w' (.slice A l.length cp) l → Calls Try.prog 7 #[.agg #[.int .i64 R, .int .i64 C, .slice A l.length cp], .int .i64 0, .int .i64 R1, .int .i64 n, .agg #[.int .i64 (-1), .int .i64 (-1), .int .i64 0]] w' fun e w'' =>
      ∃ v, e = .returned (.tuple #[.agg #[.int .i64 R, .int .i64 C, v], .int .i64 0]) ∧ OwnCs w'' w'.heap.size v (up n) ∧ Below w'.heap.size w' w'') := Lib.hid fun n hn w' k => by
    have := HUP.out n hn w' k
    rw [hup] at this
    exact this
  have HDN : Hid (∀ (n : Nat), n ≤ R → ∀ v w', Rm w' v (up n) → Calls Try.prog 8 #[.agg #[.int .i64 R, .int .i64 C, v], .int .i64 0, .int .i64 R1, .int .i64 n, .agg #[.int .i64 (-1), .int .i64 (-1), .int .i64 0]] w' fun e w'' =>
      ∃ v', e = .returned (.tuple #[.agg #[.int .i64 R, .int .i64 C, v'], .int .i64 0]) ∧ OwnCs w'' w'.heap.size v' (dn n) ∧ Below w'.heap.size w' w'') := Lib.hid fun n hn v w' k => by
    have := HDN.out n hn v w' (by rw [hup]; exact k)
    rw [hdn] at this
    exact this
  have HRZ : Hid (∀ w', Rm w' (.slice A l.length cp) l → Calls Try.prog 9 #[.agg #[.int .i64 R, .int .i64 C, .slice A l.length cp], .int .i64 R, .int .i64 C, .agg #[.int .i64 (-1), .int .i64 (-1), .int .i64 0]] w' fun e w'' =>
      ∃ v', e = .returned (.tuple #[.agg #[.int .i64 R, .int .i64 C, v'], .int .i64 0]) ∧ OwnCs w'' w'.heap.size v' l ∧ Below w'.heap.size w' w'') := Lib.hid fun w' k => HRZ.out w' k
  have HBC : Hid (∀ n, n ≤ R → (dn n).length = l.length ∧ ∀ i, n * C ≤ i → i < l.length → g (dn n) i = g l i) := Lib.hid fun n hn => by rw [← hdn]; exact HBC.out n hn
  clear hup hdn
  go_enter Try.func3, Try.ntmps3
  go_wp2_with fail
  refine (HHV.out _ (HX.out.kept HB1.out) (HY.out.kept HB1.out)).mono ?_; rintro e w2 ⟨b, rfl, _, hb2⟩
  have HB2 : Hid (Below w.heap.size w w2) := Lib.hid (HB1.out.trans (hb2.mono HB1.out.size))
  have HK2 := Lib.hid (Blk.kept HK1.out hb2)
  clear hb2 HHV HB1 HK1
  cases b with
  | true =>
    go_wp2_with fail
    go_ret
    exact ⟨rfl, HB2.out⟩
  | false =>
    have c0 : w2.cell? ⟨w.heap.size, 0, none⟩ = some (.int .i64 R) := Blk.cell HK2.out 0
    have c1 : w2.cell? ⟨w.heap.size, 1, none⟩ = some (.int .i64 C) := Blk.cell HK2.out 1
    have c2 : w2.cell? ⟨w.heap.size, 2, none⟩ = some (.slice A l.length cp) := Blk.cell HK2.out 2
    go_wp2_with fail
    refine (HCK.out _ (HX.out.kept HB2.out)).mono ?_; rintro e w3 ⟨rfl, hb3⟩
    have HB3 : Hid (Below w.heap.size w w3) := Lib.hid (HB2.out.trans (hb3.mono HB2.out.size))
    have HK3 := Lib.hid (Blk.kept HK2.out hb3)
    clear hb3 c0 c1 c2
    have c0 : w3.cell? ⟨w.heap.size, 0, none⟩ = some (.int .i64 R) := Blk.cell HK3.out 0
    have c1 : w3.cell? ⟨w.heap.size, 1, none⟩ = some (.int .i64 C) := Blk.cell HK3.out 1
    have c2 : w3.cell? ⟨w.heap.size, 2, none⟩ = some (.slice A l.length cp) := Blk.cell HK3.out 2
    go_wp2_with fail
    refine (num_eq _ _).mono ?_; rintro e w' ⟨rfl, rfl⟩
    go_wp2_with fail
    have HG0 : Hid (((w3.alloc (gbox R C (.slice A l.length cp))).alloc (abox plainA)).heap[w3.heap.size]? = some (gbox R C (.slice A l.length cp))) := Lib.hid (old_alloc (new_alloc _ _ _ rfl) _)
    have HA0 : Hid (((w3.alloc (gbox R C (.slice A l.length cp))).alloc (abox plainA)).heap[w3.heap.size + 1]? = some (abox plainA)) := Lib.hid (new_alloc _ _ _ (by simp))
    have HB4 : Hid (Below w.heap.size w ((w3.alloc (gbox R C (.slice A l.length cp))).alloc (abox plainA))) := Lib.hid ((HB3.out.alloc HB3.out.size _).alloc (by have := HB3.out.size; simp; omega) _)
    clear c0 c1 c2
    show Code.wp _ _ _ _ ((w3.alloc (gbox R C (.slice A l.length cp))).alloc (abox plainA))
    generalize (w3.alloc (gbox R C (.slice A l.length cp))).alloc (abox plainA) = wa at HG0 HA0 HB4 ⊢
    generalize w3.heap.size = gb at HG0 HA0 ⊢
    go_loopw [5] (fun i wr => ∃ k : Nat, k ≤ R + 1 ∧ i = .int .i64 k ∧ Hid (wr.heap[gb]? = some (gbox R C (.slice A l.length cp))) ∧ Hid (wr.heap[gb + 1]? = some (abox plainA)) ∧ Hid (Below w.heap.size w wr)) (fun i _ => R + 1 - (intOf i).toNat)
    case atStart => exact ⟨0, by omega, rfl, HG0, HA0, HB4⟩
    case round =>
      obtain ⟨k, hk, rfl, HG, HA, HB⟩ := hrel
      have c0 : wr.cell? ⟨gb, 0, none⟩ = some (.int .i64 R) := Blk.cell HG.out 0
      have c1 : wr.cell? ⟨gb, 1, none⟩ = some (.int .i64 C) := Blk.cell HG.out 1
      have c2 : wr.cell? ⟨gb, 2, none⟩ = some (.slice A l.length cp) := Blk.cell HG.out 2
      have k0 : wr.cell? ⟨gb + 1, 0, none⟩ = some (.int .i64 (-1)) := Blk.cell HA.out 0
      have k1 : wr.cell? ⟨gb + 1, 1, none⟩ = some (.int .i64 (-1)) := Blk.cell HA.out 1
      have k2 : wr.cell? ⟨gb + 1, 2, none⟩ = some (.int .i64 0) := Blk.cell HA.out 2
      by_cases hlt : k ≤ R
      · go_wp2_with fail
        refine (HUP.out k hlt _ (HX.out.kept HB.out)).mono ?_; rintro e w4 ⟨v4, rfl, ho4, hb4⟩
        obtain ⟨A4, c4, rfl⟩ := own_shape ho4
        have HG4 := Lib.hid (Blk.kept HG.out hb4)
        have HA4 := Lib.hid (Blk.kept HA.out hb4)
        have HB4 := Lib.hid (HB.out.trans (hb4.mono HB.out.size))
        have HO4 := Lib.hid ho4
        clear hb4 ho4 c0 c1 c2 k0 k1 k2
        obtain ⟨ul, hul⟩ : ∃ q, (up k).length = q := ⟨_, rfl⟩
        rw [hul] at HO4 ⊢
        clear hul
        have c0 : w4.cell? ⟨gb, 0, none⟩ = some (.int .i64 R) := Blk.cell HG4.out 0
        have c1 : w4.cell? ⟨gb, 1, none⟩ = some (.int .i64 C) := Blk.cell HG4.out 1
        have c2 : w4.cell? ⟨gb, 2, none⟩ = some (.slice A l.length cp) := Blk.cell HG4.out 2
        have k0 : w4.cell? ⟨gb + 1, 0, none⟩ = some (.int .i64 (-1)) := Blk.cell HA4.out 0
        have k1 : w4.cell? ⟨gb + 1, 1, none⟩ = some (.int .i64 (-1)) := Blk.cell HA4.out 1
        have k2 : w4.cell? ⟨gb + 1, 2, none⟩ = some (.int .i64 0) := Blk.cell HA4.out 2
        have z0 : gb < w4.heap.size := Blk.lt HG4.out
        have z1 : gb + 1 < w4.heap.size := Blk.lt HA4.out
        have HBA : Hid (Below w4.heap.size w4 (w4.alloc (gbox R C (.slice A4 ul c4)))) := Lib.hid ((Below.refl _ _).alloc (Nat.le_refl _) _)
        go_wp2_with fail
        refine (HDN.out k hlt _ _ (HO4.out.rm.kept HBA.out)).mono ?_; rintro e w5 ⟨v5, rfl, ho5, hb5⟩
        obtain ⟨A5, c5, rfl⟩ := own_shape ho5
        have HG5 := Lib.hid (Blk.kept (Blk.kept HG4.out HBA.out) hb5)
        have HA5 := Lib.hid (Blk.kept (Blk.kept HA4.out HBA.out) hb5)
        have HB5 := Lib.hid ((HB4.out.alloc HB4.out.size _).trans (hb5.mono (by have := HB4.out.size; simp; omega)))
        have HD5 := Lib.hid ho5
        clear hb5 ho5 c0 c1 c2 k0 k1 k2 z0 z1 HBA HO4 HG4 HA4 HB4
        obtain ⟨dl, hdl⟩ : ∃ q, (dn k).length = q := ⟨_, rfl⟩
        rw [hdl] at HD5 ⊢
        have hdll : dl = l.length := by rw [← hdl]; exact (HBC.out k hlt).1
        clear hdl
        subst hdll
        have c0 : w5.cell? ⟨gb, 0, none⟩ = some (.int .i64 R) := Blk.cell HG5.out 0
        have c1 : w5.cell? ⟨gb, 1, none⟩ = some (.int .i64 C) := Blk.cell HG5.out 1
        have c2 : w5.cell? ⟨gb, 2, none⟩ = some (.slice A l.length cp) := Blk.cell HG5.out 2
        have k0 : w5.cell? ⟨gb + 1, 0, none⟩ = some (.int .i64 (-1)) := Blk.cell HA5.out 0
        have k1 : w5.cell? ⟨gb + 1, 1, none⟩ = some (.int .i64 (-1)) := Blk.cell HA5.out 1
        have k2 : w5.cell? ⟨gb + 1, 2, none⟩ = some (.int .i64 0) := Blk.cell HA5.out 2
        have z0 : gb < w5.heap.size := Blk.lt HG5.out
        have z1 : gb + 1 < w5.heap.size := Blk.lt HA5.out
        have HBA : Hid (Below w5.heap.size w5 (w5.alloc (gbox R C (.slice A5 l.length c5)))) := Lib.hid ((Below.refl _ _).alloc (Nat.le_refl _) _)
        have HY5 : Hid ((w5.alloc (gbox R C (.slice A5 l.length c5))).heap[w5.heap.size]? = some (gbox R C (.slice A5 l.length c5))) := Lib.hid (new_alloc _ _ _ rfl)
        have HD5' := Lib.hid (HD5.out.rm.kept HBA.out)
        have HBW5 := Lib.hid (HB5.out.alloc HB5.out.size (gbox R C (.slice A5 l.length c5)))
        go_wp2_with fail
        refine (HRZ.out _ (HX.out.kept HBW5.out)).mono ?_; rintro e w6 ⟨v6, rfl, ho6, hb6⟩
        obtain ⟨A6, c6, rfl⟩ := own_shape ho6
        have HG6 := Lib.hid (Blk.kept (Blk.kept HG5.out HBA.out) hb6)
        have HA6 := Lib.hid (Blk.kept (Blk.kept HA5.out HBA.out) hb6)
        have HY6 := Lib.hid (Blk.kept HY5.out hb6)
        have HB6 := Lib.hid (HBW5.out.trans (hb6.mono HBW5.out.size))
        have HD6 := Lib.hid (HD5'.out.kept hb6)
        have HO6 := Lib.hid ho6
        clear hb6 ho6 c0 c1 c2 k0 k1 k2 z0 z1 HBA HD5 HD5' HG5 HA5 HB5 HBW5 HY5
        generalize w5.heap.size = yb at HY6 ⊢
        have c0 : w6.cell? ⟨gb, 0, none⟩ = some (.int .i64 R) := Blk.cell HG6.out 0
        have c1 : w6.cell? ⟨gb, 1, none⟩ = some (.int .i64 C) := Blk.cell HG6.out 1
        have c2 : w6.cell? ⟨gb, 2, none⟩ = some (.slice A l.length cp) := Blk.cell HG6.out 2
        have y2 : w6.cell? ⟨yb, 2, none⟩ = some (.slice A5 l.length c5) := Blk.cell HY6.out 2
        have z0 : gb < w6.heap.size := Blk.lt HG6.out
        have z1 : yb < w6.heap.size := Blk.lt HY6.out
        have HBA : Hid (Below w6.heap.size w6 (w6.alloc (gbox R C (.slice A6 l.length c6)))) := Lib.hid ((Below.refl _ _).alloc (Nat.le_refl _) _)
        have HBW6 := Lib.hid (HB6.out.alloc HB6.out.size (gbox R C (.slice A6 l.length c6)))
        go_wp2_with fail
        refine (num_eq _ _).mono ?_; rintro e w' ⟨rfl, rfl⟩
        go_wp2_with fail
        refine (num_eq _ _).mono ?_; rintro e w' ⟨rfl, rfl⟩
        go_wp2_with fail
        refine (num_eq _ _).mono ?_; rintro e w' ⟨rfl, rfl⟩
        go_wp2_with fail
        refine (HEQ.out _ _ _ (HO6.out.cs.kept HBA.out) (HX.out.cs.kept HBW6.out)).mono ?_; rintro e w7 ⟨rfl, hb7⟩
        have HG7 := Lib.hid (Blk.kept (Blk.kept HG6.out HBA.out) hb7)
        have HA7 := Lib.hid (Blk.kept (Blk.kept HA6.out HBA.out) hb7)
        have HY7 := Lib.hid (Blk.kept (Blk.kept HY6.out HBA.out) hb7)
        have HB7 := Lib.hid (HBW6.out.trans (hb7.mono HBW6.out.size))
        have HD7 := Lib.hid ((HD6.out.kept HBA.out).kept hb7)
        clear hb7 c0 c1 c2 y2 z0 z1 HBA HG6 HA6 HY6 HB6 HBW6 HD6 HO6
        have c0 : w7.cell? ⟨gb, 0, none⟩ = some (.int .i64 R) := Blk.cell HG7.out 0
        have c1 : w7.cell? ⟨gb, 1, none⟩ = some (.int .i64 C) := Blk.cell HG7.out 1
        have c2 : w7.cell? ⟨gb, 2, none⟩ = some (.slice A l.length cp) := Blk.cell HG7.out 2
        have y2 : w7.cell? ⟨yb, 2, none⟩ = some (.slice A5 l.length c5) := Blk.cell HY7.out 2
        obtain ⟨kc, hkc⟩ : ∃ q, q = k * C := ⟨_, rfl⟩
        have hkc2 : kc ≤ l.length := by rw [hkc, HLL.out]; exact Nat.mul_le_mul_right C hlt
        have hl16 : l.length ≤ 1600 := by rw [HLL.out]; exact hm16
        have hwkc : IntKind.i64.wrap ((k : Int) * (C : Int)) = (kc : Int) := by rw [hkc, ← Int.natCast_mul, IntKind.wrap_i64]; omega
        have HKC := Lib.hid hkc
        clear hkc
        have HSAME : Hid (∀ j, kc ≤ j → j < l.length → g (dn k) j = g l j ∧ j < (dn k).length) := Lib.hid fun j h1 h2 => ⟨(HBC.out k hlt).2 j (by rw [← HKC.out]; exact h1) h2, by rw [(HBC.out k hlt).1]; exact h2⟩
        go_wp2_with fail
        go_loopw [12] (fun i wx => ∃ j q : Nat, kc ≤ j ∧ j ≤ l.length ∧ i = .int .i64 j ∧ wx = w7.drewN q) (fun i _ => l.length - (intOf i).toNat)
        case atStart => exact ⟨kc, 0, Nat.le_refl _, hkc2, rfl, rfl⟩
        case round =>
          obtain ⟨j, q, hj1, hj2, rfl, rfl⟩ := hrel
          by_cases hjl : j < l.length
          · obtain ⟨hsame, hjd⟩ := HSAME.out j hj1 hjl
            obtain ⟨A1, c1', e1, hf1⟩ := HD7.out.cs.form
            injection e1 with e1 e1n e1c
            obtain ⟨ad1, e2, K1⟩ := hf1 j hjd
            rw [e2] at e1
            subst e1
            obtain ⟨A2, c2', e3, hf2⟩ := (HX.out.cs.kept HB7.out).form
            injection e3 with e3 e3n e3c
            obtain ⟨ad2, e4, K2⟩ := hf2 j hjl
            rw [e4] at e3
            subst e3
            rw [hsame] at K1
            generalize g l j = ev at K1 K2
            obtain ⟨rune, cb, wide, ⟨fg, bg, fl⟩⟩ := ev
            have h0 := K1.head
            have h1 := K1.next 0 rfl
            have h2 := K1.next 1 rfl
            have h3 := K1.next 2 rfl
            have h4 := K1.next 3 rfl
            have h5 := K1.next 4 rfl
            have i0 := K2.head
            have i1 := K2.next 0 rfl
            have i2 := K2.next 1 rfl
            have i3 := K2.next 2 rfl
            have i4 := K2.next 3 rfl
            have i5 := K2.next 4 rfl
            have hwj : IntKind.i64.wrap ((j : Int) + 1) = ((j + 1 : Nat) : Int) := by rw [IntKind.wrap_i64]; omega
            clear K1 K2 hf1 hf2 hsame hjd e1n e1c e3n e3c e2 e4
            go_wp2_with fail
            go_quiet (fail)
            go_wp2_with fail
            go_roundw
            case rel => exact ⟨j + 1, _, by omega, by omega, rfl, rfl⟩
            case measure => simp [intOf]; omega
          · have hjl : j = l.length := by omega
            have hd : decide ((j : Int) < (l.length : Int)) = false := decide_eq_false (by omega)
            have hwk : IntKind.i64.wrap ((k : Int) + 1) = ((k + 1 : Nat) : Int) := by rw [IntKind.wrap_i64]; omega
            go_wp2_with fail
            go_roundw
            case rel => exact ⟨k + 1, by omega, rfl, Lib.hid HG7.out, Lib.hid HA7.out, Lib.hid (below_drewN HB7.out q)⟩
            case measure => simp [intOf]; omega
      · have hd : decide ((k : Int) ≤ (R : Int)) = false := decide_eq_false (by omega)
        go_wp2_with fail
        refine (wakes_any _).mono ?_; rintro e w9 ⟨rfl, hb9⟩
        have HB9 := Lib.hid (HB.out.trans (hb9.mono HB.out.size))
        clear hb9
        go_wp2_with fail
        go_ret
        exact ⟨rfl, HB9.out⟩
set_option maxHeartbeats 8000000 in
theorem lawBack_any {bnd : Nat} (r c : Int) (x y : Value) (l : List Cl) (t : List ActG) (w : World) (hx : Rm w x l) (hy : Acts bnd w y t) (hl : Texted 1152921504606846976 l) (hm : t.length ≤ 140737488355328) :
    Calls Try.prog 3 #[.agg #[.int .i64 r, .int .i64 c, x, y]] w fun e w' => e = .returned (.bool true) ∧ Below w.heap.size w w' := by
  have HX := Lib.hid hx
  have HY := Lib.hid hy
  have hn := hl.1
  have HHV := Lib.hid (fun w' (h1 : Rm w' x l) (h2 : Acts bnd w' y t) => heavy_any r c x y l t w' h1 h2 hn hm)
  have HHD : Hid (Held l) := Lib.hid hl.2
  obtain ⟨_, A, cp, rfl, _⟩ := hx
  obtain ⟨A', c', rfl, _⟩ := hy.form
  have HB1 : Hid (Below w.heap.size w (w.alloc (pbox r c (.slice A l.length cp) (.slice A' t.length c')))) := Lib.hid ((Below.refl _ _).alloc (Nat.le_refl _) _)
  have HK1 : Hid ((w.alloc (pbox r c (.slice A l.length cp) (.slice A' t.length c'))).heap[w.heap.size]? = some (pbox r c (.slice A l.length cp) (.slice A' t.length c'))) := Lib.hid (new_alloc _ _ _ rfl)
  by_cases hG : GridOk ⟨r, c, l⟩
  · obtain ⟨R, C, rs, he, h⟩ := hG.parted
    injection he with e1 e2 e3
    subst e1; subst e2
    exact lawBack_ok R C rs _ _ l t w h e3.symm HX.out HY.out hn hm
  · have HCK := Lib.hid (fun w' (k : Rm w' (.slice A l.length cp) l) => gridCheck_any ⟨r, c, l⟩ false (.slice A l.length cp) w' k HHD.out ⟨(fun h => by cases h), fun h => absurd h hG⟩)
    clear hG hy hl hm hn
    go_enter Try.func3, Try.ntmps3
    go_wp2_with fail
    refine (HHV.out _ (HX.out.kept HB1.out) (HY.out.kept HB1.out)).mono ?_; rintro e w2 ⟨b, rfl, _, hb2⟩
    have HB2 : Hid (Below w.heap.size w w2) := Lib.hid (HB1.out.trans (hb2.mono HB1.out.size))
    have HK2 := Lib.hid (Blk.kept HK1.out hb2)
    clear hb2
    cases b with
    | true =>
      go_wp2_with fail
      go_ret
      exact ⟨rfl, HB2.out⟩
    | false =>
      have c0 : w2.cell? ⟨w.heap.size, 0, none⟩ = some (.int .i64 r) := Blk.cell HK2.out 0
      have c1 : w2.cell? ⟨w.heap.size, 1, none⟩ = some (.int .i64 c) := Blk.cell HK2.out 1
      have c2 : w2.cell? ⟨w.heap.size, 2, none⟩ = some (.slice A l.length cp) := Blk.cell HK2.out 2
      go_wp2_with fail
      refine (HCK.out _ (HX.out.kept HB2.out)).mono ?_; rintro e w3 ⟨rfl, hb3⟩
      have HB3 : Hid (Below w.heap.size w w3) := Lib.hid (HB2.out.trans (hb3.mono HB2.out.size))
      clear hb3 c0 c1 c2
      go_wp2_with fail
      refine (num_eq _ _).mono ?_; rintro e w' ⟨rfl, rfl⟩
      go_wp2_with fail
      go_ret
      exact ⟨rfl, HB3.out⟩
end Row
end Go.Proofs.Ythkfcfmnccfbnaa
