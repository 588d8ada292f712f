/- Joined texts: GrdDown, RowIns. -/
import Derived.Test.YtceaoadlhdgnmaaGreatDoorM8
namespace Go.Proofs.YtceaoadlhdgnmaaGreatDoor
set_option maxRecDepth 100000
section
open Go.RowKit
namespace Row
set_option maxHeartbeats 4000000 in
theorem down_fits (R C : Nat) (rs : List (List Cl)) (a : Look) (top bot n : Nat) (x : Value) (w : World) (h : Rws R C rs) (hx : Rm w x rs.flatten) (hs : Held rs.flatten) (ha : attrOk a = true) (ht : top ≤ bot) (hb : bot < R) (hn : n ≤ 9999) :
    Calls Tryz.prog 173 #[.agg #[.int .i64 R, .int .i64 C, x], .int .i64 top, .int .i64 bot, .int .i64 n, .agg #[.int .i64 a.fg, .int .i64 a.bg, .int .i64 a.flags]] w fun e w' =>
      ∃ v, e = .returned (.tuple #[.agg #[.int .i64 R, .int .i64 C, v], .int .i64 0]) ∧ OwnCs w' w.heap.size v (moved rs top bot (-(n : Int)) C a).flatten ∧ Below w.heap.size w w' := by
  have hlen := h.len
  have hR40 := h.r40
  have hC1 := h.c1
  have hC40 := h.c40
  have hfl : rs.flatten.length = R * C := by rw [even_length h.even, hlen]
  obtain ⟨m, hm⟩ : ∃ m, m = min n (bot + 1 - top) := ⟨_, rfl⟩
  have hmi : min (n : Int) ((bot : Int) + 1 - (top : Int)) = (m : Int) := by omega
  have HBX := Lib.hid (Boxes3.new w R C x a)
  have HRM := Lib.hid (fun w' (k : Rm w' x rs.flatten) => room_fits R C rs.flatten a top bot n x w' k hs h.grid ha ⟨by omega, by omega⟩ (by omega) ⟨by omega, by omega⟩)
  rw [hmi] at HRM
  have HLI := Lib.hid (fun w' (k : Rm w' x rs.flatten) => lines_any R C rs.flatten x w' k h.r1 hR40 hC1 hC40 hfl)
  have HEM := Lib.hid (fun w' => empties_any m a w' (by omega))
  have HFIN : Hid (∀ (w' : World) (lns : List Ln), rowsOfL C lns = rs → (rowsOfL C (downLns lns top bot m a)).flatten = (moved rs top bot (-(n : Int)) C a).flatten) := Lib.hid fun _ lns e => by rw [down_lns, e, down_rows ht (by omega) hm]
  have HKE := Lib.hid (fun (w' : World) (cv : Nat → Value) (k : ∀ i, i < R → Rm w' (cv i) (rowAt rs.flatten C i)) => And.intro (kept_ok h k) (rows_kept h cv))
  clear hs h hfl
  obtain ⟨l, HL⟩ : ∃ l, Hid (rs.flatten = l) := ⟨_, Lib.hid rfl⟩
  rw [HL.out] at hx HRM HLI HKE
  have HX := Lib.hid hx
  obtain ⟨en, hen⟩ : ∃ q, q = bot + 1 := ⟨_, rfl⟩
  obtain ⟨lo, hlo⟩ : ∃ q, q = bot + 1 - m := ⟨_, rfl⟩
  have hw1 : IntKind.i64.wrap ((bot : Int) + 1) = (en : Int) := by rw [IntKind.wrap_i64]; omega
  have hw2 : IntKind.i64.wrap ((en : Int) - (m : Int)) = (lo : Int) := by rw [IntKind.wrap_i64]; omega
  have HUP : Hid (∀ lns, downLns lns top bot m a = [lns.take top, List.replicate m (.empty a), (lns.drop top).take (lo - top), lns.drop en].flatten) := Lib.hid fun lns => by rw [hen, hlo]; rfl
  have HUL : Hid (∀ lns : List Ln, lns.length = R → (downLns lns top bot m a).length = R) := Lib.hid fun lns e => by rw [down_len a (by omega) (by omega), e]
  have HUO : Hid (∀ (w' : World) (lns : List Ln), LnsOk w' C lns → LnsOk w' C (downLns lns top bot m a)) := Lib.hid fun w' lns k => down_ok k top bot m ha
  obtain ⟨_, A, cp, rfl, _⟩ := hx
  have htl : top ≤ R := by omega
  have hloe : top ≤ lo := by omega
  have hlR : lo ≤ R := by omega
  have heR : en ≤ R := by omega
  clear hm hmi hen hlo ht hb hn ha hlen
  go_enter Tryz.func173, Tryz.ntmps173
  go_wp2_with fail
  refine (HRM.out _ (HX.out.kept HBX.out.two.below)).mono ?_; rintro e w2 ⟨rfl, hb2⟩
  have HX2 := Lib.hid (HBX.out.kept hb2)
  clear hb2 HBX
  obtain ⟨c0, c1, c2, k0, k1, k2⟩ := HX2.out.two.cells
  go_wp2_with fail
  refine (HLI.out _ (HX.out.kept HX2.out.two.below)).mono ?_; rintro e w3 ⟨v3, cv, rfl, ho3, hcv, hb3⟩
  have HX3 := Lib.hid (HX2.out.kept hb3)
  have HK3 := Lib.hid (HKE.out w2 cv hcv)
  have HK3' := Lib.hid (HK3.out.1.kept hb3)
  have hll : (keptOf cv l C (List.range R)).length = R := by rw [keptOf_length, List.length_range]
  generalize keptOf cv l C (List.range R) = lns at ho3 HK3 HK3' hll
  have HS3 := Lib.hid ho3.sv
  obtain ⟨A1, e1, hr1, hp1⟩ := ho3.sv.part_upto top (by omega)
  obtain ⟨A2, e2, hr2, hp2⟩ := ho3.sv.part_mid top lo hloe (by omega)
  obtain ⟨A4, e4, hr4, hp4⟩ := ho3.sv.part_from en (by omega)
  obtain ⟨n2, hn2⟩ : ∃ q, lo - top = q := ⟨_, rfl⟩
  obtain ⟨n4, hn4⟩ : ∃ q, lns.length - en = q := ⟨_, rfl⟩
  rw [hn2] at HUP hr2 hp2
  rw [hn4] at hr4 hp4
  have HP1 := Lib.hid hp1
  have HP2 := Lib.hid hp2
  have HP4 := Lib.hid hp4
  obtain ⟨A3, e3, rfl⟩ := own_shape ho3
  rw [hll] at hr1 hr2 hr4
  have HLL := Lib.hid hll
  have hsv := HS3.out
  clear hb3 hcv ho3 hn2 hn4 hsv HS3 HKE c0 c1 c2 k0 k1 k2 hp1 hp2 hp4
  obtain ⟨c0, c1, c2, k0, k1, k2⟩ := HX3.out.two.cells
  rw [hll]
  clear hll
  go_wp2_with fail
  have HX3D : Hid (Boxes3 w w3.drew R C (.slice A l.length cp) a) := Lib.hid HX3.out.drew
  have HEM3 := Lib.hid (HEM.out w3.drew)
  have HLA := Lib.hid (fun (v : Value) (w' : World) (lns' : List Ln) (k : Sv w' v lns') (k2 : LnsOk w' C lns') (k3 : lns'.length = R) => (show _ from k3 ▸ laid_any lns' C v w' k k2 hC1 hC40 (by omega) : Calls Tryz.prog 151 #[v, .int .i64 C] w' fun e w'' => ∃ v', e = .returned (.agg #[.int .i64 R, .int .i64 C, v']) ∧ OwnCs w'' w'.heap.size v' (rowsOfL C lns').flatten ∧ Below w'.heap.size w' w''))
  have HCC := Lib.hid (fun (xs : List Value) (x : Value) (w' : World) hxl hxx hcc => concatL_any [lns.take top, List.replicate m (.empty a), (lns.drop top).take n2, lns.drop en] xs x w' hxl hxx hcc (by rw [← HUP.out, HUL.out lns HLL.out]; omega) (by simp))
  rw [← HUP.out] at HCC
  have HUO3 := Lib.hid (HUO.out w3 lns HK3'.out)
  have HUL3 := Lib.hid (HUL.out lns HLL.out)
  have HF3 := Lib.hid (HFIN.out w3 lns HK3.out.2)
  generalize downLns lns top bot m a = ups at HCC HUO3 HUL3 HF3
  have HLU := Lib.hid (fun v w' k k2 => HLA.out v w' ups k k2 HUL3.out)
  rw [HF3.out] at HLU
  obtain ⟨res, HRS⟩ : ∃ q, Hid ((moved rs top bot (-(n : Int)) C a).flatten = q) := ⟨_, Lib.hid rfl⟩
  rw [HRS.out] at HLU
  clear HLA HF3
  clear HRM HLI HEM
  go_region_law (first
    | (have h := HS5.out; go_simp; go_at_call 151; refine (HLU.out _ _ h HO5.out).mono ?_; rintro e w6 ⟨v6, rfl, ho6, hb6⟩; obtain ⟨A8, e8, rfl⟩ := own_shape ho6; have HX6 := Lib.hid (HX5.out.kept hb6); have HO6 := Lib.hid (ho6.low HX5.out.size); have zk := HX6.out.size; have z0 : w6.cell? ⟨w.heap.size + 1 + 1, 0, none⟩ = some (.int .i64 0) := Blk.cell HX6.out.z 0; have z1 : w6.cell? ⟨w.heap.size + 1 + 1, 1, none⟩ = some (.int .i64 0) := Blk.cell HX6.out.z 1; have z2 : w6.cell? ⟨w.heap.size + 1 + 1, 2, none⟩ = some (.slice none 0 0) := Blk.cell HX6.out.z 2; have y0 : w6.frozen? ⟨w.heap.size + 1 + 1, 0, none⟩ = false := Blk.free HX6.out.z 0; have y1 : w6.frozen? ⟨w.heap.size + 1 + 1, 1, none⟩ = false := Blk.free HX6.out.z 1; have y2 : w6.frozen? ⟨w.heap.size + 1 + 1, 2, none⟩ = false := Blk.free HX6.out.z 2; clear ho6 hb6)
    | (have h := HB4.out; go_simp; go_at_call 190; have hba : Below w4.heap.size w4 (w4.alloc (.cells #[.slice A1 top e1, .slice A5 m e5, .slice A2 n2 e2, .slice A4 n4 e4] 167)) := (Below.refl _ _).alloc (Nat.le_refl _) _; refine (HCC.out [.slice A1 top e1, .slice A5 m e5, .slice A2 n2 e2, .slice A4 n4 e4] _ _ rfl (Src.made w4 _ _ 4 4 rfl) (four_of ((HP1.out.kept h).kept hba) (HS4.out.kept hba) ((HP2.out.kept h).kept hba) ((HP4.out.kept h).kept hba))).mono ?_; rintro e w5 ⟨v5, rfl, ho5, hb5⟩; have HX5 := Lib.hid ((HX4.out.alloc _).kept hb5); have hb45 : Below w4.heap.size w4 w5 := hba.trans (hb5.mono (by simp)); have HO5 := Lib.hid (HUO3.out.kept (h.trans (hb45.mono h.size))); have HS5 := Lib.hid ho5.sv; obtain ⟨A7, e7, rfl⟩ := own_shape ho5; rw [HUL3.out] at HS5 ⊢; have q1 : w5.cell? ⟨w.heap.size, 1, none⟩ = some (.int .i64 C) := HX5.out.two.cells.2.1; clear ho5 hb5 hba hb45)
    | (go_simp; go_at_call 152; refine HEM3.out.mono ?_; rintro e w4 ⟨v4, rfl, ho4, hb4⟩; have hb4' : Below w3.heap.size w3 w4 := (Below.refl _ _).drew.trans hb4; obtain ⟨A5, e5, rfl⟩ := own_shape ho4; have HX4 := Lib.hid (HX3.out.kept hb4'); have hs4 := ho4.sv; rw [List.length_replicate] at hs4; have HS4 := Lib.hid hs4; have HB4 := Lib.hid hb4'; have q1 : w4.cell? ⟨w.heap.size, 1, none⟩ = some (.int .i64 C) := HX4.out.two.cells.2.1; have zl4 : w.heap.size < w4.heap.size := (by have := HX4.out.size; omega); clear ho4 hb4 hb4' hs4))
  all_goals
    have HF := Lib.hid (gput_box HX6.out.z R C (.slice A8 res.length e8))
    have HO7 : Hid (OwnCs (gput w6 (w.heap.size + 2) R C (.slice A8 res.length e8)) (w.heap.size + 3) (.slice A8 res.length e8) res) := Lib.hid (gput_own HO6.out (Nat.lt_succ_self _) _ _ _)
    have HB7 : Hid (Below w.heap.size w (gput w6 (w.heap.size + 2) R C (.slice A8 res.length e8))) := Lib.hid (gput_below HX6.out.two.below (by omega) _ _ _)
    clear z0 z1 z2 y0 y1 y2 q1 c0 c1 c2 k0 k1 k2 hr1 hr2 hr4
    go_wp2_with fail
    show bodyPost _ _ _ _ _ (gput w6 (w.heap.size + 2) R C (.slice A8 res.length e8))
    generalize gput w6 (w.heap.size + 2) R C (.slice A8 res.length e8) = wF at HF HO7 HB7 ⊢
    have z0 : wF.cell? ⟨w.heap.size + 1 + 1, 0, none⟩ = some (.int .i64 R) := Blk.cell HF.out 0
    have z1 : wF.cell? ⟨w.heap.size + 1 + 1, 1, none⟩ = some (.int .i64 C) := Blk.cell HF.out 1
    have z2 : wF.cell? ⟨w.heap.size + 1 + 1, 2, none⟩ = some (.slice A8 res.length e8) := Blk.cell HF.out 2
    exact bodyPost_ret (v := .tuple #[.agg #[.int .i64 R, .int .i64 C, .slice A8 res.length e8], .int .i64 0]) (by simp [results, Tryz.results173, go_sem, z0, z1, z2]) rfl ⟨_, rfl, by rw [HRS.out]; exact HO7.out.low (by omega), HB7.out⟩
end Row
end
section
open Go.RowKit
namespace Row
open Utf Wid
theorem held_repl {l r : List Cl} (h : Held l) (hr : Held r) {low high : Nat} (h1 : low ≤ high) (h2 : high ≤ l.length) : Held (repl l low high r) := by
  unfold repl
  split
  · exact h
  · have hc := held_cut (held_cut h low) high
    have hcl : (cutL (cutL l low) high).length = l.length := by rw [cutL_length, cutL_length]
    unfold mid
    generalize cutL (cutL l low) high = m at hc hcl
    intro i hi
    have hlt : (m.take low).length = low := by rw [List.length_take]; omega
    by_cases hi1 : i < (m.take low).length
    · rw [g_append_left hi1, g_take (by omega)]; exact hc i (by omega)
    · rw [g_append_right (by omega)]
      by_cases hi2 : i - (m.take low).length < r.length
      · rw [g_append_left hi2]; exact hr _ hi2
      · rw [g_append_right (by omega), g_drop]
        rw [List.length_append, List.length_append, List.length_drop, hlt] at hi
        exact hc _ (by rw [hlt] at *; omega)
theorem held_nil : Held [] := fun i h => absurd h (by simp)
set_option maxHeartbeats 1600000 in
theorem rowRoom_fits (l : List Cl) (a : Look) (k n : Nat) (m : Nat) (hm : m = min n (l.length - k)) (x : Value) (w : World) (hx : Cs w x l) (hs : Held l) (hl : l.length ≤ 1000) (h : RowOk l) (ha : attrOk a = true) (hk : k ≤ l.length) (hn : n ≤ 9999) :
    Calls Tryz.prog 191 #[x, .int .i64 k, .int .i64 n, .agg #[.int .i64 a.fg, .int .i64 a.bg, .int .i64 a.flags]] w fun e w' => e = .returned (.tuple #[.int .i64 m, .int .i64 0]) ∧ Below w.heap.size w w' := by
  have hb0 : Below w.heap.size w (w.alloc (.cells #[.int .i64 a.fg, .int .i64 a.bg, .int .i64 a.flags] 31)) := (Below.refl _ _).alloc (Nat.le_refl _) _
  have HX := Lib.hid (hx.kept hb0)
  have HF := Lib.hid (fun w' (k : Cs w' x l) => fit_yes h ha hs hl x w' k)
  have HR1 : Hid (rng (k : Int) 0 (l.length : Int) = true) := Lib.hid (rng_yes (by omega) (by omega))
  have HR2 : Hid (rng (n : Int) 0 9999 = true) := Lib.hid (rng_yes (by omega) (by omega))
  have hwrap : IntKind.i64.wrap ((l.length : Int) - (k : Int)) = ((l.length - k : Nat) : Int) := by rw [IntKind.wrap_i64]; omega
  obtain ⟨A, c, rfl, _⟩ := hx.form
  clear hx hs h hb0 ha
  by_cases hlt : n ≤ l.length - k
  · have hmn : m = n := by omega
    subst hmn
    generalize l.length - k = q at hwrap hlt
    clear hm
    go_enter Tryz.func191, Tryz.ntmps191
    go_wp2_with fail
    refine (HF.out _ HX.out).mono ?_; rintro e w2 ⟨rfl, hb2⟩
    obtain ⟨_, hbw⟩ := box_kept hb2
    have HB2 := Lib.hid hbw
    clear hb2 hbw
    go_wp2_with fail
    refine (rowIn_at _ _ _ _ HR1.out _).mono ?_; rintro e w' ⟨rfl, rfl⟩
    go_wp2_with fail
    refine (rowIn_at _ _ _ _ HR2.out _).mono ?_; rintro e w' ⟨rfl, rfl⟩
    go_wp2_with fail
    go_ret2
    exact ⟨by simp; omega, HB2.out⟩
  · have hmn : m = l.length - k := by omega
    rw [← hmn] at hwrap
    have hlt : m < n := by omega
    clear hm hmn
    go_enter Tryz.func191, Tryz.ntmps191
    go_wp2_with fail
    refine (HF.out _ HX.out).mono ?_; rintro e w2 ⟨rfl, hb2⟩
    obtain ⟨_, hbw⟩ := box_kept hb2
    have HB2 := Lib.hid hbw
    clear hb2 hbw
    go_wp2_with fail
    refine (rowIn_at _ _ _ _ HR1.out _).mono ?_; rintro e w' ⟨rfl, rfl⟩
    go_wp2_with fail
    refine (rowIn_at _ _ _ _ HR2.out _).mono ?_; rintro e w' ⟨rfl, rfl⟩
    go_wp2_with fail
    go_ret2
    exact ⟨by simp; omega, HB2.out⟩
set_option maxHeartbeats 1600000 in
theorem insert_fits (l : List Cl) (a : Look) (k n m : Nat) (hm : m = min n (l.length - k)) (x : Value) (w : World) (hx : Cs w x l) (hs : Held l) (hl : l.length ≤ 500) (h : RowOk l) (ha : attrOk a = true) (hk : k ≤ l.length) (hn : n ≤ 9999) :
    Calls Tryz.prog 168 #[x, .int .i64 k, .int .i64 n, .agg #[.int .i64 a.fg, .int .i64 a.bg, .int .i64 a.flags]] w fun e w' => ∃ v, e = .returned (.tuple #[v, .int .i64 0]) ∧ OwnCs w' w.heap.size v (insertOf l k m a) ∧ Below w.heap.size w w' := by
  have hb0 : Below w.heap.size w (w.alloc (.cells #[.int .i64 a.fg, .int .i64 a.bg, .int .i64 a.flags] 31)) := (Below.refl _ _).alloc (Nat.le_refl _) _
  have HX0 := Lib.hid hx
  have HX := Lib.hid (hx.kept hb0)
  have HRM := Lib.hid (fun w' (h1 : Cs w' x l) => rowRoom_fits l a k n m hm x w' h1 hs (by omega) h ha hk hn)
  have hml : k + m ≤ l.length := by omega
  have HR1 := Lib.hid (fun w' (h1 : Cs w' x l) => replaced_any l [] (l.length - m) l.length x (.slice none 0 0) w' h1 (Cs.nil w') h.2.2 hs (by omega) (by simp) (by omega) (Nat.le_refl _))
  have hg1 := good_repl h.2.2 (l.length - m) l.length good_nil
  have hh1 := held_repl hs held_nil (low := l.length - m) (high := l.length) (by omega) (Nat.le_refl _)
  have hl1 := repl_length (l := l) (low := l.length - m) (high := l.length) (by omega) (Nat.le_refl _) []
  rw [List.length_nil] at hl1
  have HR2 := Lib.hid (fun z y w' (k1 : Cs w' z (repl l (l.length - m) l.length [])) (k2 : Cs w' y (List.replicate m (blank a))) => replaced_any (repl l (l.length - m) l.length []) (List.replicate m (blank a)) k k z y w' k1 k2 hg1 hh1 (by omega) (by rw [List.length_replicate]; omega) (Nat.le_refl _) (by omega))
  have HI : Hid (insertOf l k m a = repl (repl l (l.length - m) l.length []) k k (List.replicate m (blank a))) := Lib.hid rfl
  have HBK := Lib.hid (fun w' => blanks_any m a w' (by omega))
  have hwrap : IntKind.i64.wrap ((l.length : Int) - (m : Int)) = ((l.length - m : Nat) : Int) := by rw [IntKind.wrap_i64]; omega
  generalize insertOf l k m a = res at HI ⊢
  generalize l.length - m = lm at HR1 HR2 HI hwrap
  generalize repl l lm l.length [] = l1 at HR1 HR2 HI
  generalize List.replicate m (blank a) = bs at HR2 HI HBK
  obtain ⟨A, c, rfl, _⟩ := hx.form
  clear hx hs h hb0 ha hg1 hh1 hl1 hm
  go_enter Tryz.func168, Tryz.ntmps168
  go_wp2_with fail
  refine (HRM.out _ HX.out).mono ?_; rintro e w2 ⟨rfl, hb2⟩
  obtain ⟨hk2, hbw⟩ := box_kept hb2
  have HB2 := Lib.hid hbw
  have HK2 := Lib.hid hk2
  clear hb2 hbw hk2
  go_wp2_with fail
  refine (HR1.out _ (HX0.out.kept HB2.out)).mono ?_; rintro e w3 ⟨v3, rfl, ho3, hb3⟩
  have HB3 : Hid (Below w.heap.size w w3) := Lib.hid (HB2.out.trans (hb3.mono HB2.out.size))
  have HC3 := Lib.hid ho3.cs
  obtain ⟨k0, k1, k2⟩ := box_cells (Blk.kept HK2.out hb3)
  clear ho3 hb3
  go_wp2_with fail
  refine (HBK.out _).mono ?_; rintro e w4 ⟨v4, rfl, ho4, hb4⟩
  have HB4 : Hid (Below w.heap.size w w4) := Lib.hid (HB3.out.trans (hb4.mono HB3.out.size))
  have HC4 := Lib.hid ho4.cs
  have HC34 := Lib.hid (HC3.out.kept hb4)
  clear ho4 hb4
  go_wp2_with fail
  refine (HR2.out _ _ _ HC34.out HC4.out).mono ?_; rintro e w5 ⟨v5, rfl, ho5, hb5⟩
  have HO5 : Hid (OwnCs w5 w.heap.size v5 res) := Lib.hid (by rw [HI.out]; exact ho5.low HB4.out.size)
  have HB5 : Hid (Below w.heap.size w w5) := Lib.hid (HB4.out.trans (hb5.mono HB4.out.size))
  clear ho5 hb5
  go_wp2_with fail
  go_ret2
  exact ⟨v5, rfl, HO5.out, HB5.out⟩
set_option maxHeartbeats 1600000 in
theorem delete_fits (l : List Cl) (a : Look) (k n m : Nat) (hm : m = min n (l.length - k)) (x : Value) (w : World) (hx : Cs w x l) (hs : Held l) (hl : l.length ≤ 500) (h : RowOk l) (ha : attrOk a = true) (hk : k ≤ l.length) (hn : n ≤ 9999) :
    Calls Tryz.prog 176 #[x, .int .i64 k, .int .i64 n, .agg #[.int .i64 a.fg, .int .i64 a.bg, .int .i64 a.flags]] w fun e w' => ∃ v, e = .returned (.tuple #[v, .int .i64 0]) ∧ OwnCs w' w.heap.size v (deleteOf l k m a) ∧ Below w.heap.size w w' := by
  have hb0 : Below w.heap.size w (w.alloc (.cells #[.int .i64 a.fg, .int .i64 a.bg, .int .i64 a.flags] 31)) := (Below.refl _ _).alloc (Nat.le_refl _) _
  have HX0 := Lib.hid hx
  have HX := Lib.hid (hx.kept hb0)
  have HRM := Lib.hid (fun w' (h1 : Cs w' x l) => rowRoom_fits l a k n m hm x w' h1 hs (by omega) h ha hk hn)
  have hml : k + m ≤ l.length := by omega
  have HR1 := Lib.hid (fun w' (h1 : Cs w' x l) => replaced_any l [] k (k + m) x (.slice none 0 0) w' h1 (Cs.nil w') h.2.2 hs (by omega) (by simp) (by omega) hml)
  have hl1 := repl_length (l := l) (low := k) (high := k + m) (by omega) hml []
  rw [List.length_nil] at hl1
  have HI : Hid (deleteOf l k m a = repl l k (k + m) [] ++ List.replicate m (blank a)) := Lib.hid rfl
  have HBK := Lib.hid (fun w' => blanks_any m a w' (by omega))
  have hwrap : IntKind.i64.wrap ((k : Int) + (m : Int)) = ((k + m : Nat) : Int) := by rw [IntKind.wrap_i64]; omega
  have HLB : Hid ((repl l k (k + m) []).length + (List.replicate m (blank a)).length ≤ 1000000000) := Lib.hid (by rw [List.length_replicate]; omega)
  generalize deleteOf l k m a = res at HI ⊢
  generalize k + m = km at HR1 HI hwrap HLB
  generalize repl l k km [] = l1 at HR1 HI HLB
  generalize List.replicate m (blank a) = bs at HI HBK HLB
  obtain ⟨A, c, rfl, _⟩ := hx.form
  clear hx hs h hb0 ha hl1 hm hml
  go_enter Tryz.func176, Tryz.ntmps176
  go_wp2_with fail
  refine (HRM.out _ HX.out).mono ?_; rintro e w2 ⟨rfl, hb2⟩
  obtain ⟨hk2, hbw⟩ := box_kept hb2
  have HB2 := Lib.hid hbw
  have HK2 := Lib.hid hk2
  clear hb2 hbw hk2
  go_wp2_with fail
  refine (HR1.out _ (HX0.out.kept HB2.out)).mono ?_; rintro e w3 ⟨v3, rfl, ho3, hb3⟩
  have HB3 : Hid (Below w.heap.size w w3) := Lib.hid (HB2.out.trans (hb3.mono HB2.out.size))
  have HO3 : Hid (OwnCs w3 w.heap.size v3 l1) := Lib.hid (ho3.low HB2.out.size)
  obtain ⟨k0, k1, k2⟩ := box_cells (Blk.kept HK2.out hb3)
  clear ho3 hb3
  go_wp2_with fail
  refine (HBK.out _).mono ?_; rintro e w4 ⟨v4, rfl, ho4, hb4⟩
  have HB4 : Hid (Below w.heap.size w w4) := Lib.hid (HB3.out.trans (hb4.mono HB3.out.size))
  have HC4 := Lib.hid ho4.cs
  have HO34 := Lib.hid (HO3.out.kept hb4)
  clear ho4 hb4
  go_wp2_with (at_builtin; refine wp_append_cs rfl rfl w.heap.size _ _ l1 bs rfl HO34.out rfl HC4.out HLB.out HB4.out.size ?_; intro v5 w5 ho5 hg5 hat5; have HO5 : Hid (OwnCs w5 w.heap.size v5 res) := Lib.hid (by rw [HI.out]; exact ho5); have HB5 : Hid (Below w.heap.size w w5) := Lib.hid (below_cs HB4.out hg5 HB4.out.size HO34.out); clear ho5 hg5 hat5)
  go_ret2
  exact ⟨v5, rfl, HO5.out, HB5.out⟩
end Row
end
end Go.Proofs.YtceaoadlhdgnmaaGreatDoor
