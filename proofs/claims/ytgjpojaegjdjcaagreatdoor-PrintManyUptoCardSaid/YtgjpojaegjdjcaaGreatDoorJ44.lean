/- Joined texts: GrdDown. -/
import Derived.Test.YtgjpojaegjdjcaaGreatDoorJ1
import Derived.Test.YtgjpojaegjdjcaaGreatDoorJ2
import Derived.Test.YtgjpojaegjdjcaaGreatDoorJ3
import Derived.Test.YtgjpojaegjdjcaaGreatDoorJ4
import Derived.Test.YtgjpojaegjdjcaaGreatDoorJ5
import Derived.Test.YtgjpojaegjdjcaaGreatDoorJ7
import Derived.Test.YtgjpojaegjdjcaaGreatDoorJ8
section
/- The developers' Down, where rows may move. -/
namespace Go.Proofs.YtgjpojaegjdjcaaGreatDoor
set_option maxRecDepth 100000
open Go.RowKit
namespace Row

set_option maxHeartbeats 4000000 in
theorem down_fits (R C : Nat) (rs : List (List Cl)) (a : Look) (top bot n : Nat) (x : Value) (w : World) (h : Rws R C rs) (hx : Rm w x rs.flatten) (hs : Held rs.flatten) (ha : attrOk a = true) (ht : top ≤ bot) (hb : bot < R) (hn : n ≤ 9999) :
    Calls Tryz.prog 90 #[.agg #[.int .i64 R, .int .i64 C, x], .int .i64 top, .int .i64 bot, .int .i64 n, .agg #[.int .i64 a.fg, .int .i64 a.bg, .int .i64 a.flags]] w fun e w' =>
      ∃ v, e = .returned (.tuple #[.agg #[.int .i64 R, .int .i64 C, v], .int .i64 0]) ∧ OwnCs w' w.heap.size v (moved rs top bot (-(n : Int)) C a).flatten ∧ Below w.heap.size w w' := by
  have hlen := h.len
  have hR40 := h.r40
  have hC1 := h.c1
  have hC40 := h.c40
  have hfl : rs.flatten.length = R * C := by rw [even_length h.even, hlen]
  obtain ⟨m, hm⟩ : ∃ m, m = min n (bot + 1 - top) := ⟨_, rfl⟩
  have hmi : min (n : Int) ((bot : Int) + 1 - (top : Int)) = (m : Int) := by omega
  have HBX := Lib.hid (Boxes3.new w R C x a)
  have HRM := Lib.hid (fun w' (k : Rm w' x rs.flatten) => room_fits R C rs.flatten a top bot n x w' k hs h.grid ha ⟨by omega, by omega⟩ (by omega) ⟨by omega, by omega⟩)
  rw [hmi] at HRM
  have HLI := Lib.hid (fun w' (k : Rm w' x rs.flatten) => lines_any R C rs.flatten x w' k h.r1 hR40 hC1 hC40 hfl)
  have HEM := Lib.hid (fun w' => empties_any m a w' (by omega))
  have HFIN : Hid (∀ (w' : World) (lns : List Ln), rowsOfL C lns = rs → (rowsOfL C (downLns lns top bot m a)).flatten = (moved rs top bot (-(n : Int)) C a).flatten) := Lib.hid fun _ lns e => by rw [down_lns, e, down_rows ht (by omega) hm]
  have HKE := Lib.hid (fun (w' : World) (cv : Nat → Value) (k : ∀ i, i < R → Rm w' (cv i) (rowAt rs.flatten C i)) => And.intro (kept_ok h k) (rows_kept h cv))
  clear hs h hfl
  obtain ⟨l, HL⟩ : ∃ l, Hid (rs.flatten = l) := ⟨_, Lib.hid rfl⟩
  rw [HL.out] at hx HRM HLI HKE
  have HX := Lib.hid hx
  obtain ⟨en, hen⟩ : ∃ q, q = bot + 1 := ⟨_, rfl⟩
  obtain ⟨lo, hlo⟩ : ∃ q, q = bot + 1 - m := ⟨_, rfl⟩
  have hw1 : IntKind.i64.wrap ((bot : Int) + 1) = (en : Int) := by rw [IntKind.wrap_i64]; omega
  have hw2 : IntKind.i64.wrap ((en : Int) - (m : Int)) = (lo : Int) := by rw [IntKind.wrap_i64]; omega
  have HUP : Hid (∀ lns, downLns lns top bot m a = [lns.take top, List.replicate m (.empty a), (lns.drop top).take (lo - top), lns.drop en].flatten) := Lib.hid fun lns => by rw [hen, hlo]; rfl
  have HUL : Hid (∀ lns : List Ln, lns.length = R → (downLns lns top bot m a).length = R) := Lib.hid fun lns e => by rw [down_len a (by omega) (by omega), e]
  have HUO : Hid (∀ (w' : World) (lns : List Ln), LnsOk w' C lns → LnsOk w' C (downLns lns top bot m a)) := Lib.hid fun w' lns k => down_ok k top bot m ha
  obtain ⟨_, A, cp, rfl, _⟩ := hx
  have htl : top ≤ R := by omega
  have hloe : top ≤ lo := by omega
  have hlR : lo ≤ R := by omega
  have heR : en ≤ R := by omega
  clear hm hmi hen hlo ht hb hn ha hlen
  go_enter Tryz.func90, Tryz.ntmps90
  go_wp2_with fail
  refine (HRM.out _ (HX.out.kept HBX.out.two.below)).mono ?_; rintro e w2 ⟨rfl, hb2⟩
  have HX2 := Lib.hid (HBX.out.kept hb2)
  clear hb2 HBX
  obtain ⟨c0, c1, c2, k0, k1, k2⟩ := HX2.out.two.cells
  go_wp2_with fail
  refine (HLI.out _ (HX.out.kept HX2.out.two.below)).mono ?_; rintro e w3 ⟨v3, cv, rfl, ho3, hcv, hb3⟩
  have HX3 := Lib.hid (HX2.out.kept hb3)
  have HK3 := Lib.hid (HKE.out w2 cv hcv)
  have HK3' := Lib.hid (HK3.out.1.kept hb3)
  have hll : (keptOf cv l C (List.range R)).length = R := by rw [keptOf_length, List.length_range]
  generalize keptOf cv l C (List.range R) = lns at ho3 HK3 HK3' hll
  have HS3 := Lib.hid ho3.sv
  obtain ⟨A1, e1, hr1, hp1⟩ := ho3.sv.part_upto top (by omega)
  obtain ⟨A2, e2, hr2, hp2⟩ := ho3.sv.part_mid top lo hloe (by omega)
  obtain ⟨A4, e4, hr4, hp4⟩ := ho3.sv.part_from en (by omega)
  obtain ⟨n2, hn2⟩ : ∃ q, lo - top = q := ⟨_, rfl⟩
  obtain ⟨n4, hn4⟩ : ∃ q, lns.length - en = q := ⟨_, rfl⟩
  rw [hn2] at HUP hr2 hp2
  rw [hn4] at hr4 hp4
  have HP1 := Lib.hid hp1
  have HP2 := Lib.hid hp2
  have HP4 := Lib.hid hp4
  obtain ⟨A3, e3, rfl⟩ := own_shape ho3
  rw [hll] at hr1 hr2 hr4
  have HLL := Lib.hid hll
  have hsv := HS3.out
  clear hb3 hcv ho3 hn2 hn4 hsv HS3 HKE c0 c1 c2 k0 k1 k2 hp1 hp2 hp4
  obtain ⟨c0, c1, c2, k0, k1, k2⟩ := HX3.out.two.cells
  rw [hll]
  clear hll
  go_wp2_with fail
  have HX3D : Hid (Boxes3 w w3.drew R C (.slice A l.length cp) a) := Lib.hid HX3.out.drew
  have HEM3 := Lib.hid (HEM.out w3.drew)
  have HLA := Lib.hid (fun (v : Value) (w' : World) (lns' : List Ln) (k : Sv w' v lns') (k2 : LnsOk w' C lns') (k3 : lns'.length = R) => (show _ from k3 ▸ laid_any lns' C v w' k k2 hC1 hC40 (by omega) : Calls Tryz.prog 119 #[v, .int .i64 C] w' fun e w'' => ∃ v', e = .returned (.agg #[.int .i64 R, .int .i64 C, v']) ∧ OwnCs w'' w'.heap.size v' (rowsOfL C lns').flatten ∧ Below w'.heap.size w' w''))
  have HCC := Lib.hid (fun (xs : List Value) (x : Value) (w' : World) hxl hxx hcc => concatL_any [lns.take top, List.replicate m (.empty a), (lns.drop top).take n2, lns.drop en] xs x w' hxl hxx hcc (by rw [← HUP.out, HUL.out lns HLL.out]; omega) (by simp))
  rw [← HUP.out] at HCC
  have HUO3 := Lib.hid (HUO.out w3 lns HK3'.out)
  have HUL3 := Lib.hid (HUL.out lns HLL.out)
  have HF3 := Lib.hid (HFIN.out w3 lns HK3.out.2)
  generalize downLns lns top bot m a = ups at HCC HUO3 HUL3 HF3
  have HLU := Lib.hid (fun v w' k k2 => HLA.out v w' ups k k2 HUL3.out)
  rw [HF3.out] at HLU
  obtain ⟨res, HRS⟩ : ∃ q, Hid ((moved rs top bot (-(n : Int)) C a).flatten = q) := ⟨_, Lib.hid rfl⟩
  rw [HRS.out] at HLU
  clear HLA HF3
  clear HRM HLI HEM
  go_region_law (first
    | (have h := HS5.out; go_simp; go_at_call 119; refine (HLU.out _ _ h HO5.out).mono ?_; rintro e w6 ⟨v6, rfl, ho6, hb6⟩; obtain ⟨A8, e8, rfl⟩ := own_shape ho6; have HX6 := Lib.hid (HX5.out.kept hb6); have HO6 := Lib.hid (ho6.low HX5.out.size); have zk := HX6.out.size; have z0 : w6.cell? ⟨w.heap.size + 1 + 1, 0, none⟩ = some (.int .i64 0) := Blk.cell HX6.out.z 0; have z1 : w6.cell? ⟨w.heap.size + 1 + 1, 1, none⟩ = some (.int .i64 0) := Blk.cell HX6.out.z 1; have z2 : w6.cell? ⟨w.heap.size + 1 + 1, 2, none⟩ = some (.slice none 0 0) := Blk.cell HX6.out.z 2; have y0 : w6.frozen? ⟨w.heap.size + 1 + 1, 0, none⟩ = false := Blk.free HX6.out.z 0; have y1 : w6.frozen? ⟨w.heap.size + 1 + 1, 1, none⟩ = false := Blk.free HX6.out.z 1; have y2 : w6.frozen? ⟨w.heap.size + 1 + 1, 2, none⟩ = false := Blk.free HX6.out.z 2; clear ho6 hb6)
    | (have h := HB4.out; go_simp; go_at_call 120; have hba : Below w4.heap.size w4 (w4.alloc (.cells #[.slice A1 top e1, .slice A5 m e5, .slice A2 n2 e2, .slice A4 n4 e4] 161)) := (Below.refl _ _).alloc (Nat.le_refl _) _; refine (HCC.out [.slice A1 top e1, .slice A5 m e5, .slice A2 n2 e2, .slice A4 n4 e4] _ _ rfl (Src.made w4 _ _ 4 4 rfl) (four_of ((HP1.out.kept h).kept hba) (HS4.out.kept hba) ((HP2.out.kept h).kept hba) ((HP4.out.kept h).kept hba))).mono ?_; rintro e w5 ⟨v5, rfl, ho5, hb5⟩; have HX5 := Lib.hid ((HX4.out.alloc _).kept hb5); have hb45 : Below w4.heap.size w4 w5 := hba.trans (hb5.mono (by simp)); have HO5 := Lib.hid (HUO3.out.kept (h.trans (hb45.mono h.size))); have HS5 := Lib.hid ho5.sv; obtain ⟨A7, e7, rfl⟩ := own_shape ho5; rw [HUL3.out] at HS5 ⊢; have q1 : w5.cell? ⟨w.heap.size, 1, none⟩ = some (.int .i64 C) := HX5.out.two.cells.2.1; clear ho5 hb5 hba hb45)
    | (go_simp; go_at_call 121; refine HEM3.out.mono ?_; rintro e w4 ⟨v4, rfl, ho4, hb4⟩; have hb4' : Below w3.heap.size w3 w4 := (Below.refl _ _).drew.trans hb4; obtain ⟨A5, e5, rfl⟩ := own_shape ho4; have HX4 := Lib.hid (HX3.out.kept hb4'); have hs4 := ho4.sv; rw [List.length_replicate] at hs4; have HS4 := Lib.hid hs4; have HB4 := Lib.hid hb4'; have q1 : w4.cell? ⟨w.heap.size, 1, none⟩ = some (.int .i64 C) := HX4.out.two.cells.2.1; have zl4 : w.heap.size < w4.heap.size := (by have := HX4.out.size; omega); clear ho4 hb4 hb4' hs4))
  all_goals
    have HF := Lib.hid (gput_box HX6.out.z R C (.slice A8 res.length e8))
    have HO7 : Hid (OwnCs (gput w6 (w.heap.size + 2) R C (.slice A8 res.length e8)) (w.heap.size + 3) (.slice A8 res.length e8) res) := Lib.hid (gput_own HO6.out (Nat.lt_succ_self _) _ _ _)
    have HB7 : Hid (Below w.heap.size w (gput w6 (w.heap.size + 2) R C (.slice A8 res.length e8))) := Lib.hid (gput_below HX6.out.two.below (by omega) _ _ _)
    clear z0 z1 z2 y0 y1 y2 q1 c0 c1 c2 k0 k1 k2 hr1 hr2 hr4
    go_wp2_with fail
    show bodyPost _ _ _ _ _ (gput w6 (w.heap.size + 2) R C (.slice A8 res.length e8))
    generalize gput w6 (w.heap.size + 2) R C (.slice A8 res.length e8) = wF at HF HO7 HB7 ⊢
    have z0 : wF.cell? ⟨w.heap.size + 1 + 1, 0, none⟩ = some (.int .i64 R) := Blk.cell HF.out 0
    have z1 : wF.cell? ⟨w.heap.size + 1 + 1, 1, none⟩ = some (.int .i64 C) := Blk.cell HF.out 1
    have z2 : wF.cell? ⟨w.heap.size + 1 + 1, 2, none⟩ = some (.slice A8 res.length e8) := Blk.cell HF.out 2
    exact bodyPost_ret (v := .tuple #[.agg #[.int .i64 R, .int .i64 C, .slice A8 res.length e8], .int .i64 0]) (by simp [results, Tryz.results90, go_sem, z0, z1, z2]) rfl ⟨_, rfl, by rw [HRS.out]; exact HO7.out.low (by omega), HB7.out⟩
end Row
end Go.Proofs.YtgjpojaegjdjcaaGreatDoor
end
