/- What the laws on how cells look share: num, bold and red; and the law on what makes an attribute. -/
import Derived.Test.YtabplmhmanbmjaaSgrDev6
import Derived.Test.YtabplmhmanbmjaaSgrAsk
import Derived.StillTailTactics
import Derived.Deep.RegionLaw
import Derived.Deep.DeepCutAuto
namespace Go.Proofs.Ytabplmhmanbmjaa
set_option maxRecDepth 100000
open Go.RowKit
namespace Sl4
open Sgr Sd

theorem num_any (n : Int) (w : World) : Calls Try.prog 10 #[.int .i64 n] w fun e w' => e = .returned (.int .i64 n) ∧ w = w' := by
  go_enter Try.func10, Try.ntmps10
  go_wp2_with fail
  go_ret
  exact ⟨rfl, rfl⟩
theorem add01 : addFlag 0 (flagOf 1) = 1 := by decide +kernel
theorem bold_red : applyOf bare [1, 31] = ⟨1, -1, 1⟩ := by
  unfold applyOf
  rw [if_neg (by simp), runs_one _ _ _ (by decide), runs_one _ _ _ (by decide), runs_nil]
  show one (one bare 1) 31 = _
  have e : one bare 1 = ⟨-1, -1, 1⟩ := by
    unfold one
    rw [if_neg (by decide), if_pos (by decide)]
    show (⟨-1, -1, addFlag 0 (flagOf 1)⟩ : Look) = _
    rw [add01]
  rw [e]; rfl
set_option maxHeartbeats 1600000 in
theorem wakes_any (w : World) : Calls Try.prog 18 #[] w fun e w' => e = .returned (.bool true) ∧ Below w.heap.size w w' := by
  go_enter Try.func18, Try.ntmps18
  go_wp2_with fail
  have hf := apply_good bare [1, 31] (.slice (some ⟨w.heap.size, 0, none⟩) 2 2) (w.alloc (.cells (ints [1, 31]).toArray 3)) (Sl.made w [1, 31] _) (by decide) (by decide) (by decide)
  rw [bold_red] at hf
  refine hf.mono ?_
  rintro e w1 ⟨rfl, hb1⟩
  have HB : Hid (Below w.heap.size w w1) := Lib.hid (((Below.refl _ _).alloc (Nat.le_refl _) _).trans (hb1.mono (by simp)))
  clear hf hb1
  go_wp2_with fail
  refine (num_any 0 _).mono ?_; rintro e wn ⟨rfl, rfl⟩
  go_wp2_with fail
  go_ret
  exact ⟨rfl, HB.out.alloc HB.out.size _⟩
/-- Three cells of a struct that lies there. -/
theorem three_cells {w : World} {a : Addr} {q : Look} (h : At w a (lkVals q)) : w.cell? a = some (.int .i64 q.fg) ∧ w.cell? { block := a.block, off := a.off + 1 } = some (.int .i64 q.bg) ∧ w.cell? { block := a.block, off := a.off + 2 } = some (.int .i64 q.flags) :=
  ⟨h.head, h.next 0 rfl, h.next 1 rfl⟩
/-- Ten cells are kept. -/
theorem keep10 {w w' : World} {a0 a1 a2 a3 a4 a5 a6 a7 a8 a9 : Addr} {u0 u1 u2 u3 u4 u5 u6 u7 u8 u9 : Value} (h : w.cell? a0 = some u0 ∧ w.cell? a1 = some u1 ∧ w.cell? a2 = some u2 ∧ w.cell? a3 = some u3 ∧ w.cell? a4 = some u4 ∧ w.cell? a5 = some u5 ∧ w.cell? a6 = some u6 ∧ w.cell? a7 = some u7 ∧ w.cell? a8 = some u8 ∧ w.cell? a9 = some u9) (hb : Below w.heap.size w w') :
    w'.cell? a0 = some u0 ∧ w'.cell? a1 = some u1 ∧ w'.cell? a2 = some u2 ∧ w'.cell? a3 = some u3 ∧ w'.cell? a4 = some u4 ∧ w'.cell? a5 = some u5 ∧ w'.cell? a6 = some u6 ∧ w'.cell? a7 = some u7 ∧ w'.cell? a8 = some u8 ∧ w'.cell? a9 = some u9 :=
  ⟨cell_kept hb h.1, cell_kept hb h.2.1, cell_kept hb h.2.2.1, cell_kept hb h.2.2.2.1, cell_kept hb h.2.2.2.2.1, cell_kept hb h.2.2.2.2.2.1, cell_kept hb h.2.2.2.2.2.2.1, cell_kept hb h.2.2.2.2.2.2.2.1, cell_kept hb h.2.2.2.2.2.2.2.2.1, cell_kept hb h.2.2.2.2.2.2.2.2.2⟩
set_option maxHeartbeats 6400000 in
theorem lawBack_any {x y : Value} (l : List Look) (ls : List (List Int)) (w : World) (hx : Atts w x l) (hn : l.length ≤ 140737488355328) (hy : Lists w y ls) (hm : ls.length ≤ 140737488355328) (hz : ∀ k, k < ls.length → (ls.getD k []).length ≤ 140737488355328) :
    Calls Try.prog 5 #[.agg #[x, y]] w fun e w' => e = .returned (.bool true) ∧ Below w.heap.size w w' := by
  obtain ⟨A, c, rfl, hfx⟩ := hx.form
  obtain ⟨A', c', rfl, _⟩ := hy.form
  have HX := Lib.hid hx
  have HY := Lib.hid hy
  have HZ := Lib.hid hz
  have HFX := Lib.hid hfx
  clear hx hy hz hfx
  go_enter Try.func5, Try.ntmps5
  go_wp2_with fail
  have HB0 : Hid (Below w.heap.size w (w.alloc (.cells #[.slice A l.length c, .slice A' ls.length c'] 25))) := Lib.hid ((Below.refl _ _).alloc (Nat.le_refl _) _)
  have HK0 := Lib.hid (heap_alloc_new w (.cells #[.slice A l.length c, .slice A' ls.length c'] 25))
  generalize w.alloc (.cells #[.slice A l.length c, .slice A' ls.length c'] 25) = w0 at HB0 HK0 ⊢
  refine (heavy_any l ls _ (HX.out.kept HB0.out) hn (HY.out.kept HB0.out) hm HZ.out).mono ?_
  rintro e w1 ⟨b, rfl, hfew, hb1⟩
  have HB1 : Hid (Below w.heap.size w w1) := Lib.hid (HB0.out.trans (hb1.mono HB0.out.size))
  have HK1 := Lib.hid (Blk.kept HK0.out hb1)
  have HW := Lib.hid hfew
  clear hfew hb1
  obtain ⟨g, hg⟩ : ∃ g, w.heap.size = g := ⟨_, rfl⟩
  rw [hg] at HK1 HB1 ⊢
  have HG := Lib.hid hg
  clear hg
  cases b with
  | true =>
    go_wp2_with fail
    go_ret
    exact ⟨rfl, by rw [HG.out]; exact HB1.out⟩
  | false =>
    have HFW := Lib.hid (HW.out rfl)
    go_wp2_with fail
    go_loopw [3] (fun i wr => ∃ k : Nat, k ≤ l.length ∧ i = .int .i64 k ∧ Below w1.heap.size w1 wr) (fun i _ => l.length - (intOf i).toNat)
    case atStart => exact ⟨0, by omega, rfl, Below.refl _ _⟩
    case round =>
      obtain ⟨i, hi, rfl, hbl⟩ := hrel
      have hzl := hbl.size
      have HKr := Lib.hid (Blk.kept HK1.out hbl)
      have HBr : Hid (Below g w wr) := Lib.hid (HB1.out.trans (hbl.mono (by have := HB1.out.size; have := HG.out; omega)))
      have k0 : wr.cell? ⟨g, 0, none⟩ = some (.slice A l.length c) := Blk.cell HKr.out 0
      by_cases hlt : i < l.length ∧ i < 6
      · obtain ⟨hlt, hi6⟩ := hlt
        obtain ⟨ad, rfl, ha⟩ := HFX.out i hlt
        have KA := Lib.hid (ha.kept (by rw [HG.out]; exact HBr.out))
        generalize l.getD i bare = X at KA
        clear ha
        obtain ⟨p0, p1, p2⟩ := three_cells KA.out
        cases hax : attrOk X with
        | false =>
          have HAX := Lib.hid hax
          clear hax
          go_wp2_with fail
          refine (line_any X false HAX.out _).mono ?_
          rintro e w2 ⟨u, rfl, hu, hb2⟩
          simp only [cond_false]
          go_wp2_with fail
          refine (num_any 1 _).mono ?_; rintro e wn ⟨rfl, rfl⟩
          go_wp2_with fail
          go_roundw
          case rel => exact ⟨i + 1, by omega, by go_num, hbl.trans (hb2.mono hzl)⟩
          case measure => simp [intOf]; omega
        | true =>
          have HAX := Lib.hid hax
          clear hax
          go_wp2_with fail
          refine (line_any X true HAX.out _).mono ?_
          rintro e w2 ⟨u, rfl, hu, hb2⟩
          simp only [cond_true] at hu ⊢
          have HU := Lib.hid (Sl.own hu)
          have HB2 := Lib.hid hb2
          have HK2 := Lib.hid (Blk.kept HKr.out hb2)
          have HA2 := Lib.hid (KA.out.kept hb2)
          clear hu hb2 p0 p1 p2 k0
          go_wp2_with fail
          refine (num_any 0 _).mono ?_; rintro e wn ⟨rfl, rfl⟩
          go_wp2_with fail
          obtain ⟨wo, rfl⟩ : ∃ wo : World, wo = wr := ⟨_, rfl⟩
          go_loopw [6] (fun j wr => ∃ k : Nat, k ≤ l.length ∧ j = .int .i64 k ∧ Below w2.heap.size w2 wr) (fun j _ => l.length - (intOf j).toNat)
          case atStart => exact ⟨0, by omega, rfl, Below.refl _ _⟩
          case round =>
            obtain ⟨k, hk, rfl, hbl2⟩ := hrel
            have HBr2 : Hid (Below g w wr) := Lib.hid (HBr.out.trans ((HB2.out.trans (hbl2.mono HB2.out.size)).mono (by have := HBr.out.size; have := HG.out; omega)))
            have HKr2 := Lib.hid (Blk.kept HK2.out hbl2)
            have k0 : wr.cell? ⟨g, 0, none⟩ = some (.slice (some ad) l.length c) := Blk.cell HKr2.out 0
            by_cases hlt2 : k < l.length ∧ k < 6
            · obtain ⟨hlt2, hk6⟩ := hlt2
              obtain ⟨ad', e', ha⟩ := HFX.out k hlt2
              obtain rfl : ad = ad' := by simpa using e'
              have KB := Lib.hid (ha.kept (by rw [HG.out]; exact HBr2.out))
              generalize l.getD k bare = Y at KB
              obtain ⟨p0, p1, p2⟩ := three_cells KB.out
              have HQL : Hid ((decide ((lineOf X).length ≤ 32) && paramsOk (lineOf X)) = true) := Lib.hid (by rw [lineOf_ok X HAX.out, decide_eq_true (by have := lineOf_len X; omega)]; rfl)
              have HNL : Hid ((lineOf X).length ≤ 1000000) := Lib.hid (by have := lineOf_len X; omega)
              have HAP : Hid (applyOf Y (lineOf X) = X) := Lib.hid (apply_line Y X HAX.out)
              clear ha e'
              go_wp2_with fail
              cases hay : attrOk Y with
              | false =>
                have HPL : Hid ((attrOk Y && (decide ((lineOf X).length ≤ 32) && paramsOk (lineOf X))) = false) := Lib.hid (by rw [hay, HQL.out]; rfl)
                have HAY := Lib.hid hay
                clear hay
                refine (apply_any Y (lineOf X) u _ (HU.out.kept hbl2) HNL.out false HPL.out).mono ?_
                rintro e w3 ⟨rfl, hb3⟩
                simp only [cond_false]
                have HB3 := Lib.hid hb3
                have HKr3 := Lib.hid (Blk.kept HKr2.out hb3)
                have HA3 := Lib.hid ((HA2.out.kept hbl2).kept hb3)
                have HC3 := Lib.hid (KB.out.kept hb3)
                clear hb3 p0 p1 p2 k0
                go_upto_region 12 with (fail)
                obtain ⟨Z, hZ⟩ : ∃ Z : Look, Z = ⟨0, 0, 0⟩ := ⟨_, rfl⟩
                have hal : Below w3.heap.size w3 (w3.alloc (.cells #[.int .i64 0, .int .i64 0, .int .i64 0] 29)) := (Below.refl _ _).alloc (Nat.le_refl _) _
                have hnew := heap_alloc_new w3 (.cells #[.int .i64 0, .int .i64 0, .int .i64 0] 29)
                generalize w3.alloc (.cells #[.int .i64 0, .int .i64 0, .int .i64 0] 29) = w4 at hal hnew ⊢
                obtain ⟨gt, hgt⟩ : ∃ gt, w3.heap.size = gt := ⟨_, rfl⟩
                have HB4 : Hid (Below w2.heap.size w2 w4) := Lib.hid (hbl2.trans ((HB3.out.trans (hal.mono HB3.out.size)).mono hbl2.size))
                have HC4 := Lib.hid (HC3.out.kept hal)
                have hk4 := Blk.cell (Blk.kept HKr3.out hal) 0
                obtain ⟨p0, p1, p2⟩ := three_cells (HC3.out.kept hal)
                obtain ⟨q0, q1, q2⟩ := three_cells (HA3.out.kept hal)
                have t0 := Blk.cell hnew 0
                have t1 := Blk.cell hnew 1
                have t2 := Blk.cell hnew 2
                rw [hgt] at t0 t1 t2 ⊢
                have HALL : Hid (w4.cell? ⟨g, 0, none⟩ = some (.slice (some ad) l.length c) ∧ w4.cell? (ad.add (k * 3)) = some (.int .i64 Y.fg) ∧ w4.cell? ⟨(ad.add (k * 3)).block, (ad.add (k * 3)).off + 1, none⟩ = some (.int .i64 Y.bg) ∧ w4.cell? ⟨(ad.add (k * 3)).block, (ad.add (k * 3)).off + 2, none⟩ = some (.int .i64 Y.flags) ∧ w4.cell? (ad.add (i * 3)) = some (.int .i64 X.fg) ∧ w4.cell? ⟨(ad.add (i * 3)).block, (ad.add (i * 3)).off + 1, none⟩ = some (.int .i64 X.bg) ∧ w4.cell? ⟨(ad.add (i * 3)).block, (ad.add (i * 3)).off + 2, none⟩ = some (.int .i64 X.flags) ∧ w4.cell? ⟨gt, 0, none⟩ = some (.int .i64 Z.fg) ∧ w4.cell? ⟨gt, 1, none⟩ = some (.int .i64 Z.bg) ∧ w4.cell? ⟨gt, 2, none⟩ = some (.int .i64 Z.flags)) := Lib.hid ⟨hk4, p0, p1, p2, q0, q1, q2, by rw [hZ]; exact t0, by rw [hZ]; exact t1, by rw [hZ]; exact t2⟩
                clear hal hnew hgt hk4 p0 p1 p2 q0 q1 q2 t0 t1 t2 hZ
                have hk4 := HALL.out.1
                have p0 := HALL.out.2.1
                have p1 := HALL.out.2.2.1
                have p2 := HALL.out.2.2.2.1
                go_cut [76] (fun s76 wx => s76 = .bool false ∧ Below w4.heap.size w4 wx)
                case first =>
                  go_region_law (first
                      | (rename_i KK hKK; go_simp; go_at_call 10; refine (num_any 1 _).mono ?_; rintro e wn ⟨rfl, rfl⟩; go_simp; refine hKK _ _ ?_; clear hKK KK; refine wpAny_take (i := 7) (v := .bool false) rfl (by kernel_rfl) (by kernel_rfl) (by kernel_rfl) (fun _ _ _ h => h) (Or.inl ⟨by kernel_rfl, fun w => by go_simp⟩) ?_; refine wpAny_take (i := 8) (v := .bool false) rfl (by kernel_rfl) (by kernel_rfl) (by kernel_rfl) (fun _ _ _ h => h) (Or.inl ⟨by kernel_rfl, fun w => by go_simp⟩) ?_; refine wpAny_take (i := 9) (v := undef) rfl (by kernel_rfl) (by kernel_rfl) (by kernel_rfl) (fun _ _ _ h => h) (Or.inr ⟨by kernel_rfl, rfl⟩) ?_; refine wpAny_take (i := 10) (v := undef) rfl (by kernel_rfl) (by kernel_rfl) (by kernel_rfl) (fun _ _ _ h => h) (Or.inr ⟨by kernel_rfl, rfl⟩) ?_; refine wpAny_take (i := 11) (v := undef) rfl (by kernel_rfl) (by kernel_rfl) (by kernel_rfl) (fun _ _ _ h => h) (Or.inr ⟨by kernel_rfl, rfl⟩) ?_; refine wpAny_take (i := 12) (v := undef) rfl (by kernel_rfl) (by kernel_rfl) (by kernel_rfl) (fun _ _ _ h => h) (Or.inr ⟨by kernel_rfl, rfl⟩) ?_; refine wpAny_take (i := 13) (v := undef) rfl (by kernel_rfl) (by kernel_rfl) (by kernel_rfl) (fun _ _ _ h => h) (Or.inr ⟨by kernel_rfl, rfl⟩) ?_; refine wpAny_take (i := 14) (v := undef) rfl (by kernel_rfl) (by kernel_rfl) (by kernel_rfl) (fun _ _ _ h => h) (Or.inr ⟨by kernel_rfl, rfl⟩) ?_; refine wpAny_take (i := 15) (v := undef) rfl (by kernel_rfl) (by kernel_rfl) (by kernel_rfl) (fun _ _ _ h => h) (Or.inr ⟨by kernel_rfl, rfl⟩) ?_; refine wpAny_take (i := 16) (v := undef) rfl (by kernel_rfl) (by kernel_rfl) (by kernel_rfl) (fun _ _ _ h => h) (Or.inr ⟨by kernel_rfl, rfl⟩) ?_; refine wpAny_take (i := 17) (v := undef) rfl (by kernel_rfl) (by kernel_rfl) (by kernel_rfl) (fun _ _ _ h => h) (Or.inr ⟨by kernel_rfl, rfl⟩) ?_; refine wpAny_take (i := 18) (v := undef) rfl (by kernel_rfl) (by kernel_rfl) (by kernel_rfl) (fun _ _ _ h => h) (Or.inr ⟨by kernel_rfl, rfl⟩) ?_; refine wpAny_take (i := 19) (v := undef) rfl (by kernel_rfl) (by kernel_rfl) (by kernel_rfl) (fun _ _ _ h => h) (Or.inr ⟨by kernel_rfl, rfl⟩) ?_; refine wpAny_take (i := 20) (v := undef) rfl (by kernel_rfl) (by kernel_rfl) (by kernel_rfl) (fun _ _ _ h => h) (Or.inr ⟨by kernel_rfl, rfl⟩) ?_; refine wpAny_take (i := 21) (v := .bool false) rfl (by kernel_rfl) (by kernel_rfl) (by kernel_rfl) (fun _ _ _ h => h) (Or.inl ⟨by kernel_rfl, fun w => by go_simp⟩) ?_)
                      | (go_simp; go_at_call 11; refine (check_any Y false HAY.out w4.drew).mono ?_; rintro e w5 ⟨rfl, hb5⟩; simp only [cond_false]; have HB5 := Lib.hid (show Below w4.heap.size w4 w5 from (Below.refl _ _).drew.trans hb5); clear hb5))
                  all_goals
                    go_wp2_with fail
                    go_meet
                    exact ⟨rfl, HB5.out⟩
                case rest =>
                  obtain ⟨rfl, hbc⟩ := hcut
                  go_wp2_with fail
                  go_roundw
                  case rel => exact ⟨k + 1, by omega, by go_num, HB4.out.trans (hbc.mono HB4.out.size)⟩
                  case measure => simp [intOf]; omega
              | true =>
                have HPL : Hid ((attrOk Y && (decide ((lineOf X).length ≤ 32) && paramsOk (lineOf X))) = true) := Lib.hid (by rw [hay, HQL.out]; rfl)
                have HAY := Lib.hid hay
                clear hay
                refine (apply_any Y (lineOf X) u _ (HU.out.kept hbl2) HNL.out true HPL.out).mono ?_
                rintro e w3 ⟨rfl, hb3⟩
                simp only [cond_true]
                rw [HAP.out]
                have HB3 := Lib.hid hb3
                have HKr3 := Lib.hid (Blk.kept HKr2.out hb3)
                have HA3 := Lib.hid ((HA2.out.kept hbl2).kept hb3)
                have HC3 := Lib.hid (KB.out.kept hb3)
                clear hb3 p0 p1 p2 k0
                go_upto_region 12 with (fail)
                have hal : Below w3.heap.size w3 (w3.alloc (.cells #[.int .i64 X.fg, .int .i64 X.bg, .int .i64 X.flags] 29)) := (Below.refl _ _).alloc (Nat.le_refl _) _
                have hnew := heap_alloc_new w3 (.cells #[.int .i64 X.fg, .int .i64 X.bg, .int .i64 X.flags] 29)
                generalize w3.alloc (.cells #[.int .i64 X.fg, .int .i64 X.bg, .int .i64 X.flags] 29) = w4 at hal hnew ⊢
                obtain ⟨gt, hgt⟩ : ∃ gt, w3.heap.size = gt := ⟨_, rfl⟩
                have HB4 : Hid (Below w2.heap.size w2 w4) := Lib.hid (hbl2.trans ((HB3.out.trans (hal.mono HB3.out.size)).mono hbl2.size))
                have HC4 := Lib.hid (HC3.out.kept hal)
                have hk4 := Blk.cell (Blk.kept HKr3.out hal) 0
                obtain ⟨p0, p1, p2⟩ := three_cells (HC3.out.kept hal)
                obtain ⟨q0, q1, q2⟩ := three_cells (HA3.out.kept hal)
                have t0 := Blk.cell hnew 0
                have t1 := Blk.cell hnew 1
                have t2 := Blk.cell hnew 2
                rw [hgt] at t0 t1 t2 ⊢
                have HALL : Hid (w4.cell? ⟨g, 0, none⟩ = some (.slice (some ad) l.length c) ∧ w4.cell? (ad.add (k * 3)) = some (.int .i64 Y.fg) ∧ w4.cell? ⟨(ad.add (k * 3)).block, (ad.add (k * 3)).off + 1, none⟩ = some (.int .i64 Y.bg) ∧ w4.cell? ⟨(ad.add (k * 3)).block, (ad.add (k * 3)).off + 2, none⟩ = some (.int .i64 Y.flags) ∧ w4.cell? (ad.add (i * 3)) = some (.int .i64 X.fg) ∧ w4.cell? ⟨(ad.add (i * 3)).block, (ad.add (i * 3)).off + 1, none⟩ = some (.int .i64 X.bg) ∧ w4.cell? ⟨(ad.add (i * 3)).block, (ad.add (i * 3)).off + 2, none⟩ = some (.int .i64 X.flags) ∧ w4.cell? ⟨gt, 0, none⟩ = some (.int .i64 X.fg) ∧ w4.cell? ⟨gt, 1, none⟩ = some (.int .i64 X.bg) ∧ w4.cell? ⟨gt, 2, none⟩ = some (.int .i64 X.flags)) := Lib.hid ⟨hk4, p0, p1, p2, q0, q1, q2, t0, t1, t2⟩
                clear hal hnew hgt hk4 p0 p1 p2 q0 q1 q2 t0 t1 t2 
                have hk4 := HALL.out.1
                have p0 := HALL.out.2.1
                have p1 := HALL.out.2.2.1
                have p2 := HALL.out.2.2.2.1
                go_cut [76] (fun s76 wx => s76 = .bool false ∧ Below w4.heap.size w4 wx)
                case first =>
                  go_region_law (first
                      | (go_simp; go_at_call 10; refine (num_any _ _).mono ?_; rintro e wn ⟨rfl, rfl⟩)
                      | (go_simp; go_at_call 11; refine (check_any Y true HAY.out w4.drew).mono ?_; rintro e w5 ⟨rfl, hb5⟩; simp only [cond_true]; have HB5 := Lib.hid (show Below w4.heap.size w4 w5 from (Below.refl _ _).drew.trans hb5); obtain ⟨k0, p0, p1, p2, q0, q1, q2, t0, t1, t2⟩ := keep10 HALL.out HB5.out; clear hb5))
                  all_goals
                    go_wp2_with fail
                    go_meet
                    exact ⟨rfl, HB5.out⟩
                case rest =>
                  obtain ⟨rfl, hbc⟩ := hcut
                  go_wp2_with fail
                  go_roundw
                  case rel => exact ⟨k + 1, by omega, by go_num, HB4.out.trans (hbc.mono HB4.out.size)⟩
                  case measure => simp [intOf]; omega
            · by_cases hkn : k < l.length
              · have hk6 : decide ((k : Int) < 6) = false := decide_eq_false (by omega)
                clear hlt2
                go_wp2_with fail
                go_roundw
                case rel => exact ⟨i + 1, by omega, by go_num, hbl.trans ((HB2.out.trans (hbl2.mono HB2.out.size)).mono hzl)⟩
                case measure => simp [intOf]; omega
              · have hk6 : decide (k < l.length) = false := decide_eq_false hkn
                clear hlt2
                go_wp2_with fail
                go_roundw
                case rel => exact ⟨i + 1, by omega, by go_num, hbl.trans ((HB2.out.trans (hbl2.mono HB2.out.size)).mono hzl)⟩
                case measure => simp [intOf]; omega
      · by_cases hkn : i < l.length
        · have hk6 : decide ((i : Int) < 6) = false := decide_eq_false (by omega)
          clear hlt
          go_wp2_with fail
          refine (wakes_any _).mono ?_
          rintro e w2 ⟨rfl, hb2⟩
          go_wp2_with fail
          go_ret
          exact ⟨rfl, by rw [HG.out]; exact HBr.out.trans (hb2.mono (by have := HBr.out.size; have := HG.out; omega))⟩
        · have hk6 : decide (i < l.length) = false := decide_eq_false hkn
          clear hlt
          go_wp2_with fail
          refine (wakes_any _).mono ?_
          rintro e w2 ⟨rfl, hb2⟩
          go_wp2_with fail
          go_ret
          exact ⟨rfl, by rw [HG.out]; exact HBr.out.trans (hb2.mono (by have := HBr.out.size; have := HG.out; omega))⟩
end Sl4
end Go.Proofs.Ytabplmhmanbmjaa
