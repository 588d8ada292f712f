/- The walk of the law on feeding: of any states and texts it answers true. -/
import Derived.Test.YtjodbmfjdpbbnaaDoorVtOver
import Derived.Test.YtjodbmfjdpbbnaaDoorVtLawE
import Derived.Deep.RegionHeld3
namespace Go.Proofs.YtjodbmfjdpbbnaaDoor
set_option maxRecDepth 100000
open Go.RowKit
namespace Vl
open Vt Vd

theorem check_at (p : Ps) (u : Value) (n : Int) (hn : chk p = n) (w : World) (hu : Src w u p.params.length (ints p.params)) (hp : Slim p 2000) (ht : Utf.Tabs w) :
    Calls Tryd.prog 8 #[.agg #[.int .i64 p.state, .string ⟨p.part.toArray⟩, u, .string ⟨p.inter.toArray⟩, .string ⟨p.text.toArray⟩]] w fun e w' => e = .returned (.int .i64 n) ∧ Below w.heap.size w w' := by
  subst hn
  exact check_any p u w hu (by have := hp.part; omega) (by have := hp.params; omega) (by have := hp.inter; omega) (by have := hp.text; omega) ht
theorem state_at (p : Ps) (u : Value) (v : Bool) (hv : okB p = v) (w : World) (hu : Src w u p.params.length (ints p.params)) (hp : Slim p 2000) :
    Calls Tryd.prog 9 #[.agg #[.int .i64 p.state, .string ⟨p.part.toArray⟩, u, .string ⟨p.inter.toArray⟩, .string ⟨p.text.toArray⟩]] w fun e w' => e = .returned (.bool v) ∧ Below w.heap.size w w' := by
  subst hv
  exact state_any p u w hu (by have := hp.part; omega)
theorem chk_cases (p : Ps) : ∃ (n : Int) (v : Bool), chk p = n ∧ okB p = v ∧ (n == 0) = v ∧ (v = true → n = 0) ∧ (v = false → n = 1) := by
  cases h : okB p with
  | true => exact ⟨0, true, by unfold chk; rw [h]; rfl, rfl, rfl, fun _ => rfl, fun e => by cases e⟩
  | false => exact ⟨1, false, by unfold chk; rw [h]; rfl, rfl, rfl, fun e => (by cases e), fun _ => rfl⟩
theorem slim_zero : ∀ k, k < [none_ 0].length → Slim ([none_ 0].getD k (none_ 0)) 2000 := slim_all (by
  intro p hp
  obtain rfl : p = none_ 0 := by simpa using hp
  exact ⟨by decide, by decide, by decide, by decide⟩)

theorem keep20 {w w' : World} {a0 a1 a2 a3 a4 a5 a6 a7 a8 a9 a10 a11 a12 a13 a14 a15 a16 a17 a18 a19 : Addr} {u0 u1 u2 u3 u4 u5 u6 u7 u8 u9 u10 u11 u12 u13 u14 u15 u16 u17 u18 u19 : Value} (h : w.cell? a0 = some u0 ∧ w.cell? a1 = some u1 ∧ w.cell? a2 = some u2 ∧ w.cell? a3 = some u3 ∧ w.cell? a4 = some u4 ∧ w.cell? a5 = some u5 ∧ w.cell? a6 = some u6 ∧ w.cell? a7 = some u7 ∧ w.cell? a8 = some u8 ∧ w.cell? a9 = some u9 ∧ w.cell? a10 = some u10 ∧ w.cell? a11 = some u11 ∧ w.cell? a12 = some u12 ∧ w.cell? a13 = some u13 ∧ w.cell? a14 = some u14 ∧ w.cell? a15 = some u15 ∧ w.cell? a16 = some u16 ∧ w.cell? a17 = some u17 ∧ w.cell? a18 = some u18 ∧ w.cell? a19 = some u19) (hb : Below w.heap.size w w') : w'.cell? a0 = some u0 ∧ w'.cell? a1 = some u1 ∧ w'.cell? a2 = some u2 ∧ w'.cell? a3 = some u3 ∧ w'.cell? a4 = some u4 ∧ w'.cell? a5 = some u5 ∧ w'.cell? a6 = some u6 ∧ w'.cell? a7 = some u7 ∧ w'.cell? a8 = some u8 ∧ w'.cell? a9 = some u9 ∧ w'.cell? a10 = some u10 ∧ w'.cell? a11 = some u11 ∧ w'.cell? a12 = some u12 ∧ w'.cell? a13 = some u13 ∧ w'.cell? a14 = some u14 ∧ w'.cell? a15 = some u15 ∧ w'.cell? a16 = some u16 ∧ w'.cell? a17 = some u17 ∧ w'.cell? a18 = some u18 ∧ w'.cell? a19 = some u19 :=
  ⟨cell_kept hb h.1, cell_kept hb h.2.1, cell_kept hb h.2.2.1, cell_kept hb h.2.2.2.1, cell_kept hb h.2.2.2.2.1, cell_kept hb h.2.2.2.2.2.1, cell_kept hb h.2.2.2.2.2.2.1, cell_kept hb h.2.2.2.2.2.2.2.1, cell_kept hb h.2.2.2.2.2.2.2.2.1, cell_kept hb h.2.2.2.2.2.2.2.2.2.1, cell_kept hb h.2.2.2.2.2.2.2.2.2.2.1, cell_kept hb h.2.2.2.2.2.2.2.2.2.2.2.1, cell_kept hb h.2.2.2.2.2.2.2.2.2.2.2.2.1, cell_kept hb h.2.2.2.2.2.2.2.2.2.2.2.2.2.1, cell_kept hb h.2.2.2.2.2.2.2.2.2.2.2.2.2.2.1, cell_kept hb h.2.2.2.2.2.2.2.2.2.2.2.2.2.2.2.1, cell_kept hb h.2.2.2.2.2.2.2.2.2.2.2.2.2.2.2.2.1, cell_kept hb h.2.2.2.2.2.2.2.2.2.2.2.2.2.2.2.2.2.1, cell_kept hb h.2.2.2.2.2.2.2.2.2.2.2.2.2.2.2.2.2.2.1, cell_kept hb h.2.2.2.2.2.2.2.2.2.2.2.2.2.2.2.2.2.2.2⟩
theorem u8_info : (Tryd.prog.info? 5).map (fun i => (i.zero, i.size, i.bytes)) = some (some (.int .u8 0), 1, 1) := by kernel_rfl
/-- Many zero bytes, made and told as a text. -/
theorem many_n (n : Nat) (hn : n ≤ 1000000) (w : World) : ∃ wm S, (Instr.makeSlice 46 (.int .i64 n) (.int .i64 n)).run Tryd.prog w = .ok (.slice (some ⟨w.heap.size, 0, none⟩) n n) wm ∧
    (convert 46 9 (.slice (some ⟨w.heap.size, 0, none⟩) n n)).run Tryd.prog wm = .ok (.string S) wm ∧ S.size = n ∧ Below w.heap.size w wm := by
  obtain ⟨i, hi, hz, h1, h2⟩ := info_parts u8_info
  obtain ⟨wm, hr, ho, hg⟩ := run_make_full (P := Tryd.prog) w w.heap.size 46 5 i _ 1 Tryd.underlying46 hi hz h1 .i64 .i64 n (by rw [h2]; omega) (by simp only [maxLen]; omega) (Nat.le_refl _)
  have hl : (List.replicate n (0 : UInt8)).length = n := List.length_replicate
  have hc := run_convert_bytes_back (P := Tryd.prog) wm 46 9 5 ⟨w.heap.size, 0, none⟩ n (List.replicate n 0) Tryd.underlying46 Tryd.underlying5 Tryd.underlying9 (fun j hj => by
    rw [List.getElem_replicate]
    rw [hl] at hj
    exact ho.cells (g := w.heap.size) rfl j (.int .u8 0) (by
      rw [Nat.mul_one, show (Value.int .u8 0).cells = #[.int .u8 0] from rfl, toList_madeCells_one, List.getElem?_replicate, if_pos hj]))
  rw [hl] at hc
  refine ⟨wm, _, hr, hc, ?_, ⟨hg.os, hg.tape, hg.output, hg.size, fun k hk => hg.block k hk (by simp)⟩⟩
  show (List.replicate n (0 : UInt8)).toArray.size = n
  rw [List.size_toArray, hl]
theorem many_zero (w : World) : ∃ wm S, (Instr.makeSlice 46 (.int .i64 4001) (.int .i64 4001)).run Tryd.prog w = .ok (.slice (some ⟨w.heap.size, 0, none⟩) 4001 4001) wm ∧
    (convert 46 9 (.slice (some ⟨w.heap.size, 0, none⟩) 4001 4001)).run Tryd.prog wm = .ok (.string S) wm ∧ S.size = 4001 ∧ Below w.heap.size w wm := many_n 4001 (by decide) w

set_option maxHeartbeats 12800000 in
theorem lawFeeds_any {x y : Value} (l : List Ps) (ss : List ByteArray) (w : World) (hx : Prs w x l) (hn : l.length ≤ 140737488355328) (hz : ∀ k, k < l.length → Slim (l.getD k (none_ 0)) 140737488355328)
    (hy : Strs w y ss) (hny : ss.length ≤ 140737488355328) (hzy : ∀ k, k < ss.length → (ss.getD k ByteArray.empty).size ≤ 140737488355328) (ht : Utf.Tabs w) :
    Calls Tryd.prog 3 #[.agg #[x, y]] w fun e w' => e = .returned (.bool true) ∧ Below w.heap.size w w' := by
  obtain ⟨A, c, rfl, _⟩ := hx.form
  obtain ⟨A', c', rfl, _⟩ := hy.at_
  have HX := Lib.hid hx
  have HZ := Lib.hid hz
  have HY := Lib.hid hy
  have HNY := Lib.hid hny
  have HZY := Lib.hid hzy
  have HT := Lib.hid ht
  clear hx hz hy hny hzy ht
  go_enter Tryd.func3, Tryd.ntmps3
  go_wp2_with fail
  have hb0 : Below w.heap.size w (w.alloc (.cells #[.slice A l.length c, .slice A' ss.length c'] 27)) := (Below.refl _ _).alloc (Nat.le_refl _) _
  have hblk := heap_alloc_new w (.cells #[.slice A l.length c, .slice A' ss.length c'] 27)
  have hs0 : w.heap.size < (w.alloc (.cells #[.slice A l.length c, .slice A' ss.length c'] 27)).heap.size := by simp
  generalize w.alloc (.cells #[.slice A l.length c, .slice A' ss.length c'] 27) = w0 at hb0 hblk hs0 ⊢
  refine (heavy3_any l ss w0 (HX.out.kept hb0) hn HZ.out (HY.out.kept hb0) HNY.out HZY.out).mono ?_
  rintro e w1 ⟨⟨b, rfl, hF⟩, hb1⟩
  have hblk1 : w1.heap[w.heap.size]? = some (.cells #[.slice A l.length c, .slice A' ss.length c'] 27 (0, 0)) := (hb1.block _ hs0).trans hblk
  have hq0 : w1.cell? ⟨w.heap.size, 0, none⟩ = some (.slice A l.length c) := block_cell hblk1 0
  have hq1 : w1.cell? ⟨w.heap.size, 1, none⟩ = some (.slice A' ss.length c') := block_cell hblk1 1
  have hwlt : w.heap.size < w1.heap.size := block_lt hblk1
  have hbw1 : Below w.heap.size w w1 := hb0.trans (hb1.mono hb0.size)
  have HB1 := Lib.hid hbw1
  have HF := Lib.hid hF
  have HX1 := Lib.hid (HX.out.kept hbw1)
  have HY1 := Lib.hid (Src.kept HY.out hbw1)
  have HT1 := Lib.hid (HT.out.kept hbw1)
  have HQ1 := Lib.hid hq1
  clear hF hb0 hblk hs0 hb1 hbw1 hblk1 hq1
  cases b with
  | true =>
    go_wp2_with fail
    go_ret
    exact ⟨rfl, HB1.out⟩
  | false =>
    have HFew := Lib.hid (HF.out rfl)
    have hln : l.length ≤ 2000 := HFew.out.n
    have hln2 : ss.length ≤ 4000 := HFew.out.light.1
    have hww : Below w1.heap.size w1 (w1.alloc (.cells #[.int .i64 0, .string ⟨#[]⟩, .slice none 0 0, .string ⟨#[]⟩, .string ⟨#[]⟩] 31)) := (Below.refl _ _).alloc (Nat.le_refl _) _
    have hoo : (w1.alloc (.cells #[.int .i64 0, .string ⟨#[]⟩, .slice none 0 0, .string ⟨#[]⟩, .string ⟨#[]⟩] 31)).ownsRow w1.heap.size 31 5 (.slice (some ⟨w1.heap.size, 0, none⟩) 1 1) [none_ 0].length (List.zipWith psVals [none_ 0] [.slice none 0 0]).flatten :=
      ⟨rfl, .inr ⟨w1.heap.size, 1, _, rfl, Nat.le_refl _, heap_alloc_new w1 _, Nat.le_refl _, by simp [maxLen], rfl, rfl⟩⟩
    have HWW := Lib.hid hww
    have HOO := Lib.hid hoo
    have HSRC : Hid (∀ k, k < [none_ 0].length → Src w1 (([.slice none 0 0] : List Value).getD k undef) ([none_ 0].getD k (none_ 0)).params.length (ints ([none_ 0].getD k (none_ 0)).params)) := Lib.hid fun k hk => by
      obtain rfl : k = 0 := by have : k < 1 := hk; omega
      exact ⟨rfl, .inl ⟨rfl, rfl⟩⟩
    clear hww hoo
    go_wp2_with (at_builtin; (refine wp_append_prs rfl rfl w1 HWW.out _ [none_ 0] [.slice none 0 0] rfl rfl HOO.out HSRC.out _ l rfl HX1.out (by show 1 + _ ≤ _; omega) ?_); intro vS wS hpS hbS; obtain ⟨sl, hsl⟩ : ∃ sl, [none_ 0] ++ l = sl := ⟨_, rfl⟩; rw [hsl] at hpS; obtain ⟨AS, cS, rfl, _⟩ := hpS.form; have HSLQ := Lib.hid hsl; clear hsl)
    have hslim : ∀ j, j < ([none_ 0] ++ l).length → Slim (([none_ 0] ++ l).getD j (none_ 0)) 2000 := slim_append slim_zero HFew.out.slim
    rw [HSLQ.out] at hslim
    have HSL := Lib.hid hslim
    have HBS := Lib.hid hbS
    have HPS := Lib.hid hpS
    have HTS := Lib.hid (HT1.out.kept hbS)
    have HYS := Lib.hid (Src.kept HY1.out hbS)
    have HQS := Lib.hid (cell_kept hbS HQ1.out)
    clear hslim hbS hpS hq0
    go_loopw [4] (fun i wr => ∃ k : Nat, k ≤ sl.length ∧ i = .int .i64 k ∧ Below wS.heap.size wS wr) (fun i _ => sl.length - (intOf i).toNat)
    case atStart => exact ⟨0, by omega, rfl, Below.refl _ _⟩
    case round =>
      obtain ⟨i, hi, rfl, hbl⟩ := hrel
      by_cases hlt : i < sl.length ∧ i < 5
      · obtain ⟨hlt, h5⟩ := hlt
        have hk5 : decide ((i : Int) < 5) = true := decide_eq_true (by omega)
        obtain ⟨A9, c9, hA, hcell⟩ := (HPS.out.kept hbl).form
        obtain ⟨rfl, _, rfl⟩ : AS = A9 ∧ sl.length = sl.length ∧ cS = c9 := by injection hA with h1 h2 h3; exact ⟨h1, h2, h3⟩
        obtain ⟨ad, pv, rfl, K, hs⟩ := hcell i hlt
        have hzk := HSL.out i hlt
        have HT2 := Lib.hid (HTS.out.kept hbl)
        clear hcell hA
        generalize sl.getD i (none_ 0) = p at K hs hzk
        obtain ⟨Ap, cp, rfl, _⟩ := hs.form
        obtain ⟨n, v, hcn, hcv, hnv, hv1, hv0⟩ := chk_cases p
        have HZK := Lib.hid hzk
        have HK := Lib.hid K
        have HS := Lib.hid hs
        have HCN := Lib.hid hcn
        have HCV := Lib.hid hcv
        have HV1 := Lib.hid hv1
        have HV0 := Lib.hid hv0
        have h0 := K.head
        have h1 := K.next 0 rfl
        have h2 := K.next 1 rfl
        have h3 := K.next 2 rfl
        have h4 := K.next 3 rfl
        clear K hs hzk hcn hcv hv1 hv0
        go_upto_region 7 with (fail)
        go_cut [45] (fun s45 wx => s45 = .bool false ∧ Below wr.heap.size wr wx)
        case first =>
          go_region_law (first
            | (go_simp; go_at_call 8; refine (check_at p (.slice Ap p.params.length cp) n HCN.out wr.drew HS.out HZK.out HT2.out).mono ?_; rintro e w2 ⟨rfl, hb2⟩; have HC2 := Lib.hid (show Below wr.heap.size wr w2 from (Below.refl _ _).drew.trans hb2); have K2 := HK.out.kept HC2.out; have j0 := K2.head; have j1 := K2.next 0 rfl; have j2 := K2.next 1 rfl; have j3 := K2.next 2 rfl; have j4 := K2.next 3 rfl; clear K2 hb2)
            | (go_simp; go_at_call 7; refine (num_any n _).mono ?_; rintro e wn ⟨rfl, rfl⟩)
            | (go_simp; go_at_call 9; refine (state_at p (.slice Ap p.params.length cp) v HCV.out w2 (HS.out.kept HC2.out) HZK.out).mono ?_; rintro e w3 ⟨rfl, hb3⟩; have HC3 := Lib.hid (HC2.out.trans (hb3.mono HC2.out.size)); clear hb3))
          all_goals
            go_wp2_with fail
            go_meet
            exact ⟨rfl, HC3.out⟩
        case rest =>
          obtain ⟨rfl, hbq⟩ := hcut
          have hq := cell_kept (hbl.trans (hbq.mono hbl.size)) HQS.out
          have HT3 := Lib.hid (HT2.out.kept hbq)
          have HYq := Lib.hid (Src.kept (Src.kept HYS.out hbl) hbq)
          have HKq := Lib.hid (HK.out.kept hbq)
          have HSq := Lib.hid (HS.out.kept hbq)
          have HBQ := Lib.hid hbq
          have zq := hbq.size
          clear h0 h1 h2 h3 h4 hbq
          go_wp2_with fail
          obtain ⟨wo, rfl⟩ : ∃ wo : World, wo = wr := ⟨_, rfl⟩
          obtain ⟨wq, rfl⟩ : ∃ wq : World, wq = wc := ⟨_, rfl⟩
          go_loopw [5] (fun j wr => ∃ k : Nat, k ≤ ss.length ∧ j = .int .i64 k ∧ Below wq.heap.size wq wr) (fun j _ => ss.length - (intOf j).toNat)
          case atStart => exact ⟨0, by omega, rfl, Below.refl _ _⟩
          case round =>
            obtain ⟨k, hk, rfl, hbl2⟩ := hrel
            have hqr := cell_kept hbl2 hq
            by_cases hlk : k < ss.length ∧ k < 5
            · obtain ⟨hlk, h5k⟩ := hlk
              have hkk5 : decide ((k : Int) < 5) = true := decide_eq_true (by omega)
              obtain ⟨A8, c8, hA8, hcell8⟩ := Strs.at_ (Src.kept HYq.out hbl2)
              obtain ⟨rfl, _, rfl⟩ : A' = A8 ∧ ss.length = ss.length ∧ c' = c8 := by injection hA8 with h1 h2 h3; exact ⟨h1, h2, h3⟩
              obtain ⟨adT, rfl, hck⟩ := hcell8 k hlk
              have hzs := HFew.out.light.2 k hlk
              clear hcell8 hA8
              generalize ss.getD k ByteArray.empty = s at hck hzs
              obtain ⟨M, hM⟩ : ∃ M, out p s.data.toList = M := ⟨_, rfl⟩
              have hMl := out_few p s.data.toList
              have hMp := out_params p s.data.toList
              rw [hM] at hMl hMp
              have hsl : s.data.toList.length = s.size := rfl
              rw [hsl] at hMl
              have HM := Lib.hid hM
              have HMP := Lib.hid hMp
              have HKr := Lib.hid (HKq.out.kept hbl2)
              have HSr := Lib.hid (HSq.out.kept hbl2)
              have HTr := Lib.hid (HT3.out.kept hbl2)
              have hpn : p.params.length ≤ 2000 := HZK.out.params
              have KA := HKr.out
              have h0 := KA.head
              have h1 := KA.next 0 rfl
              have h2 := KA.next 1 rfl
              have h3 := KA.next 2 rfl
              have h4 := KA.next 3 rfl
              clear KA hM hMp hsl
              go_wp2_with fail
              refine (copyParse_any p.state ⟨p.part.toArray⟩ ⟨p.inter.toArray⟩ ⟨p.text.toArray⟩ p.params (.slice Ap p.params.length cp) _ HSr.out (by omega)).mono ?_
              rintro e w2 ⟨vi, rfl, hoi, hb2⟩
              obtain ⟨Ai, ci, rfl⟩ := own_shape hoi
              have z2 := hb2.size
              have al2 : Below w2.heap.size w2 (w2.alloc (.cells #[.int .i64 p.state, .string ⟨p.part.toArray⟩, .slice Ai p.params.length ci, .string ⟨p.inter.toArray⟩, .string ⟨p.text.toArray⟩] 31)) := (Below.refl _ _).alloc (Nat.le_refl _) _
              have HBI := Lib.hid (heap_alloc_new w2 (.cells #[.int .i64 p.state, .string ⟨p.part.toArray⟩, .slice Ai p.params.length ci, .string ⟨p.inter.toArray⟩, .string ⟨p.text.toArray⟩] 31))
              have HNI := Lib.hid (own_keptC hoi al2)
              have HB23 := Lib.hid (hb2.alloc z2 (.cells #[.int .i64 p.state, .string ⟨p.part.toArray⟩, .slice Ai p.params.length ci, .string ⟨p.inter.toArray⟩, .string ⟨p.text.toArray⟩] 31))
              clear hoi hb2 al2 h0 h1 h2 h3 h4
              go_wp2_with fail
              obtain ⟨gi, hgi⟩ : ∃ gi, w2.heap.size = gi := ⟨_, rfl⟩
              obtain ⟨w3, hw3⟩ : ∃ w3, w2.alloc (.cells #[.int .i64 p.state, .string ⟨p.part.toArray⟩, .slice Ai p.params.length ci, .string ⟨p.inter.toArray⟩, .string ⟨p.text.toArray⟩] 31) = w3 := ⟨_, rfl⟩
              have hz3 : gi < w3.heap.size := by rw [← hw3, ← hgi]; simp
              rw [hw3] at HBI HNI HB23 ⊢
              rw [hgi] at HBI ⊢
              clear hw3 hgi
              have z3 := HB23.out.size
              have hq3 := cell_kept HB23.out hqr
              have hck3 := cell_kept HB23.out hck
              have m0 : w3.cell? ⟨gi, 0, none⟩ = some (.int .i64 p.state) := block_cell HBI.out 0
              have m1 : w3.cell? ⟨gi, 1, none⟩ = some (.string ⟨p.part.toArray⟩) := block_cell HBI.out 1
              have m2 : w3.cell? ⟨gi, 2, none⟩ = some (.slice Ai p.params.length ci) := block_cell HBI.out 2
              have m3 : w3.cell? ⟨gi, 3, none⟩ = some (.string ⟨p.inter.toArray⟩) := block_cell HBI.out 3
              have m4 : w3.cell? ⟨gi, 4, none⟩ = some (.string ⟨p.text.toArray⟩) := block_cell HBI.out 4
              have HT4 := Lib.hid (HTr.out.kept HB23.out)
              have HQ3 := Lib.hid hq3
              have HCK3 := Lib.hid hck3
              have hwl3 : w.heap.size < w3.heap.size := World.block_lt_of_cell? w3 _ hq3
              have hck3a : (w3.alloc (.cells #[.int .i64 0, .string ⟨#[]⟩, .slice none 0 0, .string ⟨#[]⟩, .string ⟨#[]⟩] 31)).cell? (adT.add k) = some (.string s) := cell_kept ((Below.refl w3.heap.size w3).alloc (Nat.le_refl _) _) hck3
              go_cut [7, 8, 9] (fun s7 s8 s9 wx => GotN n w3 M s7 s8 s9 wx ∧ ∀ e ∈ M.l, Vd.Good e)
              case first =>
                go_region_law (first
                  | (go_simp; go_at_call 11; refine (feedN_at p (.slice Ai p.params.length ci) s M HM.out n HCN.out (w3.drew.alloc (.cells #[.int .i64 0, .string ⟨#[]⟩, .slice none 0 0, .string ⟨#[]⟩, .string ⟨#[]⟩] 31)) ((Src.own HNI.out).kept (((Below.refl _ _).drew).alloc (Nat.le_refl _) _)) HZK.out (by omega) (HT4.out.kept (((Below.refl _ _).drew).alloc (Nat.le_refl _) _))).mono ?_; rintro e w6 ⟨lv2, pv2, rfl, ho2, hn2, hb6, hgd2⟩; obtain ⟨Ay, cy, rfl⟩ := own_shape hn2; have HBW := Lib.hid (show Below w3.heap.size w3 (w3.drew.alloc (.cells #[.int .i64 0, .string ⟨#[]⟩, .slice none 0 0, .string ⟨#[]⟩, .string ⟨#[]⟩] 31)) from (((Below.refl _ _).drew).alloc (Nat.le_refl _) _)); have HZ6 := Lib.hid hb6.size; have HO2 := Lib.hid (owns_low ho2 HBW.out.size); have HN2 := Lib.hid (hn2.mono HBW.out.size); have HB6 := Lib.hid (HBW.out.trans (hb6.mono HBW.out.size)); have HG2 := Lib.hid hgd2; have HZB := Lib.hid ((hb6.block w3.heap.size (by simp)).trans (heap_alloc_new w3.drew (.cells #[.int .i64 0, .string ⟨#[]⟩, .slice none 0 0, .string ⟨#[]⟩, .string ⟨#[]⟩] 31))); have kz0 : w6.cell? ⟨w3.heap.size, 0, none⟩ = some (.int .i64 0) := block_cell HZB.out 0; have kf0 : w6.frozen? ⟨w3.heap.size, 0, none⟩ = false := block_free HZB.out 0; have kz1 : w6.cell? ⟨w3.heap.size, 1, none⟩ = some (.string ⟨#[]⟩) := block_cell HZB.out 1; have kf1 : w6.frozen? ⟨w3.heap.size, 1, none⟩ = false := block_free HZB.out 1; have kz2 : w6.cell? ⟨w3.heap.size, 2, none⟩ = some (.slice none 0 0) := block_cell HZB.out 2; have kf2 : w6.frozen? ⟨w3.heap.size, 2, none⟩ = false := block_free HZB.out 2; have kz3 : w6.cell? ⟨w3.heap.size, 3, none⟩ = some (.string ⟨#[]⟩) := block_cell HZB.out 3; have kf3 : w6.frozen? ⟨w3.heap.size, 3, none⟩ = false := block_free HZB.out 3; have kz4 : w6.cell? ⟨w3.heap.size, 4, none⟩ = some (.string ⟨#[]⟩) := block_cell HZB.out 4; have kf4 : w6.frozen? ⟨w3.heap.size, 4, none⟩ = false := block_free HZB.out 4; clear ho2 hn2 hb6 hgd2)
                  | (go_simp; go_at_call 11; refine (feedN_at p (.slice Ai p.params.length ci) s M HM.out n HCN.out w3.drew ((Src.own HNI.out).kept ((Below.refl _ _).drew)) HZK.out (by omega) (HT4.out.kept ((Below.refl _ _).drew))).mono ?_; rintro e w6 ⟨lv2, pv2, rfl, ho2, hn2, hb6, hgd2⟩; obtain ⟨Ay, cy, rfl⟩ := own_shape hn2; have HBW := Lib.hid (show Below w3.heap.size w3 w3.drew from ((Below.refl _ _).drew)); have HZ6 := Lib.hid hb6.size; have HO2 := Lib.hid (owns_low ho2 HBW.out.size); have HN2 := Lib.hid (hn2.mono HBW.out.size); have HB6 := Lib.hid (HBW.out.trans (hb6.mono HBW.out.size)); have HG2 := Lib.hid hgd2; clear ho2 hn2 hb6 hgd2))
                all_goals
                  go_wp2_with fail
                  go_meet
                  first
                    | (have hzb := HZB.out; exact ⟨gotN (got_set rfl HO2.out HN2.out HB6.out (Nat.le_refl _) hzb), HG2.out⟩)
                    | exact ⟨gotN (got_alloc HO2.out HN2.out HB6.out), HG2.out⟩
              case rest =>
                obtain ⟨⟨Ay, cy, gy, rfl, rfl, hgy, hby, ho2, hn2, hbc⟩, hgd2⟩ := hcut
                clear m0 m1 m2 m3 m4 hq3 hck3 hck3a
                obtain ⟨wy, rfl⟩ : ∃ wy : World, wy = wc := ⟨_, rfl⟩
                have zc := hbc.size
                have hb3c : Below wr.heap.size wr wy := HB23.out.trans (hbc.mono z3)
                have HBIc := Lib.hid ((hbc.block gi hz3).trans HBI.out)
                have HBYc := Lib.hid hby
                have HOc := Lib.hid ho2
                have HNc := Lib.hid hn2
                have HNIc := Lib.hid (own_keptC HNI.out hbc)
                have HKc := Lib.hid (HKr.out.kept hb3c)
                have HSc := Lib.hid (HSr.out.kept hb3c)
                have HB3C := Lib.hid hb3c
                have HBC := Lib.hid hbc
                have HG2 := Lib.hid hgd2
                have hgyl := block_lt hby
                have al : Below wy.heap.size wy (wy.alloc (.cells #[.int .i64 0, .string ⟨#[]⟩, .slice none 0 0, .string ⟨#[]⟩, .string ⟨#[]⟩] 31)) := (Below.refl _ _).alloc (Nat.le_refl _) _
                have KA := HKc.out.kept al
                have h0 := KA.head
                have h1 := KA.next 0 rfl
                have h2 := KA.next 1 rfl
                have h3 := KA.next 2 rfl
                have h4 := KA.next 3 rfl
                have HAL := Lib.hid al
                have HSd := Lib.hid (HSc.out.kept al)
                have HZd := Lib.hid (heap_alloc_new wy (.cells #[.int .i64 0, .string ⟨#[]⟩, .slice none 0 0, .string ⟨#[]⟩, .string ⟨#[]⟩] 31))
                have hza : wy.heap.size < (wy.alloc (.cells #[.int .i64 0, .string ⟨#[]⟩, .slice none 0 0, .string ⟨#[]⟩, .string ⟨#[]⟩] 31)).heap.size := by simp
                obtain ⟨gd, hgd⟩ : ∃ gd, wy.heap.size = gd := ⟨_, rfl⟩
                clear ho2 hn2 hby hbc hgd2 hb3c al KA
                go_upto_if 79 with ((go_at_call 9; refine (state_at p (.slice Ap p.params.length cp) v HCV.out (wy.alloc (.cells #[.int .i64 0, .string ⟨#[]⟩, .slice none 0 0, .string ⟨#[]⟩, .string ⟨#[]⟩] 31)) HSd.out HZK.out).mono ?_; rintro e w6 ⟨rfl, hb6⟩; have HB6 := Lib.hid (HAL.out.trans (hb6.mono HAL.out.size)); have HZ6 := Lib.hid ((hb6.block wy.heap.size hza).trans HZd.out); clear hb6))
                rw [hgd] at HZ6
                clear h0 h1 h2 h3 h4 hza
                go_cut [10, 11] (fun s10 s11 wx => s10 = .int .i64 n ∧ Due wy gd M s11 wx)
                case first =>
                  cases v with
                  | false =>
                    have HM0 : Hid (M = ⟨none_ 0, []⟩) := Lib.hid (by rw [← HM.out]; unfold out; rw [HCV.out]; rfl)
                    have HN1 := Lib.hid (HV0.out rfl)
                    go_wp2_with fail
                    go_meet
                    refine ⟨by rw [HN1.out], ?_⟩
                    rw [HM0.out]
                    exact ⟨none, 0, HZ6.out, OwnEvs.nil _ _, World.ownsRow_nil _ _ _ _, HB6.out⟩
                  | true =>
                    have hM1 : Hid (M = Mc.feed ⟨p, []⟩ s.data.toList) := Lib.hid (by rw [← HM.out]; unfold out; rw [HCV.out]; rfl)
                    have HN1 := Lib.hid (HV1.out rfl)
                    have HOK := Lib.hid ((ok_iff p).1 HCV.out)
                    have hq6 := cell_kept HB6.out (cell_kept HBC.out HQ3.out)
                    have hck6 := cell_kept HB6.out (cell_kept HBC.out HCK3.out)
                    have KB := HKc.out.kept HB6.out
                    have h0 := KB.head
                    have h1 := KB.next 0 rfl
                    have h2 := KB.next 1 rfl
                    have h3 := KB.next 2 rfl
                    have h4 := KB.next 3 rfl
                    have hgd6 := block_lt HZ6.out
                    clear KB
                    go_wp2_with fail
                    go_region_law (first
                      | (go_simp; go_at_call 12; refine (refFeed_any p (.slice Ap p.params.length cp) s w6.drew (HSc.out.kept HB6.out.drew) HOK.out (by omega)).mono ?_; rw [← hM1.out]; rintro e w7 ⟨lv3, pv3, rfl, ho3, hn3, hb7⟩; obtain ⟨Ad, cd, rfl⟩ := own_shape hn3; have HZ7 := Lib.hid ((hb7.block gd hgd6).trans HZ6.out); have HO3 := Lib.hid ho3; have HN3 := Lib.hid hn3; have HB7 := Lib.hid (show Below w6.heap.size w6 w7 from (Below.refl _ _).drew.trans hb7); have kz0 : w7.cell? ⟨gd, 0, none⟩ = some (.int .i64 0) := block_cell HZ7.out 0; have kf0 : w7.frozen? ⟨gd, 0, none⟩ = false := block_free HZ7.out 0; have kz1 : w7.cell? ⟨gd, 1, none⟩ = some (.string ⟨#[]⟩) := block_cell HZ7.out 1; have kf1 : w7.frozen? ⟨gd, 1, none⟩ = false := block_free HZ7.out 1; have kz2 : w7.cell? ⟨gd, 2, none⟩ = some (.slice none 0 0) := block_cell HZ7.out 2; have kf2 : w7.frozen? ⟨gd, 2, none⟩ = false := block_free HZ7.out 2; have kz3 : w7.cell? ⟨gd, 3, none⟩ = some (.string ⟨#[]⟩) := block_cell HZ7.out 3; have kf3 : w7.frozen? ⟨gd, 3, none⟩ = false := block_free HZ7.out 3; have kz4 : w7.cell? ⟨gd, 4, none⟩ = some (.string ⟨#[]⟩) := block_cell HZ7.out 4; have kf4 : w7.frozen? ⟨gd, 4, none⟩ = false := block_free HZ7.out 4; clear ho3 hn3 hb7))
                    all_goals
                      go_wp2_with fail
                      go_meet
                      refine ⟨by rw [HN1.out], due_set (owns_low HO3.out HB6.out.size) (HN3.out.mono HB6.out.size) (HB6.out.trans (HB7.out.mono HB6.out.size)) (by omega) HZ7.out⟩
                case rest =>
                  obtain ⟨rfl, Ad, cd, hbd, ho3, hn3, hbx⟩ := hcut
                  obtain ⟨we, rfl⟩ : ∃ we : World, we = wc := ⟨_, rfl⟩
                  have bxE : we.heap[gy]? = some (.cells #[.int .i64 M.p.state, .string ⟨M.p.part.toArray⟩, .slice Ay M.p.params.length cy, .string ⟨M.p.inter.toArray⟩, .string ⟨M.p.text.toArray⟩] 31 (0, 0)) := (hbx.block gy hgyl).trans HBYc.out
                  have biE : we.heap[gi]? = some (.cells #[.int .i64 p.state, .string ⟨p.part.toArray⟩, .slice Ai p.params.length ci, .string ⟨p.inter.toArray⟩, .string ⟨p.text.toArray⟩] 31 (0, 0)) := (hbx.block gi (block_lt HBIc.out)).trans HBIc.out
                  have HXE := Lib.hid bxE
                  have HIE := Lib.hid biE
                  have HDE := Lib.hid hbd
                  have HOE := Lib.hid (HOc.out.kept hbx)
                  have HODE := Lib.hid ho3
                  have HNE := Lib.hid (own_keptC HNc.out hbx)
                  have HNDE := Lib.hid hn3
                  have HNIE := Lib.hid (own_keptC HNIc.out hbx)
                  have HSE := Lib.hid (HSc.out.kept hbx)
                  have HKE := Lib.hid (HKc.out.kept hbx)
                  have HBE := Lib.hid hbx
                  clear bxE biE hbd ho3 hn3 hbx
                  go_upto_region 20 with (fail)
                  have x0 : we.cell? ⟨gy, 0, none⟩ = some (.int .i64 M.p.state) := block_cell HXE.out 0
                  have x1 : we.cell? ⟨gy, 1, none⟩ = some (.string ⟨M.p.part.toArray⟩) := block_cell HXE.out 1
                  have x2 : we.cell? ⟨gy, 2, none⟩ = some (.slice Ay M.p.params.length cy) := block_cell HXE.out 2
                  have x3 : we.cell? ⟨gy, 3, none⟩ = some (.string ⟨M.p.inter.toArray⟩) := block_cell HXE.out 3
                  have x4 : we.cell? ⟨gy, 4, none⟩ = some (.string ⟨M.p.text.toArray⟩) := block_cell HXE.out 4
                  have y0 : we.cell? ⟨gd, 0, none⟩ = some (.int .i64 M.p.state) := block_cell HDE.out 0
                  have y1 : we.cell? ⟨gd, 1, none⟩ = some (.string ⟨M.p.part.toArray⟩) := block_cell HDE.out 1
                  have y2 : we.cell? ⟨gd, 2, none⟩ = some (.slice Ad M.p.params.length cd) := block_cell HDE.out 2
                  have y3 : we.cell? ⟨gd, 3, none⟩ = some (.string ⟨M.p.inter.toArray⟩) := block_cell HDE.out 3
                  have y4 : we.cell? ⟨gd, 4, none⟩ = some (.string ⟨M.p.text.toArray⟩) := block_cell HDE.out 4
                  have i0 : we.cell? ⟨gi, 0, none⟩ = some (.int .i64 p.state) := block_cell HIE.out 0
                  have i1 : we.cell? ⟨gi, 1, none⟩ = some (.string ⟨p.part.toArray⟩) := block_cell HIE.out 1
                  have i2 : we.cell? ⟨gi, 2, none⟩ = some (.slice Ai p.params.length ci) := block_cell HIE.out 2
                  have i3 : we.cell? ⟨gi, 3, none⟩ = some (.string ⟨p.inter.toArray⟩) := block_cell HIE.out 3
                  have i4 : we.cell? ⟨gi, 4, none⟩ = some (.string ⟨p.text.toArray⟩) := block_cell HIE.out 4
                  have KE := HKE.out
                  have k0 := KE.head
                  have k1 := KE.next 0 rfl
                  have k2 := KE.next 1 rfl
                  have k3 := KE.next 2 rfl
                  have k4 := KE.next 3 rfl
                  have HALL : Hid (we.cell? ⟨gy, 0, none⟩ = some (.int .i64 M.p.state) ∧ we.cell? ⟨gy, 1, none⟩ = some (.string ⟨M.p.part.toArray⟩) ∧ we.cell? ⟨gy, 2, none⟩ = some (.slice Ay M.p.params.length cy) ∧ we.cell? ⟨gy, 3, none⟩ = some (.string ⟨M.p.inter.toArray⟩) ∧ we.cell? ⟨gy, 4, none⟩ = some (.string ⟨M.p.text.toArray⟩) ∧ we.cell? ⟨gd, 0, none⟩ = some (.int .i64 M.p.state) ∧ we.cell? ⟨gd, 1, none⟩ = some (.string ⟨M.p.part.toArray⟩) ∧ we.cell? ⟨gd, 2, none⟩ = some (.slice Ad M.p.params.length cd) ∧ we.cell? ⟨gd, 3, none⟩ = some (.string ⟨M.p.inter.toArray⟩) ∧ we.cell? ⟨gd, 4, none⟩ = some (.string ⟨M.p.text.toArray⟩) ∧ we.cell? ⟨gi, 0, none⟩ = some (.int .i64 p.state) ∧ we.cell? ⟨gi, 1, none⟩ = some (.string ⟨p.part.toArray⟩) ∧ we.cell? ⟨gi, 2, none⟩ = some (.slice Ai p.params.length ci) ∧ we.cell? ⟨gi, 3, none⟩ = some (.string ⟨p.inter.toArray⟩) ∧ we.cell? ⟨gi, 4, none⟩ = some (.string ⟨p.text.toArray⟩) ∧ we.cell? (ad.add (i * 5)) = some (.int .i64 p.state) ∧ we.cell? ⟨(ad.add (i * 5)).block, (ad.add (i * 5)).off + 1, none⟩ = some (.string ⟨p.part.toArray⟩) ∧ we.cell? ⟨(ad.add (i * 5)).block, (ad.add (i * 5)).off + 2, none⟩ = some (.slice Ap p.params.length cp) ∧ we.cell? ⟨(ad.add (i * 5)).block, (ad.add (i * 5)).off + 3, none⟩ = some (.string ⟨p.inter.toArray⟩) ∧ we.cell? ⟨(ad.add (i * 5)).block, (ad.add (i * 5)).off + 4, none⟩ = some (.string ⟨p.text.toArray⟩)) := Lib.hid ⟨x0, x1, x2, x3, x4, y0, y1, y2, y3, y4, i0, i1, i2, i3, i4, k0, k1, k2, k3, k4⟩
                  have HALLD : Hid (we.drew.cell? ⟨gy, 0, none⟩ = some (.int .i64 M.p.state) ∧ we.drew.cell? ⟨gy, 1, none⟩ = some (.string ⟨M.p.part.toArray⟩) ∧ we.drew.cell? ⟨gy, 2, none⟩ = some (.slice Ay M.p.params.length cy) ∧ we.drew.cell? ⟨gy, 3, none⟩ = some (.string ⟨M.p.inter.toArray⟩) ∧ we.drew.cell? ⟨gy, 4, none⟩ = some (.string ⟨M.p.text.toArray⟩) ∧ we.drew.cell? ⟨gd, 0, none⟩ = some (.int .i64 M.p.state) ∧ we.drew.cell? ⟨gd, 1, none⟩ = some (.string ⟨M.p.part.toArray⟩) ∧ we.drew.cell? ⟨gd, 2, none⟩ = some (.slice Ad M.p.params.length cd) ∧ we.drew.cell? ⟨gd, 3, none⟩ = some (.string ⟨M.p.inter.toArray⟩) ∧ we.drew.cell? ⟨gd, 4, none⟩ = some (.string ⟨M.p.text.toArray⟩) ∧ we.drew.cell? ⟨gi, 0, none⟩ = some (.int .i64 p.state) ∧ we.drew.cell? ⟨gi, 1, none⟩ = some (.string ⟨p.part.toArray⟩) ∧ we.drew.cell? ⟨gi, 2, none⟩ = some (.slice Ai p.params.length ci) ∧ we.drew.cell? ⟨gi, 3, none⟩ = some (.string ⟨p.inter.toArray⟩) ∧ we.drew.cell? ⟨gi, 4, none⟩ = some (.string ⟨p.text.toArray⟩) ∧ we.drew.cell? (ad.add (i * 5)) = some (.int .i64 p.state) ∧ we.drew.cell? ⟨(ad.add (i * 5)).block, (ad.add (i * 5)).off + 1, none⟩ = some (.string ⟨p.part.toArray⟩) ∧ we.drew.cell? ⟨(ad.add (i * 5)).block, (ad.add (i * 5)).off + 2, none⟩ = some (.slice Ap p.params.length cp) ∧ we.drew.cell? ⟨(ad.add (i * 5)).block, (ad.add (i * 5)).off + 3, none⟩ = some (.string ⟨p.inter.toArray⟩) ∧ we.drew.cell? ⟨(ad.add (i * 5)).block, (ad.add (i * 5)).off + 4, none⟩ = some (.string ⟨p.text.toArray⟩)) := Lib.hid ⟨x0, x1, x2, x3, x4, y0, y1, y2, y3, y4, i0, i1, i2, i3, i4, k0, k1, k2, k3, k4⟩
                  clear x0 x1 x2 x3 x4 y0 y1 y2 y3 y4 i0 i1 i2 i3 i4 k0 k1 k2 k3 k4 KE
                  go_cut [118] (fun s118 wx => s118 = .bool false ∧ Below we.heap.size we wx)
                  case first =>
                    go_region_held3 (fun w' => w'.cell? ⟨gy, 0, none⟩ = some (.int .i64 M.p.state) ∧ w'.cell? ⟨gy, 1, none⟩ = some (.string ⟨M.p.part.toArray⟩) ∧ w'.cell? ⟨gy, 2, none⟩ = some (.slice Ay M.p.params.length cy) ∧ w'.cell? ⟨gy, 3, none⟩ = some (.string ⟨M.p.inter.toArray⟩) ∧ w'.cell? ⟨gy, 4, none⟩ = some (.string ⟨M.p.text.toArray⟩) ∧ w'.cell? ⟨gd, 0, none⟩ = some (.int .i64 M.p.state) ∧ w'.cell? ⟨gd, 1, none⟩ = some (.string ⟨M.p.part.toArray⟩) ∧ w'.cell? ⟨gd, 2, none⟩ = some (.slice Ad M.p.params.length cd) ∧ w'.cell? ⟨gd, 3, none⟩ = some (.string ⟨M.p.inter.toArray⟩) ∧ w'.cell? ⟨gd, 4, none⟩ = some (.string ⟨M.p.text.toArray⟩) ∧ w'.cell? ⟨gi, 0, none⟩ = some (.int .i64 p.state) ∧ w'.cell? ⟨gi, 1, none⟩ = some (.string ⟨p.part.toArray⟩) ∧ w'.cell? ⟨gi, 2, none⟩ = some (.slice Ai p.params.length ci) ∧ w'.cell? ⟨gi, 3, none⟩ = some (.string ⟨p.inter.toArray⟩) ∧ w'.cell? ⟨gi, 4, none⟩ = some (.string ⟨p.text.toArray⟩) ∧ w'.cell? (ad.add (i * 5)) = some (.int .i64 p.state) ∧ w'.cell? ⟨(ad.add (i * 5)).block, (ad.add (i * 5)).off + 1, none⟩ = some (.string ⟨p.part.toArray⟩) ∧ w'.cell? ⟨(ad.add (i * 5)).block, (ad.add (i * 5)).off + 2, none⟩ = some (.slice Ap p.params.length cp) ∧ w'.cell? ⟨(ad.add (i * 5)).block, (ad.add (i * 5)).off + 3, none⟩ = some (.string ⟨p.inter.toArray⟩) ∧ w'.cell? ⟨(ad.add (i * 5)).block, (ad.add (i * 5)).off + 4, none⟩ = some (.string ⟨p.text.toArray⟩))
                      (first | (have h9 := HB10.out; exact keep20 HALL.out h9) | (have h9 := HB9.out; exact keep20 HALL.out h9) | (have h9 := HB8.out; exact keep20 HALL.out h9) | exact HALLD.out)
                      (first
                        | (go_at_call 7; refine (num_any n _).mono ?_; rintro e wn ⟨rfl, rfl⟩)
                        | (go_at_call 13; refine (eqEvents_same M.l _ _ we.drew HOE.out.reads HODE.out.reads (by omega) (fun e he => by have := good_params (HG2.out e he); omega)).mono ?_; rintro e w8 ⟨rfl, hb8⟩; have HB8 := Lib.hid (show Below we.heap.size we w8 from (Below.refl _ _).drew.trans hb8); clear hb8)
                        | (go_at_call 14; have h9 := HB9.out; refine (eqParse_same p.state ⟨p.part.toArray⟩ ⟨p.inter.toArray⟩ ⟨p.text.toArray⟩ p.params (.slice Ai p.params.length ci) (.slice Ap p.params.length cp) w9 (Src.own (own_keptC HNIE.out HB9.out)) (HSE.out.kept HB9.out) (by omega)).mono ?_; clear h9; rintro e w10 ⟨rfl, hb10⟩; have HB10 := Lib.hid (HB9.out.trans (hb10.mono HB9.out.size)); clear hb10)
                        | (go_at_call 14; have h8 := HB8.out; refine (eqParse_same M.p.state ⟨M.p.part.toArray⟩ ⟨M.p.inter.toArray⟩ ⟨M.p.text.toArray⟩ M.p.params (.slice Ay M.p.params.length cy) (.slice Ad M.p.params.length cd) w8 (Src.own (own_keptC HNE.out HB8.out)) (Src.own (own_keptC HNDE.out HB8.out)) (by have := HMP.out; omega)).mono ?_; clear h8; rintro e w9 ⟨rfl, hb9⟩; have HB9 := Lib.hid (HB8.out.trans (hb9.mono HB8.out.size)); clear hb9))
                    all_goals
                      go_wp2_with fail
                      go_meet
                      exact ⟨rfl, HB10.out⟩
                  case rest =>
                    obtain ⟨rfl, hbf⟩ := hcut
                    obtain ⟨wf, rfl⟩ : ∃ wf : World, wf = wc := ⟨_, rfl⟩
                    have zf := hbf.size
                    have ze := HBE.out.size
                    have HXF := Lib.hid ((hbf.block gy (block_lt HXE.out)).trans HXE.out)
                    have HNF := Lib.hid (own_keptC HNE.out hbf)
                    have HOF := Lib.hid (HOE.out.kept hbf)
                    have hb3f : Below w3.heap.size w3 wf := HBC.out.trans ((HBE.out.trans (hbf.mono ze)).mono zc)
                    have HB3F := Lib.hid hb3f
                    have z3f := hb3f.size
                    clear hbf hb3f
                    go_wp2_with fail
                    refine (events_both M.l _ w3.heap.size _ HOF.out (by omega) (fun e he => by have := good_params (HG2.out e he); omega) z3f).mono ?_
                    rintro e wg ⟨rfl, hbg, hsg, hotg⟩
                    have hxg := hotg gy _ 31 (by decide) (by decide) HXF.out
                    have c2 : wg.cell? ⟨gy, 2, none⟩ = some (.slice Ay M.p.params.length cy) := block_cell hxg 2
                    obtain ⟨zs, hzs2⟩ := hsg.owned HNF.out
                    have HZS := Lib.hid hzs2
                    have HBG := Lib.hid hbg
                    clear hxg hbg hsg hotg hzs2
                    go_wp2_with fail
                    refine (numbers_any M.p.params.length zs _ HZS.out (by have := HMP.out; omega)).mono ?_
                    rintro e wh ⟨rfl, hbh⟩
                    have hb3h : Below w3.heap.size w3 wh := HB3F.out.trans (HBG.out.trans hbh)
                    have bih := (hb3h.block gi hz3).trans HBI.out
                    have Kh := (HKr.out.kept HB23.out).kept hb3h
                    have i0 : wh.cell? ⟨gi, 0, none⟩ = some (.int .i64 p.state) := block_cell bih 0
                    have i1 : wh.cell? ⟨gi, 1, none⟩ = some (.string ⟨p.part.toArray⟩) := block_cell bih 1
                    have i2 : wh.cell? ⟨gi, 2, none⟩ = some (.slice Ai p.params.length ci) := block_cell bih 2
                    have i3 : wh.cell? ⟨gi, 3, none⟩ = some (.string ⟨p.inter.toArray⟩) := block_cell bih 3
                    have i4 : wh.cell? ⟨gi, 4, none⟩ = some (.string ⟨p.text.toArray⟩) := block_cell bih 4
                    have k0 := Kh.head
                    have k1 := Kh.next 0 rfl
                    have k2 := Kh.next 1 rfl
                    have k3 := Kh.next 2 rfl
                    have k4 := Kh.next 3 rfl
                    have HB3H := Lib.hid hb3h
                    have HNIH := Lib.hid (own_keptC HNI.out hb3h)
                    have HSH := Lib.hid ((HSr.out.kept HB23.out).kept hb3h)
                    clear hbh bih Kh hb3h c2
                    go_wp2_with fail
                    go_still_tail 5, (by kernel_rfl)
                    change wpList _ _ _ _ _ wh.drew
                    go_wp2_with fail
                    refine (eqParse_same p.state ⟨p.part.toArray⟩ ⟨p.inter.toArray⟩ ⟨p.text.toArray⟩ p.params (.slice Ai p.params.length ci) (.slice Ap p.params.length cp) wh.drew (Src.own HNIH.out) HSH.out (by omega)).mono ?_
                    rintro e wk ⟨rfl, hbk⟩
                    have hend : Below wq.heap.size wq wk := hbl2.trans ((HB23.out.trans ((HB3H.out.trans (((Below.refl wh.heap.size wh).drew.trans hbk).mono HB3H.out.size)).mono z3)).mono hbl2.size)
                    have HEND := Lib.hid hend
                    clear hbk hend i0 i1 i2 i3 i4 k0 k1 k2 k3 k4
                    go_wp2_with fail
                    go_roundw
                    case rel => exact ⟨k + 1, by omega, by go_num, HEND.out⟩
                    case measure => simp [intOf]; omega

            · by_cases hkn : k < ss.length
              · have hk6 : decide ((k : Int) < 5) = false := decide_eq_false (by omega)
                clear hlk
                go_wp2_with fail
                go_roundw
                case rel => exact ⟨i + 1, by omega, by go_num, hbl.trans ((HBQ.out.trans (hbl2.mono zq)).mono hbl.size)⟩
                case measure => simp [intOf]; omega
              · have hk6 : decide (k < ss.length) = false := decide_eq_false hkn
                clear hlk
                go_wp2_with fail
                go_roundw
                case rel => exact ⟨i + 1, by omega, by go_num, hbl.trans ((HBQ.out.trans (hbl2.mono zq)).mono hbl.size)⟩
                case measure => simp [intOf]; omega
      · by_cases hkn : i < sl.length
        · have hk6 : decide ((i : Int) < 5) = false := decide_eq_false (by omega)
          clear hlt
          obtain ⟨wm, S, hmk, hmc, hmz, hmb⟩ := many_zero wr
          have HMB := Lib.hid hmb
          have HMZ := Lib.hid hmz
          have HTM := Lib.hid ((HTS.out.kept hbl).kept hmb)
          clear hmb hmz
          go_wp2_with fail
          refine (feed_err (none_ 0) (.slice none 0 0) S 2 wm ⟨rfl, .inl ⟨rfl, rfl⟩⟩ (by decide) (by decide) (by decide) (by decide) HTM.out (.inr ⟨(ok_iff _).2 ok_zero, by rw [HMZ.out]; decide, rfl⟩)).mono ?_
          rintro e w2 ⟨rfl, hb2⟩
          have HB2 := Lib.hid (HMB.out.trans (hb2.mono HMB.out.size))
          clear hb2
          go_wp2_with fail
          refine (num_any 2 _).mono ?_; rintro e wn ⟨rfl, rfl⟩
          go_wp2_with fail
          have hb3 : Below wr.heap.size wr (w2.alloc (.cells #[.int .i64 0, .string ⟨#[]⟩, .slice none 0 0, .string ⟨#[]⟩, .string ⟨#[]⟩] 31)) := HB2.out.alloc HB2.out.size _
          refine (wakes_any _ ((HTS.out.kept hbl).kept hb3)).mono ?_
          rintro e w3 ⟨rfl, hb4⟩
          go_wp2_with fail
          go_ret
          exact ⟨rfl, HB1.out.trans ((HBS.out.trans ((hbl.trans ((hb3.trans (hb4.mono hb3.size)).mono hbl.size)).mono HBS.out.size)).mono HB1.out.size)⟩
        · have hk6 : decide (i < sl.length) = false := decide_eq_false hkn
          clear hlt
          obtain ⟨wm, S, hmk, hmc, hmz, hmb⟩ := many_zero wr
          have HMB := Lib.hid hmb
          have HMZ := Lib.hid hmz
          have HTM := Lib.hid ((HTS.out.kept hbl).kept hmb)
          clear hmb hmz
          go_wp2_with fail
          refine (feed_err (none_ 0) (.slice none 0 0) S 2 wm ⟨rfl, .inl ⟨rfl, rfl⟩⟩ (by decide) (by decide) (by decide) (by decide) HTM.out (.inr ⟨(ok_iff _).2 ok_zero, by rw [HMZ.out]; decide, rfl⟩)).mono ?_
          rintro e w2 ⟨rfl, hb2⟩
          have HB2 := Lib.hid (HMB.out.trans (hb2.mono HMB.out.size))
          clear hb2
          go_wp2_with fail
          refine (num_any 2 _).mono ?_; rintro e wn ⟨rfl, rfl⟩
          go_wp2_with fail
          have hb3 : Below wr.heap.size wr (w2.alloc (.cells #[.int .i64 0, .string ⟨#[]⟩, .slice none 0 0, .string ⟨#[]⟩, .string ⟨#[]⟩] 31)) := HB2.out.alloc HB2.out.size _
          refine (wakes_any _ ((HTS.out.kept hbl).kept hb3)).mono ?_
          rintro e w3 ⟨rfl, hb4⟩
          go_wp2_with fail
          go_ret
          exact ⟨rfl, HB1.out.trans ((HBS.out.trans ((hbl.trans ((hb3.trans (hb4.mono hb3.size)).mono hbl.size)).mono HBS.out.size)).mono HB1.out.size)⟩
end Vl
end Go.Proofs.YtjodbmfjdpbbnaaDoor
