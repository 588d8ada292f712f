/- The walk of the law on pieces: whatever texts are fed, wherever they are cut, it answers true. -/
import Derived.Test.YtjodbmfjdpbbnaaDoorVtWake
import Derived.Test.YtjodbmfjdpbbnaaDoorRunes
import Derived.Deep.DeepCutAuto
namespace Go.Proofs.YtjodbmfjdpbbnaaDoor
set_option maxRecDepth 100000
open Go.RowKit
namespace Vl
open Vt Vd

theorem feed_at (p : Ps) (u : Value) (s : ByteArray) (l : List UInt8) (hl : s.data.toList = l) (m : Mc) (hm : Mc.feed ⟨p, []⟩ l = m) (w : World) (hu : Src w u p.params.length (ints p.params)) (hk : Ok p) (hs : s.size ≤ 4000) (ht : Utf.Tabs w) :
    Calls Tryd.prog 11 #[.agg #[.int .i64 p.state, .string ⟨p.part.toArray⟩, u, .string ⟨p.inter.toArray⟩, .string ⟨p.text.toArray⟩], .string s] w (FedD w.heap.size w m) := by
  subst hm; subst hl; exact feed_ok p u s w hu hk hs ht
theorem feed0_at (s : ByteArray) (l : List UInt8) (hl : s.data.toList = l) (m : Mc) (hm : Mc.feed ⟨none_ 0, []⟩ l = m) (w : World) (hs : s.size ≤ 4000) (ht : Utf.Tabs w) :
    Calls Tryd.prog 11 #[.agg #[.int .i64 0, .string ⟨#[]⟩, .slice none 0 0, .string ⟨#[]⟩, .string ⟨#[]⟩], .string s] w (FedD w.heap.size w m) := by
  subst hm; subst hl; exact feed0_any s w hs ht
/-- A cut leads where the whole does. -/
theorem cut_feed (l : List UInt8) (k : Nat) (X A B : Mc) (hX : Mc.feed ⟨none_ 0, []⟩ l = X) (hA : Mc.feed ⟨none_ 0, []⟩ (l.take k) = A) (hB : Mc.feed ⟨A.p, []⟩ (l.drop k) = B) : X.l = A.l ++ B.l ∧ X.p = B.p := by
  have h := feed_append (none_ 0) (l.take k) (l.drop k)
  rw [List.take_append_drop] at h
  unfold feed at h
  rw [hX, hA, hB] at h
  injection h with h1 h2
  exact ⟨h1, h2⟩
theorem events_few {m : Mc} {p : Ps} {l : List UInt8} (h : Mc.feed ⟨p, []⟩ l = m) : m.l.length ≤ 2 * l.length := by
  have := feeds_len l ⟨p, []⟩
  rw [h] at this
  simpa using this
theorem check_zero (p : Ps) (u : Value) (w : World) (hu : Src w u p.params.length (ints p.params)) (hk : Ok p) (ht : Utf.Tabs w) :
    Calls Tryd.prog 8 #[.agg #[.int .i64 p.state, .string ⟨p.part.toArray⟩, u, .string ⟨p.inter.toArray⟩, .string ⟨p.text.toArray⟩]] w fun e w' => e = .returned (.int .i64 0) ∧ Below w.heap.size w w' := by
  have h := check_any p u w hu (by have := Utf.fits_len hk.fit; omega) (by have := hk.n16; omega) (by have := hk.i3; omega) (by have := hk.t64; omega) ht
  have hc : chk p = 0 := by unfold chk; rw [(ok_iff p).2 hk]; rfl
  rw [hc] at h; exact h

set_option maxHeartbeats 3200000 in
theorem lawSplits_any {x y : Value} (l : List Ps) (ss : List ByteArray) (w : World) (hx : Prs w x l) (hn : l.length ≤ 140737488355328) (hz : ∀ k, k < l.length → Slim (l.getD k (none_ 0)) 140737488355328)
    (hy : Strs w y ss) (hny : ss.length ≤ 140737488355328) (hzy : ∀ k, k < ss.length → (ss.getD k ByteArray.empty).size ≤ 140737488355328) (ht : Utf.Tabs w) :
    Calls Tryd.prog 5 #[.agg #[x, y]] w fun e w' => e = .returned (.bool true) ∧ Below w.heap.size w w' := by
  obtain ⟨A, c, rfl, _⟩ := hx.form
  obtain ⟨A', c', rfl, _⟩ := hy.at_
  have HX := Lib.hid hx
  have HZ := Lib.hid hz
  have HY := Lib.hid hy
  have HNY := Lib.hid hny
  have HZY := Lib.hid hzy
  have HT := Lib.hid ht
  clear hx hz hy hny hzy ht
  go_enter Tryd.func5, Tryd.ntmps5
  go_wp2_with fail
  have hb0 : Below w.heap.size w (w.alloc (.cells #[.slice A l.length c, .slice A' ss.length c'] 27)) := (Below.refl _ _).alloc (Nat.le_refl _) _
  have hblk := heap_alloc_new w (.cells #[.slice A l.length c, .slice A' ss.length c'] 27)
  have hs0 : w.heap.size < (w.alloc (.cells #[.slice A l.length c, .slice A' ss.length c'] 27)).heap.size := by simp
  generalize w.alloc (.cells #[.slice A l.length c, .slice A' ss.length c'] 27) = w0 at hb0 hblk hs0 ⊢
  refine (heavy3_any l ss w0 (HX.out.kept hb0) hn HZ.out (HY.out.kept hb0) HNY.out HZY.out).mono ?_
  rintro e w1 ⟨⟨b, rfl, hF⟩, hb1⟩
  have hblk1 : w1.heap[w.heap.size]? = some (.cells #[.slice A l.length c, .slice A' ss.length c'] 27 (0, 0)) := (hb1.block _ hs0).trans hblk
  have hq1 : w1.cell? ⟨w.heap.size, 1, none⟩ = some (.slice A' ss.length c') := block_cell hblk1 1
  have hbw1 : Below w.heap.size w w1 := hb0.trans (hb1.mono hb0.size)
  have HB1 := Lib.hid hbw1
  have HF := Lib.hid hF
  have HY1 := Lib.hid (Src.kept HY.out hbw1)
  have HT1 := Lib.hid (HT.out.kept hbw1)
  clear hF hb0 hblk hs0 hb1 hbw1 hblk1
  cases b with
  | true =>
    go_wp2_with fail
    go_ret
    exact ⟨rfl, HB1.out⟩
  | false =>
    have HFew := Lib.hid (HF.out rfl)
    go_wp2_with fail
    go_loopw [3] (fun i wr => ∃ k : Nat, k ≤ ss.length ∧ i = .int .i64 k ∧ Below w1.heap.size w1 wr) (fun i _ => ss.length - (intOf i).toNat)
    case atStart => exact ⟨0, by omega, rfl, Below.refl _ _⟩
    case round =>
      obtain ⟨i, hi, rfl, hbl⟩ := hrel
      have hq := cell_kept hbl hq1
      have hin4 : ss.length ≤ 4000 := HFew.out.light.1
      by_cases hlt : i < ss.length ∧ i < 5
      · obtain ⟨hlt, h5⟩ := hlt
        have hk5 : decide ((i : Int) < 5) = true := decide_eq_true (by omega)
        obtain ⟨A9, c9, hA, hcell⟩ := Strs.at_ (Src.kept HY1.out hbl)
        obtain ⟨rfl, _, rfl⟩ : A' = A9 ∧ ss.length = ss.length ∧ c' = c9 := by injection hA with h1 h2 h3; exact ⟨h1, h2, h3⟩
        obtain ⟨ad, rfl, hck⟩ := hcell i hlt
        have HT2 := Lib.hid (HT1.out.kept hbl)
        clear hcell hA
        generalize ss.getD i ByteArray.empty = s at hck
        by_cases h120 : 120 < s.size
        · have hd2 : decide (120 < (s.size : Int)) = true := decide_eq_true (by omega)
          go_wp2_with fail
          go_roundw
          case rel => exact ⟨i + 1, by omega, by go_num, hbl⟩
          case measure => simp [intOf]; omega
        · have hd2 : decide (120 < (s.size : Int)) = false := decide_eq_false (by omega)
          obtain ⟨X, hX⟩ : ∃ X, Mc.feed ⟨none_ 0, []⟩ s.data.toList = X := ⟨_, rfl⟩
          have hXl := events_few hX
          have hsl : s.data.toList.length = s.size := rfl
          rw [hsl] at hXl
          have HXX := Lib.hid hX
          clear hX hsl
          go_wp2_with fail
          refine (feed0_at s _ rfl X HXX.out _ (by omega) HT2.out).mono ?_
          rintro e w2 ⟨lv, pv, rfl, ho, hnn, hb2, hgd⟩
          obtain ⟨Ax, cx, rfl⟩ := own_shape hnn
          have z2 := hb2.size
          have HGD := Lib.hid hgd
          have al : Below w2.heap.size w2 (w2.alloc (.cells #[.int .i64 X.p.state, .string ⟨X.p.part.toArray⟩, .slice Ax X.p.params.length cx, .string ⟨X.p.inter.toArray⟩, .string ⟨X.p.text.toArray⟩] 31)) := (Below.refl _ _).alloc (Nat.le_refl _) _
          have hblkx := heap_alloc_new w2 (.cells #[.int .i64 X.p.state, .string ⟨X.p.part.toArray⟩, .slice Ax X.p.params.length cx, .string ⟨X.p.inter.toArray⟩, .string ⟨X.p.text.toArray⟩] 31)
          have HBX := Lib.hid hblkx
          have HO := Lib.hid (ho.kept al)
          have HN := Lib.hid (own_keptC hnn al)
          have HB2 := Lib.hid (hb2.alloc z2 (.cells #[.int .i64 X.p.state, .string ⟨X.p.part.toArray⟩, .slice Ax X.p.params.length cx, .string ⟨X.p.inter.toArray⟩, .string ⟨X.p.text.toArray⟩] 31))
          clear ho hnn hb2 hgd al hblkx
          go_wp2_with fail
          obtain ⟨gx, hgx⟩ : ∃ gx, w2.heap.size = gx := ⟨_, rfl⟩
          obtain ⟨w3, hw3⟩ : ∃ w3, w2.alloc (.cells #[.int .i64 X.p.state, .string ⟨X.p.part.toArray⟩, .slice Ax X.p.params.length cx, .string ⟨X.p.inter.toArray⟩, .string ⟨X.p.text.toArray⟩] 31) = w3 := ⟨_, rfl⟩
          have hz3 : gx < w3.heap.size := by rw [← hw3, ← hgx]; simp
          rw [hw3] at HBX HO HN HB2 ⊢
          rw [hgx] at HBX ⊢
          clear hw3
          refine (num_any 0 _).mono ?_
          rintro e wn ⟨rfl, rfl⟩
          go_wp2_with fail
          obtain ⟨wo, rfl⟩ : ∃ wo : World, wo = wr := ⟨_, rfl⟩
          go_loopw [8] (fun j wr => ∃ k : Nat, k ≤ s.size + 1 ∧ j = .int .i64 k ∧ Below w3.heap.size w3 wr) (fun j _ => s.size + 1 - (intOf j).toNat)
          case atStart => exact ⟨0, by omega, rfl, Below.refl _ _⟩
          case round =>
            obtain ⟨k, hk, rfl, hbl2⟩ := hrel
            by_cases hks : k ≤ s.size
            · obtain ⟨P, hP⟩ : ∃ P, Mc.feed ⟨none_ 0, []⟩ (s.data.toList.take k) = P := ⟨_, rfl⟩
              obtain ⟨Q, hQ⟩ : ∃ Q, Mc.feed ⟨P.p, []⟩ (s.data.toList.drop k) = Q := ⟨_, rfl⟩
              have hcut := cut_feed _ k X P Q HXX.out hP hQ
              have hPl := events_few hP
              have hQl := events_few hQ
              have htk : (s.data.toList.take k).length ≤ s.size := by rw [List.length_take]; exact Nat.min_le_right _ _
              have hdk : (s.data.toList.drop k).length ≤ s.size := by rw [List.length_drop]; exact Nat.sub_le _ _
              have HPk : Hid (Ok P.p) := Lib.hid (by rw [← hP]; exact ok_feeds _ ok_zero)
              have HP := Lib.hid hP
              have HQ := Lib.hid hQ
              have HC := Lib.hid hcut
              have hE1 : Hid ((s.extract 0 k).data.toList = s.data.toList.take k) := Lib.hid (by rw [Utf.extract_list]; simp)
              have hE2 : Hid ((s.extract k s.size).data.toList = s.data.toList.drop k) := Lib.hid (by rw [Utf.extract_list, List.take_of_length_le (show s.data.toList.length ≤ s.size from Nat.le_refl _)])
              have hz1 : Hid ((s.extract 0 k).size ≤ 120) := Lib.hid (by rw [ByteArray.size_extract]; omega)
              have hz2 : Hid ((s.extract k s.size).size ≤ 120) := Lib.hid (by rw [ByteArray.size_extract]; omega)
              have hT3 := HT2.out.kept HB2.out
              have HT4 := Lib.hid (hT3.kept hbl2)
              clear hP hQ hcut hT3
              go_wp2_with fail
              refine (feed0_at _ _ hE1.out P HP.out _ (by have := hz1.out; omega) HT4.out).mono ?_
              rintro e w4 ⟨lv1, pv1, rfl, ho1, hn1, hb4, hgd1⟩
              obtain ⟨Am, cm, rfl⟩ := own_shape hn1
              have z4 := hb4.size
              have HG1 := Lib.hid hgd1
              have al : Below w4.heap.size w4 (w4.alloc (.cells #[.int .i64 P.p.state, .string ⟨P.p.part.toArray⟩, .slice Am P.p.params.length cm, .string ⟨P.p.inter.toArray⟩, .string ⟨P.p.text.toArray⟩] 31)) := (Below.refl _ _).alloc (Nat.le_refl _) _
              have hblkm := heap_alloc_new w4 (.cells #[.int .i64 P.p.state, .string ⟨P.p.part.toArray⟩, .slice Am P.p.params.length cm, .string ⟨P.p.inter.toArray⟩, .string ⟨P.p.text.toArray⟩] 31)
              have HBM := Lib.hid hblkm
              have HO1 := Lib.hid (ho1.kept al)
              have HN1 := Lib.hid (own_keptC hn1 al)
              have HB4 := Lib.hid (hb4.alloc z4 (.cells #[.int .i64 P.p.state, .string ⟨P.p.part.toArray⟩, .slice Am P.p.params.length cm, .string ⟨P.p.inter.toArray⟩, .string ⟨P.p.text.toArray⟩] 31))
              clear ho1 hn1 hb4 hgd1 al hblkm
              go_wp2_with fail
              obtain ⟨gm, hgm⟩ : ∃ gm, w4.heap.size = gm := ⟨_, rfl⟩
              obtain ⟨w5, hw5⟩ : ∃ w5, w4.alloc (.cells #[.int .i64 P.p.state, .string ⟨P.p.part.toArray⟩, .slice Am P.p.params.length cm, .string ⟨P.p.inter.toArray⟩, .string ⟨P.p.text.toArray⟩] 31) = w5 := ⟨_, rfl⟩
              have hz5 : gm < w5.heap.size := by rw [← hw5, ← hgm]; simp
              rw [hw5] at HBM HO1 HN1 HB4 ⊢
              rw [hgm] at HBM ⊢
              clear hw5
              have m0 : w5.cell? ⟨gm, 0, none⟩ = some (.int .i64 P.p.state) := block_cell HBM.out 0
              have m1 : w5.cell? ⟨gm, 1, none⟩ = some (.string ⟨P.p.part.toArray⟩) := block_cell HBM.out 1
              have m2 : w5.cell? ⟨gm, 2, none⟩ = some (.slice Am P.p.params.length cm) := block_cell HBM.out 2
              have m3 : w5.cell? ⟨gm, 3, none⟩ = some (.string ⟨P.p.inter.toArray⟩) := block_cell HBM.out 3
              have m4 : w5.cell? ⟨gm, 4, none⟩ = some (.string ⟨P.p.text.toArray⟩) := block_cell HBM.out 4
              have HT5 := Lib.hid (HT4.out.kept HB4.out)
              go_cut [12, 13, 14] (fun s12 s13 s14 wx => Got w5 Q s12 s13 s14 wx ∧ ∀ e ∈ Q.l, Vd.Good e)
              case first =>
                go_region_law (first
                  | (go_simp; go_at_call 11; refine (feed_at P.p (.slice Am P.p.params.length cm) _ _ hE2.out Q HQ.out (w5.drew.alloc (.cells #[.int .i64 0, .string ⟨#[]⟩, .slice none 0 0, .string ⟨#[]⟩, .string ⟨#[]⟩] 31)) ((Src.own HN1.out).kept (((Below.refl _ _).drew).alloc (Nat.le_refl _) _)) HPk.out (by have := hz2.out; omega) (HT5.out.kept (((Below.refl _ _).drew).alloc (Nat.le_refl _) _))).mono ?_; rintro e w6 ⟨lv2, pv2, rfl, ho2, hn2, hb6, hgd2⟩; obtain ⟨Ay, cy, rfl⟩ := own_shape hn2; have HBW := Lib.hid (show Below w5.heap.size w5 (w5.drew.alloc (.cells #[.int .i64 0, .string ⟨#[]⟩, .slice none 0 0, .string ⟨#[]⟩, .string ⟨#[]⟩] 31)) from (((Below.refl _ _).drew).alloc (Nat.le_refl _) _)); have HZ6 := Lib.hid hb6.size; have HO2 := Lib.hid (owns_low ho2 HBW.out.size); have HN2 := Lib.hid (hn2.mono HBW.out.size); have HB6 := Lib.hid (HBW.out.trans (hb6.mono HBW.out.size)); have HG2 := Lib.hid hgd2; have HZB := Lib.hid ((hb6.block w5.heap.size (by simp)).trans (heap_alloc_new w5.drew (.cells #[.int .i64 0, .string ⟨#[]⟩, .slice none 0 0, .string ⟨#[]⟩, .string ⟨#[]⟩] 31))); have kz0 : w6.cell? ⟨w5.heap.size, 0, none⟩ = some (.int .i64 0) := block_cell HZB.out 0; have kf0 : w6.frozen? ⟨w5.heap.size, 0, none⟩ = false := block_free HZB.out 0; have kz1 : w6.cell? ⟨w5.heap.size, 1, none⟩ = some (.string ⟨#[]⟩) := block_cell HZB.out 1; have kf1 : w6.frozen? ⟨w5.heap.size, 1, none⟩ = false := block_free HZB.out 1; have kz2 : w6.cell? ⟨w5.heap.size, 2, none⟩ = some (.slice none 0 0) := block_cell HZB.out 2; have kf2 : w6.frozen? ⟨w5.heap.size, 2, none⟩ = false := block_free HZB.out 2; have kz3 : w6.cell? ⟨w5.heap.size, 3, none⟩ = some (.string ⟨#[]⟩) := block_cell HZB.out 3; have kf3 : w6.frozen? ⟨w5.heap.size, 3, none⟩ = false := block_free HZB.out 3; have kz4 : w6.cell? ⟨w5.heap.size, 4, none⟩ = some (.string ⟨#[]⟩) := block_cell HZB.out 4; have kf4 : w6.frozen? ⟨w5.heap.size, 4, none⟩ = false := block_free HZB.out 4; clear ho2 hn2 hb6 hgd2)
                  | (go_simp; go_at_call 11; refine (feed_at P.p (.slice Am P.p.params.length cm) _ _ hE2.out Q HQ.out w5.drew ((Src.own HN1.out).kept ((Below.refl _ _).drew)) HPk.out (by have := hz2.out; omega) (HT5.out.kept ((Below.refl _ _).drew))).mono ?_; rintro e w6 ⟨lv2, pv2, rfl, ho2, hn2, hb6, hgd2⟩; obtain ⟨Ay, cy, rfl⟩ := own_shape hn2; have HBW := Lib.hid (show Below w5.heap.size w5 w5.drew from ((Below.refl _ _).drew)); have HZ6 := Lib.hid hb6.size; have HO2 := Lib.hid (owns_low ho2 HBW.out.size); have HN2 := Lib.hid (hn2.mono HBW.out.size); have HB6 := Lib.hid (HBW.out.trans (hb6.mono HBW.out.size)); have HG2 := Lib.hid hgd2; clear ho2 hn2 hb6 hgd2))
                all_goals
                  go_wp2_with fail
                  go_meet
                  first
                    | (have hzb := HZB.out; exact ⟨got_set rfl HO2.out HN2.out HB6.out (Nat.le_refl _) hzb, HG2.out⟩)
                    | exact ⟨got_alloc HO2.out HN2.out HB6.out, HG2.out⟩
              case rest =>
                obtain ⟨⟨Ay, cy, gy, rfl, rfl, hgy, hby, ho2, hn2, hbc⟩, hgd2⟩ := hcut
                have hpq : X.p = Q.p := HC.out.2
                have hlq : P.l ++ Q.l = X.l := HC.out.1.symm
                have HLQ := Lib.hid hlq
                have z5 := HB4.out.size
                have zr := hbl2.size
                have zc := hbc.size
                have hb3c : Below w3.heap.size w3 wc := hbl2.trans ((HB4.out.trans (hbc.mono z5)).mono zr)
                have hbm : wc.heap[gm]? = some (.cells #[.int .i64 P.p.state, .string ⟨P.p.part.toArray⟩, .slice Am P.p.params.length cm, .string ⟨P.p.inter.toArray⟩, .string ⟨P.p.text.toArray⟩] 31 (0, 0)) := (hbc.block gm hz5).trans HBM.out
                have hbx : wc.heap[gx]? = some (.cells #[.int .i64 Q.p.state, .string ⟨Q.p.part.toArray⟩, .slice Ax Q.p.params.length cx, .string ⟨Q.p.inter.toArray⟩, .string ⟨Q.p.text.toArray⟩] 31 (0, 0)) := by rw [← hpq]; exact (hb3c.block gx hz3).trans HBX.out
                have hnx : wc.ownsRow wo.heap.size 3 1 (.slice Ax Q.p.params.length cx) Q.p.params.length (ints Q.p.params) := by rw [← hpq]; exact own_keptC HN.out hb3c
                have hgxl := block_lt hbx
                have hgyl := block_lt hby
                have HBXc := Lib.hid hbx
                have HBYc := Lib.hid hby
                have HNX := Lib.hid hnx
                have HNY := Lib.hid hn2
                have HNM := Lib.hid (own_keptC HN1.out hbc)
                have HOX := Lib.hid (HO.out.kept hb3c)
                have HOP := Lib.hid (HO1.out.kept hbc)
                have HOQ := Lib.hid ho2
                have HG2 := Lib.hid hgd2
                have HT6 := Lib.hid (HT5.out.kept hbc)
                have HB3C := Lib.hid hb3c
                clear m0 m1 m2 m3 m4
                have m0 : wc.cell? ⟨gm, 0, none⟩ = some (.int .i64 P.p.state) := block_cell hbm 0
                have m1 : wc.cell? ⟨gm, 1, none⟩ = some (.string ⟨P.p.part.toArray⟩) := block_cell hbm 1
                have m2 : wc.cell? ⟨gm, 2, none⟩ = some (.slice Am P.p.params.length cm) := block_cell hbm 2
                have m3 : wc.cell? ⟨gm, 3, none⟩ = some (.string ⟨P.p.inter.toArray⟩) := block_cell hbm 3
                have m4 : wc.cell? ⟨gm, 4, none⟩ = some (.string ⟨P.p.text.toArray⟩) := block_cell hbm 4
                clear hbm hbx hby hnx hn2 ho2 hgd2 hbc hb3c hlq hpq
                go_wp2_with fail
                refine (num_any 0 _).mono ?_; rintro e wn ⟨rfl, rfl⟩
                go_wp2_with fail
                refine (num_any 0 _).mono ?_; rintro e wn ⟨rfl, rfl⟩
                go_wp2_with fail
                refine (check_zero P.p (.slice Am P.p.params.length cm) _ (Src.own HNM.out) HPk.out HT6.out).mono ?_
                rintro e w7 ⟨rfl, hb7⟩
                have z7 := hb7.size
                have hbx7 := (hb7.block gx hgxl).trans HBXc.out
                have hby7 := (hb7.block gy hgyl).trans HBYc.out
                clear m0 m1 m2 m3 m4
                have x0 : w7.cell? ⟨gx, 0, none⟩ = some (.int .i64 Q.p.state) := block_cell hbx7 0
                have x1 : w7.cell? ⟨gx, 1, none⟩ = some (.string ⟨Q.p.part.toArray⟩) := block_cell hbx7 1
                have x2 : w7.cell? ⟨gx, 2, none⟩ = some (.slice Ax Q.p.params.length cx) := block_cell hbx7 2
                have x3 : w7.cell? ⟨gx, 3, none⟩ = some (.string ⟨Q.p.inter.toArray⟩) := block_cell hbx7 3
                have x4 : w7.cell? ⟨gx, 4, none⟩ = some (.string ⟨Q.p.text.toArray⟩) := block_cell hbx7 4
                have y0 : w7.cell? ⟨gy, 0, none⟩ = some (.int .i64 Q.p.state) := block_cell hby7 0
                have y1 : w7.cell? ⟨gy, 1, none⟩ = some (.string ⟨Q.p.part.toArray⟩) := block_cell hby7 1
                have y2 : w7.cell? ⟨gy, 2, none⟩ = some (.slice Ay Q.p.params.length cy) := block_cell hby7 2
                have y3 : w7.cell? ⟨gy, 3, none⟩ = some (.string ⟨Q.p.inter.toArray⟩) := block_cell hby7 3
                have y4 : w7.cell? ⟨gy, 4, none⟩ = some (.string ⟨Q.p.text.toArray⟩) := block_cell hby7 4
                have HB7 := Lib.hid hb7
                clear hb7 hbx7 hby7
                go_wp2_with fail
                refine (num_any 0 _).mono ?_; rintro e wn ⟨rfl, rfl⟩
                go_wp2_with fail
                refine (eqParse_same Q.p.state ⟨Q.p.part.toArray⟩ ⟨Q.p.inter.toArray⟩ ⟨Q.p.text.toArray⟩ Q.p.params _ _ _ (Src.own (own_keptC HNX.out HB7.out)) (Src.own (own_keptC HNY.out HB7.out)) (by have := (ok_feeds (s.data.toList.drop k) (m := ⟨P.p, []⟩) HPk.out).n16; rw [HQ.out] at this; omega)).mono ?_
                rintro e w8 ⟨rfl, hb8⟩
                have hb78 : Below wc.heap.size wc w8 := HB7.out.trans (hb8.mono z7)
                have HB8 := Lib.hid hb78
                have z8 := hb78.size
                clear hb8 hb78 x0 x1 x2 x3 x4 y0 y1 y2 y3 y4
                go_wp2_with fail
                refine (copyEvents_any P.l lv1 _ (HOP.out.kept HB8.out).reads (by omega) (fun e he => by have := good_params (HG1.out e he); omega)).mono ?_
                rintro e w9 ⟨v3, rfl, ho3, hb9⟩
                have z9 := hb9.size
                have HO3 := Lib.hid ho3
                have HB9 := Lib.hid hb9
                clear ho3 hb9
                go_wp2_with (at_builtin; refine wp_append_evs_if rfl rfl w8.heap.size w5.heap.size v3 P.l rfl HO3.out _ Q.l rfl ((HOQ.out.kept HB8.out).kept HB9.out) (by omega) z9 ?_; intro v4 w10 he4 hb10)
                have z10 := hb10.size
                rw [HLQ.out] at he4
                have HE4 := Lib.hid he4
                have hbA : Below w8.heap.size w8 w10 := HB9.out.trans hb10
                have HBA := Lib.hid hbA
                clear he4 hb10 hbA
                go_wp2_with fail
                refine (eqEvents_same X.l _ _ _ HE4.out ((HOX.out.kept HB8.out).kept HBA.out).reads (by omega) (fun e he => by have := good_params (HGD.out e he); omega)).mono ?_
                rintro e w11 ⟨rfl, hb11⟩
                have hend : Below w3.heap.size w3 w11 := HB3C.out.trans ((HB8.out.trans ((HBA.out.trans (hb11.mono HBA.out.size)).mono z8)).mono HB3C.out.size)
                have HEND := Lib.hid hend
                clear hb11 hend
                go_wp2_with fail
                go_roundw
                case rel => exact ⟨k + 1, by omega, by go_num, HEND.out⟩
                case measure => simp [intOf]; omega
            · have hdm : decide (k ≤ s.size) = false := decide_eq_false hks
              clear hks
              go_wp2_with fail
              go_roundw
              case rel => exact ⟨i + 1, by omega, by go_num, hbl.trans ((HB2.out.trans (hbl2.mono HB2.out.size)).mono hbl.size)⟩
              case measure => simp [intOf]; omega
      · by_cases hkn : i < ss.length
        · have hk6 : decide ((i : Int) < 5) = false := decide_eq_false (by omega)
          clear hlt
          go_wp2_with fail
          refine (wakes_any _ (HT1.out.kept hbl)).mono ?_
          rintro e w2 ⟨rfl, hb2⟩
          go_wp2_with fail
          go_ret
          exact ⟨rfl, HB1.out.trans ((hbl.trans (hb2.mono hbl.size)).mono HB1.out.size)⟩
        · have hk6 : decide (i < ss.length) = false := decide_eq_false hkn
          clear hlt
          go_wp2_with fail
          refine (wakes_any _ (HT1.out.kept hbl)).mono ?_
          rintro e w2 ⟨rfl, hb2⟩
          go_wp2_with fail
          go_ret
          exact ⟨rfl, HB1.out.trans ((hbl.trans (hb2.mono hbl.size)).mono HB1.out.size)⟩
end Vl
end Go.Proofs.YtjodbmfjdpbbnaaDoor
