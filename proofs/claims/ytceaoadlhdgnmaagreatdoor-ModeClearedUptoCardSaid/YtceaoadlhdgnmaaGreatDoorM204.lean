/- Joined texts: CurMove, CurDo. -/
import Derived.Test.YtceaoadlhdgnmaaGreatDoorM118
import Derived.Test.YtceaoadlhdgnmaaGreatDoorM203
namespace Go.Proofs.YtceaoadlhdgnmaaGreatDoor
set_option maxRecDepth 100000
section
open Go.RowKit
namespace Scr
open Go.Proofs.YtceaoadlhdgnmaaGreatDoor.Row
theorem stepsS_fc {s : S} (h : Fc s) (l : List (Int × Int)) : Fc (stepsS s l) := by
  obtain ⟨r, c, e, h0, h1, h2, h3⟩ := stepsS_is l h
  rw [e]
  exact h.at h0 h1 h2 h3
theorem stepsS_succ (s : S) (l : List (Int × Int)) {a : Nat} (h : a < l.length) : stepsS s (l.take (a + 1)) = stepS (stepsS s (l.take a)) (l.getD a (0, 0)) := by
  unfold stepsS
  rw [List.take_succ_eq_append_getElem h, List.foldl_append]
  simp [h]
abbrev stbox (v : Value) : Obj := .cells #[v] 142
set_option maxHeartbeats 3200000 in
theorem closure_any (l : List (Int × Int)) (v : Value) (s : S) (x y z : Value) (b base bs : Nat) (w : World) (h : Pn w b base s x y z) (hF : Fc s) (hp : ∀ p, p ∈ l → plainKey p.1 ∧ -1 ≤ p.2 ∧ p.2 ≤ 9999) (hl : l.length ≤ 2)
    (hv : Sts w v l) (hbx : w.heap[bs]? = some (stbox v)) :
    Calls Tryz.prog 135 #[.pointer (some ⟨b, 0, none⟩), .pointer (some ⟨bs, 0, none⟩)] w fun e w' => e = .returned (.tuple #[]) ∧ Pn w' b base (noWrap (stepsS s l)) x y z ∧ Below b w w' ∧ Only b w w' := by
  have H0 := Lib.hid h
  have HV := Lib.hid hv
  have HTK := Lib.hid (fun a (ha : a < l.length) W (k : Pn W b base (stepsS s (l.take a)) x y z) => (take_any (stepsS s (l.take a)) x y z (l.getD a (0, 0)).1 (l.getD a (0, 0)).2 b base W k (stepsS_fc hF _)
    (hp _ (by rw [List.getD_eq_getElem?_getD, List.getElem?_eq_getElem ha]; exact List.getElem_mem ha)).1 (hp _ (by rw [List.getD_eq_getElem?_getD, List.getElem?_eq_getElem ha]; exact List.getElem_mem ha)).2.1 (hp _ (by rw [List.getD_eq_getElem?_getD, List.getElem?_eq_getElem ha]; exact List.getElem_mem ha)).2.2))
  have HSC := Lib.hid (fun a (ha : a < l.length) => stepsS_succ s l ha)
  have HAL : Hid (stepsS s (l.take l.length) = stepsS s l) := Lib.hid (by rw [List.take_length])
  have HS0 : Hid (stepsS s (l.take 0) = s) := Lib.hid rfl
  have cb : w.cell? ⟨bs, 0, none⟩ = some v := Blk.cell hbx 0
  rcases hv with ⟨rfl, rfl⟩ | ⟨q, c, A, t, rfl, hc, hq, ht, hk⟩
  · have HE : Hid (stepsS s [] = s) := Lib.hid rfl
    have f0 : ∀ j, w.frozen? ⟨b, j, none⟩ = false := h.box.free
    have c0 : ∀ j, w.cell? ⟨b, j, none⟩ = (sarr s x y z)[j]? := h.box.cell
    clear h hF hp hl hbx HTK HSC HAL HS0 HV
    go_enter Tryz.func135, Tryz.ntmps135
    go_wp2_with fail
    go_rounds 1
    go_end0
    exact ⟨rfl, H0.out.wrap, bo_set (bo_refl b w) 9 _⟩
  · have HK := Lib.hid hk
    have HQ0 := Lib.hid hq
    have HNE : Hid (q ≠ b) := Lib.hid fun e => by
      subst e
      have h1 := h.box
      unfold SBox at h1
      rw [hq] at h1
      injection h1 with h1
      injection h1 with _ h1 _
      exact ht h1
    obtain ⟨m, hm⟩ : ∃ m, l.length = m := ⟨_, rfl⟩
    have HBX := Lib.hid hbx
    clear h hF hp hk hbx hq
    rw [hm] at hl hc HV HTK HSC HAL HK
    rw [hm] at cb HBX
    clear hm
    go_enter Tryz.func135, Tryz.ntmps135
    go_wp2_with fail
    go_loopw [7] (fun i wr => ∃ a : Nat, a ≤ m ∧ i = .int .i64 a ∧ Hid (Pn wr b base (stepsS s (l.take a)) x y z) ∧ Hid (Below b w wr ∧ Only b w wr) ∧ Hid (wr.heap[q]? = some (.cells A t (0, 0)))) (fun i _ => m - (intOf i).toNat)
    case atStart => exact ⟨0, by omega, rfl, Lib.hid (by rw [HS0.out]; exact H0.out), Lib.hid (bo_refl b w), HQ0⟩
    case round =>
      obtain ⟨a, ha, rfl, HP, HB, HQ⟩ := hrel
      by_cases hlt : a < m
      · obtain ⟨g0, g1⟩ := HK.out a hlt
        have HT1 := Lib.hid (fun W (k : Pn W b base (stepsS s (l.take a)) x y z) => HTK.out a hlt W k)
        have HS1 := Lib.hid (HSC.out a hlt)
        generalize l.getD a (0, 0) = p at g0 g1 HT1 HS1
        obtain ⟨pk, pn⟩ := p
        have q0 : wr.cell? ⟨q, a * 2, none⟩ = some (.int .i32 pk) := by rw [cell_of_row wr q (a * 2) A t (0, 0) HQ.out]; exact g0
        have q1 : wr.cell? ⟨q, a * 2 + 1, none⟩ = some (.int .i64 pn) := by rw [cell_of_row wr q (a * 2 + 1) A t (0, 0) HQ.out]; exact g1
        have HN : Hid (∀ o : Obj, Pn (wr.alloc o) b base (stepsS s (l.take a)) x y z ∧ (Below b w (wr.alloc o) ∧ Only b w (wr.alloc o)) ∧ (wr.alloc o).heap[q]? = some (.cells A t (0, 0))) := Lib.hid fun o => ⟨HP.out.kept (bel_alloc wr o), bo_bel HB.out HP.out.le (bel_alloc wr o), Blk.kept HQ.out (bel_alloc wr o)⟩
        clear g0 g1 HTK HSC HK
        go_wp2_with fail
        refine (HT1.out _ (HN.out _).1).mono ?_; rintro e w2 ⟨rfl, hp, hb, hon⟩
        have H2 : Hid (Pn w2 b base (stepsS s (l.take (a + 1))) x y z) := Lib.hid (by rw [HS1.out]; exact hp)
        have HB2 : Hid (Below b w w2 ∧ Only b w w2) := Lib.hid ⟨(HN.out _).2.1.1.trans hb, Only.trans (HN.out _).2.1.2 hon⟩
        have HQ2 : Hid (w2.heap[q]? = some (.cells A t (0, 0))) := Lib.hid (hon.2 q _ HNE.out (HN.out _).2.2)
        clear hp hb hon HN HP HB HQ q0 q1
        go_wp2_with fail
        go_roundw
        case rel => exact ⟨a + 1, by omega, by go_num, H2, HB2, HQ2⟩
        case measure => simp [intOf]; omega
      · obtain rfl : a = m := by omega
        rw [HAL.out] at HP
        have f0 : ∀ j, wr.frozen? ⟨b, j, none⟩ = false := HP.out.box.free
        have c0 : ∀ j, wr.cell? ⟨b, j, none⟩ = (sarr (stepsS s l) x y z)[j]? := HP.out.box.cell
        go_wp2_with fail
        go_end0
        exact ⟨rfl, HP.out.wrap, bo_set HB.out 9 _⟩
theorem Pc.pb {w0 w : World} {s : S} {x y z : Value} (h : Pc w0 s x y z w) (ho : Own w (w0.heap.size + 2) s x y z) : Pb w0 s x y z w := ⟨⟨h.b0, ho, by omega, h.up⟩, h.b1, h.bel⟩
set_option maxHeartbeats 6400000 in
theorem changed_move (l : List (Int × Int)) (v : Value) (bs : Nat) (s : S) (x y z : Value) (w : World) (h : In w s x y z) (hh : Holds s) (hT : Tabs w) (hok : okB s = true) (hp : ∀ p, p ∈ l → plainKey p.1 ∧ -1 ≤ p.2 ∧ p.2 ≤ 9999) (hl : l.length ≤ 2) (hv : Sts w v l) (hbx : w.heap[bs]? = some (stbox v)) :
    Calls Tryz.prog 94 #[sv s x y z, .func (.func 135) #[] #[.pointer (some ⟨bs, 0, none⟩)]] w fun e w' => ∃ x' y' z', e = .returned (.tuple #[sv (noWrap (stepsS s l)) x' y' z', .int .i64 0]) ∧ Own w' w.heap.size (noWrap (stepsS s l)) x' y' z' ∧ Below w.heap.size w w' := by
  have HI := Lib.hid h
  have H0 := Lib.hid (Pc.start w s x y z)
  have HL := Lib.hid ((ok_iff s).1 hok).lens
  have HCK := Lib.hid (check_any s x y z _ (h.kept H0.out.bel) hh (hT.kept H0.out.bel))
  have HFC := ((ok_iff s).1 hok).fc
  have HCL := Lib.hid (fun W {x' y' z' : Value} (k : Pn W w.heap.size (w.heap.size + 2) s x' y' z') (hb : Below w.heap.size w W) => closure_any l v s x' y' z' w.heap.size (w.heap.size + 2) bs W k HFC hp hl (hv.kept hb) (Blk.kept hbx hb))
  rw [hok] at HCK
  unfold codeB at HCK
  clear h hh hT hok hp hl hv hbx HFC
  go_enter Tryz.func94, Tryz.ntmps94
  go_wp2_with (first
    | (refine wp_allocS1 (w := w) rfl rfl ?_)
    | (refine wp_loadS (b := w.heap.size) (s := s) rfl rfl rfl H0.out.b0 ?_))
  refine HCK.out.mono ?_; rintro e w0 ⟨rfl, hb⟩
  have H1 := Lib.hid (H0.out.kept hb)
  clear hb H0 HCK
  have c0 : ∀ j, w0.cell? ⟨w.heap.size, j, none⟩ = (sarr s x y z)[j]? := H1.out.b0.cell
  go_wp2_with fail
  refine (Row.clone_any s.main.cells x _ (HI.out.kept H1.out.bel).m.cs HL.out.1).mono ?_; rintro e w1 ⟨v1, rfl, ho, hb⟩
  obtain ⟨A2, n2, c2, rfl⟩ : ∃ A n c, v1 = .slice A n c := (by obtain ⟨A, c, e, _⟩ := ho.rm.2; exact ⟨A, _, c, e⟩)
  have H1' := Lib.hid (H1.out.kept hb)
  have HU := Lib.hid H1.out.up
  have H2 := Lib.hid (H1'.out.putM (.slice A2 n2 c2))
  have HM := Lib.hid ((ho.low HU.out).set (show w.heap.size < w.heap.size + 2 by omega) 2 (.slice A2 n2 c2))
  have f1 : ∀ j, w1.frozen? ⟨w.heap.size, j, none⟩ = false := H1'.out.b0.free
  have c1 : ∀ j, w1.cell? ⟨w.heap.size, j, none⟩ = (sarr s x y z)[j]? := H1'.out.b0.cell
  clear ho hb H1 HU c0
  go_upto_region 5 with (fail)
  change Code.wp _ _ _ _ (w1.setCell ⟨w.heap.size, 2, none⟩ (.slice A2 n2 c2))
  clear f1 c1 H1'
  generalize w1.setCell ⟨w.heap.size, 2, none⟩ (.slice A2 n2 c2) = w2 at H2 HM ⊢
  have c2' : ∀ j, w2.cell? ⟨w.heap.size, j, none⟩ = (sarr s (.slice A2 n2 c2) y z)[j]? := H2.out.b0.cell
  go_wp2_with fail
  refine (Row.clone_any s.other.cells y _ (HI.out.kept H2.out.bel).o.cs HL.out.2.1).mono ?_; rintro e w3 ⟨v1, rfl, ho, hb⟩
  obtain ⟨A3, n3, c3, rfl⟩ : ∃ A n c, v1 = .slice A n c := (by obtain ⟨A, c, e, _⟩ := ho.rm.2; exact ⟨A, _, c, e⟩)
  have H3 := Lib.hid (H2.out.kept hb)
  have HU := Lib.hid H2.out.up
  have H4 := Lib.hid (H3.out.putO (.slice A3 n3 c3))
  have HM4 := Lib.hid ((HM.out.kept hb).set (show w.heap.size < w.heap.size + 2 by omega) 5 (.slice A3 n3 c3))
  have HO4 := Lib.hid ((ho.low HU.out).set (show w.heap.size < w.heap.size + 2 by omega) 5 (.slice A3 n3 c3))
  have f3 : ∀ j, w3.frozen? ⟨w.heap.size, j, none⟩ = false := H3.out.b0.free
  have c3' : ∀ j, w3.cell? ⟨w.heap.size, j, none⟩ = (sarr s (.slice A2 n2 c2) y z)[j]? := H3.out.b0.cell
  clear ho hb H2 HU HM c2'
  go_upto_region 6 with (fail)
  change Code.wp _ _ _ _ (w3.setCell ⟨w.heap.size, 5, none⟩ (.slice A3 n3 c3))
  clear f3 c3' H3
  generalize w3.setCell ⟨w.heap.size, 5, none⟩ (.slice A3 n3 c3) = w4 at H4 HM4 HO4 ⊢
  have c4' : ∀ j, w4.cell? ⟨w.heap.size, j, none⟩ = (sarr s (.slice A2 n2 c2) (.slice A3 n3 c3) z)[j]? := H4.out.b0.cell
  go_wp2_with fail
  refine (Tab.clone_any s.tabs z _ (HI.out.kept H4.out.bel).t HL.out.2.2).mono ?_; rintro e w5 ⟨v1, rfl, ho, hb⟩
  obtain ⟨A5, n5, c5, rfl⟩ : ∃ A n c, v1 = .slice A n c := (by obtain ⟨A, c, e, _⟩ := ho.bl.room; exact ⟨A, _, c, e⟩)
  have H5 := Lib.hid (H4.out.kept hb)
  have HU := Lib.hid H4.out.up
  have H6 := Lib.hid (H5.out.putT (.slice A5 n5 c5))
  have HO6 : Hid (Own (w5.setCell ⟨w.heap.size, 39, none⟩ (.slice A5 n5 c5)) (w.heap.size + 2) s (.slice A2 n2 c2) (.slice A3 n3 c3) (.slice A5 n5 c5)) := Lib.hid ⟨(HM4.out.kept hb).set (by omega) 39 _, (HO4.out.kept hb).set (by omega) 39 _, ownB_set (ho.low HU.out) (by omega) 39 _⟩
  have f5 : ∀ j, w5.frozen? ⟨w.heap.size, j, none⟩ = false := H5.out.b0.free
  have c5' : ∀ j, w5.cell? ⟨w.heap.size, j, none⟩ = (sarr s (.slice A2 n2 c2) (.slice A3 n3 c3) z)[j]? := H5.out.b0.cell
  clear ho hb H4 HU HM4 HO4 c4'
  go_upto_region 7 with (fail)
  change Code.wp _ _ _ _ (w5.setCell ⟨w.heap.size, 39, none⟩ (.slice A5 n5 c5))
  clear f5 c5' H5
  generalize w5.setCell ⟨w.heap.size, 39, none⟩ (.slice A5 n5 c5) = w6 at H6 HO6 ⊢
  have HP6 := Lib.hid (H6.out.pb HO6.out)
  clear H6 HO6
  go_wp2_with fail
  refine (HCL.out w6 HP6.out.pn HP6.out.bel).mono ?_; rintro e w7 ⟨rfl, hp, hb, hon⟩
  have HW := Lib.hid (HP6.out.only hp hb hon)
  clear hp hb hon HP6
  go_wp2_with (first
    | (refine wp_loadS (b := w.heap.size) (s := noWrap (stepsS s l)) rfl rfl rfl HW.out.pn.box ?_)
    | (refine wp_storeS (b := w.heap.size + 1) rfl rfl rfl rfl rfl HW.out.pn.own.in_.one HW.out.b1 rfl ?_; intro w9 h9))
  refine bodyPost_ret (ret2S rfl rfl h9.box rfl) rfl ?_
  exact ⟨_, _, _, rfl, Own.low (h9.own HW.out.pn.own (by omega)) (by omega), h9.below _ _ (by omega) HW.out.bel⟩
set_option maxHeartbeats 3200000 in
theorem changed_no (F : Value) (s : S) (x y z : Value) (w : World) (h : In w s x y z) (hh : Holds s) (hT : Tabs w) (hok : okB s = false) :
    Calls Tryz.prog 94 #[sv s x y z, F] w fun e w' => e = .returned (.tuple #[sv noS nilS nilS nilS, .int .i64 1]) ∧ Below w.heap.size w w' := by
  have H0 := Lib.hid (Rz.start w s x y z)
  have HCK := Lib.hid (check_any s x y z _ (h.kept H0.out.bel) hh (hT.kept H0.out.bel))
  rw [hok] at HCK
  unfold codeB at HCK
  clear h hh hT hok
  go_enter Tryz.func94, Tryz.ntmps94
  go_wp2_with (first
    | (refine wp_allocS1 (w := w) rfl rfl ?_)
    | (refine wp_loadS (b := w.heap.size) (s := s) rfl rfl rfl H0.out.b0 ?_))
  refine HCK.out.mono ?_; rintro e w1 ⟨rfl, hb⟩
  have H1 := Lib.hid (H0.out.kept hb)
  clear hb H0 HCK
  go_wp2_with (refine wp_storeS (b := w.heap.size + 1) (A := zarr) rfl rfl rfl rfl rfl (sarr_one rfl rfl rfl) H1.out.b1 rfl ?_; intro w7 h7)
  refine bodyPost_ret (ret2S (s := noS) (x := nilS) (y := nilS) (z := nilS) rfl rfl h7.box rfl) rfl ?_
  exact ⟨rfl, h7.below _ _ (by omega) H1.out.bel⟩
end Scr
end
section
open Go.RowKit
namespace Scr
open Go.Proofs.YtceaoadlhdgnmaaGreatDoor.Row
theorem Sts.shape {w : World} {v : Value} {l : List (Int × Int)} (h : Sts w v l) : ∃ A c, v = .slice A l.length c := by
  rcases h with ⟨rfl, rfl⟩ | ⟨b, c, _, _, h, _⟩
  · exact ⟨none, 0, rfl⟩
  · exact ⟨_, c, h⟩
theorem stL_len0 {key n m : Int} : (stL key n m).length = 0 ↔ keyB key = false := by rw [List.length_eq_zero_iff]; exact stL_nil
noncomputable def mayB (s : S) (key n m : Int) : Bool := okB s && (keyB key && (numB n && numB m))
set_option maxHeartbeats 6400000 in
theorem moveD (s : S) (x y z : Value) (key n m : Int) (w : World) (h : In w s x y z) (hh : Holds s) (hT : Tabs w) :
    Calls Tryz.prog 93 #[sv s x y z, .int .i64 key, .int .i64 n, .int .i64 m] w fun e w' => ∃ X x' y' z' code, e = .returned (.tuple #[sv X x' y' z', .int .i64 code]) ∧ Ans w w' (mayB s key n m) (moveS s key n m) X x' y' z' code := by
  have H0 := Lib.hid (Rz.start w s x y z)
  have HI := Lib.hid h
  have HH := Lib.hid hh
  have HT := Lib.hid hT
  have HS0 := Lib.hid (fun W => steps_any key n m W)
  have HL0 : Hid ((stL key n m).length = 0 ↔ keyB key = false) := Lib.hid stL_len0
  have HL2 := Lib.hid (stL_len key n m)
  have HP := Lib.hid (fun h1 h2 => stL_plain (key := key) (n := n) (m := m) h1 h2)
  have HMV : Hid (moveS s key n m = noWrap (stepsS s (stL key n m))) := Lib.hid rfl
  have hmf : ∀ (fn : Fn) (first cap : Array Value) (w : World), (Instr.makeFunc fn first cap).run Tryz.prog w = .ok (.func fn first cap) w := fun _ _ _ _ => rfl
  generalize stL key n m = l at HS0 HL0 HL2 HP HMV
  clear h hh hT
  go_enter Tryz.func93, Tryz.ntmps93
  go_wp2_with (refine wp_allocS1 (w := w) rfl rfl ?_)
  refine (HS0.out _).mono ?_; rintro e w1 ⟨v, rfl, hs, hb⟩
  obtain ⟨A, c, rfl⟩ := hs.shape
  have H2 : Hid (Rz w s x y z (w1.alloc (stbox (.slice A l.length c)))) := Lib.hid ((H0.out.kept hb).kept (bel_alloc w1 _))
  have HS2 : Hid (Sts (w1.alloc (stbox (.slice A l.length c))) (.slice A l.length c) l) := Lib.hid (hs.kept (bel_alloc w1 _))
  have HB2 : Hid ((w1.alloc (stbox (.slice A l.length c))).heap[w1.heap.size]? = some (stbox (.slice A l.length c))) := Lib.hid (heap_alloc_new _ _)
  clear hs hb H0 HS0
  obtain ⟨L, hL⟩ : ∃ L, l.length = L := ⟨_, rfl⟩
  rw [hL] at H2 HS2 HB2 HL0 HL2 ⊢
  have HLL := Lib.hid hL
  clear hL
  go_upto_region 2 with (fail)
  change Code.wp _ _ _ _ (w1.alloc (stbox (.slice A L c)))
  generalize w1.alloc (stbox (.slice A L c)) = w2 at H2 HS2 HB2 ⊢
  generalize w1.heap.size = bs at HB2 ⊢
  have cb : w2.cell? ⟨bs, 0, none⟩ = some (.slice A L c) := Blk.cell HB2.out 0
  by_cases h0 : L = 0
  · subst h0
    have HM : Hid (mayB s key n m = false) := Lib.hid (by unfold mayB; rw [HL0.out.1 rfl, Bool.false_and, Bool.and_false])
    go_wp2_with (refine wp_storeS (b := w.heap.size + 1) (A := zarr) rfl rfl rfl rfl rfl (sarr_one rfl rfl rfl) H2.out.b1 rfl ?_; intro w7 h7)
    refine bodyPost_ret (ret2S (s := noS) (x := nilS) (y := nilS) (z := nilS) rfl rfl h7.box rfl) rfl ?_
    exact ⟨_, _, _, _, _, rfl, ans_no HM.out (h7.below _ _ (by omega) H2.out.bel)⟩
  · have hz : ((L : Int) == 0) = false := by rw [beq_eq_false_iff_ne]; omega
    have HK : Hid (keyB key = true) := Lib.hid (by
      cases e : keyB key
      · exact absurd (HL0.out.2 e) h0
      · rfl)
    cases hn : numB n
    · have HM : Hid (mayB s key n m = false) := Lib.hid (by unfold mayB; rw [hn, Bool.false_and, Bool.and_false, Bool.and_false])
      go_wp2_with fail
      refine (isCount_any n w2).mono ?_; rintro e w2' ⟨rfl, rfl⟩
      rw [hn]
      go_wp2_with (refine wp_storeS (b := w.heap.size + 1) (A := zarr) rfl rfl rfl rfl rfl (sarr_one rfl rfl rfl) H2.out.b1 rfl ?_; intro w7 h7)
      refine bodyPost_ret (ret2S (s := noS) (x := nilS) (y := nilS) (z := nilS) rfl rfl h7.box rfl) rfl ?_
      exact ⟨_, _, _, _, _, rfl, ans_no HM.out (h7.below _ _ (by omega) H2.out.bel)⟩
    · cases hm : numB m
      · have HM : Hid (mayB s key n m = false) := Lib.hid (by unfold mayB; rw [hm, Bool.and_false, Bool.and_false, Bool.and_false])
        go_wp2_with fail
        refine (isCount_any n w2).mono ?_; rintro e w2' ⟨rfl, rfl⟩
        rw [hn]
        go_wp2_with fail
        refine (isCount_any m w2).mono ?_; rintro e w2' ⟨rfl, rfl⟩
        rw [hm]
        go_wp2_with (refine wp_storeS (b := w.heap.size + 1) (A := zarr) rfl rfl rfl rfl rfl (sarr_one rfl rfl rfl) H2.out.b1 rfl ?_; intro w7 h7)
        refine bodyPost_ret (ret2S (s := noS) (x := nilS) (y := nilS) (z := nilS) rfl rfl h7.box rfl) rfl ?_
        exact ⟨_, _, _, _, _, rfl, ans_no HM.out (h7.below _ _ (by omega) H2.out.bel)⟩
      · have HPP := Lib.hid (HP.out hn hm)
        have HM : Hid (mayB s key n m = okB s) := Lib.hid (by unfold mayB; rw [HK.out, hn, hm, Bool.and_true, Bool.and_true, Bool.and_true])
        have HBL : Hid (Below w.heap.size w w2) := Lib.hid H2.out.bel
        go_wp2_with fail
        refine (isCount_any n w2).mono ?_; rintro e w2' ⟨rfl, rfl⟩
        rw [hn]
        go_wp2_with fail
        refine (isCount_any m w2).mono ?_; rintro e w2' ⟨rfl, rfl⟩
        rw [hm]
        go_wp2_with (refine wp_loadS (b := w.heap.size) (s := s) rfl rfl rfl H2.out.b0 ?_)
        cases hok : okB s
        · refine (changed_no _ s x y z w2 (HI.out.kept HBL.out) HH.out (HT.out.kept HBL.out) hok).mono ?_; rintro e w3 ⟨rfl, hb⟩
          have H3 := Lib.hid (H2.out.kept hb)
          clear hb
          go_wp2_with (refine wp_storeS (b := w.heap.size + 1) (A := zarr) rfl rfl rfl rfl rfl (sarr_one rfl rfl rfl) H3.out.b1 rfl ?_; intro w7 h7)
          refine bodyPost_ret (ret2S (s := noS) (x := nilS) (y := nilS) (z := nilS) rfl rfl h7.box rfl) rfl ?_
          exact ⟨_, _, _, _, _, rfl, ans_no (HM.out.trans hok) (h7.below _ _ (by omega) H3.out.bel)⟩
        · refine (changed_move l (.slice A L c) bs s x y z w2 (HI.out.kept HBL.out) HH.out (HT.out.kept HBL.out) hok HPP.out (by rw [HLL.out]; exact HL2.out) HS2.out HB2.out).mono ?_; rintro e w3 ⟨x3, y3, z3, rfl, ho, hb⟩
          have H3 := Lib.hid (H2.out.kept hb)
          have HO3 := Lib.hid (ho.low H2.out.up)
          clear ho hb
          go_wp2_with (refine wp_storeS (b := w.heap.size + 1) rfl rfl rfl rfl rfl HO3.out.in_.one H3.out.b1 rfl ?_; intro w9 h9)
          refine bodyPost_ret (ret2S rfl rfl h9.box rfl) rfl ?_
          exact ⟨_, _, _, _, _, rfl, h9.below _ _ (by omega) H3.out.bel, Own.low (h9.own HO3.out (by omega)) (by omega), by rw [HM.out, hok]; rfl, fun _ => HMV.out.symm, fun e => by rw [HM.out, hok] at e; cases e⟩
end Scr
end
end Go.Proofs.YtceaoadlhdgnmaaGreatDoor
