/- Joined texts: PatLawM. -/
import Derived.Test.YtjcfbeiljdohcaaDoorJM34
import Derived.Test.YtjcfbeiljdohcaaDoorJM36
import Derived.Deep.CutBlock
namespace Go.Proofs.YtjcfbeiljdohcaaDoor
set_option maxRecDepth 100000
section
open Go.RowKit
namespace Pat
open Go.Proofs.YtjcfbeiljdohcaaDoor.Row Go.Proofs.YtjcfbeiljdohcaaDoor.Scr Agb
theorem between_size (a b : Vw) : (between a b).rows = b.g.rows ∧ (between a b).cols = b.g.cols := by unfold between; split <;> exact ⟨rfl, rfl⟩
theorem between_part {a b : Vw} (h : (between a b).all = false) : sameB a b = true := by
  unfold between at h
  cases q : sameB a b with
  | true => rfl
  | false => rw [q] at h; simp [whole] at h
theorem goes_between (a b c : Vw) : goesB (between a b) (between b c) = true := by
  unfold goesB
  cases h : (between b c).all with
  | true => rfl
  | false =>
    have s := between_part h
    unfold sameB at s
    rw [Bool.and_eq_true, beq_iff_eq, beq_iff_eq] at s
    rw [(between_size a b).1, (between_size a b).2, (between_size b c).1, (between_size b c).2, s.1, s.2]; simp
theorem fits_compose {v : Vw} {p q : Pt} (hf : fitsB v p = true) (hg : goesB p q = true) : fitsB v (compose p q) = true := by
  unfold compose
  split
  · rename_i h; unfold fitsB; rw [h]; rfl
  · rename_i h
    split
    · rfl
    · rename_i h2
      unfold goesB at hg
      unfold fitsB at hf ⊢
      simp [h] at hg
      simp [h2] at hf
      simp [hf.1, hf.2, hg.1, hg.2]
abbrev zobV : Obj := .cells #[.int .i64 0, .int .i64 0, .slice none 0 0, .int .i64 0, .int .i64 0, .int .i64 0, .string ⟨#[]⟩] 32 (0, 0)
theorem step_allocV {w : World} {ops : Array Oper} {o : Oper} {a : Act} {K : Act → World → Prop} {Q : Exit → Act → World → Prop} {E : Prop} (hgd : o.guard = none) (ho : o.op = .alloc 32)
    (hK : K (a.put o.dst (.pointer (some ⟨w.heap.size, 0, none⟩))) (w.alloc zobV)) : if Region.wanted o (yielded ops a.tmps) = true then Oper.wp Tryd.prog o a w K Q else E := by
  have hw : Region.wanted o (yielded ops a.tmps) = true := by simp [Region.wanted, hgd]
  rw [if_pos hw]
  unfold Oper.wp
  simp only [ho, execOp, Sem.run_bind]
  exact hK
structure Tq (w0 : World) (x1 : Option (Nat × Obj)) (W : World) : Prop where
  bel : Below w0.heap.size w0 W
  p1 : ∀ q, x1 = some q → W.heap[q.1]? = some q.2 ∧ w0.heap.size ≤ q.1
section
variable {w W W' : World} {x1 : Option (Nat × Obj)}
theorem Tq.kept (h : Tq w x1 W) (hb : Below W.heap.size W W') : Tq w x1 W' :=
  ⟨h.bel.trans (hb.mono h.bel.size), fun q e => ⟨Blk.kept (h.p1 q e).1 hb, (h.p1 q e).2⟩⟩
theorem Tq.alloc1 (h : Tq w none W) (o : Obj) : Tq w (some (W.heap.size, o)) (W.alloc o) :=
  ⟨h.bel.alloc h.bel.size _, fun q e => by injection e with e; subst e; exact ⟨heap_alloc_new _ _, h.bel.size⟩⟩
theorem Tq.store1 {b : Nat} {t : TypeId} {o : Obj} {A : Array Value} (h : Tq w (some (b, o)) W) (hs : Agb.Sto t W b A W') : Tq w (some (b, .cells A t (0, 0))) W' :=
  ⟨hs.below _ _ (h.p1 _ rfl).2 h.bel, fun q e => by injection e with e; subst e; exact ⟨hs.box, (h.p1 _ rfl).2⟩⟩
end
structure PBox (w0 : World) (b : Nat) (p : Pt) (u x : Value) (W : World) : Prop where
  box : W.heap[b]? = some (.cells #[.int .i64 p.rows, .int .i64 p.cols, .bool p.all, u, x, .int .i64 p.row, .int .i64 p.col, .int .i64 p.modes, .string ⟨p.title.toArray⟩] 35 (0, 0))
  u : OwnN W w0.heap.size u p.at_
  x : OwnCs W w0.heap.size x p.cells
  bel : Below w0.heap.size w0 W
theorem PBox.kept {w0 W W' : World} {b : Nat} {p : Pt} {u x : Value} (h : PBox w0 b p u x W) (hb : Below W.heap.size W W') : PBox w0 b p u x W' :=
  ⟨Blk.kept h.box hb, OwnN.kept h.u hb, OwnCs.kept h.x hb, h.bel.trans (hb.mono h.bel.size)⟩
structure VBox (w0 : World) (b : Nat) (v : Vw) (x : Value) (W : World) : Prop where
  box : W.heap[b]? = some (.cells #[.int .i64 v.g.rows, .int .i64 v.g.cols, x, .int .i64 v.row, .int .i64 v.col, .int .i64 v.modes, .string ⟨v.title.toArray⟩] 32 (0, 0))
  x : OwnCs W w0.heap.size x v.g.cells
  bel : Below w0.heap.size w0 W
theorem VBox.kept {w0 W W' : World} {b : Nat} {v : Vw} {x : Value} (h : VBox w0 b v x W) (hb : Below W.heap.size W W') : VBox w0 b v x W' :=
  ⟨Blk.kept h.box hb, OwnCs.kept h.x hb, h.bel.trans (hb.mono h.bel.size)⟩
structure Gf (v : Vw) : Prop where
  may : viewB v = true
  fit : FitV v
structure Gd (w : World) (e : Ve) : Prop where
  may : viewB e.v = true
  fit : FitV e.v
  inn : VIn w e
theorem patch_held {p : Pt} (h : patchB p = true) : Held p.cells := by
  obtain ⟨_, R, C, l, rs, k⟩ := (patchB_iff p).1 h
  rw [k.cells]
  intro i hi
  rw [even_length k.even] at hi
  obtain ⟨q, j, hq, hj, rfl⟩ := split_at hi
  rw [flat_g k.even q j hq hj]
  have hm := rowOf_mem hq
  have := good_texts (k.ok _ hm).2.2 j (by rw [k.even _ hm]; exact hj)
  omega
theorem patch_title {p : Pt} (h : patchB p = true) : p.title.length ≤ 1000000000 := by
  have h1 := ((patchB_iff p).1 h).1
  unfold headB titleB at h1
  simp only [Bool.and_eq_true, decide_eq_true_eq] at h1
  omega
theorem made_one {v v2 : Vw} (h1 : viewB v = true) (h2 : viewB v2 = true) : appD v (between v v2) = v2 := by
  unfold appD
  rw [if_pos (by rw [h1, between_ok h1 h2]; rfl), if_pos (between_fits _ _), apply_between h1 h2]
theorem made_two {v v2 v3 : Vw} (h1 : viewB v = true) (h2 : viewB v2 = true) (h3 : viewB v3 = true) :
    patchB (compose (between v v2) (between v2 v3)) = true ∧ fitsB v (compose (between v v2) (between v2 v3)) = true ∧ appD v (compose (between v v2) (between v2 v3)) = v3 ∧ compD (between v v2) (between v2 v3) = compose (between v v2) (between v2 v3) ∧ goesB (between v v2) (between v2 v3) = true := by
  have p1 := between_ok h1 h2
  have p2 := between_ok h2 h3
  have hg := goes_between v v2 v3
  have hc := compose_ok p1 p2 hg
  have hf := fits_compose (between_fits v v2) hg
  refine ⟨hc, hf, ?_, ?_, hg⟩
  · unfold appD
    rw [if_pos (by rw [h1, hc]; rfl), if_pos hf, apply_compose h1 p1 p2 (between_fits _ _) hg, apply_between h1 h2, apply_between h2 h3]
  · unfold compD
    rw [if_pos (by rw [p1, p2]; rfl), if_pos hg]
theorem between_good {a b : Vw} (ha : viewB a = true) (hb : viewB b = true) : (between a b).cells.length ≤ 1600 ∧ (between a b).at_.length ≤ 40 ∧ patchB (between a b) = true := ⟨(ptr_small (between_ok ha hb)).1, (ptr_small (between_ok ha hb)).2, between_ok ha hb⟩
set_option maxHeartbeats 25600000 in
theorem lawM_any (x y : Value) (V : List Ve) (P : List Pe) (w : World) (hV : Views 1048576 w x V) (hP : Pats 1048576 w y P) (hn : V.length ≤ 140737488355328) (hm : P.length ≤ 140737488355328) (hT : Tabs w) :
    Calls Tryd.prog 3 #[.agg #[x, y]] w fun e w' => e = .returned (.bool true) ∧ Below w.heap.size w w' := by
  have hW0 := (Below.refl w.heap.size w).alloc (Nat.le_refl _) (.cells #[x, y] 25 (0, 0))
  have HH := Lib.hid (heavy16 x y V P _ (hV.kept hW0) (hP.kept hW0) hn hm (by decide))
  have HWK := Lib.hid (fun W (hw : Below w.heap.size w W) => wakes16 W (hT.kept hw))
  have HB0 := Lib.hid hW0
  have HK0 : Hid ((w.alloc (.cells #[x, y] 25 (0, 0))).heap[w.heap.size]? = some (.cells #[x, y] 25 (0, 0))) := Lib.hid (new_alloc _ _ _ rfl)
  have HV := Lib.hid hV
  have HTB := Lib.hid hT
  obtain ⟨A, c, rfl, _⟩ := hV.form
  obtain ⟨A', c', rfl, _⟩ := hP.form
  obtain ⟨n, hnn⟩ : ∃ n, V.length = n := ⟨_, rfl⟩
  obtain ⟨m, hmm⟩ : ∃ n, P.length = n := ⟨_, rfl⟩
  have HN := Lib.hid hnn
  rw [hnn] at HH HB0 HK0 HV hn ⊢
  rw [hmm] at HH HB0 HK0 ⊢
  clear hW0 hV hP hT hnn hmm hm
  go_enter Tryd.func3, Tryd.ntmps3
  go_wp2_with (refine wp_loadA aggAsk rfl rfl rfl HK0.out rfl ?_)
  refine HH.out.mono ?_; rintro e w1 ⟨b, rfl, hw, hb⟩
  have HB1 := Lib.hid (HB0.out.trans (hb.mono HB0.out.size))
  have HK1 := Lib.hid (Blk.kept HK0.out hb)
  have HW := Lib.hid hw
  clear hw hb HH HB0 HK0
  cases b
  case true =>
    go_wp2_with fail
    go_ret
    exact ⟨rfl, HB1.out⟩
  have HEL : Hid (∀ i, i < n → ∃ ad, A = some ad ∧ El w (ad.add (i * 7)) (V.getD i noVe).v (V.getD i noVe).x ∧ FitV (V.getD i noVe).v) := Lib.hid fun i hi => by
    obtain ⟨A2, c2, e2, hf⟩ := HV.out.form
    injection e2 with e2 _ _
    subst e2
    obtain ⟨ad, rfl, ha⟩ := hf i (by rw [HN.out]; exact hi)
    have h2 := HV.out.2 i (by rw [HN.out]; exact hi)
    exact ⟨ad, rfl, ⟨ha, h2.1⟩, fitV_of h2.2 ((HW.out rfl).1 i (by rw [HN.out]; exact hi))⟩
  clear HV HW
  go_upto_block 0 with (fail)
  go_cut [3, 4] from 20 to 44 (fun s3 _ wx => ∃ L, Hid (OwnVs wx w1.heap.size s3 L) ∧ Hid (∀ e ∈ L, Gd w e) ∧ Hid (L.length ≤ 5) ∧ Hid (Below w1.heap.size w1 wx))
  case first =>
    go_wp2_with fail
    go_loopw [3, 4] (fun v4 s4 wr => ∃ (i : Nat) (L : List Ve), i ≤ n ∧ i ≤ 5 ∧ L.length ≤ i ∧ s4 = .int .i64 i ∧ Hid (OwnVs wr w1.heap.size v4 L) ∧ Hid (∀ e ∈ L, Gd w e) ∧ Hid (Below w1.heap.size w1 wr)) (fun _ s4 _ => n - (intOf s4).toNat)
    case atStart => exact ⟨0, [], by omega, by omega, by simp, rfl, Lib.hid (OwnVs.nil _ _), Lib.hid (fun e h => (by cases h)), Lib.hid (Below.refl _ _)⟩
    case round =>
      obtain ⟨i, L, hi, hi5, hL, rfl, HO, HG, HBL⟩ := hrel
      have HBR := Lib.hid (HB1.out.trans (HBL.out.mono HB1.out.size))
      have HKR := Lib.hid (Blk.kept HK1.out HBL.out)
      have b0 : wr.cell? ⟨w.heap.size, 0, none⟩ = some (.slice A n c) := Blk.cell HKR.out 0
      by_cases hlt : i < n
      · obtain ⟨ad, rfl, he, hf⟩ := HEL.out i hlt
        by_cases h5 : i < 5
        · have d5 : decide ((i : Int) < 5) = true := decide_eq_true (by omega)
          obtain ⟨ee, hee⟩ : ∃ e, V.getD i noVe = e := ⟨_, rfl⟩
          rw [hee] at he hf
          obtain ⟨v, xe⟩ := ee
          clear hee
          have HE := Lib.hid he
          have HF := Lib.hid hf
          clear he hf
          go_wp2_with (refine wp_loadAt aggView (A := #[.int .i64 v.g.rows, .int .i64 v.g.cols, xe, .int .i64 v.row, .int .i64 v.col, .int .i64 v.modes, .string ⟨v.title.toArray⟩]) rfl rfl rfl (HE.out.kept HBR.out).at_ rfl ?_)
          refine (refView_any v xe _ (HE.out.kept HBR.out).rm HF.out.s (HTB.out.kept HBR.out) (by have := HF.out.c; omega) (by have := HF.out.t; omega)).mono ?_; rintro e w5 ⟨rfl, hb⟩
          have HB5 := Lib.hid (HBR.out.trans (hb.mono HBR.out.size))
          have HK5 := Lib.hid (Blk.kept HKR.out hb)
          have HO5 := Lib.hid (HO.out.kept hb)
          have HL5 := Lib.hid (HBL.out.trans (hb.mono HBL.out.size))
          clear hb b0 HO HBL HBR HKR
          have a0 : w5.cell? ⟨w.heap.size, 0, none⟩ = some (.slice (some ad) n c) := Blk.cell HK5.out 0
          cases hvb : viewB v with
          | false =>
            clear hvb
            go_wp2_with fail
            go_roundw
            case rel => exact ⟨i + 1, L, by omega, by omega, by omega, by go_num, HO5, HG, HL5⟩
            case measure => simp [intOf]; omega
          | true =>
            have HGE : Hid (Gd w ⟨v, xe⟩) := Lib.hid ⟨hvb, HF.out, HE.out.rm⟩
            have HAT : Hid (∀ W : World, At (W.alloc (.cells #[.int .i64 v.g.rows, .int .i64 v.g.cols, xe, .int .i64 v.row, .int .i64 v.col, .int .i64 v.modes, .string ⟨v.title.toArray⟩] 32)) ⟨W.heap.size, 0, none⟩ (vvals ⟨v, xe⟩)) := Lib.hid fun W => at_new W _ _ _ rfl
            have HSZ : Hid (L.length + 1 ≤ 1000000000 ∧ w1.heap.size ≤ w5.heap.size) := Lib.hid ⟨by omega, HL5.out.size⟩
            clear hvb
            go_wp2_with (first
              | (refine wp_loadAt aggView (A := #[.int .i64 v.g.rows, .int .i64 v.g.cols, xe, .int .i64 v.row, .int .i64 v.col, .int .i64 v.modes, .string ⟨v.title.toArray⟩]) rfl rfl rfl (HE.out.kept HB5.out).at_ rfl ?_)
              | (at_builtin; refine wp_append_v rfl rfl w1.heap.size _ L ⟨v, xe⟩ _ _ rfl (HO5.out.kept ((Below.refl _ _).alloc (Nat.le_refl _) _)) rfl (HAT.out _) (vvals_cells HGE.out.inn) HSZ.out.1 (by have := HSZ.out.2; simp; omega) ?_; intro v6 w6 ho6 hg6))
            have HB6 : Hid (Below w1.heap.size w1 w6) := Lib.hid (below_vs (HL5.out.alloc HL5.out.size _) hg6 (by have := HSZ.out.2; simp; omega) (HO5.out.kept ((Below.refl _ _).alloc (Nat.le_refl _) _)))
            have HO6 := Lib.hid ho6
            clear ho6 hg6
            go_roundw
            case rel => exact ⟨i + 1, L ++ [⟨v, xe⟩], by omega, by omega, by simp; omega, by go_num, HO6, Lib.hid (fun e h => by rcases List.mem_append.1 h with h | h; exact HG.out e h; rw [List.mem_singleton] at h; subst h; exact HGE.out), HB6⟩
            case measure => simp [intOf]; omega
        · have d5 : decide ((i : Int) < 5) = false := decide_eq_false (by omega)
          go_wp2_with fail
          go_meet
          exact ⟨L, HO, HG, Lib.hid (by omega), HBL⟩
      · obtain rfl : i = n := by omega
        go_wp2_with fail
        go_meet
        exact ⟨L, HO, HG, Lib.hid (by omega), HBL⟩
  case rest =>
    obtain ⟨L, HO, HG, HL5, HBL⟩ := hcut
    obtain ⟨w2, rfl⟩ : ∃ W, W = wc := ⟨_, rfl⟩
    have HB2 := Lib.hid (HB1.out.trans (HBL.out.mono HB1.out.size))
    obtain ⟨A2, c2, rfl, hf⟩ := HO.out.form
    obtain ⟨q, hq⟩ : ∃ q, L.length = q := ⟨_, rfl⟩
    have HEV : Hid (∀ i, i < q → ∃ ad, A2 = some ad ∧ El w2 (ad.add (i * 7)) (L.getD i noVe).v (L.getD i noVe).x ∧ Gd w (L.getD i noVe)) := Lib.hid fun i hi => by
      rw [← hq] at hi
      obtain ⟨ad, e, ha⟩ := hf i hi
      have hm : L.getD i noVe ∈ L := by rw [List.getD_eq_getElem?_getD, List.getElem?_eq_getElem hi]; exact List.getElem_mem hi
      have hg := HG.out _ hm
      exact ⟨ad, e, ⟨ha, hg.inn.kept HB2.out⟩, hg⟩
    have HT2 := Lib.hid (HTB.out.kept HB2.out)
    have HWE := Lib.hid (fun W (hw : Below w2.heap.size w2 W) => HWK.out W (HB2.out.trans (hw.mono HB2.out.size)))
    rw [hq] at HL5 ⊢
    have hq5 := HL5.out
    clear hq hf HO HG HBL HEL HL5 HK1 HB1 HTB HWK HN
    go_wp2_with fail
    go_loopw [5] (fun s5 wi => ∃ i : Nat, i ≤ q ∧ s5 = .int .i64 i ∧ Hid (Below w2.heap.size w2 wi)) (fun s5 _ => q - (intOf s5).toNat)
    case atStart => exact ⟨0, by omega, rfl, Lib.hid (Below.refl _ _)⟩
    case round =>
      obtain ⟨i, hi, rfl, HBI⟩ := hrel
      by_cases hlt : i < q
      · obtain ⟨ad, rfl, he, hg⟩ := HEV.out i hlt
        obtain ⟨ee, hee⟩ : ∃ e, L.getD i noVe = e := ⟨_, rfl⟩
        rw [hee] at he hg
        obtain ⟨v, xe⟩ := ee
        clear hee
        have HE := Lib.hid he
        have HEF : Hid (Gf v) := Lib.hid ⟨hg.may, hg.fit⟩
        clear he hg
        go_wp2_with fail
        go_loopw [6] (fun s6 wk => ∃ k : Nat, k ≤ q ∧ s6 = .int .i64 k ∧ Hid (Below w2.heap.size w2 wk)) (fun s6 _ => q - (intOf s6).toNat)
        case atStart => exact ⟨0, by omega, rfl, HBI⟩
        case round =>
          obtain ⟨k, hk, rfl, HBK⟩ := hrel
          by_cases hlk : k < q
          · obtain ⟨ad', hade, he, hg⟩ := HEV.out k hlk
            obtain rfl : ad = ad' := by injection hade
            obtain ⟨ee, hee⟩ : ∃ e, L.getD k noVe = e := ⟨_, rfl⟩
            rw [hee] at he hg
            obtain ⟨v2, xk⟩ := ee
            clear hee hade
            have HK := Lib.hid he
            have HKF : Hid (Gf v2) := Lib.hid ⟨hg.may, hg.fit⟩
            clear he hg
            obtain ⟨w3, rfl⟩ : ∃ W, W = wr := ⟨_, rfl⟩
            have HT0 := Lib.hid (HT2.out.kept HBK.out)
            have HE0 := Lib.hid (HE.out.kept HBK.out)
            have HK0 := Lib.hid (HK.out.kept HBK.out)
            obtain ⟨pa, hpa⟩ : ∃ p, between v v2 = p := ⟨_, rfl⟩
            have HPA := Lib.hid hpa
            have HCL : Hid (∀ W, Below w3.heap.size w3 W → Calls Tryd.prog 6 #[vagg v xe, vagg v2 xk] W fun e w' => ∃ u' v', e = .returned (.tuple #[pagg pa u' v', .int .i64 0]) ∧ OwnN w' W.heap.size u' pa.at_ ∧ OwnCs w' W.heap.size v' pa.cells ∧ Below W.heap.size W w') := Lib.hid fun W hW => by
              have k := between_any v v2 xe xk W (HE0.out.kept hW).rm (HK0.out.kept hW).rm HEF.out.fit.h HKF.out.fit.h (HT0.out.kept hW) (by have := HEF.out.fit.t; omega) (by have := HKF.out.fit.t; omega)
              rw [show betD v v2 = pa from (betD_yes (by rw [HEF.out.may, HKF.out.may]; rfl)).trans hpa, HEF.out.may, HKF.out.may] at k
              exact k
            clear hpa
            go_upto_region 15 with (fail)
            go_cut [7, 8] from 57 to 68 (fun s7 s8 wx => ∃ bb Bu mu ku Bv mv kv, s7 = .pointer (some ⟨bb, 0, none⟩) ∧ s8 = .int .i64 0 ∧ Hid (PBox w3 bb pa (.slice Bu mu ku) (.slice Bv mv kv) wx))
            case first =>
              refine wp_region_held_drew (S := fun w' => Hid (Below w3.heap.size w3 w')) (by kernel_rfl) (Lib.hid (Below.refl _ _).drew) (fun hHeld => ?_)
              have HT : Hid (Tq w3 none w3.drew) := Lib.hid ⟨(Below.refl _ _).drew, fun q e => (by cases e)⟩
              generalize w3.drew = wd at HT hHeld ⊢
              refine wpAnyH_take (i := 0) (v := ?_) rfl (by kernel_rfl) (by kernel_rfl) (by kernel_rfl) (fun _ _ _ h => h) (Or.inl ⟨by rfl, ?_⟩) (by assumption) ?_
              rotate_left
              · intro w' hSw; first | (go_simp; done) | (go_simp; with_reducible rfl)
              simp only [Act.put, List.getElem_toArray, List.getElem_cons_zero, List.setIfInBounds_toArray, List.set_cons_zero, List.set_cons_succ]
              refine wpAnyH_take (i := 1) (v := ?_) rfl (by kernel_rfl) (by kernel_rfl) (by kernel_rfl) (fun _ _ _ h => h) (Or.inl ⟨by rfl, ?_⟩) (by assumption) ?_
              rotate_left
              · intro w' hSw; first | (go_simp; done) | (go_simp; with_reducible rfl)
              simp only [Act.put, List.getElem_toArray, List.getElem_cons_zero, List.getElem_cons_succ, List.setIfInBounds_toArray, List.set_cons_zero, List.set_cons_succ]
              refine wpAnyH_take (i := 2) (v := ?_) rfl (by kernel_rfl) (by kernel_rfl) (by kernel_rfl) (fun _ _ _ h => h) (Or.inl ⟨by rfl, ?_⟩) (by assumption) ?_
              rotate_left
              · intro w' hSw; first | (go_simp; done) | (go_simp; with_reducible rfl)
              simp only [Act.put, List.getElem_toArray, List.getElem_cons_zero, List.getElem_cons_succ, List.setIfInBounds_toArray, List.set_cons_zero, List.set_cons_succ]
              refine wpAnyH_take (i := 3) (v := .agg #[.int .i64 v.g.rows, .int .i64 v.g.cols, xe, .int .i64 v.row, .int .i64 v.col, .int .i64 v.modes, .string ⟨v.title.toArray⟩]) rfl (by kernel_rfl) (by kernel_rfl) (by kernel_rfl) (fun _ _ _ h => h) (yields_loadAt aggView (A := #[.int .i64 v.g.rows, .int .i64 v.g.cols, xe, .int .i64 v.row, .int .i64 v.col, .int .i64 v.modes, .string ⟨v.title.toArray⟩]) rfl rfl rfl (fun w' hS => (HE0.out.kept hS.out).at_) rfl) (by assumption) ?_
              simp only [Act.put, List.getElem_toArray, List.getElem_cons_zero, List.getElem_cons_succ, List.setIfInBounds_toArray, List.set_cons_zero, List.set_cons_succ]
              refine wpAnyH_take (i := 4) (v := ?_) rfl (by kernel_rfl) (by kernel_rfl) (by kernel_rfl) (fun _ _ _ h => h) (Or.inl ⟨by rfl, ?_⟩) (by assumption) ?_
              rotate_left
              · intro w' hSw; first | (go_simp; done) | (go_simp; with_reducible rfl)
              simp only [Act.put, List.getElem_toArray, List.getElem_cons_zero, List.getElem_cons_succ, List.setIfInBounds_toArray, List.set_cons_zero, List.set_cons_succ]
              refine wpAnyH_take (i := 5) (v := ?_) rfl (by kernel_rfl) (by kernel_rfl) (by kernel_rfl) (fun _ _ _ h => h) (Or.inl ⟨by rfl, ?_⟩) (by assumption) ?_
              rotate_left
              · intro w' hSw; first | (go_simp; done) | (go_simp; with_reducible rfl)
              simp only [Act.put, List.getElem_toArray, List.getElem_cons_zero, List.getElem_cons_succ, List.setIfInBounds_toArray, List.set_cons_zero, List.set_cons_succ]
              refine wpAnyH_take (i := 6) (v := ?_) rfl (by kernel_rfl) (by kernel_rfl) (by kernel_rfl) (fun _ _ _ h => h) (Or.inl ⟨by rfl, ?_⟩) (by assumption) ?_
              rotate_left
              · intro w' hSw; first | (go_simp; done) | (go_simp; with_reducible rfl)
              simp only [Act.put, List.getElem_toArray, List.getElem_cons_zero, List.getElem_cons_succ, List.setIfInBounds_toArray, List.set_cons_zero, List.set_cons_succ]
              refine wpAnyH_take (i := 7) (v := .agg #[.int .i64 v2.g.rows, .int .i64 v2.g.cols, xk, .int .i64 v2.row, .int .i64 v2.col, .int .i64 v2.modes, .string ⟨v2.title.toArray⟩]) rfl (by kernel_rfl) (by kernel_rfl) (by kernel_rfl) (fun _ _ _ h => h) (yields_loadAt aggView (A := #[.int .i64 v2.g.rows, .int .i64 v2.g.cols, xk, .int .i64 v2.row, .int .i64 v2.col, .int .i64 v2.modes, .string ⟨v2.title.toArray⟩]) rfl rfl rfl (fun w' hS => (HK0.out.kept hS.out).at_) rfl) (by assumption) ?_
              simp only [Act.put, List.getElem_toArray, List.getElem_cons_zero, List.getElem_cons_succ, List.setIfInBounds_toArray, List.set_cons_zero, List.set_cons_succ]
              refine wpAnyH_ready (rs := [8, 12]) (by kernel_rfl) (by simp) ?_
              refine AllReadyH.cons rfl (fun K hK => ?_) ?_
              · go_simp
                go_at_call 6
                refine (HCL.out _ HT.out.bel).mono ?_; rintro e wnp1 ⟨uu, vv, rfl, hu, hv, hb⟩
                obtain ⟨Bu, mu, ku, rfl⟩ : ∃ A n c, uu = .slice A n c := (by obtain ⟨A, c, e⟩ := own_shape hu; exact ⟨A, _, c, e⟩)
                obtain ⟨Bv, mv, kv, rfl⟩ : ∃ A n c, vv = .slice A n c := (by obtain ⟨A, c, e⟩ := own_shape hv; exact ⟨A, _, c, e⟩)
                have HNU : Hid (∀ g, (Value.slice Bu mu ku).ownBlock = some g → wd.heap.size ≤ g ∧ g < wnp1.heap.size) := Lib.hid fun g e => World.ownsRow.lt hu g e
                have HUU : Hid (OwnN wnp1 w3.heap.size (.slice Bu mu ku) pa.at_) := Lib.hid (hu.low HT.out.bel.size)
                have HNV : Hid (∀ g, (Value.slice Bv mv kv).ownBlock = some g → wd.heap.size ≤ g ∧ g < wnp1.heap.size) := Lib.hid fun g e => World.ownsRow.lt hv g e
                have HVV : Hid (OwnCs wnp1 w3.heap.size (.slice Bv mv kv) pa.cells) := Lib.hid (OwnCs.low hv HT.out.bel.size)
                have HT := Lib.hid (HT.out.kept hb)
                clear hu hv hb
                refine hK.out _ _ (Lib.hid HT.out.bel) (fun hHeld => ?_)
                clear hK K
                refine wpAnyH_take (i := 9) (v := ?_) rfl (by kernel_rfl) (by kernel_rfl) (by kernel_rfl) (fun _ _ _ h => h) (Or.inl ⟨by rfl, ?_⟩) (by assumption) ?_
                rotate_left
                · intro w' hSw; first | (go_simp; done) | (go_simp; with_reducible rfl)
                simp only [Act.put, List.getElem_toArray, List.getElem_cons_zero, List.getElem_cons_succ, List.setIfInBounds_toArray, List.set_cons_zero, List.set_cons_succ]
                refine wpAnyH_take (i := 10) (v := ?_) rfl (by kernel_rfl) (by kernel_rfl) (by kernel_rfl) (fun _ _ _ h => h) (Or.inl ⟨by rfl, ?_⟩) (by assumption) ?_
                rotate_left
                · intro w' hSw; first | (go_simp; done) | (go_simp; with_reducible rfl)
                simp only [Act.put, List.getElem_toArray, List.getElem_cons_zero, List.getElem_cons_succ, List.setIfInBounds_toArray, List.set_cons_zero, List.set_cons_succ]
                refine wpAnyH_take (i := 11) (v := ?_) rfl (by kernel_rfl) (by kernel_rfl) (by kernel_rfl) (fun _ _ _ h => h) (Or.inl ⟨by rfl, ?_⟩) (by assumption) ?_
                rotate_left
                · intro w' hSw; first | (go_simp; done) | (go_simp; with_reducible rfl)
                simp only [Act.put, List.getElem_toArray, List.getElem_cons_zero, List.getElem_cons_succ, List.setIfInBounds_toArray, List.set_cons_zero, List.set_cons_succ]
                refine wpAnyH_ready (rs := [12]) (by kernel_rfl) (by simp) ?_
                refine AllReadyH.cons rfl (fun K hK => ?_) ?_
                · refine step_allocP rfl rfl ?_
                  have HT := Lib.hid (HT.out.alloc1 zobj)
                  have HUU := Lib.hid (OwnN.kept HUU.out ((Below.refl _ _).alloc (Nat.le_refl _) zobj))
                  have HVV := Lib.hid (OwnCs.kept HVV.out ((Below.refl _ _).alloc (Nat.le_refl _) zobj))
                  generalize hbx : wnp1.heap.size = bx at HT HNV HNU ⊢
                  generalize wnp1.alloc zobj = wnp2 at HT HVV HUU ⊢
                  refine hK.out _ _ (Lib.hid HT.out.bel) (fun hHeld => ?_)
                  clear hK K
                  refine wpAnyH_ready (rs := [13]) (by kernel_rfl) (by simp) ?_
                  refine AllReadyH.cons rfl (fun K hK => ?_) ?_
                  · refine step_storeA aggPatch (A := #[.int .i64 pa.rows, .int .i64 pa.cols, .bool pa.all, .slice Bu mu ku, .slice Bv mv kv, .int .i64 pa.row, .int .i64 pa.col, .int .i64 pa.modes, .string ⟨pa.title.toArray⟩]) rfl rfl rfl rfl rfl rfl (HT.out.p1 _ rfl).1 rfl fun wnp3 HSt => ?_
                    have HUU := Lib.hid (show OwnN wnp3 w3.heap.size (.slice Bu mu ku) pa.at_ from sto_other HSt HUU.out (fun e => by have h1 := (HNU.out _ e).2; omega))
                    have HVV := Lib.hid (show OwnCs wnp3 w3.heap.size (.slice Bv mv kv) pa.cells from sto_other HSt HVV.out (fun e => by have h1 := (HNV.out _ e).2; omega))
                    have HT := Lib.hid (HT.out.store1 HSt)
                    clear HSt
                    refine hK.out _ _ (Lib.hid HT.out.bel) (fun hHeld => ?_)
                    clear hK K
                    refine wpAnyH_take (i := 14) (v := ?_) rfl (by kernel_rfl) (by kernel_rfl) (by kernel_rfl) (fun _ _ _ h => h) (Or.inl ⟨by rfl, ?_⟩) (by assumption) ?_
                    rotate_left
                    · intro w' hSw; first | (go_simp; done) | (go_simp; with_reducible rfl)
                    simp only [Act.put, List.getElem_toArray, List.getElem_cons_zero, List.getElem_cons_succ, List.setIfInBounds_toArray, List.set_cons_zero, List.set_cons_succ]
                    refine wpAnyH_done (by kernel_rfl) ?_ _
                    go_wp2_with fail
                    go_meet
                    exact ⟨_, _, _, _, _, _, _, rfl, rfl, Lib.hid ⟨(HT.out.p1 _ rfl).1, HUU.out, HVV.out, HT.out.bel⟩⟩
                  exact AllReadyH.nil
                exact AllReadyH.nil
              refine AllReadyH.cons rfl (fun K hK => ?_) ?_
              · refine step_allocP rfl rfl ?_
                have HT := Lib.hid (HT.out.alloc1 zobj)
                generalize hbx : wd.heap.size = bx at HT ⊢
                generalize wd.alloc zobj = wnp4 at HT ⊢
                refine hK.out _ _ (Lib.hid HT.out.bel) (fun hHeld => ?_)
                clear hK K
                refine wpAnyH_ready (rs := [8]) (by kernel_rfl) (by simp) ?_
                refine AllReadyH.cons rfl (fun K hK => ?_) ?_
                · go_simp
                  go_at_call 6
                  refine (HCL.out _ HT.out.bel).mono ?_; rintro e wnp5 ⟨uu, vv, rfl, hu, hv, hb⟩
                  obtain ⟨Bu, mu, ku, rfl⟩ : ∃ A n c, uu = .slice A n c := (by obtain ⟨A, c, e⟩ := own_shape hu; exact ⟨A, _, c, e⟩)
                  obtain ⟨Bv, mv, kv, rfl⟩ : ∃ A n c, vv = .slice A n c := (by obtain ⟨A, c, e⟩ := own_shape hv; exact ⟨A, _, c, e⟩)
                  have HNU : Hid (∀ g, (Value.slice Bu mu ku).ownBlock = some g → wnp4.heap.size ≤ g ∧ g < wnp5.heap.size) := Lib.hid fun g e => World.ownsRow.lt hu g e
                  have HUU : Hid (OwnN wnp5 w3.heap.size (.slice Bu mu ku) pa.at_) := Lib.hid (hu.low HT.out.bel.size)
                  have HNV : Hid (∀ g, (Value.slice Bv mv kv).ownBlock = some g → wnp4.heap.size ≤ g ∧ g < wnp5.heap.size) := Lib.hid fun g e => World.ownsRow.lt hv g e
                  have HVV : Hid (OwnCs wnp5 w3.heap.size (.slice Bv mv kv) pa.cells) := Lib.hid (OwnCs.low hv HT.out.bel.size)
                  have HBX : Hid (bx < wnp4.heap.size) := Lib.hid (Blk.lt (HT.out.p1 _ rfl).1)
                  have HT := Lib.hid (HT.out.kept hb)
                  clear hu hv hb
                  refine hK.out _ _ (Lib.hid HT.out.bel) (fun hHeld => ?_)
                  clear hK K
                  refine wpAnyH_take (i := 9) (v := ?_) rfl (by kernel_rfl) (by kernel_rfl) (by kernel_rfl) (fun _ _ _ h => h) (Or.inl ⟨by rfl, ?_⟩) (by assumption) ?_
                  rotate_left
                  · intro w' hSw; first | (go_simp; done) | (go_simp; with_reducible rfl)
                  simp only [Act.put, List.getElem_toArray, List.getElem_cons_zero, List.getElem_cons_succ, List.setIfInBounds_toArray, List.set_cons_zero, List.set_cons_succ]
                  refine wpAnyH_take (i := 10) (v := ?_) rfl (by kernel_rfl) (by kernel_rfl) (by kernel_rfl) (fun _ _ _ h => h) (Or.inl ⟨by rfl, ?_⟩) (by assumption) ?_
                  rotate_left
                  · intro w' hSw; first | (go_simp; done) | (go_simp; with_reducible rfl)
                  simp only [Act.put, List.getElem_toArray, List.getElem_cons_zero, List.getElem_cons_succ, List.setIfInBounds_toArray, List.set_cons_zero, List.set_cons_succ]
                  refine wpAnyH_take (i := 11) (v := ?_) rfl (by kernel_rfl) (by kernel_rfl) (by kernel_rfl) (fun _ _ _ h => h) (Or.inl ⟨by rfl, ?_⟩) (by assumption) ?_
                  rotate_left
                  · intro w' hSw; first | (go_simp; done) | (go_simp; with_reducible rfl)
                  simp only [Act.put, List.getElem_toArray, List.getElem_cons_zero, List.getElem_cons_succ, List.setIfInBounds_toArray, List.set_cons_zero, List.set_cons_succ]
                  refine wpAnyH_ready (rs := [13]) (by kernel_rfl) (by simp) ?_
                  refine AllReadyH.cons rfl (fun K hK => ?_) ?_
                  · refine step_storeA aggPatch (A := #[.int .i64 pa.rows, .int .i64 pa.cols, .bool pa.all, .slice Bu mu ku, .slice Bv mv kv, .int .i64 pa.row, .int .i64 pa.col, .int .i64 pa.modes, .string ⟨pa.title.toArray⟩]) rfl rfl rfl rfl rfl rfl (HT.out.p1 _ rfl).1 rfl fun wnp6 HSt => ?_
                    have HUU := Lib.hid (show OwnN wnp6 w3.heap.size (.slice Bu mu ku) pa.at_ from sto_other HSt HUU.out (fun e => by have h1 := (HNU.out _ e).1; have h2 := HBX.out; omega))
                    have HVV := Lib.hid (show OwnCs wnp6 w3.heap.size (.slice Bv mv kv) pa.cells from sto_other HSt HVV.out (fun e => by have h1 := (HNV.out _ e).1; have h2 := HBX.out; omega))
                    have HT := Lib.hid (HT.out.store1 HSt)
                    clear HSt
                    refine hK.out _ _ (Lib.hid HT.out.bel) (fun hHeld => ?_)
                    clear hK K
                    refine wpAnyH_take (i := 14) (v := ?_) rfl (by kernel_rfl) (by kernel_rfl) (by kernel_rfl) (fun _ _ _ h => h) (Or.inl ⟨by rfl, ?_⟩) (by assumption) ?_
                    rotate_left
                    · intro w' hSw; first | (go_simp; done) | (go_simp; with_reducible rfl)
                    simp only [Act.put, List.getElem_toArray, List.getElem_cons_zero, List.getElem_cons_succ, List.setIfInBounds_toArray, List.set_cons_zero, List.set_cons_succ]
                    refine wpAnyH_done (by kernel_rfl) ?_ _
                    go_wp2_with fail
                    go_meet
                    exact ⟨_, _, _, _, _, _, _, rfl, rfl, Lib.hid ⟨(HT.out.p1 _ rfl).1, HUU.out, HVV.out, HT.out.bel⟩⟩
                  exact AllReadyH.nil
                exact AllReadyH.nil
              exact AllReadyH.nil
            case rest =>
              obtain ⟨b7, U1, r1, s1, A1, n1, t1, rfl, rfl, HBpa⟩ := hcut
              clear HCL
              obtain ⟨w4, rfl⟩ : ∃ W, W = wc := ⟨_, rfl⟩
              have HGpa : Hid (patchB pa = true ∧ fitsB v pa = true) := Lib.hid (by rw [← HPA.out]; exact ⟨between_ok HEF.out.may HKF.out.may, between_fits _ _⟩)
              have HAA : Hid (appD v pa = v2) := Lib.hid (by rw [← HPA.out]; exact made_one HEF.out.may HKF.out.may)
              have HT0 := Lib.hid (HT0.out.kept HBpa.out.bel)
              have HE0 := Lib.hid (HE0.out.kept HBpa.out.bel)
              have HK0 := Lib.hid (HK0.out.kept HBpa.out.bel)
              have HCL : Hid (∀ W, Below w4.heap.size w4 W → Calls Tryd.prog 7 #[vagg v xe, pagg pa (.slice U1 r1 s1) (.slice A1 n1 t1)] W fun e w' => ∃ v', e = .returned (.tuple #[vagg v2 v', .int .i64 0]) ∧ OwnCs w' W.heap.size v' v2.g.cells ∧ Below W.heap.size W w') := Lib.hid fun W hW => by
                have hk := HBpa.out.kept hW
                have k := apply_any v pa xe (.slice U1 r1 s1) (.slice A1 n1 t1) W (HE0.out.kept hW).rm hk.u.sl hk.x.rm HEF.out.fit.h (patch_held HGpa.out.1) (HT0.out.kept hW) (by have := HEF.out.fit.t; omega) (patch_title HGpa.out.1) (by have := (ptr_small HGpa.out.1).2; omega)
                rw [show appD v pa = v2 from (HAA.out), HEF.out.may, HGpa.out.1, HGpa.out.2] at k
                exact k
              go_upto_region 16 with (fail)
              go_cut [9, 10] from 69 to 77 (fun s9 s10 wx => ∃ bb Bv mv kv, s9 = .pointer (some ⟨bb, 0, none⟩) ∧ s10 = .int .i64 0 ∧ Hid (VBox w4 bb v2 (.slice Bv mv kv) wx))
              case first =>
                refine wp_region_held_drew (S := fun w' => Hid (Below w4.heap.size w4 w')) (by kernel_rfl) (Lib.hid (Below.refl _ _).drew) (fun hHeld => ?_)
                have HT : Hid (Tq w4 none w4.drew) := Lib.hid ⟨(Below.refl _ _).drew, fun q e => (by cases e)⟩
                generalize w4.drew = wd at HT hHeld ⊢
                refine wpAnyH_take (i := 0) (v := ?_) rfl (by kernel_rfl) (by kernel_rfl) (by kernel_rfl) (fun _ _ _ h => h) (Or.inl ⟨by rfl, ?_⟩) (by assumption) ?_
                rotate_left
                · intro w' hSw; first | (go_simp; done) | (go_simp; with_reducible rfl)
                simp only [Act.put, List.getElem_toArray, List.getElem_cons_zero, List.setIfInBounds_toArray, List.set_cons_zero, List.set_cons_succ]
                refine wpAnyH_take (i := 1) (v := ?_) rfl (by kernel_rfl) (by kernel_rfl) (by kernel_rfl) (fun _ _ _ h => h) (Or.inl ⟨by rfl, ?_⟩) (by assumption) ?_
                rotate_left
                · intro w' hSw; first | (go_simp; done) | (go_simp; with_reducible rfl)
                simp only [Act.put, List.getElem_toArray, List.getElem_cons_zero, List.getElem_cons_succ, List.setIfInBounds_toArray, List.set_cons_zero, List.set_cons_succ]
                refine wpAnyH_take (i := 2) (v := ?_) rfl (by kernel_rfl) (by kernel_rfl) (by kernel_rfl) (fun _ _ _ h => h) (Or.inl ⟨by rfl, ?_⟩) (by assumption) ?_
                rotate_left
                · intro w' hSw; first | (go_simp; done) | (go_simp; with_reducible rfl)
                simp only [Act.put, List.getElem_toArray, List.getElem_cons_zero, List.getElem_cons_succ, List.setIfInBounds_toArray, List.set_cons_zero, List.set_cons_succ]
                refine wpAnyH_take (i := 3) (v := .agg #[.int .i64 v.g.rows, .int .i64 v.g.cols, xe, .int .i64 v.row, .int .i64 v.col, .int .i64 v.modes, .string ⟨v.title.toArray⟩]) rfl (by kernel_rfl) (by kernel_rfl) (by kernel_rfl) (fun _ _ _ h => h) (yields_loadAt aggView (A := #[.int .i64 v.g.rows, .int .i64 v.g.cols, xe, .int .i64 v.row, .int .i64 v.col, .int .i64 v.modes, .string ⟨v.title.toArray⟩]) rfl rfl rfl (fun w' hS => (HE0.out.kept hS.out).at_) rfl) (by assumption) ?_
                simp only [Act.put, List.getElem_toArray, List.getElem_cons_zero, List.getElem_cons_succ, List.setIfInBounds_toArray, List.set_cons_zero, List.set_cons_succ]
                refine wpAnyH_take (i := 4) (v := .agg #[.int .i64 pa.rows, .int .i64 pa.cols, .bool pa.all, .slice U1 r1 s1, .slice A1 n1 t1, .int .i64 pa.row, .int .i64 pa.col, .int .i64 pa.modes, .string ⟨pa.title.toArray⟩]) rfl (by kernel_rfl) (by kernel_rfl) (by kernel_rfl) (fun _ _ _ h => h) (yields_loadA aggPatch (A := #[.int .i64 pa.rows, .int .i64 pa.cols, .bool pa.all, .slice U1 r1 s1, .slice A1 n1 t1, .int .i64 pa.row, .int .i64 pa.col, .int .i64 pa.modes, .string ⟨pa.title.toArray⟩]) rfl rfl rfl (fun w' hS => Blk.kept HBpa.out.box hS.out) rfl) (by assumption) ?_
                simp only [Act.put, List.getElem_toArray, List.getElem_cons_zero, List.getElem_cons_succ, List.setIfInBounds_toArray, List.set_cons_zero, List.set_cons_succ]
                refine wpAnyH_ready (rs := [5, 9]) (by kernel_rfl) (by simp) ?_
                refine AllReadyH.cons rfl (fun K hK => ?_) ?_
                · go_simp
                  go_at_call 7
                  refine (HCL.out _ HT.out.bel).mono ?_; rintro e wna1 ⟨vv, rfl, hv, hb⟩
                  obtain ⟨Bv, mv, kv, rfl⟩ : ∃ A n c, vv = .slice A n c := (by obtain ⟨A, c, e⟩ := own_shape hv; exact ⟨A, _, c, e⟩)
                  have HNV : Hid (∀ g, (Value.slice Bv mv kv).ownBlock = some g → wd.heap.size ≤ g ∧ g < wna1.heap.size) := Lib.hid fun g e => World.ownsRow.lt hv g e
                  have HVV : Hid (OwnCs wna1 w4.heap.size (.slice Bv mv kv) v2.g.cells) := Lib.hid (OwnCs.low hv HT.out.bel.size)
                  have HT := Lib.hid (HT.out.kept hb)
                  clear hv hb
                  refine hK.out _ _ (Lib.hid HT.out.bel) (fun hHeld => ?_)
                  clear hK K
                  refine wpAnyH_take (i := 6) (v := ?_) rfl (by kernel_rfl) (by kernel_rfl) (by kernel_rfl) (fun _ _ _ h => h) (Or.inl ⟨by rfl, ?_⟩) (by assumption) ?_
                  rotate_left
                  · intro w' hSw; first | (go_simp; done) | (go_simp; with_reducible rfl)
                  simp only [Act.put, List.getElem_toArray, List.getElem_cons_zero, List.getElem_cons_succ, List.setIfInBounds_toArray, List.set_cons_zero, List.set_cons_succ]
                  refine wpAnyH_take (i := 7) (v := ?_) rfl (by kernel_rfl) (by kernel_rfl) (by kernel_rfl) (fun _ _ _ h => h) (Or.inl ⟨by rfl, ?_⟩) (by assumption) ?_
                  rotate_left
                  · intro w' hSw; first | (go_simp; done) | (go_simp; with_reducible rfl)
                  simp only [Act.put, List.getElem_toArray, List.getElem_cons_zero, List.getElem_cons_succ, List.setIfInBounds_toArray, List.set_cons_zero, List.set_cons_succ]
                  refine wpAnyH_take (i := 8) (v := ?_) rfl (by kernel_rfl) (by kernel_rfl) (by kernel_rfl) (fun _ _ _ h => h) (Or.inl ⟨by rfl, ?_⟩) (by assumption) ?_
                  rotate_left
                  · intro w' hSw; first | (go_simp; done) | (go_simp; with_reducible rfl)
                  simp only [Act.put, List.getElem_toArray, List.getElem_cons_zero, List.getElem_cons_succ, List.setIfInBounds_toArray, List.set_cons_zero, List.set_cons_succ]
                  refine wpAnyH_ready (rs := [9]) (by kernel_rfl) (by simp) ?_
                  refine AllReadyH.cons rfl (fun K hK => ?_) ?_
                  · refine step_allocV rfl rfl ?_
                    have HT := Lib.hid (HT.out.alloc1 zobV)
                    have HVV := Lib.hid (OwnCs.kept HVV.out ((Below.refl _ _).alloc (Nat.le_refl _) zobV))
                    generalize hbx : wna1.heap.size = bx at HT HNV ⊢
                    generalize wna1.alloc zobV = wna2 at HT HVV ⊢
                    refine hK.out _ _ (Lib.hid HT.out.bel) (fun hHeld => ?_)
                    clear hK K
                    refine wpAnyH_ready (rs := [10]) (by kernel_rfl) (by simp) ?_
                    refine AllReadyH.cons rfl (fun K hK => ?_) ?_
                    · refine step_storeA aggView (A := #[.int .i64 v2.g.rows, .int .i64 v2.g.cols, .slice Bv mv kv, .int .i64 v2.row, .int .i64 v2.col, .int .i64 v2.modes, .string ⟨v2.title.toArray⟩]) rfl rfl rfl rfl rfl rfl (HT.out.p1 _ rfl).1 rfl fun wna3 HSt => ?_
                      have HVV := Lib.hid (show OwnCs wna3 w4.heap.size (.slice Bv mv kv) v2.g.cells from sto_other HSt HVV.out (fun e => by have h1 := (HNV.out _ e).2; omega))
                      have HT := Lib.hid (HT.out.store1 HSt)
                      clear HSt
                      refine hK.out _ _ (Lib.hid HT.out.bel) (fun hHeld => ?_)
                      clear hK K
                      refine wpAnyH_take (i := 11) (v := ?_) rfl (by kernel_rfl) (by kernel_rfl) (by kernel_rfl) (fun _ _ _ h => h) (Or.inl ⟨by rfl, ?_⟩) (by assumption) ?_
                      rotate_left
                      · intro w' hSw; first | (go_simp; done) | (go_simp; with_reducible rfl)
                      simp only [Act.put, List.getElem_toArray, List.getElem_cons_zero, List.getElem_cons_succ, List.setIfInBounds_toArray, List.set_cons_zero, List.set_cons_succ]
                      refine wpAnyH_done (by kernel_rfl) ?_ _
                      go_wp2_with fail
                      go_meet
                      exact ⟨_, _, _, _, rfl, rfl, Lib.hid ⟨(HT.out.p1 _ rfl).1, HVV.out, HT.out.bel⟩⟩
                    exact AllReadyH.nil
                  exact AllReadyH.nil
                refine AllReadyH.cons rfl (fun K hK => ?_) ?_
                · refine step_allocV rfl rfl ?_
                  have HT := Lib.hid (HT.out.alloc1 zobV)
                  generalize hbx : wd.heap.size = bx at HT ⊢
                  generalize wd.alloc zobV = wna4 at HT ⊢
                  refine hK.out _ _ (Lib.hid HT.out.bel) (fun hHeld => ?_)
                  clear hK K
                  refine wpAnyH_ready (rs := [5]) (by kernel_rfl) (by simp) ?_
                  refine AllReadyH.cons rfl (fun K hK => ?_) ?_
                  · go_simp
                    go_at_call 7
                    refine (HCL.out _ HT.out.bel).mono ?_; rintro e wna5 ⟨vv, rfl, hv, hb⟩
                    obtain ⟨Bv, mv, kv, rfl⟩ : ∃ A n c, vv = .slice A n c := (by obtain ⟨A, c, e⟩ := own_shape hv; exact ⟨A, _, c, e⟩)
                    have HNV : Hid (∀ g, (Value.slice Bv mv kv).ownBlock = some g → wna4.heap.size ≤ g ∧ g < wna5.heap.size) := Lib.hid fun g e => World.ownsRow.lt hv g e
                    have HVV : Hid (OwnCs wna5 w4.heap.size (.slice Bv mv kv) v2.g.cells) := Lib.hid (OwnCs.low hv HT.out.bel.size)
                    have HBX : Hid (bx < wna4.heap.size) := Lib.hid (Blk.lt (HT.out.p1 _ rfl).1)
                    have HT := Lib.hid (HT.out.kept hb)
                    clear hv hb
                    refine hK.out _ _ (Lib.hid HT.out.bel) (fun hHeld => ?_)
                    clear hK K
                    refine wpAnyH_take (i := 6) (v := ?_) rfl (by kernel_rfl) (by kernel_rfl) (by kernel_rfl) (fun _ _ _ h => h) (Or.inl ⟨by rfl, ?_⟩) (by assumption) ?_
                    rotate_left
                    · intro w' hSw; first | (go_simp; done) | (go_simp; with_reducible rfl)
                    simp only [Act.put, List.getElem_toArray, List.getElem_cons_zero, List.getElem_cons_succ, List.setIfInBounds_toArray, List.set_cons_zero, List.set_cons_succ]
                    refine wpAnyH_take (i := 7) (v := ?_) rfl (by kernel_rfl) (by kernel_rfl) (by kernel_rfl) (fun _ _ _ h => h) (Or.inl ⟨by rfl, ?_⟩) (by assumption) ?_
                    rotate_left
                    · intro w' hSw; first | (go_simp; done) | (go_simp; with_reducible rfl)
                    simp only [Act.put, List.getElem_toArray, List.getElem_cons_zero, List.getElem_cons_succ, List.setIfInBounds_toArray, List.set_cons_zero, List.set_cons_succ]
                    refine wpAnyH_take (i := 8) (v := ?_) rfl (by kernel_rfl) (by kernel_rfl) (by kernel_rfl) (fun _ _ _ h => h) (Or.inl ⟨by rfl, ?_⟩) (by assumption) ?_
                    rotate_left
                    · intro w' hSw; first | (go_simp; done) | (go_simp; with_reducible rfl)
                    simp only [Act.put, List.getElem_toArray, List.getElem_cons_zero, List.getElem_cons_succ, List.setIfInBounds_toArray, List.set_cons_zero, List.set_cons_succ]
                    refine wpAnyH_ready (rs := [10]) (by kernel_rfl) (by simp) ?_
                    refine AllReadyH.cons rfl (fun K hK => ?_) ?_
                    · refine step_storeA aggView (A := #[.int .i64 v2.g.rows, .int .i64 v2.g.cols, .slice Bv mv kv, .int .i64 v2.row, .int .i64 v2.col, .int .i64 v2.modes, .string ⟨v2.title.toArray⟩]) rfl rfl rfl rfl rfl rfl (HT.out.p1 _ rfl).1 rfl fun wna6 HSt => ?_
                      have HVV := Lib.hid (show OwnCs wna6 w4.heap.size (.slice Bv mv kv) v2.g.cells from sto_other HSt HVV.out (fun e => by have h1 := (HNV.out _ e).1; have h2 := HBX.out; omega))
                      have HT := Lib.hid (HT.out.store1 HSt)
                      clear HSt
                      refine hK.out _ _ (Lib.hid HT.out.bel) (fun hHeld => ?_)
                      clear hK K
                      refine wpAnyH_take (i := 11) (v := ?_) rfl (by kernel_rfl) (by kernel_rfl) (by kernel_rfl) (fun _ _ _ h => h) (Or.inl ⟨by rfl, ?_⟩) (by assumption) ?_
                      rotate_left
                      · intro w' hSw; first | (go_simp; done) | (go_simp; with_reducible rfl)
                      simp only [Act.put, List.getElem_toArray, List.getElem_cons_zero, List.getElem_cons_succ, List.setIfInBounds_toArray, List.set_cons_zero, List.set_cons_succ]
                      refine wpAnyH_done (by kernel_rfl) ?_ _
                      go_wp2_with fail
                      go_meet
                      exact ⟨_, _, _, _, rfl, rfl, Lib.hid ⟨(HT.out.p1 _ rfl).1, HVV.out, HT.out.bel⟩⟩
                    exact AllReadyH.nil
                  exact AllReadyH.nil
                exact AllReadyH.nil
              case rest =>
                obtain ⟨b9, A3, n3, t3, rfl, rfl, HBb9⟩ := hcut
                clear HCL
                obtain ⟨w5, rfl⟩ : ∃ W, W = wc := ⟨_, rfl⟩
                have HT0 := Lib.hid (HT0.out.kept HBb9.out.bel)
                have HE0 := Lib.hid (HE0.out.kept HBb9.out.bel)
                have HK0 := Lib.hid (HK0.out.kept HBb9.out.bel)
                go_upto_region 17 with (fail)
                go_cut [94] from 78 to 94 (fun s94 wx => s94 = .bool false ∧ Hid (Below w5.heap.size w5 wx))
                case first =>
                  have q0 : Hid (Below w5.heap.size w5 w5.drew) := Lib.hid (Below.refl _ _).drew
                  refine wp_region_held_drew (S := fun w' => Hid (Below w5.heap.size w5 w')) (by kernel_rfl) q0 (fun hHeld => ?_)
                  generalize w5.drew = wd at q0 hHeld ⊢
                  refine wpAnyH_take (i := 0) (v := ?_) rfl (by kernel_rfl) (by kernel_rfl) (by kernel_rfl) (fun _ _ _ h => h) (Or.inl ⟨by rfl, ?_⟩) (by assumption) ?_
                  rotate_left
                  · intro w' hSw; first | (go_simp; done) | (go_simp; with_reducible rfl)
                  simp only [Act.put, List.getElem_toArray, List.getElem_cons_zero, List.setIfInBounds_toArray, List.set_cons_zero, List.set_cons_succ]
                  refine wpAnyH_ready (rs := [1]) (by kernel_rfl) (by simp) ?_
                  refine AllReadyH.cons rfl (fun K hK => ?_) ?_
                  · go_simp
                    go_at_call 8
                    refine (num16 _ _).mono ?_; rintro e w' ⟨rfl, rfl⟩
                    have qn := q0
                    refine hK.out _ _ qn (fun hHeld => ?_)
                    clear hK K
                    refine wpAnyH_take (i := 2) (v := ?_) rfl (by kernel_rfl) (by kernel_rfl) (by kernel_rfl) (fun _ _ _ h => h) (Or.inl ⟨by rfl, ?_⟩) (by assumption) ?_
                    rotate_left
                    · intro w' hSw; first | (go_simp; done) | (go_simp; with_reducible rfl)
                    simp only [Act.put, List.getElem_toArray, List.getElem_cons_zero, List.getElem_cons_succ, List.setIfInBounds_toArray, List.set_cons_zero, List.set_cons_succ]
                    refine wpAnyH_take (i := 3) (v := ?_) rfl (by kernel_rfl) (by kernel_rfl) (by kernel_rfl) (fun _ _ _ h => h) (Or.inl ⟨by rfl, ?_⟩) (by assumption) ?_
                    rotate_left
                    · intro w' hSw; first | (go_simp; done) | (go_simp; with_reducible rfl)
                    simp only [Act.put, List.getElem_toArray, List.getElem_cons_zero, List.getElem_cons_succ, List.setIfInBounds_toArray, List.set_cons_zero, List.set_cons_succ]
                    refine wpAnyH_take (i := 4) (v := ?_) rfl (by kernel_rfl) (by kernel_rfl) (by kernel_rfl) (fun _ _ _ h => h) (Or.inl ⟨by rfl, ?_⟩) (by assumption) ?_
                    rotate_left
                    · intro w' hSw; first | (go_simp; done) | (go_simp; with_reducible rfl)
                    simp only [Act.put, List.getElem_toArray, List.getElem_cons_zero, List.getElem_cons_succ, List.setIfInBounds_toArray, List.set_cons_zero, List.set_cons_succ]
                    refine wpAnyH_ready (rs := [5]) (by kernel_rfl) (by simp) ?_
                    refine AllReadyH.cons rfl (fun K hK => ?_) ?_
                    · go_simp
                      go_at_call 8
                      refine (num16 _ _).mono ?_; rintro e w' ⟨rfl, rfl⟩
                      have qn := q0
                      refine hK.out _ _ qn (fun hHeld => ?_)
                      clear hK K
                      refine wpAnyH_take (i := 6) (v := ?_) rfl (by kernel_rfl) (by kernel_rfl) (by kernel_rfl) (fun _ _ _ h => h) (Or.inl ⟨by rfl, ?_⟩) (by assumption) ?_
                      rotate_left
                      · intro w' hSw; first | (go_simp; done) | (go_simp; with_reducible rfl)
                      simp only [Act.put, List.getElem_toArray, List.getElem_cons_zero, List.getElem_cons_succ, List.setIfInBounds_toArray, List.set_cons_zero, List.set_cons_succ]
                      refine wpAnyH_take (i := 7) (v := ?_) rfl (by kernel_rfl) (by kernel_rfl) (by kernel_rfl) (fun _ _ _ h => h) (Or.inl ⟨by rfl, ?_⟩) (by assumption) ?_
                      rotate_left
                      · intro w' hSw; first | (go_simp; done) | (go_simp; with_reducible rfl)
                      simp only [Act.put, List.getElem_toArray, List.getElem_cons_zero, List.getElem_cons_succ, List.setIfInBounds_toArray, List.set_cons_zero, List.set_cons_succ]
                      refine wpAnyH_take (i := 8) (v := ?_) rfl (by kernel_rfl) (by kernel_rfl) (by kernel_rfl) (fun _ _ _ h => h) (Or.inl ⟨by rfl, ?_⟩) (by assumption) ?_
                      rotate_left
                      · intro w' hSw; first | (go_simp; done) | (go_simp; with_reducible rfl)
                      simp only [Act.put, List.getElem_toArray, List.getElem_cons_zero, List.getElem_cons_succ, List.setIfInBounds_toArray, List.set_cons_zero, List.set_cons_succ]
                      refine wpAnyH_take (i := 9) (v := .agg #[.int .i64 v2.g.rows, .int .i64 v2.g.cols, .slice A3 n3 t3, .int .i64 v2.row, .int .i64 v2.col, .int .i64 v2.modes, .string ⟨v2.title.toArray⟩]) rfl (by kernel_rfl) (by kernel_rfl) (by kernel_rfl) (fun _ _ _ h => h) (yields_loadA aggView (A := #[.int .i64 v2.g.rows, .int .i64 v2.g.cols, .slice A3 n3 t3, .int .i64 v2.row, .int .i64 v2.col, .int .i64 v2.modes, .string ⟨v2.title.toArray⟩]) rfl rfl rfl (fun w' hS => Blk.kept HBb9.out.box hS.out) rfl) (by assumption) ?_
                      simp only [Act.put, List.getElem_toArray, List.getElem_cons_zero, List.getElem_cons_succ, List.setIfInBounds_toArray, List.set_cons_zero, List.set_cons_succ]
                      refine wpAnyH_take (i := 10) (v := ?_) rfl (by kernel_rfl) (by kernel_rfl) (by kernel_rfl) (fun _ _ _ h => h) (Or.inl ⟨by rfl, ?_⟩) (by assumption) ?_
                      rotate_left
                      · intro w' hSw; first | (go_simp; done) | (go_simp; with_reducible rfl)
                      simp only [Act.put, List.getElem_toArray, List.getElem_cons_zero, List.getElem_cons_succ, List.setIfInBounds_toArray, List.set_cons_zero, List.set_cons_succ]
                      refine wpAnyH_take (i := 11) (v := ?_) rfl (by kernel_rfl) (by kernel_rfl) (by kernel_rfl) (fun _ _ _ h => h) (Or.inl ⟨by rfl, ?_⟩) (by assumption) ?_
                      rotate_left
                      · intro w' hSw; first | (go_simp; done) | (go_simp; with_reducible rfl)
                      simp only [Act.put, List.getElem_toArray, List.getElem_cons_zero, List.getElem_cons_succ, List.setIfInBounds_toArray, List.set_cons_zero, List.set_cons_succ]
                      refine wpAnyH_take (i := 12) (v := ?_) rfl (by kernel_rfl) (by kernel_rfl) (by kernel_rfl) (fun _ _ _ h => h) (Or.inl ⟨by rfl, ?_⟩) (by assumption) ?_
                      rotate_left
                      · intro w' hSw; first | (go_simp; done) | (go_simp; with_reducible rfl)
                      simp only [Act.put, List.getElem_toArray, List.getElem_cons_zero, List.getElem_cons_succ, List.setIfInBounds_toArray, List.set_cons_zero, List.set_cons_succ]
                      refine wpAnyH_take (i := 13) (v := .agg #[.int .i64 v2.g.rows, .int .i64 v2.g.cols, xk, .int .i64 v2.row, .int .i64 v2.col, .int .i64 v2.modes, .string ⟨v2.title.toArray⟩]) rfl (by kernel_rfl) (by kernel_rfl) (by kernel_rfl) (fun _ _ _ h => h) (yields_loadAt aggView (A := #[.int .i64 v2.g.rows, .int .i64 v2.g.cols, xk, .int .i64 v2.row, .int .i64 v2.col, .int .i64 v2.modes, .string ⟨v2.title.toArray⟩]) rfl rfl rfl (fun w' hS => (HK0.out.kept hS.out).at_) rfl) (by assumption) ?_
                      simp only [Act.put, List.getElem_toArray, List.getElem_cons_zero, List.getElem_cons_succ, List.setIfInBounds_toArray, List.set_cons_zero, List.set_cons_succ]
                      refine wpAnyH_ready (rs := [14]) (by kernel_rfl) (by simp) ?_
                      refine AllReadyH.cons rfl (fun K hK => ?_) ?_
                      · go_simp
                        go_at_call 9
                        refine (eqView_same v2 (.slice A3 n3 t3) xk _ (OwnCs.kept HBb9.out.x q0.out).cs (HK0.out.kept q0.out).rm.cs (by have := HKF.out.fit.c; omega)).mono ?_; rintro e wn14 ⟨rfl, hb⟩
                        have q0 : Hid (Below w5.heap.size w5 wn14) := Lib.hid (q0.out.trans (hb.mono q0.out.size))
                        clear hb
                        refine hK.out _ _ q0 (fun hHeld => ?_)
                        clear hK K
                        refine wpAnyH_take (i := 15) (v := ?_) rfl (by kernel_rfl) (by kernel_rfl) (by kernel_rfl) (fun _ _ _ h => h) (Or.inl ⟨by rfl, ?_⟩) (by assumption) ?_
                        rotate_left
                        · intro w' hSw; first | (go_simp; done) | (go_simp; with_reducible rfl)
                        simp only [Act.put, List.getElem_toArray, List.getElem_cons_zero, List.getElem_cons_succ, List.setIfInBounds_toArray, List.set_cons_zero, List.set_cons_succ]
                        refine wpAnyH_take (i := 16) (v := ?_) rfl (by kernel_rfl) (by kernel_rfl) (by kernel_rfl) (fun _ _ _ h => h) (Or.inl ⟨by rfl, ?_⟩) (by assumption) ?_
                        rotate_left
                        · intro w' hSw; first | (go_simp; done) | (go_simp; with_reducible rfl)
                        simp only [Act.put, List.getElem_toArray, List.getElem_cons_zero, List.getElem_cons_succ, List.setIfInBounds_toArray, List.set_cons_zero, List.set_cons_succ]
                        refine wpAnyH_done (by kernel_rfl) ?_ _
                        go_wp2_with fail
                        go_meet
                        exact ⟨rfl, q0⟩
                      exact AllReadyH.nil
                    exact AllReadyH.nil
                  exact AllReadyH.nil
                case rest =>
                  obtain ⟨rfl, HBC17⟩ := hcut
                  obtain ⟨w6, rfl⟩ : ∃ W, W = wc := ⟨_, rfl⟩
                  have HP6 := Lib.hid (HBpa.out.kept (HBb9.out.bel.trans (HBC17.out.mono HBb9.out.bel.size)))
                  have HD6 : Hid (Below w2.heap.size w2 w6) := Lib.hid (HBK.out.trans ((HP6.out.bel).mono HBK.out.size))
                  clear HT0 HE0 HK0 HBb9 HBC17 HBpa HAA
                  go_wp2_with fail
                  go_loopw [11] (fun s11 wj => ∃ j : Nat, j ≤ q ∧ s11 = .int .i64 j ∧ Hid (Below w6.heap.size w6 wj)) (fun s11 _ => q - (intOf s11).toNat)
                  case atStart => exact ⟨0, by omega, rfl, Lib.hid (Below.refl _ _)⟩
                  case round =>
                    obtain ⟨j, hj, rfl, HBJ⟩ := hrel
                    have HDJ := Lib.hid (HD6.out.trans (HBJ.out.mono HD6.out.size))
                    by_cases hlj : j < q
                    · obtain ⟨ad', hade, he, hg⟩ := HEV.out j hlj
                      obtain rfl : ad = ad' := by injection hade
                      obtain ⟨ee, hee⟩ : ∃ e, L.getD j noVe = e := ⟨_, rfl⟩
                      rw [hee] at he hg
                      obtain ⟨v3, xn⟩ := ee
                      clear hee hade
                      have HX := Lib.hid he
                      have HXF : Hid (Gf v3) := Lib.hid ⟨hg.may, hg.fit⟩
                      clear he hg
                      obtain ⟨w7, rfl⟩ : ∃ W, W = wr := ⟨_, rfl⟩
                      have HT0 := Lib.hid (HT2.out.kept HDJ.out)
                      have HE0 := Lib.hid (HE.out.kept HDJ.out)
                      have HK0 := Lib.hid (HK.out.kept HDJ.out)
                      have HX0 := Lib.hid (HX.out.kept HDJ.out)
                      have HP7 := Lib.hid (HP6.out.kept HBJ.out)
                      obtain ⟨pb, hpb⟩ : ∃ p, between v2 v3 = p := ⟨_, rfl⟩
                      have HPB := Lib.hid hpb
                      have HCL : Hid (∀ W, Below w7.heap.size w7 W → Calls Tryd.prog 6 #[vagg v2 xk, vagg v3 xn] W fun e w' => ∃ u' v', e = .returned (.tuple #[pagg pb u' v', .int .i64 0]) ∧ OwnN w' W.heap.size u' pb.at_ ∧ OwnCs w' W.heap.size v' pb.cells ∧ Below W.heap.size W w') := Lib.hid fun W hW => by
                        have k := between_any v2 v3 xk xn W (HK0.out.kept hW).rm (HX0.out.kept hW).rm HKF.out.fit.h HXF.out.fit.h (HT0.out.kept hW) (by have := HKF.out.fit.t; omega) (by have := HXF.out.fit.t; omega)
                        rw [show betD v2 v3 = pb from (betD_yes (by rw [HKF.out.may, HXF.out.may]; rfl)).trans hpb, HKF.out.may, HXF.out.may] at k
                        exact k
                      clear hpb
                      go_upto_region 22 with (fail)
                      go_cut [12, 13] from 101 to 112 (fun s12 s13 wx => ∃ bb Bu mu ku Bv mv kv, s12 = .pointer (some ⟨bb, 0, none⟩) ∧ s13 = .int .i64 0 ∧ Hid (PBox w7 bb pb (.slice Bu mu ku) (.slice Bv mv kv) wx))
                      case first =>
                        refine wp_region_held_drew (S := fun w' => Hid (Below w7.heap.size w7 w')) (by kernel_rfl) (Lib.hid (Below.refl _ _).drew) (fun hHeld => ?_)
                        have HT : Hid (Tq w7 none w7.drew) := Lib.hid ⟨(Below.refl _ _).drew, fun q e => (by cases e)⟩
                        generalize w7.drew = wd at HT hHeld ⊢
                        refine wpAnyH_take (i := 0) (v := ?_) rfl (by kernel_rfl) (by kernel_rfl) (by kernel_rfl) (fun _ _ _ h => h) (Or.inl ⟨by rfl, ?_⟩) (by assumption) ?_
                        rotate_left
                        · intro w' hSw; first | (go_simp; done) | (go_simp; with_reducible rfl)
                        simp only [Act.put, List.getElem_toArray, List.getElem_cons_zero, List.setIfInBounds_toArray, List.set_cons_zero, List.set_cons_succ]
                        refine wpAnyH_take (i := 1) (v := ?_) rfl (by kernel_rfl) (by kernel_rfl) (by kernel_rfl) (fun _ _ _ h => h) (Or.inl ⟨by rfl, ?_⟩) (by assumption) ?_
                        rotate_left
                        · intro w' hSw; first | (go_simp; done) | (go_simp; with_reducible rfl)
                        simp only [Act.put, List.getElem_toArray, List.getElem_cons_zero, List.getElem_cons_succ, List.setIfInBounds_toArray, List.set_cons_zero, List.set_cons_succ]
                        refine wpAnyH_take (i := 2) (v := ?_) rfl (by kernel_rfl) (by kernel_rfl) (by kernel_rfl) (fun _ _ _ h => h) (Or.inl ⟨by rfl, ?_⟩) (by assumption) ?_
                        rotate_left
                        · intro w' hSw; first | (go_simp; done) | (go_simp; with_reducible rfl)
                        simp only [Act.put, List.getElem_toArray, List.getElem_cons_zero, List.getElem_cons_succ, List.setIfInBounds_toArray, List.set_cons_zero, List.set_cons_succ]
                        refine wpAnyH_take (i := 3) (v := .agg #[.int .i64 v2.g.rows, .int .i64 v2.g.cols, xk, .int .i64 v2.row, .int .i64 v2.col, .int .i64 v2.modes, .string ⟨v2.title.toArray⟩]) rfl (by kernel_rfl) (by kernel_rfl) (by kernel_rfl) (fun _ _ _ h => h) (yields_loadAt aggView (A := #[.int .i64 v2.g.rows, .int .i64 v2.g.cols, xk, .int .i64 v2.row, .int .i64 v2.col, .int .i64 v2.modes, .string ⟨v2.title.toArray⟩]) rfl rfl rfl (fun w' hS => (HK0.out.kept hS.out).at_) rfl) (by assumption) ?_
                        simp only [Act.put, List.getElem_toArray, List.getElem_cons_zero, List.getElem_cons_succ, List.setIfInBounds_toArray, List.set_cons_zero, List.set_cons_succ]
                        refine wpAnyH_take (i := 4) (v := ?_) rfl (by kernel_rfl) (by kernel_rfl) (by kernel_rfl) (fun _ _ _ h => h) (Or.inl ⟨by rfl, ?_⟩) (by assumption) ?_
                        rotate_left
                        · intro w' hSw; first | (go_simp; done) | (go_simp; with_reducible rfl)
                        simp only [Act.put, List.getElem_toArray, List.getElem_cons_zero, List.getElem_cons_succ, List.setIfInBounds_toArray, List.set_cons_zero, List.set_cons_succ]
                        refine wpAnyH_take (i := 5) (v := ?_) rfl (by kernel_rfl) (by kernel_rfl) (by kernel_rfl) (fun _ _ _ h => h) (Or.inl ⟨by rfl, ?_⟩) (by assumption) ?_
                        rotate_left
                        · intro w' hSw; first | (go_simp; done) | (go_simp; with_reducible rfl)
                        simp only [Act.put, List.getElem_toArray, List.getElem_cons_zero, List.getElem_cons_succ, List.setIfInBounds_toArray, List.set_cons_zero, List.set_cons_succ]
                        refine wpAnyH_take (i := 6) (v := ?_) rfl (by kernel_rfl) (by kernel_rfl) (by kernel_rfl) (fun _ _ _ h => h) (Or.inl ⟨by rfl, ?_⟩) (by assumption) ?_
                        rotate_left
                        · intro w' hSw; first | (go_simp; done) | (go_simp; with_reducible rfl)
                        simp only [Act.put, List.getElem_toArray, List.getElem_cons_zero, List.getElem_cons_succ, List.setIfInBounds_toArray, List.set_cons_zero, List.set_cons_succ]
                        refine wpAnyH_take (i := 7) (v := .agg #[.int .i64 v3.g.rows, .int .i64 v3.g.cols, xn, .int .i64 v3.row, .int .i64 v3.col, .int .i64 v3.modes, .string ⟨v3.title.toArray⟩]) rfl (by kernel_rfl) (by kernel_rfl) (by kernel_rfl) (fun _ _ _ h => h) (yields_loadAt aggView (A := #[.int .i64 v3.g.rows, .int .i64 v3.g.cols, xn, .int .i64 v3.row, .int .i64 v3.col, .int .i64 v3.modes, .string ⟨v3.title.toArray⟩]) rfl rfl rfl (fun w' hS => (HX0.out.kept hS.out).at_) rfl) (by assumption) ?_
                        simp only [Act.put, List.getElem_toArray, List.getElem_cons_zero, List.getElem_cons_succ, List.setIfInBounds_toArray, List.set_cons_zero, List.set_cons_succ]
                        refine wpAnyH_ready (rs := [8, 12]) (by kernel_rfl) (by simp) ?_
                        refine AllReadyH.cons rfl (fun K hK => ?_) ?_
                        · go_simp
                          go_at_call 6
                          refine (HCL.out _ HT.out.bel).mono ?_; rintro e wnq1 ⟨uu, vv, rfl, hu, hv, hb⟩
                          obtain ⟨Bu, mu, ku, rfl⟩ : ∃ A n c, uu = .slice A n c := (by obtain ⟨A, c, e⟩ := own_shape hu; exact ⟨A, _, c, e⟩)
                          obtain ⟨Bv, mv, kv, rfl⟩ : ∃ A n c, vv = .slice A n c := (by obtain ⟨A, c, e⟩ := own_shape hv; exact ⟨A, _, c, e⟩)
                          have HNU : Hid (∀ g, (Value.slice Bu mu ku).ownBlock = some g → wd.heap.size ≤ g ∧ g < wnq1.heap.size) := Lib.hid fun g e => World.ownsRow.lt hu g e
                          have HUU : Hid (OwnN wnq1 w7.heap.size (.slice Bu mu ku) pb.at_) := Lib.hid (hu.low HT.out.bel.size)
                          have HNV : Hid (∀ g, (Value.slice Bv mv kv).ownBlock = some g → wd.heap.size ≤ g ∧ g < wnq1.heap.size) := Lib.hid fun g e => World.ownsRow.lt hv g e
                          have HVV : Hid (OwnCs wnq1 w7.heap.size (.slice Bv mv kv) pb.cells) := Lib.hid (OwnCs.low hv HT.out.bel.size)
                          have HT := Lib.hid (HT.out.kept hb)
                          clear hu hv hb
                          refine hK.out _ _ (Lib.hid HT.out.bel) (fun hHeld => ?_)
                          clear hK K
                          refine wpAnyH_take (i := 9) (v := ?_) rfl (by kernel_rfl) (by kernel_rfl) (by kernel_rfl) (fun _ _ _ h => h) (Or.inl ⟨by rfl, ?_⟩) (by assumption) ?_
                          rotate_left
                          · intro w' hSw; first | (go_simp; done) | (go_simp; with_reducible rfl)
                          simp only [Act.put, List.getElem_toArray, List.getElem_cons_zero, List.getElem_cons_succ, List.setIfInBounds_toArray, List.set_cons_zero, List.set_cons_succ]
                          refine wpAnyH_take (i := 10) (v := ?_) rfl (by kernel_rfl) (by kernel_rfl) (by kernel_rfl) (fun _ _ _ h => h) (Or.inl ⟨by rfl, ?_⟩) (by assumption) ?_
                          rotate_left
                          · intro w' hSw; first | (go_simp; done) | (go_simp; with_reducible rfl)
                          simp only [Act.put, List.getElem_toArray, List.getElem_cons_zero, List.getElem_cons_succ, List.setIfInBounds_toArray, List.set_cons_zero, List.set_cons_succ]
                          refine wpAnyH_take (i := 11) (v := ?_) rfl (by kernel_rfl) (by kernel_rfl) (by kernel_rfl) (fun _ _ _ h => h) (Or.inl ⟨by rfl, ?_⟩) (by assumption) ?_
                          rotate_left
                          · intro w' hSw; first | (go_simp; done) | (go_simp; with_reducible rfl)
                          simp only [Act.put, List.getElem_toArray, List.getElem_cons_zero, List.getElem_cons_succ, List.setIfInBounds_toArray, List.set_cons_zero, List.set_cons_succ]
                          refine wpAnyH_ready (rs := [12]) (by kernel_rfl) (by simp) ?_
                          refine AllReadyH.cons rfl (fun K hK => ?_) ?_
                          · refine step_allocP rfl rfl ?_
                            have HT := Lib.hid (HT.out.alloc1 zobj)
                            have HUU := Lib.hid (OwnN.kept HUU.out ((Below.refl _ _).alloc (Nat.le_refl _) zobj))
                            have HVV := Lib.hid (OwnCs.kept HVV.out ((Below.refl _ _).alloc (Nat.le_refl _) zobj))
                            generalize hbx : wnq1.heap.size = bx at HT HNV HNU ⊢
                            generalize wnq1.alloc zobj = wnq2 at HT HVV HUU ⊢
                            refine hK.out _ _ (Lib.hid HT.out.bel) (fun hHeld => ?_)
                            clear hK K
                            refine wpAnyH_ready (rs := [13]) (by kernel_rfl) (by simp) ?_
                            refine AllReadyH.cons rfl (fun K hK => ?_) ?_
                            · refine step_storeA aggPatch (A := #[.int .i64 pb.rows, .int .i64 pb.cols, .bool pb.all, .slice Bu mu ku, .slice Bv mv kv, .int .i64 pb.row, .int .i64 pb.col, .int .i64 pb.modes, .string ⟨pb.title.toArray⟩]) rfl rfl rfl rfl rfl rfl (HT.out.p1 _ rfl).1 rfl fun wnq3 HSt => ?_
                              have HUU := Lib.hid (show OwnN wnq3 w7.heap.size (.slice Bu mu ku) pb.at_ from sto_other HSt HUU.out (fun e => by have h1 := (HNU.out _ e).2; omega))
                              have HVV := Lib.hid (show OwnCs wnq3 w7.heap.size (.slice Bv mv kv) pb.cells from sto_other HSt HVV.out (fun e => by have h1 := (HNV.out _ e).2; omega))
                              have HT := Lib.hid (HT.out.store1 HSt)
                              clear HSt
                              refine hK.out _ _ (Lib.hid HT.out.bel) (fun hHeld => ?_)
                              clear hK K
                              refine wpAnyH_take (i := 14) (v := ?_) rfl (by kernel_rfl) (by kernel_rfl) (by kernel_rfl) (fun _ _ _ h => h) (Or.inl ⟨by rfl, ?_⟩) (by assumption) ?_
                              rotate_left
                              · intro w' hSw; first | (go_simp; done) | (go_simp; with_reducible rfl)
                              simp only [Act.put, List.getElem_toArray, List.getElem_cons_zero, List.getElem_cons_succ, List.setIfInBounds_toArray, List.set_cons_zero, List.set_cons_succ]
                              refine wpAnyH_done (by kernel_rfl) ?_ _
                              go_wp2_with fail
                              go_meet
                              exact ⟨_, _, _, _, _, _, _, rfl, rfl, Lib.hid ⟨(HT.out.p1 _ rfl).1, HUU.out, HVV.out, HT.out.bel⟩⟩
                            exact AllReadyH.nil
                          exact AllReadyH.nil
                        refine AllReadyH.cons rfl (fun K hK => ?_) ?_
                        · refine step_allocP rfl rfl ?_
                          have HT := Lib.hid (HT.out.alloc1 zobj)
                          generalize hbx : wd.heap.size = bx at HT ⊢
                          generalize wd.alloc zobj = wnq4 at HT ⊢
                          refine hK.out _ _ (Lib.hid HT.out.bel) (fun hHeld => ?_)
                          clear hK K
                          refine wpAnyH_ready (rs := [8]) (by kernel_rfl) (by simp) ?_
                          refine AllReadyH.cons rfl (fun K hK => ?_) ?_
                          · go_simp
                            go_at_call 6
                            refine (HCL.out _ HT.out.bel).mono ?_; rintro e wnq5 ⟨uu, vv, rfl, hu, hv, hb⟩
                            obtain ⟨Bu, mu, ku, rfl⟩ : ∃ A n c, uu = .slice A n c := (by obtain ⟨A, c, e⟩ := own_shape hu; exact ⟨A, _, c, e⟩)
                            obtain ⟨Bv, mv, kv, rfl⟩ : ∃ A n c, vv = .slice A n c := (by obtain ⟨A, c, e⟩ := own_shape hv; exact ⟨A, _, c, e⟩)
                            have HNU : Hid (∀ g, (Value.slice Bu mu ku).ownBlock = some g → wnq4.heap.size ≤ g ∧ g < wnq5.heap.size) := Lib.hid fun g e => World.ownsRow.lt hu g e
                            have HUU : Hid (OwnN wnq5 w7.heap.size (.slice Bu mu ku) pb.at_) := Lib.hid (hu.low HT.out.bel.size)
                            have HNV : Hid (∀ g, (Value.slice Bv mv kv).ownBlock = some g → wnq4.heap.size ≤ g ∧ g < wnq5.heap.size) := Lib.hid fun g e => World.ownsRow.lt hv g e
                            have HVV : Hid (OwnCs wnq5 w7.heap.size (.slice Bv mv kv) pb.cells) := Lib.hid (OwnCs.low hv HT.out.bel.size)
                            have HBX : Hid (bx < wnq4.heap.size) := Lib.hid (Blk.lt (HT.out.p1 _ rfl).1)
                            have HT := Lib.hid (HT.out.kept hb)
                            clear hu hv hb
                            refine hK.out _ _ (Lib.hid HT.out.bel) (fun hHeld => ?_)
                            clear hK K
                            refine wpAnyH_take (i := 9) (v := ?_) rfl (by kernel_rfl) (by kernel_rfl) (by kernel_rfl) (fun _ _ _ h => h) (Or.inl ⟨by rfl, ?_⟩) (by assumption) ?_
                            rotate_left
                            · intro w' hSw; first | (go_simp; done) | (go_simp; with_reducible rfl)
                            simp only [Act.put, List.getElem_toArray, List.getElem_cons_zero, List.getElem_cons_succ, List.setIfInBounds_toArray, List.set_cons_zero, List.set_cons_succ]
                            refine wpAnyH_take (i := 10) (v := ?_) rfl (by kernel_rfl) (by kernel_rfl) (by kernel_rfl) (fun _ _ _ h => h) (Or.inl ⟨by rfl, ?_⟩) (by assumption) ?_
                            rotate_left
                            · intro w' hSw; first | (go_simp; done) | (go_simp; with_reducible rfl)
                            simp only [Act.put, List.getElem_toArray, List.getElem_cons_zero, List.getElem_cons_succ, List.setIfInBounds_toArray, List.set_cons_zero, List.set_cons_succ]
                            refine wpAnyH_take (i := 11) (v := ?_) rfl (by kernel_rfl) (by kernel_rfl) (by kernel_rfl) (fun _ _ _ h => h) (Or.inl ⟨by rfl, ?_⟩) (by assumption) ?_
                            rotate_left
                            · intro w' hSw; first | (go_simp; done) | (go_simp; with_reducible rfl)
                            simp only [Act.put, List.getElem_toArray, List.getElem_cons_zero, List.getElem_cons_succ, List.setIfInBounds_toArray, List.set_cons_zero, List.set_cons_succ]
                            refine wpAnyH_ready (rs := [13]) (by kernel_rfl) (by simp) ?_
                            refine AllReadyH.cons rfl (fun K hK => ?_) ?_
                            · refine step_storeA aggPatch (A := #[.int .i64 pb.rows, .int .i64 pb.cols, .bool pb.all, .slice Bu mu ku, .slice Bv mv kv, .int .i64 pb.row, .int .i64 pb.col, .int .i64 pb.modes, .string ⟨pb.title.toArray⟩]) rfl rfl rfl rfl rfl rfl (HT.out.p1 _ rfl).1 rfl fun wnq6 HSt => ?_
                              have HUU := Lib.hid (show OwnN wnq6 w7.heap.size (.slice Bu mu ku) pb.at_ from sto_other HSt HUU.out (fun e => by have h1 := (HNU.out _ e).1; have h2 := HBX.out; omega))
                              have HVV := Lib.hid (show OwnCs wnq6 w7.heap.size (.slice Bv mv kv) pb.cells from sto_other HSt HVV.out (fun e => by have h1 := (HNV.out _ e).1; have h2 := HBX.out; omega))
                              have HT := Lib.hid (HT.out.store1 HSt)
                              clear HSt
                              refine hK.out _ _ (Lib.hid HT.out.bel) (fun hHeld => ?_)
                              clear hK K
                              refine wpAnyH_take (i := 14) (v := ?_) rfl (by kernel_rfl) (by kernel_rfl) (by kernel_rfl) (fun _ _ _ h => h) (Or.inl ⟨by rfl, ?_⟩) (by assumption) ?_
                              rotate_left
                              · intro w' hSw; first | (go_simp; done) | (go_simp; with_reducible rfl)
                              simp only [Act.put, List.getElem_toArray, List.getElem_cons_zero, List.getElem_cons_succ, List.setIfInBounds_toArray, List.set_cons_zero, List.set_cons_succ]
                              refine wpAnyH_done (by kernel_rfl) ?_ _
                              go_wp2_with fail
                              go_meet
                              exact ⟨_, _, _, _, _, _, _, rfl, rfl, Lib.hid ⟨(HT.out.p1 _ rfl).1, HUU.out, HVV.out, HT.out.bel⟩⟩
                            exact AllReadyH.nil
                          exact AllReadyH.nil
                        exact AllReadyH.nil
                      case rest =>
                        obtain ⟨b12, U2, r2, s2, A4, n4, t4, rfl, rfl, HBpb⟩ := hcut
                        clear HCL
                        obtain ⟨w8, rfl⟩ : ∃ W, W = wc := ⟨_, rfl⟩
                        have HP8 := Lib.hid (HP7.out.kept HBpb.out.bel)
                        have HMT := Lib.hid (made_two HEF.out.may HKF.out.may HXF.out.may)
                        rw [HPA.out, HPB.out] at HMT
                        obtain ⟨pc, hpc⟩ : ∃ p, compose pa pb = p := ⟨_, rfl⟩
                        rw [hpc] at HMT
                        clear hpc
                        have HGpc : Hid (patchB pc = true ∧ fitsB v pc = true) := Lib.hid ⟨HMT.out.1, HMT.out.2.1⟩
                        have HGpb : Hid (patchB pb = true) := Lib.hid (by rw [← HPB.out]; exact between_ok HKF.out.may HXF.out.may)
                        have HT0 := Lib.hid (HT0.out.kept HBpb.out.bel)
                        have HE0 := Lib.hid (HE0.out.kept HBpb.out.bel)
                        have HK0 := Lib.hid (HK0.out.kept HBpb.out.bel)
                        have HX0 := Lib.hid (HX0.out.kept HBpb.out.bel)
                        have HCO : Hid (Calls Tryd.prog 10 #[pagg pa (.slice U1 r1 s1) (.slice A1 n1 t1), pagg pb (.slice U2 r2 s2) (.slice A4 n4 t4)] w8 fun e w' => ∃ u' v', e = .returned (.tuple #[pagg pc u' v', .int .i64 0]) ∧ OwnN w' w8.heap.size u' pc.at_ ∧ OwnCs w' w8.heap.size v' pc.cells ∧ Below w8.heap.size w8 w') := Lib.hid (by
                          have k := compose_any pa pb (.slice U1 r1 s1) (.slice A1 n1 t1) (.slice U2 r2 s2) (.slice A4 n4 t4) w8 HP8.out.u.sl HP8.out.x.rm HBpb.out.u.sl HBpb.out.x.rm (patch_held HGpa.out.1) (patch_held HGpb.out) HT0.out (patch_title HGpa.out.1) (patch_title HGpb.out) (by have := (ptr_small HGpa.out.1).2; omega) (by have := (ptr_small HGpb.out).2; omega)
                          rw [HMT.out.2.2.2.1, HGpa.out.1, HGpb.out, HMT.out.2.2.2.2] at k
                          exact k)
                        go_wp2_with (first
                          | (refine wp_loadP rfl rfl rfl HP8.out.box ?_)
                          | (refine wp_loadP rfl rfl rfl HBpb.out.box ?_))
                        refine HCO.out.mono ?_; rintro e w9 ⟨uu, vv, rfl, hu, hv, hb⟩
                        obtain ⟨Cu, mu2, ku2, rfl⟩ : ∃ A n c, uu = .slice A n c := (by obtain ⟨A, c, e⟩ := own_shape hu; exact ⟨A, _, c, e⟩)
                        obtain ⟨Cv, mv2, kv2, rfl⟩ : ∃ A n c, vv = .slice A n c := (by obtain ⟨A, c, e⟩ := own_shape hv; exact ⟨A, _, c, e⟩)
                        have hk := (Below.refl w9.heap.size w9).alloc (Nat.le_refl _) (.cells #[.int .i64 pc.rows, .int .i64 pc.cols, .bool pc.all, .slice Cu mu2 ku2, .slice Cv mv2 kv2, .int .i64 pc.row, .int .i64 pc.col, .int .i64 pc.modes, .string ⟨pc.title.toArray⟩] 35 (0, 0))
                        have HBpc : Hid (PBox w8 w9.heap.size pc (.slice Cu mu2 ku2) (.slice Cv mv2 kv2) (w9.alloc (.cells #[.int .i64 pc.rows, .int .i64 pc.cols, .bool pc.all, .slice Cu mu2 ku2, .slice Cv mv2 kv2, .int .i64 pc.row, .int .i64 pc.col, .int .i64 pc.modes, .string ⟨pc.title.toArray⟩] 35 (0, 0)))) := Lib.hid ⟨new_alloc _ _ _ rfl, OwnN.kept hu hk, OwnCs.kept hv hk, hb.trans (hk.mono hb.size)⟩
                        clear hu hv hb hk HCO HP7 HP8
                        go_upto_region 24 with (fail)
                        generalize w9.alloc (.cells #[.int .i64 pc.rows, .int .i64 pc.cols, .bool pc.all, .slice Cu mu2 ku2, .slice Cv mv2 kv2, .int .i64 pc.row, .int .i64 pc.col, .int .i64 pc.modes, .string ⟨pc.title.toArray⟩] 35 (0, 0)) = w10 at HBpc ⊢
                        generalize w9.heap.size = b14 at HBpc ⊢
                        have HT0 := Lib.hid (HT0.out.kept HBpc.out.bel)
                        have HE0 := Lib.hid (HE0.out.kept HBpc.out.bel)
                        have HX0 := Lib.hid (HX0.out.kept HBpc.out.bel)
                        go_wp2_with fail
                        refine (num16 _ _).mono ?_; rintro e w' ⟨rfl, rfl⟩
                        go_wp2_with fail
                        refine (num16 _ _).mono ?_; rintro e w' ⟨rfl, rfl⟩
                        have HCL : Hid (∀ W, Below w10.heap.size w10 W → Calls Tryd.prog 7 #[vagg v xe, pagg pc (.slice Cu mu2 ku2) (.slice Cv mv2 kv2)] W fun e w' => ∃ v', e = .returned (.tuple #[vagg v3 v', .int .i64 0]) ∧ OwnCs w' W.heap.size v' v3.g.cells ∧ Below W.heap.size W w') := Lib.hid fun W hW => by
                          have hk := HBpc.out.kept hW
                          have k := apply_any v pc xe (.slice Cu mu2 ku2) (.slice Cv mv2 kv2) W (HE0.out.kept hW).rm hk.u.sl hk.x.rm HEF.out.fit.h (patch_held HGpc.out.1) (HT0.out.kept hW) (by have := HEF.out.fit.t; omega) (patch_title HGpc.out.1) (by have := (ptr_small HGpc.out.1).2; omega)
                          rw [show appD v pc = v3 from (HMT.out.2.2.1), HEF.out.may, HGpc.out.1, HGpc.out.2] at k
                          exact k
                        go_upto_region 26 with (fail)
                        go_cut [16, 17] from 127 to 135 (fun s16 s17 wx => ∃ bb Bv mv kv, s16 = .pointer (some ⟨bb, 0, none⟩) ∧ s17 = .int .i64 0 ∧ Hid (VBox w10 bb v3 (.slice Bv mv kv) wx))
                        case first =>
                          refine wp_region_held_drew (S := fun w' => Hid (Below w10.heap.size w10 w')) (by kernel_rfl) (Lib.hid (Below.refl _ _).drew) (fun hHeld => ?_)
                          have HT : Hid (Tq w10 none w10.drew) := Lib.hid ⟨(Below.refl _ _).drew, fun q e => (by cases e)⟩
                          generalize w10.drew = wd at HT hHeld ⊢
                          refine wpAnyH_take (i := 0) (v := ?_) rfl (by kernel_rfl) (by kernel_rfl) (by kernel_rfl) (fun _ _ _ h => h) (Or.inl ⟨by rfl, ?_⟩) (by assumption) ?_
                          rotate_left
                          · intro w' hSw; first | (go_simp; done) | (go_simp; with_reducible rfl)
                          simp only [Act.put, List.getElem_toArray, List.getElem_cons_zero, List.setIfInBounds_toArray, List.set_cons_zero, List.set_cons_succ]
                          refine wpAnyH_take (i := 1) (v := ?_) rfl (by kernel_rfl) (by kernel_rfl) (by kernel_rfl) (fun _ _ _ h => h) (Or.inl ⟨by rfl, ?_⟩) (by assumption) ?_
                          rotate_left
                          · intro w' hSw; first | (go_simp; done) | (go_simp; with_reducible rfl)
                          simp only [Act.put, List.getElem_toArray, List.getElem_cons_zero, List.getElem_cons_succ, List.setIfInBounds_toArray, List.set_cons_zero, List.set_cons_succ]
                          refine wpAnyH_take (i := 2) (v := ?_) rfl (by kernel_rfl) (by kernel_rfl) (by kernel_rfl) (fun _ _ _ h => h) (Or.inl ⟨by rfl, ?_⟩) (by assumption) ?_
                          rotate_left
                          · intro w' hSw; first | (go_simp; done) | (go_simp; with_reducible rfl)
                          simp only [Act.put, List.getElem_toArray, List.getElem_cons_zero, List.getElem_cons_succ, List.setIfInBounds_toArray, List.set_cons_zero, List.set_cons_succ]
                          refine wpAnyH_take (i := 3) (v := .agg #[.int .i64 v.g.rows, .int .i64 v.g.cols, xe, .int .i64 v.row, .int .i64 v.col, .int .i64 v.modes, .string ⟨v.title.toArray⟩]) rfl (by kernel_rfl) (by kernel_rfl) (by kernel_rfl) (fun _ _ _ h => h) (yields_loadAt aggView (A := #[.int .i64 v.g.rows, .int .i64 v.g.cols, xe, .int .i64 v.row, .int .i64 v.col, .int .i64 v.modes, .string ⟨v.title.toArray⟩]) rfl rfl rfl (fun w' hS => (HE0.out.kept hS.out).at_) rfl) (by assumption) ?_
                          simp only [Act.put, List.getElem_toArray, List.getElem_cons_zero, List.getElem_cons_succ, List.setIfInBounds_toArray, List.set_cons_zero, List.set_cons_succ]
                          refine wpAnyH_take (i := 4) (v := .agg #[.int .i64 pc.rows, .int .i64 pc.cols, .bool pc.all, .slice Cu mu2 ku2, .slice Cv mv2 kv2, .int .i64 pc.row, .int .i64 pc.col, .int .i64 pc.modes, .string ⟨pc.title.toArray⟩]) rfl (by kernel_rfl) (by kernel_rfl) (by kernel_rfl) (fun _ _ _ h => h) (yields_loadA aggPatch (A := #[.int .i64 pc.rows, .int .i64 pc.cols, .bool pc.all, .slice Cu mu2 ku2, .slice Cv mv2 kv2, .int .i64 pc.row, .int .i64 pc.col, .int .i64 pc.modes, .string ⟨pc.title.toArray⟩]) rfl rfl rfl (fun w' hS => Blk.kept HBpc.out.box hS.out) rfl) (by assumption) ?_
                          simp only [Act.put, List.getElem_toArray, List.getElem_cons_zero, List.getElem_cons_succ, List.setIfInBounds_toArray, List.set_cons_zero, List.set_cons_succ]
                          refine wpAnyH_ready (rs := [5, 9]) (by kernel_rfl) (by simp) ?_
                          refine AllReadyH.cons rfl (fun K hK => ?_) ?_
                          · go_simp
                            go_at_call 7
                            refine (HCL.out _ HT.out.bel).mono ?_; rintro e wnc1 ⟨vv, rfl, hv, hb⟩
                            obtain ⟨Bv, mv, kv, rfl⟩ : ∃ A n c, vv = .slice A n c := (by obtain ⟨A, c, e⟩ := own_shape hv; exact ⟨A, _, c, e⟩)
                            have HNV : Hid (∀ g, (Value.slice Bv mv kv).ownBlock = some g → wd.heap.size ≤ g ∧ g < wnc1.heap.size) := Lib.hid fun g e => World.ownsRow.lt hv g e
                            have HVV : Hid (OwnCs wnc1 w10.heap.size (.slice Bv mv kv) v3.g.cells) := Lib.hid (OwnCs.low hv HT.out.bel.size)
                            have HT := Lib.hid (HT.out.kept hb)
                            clear hv hb
                            refine hK.out _ _ (Lib.hid HT.out.bel) (fun hHeld => ?_)
                            clear hK K
                            refine wpAnyH_take (i := 6) (v := ?_) rfl (by kernel_rfl) (by kernel_rfl) (by kernel_rfl) (fun _ _ _ h => h) (Or.inl ⟨by rfl, ?_⟩) (by assumption) ?_
                            rotate_left
                            · intro w' hSw; first | (go_simp; done) | (go_simp; with_reducible rfl)
                            simp only [Act.put, List.getElem_toArray, List.getElem_cons_zero, List.getElem_cons_succ, List.setIfInBounds_toArray, List.set_cons_zero, List.set_cons_succ]
                            refine wpAnyH_take (i := 7) (v := ?_) rfl (by kernel_rfl) (by kernel_rfl) (by kernel_rfl) (fun _ _ _ h => h) (Or.inl ⟨by rfl, ?_⟩) (by assumption) ?_
                            rotate_left
                            · intro w' hSw; first | (go_simp; done) | (go_simp; with_reducible rfl)
                            simp only [Act.put, List.getElem_toArray, List.getElem_cons_zero, List.getElem_cons_succ, List.setIfInBounds_toArray, List.set_cons_zero, List.set_cons_succ]
                            refine wpAnyH_take (i := 8) (v := ?_) rfl (by kernel_rfl) (by kernel_rfl) (by kernel_rfl) (fun _ _ _ h => h) (Or.inl ⟨by rfl, ?_⟩) (by assumption) ?_
                            rotate_left
                            · intro w' hSw; first | (go_simp; done) | (go_simp; with_reducible rfl)
                            simp only [Act.put, List.getElem_toArray, List.getElem_cons_zero, List.getElem_cons_succ, List.setIfInBounds_toArray, List.set_cons_zero, List.set_cons_succ]
                            refine wpAnyH_ready (rs := [9]) (by kernel_rfl) (by simp) ?_
                            refine AllReadyH.cons rfl (fun K hK => ?_) ?_
                            · refine step_allocV rfl rfl ?_
                              have HT := Lib.hid (HT.out.alloc1 zobV)
                              have HVV := Lib.hid (OwnCs.kept HVV.out ((Below.refl _ _).alloc (Nat.le_refl _) zobV))
                              generalize hbx : wnc1.heap.size = bx at HT HNV ⊢
                              generalize wnc1.alloc zobV = wnc2 at HT HVV ⊢
                              refine hK.out _ _ (Lib.hid HT.out.bel) (fun hHeld => ?_)
                              clear hK K
                              refine wpAnyH_ready (rs := [10]) (by kernel_rfl) (by simp) ?_
                              refine AllReadyH.cons rfl (fun K hK => ?_) ?_
                              · refine step_storeA aggView (A := #[.int .i64 v3.g.rows, .int .i64 v3.g.cols, .slice Bv mv kv, .int .i64 v3.row, .int .i64 v3.col, .int .i64 v3.modes, .string ⟨v3.title.toArray⟩]) rfl rfl rfl rfl rfl rfl (HT.out.p1 _ rfl).1 rfl fun wnc3 HSt => ?_
                                have HVV := Lib.hid (show OwnCs wnc3 w10.heap.size (.slice Bv mv kv) v3.g.cells from sto_other HSt HVV.out (fun e => by have h1 := (HNV.out _ e).2; omega))
                                have HT := Lib.hid (HT.out.store1 HSt)
                                clear HSt
                                refine hK.out _ _ (Lib.hid HT.out.bel) (fun hHeld => ?_)
                                clear hK K
                                refine wpAnyH_take (i := 11) (v := ?_) rfl (by kernel_rfl) (by kernel_rfl) (by kernel_rfl) (fun _ _ _ h => h) (Or.inl ⟨by rfl, ?_⟩) (by assumption) ?_
                                rotate_left
                                · intro w' hSw; first | (go_simp; done) | (go_simp; with_reducible rfl)
                                simp only [Act.put, List.getElem_toArray, List.getElem_cons_zero, List.getElem_cons_succ, List.setIfInBounds_toArray, List.set_cons_zero, List.set_cons_succ]
                                refine wpAnyH_done (by kernel_rfl) ?_ _
                                go_wp2_with fail
                                go_meet
                                exact ⟨_, _, _, _, rfl, rfl, Lib.hid ⟨(HT.out.p1 _ rfl).1, HVV.out, HT.out.bel⟩⟩
                              exact AllReadyH.nil
                            exact AllReadyH.nil
                          refine AllReadyH.cons rfl (fun K hK => ?_) ?_
                          · refine step_allocV rfl rfl ?_
                            have HT := Lib.hid (HT.out.alloc1 zobV)
                            generalize hbx : wd.heap.size = bx at HT ⊢
                            generalize wd.alloc zobV = wnc4 at HT ⊢
                            refine hK.out _ _ (Lib.hid HT.out.bel) (fun hHeld => ?_)
                            clear hK K
                            refine wpAnyH_ready (rs := [5]) (by kernel_rfl) (by simp) ?_
                            refine AllReadyH.cons rfl (fun K hK => ?_) ?_
                            · go_simp
                              go_at_call 7
                              refine (HCL.out _ HT.out.bel).mono ?_; rintro e wnc5 ⟨vv, rfl, hv, hb⟩
                              obtain ⟨Bv, mv, kv, rfl⟩ : ∃ A n c, vv = .slice A n c := (by obtain ⟨A, c, e⟩ := own_shape hv; exact ⟨A, _, c, e⟩)
                              have HNV : Hid (∀ g, (Value.slice Bv mv kv).ownBlock = some g → wnc4.heap.size ≤ g ∧ g < wnc5.heap.size) := Lib.hid fun g e => World.ownsRow.lt hv g e
                              have HVV : Hid (OwnCs wnc5 w10.heap.size (.slice Bv mv kv) v3.g.cells) := Lib.hid (OwnCs.low hv HT.out.bel.size)
                              have HBX : Hid (bx < wnc4.heap.size) := Lib.hid (Blk.lt (HT.out.p1 _ rfl).1)
                              have HT := Lib.hid (HT.out.kept hb)
                              clear hv hb
                              refine hK.out _ _ (Lib.hid HT.out.bel) (fun hHeld => ?_)
                              clear hK K
                              refine wpAnyH_take (i := 6) (v := ?_) rfl (by kernel_rfl) (by kernel_rfl) (by kernel_rfl) (fun _ _ _ h => h) (Or.inl ⟨by rfl, ?_⟩) (by assumption) ?_
                              rotate_left
                              · intro w' hSw; first | (go_simp; done) | (go_simp; with_reducible rfl)
                              simp only [Act.put, List.getElem_toArray, List.getElem_cons_zero, List.getElem_cons_succ, List.setIfInBounds_toArray, List.set_cons_zero, List.set_cons_succ]
                              refine wpAnyH_take (i := 7) (v := ?_) rfl (by kernel_rfl) (by kernel_rfl) (by kernel_rfl) (fun _ _ _ h => h) (Or.inl ⟨by rfl, ?_⟩) (by assumption) ?_
                              rotate_left
                              · intro w' hSw; first | (go_simp; done) | (go_simp; with_reducible rfl)
                              simp only [Act.put, List.getElem_toArray, List.getElem_cons_zero, List.getElem_cons_succ, List.setIfInBounds_toArray, List.set_cons_zero, List.set_cons_succ]
                              refine wpAnyH_take (i := 8) (v := ?_) rfl (by kernel_rfl) (by kernel_rfl) (by kernel_rfl) (fun _ _ _ h => h) (Or.inl ⟨by rfl, ?_⟩) (by assumption) ?_
                              rotate_left
                              · intro w' hSw; first | (go_simp; done) | (go_simp; with_reducible rfl)
                              simp only [Act.put, List.getElem_toArray, List.getElem_cons_zero, List.getElem_cons_succ, List.setIfInBounds_toArray, List.set_cons_zero, List.set_cons_succ]
                              refine wpAnyH_ready (rs := [10]) (by kernel_rfl) (by simp) ?_
                              refine AllReadyH.cons rfl (fun K hK => ?_) ?_
                              · refine step_storeA aggView (A := #[.int .i64 v3.g.rows, .int .i64 v3.g.cols, .slice Bv mv kv, .int .i64 v3.row, .int .i64 v3.col, .int .i64 v3.modes, .string ⟨v3.title.toArray⟩]) rfl rfl rfl rfl rfl rfl (HT.out.p1 _ rfl).1 rfl fun wnc6 HSt => ?_
                                have HVV := Lib.hid (show OwnCs wnc6 w10.heap.size (.slice Bv mv kv) v3.g.cells from sto_other HSt HVV.out (fun e => by have h1 := (HNV.out _ e).1; have h2 := HBX.out; omega))
                                have HT := Lib.hid (HT.out.store1 HSt)
                                clear HSt
                                refine hK.out _ _ (Lib.hid HT.out.bel) (fun hHeld => ?_)
                                clear hK K
                                refine wpAnyH_take (i := 11) (v := ?_) rfl (by kernel_rfl) (by kernel_rfl) (by kernel_rfl) (fun _ _ _ h => h) (Or.inl ⟨by rfl, ?_⟩) (by assumption) ?_
                                rotate_left
                                · intro w' hSw; first | (go_simp; done) | (go_simp; with_reducible rfl)
                                simp only [Act.put, List.getElem_toArray, List.getElem_cons_zero, List.getElem_cons_succ, List.setIfInBounds_toArray, List.set_cons_zero, List.set_cons_succ]
                                refine wpAnyH_done (by kernel_rfl) ?_ _
                                go_wp2_with fail
                                go_meet
                                exact ⟨_, _, _, _, rfl, rfl, Lib.hid ⟨(HT.out.p1 _ rfl).1, HVV.out, HT.out.bel⟩⟩
                              exact AllReadyH.nil
                            exact AllReadyH.nil
                          exact AllReadyH.nil
                        case rest =>
                          obtain ⟨b16, A5, n5, t5, rfl, rfl, HBb16⟩ := hcut
                          clear HCL
                          obtain ⟨w11, rfl⟩ : ∃ W, W = wc := ⟨_, rfl⟩
                          have HX0 := Lib.hid (HX0.out.kept HBb16.out.bel)
                          go_upto_region 27 with (fail)
                          go_cut [147] from 136 to 147 (fun s147 wx => s147 = .bool false ∧ Hid (Below w11.heap.size w11 wx))
                          case first =>
                            have q0 : Hid (Below w11.heap.size w11 w11.drew) := Lib.hid (Below.refl _ _).drew
                            refine wp_region_held_drew (S := fun w' => Hid (Below w11.heap.size w11 w')) (by kernel_rfl) q0 (fun hHeld => ?_)
                            generalize w11.drew = wd at q0 hHeld ⊢
                            refine wpAnyH_take (i := 0) (v := ?_) rfl (by kernel_rfl) (by kernel_rfl) (by kernel_rfl) (fun _ _ _ h => h) (Or.inl ⟨by rfl, ?_⟩) (by assumption) ?_
                            rotate_left
                            · intro w' hSw; first | (go_simp; done) | (go_simp; with_reducible rfl)
                            simp only [Act.put, List.getElem_toArray, List.getElem_cons_zero, List.setIfInBounds_toArray, List.set_cons_zero, List.set_cons_succ]
                            refine wpAnyH_ready (rs := [1]) (by kernel_rfl) (by simp) ?_
                            refine AllReadyH.cons rfl (fun K hK => ?_) ?_
                            · go_simp
                              go_at_call 8
                              refine (num16 _ _).mono ?_; rintro e w' ⟨rfl, rfl⟩
                              have qn := q0
                              refine hK.out _ _ qn (fun hHeld => ?_)
                              clear hK K
                              refine wpAnyH_take (i := 2) (v := ?_) rfl (by kernel_rfl) (by kernel_rfl) (by kernel_rfl) (fun _ _ _ h => h) (Or.inl ⟨by rfl, ?_⟩) (by assumption) ?_
                              rotate_left
                              · intro w' hSw; first | (go_simp; done) | (go_simp; with_reducible rfl)
                              simp only [Act.put, List.getElem_toArray, List.getElem_cons_zero, List.getElem_cons_succ, List.setIfInBounds_toArray, List.set_cons_zero, List.set_cons_succ]
                              refine wpAnyH_take (i := 3) (v := ?_) rfl (by kernel_rfl) (by kernel_rfl) (by kernel_rfl) (fun _ _ _ h => h) (Or.inl ⟨by rfl, ?_⟩) (by assumption) ?_
                              rotate_left
                              · intro w' hSw; first | (go_simp; done) | (go_simp; with_reducible rfl)
                              simp only [Act.put, List.getElem_toArray, List.getElem_cons_zero, List.getElem_cons_succ, List.setIfInBounds_toArray, List.set_cons_zero, List.set_cons_succ]
                              refine wpAnyH_take (i := 4) (v := .agg #[.int .i64 v3.g.rows, .int .i64 v3.g.cols, .slice A5 n5 t5, .int .i64 v3.row, .int .i64 v3.col, .int .i64 v3.modes, .string ⟨v3.title.toArray⟩]) rfl (by kernel_rfl) (by kernel_rfl) (by kernel_rfl) (fun _ _ _ h => h) (yields_loadA aggView (A := #[.int .i64 v3.g.rows, .int .i64 v3.g.cols, .slice A5 n5 t5, .int .i64 v3.row, .int .i64 v3.col, .int .i64 v3.modes, .string ⟨v3.title.toArray⟩]) rfl rfl rfl (fun w' hS => Blk.kept HBb16.out.box hS.out) rfl) (by assumption) ?_
                              simp only [Act.put, List.getElem_toArray, List.getElem_cons_zero, List.getElem_cons_succ, List.setIfInBounds_toArray, List.set_cons_zero, List.set_cons_succ]
                              refine wpAnyH_take (i := 5) (v := ?_) rfl (by kernel_rfl) (by kernel_rfl) (by kernel_rfl) (fun _ _ _ h => h) (Or.inl ⟨by rfl, ?_⟩) (by assumption) ?_
                              rotate_left
                              · intro w' hSw; first | (go_simp; done) | (go_simp; with_reducible rfl)
                              simp only [Act.put, List.getElem_toArray, List.getElem_cons_zero, List.getElem_cons_succ, List.setIfInBounds_toArray, List.set_cons_zero, List.set_cons_succ]
                              refine wpAnyH_take (i := 6) (v := ?_) rfl (by kernel_rfl) (by kernel_rfl) (by kernel_rfl) (fun _ _ _ h => h) (Or.inl ⟨by rfl, ?_⟩) (by assumption) ?_
                              rotate_left
                              · intro w' hSw; first | (go_simp; done) | (go_simp; with_reducible rfl)
                              simp only [Act.put, List.getElem_toArray, List.getElem_cons_zero, List.getElem_cons_succ, List.setIfInBounds_toArray, List.set_cons_zero, List.set_cons_succ]
                              refine wpAnyH_take (i := 7) (v := ?_) rfl (by kernel_rfl) (by kernel_rfl) (by kernel_rfl) (fun _ _ _ h => h) (Or.inl ⟨by rfl, ?_⟩) (by assumption) ?_
                              rotate_left
                              · intro w' hSw; first | (go_simp; done) | (go_simp; with_reducible rfl)
                              simp only [Act.put, List.getElem_toArray, List.getElem_cons_zero, List.getElem_cons_succ, List.setIfInBounds_toArray, List.set_cons_zero, List.set_cons_succ]
                              refine wpAnyH_take (i := 8) (v := .agg #[.int .i64 v3.g.rows, .int .i64 v3.g.cols, xn, .int .i64 v3.row, .int .i64 v3.col, .int .i64 v3.modes, .string ⟨v3.title.toArray⟩]) rfl (by kernel_rfl) (by kernel_rfl) (by kernel_rfl) (fun _ _ _ h => h) (yields_loadAt aggView (A := #[.int .i64 v3.g.rows, .int .i64 v3.g.cols, xn, .int .i64 v3.row, .int .i64 v3.col, .int .i64 v3.modes, .string ⟨v3.title.toArray⟩]) rfl rfl rfl (fun w' hS => (HX0.out.kept hS.out).at_) rfl) (by assumption) ?_
                              simp only [Act.put, List.getElem_toArray, List.getElem_cons_zero, List.getElem_cons_succ, List.setIfInBounds_toArray, List.set_cons_zero, List.set_cons_succ]
                              refine wpAnyH_ready (rs := [9]) (by kernel_rfl) (by simp) ?_
                              refine AllReadyH.cons rfl (fun K hK => ?_) ?_
                              · go_simp
                                go_at_call 9
                                refine (eqView_same v3 (.slice A5 n5 t5) xn _ (OwnCs.kept HBb16.out.x q0.out).cs (HX0.out.kept q0.out).rm.cs (by have := HXF.out.fit.c; omega)).mono ?_; rintro e wn9 ⟨rfl, hb⟩
                                have q0 : Hid (Below w11.heap.size w11 wn9) := Lib.hid (q0.out.trans (hb.mono q0.out.size))
                                clear hb
                                refine hK.out _ _ q0 (fun hHeld => ?_)
                                clear hK K
                                refine wpAnyH_take (i := 10) (v := ?_) rfl (by kernel_rfl) (by kernel_rfl) (by kernel_rfl) (fun _ _ _ h => h) (Or.inl ⟨by rfl, ?_⟩) (by assumption) ?_
                                rotate_left
                                · intro w' hSw; first | (go_simp; done) | (go_simp; with_reducible rfl)
                                simp only [Act.put, List.getElem_toArray, List.getElem_cons_zero, List.getElem_cons_succ, List.setIfInBounds_toArray, List.set_cons_zero, List.set_cons_succ]
                                refine wpAnyH_take (i := 11) (v := ?_) rfl (by kernel_rfl) (by kernel_rfl) (by kernel_rfl) (fun _ _ _ h => h) (Or.inl ⟨by rfl, ?_⟩) (by assumption) ?_
                                rotate_left
                                · intro w' hSw; first | (go_simp; done) | (go_simp; with_reducible rfl)
                                simp only [Act.put, List.getElem_toArray, List.getElem_cons_zero, List.getElem_cons_succ, List.setIfInBounds_toArray, List.set_cons_zero, List.set_cons_succ]
                                refine wpAnyH_done (by kernel_rfl) ?_ _
                                go_wp2_with fail
                                go_meet
                                exact ⟨rfl, q0⟩
                              exact AllReadyH.nil
                            exact AllReadyH.nil
                          case rest =>
                            obtain ⟨rfl, HBC27⟩ := hcut
                            have HFIN := Lib.hid (HBJ.out.trans ((HBpb.out.bel.trans ((HBpc.out.bel.trans ((HBb16.out.bel.trans (HBC27.out.mono HBb16.out.bel.size)).mono HBpc.out.bel.size)).mono HBpb.out.bel.size)).mono HBJ.out.size))
                            clear HT0 HE0 HK0 HX0 HBb16 HBC27 HBpc HBpb HMT
                            go_wp2_with fail
                            go_roundw
                            case rel => exact ⟨j + 1, by omega, by go_num, HFIN⟩
                            case measure => simp [intOf]; omega
                    · obtain rfl : j = q := by omega
                      go_wp2_with fail
                      go_roundw
                      case rel => exact ⟨k + 1, by omega, by go_num, HDJ⟩
                      case measure => simp [intOf]; omega
          · obtain rfl : k = q := by omega
            go_wp2_with fail
            go_roundw
            case rel => exact ⟨i + 1, by omega, by go_num, HBK⟩
            case measure => simp [intOf]; omega
      · obtain rfl : i = q := by omega
        go_wp2_with fail
        refine (HWE.out _ HBI.out).mono ?_; rintro e w' ⟨rfl, hb⟩
        have HBE := Lib.hid (HB2.out.trans ((HBI.out.trans (hb.mono HBI.out.size)).mono HB2.out.size))
        clear hb
        go_wp2_with fail
        go_ret
        exact ⟨rfl, HBE.out⟩
end Pat
end
end Go.Proofs.YtjcfbeiljdohcaaDoor
