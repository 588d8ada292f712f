/- The law on grids and acts: each act's answers are the page's. -/
import Derived.Test.YtenhgkhonaglaaaDoorJ1
import Derived.Test.YtenhgkhonaglaaaDoorJ2
import Derived.Test.YtenhgkhonaglaaaDoorJ3
import Derived.Test.YtenhgkhonaglaaaDoorJ4
import Derived.Test.YtenhgkhonaglaaaDoorJ5
import Derived.Test.YtenhgkhonaglaaaDoorJ7
import Derived.Test.YtenhgkhonaglaaaDoorJ8
import Derived.Test.YtenhgkhonaglaaaDoorJ9
import Derived.Test.YtenhgkhonaglaaaDoorGrdStep
namespace Go.Proofs.YtenhgkhonaglaaaDoor
set_option maxRecDepth 100000
open Go.RowKit
namespace Row
open Utf Wid

theorem cells_off {w : World} {gb : Nat} {r c : Int} {u v : Value} {l : List Cl} (hb : w.heap[gb]? = some (gbox r c u)) (h : Cs w v l) (hl : l ≠ []) : Off gb v := by
  intro ad n cc e hg
  rcases h.2.2 with ⟨e2, _⟩ | ⟨ad2, c2, e2, hc⟩
  · rw [e2] at e; cases e
  · rw [e2] at e
    injection e with e1 _ _
    injection e1 with e1
    subst e1
    cases l with
    | nil => exact hl rfl
    | cons q qs =>
      have h0 := hc 0 (cvals q) rfl 5 (.int .i64 q.a.flags) rfl
      rw [Nat.zero_mul] at h0
      unfold World.cell? at h0
      rw [add_block, add_block, hg, hb] at h0
      have ho : 5 ≤ ((ad2.add 0).add 5).off := by simp [Addr.add]
      simp only at h0
      split at h0
      · cases h0
      · rw [Array.getElem?_eq_none (by simp; omega)] at h0
        cases h0
theorem Rm.box {w : World} {gb : Nat} {r c : Int} {u v : Value} {l : List Cl} (hb : w.heap[gb]? = some (gbox r c u)) (h : Rm w v l) (j : Nat) (u2 : Value) : Rm (w.setCell ⟨gb, j, none⟩ u2) v l := by
  by_cases hl : l = []
  · subst hl
    refine ⟨⟨h.1.1, h.1.2.1, ?_⟩, h.2⟩
    rcases h.1.2.2 with h0 | ⟨ad, c, e, hc⟩
    · exact .inl h0
    · exact .inr ⟨ad, c, e, fun i r hr => by simp at hr⟩
  · exact h.set (cells_off hb h.1 hl) j u2
theorem Rm.gput {w : World} {gb : Nat} {r c : Int} {u v : Value} {l : List Cl} (hb : w.heap[gb]? = some (gbox r c u)) (h : Rm w v l) (r2 c2 : Int) (u2 : Value) : Rm (Row.gput w gb r2 c2 u2) v l := by
  have h1 := Rm.box hb h 0 (.int .i64 r2)
  have b1 := Blk.set hb 0 (.int .i64 r2)
  have h2 := Rm.box b1 h1 1 (.int .i64 c2)
  have b2 := Blk.set b1 1 (.int .i64 c2)
  exact Rm.box b2 h2 2 u2

theorem rm_low {w : World} {b : Nat} {v : Value} {l : List Cl} (h : Cs w v l) (hb : w.heap.size ≤ b) (hl : l ≠ []) : Off b v := by
  intro ad n cc e hg
  rcases h.2.2 with ⟨e2, _⟩ | ⟨ad2, c2, e2, hc⟩
  · rw [e2] at e; cases e
  · rw [e2] at e
    injection e with e1 _ _
    injection e1 with e1
    subst e1
    cases l with
    | nil => exact hl rfl
    | cons q qs =>
      have h0 := World.block_lt_of_cell? w _ (hc 0 (cvals q) rfl 5 (.int .i64 q.a.flags) rfl)
      rw [add_block, add_block, hg] at h0
      omega
theorem Rm.setOff {w : World} {g : Nat} {v : Value} {l : List Cl} (h : Rm w v l) (ho : l ≠ [] → Off g v) (j : Nat) (u2 : Value) : Rm (w.setCell ⟨g, j, none⟩ u2) v l := by
  by_cases hl : l = []
  · subst hl
    refine ⟨⟨h.1.1, h.1.2.1, ?_⟩, h.2⟩
    rcases h.1.2.2 with h0 | ⟨ad, c, e, hc⟩
    · exact .inl h0
    · exact .inr ⟨ad, c, e, fun i r hr => by simp at hr⟩
  · exact h.set (ho hl) j u2
/-- What stands behind the two stores that bring an act's rows within the grid. -/
def At9 (w W : World) (gb ba : Nat) (R C : Int) (vg : Value) (lg : List Cl) (o : Obj) (dd i2 k2 nn : Int) (q : Look) (vv : Value) (rr : List Cl) : Prop :=
  W.heap[gb]? = some (gbox R C vg) ∧ W.heap[w.heap.size]? = some o ∧ Rm W vg lg ∧ Rm W vv rr ∧ W.heap[ba]? = some (tbox dd i2 k2 nn q vv) ∧ Below w.heap.size w W
theorem put9 {w wb : World} {gb ba : Nat} {R C : Int} {vg : Value} {lg : List Cl} {o : Obj} {dd ii kk nn : Int} {q : Look} {vv : Value} {rr : List Cl}
    (hg : wb.heap[gb]? = some (gbox R C vg)) (hp : wb.heap[w.heap.size]? = some o) (hr : Rm wb vg lg) (hv : Rm wb vv rr) (ha : wb.heap[ba]? = some (tbox dd ii kk nn q vv)) (hb : Below w.heap.size w wb)
    (h1 : w.heap.size < gb) (h2 : gb < ba) (o1 : lg ≠ [] → Off ba vg) (o2 : rr ≠ [] → Off ba vv) (i2 k2 : Int) :
    At9 w ((wb.setCell ⟨ba, 1, none⟩ (.int .i64 i2)).setCell ⟨ba, 2, none⟩ (.int .i64 k2)).drew gb ba R C vg lg o dd i2 k2 nn q vv rr ∧
    At9 w ((wb.setCell ⟨ba, 2, none⟩ (.int .i64 k2)).setCell ⟨ba, 1, none⟩ (.int .i64 i2)).drew gb ba R C vg lg o dd i2 k2 nn q vv rr := by
  have d : ∀ W : World, Below W.heap.size W W.drew := fun W => (Below.refl _ _).drew
  refine ⟨⟨Blk.kept (Blk.other (Blk.other hg (by omega) _ _) (by omega) _ _) (d _), Blk.kept (Blk.other (Blk.other hp (by omega) _ _) (by omega) _ _) (d _), ((hr.setOff o1 _ _).setOff o1 _ _).kept (d _), ((hv.setOff o2 _ _).setOff o2 _ _).kept (d _), Blk.kept (Blk.set (Blk.set ha 1 _) 2 _) (d _), ((hb.setCell (p := ⟨ba, 1, none⟩) (by show w.heap.size ≤ ba; omega) _).setCell (p := ⟨ba, 2, none⟩) (by show w.heap.size ≤ ba; omega) _).drew⟩, ?_⟩
  exact ⟨Blk.kept (Blk.other (Blk.other hg (by omega) _ _) (by omega) _ _) (d _), Blk.kept (Blk.other (Blk.other hp (by omega) _ _) (by omega) _ _) (d _), ((hr.setOff o1 _ _).setOff o1 _ _).kept (d _), ((hv.setOff o2 _ _).setOff o2 _ _).kept (d _), Blk.kept (Blk.set (Blk.set ha 2 _) 1 _) (d _), ((hb.setCell (p := ⟨ba, 2, none⟩) (by show w.heap.size ≤ ba; omega) _).setCell (p := ⟨ba, 1, none⟩) (by show w.heap.size ≤ ba; omega) _).drew⟩

set_option maxHeartbeats 8000000 in
theorem exact_any {bnd : Nat} (r c : Int) (x y : Value) (l : List Cl) (t : List ActG) (w : World) (hx : Rm w x l) (hy : Acts bnd w y t) (hn : l.length ≤ 140737488355328) (hm : t.length ≤ 140737488355328) (hs : Bnd l) (hbd : bnd ≤ 1048576) (hT : Tabs w) :
    Calls Tryd.prog 3 #[.agg #[.int .i64 r, .int .i64 c, x, y]] w fun e w' => e = .returned (.bool true) ∧ Below w.heap.size w w' := by
  have HX := Lib.hid hx
  have HY := Lib.hid hy
  have HT := Lib.hid hT
  have HS := Lib.hid hs
  have HHV := Lib.hid (fun w' (h1 : Rm w' x l) (h2 : Acts bnd w' y t) => heavy_any r c x y l t w' h1 h2 hn hm)
  have HBA : Hid (∀ k, k < t.length → Bnd (t.getD k noAct).r) := Lib.hid fun k hk i hi => Nat.le_trans ((hy.2 k hk).2.1.2 i hi) hbd
  obtain ⟨hxc, A, cp, rfl, _⟩ := hx
  obtain ⟨A', c', rfl, hact⟩ := hy.form
  have HA := Lib.hid hact
  have HB1 : Hid (Below w.heap.size w (w.alloc (pbox r c (.slice A l.length cp) (.slice A' t.length c')))) := Lib.hid ((Below.refl _ _).alloc (Nat.le_refl _) _)
  have HK1 : Hid ((w.alloc (pbox r c (.slice A l.length cp) (.slice A' t.length c'))).heap[w.heap.size]? = some (pbox r c (.slice A l.length cp) (.slice A' t.length c'))) := Lib.hid (new_alloc _ _ _ rfl)
  clear hxc hy hact hT hs hbd
  go_enter Tryd.func3, Tryd.ntmps3
  go_wp2_with fail
  refine (HHV.out _ (HX.out.kept HB1.out) (HY.out.kept HB1.out)).mono ?_; rintro e w2 ⟨b, rfl, hq, hb2⟩
  have HB2 : Hid (Below w.heap.size w w2) := Lib.hid (HB1.out.trans (hb2.mono HB1.out.size))
  have hk2 := Blk.kept HK1.out hb2
  have HK2 := Lib.hid hk2
  clear hb2
  cases b with
  | true =>
    clear hk2 hq
    go_wp2_with fail
    go_ret
    exact ⟨rfl, HB2.out⟩
  | false =>
    obtain ⟨hl2, ht2, hr2⟩ := hq rfl
    have HR2 := Lib.hid hr2
    have c0 : w2.cell? ⟨w.heap.size, 0, none⟩ = some (.int .i64 r) := Blk.cell hk2 0
    have c1 : w2.cell? ⟨w.heap.size, 1, none⟩ = some (.int .i64 c) := Blk.cell hk2 1
    have c2 : w2.cell? ⟨w.heap.size, 2, none⟩ = some (.slice A l.length cp) := Blk.cell hk2 2
    have HCG := Lib.hid (fun w' (h : Cs w' (.slice A l.length cp) l) => copyGrid_any r c l (.slice A l.length cp) w' h (by omega))
    clear hk2 hq hr2
    go_wp2_with fail
    refine (HCG.out _ (HX.out.kept HB2.out).cs).mono ?_; rintro e w3 ⟨v3, rfl, ho3, hb3⟩
    obtain ⟨A3, c3, rfl⟩ := own_shape ho3
    have HR3 : Hid (Rm w3 (.slice A3 l.length c3) l) := Lib.hid ho3.rm
    have HB3 : Hid (Below w.heap.size w w3) := Lib.hid (HB2.out.trans (hb3.mono HB2.out.size))
    have HK3 := Lib.hid (Blk.kept HK2.out hb3)
    clear ho3 hb3 c0 c1 c2
    go_upto_region 4 with (fail)
    have hal : Below w3.heap.size w3 (w3.alloc (gbox r c (.slice A3 l.length c3))) := (Below.refl _ _).alloc (Nat.le_refl _) _
    have HR4 := Lib.hid (HR3.out.kept hal)
    have HB4 := Lib.hid (HB3.out.trans (hal.mono HB3.out.size))
    have HK4 := Lib.hid (Blk.kept HK3.out hal)
    have HG4 : Hid ((w3.alloc (gbox r c (.slice A3 l.length c3))).heap[w3.heap.size]? = some (gbox r c (.slice A3 l.length c3))) := Lib.hid (new_alloc _ _ _ rfl)
    have HLT : Hid (w.heap.size < w3.heap.size) := Lib.hid (Blk.lt HK3.out)
    clear hal HR3 HB3 HK3
    generalize w3.alloc (gbox r c (.slice A3 l.length c3)) = w4 at HR4 HB4 HK4 HG4 ⊢
    generalize w3.heap.size = gb at HG4 HLT ⊢
    go_wp2_with fail
    go_loopw [4] (fun i wr => ∃ (k : Nat) (R C : Int) (v : Value) (lg : List Cl), k ≤ 6 ∧ i = .int .i64 k ∧ Hid (wr.heap[gb]? = some (gbox R C v)) ∧ Hid (wr.heap[w.heap.size]? = some (pbox r c (.slice A l.length cp) (.slice A' t.length c'))) ∧ Hid (Rm wr v lg) ∧ Hid (Bnd lg) ∧ Hid (lg.length ≤ 3000) ∧ Hid (Below w.heap.size w wr)) (fun i _ => 6 - (intOf i).toNat)
    case atStart => exact ⟨0, r, c, _, l, by omega, rfl, HG4, HK4, HR4, HS, Lib.hid hl2, HB4⟩
    case round =>
      obtain ⟨k, R, C, v, lg, hk, rfl, HGB, HPB, HRM, HBD, HLN, HBL⟩ := hrel
      obtain ⟨Av, cv, rfl⟩ : ∃ A c, v = .slice A lg.length c := by obtain ⟨_, A, c, e, _⟩ := HRM.out; exact ⟨A, c, e⟩
      have c3 : wr.cell? ⟨w.heap.size, 3, none⟩ = some (.slice A' t.length c') := Blk.cell HPB.out 3
      have zk := Blk.lt HPB.out
      have zg := Blk.lt HGB.out
      have HTR := Lib.hid (HT.out.kept HBL.out)
      by_cases hlt : k < t.length
      · have hdt : decide ((k : Int) < (t.length : Int)) = true := decide_eq_true (by omega)
        by_cases h6 : k < 6
        · have hd6 : decide ((k : Int) < 6) = true := decide_eq_true (by omega)
          obtain ⟨ad, e1, hat⟩ := HA.out k hlt
          subst e1
          have hat := hat.kept HBL.out
          have HRV := Lib.hid ((HY.out.2 k hlt).1.kept HBL.out)
          have HBV := Lib.hid (HBA.out k hlt)
          have HLV := Lib.hid (HR2.out k hlt)
          generalize t.getD k noAct = act at hat HRV HBV HLV
          obtain ⟨dd, ii, kk, nn, q, vv, rr⟩ := act
          have HRV : Hid (Rm wr vv rr) := HRV
          have HBV : Hid (Bnd rr) := HBV
          have HLV : Hid (rr.length ≤ 3000) := HLV
          obtain ⟨AV, cpv, rfl⟩ : ∃ A c, vv = .slice A rr.length c := by obtain ⟨_, A, c, e, _⟩ := HRV.out; exact ⟨A, c, e⟩
          have a0 : _ = some (Value.int .i64 dd) := hat.head
          have a1 : _ = some (Value.int .i64 ii) := hat.next 0 rfl
          have a2 : _ = some (Value.int .i64 kk) := hat.next 1 rfl
          have a3 : _ = some (Value.int .i64 nn) := hat.next 2 rfl
          have a4 : _ = some (Value.int .i64 q.fg) := hat.next 3 rfl
          have a5 : _ = some (Value.int .i64 q.bg) := hat.next 4 rfl
          have a6 : _ = some (Value.int .i64 q.flags) := hat.next 5 rfl
          have a7 : _ = some (Value.slice AV rr.length cpv) := hat.next 6 rfl
          clear hat
          go_upto_region 8 with (fail)
          have hal : Below wr.heap.size wr (wr.alloc (tbox dd ii kk nn q (.slice AV rr.length cpv))) := (Below.refl _ _).alloc (Nat.le_refl _) _
          have HGA := Lib.hid (Blk.kept HGB.out hal)
          have HPA := Lib.hid (Blk.kept HPB.out hal)
          have HRA := Lib.hid (HRM.out.kept hal)
          have HVA := Lib.hid (HRV.out.kept hal)
          have HTA := Lib.hid (HTR.out.kept hal)
          have HBB := Lib.hid (HBL.out.trans (hal.mono HBL.out.size))
          have HAA : Hid ((wr.alloc (tbox dd ii kk nn q (.slice AV rr.length cpv))).heap[wr.heap.size]? = some (tbox dd ii kk nn q (.slice AV rr.length cpv))) := Lib.hid (new_alloc _ _ _ rfl)
          have HLA : Hid (gb < wr.heap.size) := Lib.hid zg
          have HO1 := Lib.hid (rm_low HRM.out.cs (Nat.le_refl wr.heap.size))
          have HO2 := Lib.hid (rm_low HRV.out.cs (Nat.le_refl wr.heap.size))
          clear a0 a1 a2 a3 a4 a5 a6 a7 c3 zk zg hal HGB HPB HRM HRV HTR HBL
          generalize wr.alloc (tbox dd ii kk nn q (.slice AV rr.length cpv)) = wa at HGA HPA HRA HVA HTA HBB HAA ⊢
          generalize wr.heap.size = ba at HAA HLA HO1 HO2 ⊢
          obtain ⟨k1, hk1⟩ : ∃ q, k + 1 = q := ⟨_, rfl⟩
          have hwk : IntKind.i64.wrap ((k : Int) + 1) = (k1 : Int) := by rw [IntKind.wrap_i64]; omega
          have HK1' : Hid (k + 1 = k1 ∧ k < 6) := Lib.hid ⟨hk1, h6⟩
          have g0 : wa.cell? ⟨gb, 0, none⟩ = some (.int .i64 R) := Blk.cell HGA.out 0
          have g1 : wa.cell? ⟨gb, 1, none⟩ = some (.int .i64 C) := Blk.cell HGA.out 1
          have g2 : wa.cell? ⟨gb, 2, none⟩ = some (.slice Av lg.length cv) := Blk.cell HGA.out 2
          rcases (by omega : k % 2 = 0 ∨ k % 2 = 1) with hm2 | hm2
          · have hmi : (k : Int).tmod 2 = 0 := by rw [Int.tmod_eq_emod_of_nonneg (by omega)]; omega
            clear hm2 hk1
            by_cases hg : GridOk ⟨R, C, lg⟩
            · have HGD := Lib.hid (refGrid_any ⟨R, C, lg⟩ true (.slice Av lg.length cv) wa HRA.out HBD.out.short HTA.out (by have := HLN.out; show lg.length ≤ 1000000; omega) ⟨fun _ => hg, fun _ => rfl⟩)
              obtain ⟨Rn, rfl, hRn⟩ : ∃ Rn : Nat, R = (Rn : Int) ∧ 1 ≤ Rn ∧ Rn ≤ 40 := by
                have h1 : 1 ≤ R := hg.1.1
                have h2 : R ≤ 40 := hg.1.2
                exact ⟨R.toNat, by omega, by omega, by omega⟩
              have HW1 := Lib.hid (fun (n : Int) w' => lawWithin_any n Rn (by omega) (by omega) w')
              clear hg hRn
              go_wp2_with fail
              refine HGD.out.mono ?_; rintro e wb ⟨rfl, hb⟩
              have HGC := Lib.hid (Blk.kept HGA.out hb)
              have HPC := Lib.hid (Blk.kept HPA.out hb)
              have HRC := Lib.hid (HRA.out.kept hb)
              have HVC := Lib.hid (HVA.out.kept hb)
              have HTC := Lib.hid (HTA.out.kept hb)
              have HBC := Lib.hid (HBB.out.trans (hb.mono HBB.out.size))
              have HAB := Lib.hid (Blk.kept HAA.out hb)
              clear hb g0 g1 g2
              have b1 : wb.cell? ⟨ba, 1, none⟩ = some (.int .i64 ii) := Blk.cell HAB.out 1
              have b2 : wb.cell? ⟨ba, 2, none⟩ = some (.int .i64 kk) := Blk.cell HAB.out 2
              have bf1 := Blk.free HAB.out 1
              have bf2 := Blk.free HAB.out 2
              have g0 : wb.cell? ⟨gb, 0, none⟩ = some (.int .i64 Rn) := Blk.cell HGC.out 0
              go_wp2_with fail
              go_region_law (go_simp; go_at_call 7; refine (HW1.out _ _).mono ?_; rintro e wn ⟨rfl, rfl⟩)
              all_goals
                clear b1 b2 bf1 bf2 g0
                have h9 := put9 HGC.out HPC.out HRC.out HVC.out HAB.out HBC.out HLT.out HLA.out HO1.out HO2.out (wi ii Rn) (wi kk Rn)
                have F1 := Lib.hid h9.1
                have F2 := Lib.hid h9.2
                clear h9 HGC HPC HRC HVC HTC HAB HBC HO1 HO2
                first
                  | (obtain ⟨we, hwe⟩ : ∃ q, ((wb.setCell ⟨ba, 1, none⟩ (.int .i64 (wi ii Rn))).setCell ⟨ba, 2, none⟩ (.int .i64 (wi kk Rn))).drew = q := ⟨_, rfl⟩
                     rw [hwe]
                     rw [hwe] at F1
                     clear F2 hwe
                     obtain ⟨hgc, hpc, hrc, hvc, hac, hbc⟩ := F1.out)
                  | (obtain ⟨we, hwe⟩ : ∃ q, ((wb.setCell ⟨ba, 2, none⟩ (.int .i64 (wi kk Rn))).setCell ⟨ba, 1, none⟩ (.int .i64 (wi ii Rn))).drew = q := ⟨_, rfl⟩
                     rw [hwe]
                     rw [hwe] at F2
                     clear F1 hwe
                     obtain ⟨hgc, hpc, hrc, hvc, hac, hbc⟩ := F2.out)
                have HGC := Lib.hid hgc
                have HPC := Lib.hid hpc
                have HRC := Lib.hid hrc
                have HVC := Lib.hid hvc
                have HAB := Lib.hid hac
                have HBC := Lib.hid hbc
                have HTC := Lib.hid (HT.out.kept hbc)
                clear hgc hpc hrc hvc hac hbc
                have HST := Lib.hid (step_any Rn C lg rr q dd (wi ii Rn) (wi kk Rn) nn (.slice Av lg.length cv) (.slice AV rr.length cpv) we HRC.out HVC.out HBD.out HBV.out HLN.out HLV.out HTC.out)
                have g0 : we.cell? ⟨gb, 0, none⟩ = some (.int .i64 Rn) := Blk.cell HGC.out 0
                have g1 : we.cell? ⟨gb, 1, none⟩ = some (.int .i64 C) := Blk.cell HGC.out 1
                have g2 : we.cell? ⟨gb, 2, none⟩ = some (.slice Av lg.length cv) := Blk.cell HGC.out 2
                have b0 : we.cell? ⟨ba, 0, none⟩ = some (.int .i64 dd) := Blk.cell HAB.out 0
                have b1 : we.cell? ⟨ba, 1, none⟩ = some (.int .i64 (wi ii Rn)) := Blk.cell HAB.out 1
                have b2 : we.cell? ⟨ba, 2, none⟩ = some (.int .i64 (wi kk Rn)) := Blk.cell HAB.out 2
                have b3 : we.cell? ⟨ba, 3, none⟩ = some (.int .i64 nn) := Blk.cell HAB.out 3
                have b4 : we.cell? ⟨ba, 4, none⟩ = some (.int .i64 q.fg) := Blk.cell HAB.out 4
                have b5 : we.cell? ⟨ba, 5, none⟩ = some (.int .i64 q.bg) := Blk.cell HAB.out 5
                have b6 : we.cell? ⟨ba, 6, none⟩ = some (.int .i64 q.flags) := Blk.cell HAB.out 6
                have b7 : we.cell? ⟨ba, 7, none⟩ = some (.slice AV rr.length cpv) := Blk.cell HAB.out 7
                go_wp2_with fail
                refine HST.out.mono ?_; rintro e wc ⟨R2, C2, m2, ⟨v2, rfl, hrm2, hbel2⟩, hbd2, hln2⟩
                obtain ⟨Av2, cv2, rfl⟩ : ∃ A c, v2 = .slice A m2.length c := by obtain ⟨_, A, c, e, _⟩ := hrm2; exact ⟨A, c, e⟩
                have HGD2 := Lib.hid (Blk.kept HGC.out hbel2)
                have HPD2 := Lib.hid (Blk.kept HPC.out hbel2)
                have HBD2 := Lib.hid (HBC.out.trans (hbel2.mono HBC.out.size))
                have HRD2 := Lib.hid hrm2
                have HBN2 := Lib.hid hbd2
                have HLN2 := Lib.hid hln2
                clear hrm2 hbel2 hbd2 hln2 g0 g1 g2 b0 b1 b2 b3 b4 b5 b6 b7
                go_upto_region 11 with (fail)
                have hal : Below wc.heap.size wc (wc.alloc (gbox R2 C2 (.slice Av2 m2.length cv2))) := (Below.refl _ _).alloc (Nat.le_refl _) _
                have HGE := Lib.hid (Blk.kept HGD2.out hal)
                have HPE := Lib.hid (Blk.kept HPD2.out hal)
                have HBE := Lib.hid (HBD2.out.trans (hal.mono HBD2.out.size))
                have HRE := Lib.hid (HRD2.out.kept hal)
                have HNE : Hid ((wc.alloc (gbox R2 C2 (.slice Av2 m2.length cv2))).heap[wc.heap.size]? = some (gbox R2 C2 (.slice Av2 m2.length cv2))) := Lib.hid (new_alloc _ _ _ rfl)
                clear hal
                generalize wc.alloc (gbox R2 C2 (.slice Av2 m2.length cv2)) = wd at HGE HPE HBE HRE HNE ⊢
                generalize wc.heap.size = nb at HNE ⊢
                have n0 : wd.cell? ⟨nb, 0, none⟩ = some (.int .i64 R2) := Blk.cell HNE.out 0
                have n1 : wd.cell? ⟨nb, 1, none⟩ = some (.int .i64 C2) := Blk.cell HNE.out 1
                have n2 : wd.cell? ⟨nb, 2, none⟩ = some (.slice Av2 m2.length cv2) := Blk.cell HNE.out 2
                have g0 : wd.cell? ⟨gb, 0, none⟩ = some (.int .i64 Rn) := Blk.cell HGE.out 0
                have g1 : wd.cell? ⟨gb, 1, none⟩ = some (.int .i64 C) := Blk.cell HGE.out 1
                have g2 : wd.cell? ⟨gb, 2, none⟩ = some (.slice Av lg.length cv) := Blk.cell HGE.out 2
                have gf0 := Blk.free HGE.out 0
                have gf1 := Blk.free HGE.out 1
                have gf2 := Blk.free HGE.out 2
                have HGF := Lib.hid (gput_box HGE.out R2 C2 (.slice Av2 m2.length cv2))
                have HPF : Hid ((gput wd gb R2 C2 (.slice Av2 m2.length cv2)).heap[w.heap.size]? = some (pbox r c (.slice A l.length cp) (.slice (some ad) t.length c'))) := Lib.hid (gput_other HPE.out (by have := HLT.out; omega) _ _ _)
                have HBF := Lib.hid (gput_below HBE.out (Nat.le_of_lt HLT.out) R2 C2 (.slice Av2 m2.length cv2))
                have HRF := Lib.hid (Rm.gput HGE.out HRE.out R2 C2 (.slice Av2 m2.length cv2))
                go_upto_region 6 with (fail)
                unfold gput at HGF HPF HBF HRF
                clear n0 n1 n2 g0 g1 g2 gf0 gf1 gf2
                generalize ((wd.setCell ⟨gb, 0, none⟩ (.int .i64 R2)).setCell ⟨gb, 1, none⟩ (.int .i64 C2)).setCell ⟨gb, 2, none⟩ (.slice Av2 m2.length cv2) = wf at HGF HPF HBF HRF ⊢
                go_wp2_with fail
                go_roundw
                case rel => exact ⟨k1, R2, C2, _, m2, by have := HK1'.out; omega, rfl, HGF, HPF, HRF, HBN2, HLN2, HBF⟩
                case measure => have := HK1'.out; simp [intOf]; omega
            · have HGD := Lib.hid (refGrid_any ⟨R, C, lg⟩ false (.slice Av lg.length cv) wa HRA.out HBD.out.short HTA.out (by have := HLN.out; show lg.length ≤ 1000000; omega) ⟨fun h => (by cases h), fun h => absurd h hg⟩)
              clear hg
              go_wp2_with fail
              refine HGD.out.mono ?_; rintro e wb ⟨rfl, hb⟩
              have HGC := Lib.hid (Blk.kept HGA.out hb)
              have HPC := Lib.hid (Blk.kept HPA.out hb)
              have HRC := Lib.hid (HRA.out.kept hb)
              have HVC := Lib.hid (HVA.out.kept hb)
              have HTC := Lib.hid (HTA.out.kept hb)
              have HBC := Lib.hid (HBB.out.trans (hb.mono HBB.out.size))
              have HAB := Lib.hid (Blk.kept HAA.out hb)
              clear hb g0 g1 g2
              have HST := Lib.hid (step_any R C lg rr q dd ii kk nn (.slice Av lg.length cv) (.slice AV rr.length cpv) wb HRC.out HVC.out HBD.out HBV.out HLN.out HLV.out HTC.out)
              have g0 : wb.cell? ⟨gb, 0, none⟩ = some (.int .i64 R) := Blk.cell HGC.out 0
              have g1 : wb.cell? ⟨gb, 1, none⟩ = some (.int .i64 C) := Blk.cell HGC.out 1
              have g2 : wb.cell? ⟨gb, 2, none⟩ = some (.slice Av lg.length cv) := Blk.cell HGC.out 2
              have b0 : wb.cell? ⟨ba, 0, none⟩ = some (.int .i64 dd) := Blk.cell HAB.out 0
              have b1 : wb.cell? ⟨ba, 1, none⟩ = some (.int .i64 ii) := Blk.cell HAB.out 1
              have b2 : wb.cell? ⟨ba, 2, none⟩ = some (.int .i64 kk) := Blk.cell HAB.out 2
              have b3 : wb.cell? ⟨ba, 3, none⟩ = some (.int .i64 nn) := Blk.cell HAB.out 3
              have b4 : wb.cell? ⟨ba, 4, none⟩ = some (.int .i64 q.fg) := Blk.cell HAB.out 4
              have b5 : wb.cell? ⟨ba, 5, none⟩ = some (.int .i64 q.bg) := Blk.cell HAB.out 5
              have b6 : wb.cell? ⟨ba, 6, none⟩ = some (.int .i64 q.flags) := Blk.cell HAB.out 6
              have b7 : wb.cell? ⟨ba, 7, none⟩ = some (.slice AV rr.length cpv) := Blk.cell HAB.out 7
              go_wp2_with fail
              refine HST.out.mono ?_; rintro e wc ⟨R2, C2, m2, ⟨v2, rfl, hrm2, hbel2⟩, hbd2, hln2⟩
              obtain ⟨Av2, cv2, rfl⟩ : ∃ A c, v2 = .slice A m2.length c := by obtain ⟨_, A, c, e, _⟩ := hrm2; exact ⟨A, c, e⟩
              have HGD2 := Lib.hid (Blk.kept HGC.out hbel2)
              have HPD2 := Lib.hid (Blk.kept HPC.out hbel2)
              have HBD2 := Lib.hid (HBC.out.trans (hbel2.mono HBC.out.size))
              have HRD2 := Lib.hid hrm2
              have HBN2 := Lib.hid hbd2
              have HLN2 := Lib.hid hln2
              clear hrm2 hbel2 hbd2 hln2 g0 g1 g2 b0 b1 b2 b3 b4 b5 b6 b7
              go_upto_region 11 with (fail)
              have hal : Below wc.heap.size wc (wc.alloc (gbox R2 C2 (.slice Av2 m2.length cv2))) := (Below.refl _ _).alloc (Nat.le_refl _) _
              have HGE := Lib.hid (Blk.kept HGD2.out hal)
              have HPE := Lib.hid (Blk.kept HPD2.out hal)
              have HBE := Lib.hid (HBD2.out.trans (hal.mono HBD2.out.size))
              have HRE := Lib.hid (HRD2.out.kept hal)
              have HNE : Hid ((wc.alloc (gbox R2 C2 (.slice Av2 m2.length cv2))).heap[wc.heap.size]? = some (gbox R2 C2 (.slice Av2 m2.length cv2))) := Lib.hid (new_alloc _ _ _ rfl)
              clear hal
              generalize wc.alloc (gbox R2 C2 (.slice Av2 m2.length cv2)) = wd at HGE HPE HBE HRE HNE ⊢
              generalize wc.heap.size = nb at HNE ⊢
              have n0 : wd.cell? ⟨nb, 0, none⟩ = some (.int .i64 R2) := Blk.cell HNE.out 0
              have n1 : wd.cell? ⟨nb, 1, none⟩ = some (.int .i64 C2) := Blk.cell HNE.out 1
              have n2 : wd.cell? ⟨nb, 2, none⟩ = some (.slice Av2 m2.length cv2) := Blk.cell HNE.out 2
              have g0 : wd.cell? ⟨gb, 0, none⟩ = some (.int .i64 R) := Blk.cell HGE.out 0
              have g1 : wd.cell? ⟨gb, 1, none⟩ = some (.int .i64 C) := Blk.cell HGE.out 1
              have g2 : wd.cell? ⟨gb, 2, none⟩ = some (.slice Av lg.length cv) := Blk.cell HGE.out 2
              have gf0 := Blk.free HGE.out 0
              have gf1 := Blk.free HGE.out 1
              have gf2 := Blk.free HGE.out 2
              have HGF := Lib.hid (gput_box HGE.out R2 C2 (.slice Av2 m2.length cv2))
              have HPF : Hid ((gput wd gb R2 C2 (.slice Av2 m2.length cv2)).heap[w.heap.size]? = some (pbox r c (.slice A l.length cp) (.slice (some ad) t.length c'))) := Lib.hid (gput_other HPE.out (by have := HLT.out; omega) _ _ _)
              have HBF := Lib.hid (gput_below HBE.out (Nat.le_of_lt HLT.out) R2 C2 (.slice Av2 m2.length cv2))
              have HRF := Lib.hid (Rm.gput HGE.out HRE.out R2 C2 (.slice Av2 m2.length cv2))
              go_upto_region 6 with (fail)
              unfold gput at HGF HPF HBF HRF
              clear n0 n1 n2 g0 g1 g2 gf0 gf1 gf2
              generalize ((wd.setCell ⟨gb, 0, none⟩ (.int .i64 R2)).setCell ⟨gb, 1, none⟩ (.int .i64 C2)).setCell ⟨gb, 2, none⟩ (.slice Av2 m2.length cv2) = wf at HGF HPF HBF HRF ⊢
              go_wp2_with fail
              go_roundw
              case rel => exact ⟨k1, R2, C2, _, m2, by have := HK1'.out; omega, rfl, HGF, HPF, HRF, HBN2, HLN2, HBF⟩
              case measure => have := HK1'.out; simp [intOf]; omega
          · have hmi : (k : Int).tmod 2 = 1 := by rw [Int.tmod_eq_emod_of_nonneg (by omega)]; omega
            clear hm2 hk1 g0 g1 g2
            obtain ⟨wb, rfl⟩ : ∃ q, q = wa := ⟨_, rfl⟩
            have HGC := HGA
            have HPC := HPA
            have HRC := HRA
            have HVC := HVA
            have HTC := HTA
            have HBC := HBB
            have HAB := HAA
            have HST := Lib.hid (step_any R C lg rr q dd ii kk nn (.slice Av lg.length cv) (.slice AV rr.length cpv) wb HRC.out HVC.out HBD.out HBV.out HLN.out HLV.out HTC.out)
            have g0 : wb.cell? ⟨gb, 0, none⟩ = some (.int .i64 R) := Blk.cell HGC.out 0
            have g1 : wb.cell? ⟨gb, 1, none⟩ = some (.int .i64 C) := Blk.cell HGC.out 1
            have g2 : wb.cell? ⟨gb, 2, none⟩ = some (.slice Av lg.length cv) := Blk.cell HGC.out 2
            have b0 : wb.cell? ⟨ba, 0, none⟩ = some (.int .i64 dd) := Blk.cell HAB.out 0
            have b1 : wb.cell? ⟨ba, 1, none⟩ = some (.int .i64 ii) := Blk.cell HAB.out 1
            have b2 : wb.cell? ⟨ba, 2, none⟩ = some (.int .i64 kk) := Blk.cell HAB.out 2
            have b3 : wb.cell? ⟨ba, 3, none⟩ = some (.int .i64 nn) := Blk.cell HAB.out 3
            have b4 : wb.cell? ⟨ba, 4, none⟩ = some (.int .i64 q.fg) := Blk.cell HAB.out 4
            have b5 : wb.cell? ⟨ba, 5, none⟩ = some (.int .i64 q.bg) := Blk.cell HAB.out 5
            have b6 : wb.cell? ⟨ba, 6, none⟩ = some (.int .i64 q.flags) := Blk.cell HAB.out 6
            have b7 : wb.cell? ⟨ba, 7, none⟩ = some (.slice AV rr.length cpv) := Blk.cell HAB.out 7
            go_wp2_with fail
            refine HST.out.mono ?_; rintro e wc ⟨R2, C2, m2, ⟨v2, rfl, hrm2, hbel2⟩, hbd2, hln2⟩
            obtain ⟨Av2, cv2, rfl⟩ : ∃ A c, v2 = .slice A m2.length c := by obtain ⟨_, A, c, e, _⟩ := hrm2; exact ⟨A, c, e⟩
            have HGD2 := Lib.hid (Blk.kept HGC.out hbel2)
            have HPD2 := Lib.hid (Blk.kept HPC.out hbel2)
            have HBD2 := Lib.hid (HBC.out.trans (hbel2.mono HBC.out.size))
            have HRD2 := Lib.hid hrm2
            have HBN2 := Lib.hid hbd2
            have HLN2 := Lib.hid hln2
            clear hrm2 hbel2 hbd2 hln2 g0 g1 g2 b0 b1 b2 b3 b4 b5 b6 b7
            go_upto_region 11 with (fail)
            have hal : Below wc.heap.size wc (wc.alloc (gbox R2 C2 (.slice Av2 m2.length cv2))) := (Below.refl _ _).alloc (Nat.le_refl _) _
            have HGE := Lib.hid (Blk.kept HGD2.out hal)
            have HPE := Lib.hid (Blk.kept HPD2.out hal)
            have HBE := Lib.hid (HBD2.out.trans (hal.mono HBD2.out.size))
            have HRE := Lib.hid (HRD2.out.kept hal)
            have HNE : Hid ((wc.alloc (gbox R2 C2 (.slice Av2 m2.length cv2))).heap[wc.heap.size]? = some (gbox R2 C2 (.slice Av2 m2.length cv2))) := Lib.hid (new_alloc _ _ _ rfl)
            clear hal
            generalize wc.alloc (gbox R2 C2 (.slice Av2 m2.length cv2)) = wd at HGE HPE HBE HRE HNE ⊢
            generalize wc.heap.size = nb at HNE ⊢
            have n0 : wd.cell? ⟨nb, 0, none⟩ = some (.int .i64 R2) := Blk.cell HNE.out 0
            have n1 : wd.cell? ⟨nb, 1, none⟩ = some (.int .i64 C2) := Blk.cell HNE.out 1
            have n2 : wd.cell? ⟨nb, 2, none⟩ = some (.slice Av2 m2.length cv2) := Blk.cell HNE.out 2
            have g0 : wd.cell? ⟨gb, 0, none⟩ = some (.int .i64 R) := Blk.cell HGE.out 0
            have g1 : wd.cell? ⟨gb, 1, none⟩ = some (.int .i64 C) := Blk.cell HGE.out 1
            have g2 : wd.cell? ⟨gb, 2, none⟩ = some (.slice Av lg.length cv) := Blk.cell HGE.out 2
            have gf0 := Blk.free HGE.out 0
            have gf1 := Blk.free HGE.out 1
            have gf2 := Blk.free HGE.out 2
            have HGF := Lib.hid (gput_box HGE.out R2 C2 (.slice Av2 m2.length cv2))
            have HPF : Hid ((gput wd gb R2 C2 (.slice Av2 m2.length cv2)).heap[w.heap.size]? = some (pbox r c (.slice A l.length cp) (.slice (some ad) t.length c'))) := Lib.hid (gput_other HPE.out (by have := HLT.out; omega) _ _ _)
            have HBF := Lib.hid (gput_below HBE.out (Nat.le_of_lt HLT.out) R2 C2 (.slice Av2 m2.length cv2))
            have HRF := Lib.hid (Rm.gput HGE.out HRE.out R2 C2 (.slice Av2 m2.length cv2))
            go_upto_region 6 with (fail)
            unfold gput at HGF HPF HBF HRF
            clear n0 n1 n2 g0 g1 g2 gf0 gf1 gf2
            generalize ((wd.setCell ⟨gb, 0, none⟩ (.int .i64 R2)).setCell ⟨gb, 1, none⟩ (.int .i64 C2)).setCell ⟨gb, 2, none⟩ (.slice Av2 m2.length cv2) = wf at HGF HPF HBF HRF ⊢
            go_wp2_with fail
            go_roundw
            case rel => exact ⟨k1, R2, C2, _, m2, by have := HK1'.out; omega, rfl, HGF, HPF, HRF, HBN2, HLN2, HBF⟩
            case measure => have := HK1'.out; simp [intOf]; omega
        · have hk6 : k = 6 := by omega
          subst hk6
          have hd6 : decide (((6 : Nat) : Int) < 6) = false := decide_eq_false (by omega)
          go_wp2_with fail
          refine (wakes_any _).mono ?_; rintro e wz ⟨rfl, hbz⟩
          have HBZ := Lib.hid (HBL.out.trans (hbz.mono HBL.out.size))
          clear hbz
          go_wp2_with fail
          go_ret
          exact ⟨rfl, HBZ.out⟩
      · have hdt : decide ((k : Int) < (t.length : Int)) = false := decide_eq_false (by omega)
        go_wp2_with fail
        refine (wakes_any _).mono ?_; rintro e wz ⟨rfl, hbz⟩
        have HBZ := Lib.hid (HBL.out.trans (hbz.mono HBL.out.size))
        clear hbz
        go_wp2_with fail
        go_ret
        exact ⟨rfl, HBZ.out⟩
end Row
end Go.Proofs.YtenhgkhonaglaaaDoor
