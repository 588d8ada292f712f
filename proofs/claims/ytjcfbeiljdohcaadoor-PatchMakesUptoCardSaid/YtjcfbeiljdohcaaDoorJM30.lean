/- Joined texts: PdTold, PdEq, PdOver, GrdRef2, PatRefB, PatRefC, PatRefD, PatRefP. -/
import Derived.Test.YtjcfbeiljdohcaaDoorJM29
import Derived.RegionTactic
import Derived.Deep.RegionLaw
namespace Go.Proofs.YtjcfbeiljdohcaaDoor
set_option maxRecDepth 100000
section
open Go.RowKit
namespace Pat
open Go.Proofs.YtjcfbeiljdohcaaDoor.Row Go.Proofs.YtjcfbeiljdohcaaDoor.Scr Agb
theorem own_clear {w' : World} {base g : Nat} {v : Value} {l : List Int} (h : OwnN w' base v l) (hg : g < base ∨ w'.heap.size ≤ g) : Clear g v := by
  intro ad n c e
  rcases h.2 with ⟨h0, _⟩ | ⟨b, cap, cur, hv, hb, hk, _⟩
  · rw [h0] at e; cases e
  · rw [hv] at e
    injection e with e _ _
    injection e with e
    subst e
    have := Blk.lt hk
    show b ≠ g
    omega
theorem sl_clear {w : World} {g : Nat} {v : Value} {l : List Int} (h : Sl w v l) (hl : l ≠ []) (hg : w.heap.size ≤ g) : Clear g v := by
  intro ad n c e
  obtain ⟨A, c', e2, _⟩ := h.room
  rw [e2] at h
  obtain ⟨ad', e3, hc⟩ := h.get 0 (by cases l with | nil => exact absurd rfl hl | cons _ _ => simp)
  rw [e2, e3] at e
  injection e with e _ _
  injection e with e
  have h0 : ad'.add 0 = ad' := by unfold Addr.add; simp
  rw [h0] at hc
  have := World.block_lt_of_cell? _ _ hc
  rw [← e]
  omega
theorem lines_any {pt : Pt} {R C : Nat} {l : List Nat} {rs : List (List Cl)} (h : PtR pt R C l rs) (u x : Value) (wb w : World) (hb : Below wb.heap.size wb w) (hu : Sl wb u pt.at_) (hx : Rm wb x pt.cells) :
    Calls Tryd.prog 18 #[pagg pt u x] w fun e w' => ∃ v L, e = .returned v ∧ OwnP w' w.heap.size v L ∧ L.length = R ∧ L.map bare = mkL R (tellsB pt) (tells pt) ∧ LisOk wb C L ∧ Below w.heap.size w w' := by
  obtain ⟨Ax, cx, rfl, _⟩ := id hx.2
  have hle : rs.length ≤ R := by
    rw [h.len]
    split
    · exact Nat.le_refl _
    · have := up_length (lo := 0) h.up (fun i hi => ⟨Nat.zero_le _, h.lt i hi⟩); omega
  have hl : pt.cells.length = rs.length * C := by rw [h.cells, even_length h.even]
  have hfr : ∀ k, k < (atP pt).length → tells pt ((atP pt).getD k 0) = Row.rowAt pt.cells C k := fun k hk => by
    have hk2 : k < rs.length := by rw [← h.atLen]; exact hk
    rw [h.cells, rowAt_flat h.even hk2]
    have e := h.atRows
    have e2 : rowOf ((atP pt).map (tells pt)) k = tells pt ((atP pt).getD k 0) := by
      unfold rowOf; simp [List.getD, hk]
    rw [← e2, e]
  have hrw : ∀ W, Below w.heap.size w W → Calls Tryd.prog 35 #[pagg pt u (.slice Ax pt.cells.length cx)] W fun e w' => ∃ v, e = .returned v ∧ Sl w' v (ofN (atP pt)) ∧ (atP pt ≠ [] → ∀ g, w.heap.size ≤ g → (g < W.heap.size ∨ w'.heap.size ≤ g) → Clear g v) ∧ Below W.heap.size W w' := fun W hW => by
    unfold pagg
    rw [show pt.rows = (R : Int) from h.rows]
    cases ha : pt.all with
    | true =>
      refine (rows_all R pt.cols pt.row pt.col pt.modes ⟨pt.title.toArray⟩ u _ W h.r40).mono ?_
      rintro e w' ⟨v, rfl, ho, hb⟩
      have ea : atP pt = List.range R := by rw [h.atp, ha]; rfl
      refine ⟨v, rfl, by rw [ea]; exact ho.sl, fun _ g _ hg => own_clear ho hg, hb⟩
    | false =>
      refine (rows_some R pt.cols pt.row pt.col pt.modes ⟨pt.title.toArray⟩ u _ W).mono ?_
      rintro e w' ⟨rfl, hb2⟩
      have ea : atP pt = l := by rw [h.atp, ha]; rfl
      have hs : Sl wb u (ofN (atP pt)) := by rw [ea, ← h.at_]; exact hu
      refine ⟨u, rfl, hs.kept (hb.trans ((hW.trans (hb2.mono hW.size)).mono hb.size)), fun hne g hg _ => sl_clear hs (fun e => hne (by cases hq : atP pt with | nil => rfl | cons _ _ => rw [hq] at e; cases e)) (Nat.le_trans hb.size hg), hb2⟩
  have hc := lines_t R C pt.all pt.row pt.col pt.modes ⟨pt.title.toArray⟩ u Ax cx rs.length pt.cells (atP pt) (ofN (atP pt)) rfl wb w hb hx h.r1 h.r40 hle h.c1 h.c40 hl h.atLen h.atLt (by rw [← h.rows, ← h.cols]; exact hrw)
  rw [← h.rows, ← h.cols] at hc
  refine hc.mono ?_
  rintro e w' ⟨v, cv, rfl, ho, hcv, hb2⟩
  refine ⟨v, lineTo cv (Row.rowAt pt.cells C) (atP pt) R rs.length, rfl, ho, lineTo_length _ _ _ _ _, ?_, ?_, hb2⟩
  · have e := lineTo_bare (tells pt) cv (Row.rowAt pt.cells C) (atP pt) R hfr rs.length (by rw [h.atLen]; exact Nat.le_refl _)
    rw [e, ← h.atLen, List.take_length, h.putAll]
  · refine lineTo_ok (n := rs.length) (atP pt) R (fun k hk => ⟨hcv k hk, ?_⟩) rs.length (Nat.le_refl _)
    rw [h.cells, rowAt_flat h.even hk]
    exact h.even _ (rowOf_mem hk)
end Pat
end
section
open Go.RowKit
namespace Pat
open Go.Proofs.YtjcfbeiljdohcaaDoor.Row Go.Proofs.YtjcfbeiljdohcaaDoor.Scr Agb
set_option maxHeartbeats 1600000 in
theorem eqTold_is (l m : List Cl) (b : Bool) (hb : b = true ↔ l = m) (x y : Value) (w : World) (hx : Cs w x l) (hy : Cs w y m) (hn : l.length ≤ 100000000) :
    Calls Tryd.prog 37 #[x, y] w fun e w' => e = .returned (.bool b) ∧ ∃ q, w' = w.drewN q := by
  obtain ⟨A, c, rfl, ha⟩ := hx.form
  obtain ⟨A', c', rfl, hb'⟩ := hy.form
  have ha' := Lib.hid ha
  have hb2 := Lib.hid hb'
  have HBI := Lib.hid hb
  clear ha hb' hx hy hb
  by_cases hnm : l.length = m.length
  · obtain ⟨n, hl⟩ : ∃ n, l.length = n := ⟨_, rfl⟩
    have hl2 : m.length = n := by omega
    have HX := Lib.hid hl
    have HY := Lib.hid hl2
    rw [hl] at hn
    clear hnm
    rw [hl, hl2]
    clear hl hl2
    go_enter Tryd.func37, Tryd.ntmps37
    go_wp2_with fail
    go_loopw [13] (fun i wr => ∃ k q : Nat, k ≤ n ∧ i = .int .i64 k ∧ Hid (∀ j, j < k → g l j = g m j) ∧ wr = w.drewN q) (fun i _ => n - (intOf i).toNat)
    case atStart => exact ⟨0, 0, by omega, rfl, Lib.hid fun j h => by omega, rfl⟩
    case round =>
      obtain ⟨k, q, hk, rfl, hal, rfl⟩ := hrel
      by_cases hlt : k < n
      · obtain ⟨ad, rfl, K⟩ := ha'.out k (by rw [HX.out]; exact hlt)
        obtain ⟨ad', rfl, K'⟩ := hb2.out k (by rw [HY.out]; exact hlt)
        by_cases he : g l k = g m k
        · have HA : Hid (∀ j, j < k + 1 → g l j = g m j) := Lib.hid fun j hj => by
            by_cases e : j = k
            · rw [e]; exact he
            · exact hal.out j (by omega)
          rw [← he] at K'
          clear he
          generalize g l k = ev at K K'
          obtain ⟨rune, cb, wide, ⟨fg, bg, fl⟩⟩ := ev
          have h0 := K.head
          have h1 := K.next 0 rfl
          have h2 := K.next 1 rfl
          have h3 := K.next 2 rfl
          have h4 := K.next 3 rfl
          have h5 := K.next 4 rfl
          have i0 := K'.head
          have i1 := K'.next 0 rfl
          have i2 := K'.next 1 rfl
          have i3 := K'.next 2 rfl
          have i4 := K'.next 3 rfl
          have i5 := K'.next 4 rfl
          clear K K'
          go_wp2_with fail
          go_quiet (fail)
          go_wp2_with fail
          go_roundw
          case rel => exact ⟨k + 1, _, by omega, by go_num, HA, rfl⟩
          case measure => simp [intOf]; omega
        · have HF : Hid (b = false) := Lib.hid (by
            cases b
            · rfl
            · exact absurd (by rw [HBI.out.1 rfl]) he)
          have hne : ¬ ((g l k).rune = (g m k).rune ∧ (⟨(g l k).comb.toArray⟩ : ByteArray) = ⟨(g m k).comb.toArray⟩ ∧ (g l k).wide = (g m k).wide ∧ (g l k).a.fg = (g m k).a.fg ∧ (g l k).a.bg = (g m k).a.bg ∧ (g l k).a.flags = (g m k).a.flags) := by
            rintro ⟨e1, e2, e3, e4, e5, e6⟩
            apply he
            rcases q1 : g l k with ⟨r1, c1, w1, ⟨f1, b1, s1⟩⟩
            rcases q2 : g m k with ⟨r2, c2, w2, ⟨f2, b2, s2⟩⟩
            rw [q1, q2] at e1 e2 e3 e4 e5 e6
            simp only at e1 e2 e3 e4 e5 e6
            have e2 : c1 = c2 := by
              have := congrArg (fun z : ByteArray => z.data.toList) e2
              simpa using this
            rw [e1, e2, e3, e4, e5, e6]
          clear he
          generalize g l k = ev at K hne
          generalize g m k = ev' at K' hne
          obtain ⟨rune, cb, wide, ⟨fg, bg, fl⟩⟩ := ev
          obtain ⟨rune', cb', wide', ⟨fg', bg', fl'⟩⟩ := ev'
          simp only at hne
          have hq := fun W : World => neq_cell_not hne W
          clear hne
          have h0 := K.head
          have h1 := K.next 0 rfl
          have h2 := K.next 1 rfl
          have h3 := K.next 2 rfl
          have h4 := K.next 3 rfl
          have h5 := K.next 4 rfl
          have i0 := K'.head
          have i1 := K'.next 0 rfl
          have i2 := K'.next 1 rfl
          have i3 := K'.next 2 rfl
          have i4 := K'.next 3 rfl
          have i5 := K'.next 4 rfl
          clear K K'
          go_wp2_with fail
          go_quiet (fail)
          go_wp2_with fail
          go_ret
          exact ⟨ret_bool2 HF.out.symm, _, World.drewN_drewN _ _ _⟩
      · have HF : Hid (b = true) := Lib.hid (HBI.out.2 (ext_g (by rw [HX.out, HY.out]) fun j hj => hal.out j (by have := HX.out; omega)))
        go_wp2_with fail
        go_ret
        exact ⟨ret_bool2 HF.out.symm, _, rfl⟩
  · have hb1 : ((l.length : Int) != (m.length : Int)) = true := by rw [bne_iff_ne]; omega
    have HF : Hid (b = false) := Lib.hid (by
      cases b
      · rfl
      · exact absurd (by rw [HBI.out.1 rfl]) hnm)
    clear hnm
    go_enter Tryd.func37, Tryd.ntmps37
    go_wp2_with fail
    go_ret
    exact ⟨ret_bool2 HF.out.symm, 0, rfl⟩
end Pat
end
section
open Go.RowKit
namespace Pat
open Go.Proofs.YtjcfbeiljdohcaaDoor.Row Go.Proofs.YtjcfbeiljdohcaaDoor.Scr Agb
def overF (Lu L : List Li) (i : Nat) : Li := (L.getD i default).or (Lu.getD i default)
set_option maxHeartbeats 1600000 in
theorem over_any (Lu L : List Li) (x y : Value) (bu base : Nat) (w : World) (hx : OwnP w bu x Lu) (hy : OwnP w base y L) (hne : ∀ g, y.ownBlock = some g → x.ownBlock ≠ some g) (hlt : ∀ i, i < L.length → L.getD i default = none → i < Lu.length) (h0 : 0 < L.length) (hn : L.length ≤ 40) (hbs : base ≤ w.heap.size) :
    Calls Tryd.prog 24 #[x, y] w fun e w' => e = .returned y ∧ OwnP w' base y (setK (overF Lu L) L L.length) ∧ Below base w w' := by
  obtain ⟨g, cap, rfl, hbg, hcap⟩ := hy.shape h0
  have HNE : Hid (x.ownBlock ≠ some g) := Lib.hid (hne g rfl)
  have HX := Lib.hid hx
  have HY : Hid (OwnP w base (.slice (some ⟨g, 0, none⟩) L.length cap) (setK (overF Lu L) L 0)) := Lib.hid (by rw [setK_zero]; exact hy)
  have HLT := Lib.hid hlt
  obtain ⟨n, hnn⟩ : ∃ n, L.length = n := ⟨_, rfl⟩
  have HN := Lib.hid hnn
  have HSL : Hid (∀ k, (setK (overF Lu L) L k).length = n) := Lib.hid fun k => by rw [setK_length, hnn]
  obtain ⟨Ax, cx, rfl⟩ : ∃ A c, x = .slice A Lu.length c := (by obtain ⟨A, c, e, _⟩ := hx.sv.2; exact ⟨A, c, e⟩)
  rw [hnn] at HY hn hcap h0 ⊢
  clear hx hy hne hlt hnn
  have HBB : Hid (Below base w w) := Lib.hid ((Below.refl _ _).mono hbs)
  go_enter Tryd.func24, Tryd.ntmps24
  go_wp2_with fail
  go_loopw [11] (fun i wr => ∃ k : Nat, k ≤ n ∧ i = .int .i64 k ∧ Hid (OwnP wr bu (.slice Ax Lu.length cx) Lu) ∧ Hid (OwnP wr base (.slice (some ⟨g, 0, none⟩) n cap) (setK (overF Lu L) L k)) ∧ Hid (Below base w wr)) (fun i _ => n - (intOf i).toNat)
  case atStart => exact ⟨0, by omega, rfl, HX, HY, HBB⟩
  case round =>
    obtain ⟨k, hk, rfl, HXR, HYR, HB⟩ := hrel
    by_cases hlt : k < n
    · have hkl : k < L.length := by rw [HN.out]; exact hlt
      have hbl : Below wr.heap.size wr (wr.alloc (.cells #[] 71 (0, 0))) := (Below.refl _ _).alloc (Nat.le_refl _) _
      have HXA := Lib.hid (HXR.out.kept hbl)
      have HYA := Lib.hid (HYR.out.kept hbl)
      have HBA := Lib.hid (HB.out.trans (hbl.mono (Nat.le_trans hbs HB.out.size)))
      have hE := HYR.out.cell (k := k) (by rw [HSL.out]; exact hlt)
      have HFR := Lib.hid (HYA.out.free k)
      rw [setK_get _ _ _ hkl, if_neg (by omega)] at hE
      have HLK := Lib.hid (HLT.out k hkl)
      have HF : Hid (overF Lu L k = (L.getD k default).or (Lu.getD k default)) := Lib.hid rfl
      have HSM := Lib.hid (setK_same (overF Lu L) L k)
      have HSS := Lib.hid (setK_succ (overF Lu L) L k)
      generalize L.getD k default = ln at hE HLK HF HSM
      clear hkl HXR HYR HB hbl
      cases ln with
      | some z =>
        have HS := Lib.hid (HSM.out HF.out)
        change wr.cell? ⟨g, k, none⟩ = some (.iface 76 z.1) at hE
        clear HSM HF HLK HSS HFR
        generalize z.1 = zv at hE
        go_wp2_with fail
        go_roundw
        case rel => exact ⟨k + 1, by omega, by go_num, HXA, by rw [HS.out]; exact HYA, HBA⟩
        case measure => simp [intOf]; omega
      | none =>
        change wr.cell? ⟨g, k, none⟩ = some (.iface 71 (.agg #[])) at hE
        have hku := HLK.out rfl
        have HFK : Hid (overF Lu L k = Lu.getD k default) := Lib.hid (by rw [HF.out]; rfl)
        rw [HFK.out] at HSS
        clear HSM HF HLK HFK
        go_upto_region 6 with (fail)
        generalize wr.alloc (.cells #[] 71 (0, 0)) = wb at HXA HYA HBA HFR ⊢
        obtain ⟨au, rfl, hU⟩ := HXA.out.sv.get hku
        have hone := li_cell (Lu.getD k default)
        have hfr := HFR.out
        have HXS := Lib.hid (HXA.out.other HNE.out k (li (Lu.getD k default)))
        have HYS := Lib.hid (HYA.out.put k (Lu.getD k default))
        rw [← HSS.out] at HYS
        have HBS := Lib.hid (HBA.out.setCell (p := ⟨g, k, none⟩) hbg (li (Lu.getD k default)))
        have hcell := HYA.out.cell (k := k) (by rw [HSL.out]; exact hlt)
        obtain ⟨zT, zv, hz⟩ : ∃ T v, li (Lu.getD k default) = .iface T v := by
          cases Lu.getD k default with
          | none => exact ⟨_, _, rfl⟩
          | some z => exact ⟨_, _, rfl⟩
        rw [hz] at hU HXS HYS HBS
        clear hone hz
        generalize li ((setK (overF Lu L) L k).getD k default) = ov at hcell
        clear HSS hE
        go_wp2_with fail
        go_roundw
        case rel => exact ⟨k + 1, by omega, by go_num, HXS, HYS, HBS⟩
        case measure => simp [intOf]; omega
    · obtain rfl : k = n := by omega
      go_wp2_with fail
      go_ret
      exact ⟨rfl, HYR.out, HB.out⟩
noncomputable def chF (Lf L : List Li) (i : Nat) : Li := @ite _ (bare (Lf.getD i default) = bare (L.getD i default)) (Classical.propDecidable _) none (L.getD i default)
set_option maxHeartbeats 1600000 in
theorem changed_any (Lf L : List Li) (x y : Value) (bu base c : Nat) (w : World) (hx : OwnP w bu x Lf) (hy : OwnP w base y L) (hne : ∀ g, y.ownBlock = some g → x.ownBlock ≠ some g) (hll : Lf.length = L.length) (hf : ∀ i, i < L.length → ∃ a b, Lf.getD i default = some a ∧ L.getD i default = some b)
    (h0 : 0 < L.length) (hn : L.length ≤ 40) (hc : c ≤ 40) (hbs : base ≤ w.heap.size) (hmem : ∀ W, Below base w W → LisOk W c Lf ∧ LisOk W c L) :
    Calls Tryd.prog 20 #[x, y] w fun e w' => e = .returned y ∧ OwnP w' base y (setK (chF Lf L) L L.length) ∧ Below base w w' := by
  obtain ⟨g, cap, rfl, hbg, hcap⟩ := hy.shape h0
  obtain ⟨gx, capx, rfl, hbx, _⟩ := hx.shape (by omega)
  have HNE : Hid ((Value.slice (some ⟨gx, 0, none⟩) Lf.length capx).ownBlock ≠ some g) := Lib.hid (hne g rfl)
  have HX := Lib.hid hx
  have HY : Hid (OwnP w base (.slice (some ⟨g, 0, none⟩) L.length cap) (setK (chF Lf L) L 0)) := Lib.hid (by rw [setK_zero]; exact hy)
  have HFT := Lib.hid hf
  have HMM := Lib.hid hmem
  obtain ⟨n, hnn⟩ : ∃ n, L.length = n := ⟨_, rfl⟩
  have HN := Lib.hid hnn
  have HNF : Hid (Lf.length = n) := Lib.hid (hll.trans hnn)
  have HSL : Hid (∀ k, (setK (chF Lf L) L k).length = n) := Lib.hid fun k => by rw [setK_length, hnn]
  rw [hll] at HNE HX ⊢
  rw [hnn] at HNE HX HY hn hcap h0 ⊢
  clear hx hy hne hnn hll hf hmem
  have HBB : Hid (Below base w w) := Lib.hid ((Below.refl _ _).mono hbs)
  go_enter Tryd.func20, Tryd.ntmps20
  go_wp2_with fail
  go_loopw [9] (fun i wr => ∃ k : Nat, k ≤ n ∧ i = .int .i64 k ∧ Hid (OwnP wr bu (.slice (some ⟨gx, 0, none⟩) n capx) Lf) ∧ Hid (OwnP wr base (.slice (some ⟨g, 0, none⟩) n cap) (setK (chF Lf L) L k)) ∧ Hid (Below base w wr)) (fun i _ => n - (intOf i).toNat)
  case atStart => exact ⟨0, by omega, rfl, HX, HY, HBB⟩
  case round =>
    obtain ⟨k, hk, rfl, HXR, HYR, HB⟩ := hrel
    by_cases hlt : k < n
    · have hkl : k < L.length := by rw [HN.out]; exact hlt
      obtain ⟨⟨av, ar⟩, ⟨bv, br⟩, ea, eb⟩ := HFT.out k hkl
      have hE := HYR.out.cell (k := k) (by rw [HSL.out]; exact hlt)
      have hU := HXR.out.cell (k := k) (by rw [HNF.out]; exact hlt)
      have hfr := HYR.out.free k
      rw [setK_get _ _ _ hkl, if_neg (by omega), eb] at hE
      rw [ea] at hU
      have HLA := Lib.hid ((HMM.out wr HB.out).1.get (j := k) (by rw [HNF.out]; exact hlt) _ ea)
      have HLB := Lib.hid ((HMM.out wr HB.out).2.get hkl _ eb)
      have HSM := Lib.hid (setK_same (chF Lf L) L k)
      have HSS := Lib.hid (setK_succ (chF Lf L) L k)
      have HCA : Hid (Cs wr av ar) := Lib.hid HLA.out.1.cs
      have HCB : Hid (Cs wr bv br) := Lib.hid HLB.out.1.cs
      have HAL : Hid (ar.length ≤ 40) := Lib.hid (by have := HLA.out.2; simp only at this; omega)
      change wr.cell? ⟨gx, k, none⟩ = some (.iface 76 av) at hU
      change wr.cell? ⟨g, k, none⟩ = some (.iface 76 bv) at hE
      by_cases he : ar = br
      · have HFK : Hid (chF Lf L k = none) := Lib.hid (by unfold chF; rw [ea, eb]; exact if_pos (by show some ar = some br; rw [he]))
        have HEQ := Lib.hid (fun q => eqTold_is ar br true ⟨fun _ => he, fun _ => rfl⟩ av bv (wr.drewN q) HCA.out HCB.out (by have := HAL.out; omega))
        rw [HFK.out] at HSS
        clear ea eb HSM HFK HLA HLB HCA HCB hkl he
        go_wp2_with fail
        go_quiet ((go_at_call 37; exact (HEQ.out _).mono fun e w2 k => by obtain ⟨h1, q, h2⟩ := k; exact ⟨h1, _, h2.trans (World.drewN_drewN _ _ _)⟩))
        go_wp2_with fail
        go_roundw
        case rel => exact ⟨k + 1, by omega, by go_num, Lib.hid (HXR.out.other HNE.out k _), by rw [HSS.out]; exact Lib.hid (HYR.out.put k none), Lib.hid ((below_drewN HB.out _).setCell (p := ⟨g, k, none⟩) hbg _)⟩
        case measure => simp [intOf]; omega
      · have HFK : Hid (chF Lf L k = L.getD k default) := Lib.hid (by unfold chF; rw [ea, eb]; exact if_neg (fun q => he (by injection q)))
        have HEQ := Lib.hid (fun q => eqTold_is ar br false ⟨fun h => (by cases h), fun h => absurd h he⟩ av bv (wr.drewN q) HCA.out HCB.out (by have := HAL.out; omega))
        have HS := Lib.hid (HSM.out HFK.out)
        clear ea eb HSM HSS HFK HLA HLB HCA HCB hkl he
        go_wp2_with fail
        go_quiet ((go_at_call 37; exact (HEQ.out _).mono fun e w2 k => by obtain ⟨h1, q, h2⟩ := k; exact ⟨h1, _, h2.trans (World.drewN_drewN _ _ _)⟩))
        go_wp2_with fail
        go_roundw
        case rel => exact ⟨k + 1, by omega, by go_num, Lib.hid HXR.out, by rw [HS.out]; exact Lib.hid HYR.out, Lib.hid (below_drewN HB.out _)⟩
        case measure => simp [intOf]; omega
    · obtain rfl : k = n := by omega
      go_wp2_with fail
      go_ret
      exact ⟨rfl, HYR.out, HB.out⟩
end Pat
end
section
open Go.RowKit
namespace Row
open Utf Wid
def putting (l x : List Cl) (p k : Nat) : List Cl := l.take p ++ x.take k ++ l.drop (p + k)
theorem putting_zero (l x : List Cl) (p : Nat) : putting l x p 0 = l := by simp [putting]
theorem putting_length {l x : List Cl} {p k : Nat} (h : p + k ≤ l.length) (hk : k ≤ x.length) : (putting l x p k).length = l.length := by
  simp [putting]; omega
theorem putting_succ {l x : List Cl} {p k : Nat} (h : p + k < l.length) (hk : k < x.length) : (putting l x p k).set (p + k) (g x k) = putting l x p (k + 1) := by
  have hl := putting_length (Nat.le_of_lt h) (Nat.le_of_lt hk)
  have hl2 := putting_length (l := l) (x := x) (p := p) (k := k + 1) (by omega) (by omega)
  refine ext_g (by rw [List.length_set, hl, hl2]) fun i hi => ?_
  rw [List.length_set, hl] at hi
  have ht : (l.take p).length = p := by rw [List.length_take]; omega
  have hx : (x.take k).length = k := by rw [List.length_take]; omega
  have hx1 : (x.take (k + 1)).length = k + 1 := by rw [List.length_take]; omega
  have key : ∀ m, m ≤ x.length → p + m ≤ l.length → g (putting l x p m) i = if i < p then g l i else if i < p + m then g x (i - p) else g l i := by
    intro m hm1 hm2
    have hxm : (x.take m).length = m := by rw [List.length_take]; omega
    unfold putting
    by_cases h1 : i < p
    · rw [if_pos h1, List.append_assoc, g_append_left (by omega), g_take h1]
    · rw [if_neg h1]
      by_cases h2 : i < p + m
      · rw [if_pos h2, g_append_left (by rw [List.length_append]; omega), g_append_right (by omega), ht, g_take (by omega)]
      · rw [if_neg h2, g_append_right (by rw [List.length_append]; omega), List.length_append, ht, hxm, g_drop]
        congr 1; omega
  by_cases e : i = p + k
  · subst e
    rw [g_set_same (by omega), key (k + 1) (by omega) (by omega), if_neg (by omega), if_pos (by omega)]
    congr 1; omega
  · rw [g_set_ne (fun h => e h.symm), key k (by omega) (by omega), key (k + 1) (by omega) (by omega)]
    by_cases h1 : i < p
    · rw [if_pos h1, if_pos h1]
    · rw [if_neg h1, if_neg h1]
      by_cases h2 : i < p + k
      · rw [if_pos h2, if_pos (by omega)]
      · rw [if_neg h2, if_neg (by omega)]
theorem putting_row {c : Nat} {rs : List (List Cl)} (h : Even c rs) {i : Nat} (hi : i < rs.length) {x : List Cl} (hx : x.length = c) : putting rs.flatten x (i * c) c = (rs.set i x).flatten := by
  unfold putting
  rw [List.take_of_length_le (show x.length ≤ c by omega), take_flat h, ← Nat.succ_mul, drop_flat h, List.set_eq_take_append_cons_drop, if_pos hi]
  simp
end Row
end
section
open Go.RowKit
namespace Pat
open Go.Proofs.YtjcfbeiljdohcaaDoor.Row Go.Proofs.YtjcfbeiljdohcaaDoor.Scr Agb
noncomputable def diffTo (a b : List (List Cl)) (k : Nat) : List Nat := (List.range k).filter fun i => @decide (rowOf a i ≠ rowOf b i) (Classical.propDecidable _)
theorem diffTo_all (a b : List (List Cl)) : diffTo a b b.length = diff a b := rfl
theorem diffTo_same {a b : List (List Cl)} {k : Nat} (h : rowOf a k = rowOf b k) : diffTo a b (k + 1) = diffTo a b k := by
  unfold diffTo
  rw [List.range_succ, List.filter_append, List.filter_cons, @decide_eq_false _ (Classical.propDecidable _) (fun q => q h)]
  simp
theorem diffTo_other {a b : List (List Cl)} {k : Nat} (h : rowOf a k ≠ rowOf b k) : diffTo a b (k + 1) = diffTo a b k ++ [k] := by
  unfold diffTo
  rw [List.range_succ, List.filter_append, List.filter_cons, @decide_eq_true _ (Classical.propDecidable _) h]
  simp
noncomputable def betTo (b : Vw) (R C : Nat) (rs ss : List (List Cl)) (k : Nat) : Pt := ⟨R, C, false, ofN (diffTo rs ss k), ((diffTo rs ss k).map (rowOf ss)).flatten, b.row, b.col, b.modes, b.title⟩
theorem ofN_snoc (l : List Nat) (k : Nat) : ofN (l ++ [k]) = ofN l ++ [(k : Int)] := by unfold ofN; simp
theorem diffTo_len (a b : List (List Cl)) (k : Nat) : (diffTo a b k).length ≤ k := by
  unfold diffTo
  have := List.length_filter_le (fun i => @decide (rowOf a i ≠ rowOf b i) (Classical.propDecidable _)) (List.range k)
  rw [List.length_range] at this; exact this
theorem diffTo_flat {R C : Nat} {rs ss : List (List Cl)} (hs : Rws R C ss) (k : Nat) (hk : k ≤ R) : (((diffTo rs ss k).map (rowOf ss)).flatten).length ≤ 1600 := by
  have he : Even C ((diffTo rs ss k).map (rowOf ss)) := by
    intro r hr
    obtain ⟨i, hi, rfl⟩ := List.mem_map.1 hr
    unfold diffTo at hi
    have := (List.mem_filter.1 hi).1
    rw [List.mem_range] at this
    exact hs.rlen (by omega)
  rw [even_length he, List.length_map]
  have h1 := diffTo_len rs ss k
  have := hs.r40; have := hs.c40
  exact Nat.le_trans (Nat.mul_le_mul (show _ ≤ 40 by omega) (show C ≤ 40 by omega)) (by decide)
end Pat
end
section
open Go.RowKit
namespace Pat
open Go.Proofs.YtjcfbeiljdohcaaDoor.Row Go.Proofs.YtjcfbeiljdohcaaDoor.Scr Agb
theorem putR_snoc : ∀ {l : List Nat} {xs rs : List (List Cl)} (i : Nat) (r : List Cl), l.length = xs.length → putR rs (l ++ [i]) (xs ++ [r]) = (putR rs l xs).set i r
  | [], [], rs, i, r, _ => by simp [putR]
  | a :: l, x :: xs, rs, i, r, h => by
    show putR (rs.set a x) (l ++ [i]) (xs ++ [r]) = (putR (rs.set a x) l xs).set i r
    exact putR_snoc i r (by simpa using h)
  | [], _ :: _, _, _, _, h => by cases h
  | _ :: _, [], _, _, _, h => by cases h
theorem putR_even {C : Nat} {l : List Nat} {xs rs : List (List Cl)} (h1 : Even C rs) (h2 : Even C xs) : Even C (putR rs l xs) := fun r hr => by
  rcases putR_mem hr with h | h
  · exact h1 r h
  · exact h2 r h
structure Bv (w0 : World) (bx : List (Nat × Obj)) (b3 : Nat) (v : Vw) (x : Value) (w : World) : Prop where
  bel : Below w0.heap.size w0 w
  bs : ∀ q ∈ bx, w.heap[q.1]? = some q.2 ∧ q.1 < b3
  h3 : w.heap[b3]? = some (vbox v x)
  oc : OwnCs w (b3 + 1) x v.g.cells
  lo : w0.heap.size ≤ b3
theorem Bv.up {w0 w : World} {bx : List (Nat × Obj)} {b3 : Nat} {v : Vw} {x : Value} (h : Bv w0 bx b3 v x w) : b3 + 1 ≤ w.heap.size := Blk.lt h.h3
theorem Bv.kept {w0 w w' : World} {bx : List (Nat × Obj)} {b3 : Nat} {v : Vw} {x : Value} (h : Bv w0 bx b3 v x w) (hb : Below w.heap.size w w') : Bv w0 bx b3 v x w' :=
  ⟨h.bel.trans (hb.mono h.bel.size), fun q hq => ⟨Blk.kept (h.bs q hq).1 hb, (h.bs q hq).2⟩, Blk.kept h.h3 hb, row_kept h.oc hb, h.lo⟩
theorem Bv.drew {w0 w : World} {bx : List (Nat × Obj)} {b3 : Nat} {v : Vw} {x : Value} (h : Bv w0 bx b3 v x w) : Bv w0 bx b3 v x w.drew := ⟨h.bel.drew, h.bs, h.h3, h.oc, h.lo⟩
theorem Bv.putG {w0 w w' : World} {bx : List (Nat × Obj)} {b3 : Nat} {v : Vw} {x x' : Value} (h : Bv w0 bx b3 v x w) (hb : Below w.heap.size w w') {l : List Cl} (ho : OwnCs w' (b3 + 1) x' l) (R C : Int) :
    Bv w0 bx b3 { v with g := ⟨R, C, l⟩ } x' (gput w' b3 R C x') := by
  have k := h.kept hb
  exact ⟨gput_below k.bel k.lo _ _ _, fun q hq => ⟨gput_other (k.bs q hq).1 (by have := (k.bs q hq).2; omega) _ _ _, (k.bs q hq).2⟩, Blk.set (Blk.set (Blk.set k.h3 0 _) 1 _) 2 _, gput_own ho (Nat.lt_succ_self _) _ _ _, k.lo⟩
end Pat
end
section
open Go.RowKit
namespace Pat
open Go.Proofs.YtjcfbeiljdohcaaDoor.Row Go.Proofs.YtjcfbeiljdohcaaDoor.Scr Agb
theorem rise_all (R : Int) : ∀ (l : List Int) (lo : Int), riseB R lo l = true ↔ ∀ j, j < l.length → lo ≤ l.getD j 0 ∧ l.getD j 0 < R ∧ (0 < j → l.getD (j - 1) 0 < l.getD j 0)
  | [], lo => ⟨fun _ j h => absurd h (by simp), fun _ => rfl⟩
  | i :: l, lo => by
    have ih := rise_all R l (i + 1)
    unfold riseB
    rw [Bool.and_eq_true, Bool.and_eq_true, decide_eq_true_eq, decide_eq_true_eq, ih]
    constructor
    · rintro ⟨h1, h2, h3⟩ j hj
      match j with
      | 0 => exact ⟨h1, h2, fun h => absurd h (by omega)⟩
      | 1 =>
        have := h3 0 (by simpa using hj)
        exact ⟨by show lo ≤ l.getD 0 0; omega, this.2.1, fun _ => by show i < l.getD 0 0; omega⟩
      | j + 2 =>
        have h4 := h3 (j + 1) (by rw [List.length_cons] at hj; omega)
        exact ⟨by show lo ≤ l.getD (j + 1) 0; omega, h4.2.1, fun _ => h4.2.2 (by omega)⟩
    · intro h
      have h0 := h 0 (by simp)
      refine ⟨h0.1, h0.2.1, fun j => ?_⟩
      induction j with
      | zero =>
        intro hj
        have h1 := h 1 (by simpa using hj)
        have h2 : i < l.getD 0 0 := h1.2.2 (by omega)
        exact ⟨by omega, h1.2.1, fun q => absurd q (by omega)⟩
      | succ j hi =>
        intro hj
        have h1 := h (j + 2) (by rw [List.length_cons]; omega)
        have h2 : l.getD j 0 < l.getD (j + 1) 0 := h1.2.2 (by omega)
        have h3 := hi (by omega)
        exact ⟨by omega, h1.2.1, fun _ => h2⟩
noncomputable def restB (R C : Nat) (f : Bool) (nn : List Int) (l : List Cl) (h : Nat) : Bool :=
  (!f || decide (nn.length = 0)) && (decide (h ≤ R) && (decide (l.length = h * C) && (riseB R 0 nn && (List.range h).all fun i => rowB (Row.rowAt l C i))))
theorem rest_all {R C : Nat} {f : Bool} {nn : List Int} {l : List Cl} {h : Nat} : restB R C f nn l h = true ↔ (f = true → nn.length = 0) ∧ h ≤ R ∧ l.length = h * C ∧
    (∀ j, j < nn.length → 0 ≤ nn.getD j 0 ∧ nn.getD j 0 < R ∧ (0 < j → nn.getD (j - 1) 0 < nn.getD j 0)) ∧ ∀ j, j < h → RowOk (Row.rowAt l C j) := by
  unfold restB
  rw [Bool.and_eq_true, Bool.and_eq_true, Bool.and_eq_true, Bool.and_eq_true, Bool.or_eq_true, decide_eq_true_eq, decide_eq_true_eq, decide_eq_true_eq, rise_all, List.all_eq_true]
  constructor
  · rintro ⟨h1, h2, h3, h4, h5⟩
    refine ⟨fun q => ?_, h2, h3, h4, fun j hj => rowB_iff.1 (h5 j (List.mem_range.2 hj))⟩
    rcases h1 with h1 | h1
    · rw [q] at h1; cases h1
    · exact h1
  · rintro ⟨h1, h2, h3, h4, h5⟩
    refine ⟨?_, h2, h3, h4, fun j hj => rowB_iff.2 (h5 j (List.mem_range.1 hj))⟩
    cases f
    · exact .inl rfl
    · exact .inr (h1 rfl)
end Pat
end
section
open Go.RowKit
namespace Pat
open Go.Proofs.YtjcfbeiljdohcaaDoor.Row Go.Proofs.YtjcfbeiljdohcaaDoor.Scr Agb
noncomputable def restP (p : Pt) : Bool := if 0 ≤ p.rows ∧ 0 ≤ p.cols then restB p.rows.toNat p.cols.toNat p.all p.at_ p.cells (if p.all = true then p.rows.toNat else p.at_.length) else false
theorem patchB_eq (p : Pt) : patchB p = ((Row.rng p.rows 1 40 && Row.rng p.cols 1 40) && (Row.rng p.row 0 (p.rows - 1) && (Row.rng p.col 0 (p.cols - 1) && (Row.rng p.modes 0 1023 && (titleB p.title && restP p))))) := by
  cases hs : (Row.rng p.rows 1 40 && Row.rng p.cols 1 40)
  · unfold patchB
    rw [hs]; rfl
  · have h := hs
    rw [Bool.and_eq_true] at h
    have h1 := rng_yes.1 h.1
    have h2 := rng_yes.1 h.2
    obtain ⟨rows, cols, all, at_, cells, row, col, modes, title⟩ := p
    simp only at h1 h2 hs
    obtain ⟨R, rfl⟩ := Int.eq_ofNat_of_zero_le (show 0 ≤ rows by omega)
    obtain ⟨C, rfl⟩ := Int.eq_ofNat_of_zero_le (show 0 ≤ cols by omega)
    have hh : hasR ⟨R, C, all, at_, cells, row, col, modes, title⟩ = ((if all = true then R else at_.length : Nat) : Int) := by
      unfold hasR; cases all <;> rfl
    unfold patchB restP restB
    simp only
    rw [hh, hs, if_pos (show 0 ≤ (R : Int) ∧ 0 ≤ (C : Int) from ⟨by omega, by omega⟩)]
    simp only [Int.toNat_natCast]
    generalize (if all = true then R else at_.length) = n
    rw [show decide (((n : Nat) : Int) ≤ ((R : Nat) : Int)) = decide (n ≤ R) from decide_eq_decide.2 (by omega),
      show decide (((cells.length : Nat) : Int) = ((n : Nat) : Int) * ((C : Nat) : Int)) = decide (cells.length = n * C) from decide_eq_decide.2 (by rw [← Int.natCast_mul]; omega)]
end Pat
end
end Go.Proofs.YtjcfbeiljdohcaaDoor
