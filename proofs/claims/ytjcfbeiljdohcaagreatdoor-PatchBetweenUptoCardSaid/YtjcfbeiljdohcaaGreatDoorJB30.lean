/- Joined texts: PdTold, PdEq, PdOver, GrdRef2. -/
import Derived.Test.YtjcfbeiljdohcaaGreatDoorJB29
import Derived.RegionTactic
import Derived.Deep.RegionLaw
namespace Go.Proofs.YtjcfbeiljdohcaaGreatDoor
set_option maxRecDepth 100000
section
open Go.RowKit
namespace Pat
open Go.Proofs.YtjcfbeiljdohcaaGreatDoor.Row Go.Proofs.YtjcfbeiljdohcaaGreatDoor.Scr Agb
theorem own_clear {w' : World} {base g : Nat} {v : Value} {l : List Int} (h : OwnN w' base v l) (hg : g < base ∨ w'.heap.size ≤ g) : Clear g v := by
  intro ad n c e
  rcases h.2 with ⟨h0, _⟩ | ⟨b, cap, cur, hv, hb, hk, _⟩
  · rw [h0] at e; cases e
  · rw [hv] at e
    injection e with e _ _
    injection e with e
    subst e
    have := Blk.lt hk
    show b ≠ g
    omega
theorem sl_clear {w : World} {g : Nat} {v : Value} {l : List Int} (h : Sl w v l) (hl : l ≠ []) (hg : w.heap.size ≤ g) : Clear g v := by
  intro ad n c e
  obtain ⟨A, c', e2, _⟩ := h.room
  rw [e2] at h
  obtain ⟨ad', e3, hc⟩ := h.get 0 (by cases l with | nil => exact absurd rfl hl | cons _ _ => simp)
  rw [e2, e3] at e
  injection e with e _ _
  injection e with e
  have h0 : ad'.add 0 = ad' := by unfold Addr.add; simp
  rw [h0] at hc
  have := World.block_lt_of_cell? _ _ hc
  rw [← e]
  omega
theorem lines_any {pt : Pt} {R C : Nat} {l : List Nat} {rs : List (List Cl)} (h : PtR pt R C l rs) (u x : Value) (wb w : World) (hb : Below wb.heap.size wb w) (hu : Sl wb u pt.at_) (hx : Rm wb x pt.cells) :
    Calls Tryz.prog 34 #[pagg pt u x] w fun e w' => ∃ v L, e = .returned v ∧ OwnP w' w.heap.size v L ∧ L.length = R ∧ L.map bare = mkL R (tellsB pt) (tells pt) ∧ LisOk wb C L ∧ Below w.heap.size w w' := by
  obtain ⟨Ax, cx, rfl, _⟩ := id hx.2
  have hle : rs.length ≤ R := by
    rw [h.len]
    split
    · exact Nat.le_refl _
    · have := up_length (lo := 0) h.up (fun i hi => ⟨Nat.zero_le _, h.lt i hi⟩); omega
  have hl : pt.cells.length = rs.length * C := by rw [h.cells, even_length h.even]
  have hfr : ∀ k, k < (atP pt).length → tells pt ((atP pt).getD k 0) = Row.rowAt pt.cells C k := fun k hk => by
    have hk2 : k < rs.length := by rw [← h.atLen]; exact hk
    rw [h.cells, rowAt_flat h.even hk2]
    have e := h.atRows
    have e2 : rowOf ((atP pt).map (tells pt)) k = tells pt ((atP pt).getD k 0) := by
      unfold rowOf; simp [List.getD, hk]
    rw [← e2, e]
  have hrw : ∀ W, Below w.heap.size w W → Calls Tryz.prog 58 #[pagg pt u (.slice Ax pt.cells.length cx)] W fun e w' => ∃ v, e = .returned v ∧ Sl w' v (ofN (atP pt)) ∧ (atP pt ≠ [] → ∀ g, w.heap.size ≤ g → (g < W.heap.size ∨ w'.heap.size ≤ g) → Clear g v) ∧ Below W.heap.size W w' := fun W hW => by
    unfold pagg
    rw [show pt.rows = (R : Int) from h.rows]
    cases ha : pt.all with
    | true =>
      refine (rows_all R pt.cols pt.row pt.col pt.modes ⟨pt.title.toArray⟩ u _ W h.r40).mono ?_
      rintro e w' ⟨v, rfl, ho, hb⟩
      have ea : atP pt = List.range R := by rw [h.atp, ha]; rfl
      refine ⟨v, rfl, by rw [ea]; exact ho.sl, fun _ g _ hg => own_clear ho hg, hb⟩
    | false =>
      refine (rows_some R pt.cols pt.row pt.col pt.modes ⟨pt.title.toArray⟩ u _ W).mono ?_
      rintro e w' ⟨rfl, hb2⟩
      have ea : atP pt = l := by rw [h.atp, ha]; rfl
      have hs : Sl wb u (ofN (atP pt)) := by rw [ea, ← h.at_]; exact hu
      refine ⟨u, rfl, hs.kept (hb.trans ((hW.trans (hb2.mono hW.size)).mono hb.size)), fun hne g hg _ => sl_clear hs (fun e => hne (by cases hq : atP pt with | nil => rfl | cons _ _ => rw [hq] at e; cases e)) (Nat.le_trans hb.size hg), hb2⟩
  have hc := lines_t R C pt.all pt.row pt.col pt.modes ⟨pt.title.toArray⟩ u Ax cx rs.length pt.cells (atP pt) (ofN (atP pt)) rfl wb w hb hx h.r1 h.r40 hle h.c1 h.c40 hl h.atLen h.atLt (by rw [← h.rows, ← h.cols]; exact hrw)
  rw [← h.rows, ← h.cols] at hc
  refine hc.mono ?_
  rintro e w' ⟨v, cv, rfl, ho, hcv, hb2⟩
  refine ⟨v, lineTo cv (Row.rowAt pt.cells C) (atP pt) R rs.length, rfl, ho, lineTo_length _ _ _ _ _, ?_, ?_, hb2⟩
  · have e := lineTo_bare (tells pt) cv (Row.rowAt pt.cells C) (atP pt) R hfr rs.length (by rw [h.atLen]; exact Nat.le_refl _)
    rw [e, ← h.atLen, List.take_length, h.putAll]
  · refine lineTo_ok (n := rs.length) (atP pt) R (fun k hk => ⟨hcv k hk, ?_⟩) rs.length (Nat.le_refl _)
    rw [h.cells, rowAt_flat h.even hk]
    exact h.even _ (rowOf_mem hk)
end Pat
end
section
open Go.RowKit
namespace Pat
open Go.Proofs.YtjcfbeiljdohcaaGreatDoor.Row Go.Proofs.YtjcfbeiljdohcaaGreatDoor.Scr Agb
set_option maxHeartbeats 1600000 in
theorem eqTold_is (l m : List Cl) (b : Bool) (hb : b = true ↔ l = m) (x y : Value) (w : World) (hx : Cs w x l) (hy : Cs w y m) (hn : l.length ≤ 100000000) :
    Calls Tryz.prog 60 #[x, y] w fun e w' => e = .returned (.bool b) ∧ ∃ q, w' = w.drewN q := by
  obtain ⟨A, c, rfl, ha⟩ := hx.form
  obtain ⟨A', c', rfl, hb'⟩ := hy.form
  have ha' := Lib.hid ha
  have hb2 := Lib.hid hb'
  have HBI := Lib.hid hb
  clear ha hb' hx hy hb
  by_cases hnm : l.length = m.length
  · obtain ⟨n, hl⟩ : ∃ n, l.length = n := ⟨_, rfl⟩
    have hl2 : m.length = n := by omega
    have HX := Lib.hid hl
    have HY := Lib.hid hl2
    rw [hl] at hn
    clear hnm
    rw [hl, hl2]
    clear hl hl2
    go_enter Tryz.func60, Tryz.ntmps60
    go_wp2_with fail
    go_loopw [13] (fun i wr => ∃ k q : Nat, k ≤ n ∧ i = .int .i64 k ∧ Hid (∀ j, j < k → g l j = g m j) ∧ wr = w.drewN q) (fun i _ => n - (intOf i).toNat)
    case atStart => exact ⟨0, 0, by omega, rfl, Lib.hid fun j h => by omega, rfl⟩
    case round =>
      obtain ⟨k, q, hk, rfl, hal, rfl⟩ := hrel
      by_cases hlt : k < n
      · obtain ⟨ad, rfl, K⟩ := ha'.out k (by rw [HX.out]; exact hlt)
        obtain ⟨ad', rfl, K'⟩ := hb2.out k (by rw [HY.out]; exact hlt)
        by_cases he : g l k = g m k
        · have HA : Hid (∀ j, j < k + 1 → g l j = g m j) := Lib.hid fun j hj => by
            by_cases e : j = k
            · rw [e]; exact he
            · exact hal.out j (by omega)
          rw [← he] at K'
          clear he
          generalize g l k = ev at K K'
          obtain ⟨rune, cb, wide, ⟨fg, bg, fl⟩⟩ := ev
          have h0 := K.head
          have h1 := K.next 0 rfl
          have h2 := K.next 1 rfl
          have h3 := K.next 2 rfl
          have h4 := K.next 3 rfl
          have h5 := K.next 4 rfl
          have i0 := K'.head
          have i1 := K'.next 0 rfl
          have i2 := K'.next 1 rfl
          have i3 := K'.next 2 rfl
          have i4 := K'.next 3 rfl
          have i5 := K'.next 4 rfl
          clear K K'
          go_wp2_with fail
          go_quiet (fail)
          go_wp2_with fail
          go_roundw
          case rel => exact ⟨k + 1, _, by omega, by go_num, HA, rfl⟩
          case measure => simp [intOf]; omega
        · have HF : Hid (b = false) := Lib.hid (by
            cases b
            · rfl
            · exact absurd (by rw [HBI.out.1 rfl]) he)
          have hne : ¬ ((g l k).rune = (g m k).rune ∧ (⟨(g l k).comb.toArray⟩ : ByteArray) = ⟨(g m k).comb.toArray⟩ ∧ (g l k).wide = (g m k).wide ∧ (g l k).a.fg = (g m k).a.fg ∧ (g l k).a.bg = (g m k).a.bg ∧ (g l k).a.flags = (g m k).a.flags) := by
            rintro ⟨e1, e2, e3, e4, e5, e6⟩
            apply he
            rcases q1 : g l k with ⟨r1, c1, w1, ⟨f1, b1, s1⟩⟩
            rcases q2 : g m k with ⟨r2, c2, w2, ⟨f2, b2, s2⟩⟩
            rw [q1, q2] at e1 e2 e3 e4 e5 e6
            simp only at e1 e2 e3 e4 e5 e6
            have e2 : c1 = c2 := by
              have := congrArg (fun z : ByteArray => z.data.toList) e2
              simpa using this
            rw [e1, e2, e3, e4, e5, e6]
          clear he
          generalize g l k = ev at K hne
          generalize g m k = ev' at K' hne
          obtain ⟨rune, cb, wide, ⟨fg, bg, fl⟩⟩ := ev
          obtain ⟨rune', cb', wide', ⟨fg', bg', fl'⟩⟩ := ev'
          simp only at hne
          have hq := fun W : World => neq_cell_not hne W
          clear hne
          have h0 := K.head
          have h1 := K.next 0 rfl
          have h2 := K.next 1 rfl
          have h3 := K.next 2 rfl
          have h4 := K.next 3 rfl
          have h5 := K.next 4 rfl
          have i0 := K'.head
          have i1 := K'.next 0 rfl
          have i2 := K'.next 1 rfl
          have i3 := K'.next 2 rfl
          have i4 := K'.next 3 rfl
          have i5 := K'.next 4 rfl
          clear K K'
          go_wp2_with fail
          go_quiet (fail)
          go_wp2_with fail
          go_ret
          exact ⟨ret_bool2 HF.out.symm, _, World.drewN_drewN _ _ _⟩
      · have HF : Hid (b = true) := Lib.hid (HBI.out.2 (ext_g (by rw [HX.out, HY.out]) fun j hj => hal.out j (by have := HX.out; omega)))
        go_wp2_with fail
        go_ret
        exact ⟨ret_bool2 HF.out.symm, _, rfl⟩
  · have hb1 : ((l.length : Int) != (m.length : Int)) = true := by rw [bne_iff_ne]; omega
    have HF : Hid (b = false) := Lib.hid (by
      cases b
      · rfl
      · exact absurd (by rw [HBI.out.1 rfl]) hnm)
    clear hnm
    go_enter Tryz.func60, Tryz.ntmps60
    go_wp2_with fail
    go_ret
    exact ⟨ret_bool2 HF.out.symm, 0, rfl⟩
end Pat
end
section
open Go.RowKit
namespace Pat
open Go.Proofs.YtjcfbeiljdohcaaGreatDoor.Row Go.Proofs.YtjcfbeiljdohcaaGreatDoor.Scr Agb
def overF (Lu L : List Li) (i : Nat) : Li := (L.getD i default).or (Lu.getD i default)
set_option maxHeartbeats 1600000 in
theorem over_any (Lu L : List Li) (x y : Value) (bu base : Nat) (w : World) (hx : OwnP w bu x Lu) (hy : OwnP w base y L) (hne : ∀ g, y.ownBlock = some g → x.ownBlock ≠ some g) (hlt : ∀ i, i < L.length → L.getD i default = none → i < Lu.length) (h0 : 0 < L.length) (hn : L.length ≤ 40) (hbs : base ≤ w.heap.size) :
    Calls Tryz.prog 53 #[x, y] w fun e w' => e = .returned y ∧ OwnP w' base y (setK (overF Lu L) L L.length) ∧ Below base w w' := by
  obtain ⟨g, cap, rfl, hbg, hcap⟩ := hy.shape h0
  have HNE : Hid (x.ownBlock ≠ some g) := Lib.hid (hne g rfl)
  have HX := Lib.hid hx
  have HY : Hid (OwnP w base (.slice (some ⟨g, 0, none⟩) L.length cap) (setK (overF Lu L) L 0)) := Lib.hid (by rw [setK_zero]; exact hy)
  have HLT := Lib.hid hlt
  obtain ⟨n, hnn⟩ : ∃ n, L.length = n := ⟨_, rfl⟩
  have HN := Lib.hid hnn
  have HSL : Hid (∀ k, (setK (overF Lu L) L k).length = n) := Lib.hid fun k => by rw [setK_length, hnn]
  obtain ⟨Ax, cx, rfl⟩ : ∃ A c, x = .slice A Lu.length c := (by obtain ⟨A, c, e, _⟩ := hx.sv.2; exact ⟨A, c, e⟩)
  rw [hnn] at HY hn hcap h0 ⊢
  clear hx hy hne hlt hnn
  have HBB : Hid (Below base w w) := Lib.hid ((Below.refl _ _).mono hbs)
  go_enter Tryz.func53, Tryz.ntmps53
  go_wp2_with fail
  go_loopw [11] (fun i wr => ∃ k : Nat, k ≤ n ∧ i = .int .i64 k ∧ Hid (OwnP wr bu (.slice Ax Lu.length cx) Lu) ∧ Hid (OwnP wr base (.slice (some ⟨g, 0, none⟩) n cap) (setK (overF Lu L) L k)) ∧ Hid (Below base w wr)) (fun i _ => n - (intOf i).toNat)
  case atStart => exact ⟨0, by omega, rfl, HX, HY, HBB⟩
  case round =>
    obtain ⟨k, hk, rfl, HXR, HYR, HB⟩ := hrel
    by_cases hlt : k < n
    · have hkl : k < L.length := by rw [HN.out]; exact hlt
      have hbl : Below wr.heap.size wr (wr.alloc (.cells #[] 90 (0, 0))) := (Below.refl _ _).alloc (Nat.le_refl _) _
      have HXA := Lib.hid (HXR.out.kept hbl)
      have HYA := Lib.hid (HYR.out.kept hbl)
      have HBA := Lib.hid (HB.out.trans (hbl.mono (Nat.le_trans hbs HB.out.size)))
      have hE := HYR.out.cell (k := k) (by rw [HSL.out]; exact hlt)
      have HFR := Lib.hid (HYA.out.free k)
      rw [setK_get _ _ _ hkl, if_neg (by omega)] at hE
      have HLK := Lib.hid (HLT.out k hkl)
      have HF : Hid (overF Lu L k = (L.getD k default).or (Lu.getD k default)) := Lib.hid rfl
      have HSM := Lib.hid (setK_same (overF Lu L) L k)
      have HSS := Lib.hid (setK_succ (overF Lu L) L k)
      generalize L.getD k default = ln at hE HLK HF HSM
      clear hkl HXR HYR HB hbl
      cases ln with
      | some z =>
        have HS := Lib.hid (HSM.out HF.out)
        change wr.cell? ⟨g, k, none⟩ = some (.iface 86 z.1) at hE
        clear HSM HF HLK HSS HFR
        generalize z.1 = zv at hE
        go_wp2_with fail
        go_roundw
        case rel => exact ⟨k + 1, by omega, by go_num, HXA, by rw [HS.out]; exact HYA, HBA⟩
        case measure => simp [intOf]; omega
      | none =>
        change wr.cell? ⟨g, k, none⟩ = some (.iface 90 (.agg #[])) at hE
        have hku := HLK.out rfl
        have HFK : Hid (overF Lu L k = Lu.getD k default) := Lib.hid (by rw [HF.out]; rfl)
        rw [HFK.out] at HSS
        clear HSM HF HLK HFK
        go_upto_region 6 with (fail)
        generalize wr.alloc (.cells #[] 90 (0, 0)) = wb at HXA HYA HBA HFR ⊢
        obtain ⟨au, rfl, hU⟩ := HXA.out.sv.get hku
        have hone := li_cell (Lu.getD k default)
        have hfr := HFR.out
        have HXS := Lib.hid (HXA.out.other HNE.out k (li (Lu.getD k default)))
        have HYS := Lib.hid (HYA.out.put k (Lu.getD k default))
        rw [← HSS.out] at HYS
        have HBS := Lib.hid (HBA.out.setCell (p := ⟨g, k, none⟩) hbg (li (Lu.getD k default)))
        have hcell := HYA.out.cell (k := k) (by rw [HSL.out]; exact hlt)
        obtain ⟨zT, zv, hz⟩ : ∃ T v, li (Lu.getD k default) = .iface T v := by
          cases Lu.getD k default with
          | none => exact ⟨_, _, rfl⟩
          | some z => exact ⟨_, _, rfl⟩
        rw [hz] at hU HXS HYS HBS
        clear hone hz
        generalize li ((setK (overF Lu L) L k).getD k default) = ov at hcell
        clear HSS hE
        go_wp2_with fail
        go_roundw
        case rel => exact ⟨k + 1, by omega, by go_num, HXS, HYS, HBS⟩
        case measure => simp [intOf]; omega
    · obtain rfl : k = n := by omega
      go_wp2_with fail
      go_ret
      exact ⟨rfl, HYR.out, HB.out⟩
noncomputable def chF (Lf L : List Li) (i : Nat) : Li := @ite _ (bare (Lf.getD i default) = bare (L.getD i default)) (Classical.propDecidable _) none (L.getD i default)
set_option maxHeartbeats 1600000 in
theorem changed_any (Lf L : List Li) (x y : Value) (bu base c : Nat) (w : World) (hx : OwnP w bu x Lf) (hy : OwnP w base y L) (hne : ∀ g, y.ownBlock = some g → x.ownBlock ≠ some g) (hll : Lf.length = L.length) (hf : ∀ i, i < L.length → ∃ a b, Lf.getD i default = some a ∧ L.getD i default = some b)
    (h0 : 0 < L.length) (hn : L.length ≤ 40) (hc : c ≤ 40) (hbs : base ≤ w.heap.size) (hmem : ∀ W, Below base w W → LisOk W c Lf ∧ LisOk W c L) :
    Calls Tryz.prog 40 #[x, y] w fun e w' => e = .returned y ∧ OwnP w' base y (setK (chF Lf L) L L.length) ∧ Below base w w' := by
  obtain ⟨g, cap, rfl, hbg, hcap⟩ := hy.shape h0
  obtain ⟨gx, capx, rfl, hbx, _⟩ := hx.shape (by omega)
  have HNE : Hid ((Value.slice (some ⟨gx, 0, none⟩) Lf.length capx).ownBlock ≠ some g) := Lib.hid (hne g rfl)
  have HX := Lib.hid hx
  have HY : Hid (OwnP w base (.slice (some ⟨g, 0, none⟩) L.length cap) (setK (chF Lf L) L 0)) := Lib.hid (by rw [setK_zero]; exact hy)
  have HFT := Lib.hid hf
  have HMM := Lib.hid hmem
  obtain ⟨n, hnn⟩ : ∃ n, L.length = n := ⟨_, rfl⟩
  have HN := Lib.hid hnn
  have HNF : Hid (Lf.length = n) := Lib.hid (hll.trans hnn)
  have HSL : Hid (∀ k, (setK (chF Lf L) L k).length = n) := Lib.hid fun k => by rw [setK_length, hnn]
  rw [hll] at HNE HX ⊢
  rw [hnn] at HNE HX HY hn hcap h0 ⊢
  clear hx hy hne hnn hll hf hmem
  have HBB : Hid (Below base w w) := Lib.hid ((Below.refl _ _).mono hbs)
  go_enter Tryz.func40, Tryz.ntmps40
  go_wp2_with fail
  go_loopw [9] (fun i wr => ∃ k : Nat, k ≤ n ∧ i = .int .i64 k ∧ Hid (OwnP wr bu (.slice (some ⟨gx, 0, none⟩) n capx) Lf) ∧ Hid (OwnP wr base (.slice (some ⟨g, 0, none⟩) n cap) (setK (chF Lf L) L k)) ∧ Hid (Below base w wr)) (fun i _ => n - (intOf i).toNat)
  case atStart => exact ⟨0, by omega, rfl, HX, HY, HBB⟩
  case round =>
    obtain ⟨k, hk, rfl, HXR, HYR, HB⟩ := hrel
    by_cases hlt : k < n
    · have hkl : k < L.length := by rw [HN.out]; exact hlt
      obtain ⟨⟨av, ar⟩, ⟨bv, br⟩, ea, eb⟩ := HFT.out k hkl
      have hE := HYR.out.cell (k := k) (by rw [HSL.out]; exact hlt)
      have hU := HXR.out.cell (k := k) (by rw [HNF.out]; exact hlt)
      have hfr := HYR.out.free k
      rw [setK_get _ _ _ hkl, if_neg (by omega), eb] at hE
      rw [ea] at hU
      have HLA := Lib.hid ((HMM.out wr HB.out).1.get (j := k) (by rw [HNF.out]; exact hlt) _ ea)
      have HLB := Lib.hid ((HMM.out wr HB.out).2.get hkl _ eb)
      have HSM := Lib.hid (setK_same (chF Lf L) L k)
      have HSS := Lib.hid (setK_succ (chF Lf L) L k)
      have HCA : Hid (Cs wr av ar) := Lib.hid HLA.out.1.cs
      have HCB : Hid (Cs wr bv br) := Lib.hid HLB.out.1.cs
      have HAL : Hid (ar.length ≤ 40) := Lib.hid (by have := HLA.out.2; simp only at this; omega)
      change wr.cell? ⟨gx, k, none⟩ = some (.iface 86 av) at hU
      change wr.cell? ⟨g, k, none⟩ = some (.iface 86 bv) at hE
      by_cases he : ar = br
      · have HFK : Hid (chF Lf L k = none) := Lib.hid (by unfold chF; rw [ea, eb]; exact if_pos (by show some ar = some br; rw [he]))
        have HEQ := Lib.hid (fun q => eqTold_is ar br true ⟨fun _ => he, fun _ => rfl⟩ av bv (wr.drewN q) HCA.out HCB.out (by have := HAL.out; omega))
        rw [HFK.out] at HSS
        clear ea eb HSM HFK HLA HLB HCA HCB hkl he
        go_wp2_with fail
        go_quiet ((go_at_call 60; exact (HEQ.out _).mono fun e w2 k => by obtain ⟨h1, q, h2⟩ := k; exact ⟨h1, _, h2.trans (World.drewN_drewN _ _ _)⟩))
        go_wp2_with fail
        go_roundw
        case rel => exact ⟨k + 1, by omega, by go_num, Lib.hid (HXR.out.other HNE.out k _), by rw [HSS.out]; exact Lib.hid (HYR.out.put k none), Lib.hid ((below_drewN HB.out _).setCell (p := ⟨g, k, none⟩) hbg _)⟩
        case measure => simp [intOf]; omega
      · have HFK : Hid (chF Lf L k = L.getD k default) := Lib.hid (by unfold chF; rw [ea, eb]; exact if_neg (fun q => he (by injection q)))
        have HEQ := Lib.hid (fun q => eqTold_is ar br false ⟨fun h => (by cases h), fun h => absurd h he⟩ av bv (wr.drewN q) HCA.out HCB.out (by have := HAL.out; omega))
        have HS := Lib.hid (HSM.out HFK.out)
        clear ea eb HSM HSS HFK HLA HLB HCA HCB hkl he
        go_wp2_with fail
        go_quiet ((go_at_call 60; exact (HEQ.out _).mono fun e w2 k => by obtain ⟨h1, q, h2⟩ := k; exact ⟨h1, _, h2.trans (World.drewN_drewN _ _ _)⟩))
        go_wp2_with fail
        go_roundw
        case rel => exact ⟨k + 1, by omega, by go_num, Lib.hid HXR.out, by rw [HS.out]; exact Lib.hid HYR.out, Lib.hid (below_drewN HB.out _)⟩
        case measure => simp [intOf]; omega
    · obtain rfl : k = n := by omega
      go_wp2_with fail
      go_ret
      exact ⟨rfl, HYR.out, HB.out⟩
end Pat
end
section
open Go.RowKit
namespace Row
open Utf Wid
def putting (l x : List Cl) (p k : Nat) : List Cl := l.take p ++ x.take k ++ l.drop (p + k)
theorem putting_zero (l x : List Cl) (p : Nat) : putting l x p 0 = l := by simp [putting]
theorem putting_length {l x : List Cl} {p k : Nat} (h : p + k ≤ l.length) (hk : k ≤ x.length) : (putting l x p k).length = l.length := by
  simp [putting]; omega
theorem putting_succ {l x : List Cl} {p k : Nat} (h : p + k < l.length) (hk : k < x.length) : (putting l x p k).set (p + k) (g x k) = putting l x p (k + 1) := by
  have hl := putting_length (Nat.le_of_lt h) (Nat.le_of_lt hk)
  have hl2 := putting_length (l := l) (x := x) (p := p) (k := k + 1) (by omega) (by omega)
  refine ext_g (by rw [List.length_set, hl, hl2]) fun i hi => ?_
  rw [List.length_set, hl] at hi
  have ht : (l.take p).length = p := by rw [List.length_take]; omega
  have hx : (x.take k).length = k := by rw [List.length_take]; omega
  have hx1 : (x.take (k + 1)).length = k + 1 := by rw [List.length_take]; omega
  have key : ∀ m, m ≤ x.length → p + m ≤ l.length → g (putting l x p m) i = if i < p then g l i else if i < p + m then g x (i - p) else g l i := by
    intro m hm1 hm2
    have hxm : (x.take m).length = m := by rw [List.length_take]; omega
    unfold putting
    by_cases h1 : i < p
    · rw [if_pos h1, List.append_assoc, g_append_left (by omega), g_take h1]
    · rw [if_neg h1]
      by_cases h2 : i < p + m
      · rw [if_pos h2, g_append_left (by rw [List.length_append]; omega), g_append_right (by omega), ht, g_take (by omega)]
      · rw [if_neg h2, g_append_right (by rw [List.length_append]; omega), List.length_append, ht, hxm, g_drop]
        congr 1; omega
  by_cases e : i = p + k
  · subst e
    rw [g_set_same (by omega), key (k + 1) (by omega) (by omega), if_neg (by omega), if_pos (by omega)]
    congr 1; omega
  · rw [g_set_ne (fun h => e h.symm), key k (by omega) (by omega), key (k + 1) (by omega) (by omega)]
    by_cases h1 : i < p
    · rw [if_pos h1, if_pos h1]
    · rw [if_neg h1, if_neg h1]
      by_cases h2 : i < p + k
      · rw [if_pos h2, if_pos (by omega)]
      · rw [if_neg h2, if_neg (by omega)]
theorem putting_row {c : Nat} {rs : List (List Cl)} (h : Even c rs) {i : Nat} (hi : i < rs.length) {x : List Cl} (hx : x.length = c) : putting rs.flatten x (i * c) c = (rs.set i x).flatten := by
  unfold putting
  rw [List.take_of_length_le (show x.length ≤ c by omega), take_flat h, ← Nat.succ_mul, drop_flat h, List.set_eq_take_append_cons_drop, if_pos hi]
  simp
set_option maxHeartbeats 1600000 in
theorem refWith_any (R : Int) (C i : Nat) (l m : List Cl) (x y : Value) (w : World) (hC : C ≤ 40) (hi : i < 40) (hi1 : (i + 1) * C ≤ l.length) (hl : l.length ≤ 100000000) (hx : Cs w x l) (hy : Cs w y m) (hm : m.length = C) :
    Calls Tryz.prog 52 #[.agg #[.int .i64 R, .int .i64 C, x], .int .i64 i, y] w fun e w' => ∃ v, e = .returned (.agg #[.int .i64 R, .int .i64 C, v]) ∧ OwnCs w' w.heap.size v (putting l m (i * C) C) ∧ Below w.heap.size w w' := by
  have HX := Lib.hid hx
  have HY := Lib.hid hy
  have HCG := Lib.hid (fun w' (k : Cs w' x l) => copyGrid_any R C l x w' k hl)
  obtain ⟨A, c, rfl, _⟩ := hx.form
  obtain ⟨A', c', rfl, _⟩ := hy.form
  have hsm : (i + 1) * C ≤ 40 * 40 := Nat.mul_le_mul hi hC
  obtain ⟨p, hp⟩ : ∃ q, i * C = q := ⟨_, rfl⟩
  have hpc : p + C ≤ l.length := by rw [Nat.succ_mul] at hi1; omega
  have hp2 : p ≤ 1600 := by rw [Nat.succ_mul] at hsm; omega
  have w2 : IntKind.i64.wrap ((i : Int) * (C : Int)) = (p : Int) := by rw [← Int.natCast_mul, hp, IntKind.wrap_i64]; omega
  rw [hp]
  clear hx hy hsm hp hi1
  have hW := ((Below.refl w.heap.size w).alloc (Nat.le_refl _) (gbox R C (.slice A l.length c))).alloc (by simp) (gbox 0 0 (.slice none 0 0))
  go_enter Tryz.func52, Tryz.ntmps52
  go_wp2_with fail
  refine (HCG.out _ (HX.out.kept hW)).mono ?_; rintro e w1 ⟨v, rfl, ho, hb⟩
  have hG1 : w1.heap[w.heap.size + 1]? = some (gbox 0 0 (.slice none 0 0)) := Blk.kept (new_alloc _ _ _ (by simp)) hb
  have hG0 : w1.heap[w.heap.size]? = some (gbox R C (.slice A l.length c)) := Blk.kept (old_alloc (new_alloc _ _ _ rfl) _) hb
  have HB : Hid (Below w.heap.size w w1) := Lib.hid (hW.trans (hb.mono hW.size))
  have HO : Hid (OwnCs w1 (w.heap.size + 2) v l) := Lib.hid (ho.low (by simp))
  obtain ⟨A1, c1, rfl, _⟩ := ho.cs.form
  have HG0 : Hid ((gput w1 w.heap.size R C (.slice A1 l.length c1)).heap[w.heap.size]? = some (gbox R C (.slice A1 l.length c1))) := Lib.hid (gput_box hG0 _ _ _)
  have HG1 : Hid ((gput w1 w.heap.size R C (.slice A1 l.length c1)).heap[w.heap.size + 1]? = some (gbox 0 0 (.slice none 0 0))) := Lib.hid (gput_other hG1 (by omega) _ _ _)
  have HO2 : Hid (OwnCs (gput w1 w.heap.size R C (.slice A1 l.length c1)) (w.heap.size + 2) (.slice A1 l.length c1) l) := Lib.hid (gput_own HO.out (by omega) _ _ _)
  have HB2 : Hid (Below w.heap.size w (gput w1 w.heap.size R C (.slice A1 l.length c1))) := Lib.hid (gput_below HB.out (Nat.le_refl _) _ _ _)
  have r0 : w1.cell? ⟨w.heap.size, 0, none⟩ = some (.int .i64 R) := Blk.cell hG0 0
  have r1 : w1.cell? ⟨w.heap.size, 1, none⟩ = some (.int .i64 C) := Blk.cell hG0 1
  have r2 : w1.cell? ⟨w.heap.size, 2, none⟩ = some (.slice A l.length c) := Blk.cell hG0 2
  have s0 := Blk.free hG0 0
  have s1 := Blk.free hG0 1
  have s2 := Blk.free hG0 2
  clear ho hb hG0 hG1 hW HB HO HCG
  go_wp2_with fail
  unfold gput at HG0 HG1 HO2 HB2
  clear r0 r1 r2 s0 s1 s2
  generalize ((w1.setCell ⟨w.heap.size, 0, none⟩ (.int .i64 R)).setCell ⟨w.heap.size, 1, none⟩ (.int .i64 C)).setCell ⟨w.heap.size, 2, none⟩ (.slice A1 l.length c1) = wa at HG0 HG1 HO2 HB2 ⊢
  have HSH := Lib.hid HO2.out.shape
  have zk := Blk.lt HG1.out
  go_loopw [7] (fun j wr => ∃ k : Nat, k ≤ C ∧ j = .int .i64 k ∧ Hid (OwnCs wr (w.heap.size + 2) (.slice A1 l.length c1) (putting l m p k)) ∧ Hid (Below (w.heap.size + 2) wa wr)) (fun j _ => C - (intOf j).toNat)
  case atStart => exact ⟨0, by omega, rfl, by rw [putting_zero]; exact HO2, Lib.hid (Below.refl _ _)⟩
  case round =>
    obtain ⟨k, hk, rfl, HOW, HBL⟩ := hrel
    have hg0 := (HBL.out.block w.heap.size (by omega)).trans HG0.out
    have hg1 := (HBL.out.block (w.heap.size + 1) (by omega)).trans HG1.out
    have b0 : wr.cell? ⟨w.heap.size, 0, none⟩ = some (.int .i64 R) := Blk.cell hg0 0
    have b1 : wr.cell? ⟨w.heap.size, 1, none⟩ = some (.int .i64 C) := Blk.cell hg0 1
    have b2 : wr.cell? ⟨w.heap.size, 2, none⟩ = some (.slice A1 l.length c1) := Blk.cell hg0 2
    by_cases hlt : k < C
    · have HBW : Hid (Below w.heap.size w wr) := Lib.hid (HB2.out.trans (HBL.out.mono (by omega)))
      obtain ⟨A2, c2, e2, hf⟩ := (HY.out.kept HBW.out).form
      injection e2 with e2 _ e2c
      subst e2
      subst e2c
      obtain ⟨ad, e3, K⟩ := hf k (by omega)
      subst e3
      rcases HSH.out with ⟨e4, e5⟩ | ⟨g1, cap, e4, hg, _⟩
      · exfalso
        rw [e5] at hpc
        simp only [List.length_nil] at hpc
        omega
      injection e4 with e4 _ e6
      subst e4
      subst e6
      have hkl : p + k < (putting l m p k).length := by rw [putting_length (by omega) (by omega)]; omega
      have d0 := HOW.out.cell hkl (show 0 < 6 by decide)
      have d1 := HOW.out.cell hkl (show 1 < 6 by decide)
      have d2 := HOW.out.cell hkl (show 2 < 6 by decide)
      have d3 := HOW.out.cell hkl (show 3 < 6 by decide)
      have d4 := HOW.out.cell hkl (show 4 < 6 by decide)
      have d5 := HOW.out.cell hkl (show 5 < 6 by decide)
      have f0 := HOW.out.free ((p + k) * 6)
      have f1 := HOW.out.free ((p + k) * 6 + 1)
      have f2 := HOW.out.free ((p + k) * 6 + 2)
      have f3 := HOW.out.free ((p + k) * 6 + 3)
      have f4 := HOW.out.free ((p + k) * 6 + 4)
      have f5 := HOW.out.free ((p + k) * 6 + 5)
      simp only [cvals, Nat.add_zero, List.getElem?_cons_zero, List.getElem?_cons_succ] at d0 d1 d2 d3 d4 d5
      have HP := Lib.hid (HOW.out.put hkl (g m k))
      rw [putting_succ (by omega) (by omega)] at HP
      have HB5 := Lib.hid (below_put HBL.out hg (p + k) (g m k))
      generalize g m k = ev at K HP HB5
      generalize g (putting l m p k) (p + k) = cc at d0 d1 d2 d3 d4 d5
      obtain ⟨rune, cb, wide, ⟨fg, bg, fl⟩⟩ := ev
      obtain ⟨rune', cb', wide', ⟨fg', bg', fl'⟩⟩ := cc
      have h0 := K.head
      have h1 := K.next 0 rfl
      have h2 := K.next 1 rfl
      have h3 := K.next 2 rfl
      have h4 := K.next 3 rfl
      have h5 := K.next 4 rfl
      obtain ⟨q, hq⟩ : ∃ q, p + k = q := ⟨_, rfl⟩
      have w3 : IntKind.i64.wrap ((p : Int) + (k : Int)) = (q : Int) := by rw [IntKind.wrap_i64]; omega
      have hql : q < l.length := by omega
      rw [hq] at d0 d1 d2 d3 d4 d5 f0 f1 f2 f3 f4 f5 HP HB5
      have zg : g1 < wr.heap.size := (HOW.out.lt g1 rfl).2
      clear K hf hkl hg0 hg1 hq
      go_wp2_with fail
      go_region
      go_wp2_with fail
      simp only [putCell] at HP HB5
      clear b0 b1 b2 d0 d1 d2 d3 d4 d5 f0 f1 f2 f3 f4 f5 h0 h1 h2 h3 h4 h5
      generalize (((((wr.setCell ⟨g1, q * 6, none⟩ (.int .i64 rune)).setCell ⟨g1, q * 6 + 1, none⟩ (.string ⟨cb.toArray⟩)).setCell ⟨g1, q * 6 + 2, none⟩ (.int .i64 wide)).setCell ⟨g1, q * 6 + 3, none⟩ (.int .i64 fg)).setCell ⟨g1, q * 6 + 4, none⟩ (.int .i64 bg)).setCell ⟨g1, q * 6 + 5, none⟩ (.int .i64 fl) = wz at HP HB5 ⊢
      go_roundw
      case rel => exact ⟨k + 1, by omega, by go_num, HP, Lib.hid HB5.out.drew⟩
      case measure => simp [intOf]; omega
    · have hkn : k = C := by omega
      subst hkn
      have HBW : Hid (Below w.heap.size w wr) := Lib.hid (HB2.out.trans (HBL.out.mono (by omega)))
      have r0 : wr.cell? ⟨w.heap.size + 1, 0, none⟩ = some (.int .i64 0) := Blk.cell hg1 0
      have r1 : wr.cell? ⟨w.heap.size + 1, 1, none⟩ = some (.int .i64 0) := Blk.cell hg1 1
      have r2 : wr.cell? ⟨w.heap.size + 1, 2, none⟩ = some (.slice none 0 0) := Blk.cell hg1 2
      have s0 := Blk.free hg1 0
      have s1 := Blk.free hg1 1
      have s2 := Blk.free hg1 2
      have HF := Lib.hid (gput_box hg1 R k (.slice A1 l.length c1))
      have HO3 : Hid (OwnCs (gput wr (w.heap.size + 1) R k (.slice A1 l.length c1)) (w.heap.size + 2) (.slice A1 l.length c1) (putting l m p k)) := Lib.hid (gput_own HOW.out (by omega) _ _ _)
      have HB3 : Hid (Below w.heap.size w (gput wr (w.heap.size + 1) R k (.slice A1 l.length c1))) := Lib.hid (gput_below HBW.out (by omega) _ _ _)
      clear HOW HBL HO2 HB2 hg0 hg1 HG0 HG1
      go_wp2_with fail
      show bodyPost _ _ _ _ _ (gput wr (w.heap.size + 1) R k (.slice A1 l.length c1))
      clear r0 r1 r2 s0 s1 s2
      generalize gput wr (w.heap.size + 1) R k (.slice A1 l.length c1) = wF at HF HO3 HB3 ⊢
      have z0 : wF.cell? ⟨w.heap.size + 1, 0, none⟩ = some (.int .i64 R) := Blk.cell HF.out 0
      have z1 : wF.cell? ⟨w.heap.size + 1, 1, none⟩ = some (.int .i64 k) := Blk.cell HF.out 1
      have z2 : wF.cell? ⟨w.heap.size + 1, 2, none⟩ = some (.slice A1 l.length c1) := Blk.cell HF.out 2
      exact bodyPost_ret (v := .agg #[.int .i64 R, .int .i64 k, (.slice A1 l.length c1)]) (by simp [results, Tryz.results52, go_sem, z0, z1, z2]) rfl ⟨_, rfl, HO3.out.low (by omega), HB3.out⟩
end Row
end
end Go.Proofs.YtjcfbeiljdohcaaGreatDoor
