/- Joined texts: GrdResize. -/
import Derived.Test.YtmilpdhnblmflaaGreatDoorJ1
import Derived.Test.YtmilpdhnblmflaaGreatDoorJ2
import Derived.Test.YtmilpdhnblmflaaGreatDoorJ3
import Derived.Test.YtmilpdhnblmflaaGreatDoorJ4
import Derived.Test.YtmilpdhnblmflaaGreatDoorJ5
import Derived.Test.YtmilpdhnblmflaaGreatDoorJ7
import Derived.Test.YtmilpdhnblmflaaGreatDoorJ8
import Derived.Deep.DeepCutAuto
section
/- The developers' Resize, where a grid may be resized. -/
namespace Go.Proofs.YtmilpdhnblmflaaGreatDoor
set_option maxRecDepth 100000
open Go.RowKit
namespace Row

/-- What the lines hold while they are fitted one by one. -/
structure Fits (wr : World) (cv : Nat → Value) (l : List Cl) (rs : List (List Cl)) (R C c m : Nat) (a : Look) (g k : Nat) (xs : List Ln) : Prop where
  len : xs.length = m
  done : ∀ j, j < k → ∃ v, xs.getD j default = .kept v (fitRow (rowOf rs j) c a) ∧ Rm wr v (fitRow (rowOf rs j) c a) ∧ Off g v
  left : ∀ j, k ≤ j → j < m → xs.getD j default = .kept (cv j) (rowAt l C j)
  old : ∀ i, i < R → Rm wr (cv i) (rowAt l C i) ∧ Off g (cv i)
theorem Fits.kept {wr w2 : World} {cv : Nat → Value} {l : List Cl} {rs : List (List Cl)} {R C c m g k : Nat} {a : Look} {xs : List Ln} (h : Fits wr cv l rs R C c m a g k xs) (hb : Below wr.heap.size wr w2) : Fits w2 cv l rs R C c m a g k xs :=
  ⟨h.len, fun j hj => by obtain ⟨v, e, h1, h2⟩ := h.done j hj; exact ⟨v, e, h1.kept hb, h2⟩, h.left, fun i hi => ⟨(h.old i hi).1.kept hb, (h.old i hi).2⟩⟩
theorem Fits.grown {wr w2 : World} {cv : Nat → Value} {l : List Cl} {rs : List (List Cl)} {R C c m g k : Nat} {a : Look} {xs : List Ln} (h : Fits wr cv l rs R C c m a g k xs) (hg : wr.grownBy w2 (some g)) : Fits w2 cv l rs R C c m a g k xs :=
  ⟨h.len, fun j hj => by obtain ⟨v, e, h1, h2⟩ := h.done j hj; exact ⟨v, e, h1.grown hg (fun k e => by cases e; exact h2), h2⟩, h.left, fun i hi => ⟨(h.old i hi).1.grown hg (fun k e => by cases e; exact (h.old i hi).2), (h.old i hi).2⟩⟩
theorem Fits.stored {wr : World} {cv : Nat → Value} {l : List Cl} {rs : List (List Cl)} {R C c m g k : Nat} {a : Look} {xs : List Ln} (h : Fits wr cv l rs R C c m a g k xs) (hk : k < m) {v : Value} (hv : Rm wr v (fitRow (rowOf rs k) c a)) (ho : Off g v) (u : Value) :
    Fits (wr.setCell ⟨g, k, none⟩ u) cv l rs R C c m a g (k + 1) (xs.set k (.kept v (fitRow (rowOf rs k) c a))) := by
  refine ⟨by rw [List.length_set]; exact h.len, fun j hj => ?_, fun j h1 h2 => ?_, fun i hi => ⟨(h.old i hi).1.set (h.old i hi).2 _ _, (h.old i hi).2⟩⟩
  · by_cases e : k = j
    · subst e
      exact ⟨v, getD_set_same (by rw [h.len]; exact hk) _, hv.set ho _ _, ho⟩
    · obtain ⟨v', e', h1, h2⟩ := h.done j (by omega)
      exact ⟨v', by rw [getD_set_ne e]; exact e', h1.set h2 _ _, h2⟩
  · rw [getD_set_ne (by omega)]; exact h.left j (by omega) h2
theorem Fits.start {wr : World} {cv : Nat → Value} {l : List Cl} {rs : List (List Cl)} {R C c m g : Nat} {a : Look} (hm : m ≤ R) (h : ∀ i, i < R → Rm wr (cv i) (rowAt l C i) ∧ Off g (cv i)) : Fits wr cv l rs R C c m a g 0 ((keptOf cv l C (List.range R)).take m) := by
  refine ⟨by rw [List.length_take, keptOf_length, List.length_range]; omega, fun j hj => absurd hj (by omega), fun j _ h2 => ?_, h⟩
  rw [← kept_get (cv := cv) (l := l) (C := C) (show j < R by omega)]
  simp [h2]

/-- Behind the third region: its lines, the first m of them taken. -/
def Lined (w : World) (R C m : Nat) (x : Value) (a : Look) (l : List Cl) (s : Value) (wx : World) : Prop :=
  ∃ (cv : Nat → Value) (g gc : Nat), s = .slice (some ⟨g, 0, none⟩) m gc ∧ w.heap.size + 3 ≤ g ∧ Boxes3 w wx R C x a ∧ OwnL wx (w.heap.size + 3) (.slice (some ⟨g, 0, none⟩) R gc) (keptOf cv l C (List.range R)) ∧ (∀ i, i < R → Rm wx (cv i) (rowAt l C i) ∧ Off g (cv i))
set_option maxHeartbeats 8000000 in
theorem resize_fits (R C r c : Nat) (rs : List (List Cl)) (a : Look) (x : Value) (w : World) (h : Rws R C rs) (hx : Rm w x rs.flatten) (hs : Held rs.flatten) (ha : attrOk a = true) (h1 : 1 ≤ r) (h2 : r ≤ 40) (h3 : 1 ≤ c) (h4 : c ≤ 40) :
    Calls Tryz.prog 45 #[.agg #[.int .i64 R, .int .i64 C, x], .int .i64 r, .int .i64 c, .agg #[.int .i64 a.fg, .int .i64 a.bg, .int .i64 a.flags]] w fun e w' =>
      ∃ v, e = .returned (.tuple #[.agg #[.int .i64 r, .int .i64 c, v], .int .i64 0]) ∧ OwnCs w' w.heap.size v (Row.fitted rs r c a).flatten ∧ Below w.heap.size w w' := by
  have hlen := h.len
  have hR40 := h.r40
  have hR1 := h.r1
  have hC1 := h.c1
  have hC40 := h.c40
  have hfl : rs.flatten.length = R * C := by rw [even_length h.even, hlen]
  obtain ⟨m, hm⟩ : ∃ m, m = min r R := ⟨_, rfl⟩
  have hmi : min (r : Int) (R : Int) = (m : Int) := by omega
  have HBX := Lib.hid (Boxes3.new w R C x a)
  have HCK := Lib.hid (fun w' (k : Rm w' x rs.flatten) => gridCheck_any ⟨R, C, rs.flatten⟩ true x w' k hs ⟨fun _ => h.grid, fun _ => rfl⟩)
  have HSD : Hid (sidesOk (r : Int) (c : Int) = true) := Lib.hid ((sidesOk_iff _ _).2 ⟨⟨by omega, by omega⟩, by omega, by omega⟩)
  have HPT := Lib.hid (fun w' => paints_at a true ha w')
  have HLI := Lib.hid (fun w' (k : Rm w' x rs.flatten) => lines_any R C rs.flatten x w' k hR1 hR40 hC1 hC40 hfl)
  have HEM := Lib.hid (fun w' => empties_any (r - m) a w' (by omega))
  have HFT := Lib.hid (fun (i : Nat) (hi : i < R) (v : Value) (w' : World) (k : Rm w' v (rowAt rs.flatten C i)) => (show Calls _ _ _ _ fun e w'' => ∃ v', e = .returned v' ∧ Rm w'' v' (fitRow (rowOf rs i) c a) ∧ (∀ g, g < w'.heap.size → Off g v') ∧ Below w'.heap.size w' w'' from by
    have := fitted_any (rowAt rs.flatten C i) c a v w' k (by rw [rowAt_flat h.even (by omega)]; exact h.ok i hi) (held_part hs C i) h3 h4 ha
    rwa [rowAt_flat h.even (by omega)] at this))
  have HFIN : Hid (∀ (xs : List Ln), xs.length = m → (∀ j, j < m → lrow c (xs.getD j default) = fitRow (rowOf rs j) c a) → rowsOfL c (xs ++ List.replicate (r - m) (.empty a)) = Row.fitted rs r c a) := Lib.hid fun xs e k => fit_lns (by rw [hlen]; exact hm) e k
  have HEO : Hid (∀ (w' : World) (xs : List Ln), (∀ j, j < xs.length → LnOk w' c (xs.getD j default)) → LnsOk w' c (xs ++ List.replicate (r - m) (.empty a))) := Lib.hid fun w' xs k y hy => by
    rcases List.mem_append.1 hy with hy | hy
    · exact lnsOk_of k y hy
    · rw [(List.mem_replicate.1 hy).2]; exact ha
  clear hs h ha
  obtain ⟨l, HL⟩ : ∃ l, Hid (rs.flatten = l) := ⟨_, Lib.hid rfl⟩
  rw [HL.out] at hx HCK HLI HFT hfl
  have HLN := Lib.hid hfl
  clear hfl
  have HX := Lib.hid hx
  have hwm : IntKind.i64.wrap ((r : Int) - (m : Int)) = ((r - m : Nat) : Int) := by rw [IntKind.wrap_i64]; omega
  have hmr : m ≤ r := by omega
  have hmR : m ≤ R := by omega
  have hm1 : 1 ≤ m := by omega
  obtain ⟨_, A, cp, rfl, _⟩ := hx
  clear hm hlen
  obtain ⟨q, hq⟩ : ∃ q, r - m = q := ⟨_, rfl⟩
  have hqr : m + q = r := by omega
  rw [hq] at hwm HEM HFIN HEO
  clear hq
  go_enter Tryz.func45, Tryz.ntmps45
  go_wp2_with fail
  refine (HCK.out _ (HX.out.kept HBX.out.two.below)).mono ?_; rintro e w2 ⟨rfl, hb2⟩
  have HX2 := Lib.hid (HBX.out.kept hb2)
  clear hb2 HBX
  obtain ⟨c0, c1, c2, k0, k1, k2⟩ := HX2.out.two.cells
  go_wp2_with fail
  refine (sides_at _ _ _ HSD.out _).mono ?_; rintro e w' ⟨rfl, rfl⟩
  go_wp2_with fail
  refine (HPT.out _).mono ?_; rintro e w3 ⟨rfl, hb3⟩
  have HX3 := Lib.hid (HX2.out.kept hb3)
  clear hb3 c0 c1 c2 k0 k1 k2 HCK HSD HPT HX2
  obtain ⟨c0, c1, c2, k0, k1, k2⟩ := HX3.out.two.cells
  have HRL : Hid (∀ i, i < R → (rowAt l C i).length = C) := Lib.hid fun i hi => by
    unfold rowAt; rw [List.length_take, List.length_drop]
    have hs1 : (i + 1) * C = i * C + C := Nat.succ_mul i C
    have hle : (i + 1) * C ≤ R * C := Nat.mul_le_mul_right C hi
    have := HLN.out
    omega
  go_upto_region 3 with (fail)
  have HL3 := Lib.hid (HLI.out w3.drew (HX.out.kept HX3.out.drew.two.below))
  clear HLI
  go_cut [10] (fun s10 wx => Lined w R C m (.slice A l.length cp) a l s10 wx)
  case first =>
    go_region_law (go_simp; go_at_call 85; refine HL3.out.mono ?_; rintro e w4 ⟨v4, cv, rfl, ho4, hcv, hb4⟩; have HX4 := Lib.hid (HX3.out.drew.kept hb4); have HO4 := Lib.hid (ho4.low (show w.heap.size + 3 ≤ w3.drew.heap.size from HX3.out.size)); obtain ⟨g, gc, hge, hg, hgc⟩ := ho4.shape (by rw [keptOf_length, List.length_range]; omega); rw [keptOf_length, List.length_range] at hge hgc; subst hge; have HCV := Lib.hid (fun i hi => And.intro ((hcv i hi).kept hb4) ((hcv i hi).off (by rw [HRL.out i hi]; omega) hg)); have hg := Nat.le_trans (show w.heap.size + 3 ≤ w3.drew.heap.size from HX3.out.size) hg; have q0 : w4.cell? ⟨w.heap.size, 0, none⟩ = some (.int .i64 R) := HX4.out.two.cells.1; have hr4 := (ho4.sv).run_upto m (by rw [keptOf_length, List.length_range]; exact hmR); clear ho4 hb4 hcv)
    all_goals
      go_wp2_with fail
      go_meet
      exact ⟨cv, g, gc, rfl, hg, HX4.out, HO4.out, HCV.out⟩
  case rest =>
    obtain ⟨cv, g, gc, rfl, hg, hx4, ho4, hcv⟩ := hcut
    obtain ⟨w4, rfl⟩ : ∃ w4 : World, w4 = wc := ⟨_, rfl⟩
    have HX4 := Lib.hid hx4
    have HO4 := Lib.hid (ho4.take m (by rw [keptOf_length, List.length_range]; exact hmR))
    have HCV := Lib.hid hcv
    have HFI := Lib.hid (Fits.start (rs := rs) (c := c) (a := a) hmR hcv)
    clear hx4 ho4 hcv c0 c1 c2 k0 k1 k2 HL3 hmi
    generalize (keptOf cv l C (List.range R)).take m = xs0 at HO4 HFI
    go_wp2_with fail
    go_loopw [36] (fun i wr => ∃ (k : Nat) (xs : List Ln), k ≤ m ∧ i = .int .i64 k ∧ Hid (Boxes3 w wr R C (.slice A l.length cp) a) ∧ Hid (OwnL wr (w.heap.size + 3) (.slice (some ⟨g, 0, none⟩) m gc) xs) ∧ Hid (Fits wr cv l rs R C c m a g k xs)) (fun i _ => m - (intOf i).toNat)
    case atStart => exact ⟨0, xs0, by omega, rfl, HX4, HO4, HFI⟩
    case round =>
      obtain ⟨k, xs, hk, rfl, HXr, HOr, HFr⟩ := hrel
      by_cases hlt : k < m
      · have cg := HOr.out.cell (k := k) (by rw [HFr.out.len]; exact hlt)
        rw [HFr.out.left k (Nat.le_refl _) hlt] at cg
        have cg' : wr.cell? ⟨g, k, none⟩ = some (.iface 129 (cv k)) := cg
        obtain ⟨c0, c1, c2, k0, k1, k2⟩ := HXr.out.two.cells
        have HFk := Lib.hid (HFT.out k (by omega) (cv k) wr.drew ((HFr.out.old k (by omega)).1.kept (Below.refl _ _).drew))
        have hgr : g < wr.heap.size := World.block_lt_of_cell? wr _ cg'
        clear cg
        go_wp2_with fail
        go_region_law (go_simp; go_at_call 86; refine HFk.out.mono ?_; rintro e w5 ⟨v5, rfl, hrm, hoff, hb5⟩; have hb5' : Below wr.heap.size wr w5 := (Below.refl _ _).drew.trans hb5; have HX5 := Lib.hid (HXr.out.kept hb5'); have HO5 := Lib.hid (HOr.out.kept hb5'); have HF5 := Lib.hid (HFr.out.kept hb5'); have HR5 := Lib.hid hrm; have HG5 := Lib.hid (hoff g hgr); have cg5 : w5.cell? ⟨g, k, none⟩ = some (.iface 129 (cv k)) := cell_kept hb5' cg'; have fg5 := HO5.out.free k; clear hb5 hb5' hrm hoff)
        all_goals
          have HX6 := Lib.hid (HX5.out.set hg k (lv (.kept v5 (fitRow (rowOf rs k) c a))))
          have HO6 := Lib.hid (HO5.out.put k (.kept v5 (fitRow (rowOf rs k) c a)))
          have HF6 := Lib.hid (HF5.out.stored hlt HR5.out HG5.out (lv (.kept v5 (fitRow (rowOf rs k) c a))))
          rw [show lv (.kept v5 (fitRow (rowOf rs k) c a)) = .iface 129 v5 from rfl] at HX6 HO6 HF6
          clear cg' cg5 fg5 c0 c1 c2 k0 k1 k2
          generalize w5.setCell ⟨g, k, none⟩ (.iface 129 v5) = w6 at HX6 HO6 HF6 ⊢
          go_wp2_with fail
          go_roundw
          case rel => exact ⟨k + 1, _, hlt, by go_num, HX6, HO6, HF6⟩
          case measure => simp [intOf]; omega
      · have hkm : m = k := by omega
        subst hkm
        clear hk
        obtain ⟨c0, c1, c2, k0, k1, k2⟩ := HXr.out.two.cells
        have HEMr := Lib.hid (HEM.out wr)
        have hlx := HFr.out.len
        have HLX := Lib.hid hlx
        have hwrs := HXr.out.size
        clear hlx
        go_wp2_with fail
        refine HEMr.out.mono ?_; rintro e w5 ⟨v5, rfl, ho5, hb5⟩
        have HX5 := Lib.hid (HXr.out.kept hb5)
        have HO5 := Lib.hid (HOr.out.kept hb5)
        have HF5 := Lib.hid (HFr.out.kept hb5)
        have hs5 := ho5.sv
        obtain ⟨A5, e5, rfl⟩ := own_shape ho5
        rw [List.length_replicate] at hs5 ⊢
        have HS5 := Lib.hid hs5
        have hsz5 : w.heap.size + 3 ≤ w5.heap.size := Nat.le_trans hwrs hb5.size
        clear ho5 hb5 hs5 c0 c1 c2 k0 k1 k2
        obtain ⟨c0, c1, c2, k0, k1, k2⟩ := HX5.out.two.cells
        go_wp2_with (at_builtin; refine wp_append_ln rfl rfl (w.heap.size + 3) _ _ xs (List.replicate q (.empty a)) rfl HO5.out rfl HS5.out (by rw [HLX.out, List.length_replicate]; omega) hsz5 ?_; intro v6 w6 ho6 hg6 hat6)
        have HX6 := Lib.hid (HX5.out.grown hg6 (fun k e => by cases e; exact hg))
        have HF6 := Lib.hid (HF5.out.grown hg6)
        have HS6 := Lib.hid ho6.sv
        have HK6 := Lib.hid (HEO.out w6 xs (fun j hj => by
          obtain ⟨v, e, k1, k2⟩ := HF6.out.done j (by rw [← HLX.out]; exact hj)
          rw [e]; exact ⟨k1, fitRow_length _ _ _⟩))
        have HRW := Lib.hid (HFIN.out xs HLX.out (fun j hj => by
          obtain ⟨v, e, k1, k2⟩ := HF6.out.done j hj
          rw [e]; rfl))
        have HL6 : Hid ((xs ++ List.replicate q (Ln.empty a)).length = r) := Lib.hid (by rw [List.length_append, List.length_replicate, HLX.out]; exact hqr)
        obtain ⟨A6, e6, rfl⟩ := own_shape ho6
        generalize xs ++ List.replicate q (Ln.empty a) = ys at HS6 HK6 HRW HL6
        have HLA := Lib.hid (fun (v : Value) (w' : World) (k : Sv w' v ys) (k2 : LnsOk w' c ys) => (show _ from HL6.out ▸ laid_any ys c v w' k k2 h3 h4 (by rw [HL6.out]; exact h2) : Calls Tryz.prog 76 #[v, .int .i64 c] w' fun e w'' => ∃ v', e = .returned (.agg #[.int .i64 r, .int .i64 c, v']) ∧ OwnCs w'' w'.heap.size v' (rowsOfL c ys).flatten ∧ Below w'.heap.size w' w''))
        rw [HRW.out] at HLA
        obtain ⟨res, HRS⟩ : ∃ p, Hid ((Row.fitted rs r c a).flatten = p) := ⟨_, Lib.hid rfl⟩
        rw [HRS.out] at HLA
        rw [HL6.out] at HS6 ⊢
        have hsz6 := HX6.out.size
        clear ho6 hg6 hat6 c0 c1 c2 k0 k1 k2
        go_wp2_with fail
        refine (HLA.out _ _ HS6.out HK6.out).mono ?_; rintro e w7 ⟨v7, rfl, ho7, hb7⟩
        obtain ⟨A8, e8, rfl⟩ := own_shape ho7
        have HX7 := Lib.hid (HX6.out.kept hb7)
        have HO7 := Lib.hid (ho7.low hsz6)
        have z0 : w7.cell? ⟨w.heap.size + 1 + 1, 0, none⟩ = some (.int .i64 0) := Blk.cell HX7.out.z 0
        have z1 : w7.cell? ⟨w.heap.size + 1 + 1, 1, none⟩ = some (.int .i64 0) := Blk.cell HX7.out.z 1
        have z2 : w7.cell? ⟨w.heap.size + 1 + 1, 2, none⟩ = some (.slice none 0 0) := Blk.cell HX7.out.z 2
        have y0 : w7.frozen? ⟨w.heap.size + 1 + 1, 0, none⟩ = false := Blk.free HX7.out.z 0
        have y1 : w7.frozen? ⟨w.heap.size + 1 + 1, 1, none⟩ = false := Blk.free HX7.out.z 1
        have y2 : w7.frozen? ⟨w.heap.size + 1 + 1, 2, none⟩ = false := Blk.free HX7.out.z 2
        have HF := Lib.hid (gput_box HX7.out.z r c (.slice A8 res.length e8))
        have HO8 : Hid (OwnCs (gput w7 (w.heap.size + 2) r c (.slice A8 res.length e8)) (w.heap.size + 3) (.slice A8 res.length e8) res) := Lib.hid (gput_own HO7.out (Nat.lt_succ_self _) _ _ _)
        have HB8 : Hid (Below w.heap.size w (gput w7 (w.heap.size + 2) r c (.slice A8 res.length e8))) := Lib.hid (gput_below HX7.out.two.below (by omega) _ _ _)
        clear ho7 hb7
        go_wp2_with fail
        show bodyPost _ _ _ _ _ (gput w7 (w.heap.size + 2) r c (.slice A8 res.length e8))
        clear z0 z1 z2 y0 y1 y2
        generalize gput w7 (w.heap.size + 2) r c (.slice A8 res.length e8) = wF at HF HO8 HB8 ⊢
        have z0 : wF.cell? ⟨w.heap.size + 1 + 1, 0, none⟩ = some (.int .i64 r) := Blk.cell HF.out 0
        have z1 : wF.cell? ⟨w.heap.size + 1 + 1, 1, none⟩ = some (.int .i64 c) := Blk.cell HF.out 1
        have z2 : wF.cell? ⟨w.heap.size + 1 + 1, 2, none⟩ = some (.slice A8 res.length e8) := Blk.cell HF.out 2
        exact bodyPost_ret (v := .tuple #[.agg #[.int .i64 r, .int .i64 c, .slice A8 res.length e8], .int .i64 0]) (by simp [results, Tryz.results45, go_sem, z0, z1, z2]) rfl ⟨_, rfl, by rw [HRS.out]; exact HO8.out.low (by omega), HB8.out⟩
end Row
end Go.Proofs.YtmilpdhnblmflaaGreatDoor
end
