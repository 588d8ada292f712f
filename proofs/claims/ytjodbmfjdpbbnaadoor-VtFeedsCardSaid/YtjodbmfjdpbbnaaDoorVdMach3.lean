/- The developers' machine: between, begin, digit, separate, parameter. -/
import Derived.Test.YtjodbmfjdpbbnaaDoorVdMach2
import Derived.Test.YtjodbmfjdpbbnaaDoorVtCsiA
import Derived.Deep.DeepCutAuto
namespace Go.Proofs.YtjodbmfjdpbbnaaDoor
set_option maxRecDepth 100000
open Go.RowKit
namespace Vd
open Vt

/-- Behind an append to its numbers the machine's block stands. -/
theorem MD.beside2 {w w1 : World} {base b : Nat} {m : Mc} {pv lv : Value} {pvs : List Value} (h : MD w base b m pv lv pvs) (hg : w.grownBy w1 pv.ownBlock) : w1.heap[b]? = some (.cells (cells6 m.p pv lv) 55 (0, 0)) := by
  refine (hg.block b (block_lt h.block) ?_).trans h.block
  rcases own_not h.nums h.block (by decide) with e | e
  · rw [e]; simp
  · exact fun h => e h.symm
/-- The numbers are others, in the machine's block too. -/
theorem nums_end {w w1 : World} {base b : Nat} {m : Mc} {pv lv v : Value} {pvs : List Value} {ys : List Int} (h : MD w base b m pv lv pvs) (ha : Apart m.l.length pv pvs) (hg : w.grownBy w1 pv.ownBlock) (ho : w1.ownsRow base 3 1 v ys.length (ints ys))
    (hv : v.ownBlock = pv.ownBlock ∨ ∃ g, v.ownBlock = some g ∧ w.heap.size ≤ g) : MD (w1.setCell ⟨b, 2, none⟩ v) base b ⟨{ m.p with params := ys }, m.l⟩ v lv pvs ∧ Apart m.l.length v pvs := by
  have hb1 := h.beside2 hg
  have hg2 := set_grown w1 ⟨b, 2, none⟩ v
  have he1 := h.evs.kept hg (own_apart h.evs h.nums (by decide))
  refine ⟨⟨?_, h.low, ho.kept hg2 (own_not ho hb1 (by decide)), h.len, he1.kept hg2 (own_not he1 hb1 (by decide)), fun k hk => ?_, h.good⟩, fun k hk => ?_⟩
  · have := block_set hb1 2 v
    simpa [cells6] using this
  · have h1 := (h.each k hk).kept hg (ha k hk)
    exact h1.kept hg2 (own_not h1 hb1 (by decide))
  · rcases hv with e | ⟨g, e, hge⟩
    · rw [e]; exact ha k hk
    · rw [e]
      cases hq : (pvs.getD k undef).ownBlock with
      | none => exact .inl rfl
      | some j =>
        right
        intro e2
        injection e2 with e2
        have := ((h.each k hk).lt j hq).2
        omega
/-- The last number is another, in its place. -/
theorem digit_end {w : World} {base b g n cap : Nat} {m : Mc} {lv : Value} {pvs : List Value} {y : Int} (h : MD w base b m (.slice (some ⟨g, 0, none⟩) n cap) lv pvs) (ha : Apart m.l.length (.slice (some ⟨g, 0, none⟩) n cap) pvs) (hgb : base ≤ g) :
    RunsD base b w ⟨{ m.p with params := m.p.params.set (m.p.params.length - 1) y }, m.l⟩ (.returned (.tuple #[])) (w.setCell ⟨g, m.p.params.length - 1, none⟩ (.int .i64 y)) := by
  have hg := set_grown w ⟨g, m.p.params.length - 1, none⟩ (.int .i64 y)
  have hnl : m.p.params.length = n := by
    have h2 := h.nums.2
    rcases h2 with ⟨e, _⟩ | ⟨_, _, _, e, _⟩
    · injection e with e _ _; cases e
    · injection e with _ e2 _; exact e2.symm
  have hb1 : (w.setCell ⟨g, m.p.params.length - 1, none⟩ (.int .i64 y)).heap[b]? = some (.cells (cells6 m.p (.slice (some ⟨g, 0, none⟩) n cap) lv) 55 (0, 0)) := by
    refine (hg.block b (block_lt h.block) ?_).trans h.block
    rcases own_not h.nums h.block (by decide) with e | e
    · cases e
    · exact fun hh => e hh.symm
  have hst := (hnl ▸ h.nums : w.ownsRow base 3 1 (.slice (some ⟨g, 0, none⟩) m.p.params.length cap) m.p.params.length (ints m.p.params)).stored (m.p.params.length - 1) (.int .i64 y)
  refine ⟨rfl, ⟨.slice (some ⟨g, 0, none⟩) n cap, lv, pvs, ?_, ha⟩, (Below.refl base w).setCell (p := ⟨g, m.p.params.length - 1, none⟩) hgb _⟩
  refine ⟨hb1, h.low, ?_, h.len, h.evs.kept hg (own_apart h.evs h.nums (by decide)), fun k hk => (h.each k hk).kept hg (ha k hk), h.good⟩
  show (w.setCell _ _).ownsRow base _ 1 (.slice (some ⟨g, 0, none⟩) n cap) (m.p.params.set (m.p.params.length - 1) y).length (ints (m.p.params.set (m.p.params.length - 1) y))
  rw [List.length_set]
  have e2 : ints (m.p.params.set (m.p.params.length - 1) y) = (ints m.p.params).set (m.p.params.length - 1) (.int .i64 y) := by unfold ints; rw [List.map_set]
  rw [e2, ← hnl]
  exact hst.1

set_option maxHeartbeats 800000 in
theorem between_any (base b : Nat) (m : Mc) (c : UInt8) (w : World) (h : Md w base b m) (hi : m.p.inter.length ≤ 3) (hc : c.toNat < 128) :
    Calls Tryd.prog 68 #[.pointer (some ⟨b, 0, none⟩), .int .u8 c.toNat] w (RunsD base b w ⟨{ m.p with inter := m.p.inter ++ [c] }, m.l⟩) := by
  obtain ⟨pv, lv, pvs, hm, ha⟩ := h
  obtain ⟨r0, r1, r2, r3, r4, r5⟩ := hm.reads
  obtain ⟨f0, f1, f2, f3, f4, f5⟩ := hm.free
  have HM : Hid (Md w base b m) := Lib.hid ⟨pv, lv, pvs, hm, ha⟩
  have hlow := hm.low
  have hwr : IntKind.i32.wrap (c.toNat : Int) = (c.toNat : Int) := by rw [IntKind.wrap_i32]; omega
  have hen := encode_small c hc
  have hcat : ¬ 9223372036854775807 < m.p.inter.length + 1 := by omega
  clear hm ha
  go_enter Tryd.func68, Tryd.ntmps68
  go_wp2_with fail
  go_end0
  exact ⟨rfl, HM.out.set_ 3 _ { m.p with inter := m.p.inter ++ [c] } rfl (fun _ _ => by rw [Utf.str_snoc]; rfl), (Below.refl _ _).setCell hlow _⟩

def begun (l : List Int) : List Int := if l = [] then [-1] else l
set_option maxHeartbeats 800000 in
theorem begin_any (base b : Nat) (m : Mc) (w : World) (h : Md w base b m) (hbase : base ≤ w.heap.size) :
    Calls Tryd.prog 75 #[.pointer (some ⟨b, 0, none⟩)] w (RunsD base b w ⟨{ m.p with params := begun m.p.params }, m.l⟩) := by
  obtain ⟨pv, lv, pvs, hm, ha⟩ := h
  obtain ⟨A, cc, rfl⟩ := own_shape hm.nums
  obtain ⟨r0, r1, r2, r3, r4, r5⟩ := hm.reads
  obtain ⟨f0, f1, f2, f3, f4, f5⟩ := hm.free
  have HM := Lib.hid hm
  have HA := Lib.hid ha
  have hlow := hm.low
  have hblt := block_lt hm.block
  clear hm ha
  by_cases h0 : m.p.params.length = 0
  · have HE : Hid (begun m.p.params = [-1]) := Lib.hid (by unfold begun; rw [if_pos (List.eq_nil_of_length_eq_zero h0)])
    have hd6 : ((m.p.params.length : Int) == 0) = true := by rw [beq_iff_eq]; omega
    have hm1 := nums_end (w1 := w.alloc (.cells #[.int .i64 (-1)] 3)) (ys := [-1]) HM.out HA.out (World.grownBy_alloc _ _ _) (owns_one base w 3 (.int .i64 _) hbase) (.inr ⟨_, rfl, Nat.le_refl _⟩)
    rw [World.setCell_alloc_past _ _ _ _ hblt] at hm1
    have HM1 := Lib.hid hm1
    clear h0 hm1
    go_enter Tryd.func75, Tryd.ntmps75
    go_wp2_with fail
    go_end0
    rw [HE.out]
    exact ⟨rfl, ⟨_, _, _, HM1.out.1, HM1.out.2⟩, ((Below.refl _ _).setCell (p := ⟨b, 2, none⟩) hlow _).alloc (by simpa using hbase) _⟩
  · have HE : Hid (begun m.p.params = m.p.params) := Lib.hid (by unfold begun; rw [if_neg (fun e => h0 (by rw [e]; rfl))])
    have hd6 : ((m.p.params.length : Int) == 0) = false := by rw [beq_eq_false_iff_ne]; omega
    clear h0
    go_enter Tryd.func75, Tryd.ntmps75
    go_wp2_with fail
    go_end0
    rw [HE.out]
    exact ⟨rfl, ⟨_, _, _, HM.out, HA.out⟩, Below.refl _ _⟩
theorem begun_ne (l : List Int) : begun l ≠ [] := by
  unfold begun
  split
  · simp
  · assumption
theorem begun_len {l : List Int} (h : l.length ≤ 16) : 1 ≤ (begun l).length ∧ (begun l).length ≤ 16 := by
  unfold begun
  split
  · simp
  · rename_i hn
    cases l
    · exact absurd rfl hn
    · simp at h ⊢; omega
theorem digit_begun (l : List Int) (c : UInt8) : digit l c = (begun l).set ((begun l).length - 1) (min 9999 (10 * max 0 ((begun l).getD ((begun l).length - 1) 0) + ((c.toNat : Int) - 48))) := rfl
theorem digit_fin {w w1 : World} {base b g cap q : Nat} {m : Mc} {ps ds : List Int} {lv : Value} {pvs : List Value} {y z d : Int} (h : MD w1 base b ⟨{ m.p with params := ps }, m.l⟩ (.slice (some ⟨g, 0, none⟩) ps.length cap) lv pvs) (ha : Apart m.l.length (.slice (some ⟨g, 0, none⟩) ps.length cap) pvs)
    (hgb : base ≤ g) (hb : Below base w w1) (hd : ds = ps.set (ps.length - 1) (min 9999 (10 * max 0 y + d))) (hz : z = min 9999 (10 * max 0 y + d)) :
    RunsD base b w ⟨{ m.p with params := ds }, m.l⟩ (.returned (.tuple #[])) ((w1.drewN q).setCell ⟨g, ps.length - 1, none⟩ (.int .i64 z)) := by
  subst hz
  rw [hd]
  exact (digit_end (m := ⟨{ m.p with params := ps }, m.l⟩) (h.kept (below_drewN (Below.refl _ _) q)) ha hgb).of (below_drewN hb q)

set_option maxHeartbeats 1600000 in
theorem digit_any (base b : Nat) (m : Mc) (c : UInt8) (x : Int) (hx : x = (c.toNat : Int) - 48) (h48 : 48 ≤ c.toNat) (h57 : c.toNat ≤ 57) (w : World) (h : Md w base b m) (hbase : base ≤ w.heap.size) (hn : m.p.params.length ≤ 16) (hpar : ∀ n ∈ m.p.params, -1 ≤ n ∧ n ≤ 9999) :
    Calls Tryd.prog 72 #[.pointer (some ⟨b, 0, none⟩), .int .i64 x] w (RunsD base b w ⟨{ m.p with params := digit m.p.params c }, m.l⟩) := by
  have H := Lib.hid h
  have hx0 : 0 ≤ x := by omega
  have hx9 : x ≤ 9 := by omega
  have hbl := begun_len hn
  have hbp : -1 ≤ (begun m.p.params).getD ((begun m.p.params).length - 1) 0 ∧ (begun m.p.params).getD ((begun m.p.params).length - 1) 0 ≤ 9999 := by
    have hin : (begun m.p.params).getD ((begun m.p.params).length - 1) 0 ∈ begun m.p.params := by
      have : (begun m.p.params).length - 1 < (begun m.p.params).length := by omega
      simp [List.getD, this]
    unfold begun at hin ⊢
    split at hin
    · rename_i e
      rw [if_pos e]
      simp
    · rename_i e
      rw [if_neg e]
      exact hpar _ hin
  have HD := Lib.hid (digit_begun m.p.params c)
  clear h hpar
  go_enter Tryd.func72, Tryd.ntmps72
  go_wp2_with fail
  refine (begin_any base b m _ H.out hbase).mono ?_
  rintro e w1 ⟨rfl, hm1, hb1⟩
  generalize begun m.p.params = ps at hm1 hbl hbp HD
  obtain ⟨pv, lv, pvs, hm1, ha1⟩ := hm1
  obtain ⟨r0, r1, r2, r3, r4, r5⟩ := hm1.reads
  obtain ⟨f0, f1, f2, f3, f4, f5⟩ := hm1.free
  have hno : w1.ownsRow base 3 1 pv ps.length (ints ps) := hm1.nums
  rcases hno.2 with ⟨_, e0⟩ | ⟨g, cap, cur, rfl, hgb, hgc, h1, h2, h3, h4⟩
  · exfalso; omega
  have hat := (Src.own hno).2
  rcases hat with ⟨e, _⟩ | ⟨ad, c', e, hcell⟩
  · cases e
  injection e with e1 e2 e3
  injection e1 with e1
  subst e1
  subst e3
  have hlt : ps.length - 1 < ps.length := by omega
  have hcell1 : w1.cell? ⟨g, ps.length - 1, none⟩ = some (.int .i64 (ps.getD (ps.length - 1) 0)) := by
    have := hcell (ps.length - 1) _ (ints_get hlt)
    have ea : (⟨g, 0, none⟩ : Addr).add (ps.length - 1) = ⟨g, ps.length - 1, none⟩ := by
      unfold Addr.add
      split
      · rename_i hz; rw [hz]
      · simp
    rw [ea] at this; exact this
  have hfr1 : w1.frozen? ⟨g, ps.length - 1, none⟩ = false := block_free hgc _
  have HM1 := Lib.hid hm1
  have HA1 := Lib.hid ha1
  have hw1 : IntKind.i64.wrap ((ps.length : Int) - 1) = (ps.length : Int) - 1 := IntWalk.i64_in _ (by omega)
  have hz0 : (0 : Int) ≤ (ps.length : Int) - 1 := by omega
  have hz1 : ((ps.length : Int) - 1).toNat = ps.length - 1 := by omega
  have hz2 : (1 : Int) ≤ (ps.length : Int) := by omega
  generalize ps.getD (ps.length - 1) 0 = y at hcell1 hbp HD
  clear hm1 ha1 hcell hgc h4 hno
  go_wp2_with fail
  go_quiet (fail)
  go_wp2_with fail
  all_goals
    go_end0
    exact digit_fin HM1.out HA1.out hgb hb1 HD.out (by omega)

set_option maxHeartbeats 800000 in
theorem separate_any (base b : Nat) (m : Mc) (w : World) (h : Md w base b m) (hbase : base ≤ w.heap.size) (hn : m.p.params.length ≤ 16) :
    Calls Tryd.prog 73 #[.pointer (some ⟨b, 0, none⟩)] w (RunsD base b w (if m.p.params.length = 16 then m.to 4 else ⟨{ m.p with params := begun m.p.params ++ [-1] }, m.l⟩)) := by
  have H := Lib.hid h
  obtain ⟨pv, lv, pvs, hm, ha⟩ := h
  obtain ⟨A, cc, rfl⟩ := own_shape hm.nums
  obtain ⟨r0, r1, r2, r3, r4, r5⟩ := hm.reads
  clear hm ha
  by_cases h16 : m.p.params.length = 16
  · have hd7 : ((m.p.params.length : Int) == 16) = true := by rw [beq_iff_eq]; omega
    rw [if_pos h16]
    clear h16
    go_enter Tryd.func73, Tryd.ntmps73
    go_wp2_with fail
    refine (enter_any 4 rfl base b m _ H.out).mono ?_
    rintro e w1 ⟨rfl, hm1, hb1⟩
    have HM1 := Lib.hid hm1
    clear hm1
    go_wp2_with fail
    go_end0
    exact ⟨rfl, HM1.out, hb1⟩
  · have hd7 : ((m.p.params.length : Int) == 16) = false := by rw [beq_eq_false_iff_ne]; omega
    rw [if_neg h16]
    have hbl := begun_len hn
    clear h16
    go_enter Tryd.func73, Tryd.ntmps73
    go_wp2_with fail
    refine (begin_any base b m _ H.out hbase).mono ?_
    rintro e w1 ⟨rfl, hm1, hb1⟩
    have z1 := hb1.size
    obtain ⟨ps, hps⟩ : ∃ ps, begun m.p.params = ps := ⟨_, rfl⟩
    rw [hps] at hm1 hbl
    have HPS := Lib.hid hps
    clear hps
    obtain ⟨pv1, lv1, pvs1, hm1, ha1⟩ := hm1
    obtain ⟨A1, c1, rfl⟩ := own_shape (show w1.ownsRow base 3 1 pv1 ps.length (ints ps) from hm1.nums)
    obtain ⟨q0, q1, q2, q3, q4, q5⟩ := hm1.reads
    obtain ⟨g0, g1, g2, g3, g4, g5⟩ := hm1.free
    have HMA := Lib.hid (hm1.kept ((Below.refl _ _).alloc (Nat.le_refl _) (.cells #[.int .i64 (-1)] 3)))
    have HA1 := Lib.hid ha1
    have hlow := hm1.low
    have hbaseA : base ≤ (w1.alloc (.cells #[.int .i64 (-1)] 3)).heap.size := by simp; omega
    clear hm1 ha1 r0 r1 r2 r3 r4 r5
    go_wp2_with (at_builtin; refine wp_append_ints rfl rfl base (.slice A1 ps.length c1) ps.length ps rfl HMA.out.nums _ 1 [-1] rfl (Src.one w1 _ _ _) (by omega) hbaseA ?_; intro v1 w2 ho1 hg1 hat1; have HB1 := Lib.hid (HMA.out.beside2 hg1); have k2 : w2.cell? ⟨b, 2, none⟩ = some (.slice A1 ps.length c1) := block_cell HB1.out 2; have kg2 := block_free HB1.out 2; obtain ⟨A9, c9, rfl⟩ := own_shape ho1; have HO1 := Lib.hid ho1; have HG1 := Lib.hid hg1; have HAT1 := Lib.hid hat1; clear ho1 hg1 hat1)
    go_end0
    rw [HPS.out]
    have hm2 := nums_end (ys := ps ++ [-1]) HMA.out HA1.out HG1.out (by rw [List.length_append]; exact HO1.out) (by rcases HAT1.out with h | h; exact .inl h; exact .inr ⟨_, h, Nat.le_refl _⟩)
    exact ⟨rfl, ⟨_, _, _, hm2.1, hm2.2⟩, hb1.trans ((((Below.refl base w1).alloc (by omega) _).grown HG1.out hbaseA (fun k hk => (HMA.out.nums.lt k hk).1)).setCell (p := ⟨b, 2, none⟩) hlow _)⟩

/-- A csi's byte from 0x30 to 0x3f. -/
def param (m : Mc) (b : UInt8) : Mc :=
  if between m.p.inter = true then m.to 4
  else if b.toNat ≤ 57 then ⟨{ m.p with params := digit m.p.params b }, m.l⟩
  else if b.toNat ≤ 59 then (if m.p.params.length = 16 then m.to 4 else ⟨{ m.p with params := begun m.p.params ++ [-1] }, m.l⟩)
  else if 0 < m.p.params.length ∨ m.p.inter ≠ [] then m.to 4 else ⟨{ m.p with inter := m.p.inter ++ [b] }, m.l⟩

set_option maxHeartbeats 3200000 in
theorem parameter_any (base b : Nat) (m : Mc) (c : UInt8) (w : World) (h : Md w base b m) (hbase : base ≤ w.heap.size) (hk : Ok m.p) (h48 : 48 ≤ c.toNat) (h63 : c.toNat ≤ 63) :
    Calls Tryd.prog 70 #[.pointer (some ⟨b, 0, none⟩), .int .u8 c.toNat] w (RunsD base b w (param m c)) := by
  have hc := Utf.byte_lt c
  have H := Lib.hid h
  obtain ⟨pv, lv, pvs, hm, ha⟩ := h
  obtain ⟨A, cc, rfl⟩ := own_shape hm.nums
  obtain ⟨r0, r1, r2, r3, r4, r5⟩ := hm.reads
  have hi3 := hk.i3
  have hn16 := hk.n16
  have HP := Lib.hid hk.par
  obtain ⟨bt, hbt⟩ : ∃ bt, between m.p.inter = bt := ⟨_, rfl⟩
  have HBT := Lib.hid hbt
  clear hm ha hk hbt
  go_enter Tryd.func70, Tryd.ntmps70
  go_upto_region 2 with (fail)
  go_cut [4, 14] (fun s4 s14 wx => s4 = .int .i64 m.p.inter.length ∧ s14 = .bool bt ∧ wx = w)
  case first =>
    by_cases hi : 0 < m.p.inter.length
    · have hgd : decide ((0 : Int) < (m.p.inter.length : Int)) = true := decide_eq_true (by omega)
      have hgd2 : decide (0 < m.p.inter.length) = true := decide_eq_true hi
      have hw : IntKind.i64.wrap ((m.p.inter.length : Int) - 1) = (m.p.inter.length : Int) - 1 := IntWalk.i64_in _ (by omega)
      have hz : (0 : Int) ≤ (m.p.inter.length : Int) - 1 := by omega
      have hz2 : ((m.p.inter.length : Int) - 1).toNat = m.p.inter.length - 1 := by omega
      have hz4 : (1 : Int) ≤ (m.p.inter.length : Int) := by omega
      have hli := last_at m.p.inter hi
      have hbe : Hid (between m.p.inter = decide (((m.p.inter.getD (m.p.inter.length - 1) 0).toNat : Int) ≤ 47)) := Lib.hid (by
        unfold between; rw [decide_eq_true hi, Bool.true_and]
        rw [decide_eq_decide]; omega)
      generalize m.p.inter.getD (m.p.inter.length - 1) 0 = last at hli hbe
      clear hi
      go_wp2_with fail
      go_meet
      exact ⟨rfl, by rw [← HBT.out, hbe.out], rfl⟩
    · have hgd : decide ((0 : Int) < (m.p.inter.length : Int)) = false := decide_eq_false (by omega)
      have hgd2 : decide (0 < m.p.inter.length) = false := decide_eq_false hi
      have hbe : Hid (between m.p.inter = false) := Lib.hid (by unfold between; rw [decide_eq_false hi]; rfl)
      clear hi
      go_wp2_with fail
      go_meet
      exact ⟨rfl, by rw [← HBT.out, hbe.out], rfl⟩
  case rest =>
    obtain ⟨rfl, rfl, rfl⟩ := hcut
    cases bt with
    | true =>
      have HE : Hid (param m c = m.to 4) := Lib.hid (by unfold param; rw [if_pos HBT.out])
      go_wp2_with fail
      refine (enter_any 4 rfl base b m _ H.out).mono ?_
      rintro e w1 ⟨rfl, hm1, hb1⟩
      have HM1 := Lib.hid hm1
      clear hm1
      go_wp2_with fail
      go_end0
      rw [HE.out]
      exact ⟨rfl, HM1.out, hb1⟩
    | false =>
      have hbf : ¬ between m.p.inter = true := by rw [HBT.out]; decide
      have HBF := Lib.hid hbf
      clear hbf
      by_cases h57 : c.toNat ≤ 57
      · have HE : Hid (param m c = ⟨{ m.p with params := digit m.p.params c }, m.l⟩) := Lib.hid (by unfold param; rw [if_neg HBF.out, if_pos h57])
        have hd1 : decide ((c.toNat : Int) ≤ 57) = true := decide_eq_true (by omega)
        have hwc : ((c.toNat : Int) - 48) % 256 = (c.toNat : Int) - 48 := by omega
        have hwd : IntKind.i64.wrap ((c.toNat : Int) - 48) = (c.toNat : Int) - 48 := IntWalk.i64_in _ (by omega)
        go_wp2_with fail
        refine (digit_any base b m c _ (by first | rfl | omega) h48 h57 _ H.out hbase hn16 HP.out).mono ?_
        rintro e w1 ⟨rfl, hm1, hb1⟩
        have HM1 := Lib.hid hm1
        clear hm1
        go_wp2_with fail
        go_end0
        rw [HE.out]
        exact ⟨rfl, HM1.out, hb1⟩
      have hd1 : decide ((c.toNat : Int) ≤ 57) = false := decide_eq_false (by omega)
      by_cases h59 : c.toNat ≤ 59
      · have HE : Hid (param m c = (if m.p.params.length = 16 then m.to 4 else ⟨{ m.p with params := begun m.p.params ++ [-1] }, m.l⟩)) := Lib.hid (by unfold param; rw [if_neg HBF.out, if_neg h57, if_pos h59])
        have hd2 : decide ((c.toNat : Int) ≤ 59) = true := decide_eq_true (by omega)
        clear h57
        go_wp2_with fail
        refine (separate_any base b m _ H.out hbase hn16).mono ?_
        rintro e w1 ⟨rfl, hm1, hb1⟩
        have HM1 := Lib.hid hm1
        clear hm1
        go_wp2_with fail
        go_end0
        rw [HE.out]
        exact ⟨rfl, HM1.out, hb1⟩
      have hd2 : decide ((c.toNat : Int) ≤ 59) = false := decide_eq_false (by omega)
      by_cases hi : 0 < m.p.inter.length
      · have HE : Hid (param m c = m.to 4) := Lib.hid (by unfold param; rw [if_neg HBF.out, if_neg h57, if_neg h59, if_pos (.inr (fun e => by rw [e] at hi; exact absurd hi (by decide)))])
        have hgd : decide ((0 : Int) < (m.p.inter.length : Int)) = true := decide_eq_true (by omega)
        have hgd2 : decide (0 < m.p.inter.length) = true := decide_eq_true hi
        clear h57 h59 hi
        go_wp2_with fail
        refine (enter_any 4 rfl base b m _ H.out).mono ?_
        rintro e w1 ⟨rfl, hm1, hb1⟩
        have HM1 := Lib.hid hm1
        clear hm1
        go_wp2_with fail
        go_end0
        rw [HE.out]
        exact ⟨rfl, HM1.out, hb1⟩
      have hgd : decide ((0 : Int) < (m.p.inter.length : Int)) = false := decide_eq_false (by omega)
      have hgd2 : decide (0 < m.p.inter.length) = false := decide_eq_false hi
      have hin : m.p.inter = [] := List.eq_nil_of_length_eq_zero (by omega)
      by_cases hp : 0 < m.p.params.length
      · have HE : Hid (param m c = m.to 4) := Lib.hid (by unfold param; rw [if_neg HBF.out, if_neg h57, if_neg h59, if_pos (.inl hp)])
        have hgd3 : decide ((0 : Int) < (m.p.params.length : Int)) = true := decide_eq_true (by omega)
        have hgd4 : decide (0 < m.p.params.length) = true := decide_eq_true hp
        clear h57 h59 hi hin hp
        go_wp2_with fail
        refine (enter_any 4 rfl base b m _ H.out).mono ?_
        rintro e w1 ⟨rfl, hm1, hb1⟩
        have HM1 := Lib.hid hm1
        clear hm1
        go_wp2_with fail
        go_end0
        rw [HE.out]
        exact ⟨rfl, HM1.out, hb1⟩
      · have HE : Hid (param m c = ⟨{ m.p with inter := m.p.inter ++ [c] }, m.l⟩) := Lib.hid (by unfold param; rw [if_neg HBF.out, if_neg h57, if_neg h59, if_neg (fun e => e.elim hp (fun e => e hin))])
        have hgd3 : decide ((0 : Int) < (m.p.params.length : Int)) = false := decide_eq_false (by omega)
        have hgd4 : decide (0 < m.p.params.length) = false := decide_eq_false hp
        clear h57 h59 hi hin hp
        go_wp2_with fail
        refine (between_any base b m c _ H.out hi3 (by omega)).mono ?_
        rintro e w1 ⟨rfl, hm1, hb1⟩
        have HM1 := Lib.hid hm1
        clear hm1
        go_wp2_with fail
        go_end0
        rw [HE.out]
        exact ⟨rfl, HM1.out, hb1⟩
end Vd
end Go.Proofs.YtjodbmfjdpbbnaaDoor
