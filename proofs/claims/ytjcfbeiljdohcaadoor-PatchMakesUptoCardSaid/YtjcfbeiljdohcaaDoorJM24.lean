/- Joined texts: PdMay, PdPlain, PatRefW. -/
import Derived.Test.YtjcfbeiljdohcaaDoorJM23
import Derived.Deep.RegionHeld3
namespace Go.Proofs.YtjcfbeiljdohcaaDoor
set_option maxRecDepth 100000
section
open Go.RowKit
namespace Pat
open Go.Proofs.YtjcfbeiljdohcaaDoor.Row Go.Proofs.YtjcfbeiljdohcaaDoor.Scr Agb
noncomputable def cellsB (n : Nat) (C : Int) (l : List Cl) : Bool := if n = 0 then decide (l.length = 0) else Scr.gridB ⟨(n : Int), C, l⟩
noncomputable def fitB (R : Nat) (C : Int) (f : Bool) (nn : List Int) (l : List Cl) : Bool := if f = true then decide (nn.length = 0) && cellsB R C l else riseB R 0 nn && cellsB nn.length C l
theorem cells_rows {n C : Nat} {l : List Cl} (h1 : 1 ≤ C) (h2 : C ≤ 40) (hn : n ≤ 40) : cellsB n C l = (decide (l.length = n * C) && (List.range n).all fun i => rowB (Row.rowAt l C i)) := by
  unfold cellsB
  by_cases h0 : n = 0
  · subst h0; simp
  · rw [if_neg h0, Bool.eq_iff_iff, Bool.and_eq_true, decide_eq_true_eq, List.all_eq_true, Scr.gridB_iff]
    unfold GridOk
    simp only [Int.toNat_natCast]
    constructor
    · rintro ⟨_, _, h3, h4⟩
      refine ⟨by rw [← Int.natCast_mul] at h3; omega, fun i hi => rowB_iff.2 (h4 i (by rw [List.mem_range] at hi; omega))⟩
    · rintro ⟨h3, h4⟩
      exact ⟨⟨by omega, by omega⟩, ⟨by omega, by omega⟩, by rw [h3, Int.natCast_mul], fun i hi => rowB_iff.1 (h4 i (List.mem_range.2 (by omega)))⟩
theorem rise_len {R : Nat} {nn : List Int} (h : riseB R 0 nn = true) : nn.length ≤ R := by
  obtain ⟨m, e, hp, hb⟩ := (rise_iff R nn 0).1 h
  rw [e, ofN_length]
  have := up_length (lo := 0) hp hb
  omega
theorem patchB_dev (p : Pt) (R C : Nat) (hr : p.rows = R) (hc : p.cols = C) (h : (Row.rng p.rows 1 40 && Row.rng p.cols 1 40) = true) :
    patchB p = ((Row.rng p.row 0 (p.rows - 1) && (Row.rng p.col 0 (p.cols - 1) && (Row.rng p.modes 0 1023 && titleB p.title))) && fitB R C p.all p.at_ p.cells) := by
  obtain ⟨rows, cols, f, nn, l, row, col, modes, title⟩ := p
  simp only at hr hc h
  subst hr; subst hc
  rw [Bool.and_eq_true] at h
  have h1 := rng_yes.1 h.1
  have h2 := rng_yes.1 h.2
  unfold patchB
  simp only
  rw [h.1, h.2, Bool.true_and, Bool.true_and]
  have hh : hasR ⟨R, C, f, nn, l, row, col, modes, title⟩ = ((if f = true then R else nn.length : Nat) : Int) := by
    unfold hasR; cases f <;> rfl
  rw [hh]
  simp only [Int.toNat_natCast]
  have key : ((!f || decide (nn.length = 0)) && (decide (((if f = true then R else nn.length : Nat) : Int) ≤ (R : Int)) && (decide ((l.length : Int) = ((if f = true then R else nn.length : Nat) : Int) * (C : Int)) && (riseB R 0 nn && (List.range (if f = true then R else nn.length)).all fun i => rowB (Row.rowAt l C i))))) = fitB R C f nn l := by
    unfold fitB
    cases f with
    | true =>
      simp only [if_true, Bool.not_true, Bool.false_or, Int.le_refl, decide_true, Bool.true_and]
      rw [cells_rows (by omega) (by omega) (by omega), show decide ((l.length : Int) = (R : Int) * (C : Int)) = decide (l.length = R * C) from decide_eq_decide.2 (by rw [← Int.natCast_mul]; omega)]
      by_cases h0 : nn.length = 0
      · rw [List.eq_nil_of_length_eq_zero h0]; simp [riseB]
      · simp [h0]
    | false =>
      simp only [Bool.false_eq_true, if_false, Bool.not_false, Bool.true_or, Bool.true_and]
      cases hri : riseB R 0 nn with
      | false => simp
      | true =>
        have := rise_len hri
        rw [cells_rows (by omega) (by omega) (by omega), show decide ((l.length : Int) = ((nn.length : Nat) : Int) * (C : Int)) = decide (l.length = nn.length * C) from decide_eq_decide.2 (by rw [← Int.natCast_mul]; omega), decide_eq_true (show ((nn.length : Nat) : Int) ≤ (R : Int) by omega)]
        simp
  rw [key]
  simp only [Bool.and_assoc]
def shS (modes : Int) (t : List UInt8) : S := { newS 1 1 with modes := modes, title := t }
theorem shS_ok (modes : Int) (t : List UInt8) : okB (shS modes t) = (Row.rng modes 0 1023 && titleB t) := by
  have h := newS_ok (r := 1) (c := 1) (by decide) (by decide) (by decide) (by decide)
  cases hb : (Row.rng modes 0 1023 && titleB t) with
  | true =>
    rw [Bool.and_eq_true] at hb
    exact (ok_iff _).2 ⟨h.m, h.o, h.3, h.4, h.k1, h.k2, h.k3, h.8, h.9, hb.1, hb.2, h.l⟩
  | false =>
    cases hc : okB (shS modes t) with
    | false => rfl
    | true =>
      have k := (ok_iff _).1 hc
      have : (Row.rng modes 0 1023 && titleB t) = true := by rw [Bool.and_eq_true]; exact ⟨k.n, k.t⟩
      rw [hb] at this; cases this
theorem shS_holds (modes : Int) (t : List UInt8) (ht : t.length ≤ 1000000000) : Holds (shS modes t) := by
  have h := (newS_ok (r := 1) (c := 1) (by decide) (by decide) (by decide) (by decide)).holds
  exact ⟨h.m, h.o, by show t.length ≤ _; omega⟩
theorem row_other {w : World} {base g e C n : Nat} {v : Value} {xs : List Value} (h : w.ownsRow base e C v n xs) (hg : v.ownBlock ≠ some g) (j : Nat) (u : Value) : (w.setCell ⟨g, j, none⟩ u).ownsRow base e C v n xs := by
  refine ⟨h.1, ?_⟩
  rcases h.2 with h0 | ⟨b, cap, cur, rfl, hb, hk, rest⟩
  · exact .inl h0
  · exact .inr ⟨b, cap, cur, rfl, hb, Blk.other hk (fun e => hg (by rw [e]; rfl)) j u, rest⟩
set_option maxHeartbeats 1600000 in
theorem cellsFit_t (R C p q m : Int) (f : Bool) (T : ByteArray) (u : Value) (A : Option Addr) (c : Nat) (l : List Cl) (n : Nat) (w : World) (hx : Rm w (.slice A l.length c) l) (hs : Held l) :
    Calls Tryd.prog 46 #[.agg #[.int .i64 R, .int .i64 C, .bool f, u, .slice A l.length c, .int .i64 p, .int .i64 q, .int .i64 m, .string T], .int .i64 n] w fun e w' => e = .returned (.bool (cellsB n C l)) ∧ Below w.heap.size w w' := by
  have hb0 := (Below.refl w.heap.size w).alloc (Nat.le_refl _) (.cells #[.int .i64 R, .int .i64 C, .bool f, u, .slice A l.length c, .int .i64 p, .int .i64 q, .int .i64 m, .string T] 35 (0, 0))
  have HB := Lib.hid hb0
  by_cases h0 : n = 0
  · subst h0
    have HF : Hid (cellsB 0 C l = ((l.length : Int) == 0)) := Lib.hid (by
      unfold cellsB; rw [if_pos rfl]
      rw [Bool.eq_iff_iff, decide_eq_true_eq, beq_iff_eq]; omega)
    clear hb0 hx hs
    go_enter Tryd.func46, Tryd.ntmps46
    go_wp2_with fail
    go_ret
    exact ⟨ret_bool2 HF.out.symm, HB.out⟩
  · have HF : Hid (cellsB n C l = Scr.gridB ⟨(n : Int), C, l⟩) := Lib.hid (by unfold cellsB; rw [if_neg h0])
    have hq : ((n : Int) == 0) = false := by rw [beq_eq_false_iff_ne]; omega
    obtain ⟨b, hb⟩ : ∃ b, Scr.gridB ⟨(n : Int), C, l⟩ = b := ⟨_, rfl⟩
    have HC := Lib.hid (gridCheck_any ⟨(n : Int), C, l⟩ b (.slice A l.length c) _ (hx.kept hb0) hs (by rw [← hb]; exact Scr.gridB_iff _))
    rw [hb] at HF
    rw [HF.out]
    clear hb0 hx hs hb h0 HF
    simp only at HC
    go_enter Tryd.func46, Tryd.ntmps46
    go_wp2_with fail
    refine HC.out.mono ?_; rintro e w1 ⟨rfl, hb1⟩
    have HB1 := Lib.hid (HB.out.trans (hb1.mono HB.out.size))
    clear hb1
    cases b
    all_goals
      go_wp2_with fail
      go_ret
      exact ⟨rfl, HB1.out⟩
set_option maxHeartbeats 3200000 in
theorem rowsFit_true (R : Nat) (C p q m : Int) (t : List UInt8) (nn : List Int) (l : List Cl) (Au A : Option Addr) (cu c : Nat) (w : World) (hx : Rm w (.slice A l.length c) l) (hs : Held l) :
    Calls Tryd.prog 33 #[.agg #[.int .i64 R, .int .i64 C, .bool true, .slice Au nn.length cu, .slice A l.length c, .int .i64 p, .int .i64 q, .int .i64 m, .string ⟨t.toArray⟩]] w fun e w' => e = .returned (.bool (fitB R C true nn l)) ∧ Below w.heap.size w w' := by
  have hb0 := (Below.refl w.heap.size w).alloc (Nat.le_refl _) (.cells #[.int .i64 R, .int .i64 C, .bool true, .slice Au nn.length cu, .slice A l.length c, .int .i64 p, .int .i64 q, .int .i64 m, .string ⟨t.toArray⟩] 35 (0, 0))
  have HB := Lib.hid hb0
  have HX : Hid ((w.alloc (.cells #[.int .i64 R, .int .i64 C, .bool true, .slice Au nn.length cu, .slice A l.length c, .int .i64 p, .int .i64 q, .int .i64 m, .string ⟨t.toArray⟩] 35 (0, 0))).heap[w.heap.size]? = some (.cells #[.int .i64 R, .int .i64 C, .bool true, .slice Au nn.length cu, .slice A l.length c, .int .i64 p, .int .i64 q, .int .i64 m, .string ⟨t.toArray⟩] 35 (0, 0))) := Lib.hid (new_alloc _ _ _ rfl)
  have HC := Lib.hid (cellsFit_t R C p q m true ⟨t.toArray⟩ (.slice Au nn.length cu) A c l R _ (hx.kept hb0) hs)
  have HF : Hid (fitB R C true nn l = (((nn.length : Int) == 0) && cellsB R C l)) := Lib.hid (by
    unfold fitB; rw [if_pos rfl]
    congr 1
    rw [Bool.eq_iff_iff, decide_eq_true_eq, beq_iff_eq]; omega)
  rw [HF.out]
  clear hb0 hx hs HF
  cases hq : ((nn.length : Int) == 0)
  · clear HC
    go_enter Tryd.func33, Tryd.ntmps33
    go_wp2_with fail
    go_ret
    exact ⟨rfl, HB.out⟩
  · generalize cellsB R C l = b at HC ⊢
    go_enter Tryd.func33, Tryd.ntmps33
    go_wp2_with (refine wp_loadP rfl rfl rfl HX.out ?_)
    refine HC.out.mono ?_; rintro e w1 ⟨rfl, hb1⟩
    have HB1 := Lib.hid (HB.out.trans (hb1.mono HB.out.size))
    clear hb1
    go_wp2_with fail
    go_ret
    exact ⟨rfl, HB1.out⟩
set_option maxHeartbeats 3200000 in
theorem rowsFit_false (R : Nat) (C p q m : Int) (t : List UInt8) (nn : List Int) (l : List Cl) (Au A : Option Addr) (cu c : Nat) (w : World) (hu : Sl w (.slice Au nn.length cu) nn) (hx : Rm w (.slice A l.length c) l) (hs : Held l) (hR : R ≤ 40) (hn : nn.length ≤ 1000000) :
    Calls Tryd.prog 33 #[.agg #[.int .i64 R, .int .i64 C, .bool false, .slice Au nn.length cu, .slice A l.length c, .int .i64 p, .int .i64 q, .int .i64 m, .string ⟨t.toArray⟩]] w fun e w' => e = .returned (.bool (fitB R C false nn l)) ∧ Below w.heap.size w w' := by
  have hb0 := (Below.refl w.heap.size w).alloc (Nat.le_refl _) (.cells #[.int .i64 R, .int .i64 C, .bool false, .slice Au nn.length cu, .slice A l.length c, .int .i64 p, .int .i64 q, .int .i64 m, .string ⟨t.toArray⟩] 35 (0, 0))
  have HB := Lib.hid hb0
  have HX : Hid ((w.alloc (.cells #[.int .i64 R, .int .i64 C, .bool false, .slice Au nn.length cu, .slice A l.length c, .int .i64 p, .int .i64 q, .int .i64 m, .string ⟨t.toArray⟩] 35 (0, 0))).heap[w.heap.size]? = some (.cells #[.int .i64 R, .int .i64 C, .bool false, .slice Au nn.length cu, .slice A l.length c, .int .i64 p, .int .i64 q, .int .i64 m, .string ⟨t.toArray⟩] 35 (0, 0))) := Lib.hid (new_alloc _ _ _ rfl)
  have HR := Lib.hid (rising_any R nn (.slice Au nn.length cu) _ (hu.kept hb0) hR hn)
  have HC := Lib.hid (cellsFit_t R C p q m false ⟨t.toArray⟩ (.slice Au nn.length cu) A c l nn.length _ (hx.kept hb0) hs)
  have HF : Hid (fitB R C false nn l = (riseB R 0 nn && cellsB nn.length C l)) := Lib.hid (by unfold fitB; rw [if_neg (by decide)])
  rw [HF.out]
  clear hb0 hx hs HF hu
  generalize riseB R 0 nn = a at HR ⊢
  generalize cellsB nn.length C l = b at HC ⊢
  cases a
  · clear HC
    go_enter Tryd.func33, Tryd.ntmps33
    go_wp2_with fail
    refine HR.out.mono ?_; rintro e w' ⟨rfl, rfl⟩
    go_wp2_with fail
    go_ret
    exact ⟨rfl, HB.out⟩
  · go_enter Tryd.func33, Tryd.ntmps33
    go_wp2_with fail
    refine HR.out.mono ?_; rintro e w' ⟨rfl, rfl⟩
    go_wp2_with (refine wp_loadP rfl rfl rfl HX.out ?_)
    refine HC.out.mono ?_; rintro e w1 ⟨rfl, hb1⟩
    have HB1 := Lib.hid (HB.out.trans (hb1.mono HB.out.size))
    clear hb1
    go_wp2_with fail
    go_ret
    exact ⟨rfl, HB1.out⟩
theorem rowsFit_any (R : Nat) (C p q m : Int) (f : Bool) (t : List UInt8) (nn : List Int) (l : List Cl) (Au A : Option Addr) (cu c : Nat) (w : World) (hu : Sl w (.slice Au nn.length cu) nn) (hx : Rm w (.slice A l.length c) l) (hs : Held l) (hR : R ≤ 40) (hn : nn.length ≤ 1000000) :
    Calls Tryd.prog 33 #[.agg #[.int .i64 R, .int .i64 C, .bool f, .slice Au nn.length cu, .slice A l.length c, .int .i64 p, .int .i64 q, .int .i64 m, .string ⟨t.toArray⟩]] w fun e w' => e = .returned (.bool (fitB R C f nn l)) ∧ Below w.heap.size w w' := by
  cases f with
  | true => exact rowsFit_true R C p q m t nn l Au A cu c w hx hs
  | false => exact rowsFit_false R C p q m t nn l Au A cu c w hu hx hs hR hn
set_option maxHeartbeats 6400000 in
theorem shown_t (R C : Nat) (p q m : Int) (f : Bool) (t : List UInt8) (u : Value) (A : Option Addr) (n c : Nat) (w : World) (hT : Tabs w) (ht : t.length ≤ 1000000000) (hR1 : 1 ≤ R) (hR : R ≤ 40) (hC1 : 1 ≤ C) (hC : C ≤ 40) :
    Calls Tryd.prog 32 #[.agg #[.int .i64 R, .int .i64 C, .bool f, u, .slice A n c, .int .i64 p, .int .i64 q, .int .i64 m, .string ⟨t.toArray⟩]] w fun e w' => e = .returned (.bool (Row.rng p 0 ((R : Int) - 1) && (Row.rng q 0 ((C : Int) - 1) && (Row.rng m 0 1023 && titleB t)))) ∧ Below w.heap.size w w' := by
  have hb0 := (Below.refl w.heap.size w).alloc (Nat.le_refl _) (.cells #[.int .i64 R, .int .i64 C, .bool f, u, .slice A n c, .int .i64 p, .int .i64 q, .int .i64 m, .string ⟨t.toArray⟩] 35 (0, 0))
  have HB := Lib.hid hb0
  have HX : Hid ((w.alloc (.cells #[.int .i64 R, .int .i64 C, .bool f, u, .slice A n c, .int .i64 p, .int .i64 q, .int .i64 m, .string ⟨t.toArray⟩] 35 (0, 0))).heap[w.heap.size]? = some (.cells #[.int .i64 R, .int .i64 C, .bool f, u, .slice A n c, .int .i64 p, .int .i64 q, .int .i64 m, .string ⟨t.toArray⟩] 35 (0, 0))) := Lib.hid (new_alloc _ _ _ rfl)
  have HNW := Lib.hid (fun W => Scr.new_any 1 1 W (by decide) (by decide) (by decide) (by decide))
  have HCK := Lib.hid (fun x y z W (h : In W (shS m t) x y z) (hw : Below w.heap.size w W) => Scr.check_any (shS m t) x y z W h (shS_holds m t ht) (hT.kept hw))
  rw [shS_ok] at HCK
  have HI1 := Lib.hid (fun W => patIn_at p 0 ((R : Int) - 1) _ rfl W)
  have HI2 := Lib.hid (fun W => patIn_at q 0 ((C : Int) - 1) _ rfl W)
  generalize Row.rng p 0 ((R : Int) - 1) = a1 at HI1 ⊢
  generalize Row.rng q 0 ((C : Int) - 1) = a2 at HI2 ⊢
  generalize (Row.rng m 0 1023 && titleB t) = a3 at HCK ⊢
  clear hb0 hT ht
  go_enter Tryd.func32, Tryd.ntmps32
  go_wp2_with fail
  refine (HNW.out _).mono ?_; rintro e w1 ⟨x, y, z, rfl, ho, hb⟩
  have HX1 := Lib.hid (Blk.kept HX.out hb)
  have HB1 := Lib.hid (HB.out.trans (hb.mono HB.out.size))
  have HO1 := Lib.hid ho
  clear ho hb HX HB HNW
  obtain ⟨bs, hbs⟩ : ∃ b, w1.heap.size = b := ⟨_, rfl⟩
  have hlt0 : w.heap.size < bs := by rw [← hbs]; exact Blk.lt HX1.out
  go_upto_region 2 with (first
    | (refine Scr.wp_allocS rfl rfl hbs ?_)
    | (refine Scr.wp_storeS (b := bs) (A := sarr (newS 1 1) x y z) rfl rfl rfl rfl rfl HO1.out.in_.one (by rw [← hbs]; exact heap_alloc_new _ _) rfl ?_; intro w2 hs2; have HX2 := Lib.hid ((hs2.other w.heap.size (by omega)).trans (old_alloc HX1.out _)); have HB2 := Lib.hid (hs2.below w.heap.size w (by omega) (HB1.out.alloc HB1.out.size _)); have HO2 := Lib.hid (HO1.out.kept (hs2.below w1.heap.size w1 (by omega) ((Below.refl _ _).alloc (Nat.le_refl _) _))); have HNB : Hid (x.ownBlock ≠ some bs ∧ y.ownBlock ≠ some bs ∧ z.ownBlock ≠ some bs) := Lib.hid ⟨fun q => by have := (World.ownsRow.lt HO1.out.m bs q).2; omega, fun q => by have := (World.ownsRow.lt HO1.out.o bs q).2; omega, fun q => by have := (World.ownsRow.lt HO1.out.t bs q).2; omega⟩; have HS2 : Hid (SBox w2 bs (newS 1 1) x y z) := Lib.hid hs2.box; clear hs2))
  clear HX1 HB1 HO1 hbs
  have c7 : w2.cell? ⟨w.heap.size, 7, none⟩ = some (.int .i64 m) := Blk.cell HX2.out 7
  have c8 : w2.cell? ⟨w.heap.size, 8, none⟩ = some (.string ⟨t.toArray⟩) := Blk.cell HX2.out 8
  have d40 : w2.cell? ⟨bs, 40, none⟩ = some (.int .i64 (newS 1 1).modes) := Blk.cell HS2.out 40
  have d41 : w2.cell? ⟨bs, 41, none⟩ = some (.string ⟨(newS 1 1).title.toArray⟩) := Blk.cell HS2.out 41
  have f40 := Blk.free HS2.out 40
  have f41 := Blk.free HS2.out 41
  have hne : ¬ w.heap.size = bs := by omega
  have hne2 : ¬ bs = w.heap.size := by omega
  have HX3 : Hid (((w2.setCell ⟨bs, 40, none⟩ (.int .i64 m)).setCell ⟨bs, 41, none⟩ (.string ⟨t.toArray⟩)).drew.heap[w.heap.size]? = some (.cells #[.int .i64 R, .int .i64 C, .bool f, u, .slice A n c, .int .i64 p, .int .i64 q, .int .i64 m, .string ⟨t.toArray⟩] 35 (0, 0))) := Lib.hid (Blk.other (Blk.other HX2.out hne _ _) hne _ _)
  have HS3 : Hid (SBox ((w2.setCell ⟨bs, 40, none⟩ (.int .i64 m)).setCell ⟨bs, 41, none⟩ (.string ⟨t.toArray⟩)).drew bs (shS m t) x y z) := Lib.hid (Blk.set (Blk.set HS2.out 40 _) 41 _)
  have HB3 : Hid (Below w.heap.size w ((w2.setCell ⟨bs, 40, none⟩ (.int .i64 m)).setCell ⟨bs, 41, none⟩ (.string ⟨t.toArray⟩)).drew) := Lib.hid (((HB2.out.setCell (p := ⟨bs, 40, none⟩) (Nat.le_of_lt hlt0) _).setCell (p := ⟨bs, 41, none⟩) (Nat.le_of_lt hlt0) _).drew)
  have HI3 : Hid (In ((w2.setCell ⟨bs, 40, none⟩ (.int .i64 m)).setCell ⟨bs, 41, none⟩ (.string ⟨t.toArray⟩)).drew (shS m t) x y z) := Lib.hid (by
    have h1 := row_other (row_other HO2.out.m HNB.out.1 40 (.int .i64 m)) HNB.out.1 41 (.string ⟨t.toArray⟩)
    have h2 := row_other (row_other HO2.out.o HNB.out.2.1 40 (.int .i64 m)) HNB.out.2.1 41 (.string ⟨t.toArray⟩)
    have h3 := row_other (row_other HO2.out.t HNB.out.2.2 40 (.int .i64 m)) HNB.out.2.2 41 (.string ⟨t.toArray⟩)
    exact Own.in_ (s := shS m t) ⟨h1, h2, h3⟩)
  go_region
  all_goals
    clear c7 c8 d40 d41 f40 f41 HX2 HB2 HO2 HS2
    generalize ((w2.setCell ⟨bs, 40, none⟩ (.int .i64 m)).setCell ⟨bs, 41, none⟩ (.string ⟨t.toArray⟩)).drew = w3 at HX3 HS3 HB3 HI3 ⊢
    have c0 : w3.cell? ⟨w.heap.size, 0, none⟩ = some (.int .i64 R) := Blk.cell HX3.out 0
    have c1 : w3.cell? ⟨w.heap.size, 1, none⟩ = some (.int .i64 C) := Blk.cell HX3.out 1
    have c5 : w3.cell? ⟨w.heap.size, 5, none⟩ = some (.int .i64 p) := Blk.cell HX3.out 5
    have c6 : w3.cell? ⟨w.heap.size, 6, none⟩ = some (.int .i64 q) := Blk.cell HX3.out 6
    cases a1 with
    | false =>
      go_wp2_with fail
      refine (HI1.out _).mono ?_; rintro e w' ⟨rfl, rfl⟩
      go_wp2_with fail
      go_ret
      exact ⟨rfl, HB3.out⟩
    | true =>
      go_wp2_with fail
      refine (HI1.out _).mono ?_; rintro e w' ⟨rfl, rfl⟩
      go_wp2_with fail
      cases a2 with
      | false =>
        refine (HI2.out _).mono ?_; rintro e w' ⟨rfl, rfl⟩
        go_wp2_with fail
        go_ret
        exact ⟨rfl, HB3.out⟩
      | true =>
        refine (HI2.out _).mono ?_; rintro e w' ⟨rfl, rfl⟩
        go_wp2_with (refine wp_loadS (b := bs) rfl rfl rfl HS3.out ?_)
        refine (HCK.out x y z _ HI3.out HB3.out).mono ?_; rintro e w4 ⟨rfl, hb4⟩
        have HB4 := Lib.hid (HB3.out.trans (hb4.mono HB3.out.size))
        clear hb4
        cases a3
        all_goals
          simp only [codeB, Bool.false_eq_true, if_false, if_true]
          go_wp2_with fail
          go_ret
          exact ⟨rfl, HB4.out⟩
end Pat
end
section
namespace Pat
open Go.Proofs.YtjcfbeiljdohcaaDoor.Row Go.Proofs.YtjcfbeiljdohcaaDoor.Scr
def mkL (R : Nat) (P : Nat → Bool) (f : Nat → List Cl) : List (Option (List Cl)) := (List.range R).map fun i => if P i = true then some (f i) else none
theorem mkL_length (R : Nat) (P : Nat → Bool) (f : Nat → List Cl) : (mkL R P f).length = R := by unfold mkL; simp
theorem mkL_get (R : Nat) (P : Nat → Bool) (f : Nat → List Cl) {i : Nat} (h : i < R) : (mkL R P f).getD i none = if P i = true then some (f i) else none := by
  unfold mkL; simp [List.getD, h]
theorem opt_ext {a b : List (Option (List Cl))} (h : a.length = b.length) (k : ∀ i, i < a.length → a.getD i none = b.getD i none) : a = b := by
  apply List.ext_getElem h
  intro i h1 h2
  have := k i h1
  simpa [List.getD, h1, h2] using this
theorem mkL_is {L : List (Option (List Cl))} {R : Nat} {P : Nat → Bool} {f : Nat → List Cl} (h : L.length = R) (k : ∀ i, i < R → L.getD i none = if P i = true then some (f i) else none) : L = mkL R P f :=
  opt_ext (by rw [h, mkL_length]) fun i hi => by rw [k i (by omega), mkL_get R P f (by omega)]
def toldTo (R : Nat) (P : Nat → Bool) : List Nat := (List.range R).filter P
theorem toldTo_yes {k : Nat} {P : Nat → Bool} (h : P k = true) : toldTo (k + 1) P = toldTo k P ++ [k] := by
  unfold toldTo; rw [List.range_succ, List.filter_append, List.filter_cons, if_pos h]; rfl
theorem toldTo_no {k : Nat} {P : Nat → Bool} (h : P k = false) : toldTo (k + 1) P = toldTo k P := by
  unfold toldTo; rw [List.range_succ, List.filter_append, List.filter_cons, h]; simp
theorem toldTo_len (k : Nat) (P : Nat → Bool) : (toldTo k P).length ≤ k := by
  unfold toldTo
  have := List.length_filter_le P (List.range k)
  rw [List.length_range] at this; exact this
theorem toldTo_mem {k : Nat} {P : Nat → Bool} {i : Nat} : i ∈ toldTo k P ↔ i < k ∧ P i = true := by
  unfold toldTo; rw [List.mem_filter, List.mem_range]
theorem toldTo_all (k : Nat) : toldTo k (fun _ => true) = List.range k := by unfold toldTo; simp
theorem toldTo_flat {R C k : Nat} {P : Nat → Bool} {f : Nat → List Cl} (hf : ∀ i, i < R → P i = true → (f i).length = C) (hk : k ≤ R) (h1 : R ≤ 40) (h2 : C ≤ 40) : (((toldTo k P).map f).flatten).length ≤ 1600 := by
  have he : Even C ((toldTo k P).map f) := by
    intro r hr
    obtain ⟨i, hi, rfl⟩ := List.mem_map.1 hr
    have := toldTo_mem.1 hi
    exact hf i (by omega) this.2
  rw [even_length he, List.length_map]
  have := toldTo_len k P
  exact Nat.le_trans (Nat.mul_le_mul (show _ ≤ 40 by omega) h2) (by decide)
def withP (p : Pt) (R : Nat) (P : Nat → Bool) (f : Nat → List Cl) : Pt :=
  { p with at_ := if p.all then [] else ofN (toldTo R P), cells := ((toldTo R P).map f).flatten }
def tellsB (p : Pt) (i : Nat) : Bool := p.all || decide (i ∈ places p)
def tells (p : Pt) (i : Nat) : List Cl := if p.all then rowOf (rowsP p) i else rowIn p i
def atP (p : Pt) : List Nat := if p.all then List.range p.rows.toNat else places p
theorem PtR.atp {p : Pt} {R C : Nat} {l : List Nat} {rs : List (List Cl)} (h : PtR p R C l rs) : atP p = if p.all then List.range R else l := by
  unfold atP; rw [h.rows, h.placed, Int.toNat_natCast]
theorem PtR.atLen {p : Pt} {R C : Nat} {l : List Nat} {rs : List (List Cl)} (h : PtR p R C l rs) : (atP p).length = rs.length := by
  rw [h.atp, h.len]
  split <;> simp
theorem PtR.atUp {p : Pt} {R C : Nat} {l : List Nat} {rs : List (List Cl)} (h : PtR p R C l rs) : (atP p).Pairwise (· < ·) := by
  rw [h.atp]
  split
  · exact List.pairwise_lt_range
  · exact h.up
theorem PtR.atLt {p : Pt} {R C : Nat} {l : List Nat} {rs : List (List Cl)} (h : PtR p R C l rs) : ∀ i ∈ atP p, i < R := by
  rw [h.atp]
  split
  · intro i hi; exact List.mem_range.1 hi
  · exact h.lt
theorem range_rows (rs : List (List Cl)) : (List.range rs.length).map (rowOf rs) = rs := by
  apply List.ext_getElem (by simp)
  intro i h1 h2
  unfold rowOf
  simp [List.getD, h2]
theorem PtR.atRows {p : Pt} {R C : Nat} {l : List Nat} {rs : List (List Cl)} (h : PtR p R C l rs) : (atP p).map (tells p) = rs := by
  rw [h.atp]
  cases ha : p.all
  · have e : tells p = rowIn p := by funext i; unfold tells; rw [ha]; rfl
    rw [e]; exact h.rowsIn ha
  · have e : tells p = rowOf rs := by funext i; unfold tells; rw [ha, h.parted]; rfl
    have hl : rs.length = R := by have := h.len; rw [ha] at this; exact this
    rw [e, if_pos rfl, ← hl]; exact range_rows rs
theorem PtR.tellsMem {p : Pt} {R C : Nat} {l : List Nat} {rs : List (List Cl)} (h : PtR p R C l rs) (i : Nat) (hi : i < R) : tellsB p i = true ↔ i ∈ atP p := by
  unfold tellsB
  rw [h.atp]
  cases ha : p.all
  · rw [h.placed]; simp
  · simp [hi]
theorem PtR.tellsIn {p : Pt} {R C : Nat} {l : List Nat} {rs : List (List Cl)} (h : PtR p R C l rs) {i : Nat} (hi : i ∈ atP p) : tells p i ∈ rs := by
  have := h.atRows
  rw [← this]; exact List.mem_map.2 ⟨i, hi, rfl⟩
theorem PtR.tellsLen {p : Pt} {R C : Nat} {l : List Nat} {rs : List (List Cl)} (h : PtR p R C l rs) {i : Nat} (hi : i < R) (ht : tellsB p i = true) : (tells p i).length = C :=
  h.even _ (h.tellsIn ((h.tellsMem i hi).1 ht))
def putL (f : Nat → List Cl) : List (Option (List Cl)) → List Nat → List (Option (List Cl))
  | ls, [] => ls
  | ls, i :: l => putL f (ls.set i (some (f i))) l
theorem putL_length (f : Nat → List Cl) : ∀ (l : List Nat) (ls : List (Option (List Cl))), (putL f ls l).length = ls.length
  | [], _ => rfl
  | i :: l, ls => by unfold putL; rw [putL_length f l, List.length_set]
theorem putL_snoc (f : Nat → List Cl) : ∀ (l : List Nat) (i : Nat) (ls : List (Option (List Cl))), putL f ls (l ++ [i]) = (putL f ls l).set i (some (f i))
  | [], _, _ => rfl
  | k :: l, i, ls => by show putL f (ls.set k _) (l ++ [i]) = _; rw [putL_snoc f l i]; rfl
theorem putL_get (f : Nat → List Cl) : ∀ (l : List Nat) (ls : List (Option (List Cl))) (_ : ∀ i ∈ l, i < ls.length) (j : Nat), (putL f ls l).getD j none = if j ∈ l then some (f j) else ls.getD j none
  | [], ls, _, j => by simp [putL]
  | i :: l, ls, h, j => by
    have h1 : i < ls.length := h i (List.mem_cons_self ..)
    show (putL f (ls.set i (some (f i))) l).getD j none = _
    rw [putL_get f l _ (fun k hk => by rw [List.length_set]; exact h k (List.mem_cons_of_mem _ hk)) j]
    by_cases e : j ∈ l
    · rw [if_pos e, if_pos (List.mem_cons_of_mem _ e)]
    · rw [if_neg e]
      by_cases e2 : j = i
      · subst e2
        rw [if_pos (List.mem_cons_self ..)]
        simp [List.getD, h1]
      · rw [if_neg (by rw [List.mem_cons]; rintro (q | q); exact e2 q; exact e q)]
        simp [List.getD, List.getElem?_set_ne (fun q => e2 q.symm)]
theorem PtR.putAll {p : Pt} {R C : Nat} {l : List Nat} {rs : List (List Cl)} (h : PtR p R C l rs) : putL (tells p) (List.replicate R Option.none) (atP p) = mkL R (tellsB p) (tells p) := by
  refine mkL_is (by rw [putL_length, List.length_replicate]) fun i hi => ?_
  rw [putL_get _ _ _ (fun k hk => by rw [List.length_replicate]; exact h.atLt k hk)]
  by_cases e : i ∈ atP p
  · rw [if_pos e, if_pos ((h.tellsMem i hi).2 e)]
  · rw [if_neg e, if_neg (fun q => e ((h.tellsMem i hi).1 q))]; simp [List.getD, hi]
theorem toldTo_congr {R : Nat} {P P' : Nat → Bool} (h : ∀ i, i < R → P i = P' i) : toldTo R P = toldTo R P' := by
  unfold toldTo
  exact List.filter_congr fun i hi => h i (List.mem_range.1 hi)
theorem withP_congr {p : Pt} {R : Nat} {P P' : Nat → Bool} {f f' : Nat → List Cl} (h : ∀ i, i < R → P i = P' i) (k : ∀ i, i < R → P' i = true → f i = f' i) : withP p R P f = withP p R P' f' := by
  unfold withP
  rw [toldTo_congr h]
  have : (toldTo R P').map f = (toldTo R P').map f' := by
    apply List.map_congr_left
    intro i hi
    have := toldTo_mem.1 hi
    exact k i this.1 this.2
  rw [this]
theorem withP_own {p : Pt} {R C : Nat} {l : List Nat} {rs : List (List Cl)} (h : PtR p R C l rs) : withP p R (tellsB p) (tells p) = p := by
  have e : toldTo R (tellsB p) = atP p := by
    have h1 : (toldTo R (tellsB p)).Pairwise (· < ·) := List.Pairwise.filter _ List.pairwise_lt_range
    have h2 := h.atUp
    refine List.Perm.eq_of_pairwise (le := (· < ·)) (fun a b _ _ q1 q2 => by omega) h1 h2 ?_
    refine (List.perm_ext_iff_of_nodup (nodup_of_up h1) (nodup_of_up h2)).2 fun i => ?_
    rw [toldTo_mem]
    constructor
    · rintro ⟨q1, q2⟩; exact (h.tellsMem i q1).1 q2
    · intro q; exact ⟨h.atLt i q, (h.tellsMem i (h.atLt i q)).2 q⟩
  unfold withP
  rw [e, h.atRows, ← h.cells]
  have e3 : (if p.all = true then [] else ofN (atP p)) = p.at_ := by
    cases ha : p.all
    · rw [h.atp, ha, h.at_]; rfl
    · rw [h.at_, h.none ha]; rfl
  rw [e3]
noncomputable def chB (rs ss : List (List Cl)) (i : Nat) : Bool := @decide (rowOf rs i ≠ rowOf ss i) (Classical.propDecidable _)
theorem withP_between {a b : Vw} {R C : Nat} {rs ss : List (List Cl)} (ea : a.g = ⟨(R : Int), (C : Int), rs.flatten⟩) (eb : b.g = ⟨(R : Int), (C : Int), ss.flatten⟩) (hr : Rws R C rs) (hs : Rws R C ss) :
    withP { whole b with all := false } R (chB rs ss) (rowOf ss) = between a b := by
  rw [between_rows ea eb hr hs]
  unfold withP whole
  rw [eb]
  have e : toldTo R (chB rs ss) = diff rs ss := by unfold toldTo diff chB; rw [hs.len]
  rw [e]; rfl
def ovB (p q : Pt) (i : Nat) : Bool := tellsB q i || tellsB p i
def ovT (p q : Pt) (i : Nat) : List Cl := if tellsB q i = true then tells q i else tells p i
theorem withP_over {p q : Pt} {R C R' C' : Nat} {l m : List Nat} {rs ss : List (List Cl)} (hp : PtR p R C l rs) (hq : PtR q R' C' m ss) (hg : goesB p q = true) :
    withP { q with all := q.all || p.all } R' (ovB p q) (ovT p q) = compose p q := by
  cases aq : q.all with
  | true =>
    have e1 : withP { q with all := true || p.all } R' (ovB p q) (ovT p q) = withP q R' (tellsB q) (tells q) := by
      have e0 : ({ q with all := true || p.all } : Pt) = q := by rw [Bool.true_or, ← aq]
      rw [e0]
      refine withP_congr (fun i _ => ?_) fun i _ h => ?_
      · unfold ovB tellsB; rw [aq]; rfl
      · unfold ovT; rw [if_pos h]
    rw [e1, withP_own hq]
    unfold compose; rw [aq]; rfl
  | false =>
    have hR : R = R' ∧ C = C' := by
      unfold goesB at hg
      rw [aq, hp.rows, hp.cols, hq.rows, hq.cols] at hg
      simp at hg; omega
    obtain ⟨rfl, rfl⟩ := hR
    cases ap : p.all with
    | true =>
      have hl : rs.length = R := by have := hp.len; rw [ap] at this; exact this
      have ht : ∀ i, tells p i = rowOf rs i := fun i => by unfold tells; rw [ap, hp.parted]; rfl
      have hu : ∀ i, tells q i = rowIn q i := fun i => by unfold tells; rw [aq]; rfl
      have hb : ∀ i, tellsB q i = decide (i ∈ m) := fun i => by unfold tellsB; rw [aq, hq.placed]; rfl
      unfold compose
      rw [aq, ap]
      unfold withP
      have e1 : toldTo R (ovB p q) = List.range R := by
        rw [← toldTo_all R]
        exact toldTo_congr fun i _ => by unfold ovB tellsB; rw [ap]; simp
      rw [e1, hp.parted, hq.placed, hq.parted]
      have e2 : (List.range R).map (ovT p q) = putR rs m ss := by
        have e3 : ss = m.map (rowIn q) := (hq.rowsIn aq).symm
        have e4 : (putR rs m ss).length = R := by rw [putR_length, hl]
        rw [← range_rows (putR rs m ss), e4]
        apply List.map_congr_left
        intro i _
        rw [e3, putR_get (rowIn q) m rs (fun k hk => by rw [hl]; exact hq.lt k hk) i]
        unfold ovT
        rw [hb, hu, ht]
        by_cases e : i ∈ m
        · rw [if_pos (decide_eq_true e), if_pos e]
        · rw [if_neg (by simp [e]), if_neg e]
      rw [e2]
      rfl
    | false =>
      rw [compose_mixed hp hq ap aq]
      unfold withP
      have hb : ∀ i, ovB p q i = decide (i ∈ l ∨ i ∈ m) := fun i => by
        unfold ovB tellsB; rw [ap, aq, hp.placed, hq.placed]
        by_cases e1 : i ∈ l <;> by_cases e2 : i ∈ m <;> simp [e1, e2]
      have e1 : toldTo R (ovB p q) = joined R l m := by
        unfold joined toldTo
        exact List.filter_congr fun i _ => hb i
      have e2 : (joined R l m).map (ovT p q) = (joined R l m).map (mixed p q) := by
        apply List.map_congr_left
        intro i _
        unfold ovT mixed tells tellsB
        rw [ap, aq, hq.placed]
        by_cases e : i ∈ m <;> simp [e]
      rw [e1, e2, hq.rows, hq.cols]
      rfl
end Pat
end
section
open Go.RowKit
namespace Pat
open Go.Proofs.YtjcfbeiljdohcaaDoor.Row Go.Proofs.YtjcfbeiljdohcaaDoor.Scr Agb
end Pat
end
end Go.Proofs.YtjcfbeiljdohcaaDoor
