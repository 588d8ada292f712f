/- Joined texts: PatWakes, RowFar, PatFar, PatLawH, PatVs. -/
import Derived.Test.YtjcfbeiljdohcaaDoorJM32
import Derived.Test.YtjcfbeiljdohcaaDoorJM33
import Derived.Maps.AppendAt
namespace Go.Proofs.YtjcfbeiljdohcaaDoor
set_option maxRecDepth 100000
section
open Go.RowKit
namespace Pat
open Go.Proofs.YtjcfbeiljdohcaaDoor.Row Go.Proofs.YtjcfbeiljdohcaaDoor.Scr Agb
def wb0 : Cl := ⟨32, [], 0, ⟨-1, -1, 0⟩⟩
def wx0 : Cl := ⟨120, [], 0, ⟨-1, -1, 0⟩⟩
theorem two_ok {a b : Cl} (ha : kind a = 1) (hb : kind b = 1) : RowOk [a, b] := by
  refine ⟨by simp, by simp, fun i hi => .inl ?_⟩
  have hi : i < 2 := hi
  rcases (by omega : i = 0 ∨ i = 1) with rfl | rfl
  · exact ha
  · exact hb
theorem kb0 : kind wb0 = 1 := by kernel_rfl
theorem kx0 : kind wx0 = 1 := by kernel_rfl
theorem rows_w {a b c d : Cl} (h1 : RowOk [a, b]) (h2 : RowOk [c, d]) : Rws 2 2 [[a, b], [c, d]] := by
  refine ⟨by omega, by omega, by omega, by omega, rfl, fun r hr => ?_, fun i hi => ?_⟩
  · simp only [List.mem_cons, List.not_mem_nil, or_false] at hr
    rcases hr with rfl | rfl <;> rfl
  · rcases (by omega : i = 0 ∨ i = 1) with rfl | rfl
    · exact h1
    · exact h2
theorem view_w {a b c d : Cl} (h1 : RowOk [a, b]) (h2 : RowOk [c, d]) : viewB ⟨⟨2, 2, [a, b, c, d]⟩, 0, 0, 0, []⟩ = true :=
  (viewB_iff _).2 ⟨by unfold headV; simp only [Bool.and_eq_true]; exact ⟨rfl, rfl, rfl, by kernel_rfl⟩, 2, 2, [[a, b], [c, d]], rfl, rows_w h1 h2⟩
theorem diff_w : diff [[wb0, wb0], [wb0, wb0]] [[wb0, wb0], [wb0, wx0]] = [1] := by
  rw [← diffTo_all]
  show diffTo _ _ 2 = _
  rw [diffTo_other (by unfold rowOf wb0 wx0; simp)]
  show diffTo _ _ (0 + 1) ++ [1] = _
  rw [diffTo_same (a := [[wb0, wb0], [wb0, wb0]]) (b := [[wb0, wb0], [wb0, wx0]]) (k := 0) rfl]
  rfl
theorem between_w : between ⟨⟨2, 2, [wb0, wb0, wb0, wb0]⟩, 0, 0, 0, []⟩ ⟨⟨2, 2, [wb0, wb0, wb0, wx0]⟩, 0, 0, 0, []⟩ = ⟨2, 2, false, [1], [wb0, wx0], 0, 0, 0, []⟩ := by
  have h1 := rows_w (two_ok kb0 kb0) (two_ok kb0 kb0)
  have h2 := rows_w (two_ok kb0 kb0) (two_ok kb0 kx0)
  have k := between_rows (a := ⟨⟨2, 2, [wb0, wb0, wb0, wb0]⟩, 0, 0, 0, []⟩) (b := ⟨⟨2, 2, [wb0, wb0, wb0, wx0]⟩, 0, 0, 0, []⟩) rfl rfl h1 h2
  rw [k, diff_w]
  rfl
theorem held_w (a b c d : Cl) (h : a.comb = [] ∧ b.comb = [] ∧ c.comb = [] ∧ d.comb = []) : Held [a, b, c, d] := by
  intro i hi
  have hi : i < 4 := hi
  rcases (by omega : i = 0 ∨ i = 1 ∨ i = 2 ∨ i = 3) with rfl | rfl | rfl | rfl
  · show a.comb.length ≤ _; rw [h.1]; decide
  · show b.comb.length ≤ _; rw [h.2.1]; decide
  · show c.comb.length ≤ _; rw [h.2.2.1]; decide
  · show d.comb.length ≤ _; rw [h.2.2.2]; decide
abbrev VW (x : Value) : Obj := .cells #[.int .i64 2, .int .i64 2, x, .int .i64 0, .int .i64 0, .int .i64 0, .string ⟨#[]⟩] 32 (0, 0)
set_option maxHeartbeats 6400000 in
theorem wakes16 (w : World) (hT : Tabs w) : Calls Tryd.prog 11 #[] w fun e w' => e = .returned (.bool true) ∧ Below w.heap.size w w' := by
  have HN := Lib.hid (Row.refNew_any 2 2 ⟨-1, -1, 0⟩ w (by decide) (by decide))
  obtain ⟨lA, hlA⟩ : ∃ l, List.replicate (2 * 2) (Row.blank ⟨-1, -1, 0⟩) = l := ⟨_, rfl⟩
  obtain ⟨lB, hlB⟩ : ∃ l, [wb0, wb0, wb0, wx0] = l := ⟨_, rfl⟩
  have HLA : Hid (lA.length = 4) := Lib.hid (by rw [← hlA]; rfl)
  have HLB : Hid (lB.length = 4) := Lib.hid (by rw [← hlB]; rfl)
  have HSET : Hid ((flat lA).set 18 (.int .i64 120) = flat lB) := Lib.hid (by rw [← hlA, ← hlB]; rfl)
  have HGET : Hid ((flat lA)[18]? = some (.int .i64 32)) := Lib.hid (by rw [← hlA]; rfl)
  have HCP := Lib.hid (fun x W (k : Cs W x lA) => copyView_t 2 2 0 0 0 ⟨#[]⟩ lA x W k (by rw [HLA.out]; decide))
  have HBW := Lib.hid (fun A1 c1 A2 c2 W (hw : Below w.heap.size w W) (h1 : Rm W (.slice A1 lA.length c1) lA) (h2 : Rm W (.slice A2 lB.length c2) lB) => between_t 2 2 0 0 0 2 2 0 0 0 [] [] lA lB A1 A2 c1 c2 true true W (by rw [← hlA]; exact view_w (two_ok kb0 kb0) (two_ok kb0 kb0)) (by rw [← hlB]; exact view_w (two_ok kb0 kb0) (two_ok kb0 kx0)) h1 h2 (by rw [← hlA]; exact held_w _ _ _ _ ⟨rfl, rfl, rfl, rfl⟩) (by rw [← hlB]; exact held_w _ _ _ _ ⟨rfl, rfl, rfl, rfl⟩) (hT.kept hw) (by simp) (by simp) ⟨2, 2, false, [1], [wb0, wx0], 0, 0, 0, []⟩ (fun _ => by rw [← hlA, ← hlB]; exact between_w.symm) (fun h => (by cases h)))
  rw [hlA] at HN
  clear hlA hlB hT
  rw [HLA.out, HLB.out] at HBW
  go_enter Tryd.func11, Tryd.ntmps11
  go_wp2_with fail
  refine HN.out.mono ?_; rintro e w1 ⟨v, rfl, ho, hb⟩
  obtain ⟨A1, c1, rfl⟩ := own_shape ho
  rw [HLA.out] at ho ⊢
  have HB1 : Hid (Below w.heap.size w (w1.alloc (VW (.slice A1 4 c1)))) := Lib.hid (hb.alloc hb.size _)
  have HO1 : Hid (OwnCs (w1.alloc (VW (.slice A1 4 c1))) w.heap.size (.slice A1 4 c1) lA) := Lib.hid (ho.kept ((Below.refl _ _).alloc (Nat.le_refl _) _))
  have HV1 : Hid ((w1.alloc (VW (.slice A1 4 c1))).heap[w1.heap.size]? = some (VW (.slice A1 4 c1))) := Lib.hid (new_alloc _ _ _ rfl)
  clear ho hb HN
  go_upto_region 2 with (fail)
  generalize w1.alloc (VW (.slice A1 4 c1)) = w2 at HB1 HO1 HV1 ⊢
  generalize w1.heap.size = b1 at HV1 ⊢
  go_wp2_with (refine wp_loadV rfl rfl rfl HV1.out ?_)
  refine (HCP.out _ _ HO1.out.cs).mono ?_; rintro e w3 ⟨y, rfl, ho, hb⟩
  obtain ⟨g, c2, rfl, hg, _⟩ : ∃ g c, y = .slice (some ⟨g, 0, none⟩) lA.length c ∧ w2.heap.size ≤ g ∧ True := by
    rcases ho.shape with ⟨e, h0⟩ | ⟨b, cap, e, h1, _⟩
    · have := HLA.out; rw [h0] at this; cases this
    · exact ⟨b, cap, e, h1, trivial⟩
  rw [HLA.out] at ho ⊢
  have HNA : Hid ((Value.slice A1 4 c1).ownBlock ≠ some g) := Lib.hid fun e => by
    have := (World.ownsRow.lt HO1.out g e).2
    omega
  have HB3 := Lib.hid (HB1.out.trans (hb.mono HB1.out.size))
  have HO3 := Lib.hid (row_kept HO1.out hb)
  have HV3 := Lib.hid (Blk.kept HV1.out hb)
  have HLT : Hid (b1 < g) := Lib.hid (by have := Blk.lt HV1.out; omega)
  have HG3 : Hid (g < w3.heap.size) := Lib.hid (World.ownsRow.lt ho g rfl).2
  have HB4 : Hid (Below w.heap.size w (w3.alloc (VW (.slice (some ⟨g, 0, none⟩) 4 c2)))) := Lib.hid (HB3.out.alloc HB3.out.size _)
  have hk := (Below.refl w3.heap.size w3).alloc (Nat.le_refl _) (VW (.slice (some ⟨g, 0, none⟩) 4 c2))
  have HO4 := Lib.hid (row_kept HO3.out hk)
  have HV4 := Lib.hid (old_alloc HV3.out (VW (.slice (some ⟨g, 0, none⟩) 4 c2)))
  have HY4 := Lib.hid (row_kept ho hk)
  have HZ4 : Hid ((w3.alloc (VW (.slice (some ⟨g, 0, none⟩) 4 c2))).heap[w3.heap.size]? = some (VW (.slice (some ⟨g, 0, none⟩) 4 c2))) := Lib.hid (new_alloc _ _ _ rfl)
  have HB1S : Hid (w.heap.size ≤ g) := Lib.hid (Nat.le_trans HB1.out.size hg)
  clear ho hb hk HB1 HO1 HV1 HB3 HO3 HV3 HCP
  go_upto_region 3 with (fail)
  generalize w3.alloc (VW (.slice (some ⟨g, 0, none⟩) 4 c2)) = w4 at HB4 HO4 HV4 HY4 HZ4 ⊢
  generalize w3.heap.size = b2 at HZ4 HG3 ⊢
  have c2' : w4.cell? ⟨b2, 2, none⟩ = some (.slice (some ⟨g, 0, none⟩) 4 c2) := Blk.cell HZ4.out 2
  have hY : (w4.ownsRow w2.heap.size 63 6 (.slice (some ⟨g, 0, none⟩) 4 c2) 4 (flat lA)) := by have h := HY4.out; unfold OwnCs at h; rwa [HLA.out] at h
  have g18 : w4.cell? ⟨g, 18, none⟩ = some (.int .i64 32) := by
    have h := World.ownsRow.cellAt hY 18 (by decide)
    rw [h]; exact HGET.out
  have gf18 := World.ownsRow.frozenAt hY 18
  have HY5 : Hid (OwnCs (w4.setCell ⟨g, 18, none⟩ (.int .i64 120)) w2.heap.size (.slice (some ⟨g, 0, none⟩) 4 c2) lB) := Lib.hid (by
    have s := (World.ownsRow.stored hY 18 (.int .i64 120)).1
    unfold OwnCs
    rw [HLB.out, ← HSET.out]; exact s)
  have HO5 : Hid (OwnCs (w4.setCell ⟨g, 18, none⟩ (.int .i64 120)) w.heap.size (.slice A1 4 c1) lA) := Lib.hid (row_other HO4.out HNA.out _ _)
  have HV5 : Hid ((w4.setCell ⟨g, 18, none⟩ (.int .i64 120)).heap[b1]? = some (VW (.slice A1 4 c1))) := Lib.hid (Blk.other HV4.out (by have := HLT.out; omega) _ _)
  have HZ5 : Hid ((w4.setCell ⟨g, 18, none⟩ (.int .i64 120)).heap[b2]? = some (VW (.slice (some ⟨g, 0, none⟩) 4 c2))) := Lib.hid (Blk.other HZ4.out (by have := HG3.out; omega) _ _)
  have HB5 : Hid (Below w.heap.size w (w4.setCell ⟨g, 18, none⟩ (.int .i64 120))) := Lib.hid (HB4.out.setCell (p := ⟨g, 18, none⟩) (by have := HB1S.out; show w.heap.size ≤ g; omega) _)
  clear hY HO4 HV4 HZ4 HB4 HY4 HGET HSET
  go_upto_region 4 with (fail)
  clear c2' g18 gf18
  generalize w4.setCell ⟨g, 18, none⟩ (.int .i64 120) = w5 at HY5 HO5 HV5 HZ5 HB5 ⊢
  go_wp2_with (first
    | (refine wp_loadV rfl rfl rfl HV5.out ?_)
    | (refine wp_loadV rfl rfl rfl HZ5.out ?_))
  refine (HBW.out _ _ _ _ _ HB5.out HO5.out.rm HY5.out.rm).mono ?_; rintro e w6 ⟨u, v, rfl, hu, hv, hb⟩
  obtain ⟨Bu, ku, rfl⟩ := own_shape hu
  obtain ⟨Bv, kv, rfl⟩ := own_shape hv
  have HU6 := Lib.hid (hu.sl.kept ((Below.refl _ _).alloc (Nat.le_refl _) (.cells #[.int .i64 2, .int .i64 2, .bool false, .slice Bu 1 ku, .slice Bv 2 kv, .int .i64 0, .int .i64 0, .int .i64 0, .string ⟨#[]⟩] 35 (0, 0))))
  have HB6 := Lib.hid ((HB5.out.trans (hb.mono HB5.out.size)).alloc (HB5.out.trans (hb.mono HB5.out.size)).size (.cells #[.int .i64 2, .int .i64 2, .bool false, .slice Bu 1 ku, .slice Bv 2 kv, .int .i64 0, .int .i64 0, .int .i64 0, .string ⟨#[]⟩] 35 (0, 0)))
  have HP6 : Hid ((w6.alloc (.cells #[.int .i64 2, .int .i64 2, .bool false, .slice Bu 1 ku, .slice Bv 2 kv, .int .i64 0, .int .i64 0, .int .i64 0, .string ⟨#[]⟩] 35 (0, 0))).heap[w6.heap.size]? = some (.cells #[.int .i64 2, .int .i64 2, .bool false, .slice Bu 1 ku, .slice Bv 2 kv, .int .i64 0, .int .i64 0, .int .i64 0, .string ⟨#[]⟩] 35 (0, 0))) := Lib.hid (new_alloc _ _ _ rfl)
  clear hu hv hb HB5 HO5 HY5 HV5 HZ5 HBW
  simp only [codeB, Bool.and_self, if_true]
  go_upto_region 5 with (fail)
  generalize w6.alloc (.cells #[.int .i64 2, .int .i64 2, .bool false, .slice Bu 1 ku, .slice Bv 2 kv, .int .i64 0, .int .i64 0, .int .i64 0, .string ⟨#[]⟩] 35 (0, 0)) = w7 at HU6 HB6 HP6 ⊢
  generalize w6.heap.size = b3 at HP6 ⊢
  have c3 : w7.cell? ⟨b3, 3, none⟩ = some (.slice Bu 1 ku) := Blk.cell HP6.out 3
  have c4 : w7.cell? ⟨b3, 4, none⟩ = some (.slice Bv 2 kv) := Blk.cell HP6.out 4
  have HK := (Below.refl w7.heap.size w7).alloc (Nat.le_refl _) (.cells #[.int .i64 1] 3 (0, 0))
  have HEQ := Lib.hid (eqNumbers_same 1 1 [(1 : Int)] [(1 : Int)] _ (HU6.out.kept HK).src (Src.made w7 (ints [(1 : Int)]) 3 1 1 rfl) rfl (by decide))
  have HB7 := Lib.hid (HB6.out.trans (HK.mono HB6.out.size))
  have d4 : (w7.alloc (.cells #[.int .i64 1] 3 (0, 0))).cell? ⟨b3, 4, none⟩ = some (.slice Bv 2 kv) := Blk.cell (Blk.kept HP6.out HK) 4
  clear HK HU6 HB6 HP6
  go_wp2_with fail
  refine (num16 0 w7).mono ?_; rintro e w' ⟨rfl, rfl⟩
  go_wp2_with fail
  refine HEQ.out.mono ?_; rintro e w' ⟨rfl, q, rfl⟩
  have d4' : ((w7.alloc (.cells #[.int .i64 1] 3 (0, 0))).drewN q).cell? ⟨b3, 4, none⟩ = some (.slice Bv 2 kv) := d4
  go_wp2_with fail
  go_ret
  exact ⟨rfl, below_drewN HB7.out _⟩
end Pat
end
section
open Go.RowKit
namespace Row
def Only (b : Nat) (w w' : World) : Prop := w.heap.size ≤ w'.heap.size ∧ ∀ (g : Nat) (o : Obj), g ≠ b → w.heap[g]? = some o → w'.heap[g]? = some o
theorem Only.refl (b : Nat) (w : World) : Only b w w := ⟨Nat.le_refl _, fun _ _ _ h => h⟩
theorem Only.set {b : Nat} {w w' : World} (h : Only b w w') (j : Nat) (u : Value) : Only b w (w'.setCell ⟨b, j, none⟩ u) :=
  ⟨by simpa [World.setCell] using h.1, fun g o hg e => Blk.other (h.2 g o hg e) hg j u⟩
theorem Only.put {b : Nat} {w w' : World} (h : Only b w w') (k : Nat) (c : Cl) : Only b w (putCell w' b k c) :=
  (((((h.set _ _).set _ _).set _ _).set _ _).set _ _).set _ _
theorem OwnCs.only {w w' : World} {base b : Nat} {v : Value} {l : List Cl} (h : OwnCs w base v l) (ho : Only b w w') (hv : v.ownBlock ≠ some b) : OwnCs w' base v l := by
  refine ⟨h.1, ?_⟩
  rcases h.2 with h0 | ⟨g, cap, cur, rfl, hb, hg, rest⟩
  · exact .inl h0
  · exact .inr ⟨g, cap, cur, rfl, hb, ho.2 g _ (fun e => hv (by subst e; rfl)) hg, rest⟩
end Row
end
section
open Go.RowKit
namespace Pat
open Go.Proofs.YtjcfbeiljdohcaaDoor.Row Go.Proofs.YtjcfbeiljdohcaaDoor.Scr Agb
end Pat
end
section
open Go.RowKit
namespace Pat
open Go.Proofs.YtjcfbeiljdohcaaDoor.Row Go.Proofs.YtjcfbeiljdohcaaDoor.Scr Agb
theorem aggAsk : Agg 25 2 := ⟨⟨_, Tryd.underlying25⟩, by kernel_rfl⟩
theorem run_loadAtA {t : TypeId} {n : Nat} (ht : Agg t n) {w : World} {p : Addr} {A : Array Value} (h : At w p A.toList) (hA : A.size = n) : (loadVar t p).run Tryd.prog w = .ok (.agg A) w := by
  have hl : (loadCells p A.toList.length).run Tryd.prog w = .ok A.toList.toArray w := run_loadCells_list (P := Tryd.prog) w p A.toList h
  obtain ⟨i, hi, hs⟩ := Option.map_eq_some_iff.1 ht.size
  obtain ⟨d, hu⟩ := ht.und
  have hsz : A.toList.length = n := by rw [Array.length_toList]; exact hA
  rw [hsz] at hl
  simp [loadVar, Sem.run_bind, isAgg, run_underlying hu, sizeOf, typeInfo, hi, hs, hl]
theorem wp_loadAt {t : TypeId} {n : Nat} (ht : Agg t n) {w : World} {ops : Array Oper} {rest : List Oper} {o : Oper} {a : Act} {Q : Exit → Act → World → Prop} {x : Operand} (hgd : Region.wanted o (yielded ops a.tmps) = true) (ho : o.op = .load t x)
    {p : Addr} {A : Array Value} (hx : a.eval x = .pointer (some p)) (h : At w p A.toList) (hA : A.size = n) (k : wpList Tryd.prog ops Q rest (a.put o.dst (.agg A)) w) : wpList Tryd.prog ops Q (o :: rest) a w := by
  refine wpList_step fun K hK => ?_
  rw [if_pos hgd]
  unfold Oper.wp execOp
  simp only [ho, hx, Instr.loadAt, Instr.sureAddr, Sem.run_bind, Sem.run_pure, Result.andThen_ok, run_loadAtA ht h hA]
  exact hK _ _ k
theorem yields_loadAt {t : TypeId} {n : Nat} (ht : Agg t n) {ops : Array Oper} {T : World → Prop} {o : Oper} {a : Act} {x : Operand} {p : Addr} {A : Array Value} (hgd : Region.wanted o (yielded ops a.tmps) = true) (ho : o.op = .load t x) (hx : a.eval x = .pointer (some p))
    (h : ∀ w, T w → At w p A.toList) (hA : A.size = n) : YieldsIf Tryd.prog ops T o (.agg A) a := by
  refine Or.inl ⟨hgd, fun w hT => ?_⟩
  unfold execOp
  simp only [ho, hx, Instr.loadAt, Instr.sureAddr, Sem.run_bind, Sem.run_pure, Result.andThen_ok, run_loadAtA ht (h w hT) hA]
structure FitV (v : Vw) : Prop where
  s : Short v.g.cells
  h : Held v.g.cells
  c : v.g.cells.length ≤ 4000
  t : v.title.length ≤ 4000
theorem fitV_of {v : Vw} (h : ReachV 1048576 v) (hw : weighV v ≤ 4000) : FitV v := by
  unfold weighV at hw
  exact ⟨fun i hi => Nat.le_trans (h.c.2 i hi) (by decide), fun i hi => Nat.le_trans (h.c.2 i hi) (by decide), by omega, by omega⟩
structure El (w : World) (a : Addr) (v : Vw) (x : Value) : Prop where
  at_ : At w a (vvals ⟨v, x⟩)
  rm : Rm w x v.g.cells
theorem El.kept {w w' : World} {a : Addr} {v : Vw} {x : Value} (h : El w a v x) (hb : Below w.heap.size w w') : El w' a v x := ⟨h.at_.kept hb, h.rm.kept hb⟩
noncomputable def wholeD (v : Vw) : Pt := if viewB v = true then whole v else noP
theorem wholeD_yes {v : Vw} (h : viewB v = true) : wholeD v = whole v := if_pos h
theorem wholeD_no {v : Vw} (h : viewB v = false) : wholeD v = noP := if_neg (by rw [h]; decide)
theorem betD_yes {a b : Vw} (h : (viewB a && viewB b) = true) : betD a b = between a b := if_pos h
theorem betD_no {a b : Vw} (h : (viewB a && viewB b) = false) : betD a b = noP := if_neg (by rw [h]; decide)
theorem ptr_small {p : Pt} (h : patchB p = true) : p.cells.length ≤ 1600 ∧ p.at_.length ≤ 40 := by
  obtain ⟨_, R, C, l, rs, k⟩ := (patchB_iff p).1 h
  have hlen : l.length ≤ R := by have := up_length (lo := 0) k.up (fun i hi => ⟨Nat.zero_le _, k.lt i hi⟩); omega
  have hr : rs.length ≤ R := by rw [k.len]; split; exact Nat.le_refl _; exact hlen
  rw [k.cells, even_length k.even, k.at_, ofN_length]
  have := k.r40; have := k.c40
  exact ⟨Nat.mul_le_mul (show rs.length ≤ 40 by omega) (show C ≤ 40 by omega), by omega⟩
theorem betD_small (a b : Vw) : (betD a b).cells.length ≤ 1600 ∧ (betD a b).at_.length ≤ 40 := by
  cases h : (viewB a && viewB b) with
  | true =>
    have h0 := h
    rw [Bool.and_eq_true] at h0
    rw [betD_yes h]; exact ptr_small (between_ok h0.1 h0.2)
  | false => rw [betD_no h]; exact ⟨by simp [noP], by simp [noP]⟩
theorem wholeD_small (v : Vw) : (wholeD v).cells.length ≤ 1600 ∧ (wholeD v).at_ = [] := by
  cases h : viewB v with
  | true => rw [wholeD_yes h]; exact ⟨(ptr_small (whole_ok h)).1, rfl⟩
  | false => rw [wholeD_no h]; exact ⟨by simp [noP], rfl⟩
end Pat
end
section
open Go.RowKit
namespace Pat
open Go.Proofs.YtjcfbeiljdohcaaDoor.Row Go.Proofs.YtjcfbeiljdohcaaDoor.Scr Agb
def vflat (l : List Ve) : List Value := (l.map vvals).flatten
theorem vvals_len (l : List Ve) : ∀ r ∈ l.map vvals, r.length = 7 := by
  intro r hr
  obtain ⟨e, _, rfl⟩ := List.mem_map.1 hr
  rfl
theorem vflat_append (a b : List Ve) : vflat (a ++ b) = vflat a ++ vflat b := by unfold vflat; rw [List.map_append, List.flatten_append]
theorem vflat_one (e : Ve) : vflat [e] = vvals e := by simp [vflat]
theorem vvals_cells {w : World} {e : Ve} (h : VIn w e) : ∀ u ∈ vvals e, u.oneCell' = true := by
  obtain ⟨A, c, hx, _⟩ := id h.2
  intro u hu
  simp only [vvals, vcells, List.mem_cons, List.not_mem_nil, or_false] at hu
  rcases hu with rfl | rfl | rfl | rfl | rfl | rfl | rfl <;> first | rfl | (rw [hx]; rfl)
theorem view_info : (Tryd.prog.info? 32).map (fun i => (i.zero, i.size, i.bytes)) = some (some (.agg #[.int .i64 0, .int .i64 0, .slice none 0 0, .int .i64 0, .int .i64 0, .int .i64 0, .string ⟨#[]⟩]), 7, 80) := by kernel_rfl
def OwnVs (w : World) (base : Nat) (v : Value) (l : List Ve) : Prop := w.ownsRow base 32 7 v l.length (vflat l)
theorem OwnVs.kept {w w' : World} {base : Nat} {v : Value} {l : List Ve} (h : OwnVs w base v l) (hb : Below w.heap.size w w') : OwnVs w' base v l :=
  World.ownsRow.kept (row := none) h ⟨hb.os, hb.tape, hb.output, hb.size, fun k hk _ => hb.block k hk⟩ (by cases v.ownBlock <;> simp)
theorem OwnVs.nil (w : World) (base : Nat) : OwnVs w base (.slice none 0 0) [] := World.ownsRow_nil _ _ _ _
theorem OwnVs.lt {w : World} {base : Nat} {v : Value} {l : List Ve} (h : OwnVs w base v l) (k : Nat) (hk : v.ownBlock = some k) : base ≤ k ∧ k < w.heap.size := World.ownsRow.lt h k hk
theorem OwnVs.form {w : World} {base : Nat} {v : Value} {l : List Ve} (h : OwnVs w base v l) : ∃ A c, v = .slice A l.length c ∧ ∀ k, k < l.length → ∃ ad, A = some ad ∧ At w (ad.add (k * 7)) (vvals (l.getD k noVe)) := by
  obtain ⟨A, c, rfl, hf⟩ := Recs.form (Recs.own h (List.length_map _) (vvals_len l))
  refine ⟨A, c, rfl, fun k hk => ?_⟩
  obtain ⟨ad, rfl, ha⟩ := hf k hk
  have e : (l.map vvals).getD k [] = vvals (l.getD k noVe) := by simp [List.getD, hk]
  rw [e] at ha
  exact ⟨ad, rfl, ha⟩
theorem below_vs {B : Nat} {a w w' : World} {v : Value} {l : List Ve} (h : Below B a w) (hg : w.grownBy w' v.ownBlock) (hB : B ≤ w.heap.size) (ho : OwnVs w B v l) : Below B a w' :=
  h.grown hg hB fun k hk => (ho.lt k hk).1
theorem wp_append_v {w : World} {ops : Array Oper} {rest : List Oper} {o : Oper} {a : Act} {Q : Exit → Act → World → Prop} {s x : Operand} (hgd : o.guard = none)
    (ho : o.op = .call { callee := .builtin .append, args := #[s, x], argTypes := #[22, 22] }) (base : Nat) (v : Value) (l : List Ve) (e : Ve) (c : Nat) (ad : Addr) (hs : a.eval s = v) (hown : OwnVs w base v l)
    (hy : a.eval x = .slice (some ad) 1 c) (hx : At w ad (vvals e)) (h1 : ∀ u ∈ vvals e, u.oneCell' = true) (hl : l.length + 1 ≤ 1000000000) (hbase : base ≤ w.heap.size)
    (h : ∀ v' w', OwnVs w' base v' (l ++ [e]) → w.grownBy w' v.ownBlock → wpList Tryd.prog ops Q rest (a.put o.dst v') w') :
    wpList Tryd.prog ops Q (o :: rest) a w := by
  obtain ⟨i, hi, hz, h7, h80⟩ : ∃ i : TypeInfo, Tryd.prog.info? 32 = some i ∧ i.zero = some (.agg #[.int .i64 0, .int .i64 0, .slice none 0 0, .int .i64 0, .int .i64 0, .int .i64 0, .string ⟨#[]⟩]) ∧ i.size = 7 ∧ i.bytes = 80 := by
    obtain ⟨i, h, h1, h2, h3⟩ := info_parts view_info
    exact ⟨i, h, h1, h2, h3⟩
  refine wpList_append_own_at w hgd s x 22 ho base 32 i _ 7 80 Tryd.underlying22 hi hz h7 h80 rfl (by decide) v l.length (vflat l) hs hown ad 1 c (vvals e) hy rfl hx h1 (by simp only [maxLen]; omega) (by omega) hbase fun v' w' h2 h3 _ _ => ?_
  exact h v' w' (by unfold OwnVs; rw [vflat_append, vflat_one, List.length_append]; exact h2) h3
theorem at_new (w : World) (cs : List Value) (e : TypeId) (arr : Array Value) (h : cs.toArray = arr) : At (w.alloc (.cells arr e)) ⟨w.heap.size, 0, none⟩ cs := by
  subst h
  have hl : (w.alloc (.cells cs.toArray e)).heap[w.heap.size]? = some (.cells cs.toArray e) := by
    show (w.heap.push _)[w.heap.size]? = _
    simp
  exact fun j u hu => World.news_of_block hl j u hu
end Pat
end
end Go.Proofs.YtjcfbeiljdohcaaDoor
