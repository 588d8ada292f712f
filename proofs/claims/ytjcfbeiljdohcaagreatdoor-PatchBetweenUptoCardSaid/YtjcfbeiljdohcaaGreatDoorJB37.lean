/- Joined texts: RowFar, PatFar, PatLawH. -/
import Derived.Test.YtjcfbeiljdohcaaGreatDoorJB36
namespace Go.Proofs.YtjcfbeiljdohcaaGreatDoor
set_option maxRecDepth 100000
section
open Go.RowKit
namespace Row
def Only (b : Nat) (w w' : World) : Prop := w.heap.size ≤ w'.heap.size ∧ ∀ (g : Nat) (o : Obj), g ≠ b → w.heap[g]? = some o → w'.heap[g]? = some o
theorem Only.refl (b : Nat) (w : World) : Only b w w := ⟨Nat.le_refl _, fun _ _ _ h => h⟩
theorem Only.set {b : Nat} {w w' : World} (h : Only b w w') (j : Nat) (u : Value) : Only b w (w'.setCell ⟨b, j, none⟩ u) :=
  ⟨by simpa [World.setCell] using h.1, fun g o hg e => Blk.other (h.2 g o hg e) hg j u⟩
theorem Only.put {b : Nat} {w w' : World} (h : Only b w w') (k : Nat) (c : Cl) : Only b w (putCell w' b k c) :=
  (((((h.set _ _).set _ _).set _ _).set _ _).set _ _).set _ _
theorem OwnCs.only {w w' : World} {base b : Nat} {v : Value} {l : List Cl} (h : OwnCs w base v l) (ho : Only b w w') (hv : v.ownBlock ≠ some b) : OwnCs w' base v l := by
  refine ⟨h.1, ?_⟩
  rcases h.2 with h0 | ⟨g, cap, cur, rfl, hb, hg, rest⟩
  · exact .inl h0
  · exact .inr ⟨g, cap, cur, rfl, hb, ho.2 g _ (fun e => hv (by subst e; rfl)) hg, rest⟩
set_option maxHeartbeats 1600000 in
theorem cells_far (l : List Cl) (x : Value) (base : Nat) (w : World) (hx : OwnCs w base x l) (hn : l.length ≤ 100000000) :
    Calls Tryz.prog 24 #[x] w fun e w' => e = .returned (.tuple #[]) ∧ Below base w w' ∧ ∀ b2 v2 m, v2.ownBlock ≠ x.ownBlock ∨ v2 = .slice none 0 0 → OwnCs w b2 v2 m → OwnCs w' b2 v2 m := by
  rcases hx.shape with ⟨rfl, h0⟩ | ⟨b, cap, rfl, hb, _⟩
  · clear hx
    go_enter Tryz.func24, Tryz.ntmps24
    go_wp2_with fail
    go_rounds 1
    go_end0
    exact ⟨rfl, Below.refl _ _, fun _ _ _ _ h => h⟩
  · have HG := Lib.hid hb
    clear hb
    go_enter Tryz.func24, Tryz.ntmps24
    go_wp2_with fail
    go_loopw [2] (fun i wr => ∃ (k : Nat) (ys : List Cl), k ≤ l.length ∧ ys.length = l.length ∧ i = .int .i64 k ∧ OwnCs wr base (.slice (some ⟨b, 0, none⟩) l.length cap) ys ∧ Hid (Below base w wr) ∧ Hid (Only b w wr)) (fun i _ => l.length - (intOf i).toNat)
    case atStart => exact ⟨0, l, by omega, rfl, rfl, hx, Lib.hid (Below.refl _ _), Lib.hid (Only.refl _ _)⟩
    case round =>
      obtain ⟨k, ys, hk, hyl, rfl, hown, hbl, hon⟩ := hrel
      by_cases hlt : k < l.length
      · have hky : k < ys.length := by omega
        have d0 := hown.cell hky (show 0 < 6 by decide)
        have d1 := hown.cell hky (show 1 < 6 by decide)
        have d2 := hown.cell hky (show 2 < 6 by decide)
        have d3 := hown.cell hky (show 3 < 6 by decide)
        have d4 := hown.cell hky (show 4 < 6 by decide)
        have d5 := hown.cell hky (show 5 < 6 by decide)
        have f0 := hown.free (k * 6)
        have f1 := hown.free (k * 6 + 1)
        have f2 := hown.free (k * 6 + 2)
        have f3 := hown.free (k * 6 + 3)
        have f4 := hown.free (k * 6 + 4)
        have f5 := hown.free (k * 6 + 5)
        simp only [cvals, Nat.add_zero, List.getElem?_cons_zero, List.getElem?_cons_succ] at d0 d1 d2 d3 d4 d5
        have HP := Lib.hid (hown.put hky ⟨-9, [], 0, ⟨0, 0, 0⟩⟩)
        have HB := Lib.hid (below_put hbl.out HG.out k ⟨-9, [], 0, ⟨0, 0, 0⟩⟩)
        have HO := Lib.hid (hon.out.put k ⟨-9, [], 0, ⟨0, 0, 0⟩⟩)
        have HL : Hid ((ys.set k ⟨-9, [], 0, ⟨0, 0, 0⟩⟩).length = l.length) := Lib.hid (by rw [List.length_set]; exact hyl)
        generalize ys.set k ⟨-9, [], 0, ⟨0, 0, 0⟩⟩ = zs at HP HL
        generalize g ys k = cc at d0 d1 d2 d3 d4 d5
        obtain ⟨rune, cb, wide, ⟨fg, bg, fl⟩⟩ := cc
        have hyl' := Lib.hid hyl
        clear hown hky hyl hyl' hbl hon
        go_wp2_with fail
        go_roundw
        case rel => exact ⟨k + 1, zs, by omega, HL.out, by go_num, HP.out, Lib.hid HB.out, Lib.hid HO.out⟩
        case measure => simp [intOf]; omega
      · have hd : decide (k < l.length) = false := decide_eq_false hlt
        clear hlt
        go_wp2_with fail
        go_end0
        refine ⟨rfl, hbl.out, fun b2 v2 m hv h => ?_⟩
        rcases hv with hv | rfl
        · exact h.only hon.out hv
        · have := h.shape
          rcases this with ⟨_, rfl⟩ | ⟨_, _, e, _⟩
          · exact OwnCs.nil _ _
          · injection e with e; cases e
end Row
end
section
open Go.RowKit
namespace Pat
open Go.Proofs.YtjcfbeiljdohcaaGreatDoor.Row Go.Proofs.YtjcfbeiljdohcaaGreatDoor.Scr Agb
set_option maxHeartbeats 1600000 in
theorem cells_only (l : List Cl) (x : Value) (base : Nat) (w : World) (hx : OwnCs w base x l) (hn : l.length ≤ 100000000) :
    Calls Tryz.prog 24 #[x] w fun e w' => e = .returned (.tuple #[]) ∧ Below base w w' ∧ ∀ g o, x.ownBlock ≠ some g → w.heap[g]? = some o → w'.heap[g]? = some o := by
  rcases hx.shape with ⟨rfl, h0⟩ | ⟨b, cap, rfl, hb, _⟩
  · clear hx
    go_enter Tryz.func24, Tryz.ntmps24
    go_wp2_with fail
    go_rounds 1
    go_end0
    exact ⟨rfl, Below.refl _ _, fun _ _ _ h => h⟩
  · have HG := Lib.hid hb
    clear hb
    go_enter Tryz.func24, Tryz.ntmps24
    go_wp2_with fail
    go_loopw [2] (fun i wr => ∃ (k : Nat) (ys : List Cl), k ≤ l.length ∧ ys.length = l.length ∧ i = .int .i64 k ∧ OwnCs wr base (.slice (some ⟨b, 0, none⟩) l.length cap) ys ∧ Hid (Below base w wr) ∧ Hid (Only b w wr)) (fun i _ => l.length - (intOf i).toNat)
    case atStart => exact ⟨0, l, by omega, rfl, rfl, hx, Lib.hid (Below.refl _ _), Lib.hid (Only.refl _ _)⟩
    case round =>
      obtain ⟨k, ys, hk, hyl, rfl, hown, hbl, hon⟩ := hrel
      by_cases hlt : k < l.length
      · have hky : k < ys.length := by omega
        have d0 := hown.cell hky (show 0 < 6 by decide)
        have d1 := hown.cell hky (show 1 < 6 by decide)
        have d2 := hown.cell hky (show 2 < 6 by decide)
        have d3 := hown.cell hky (show 3 < 6 by decide)
        have d4 := hown.cell hky (show 4 < 6 by decide)
        have d5 := hown.cell hky (show 5 < 6 by decide)
        have f0 := hown.free (k * 6)
        have f1 := hown.free (k * 6 + 1)
        have f2 := hown.free (k * 6 + 2)
        have f3 := hown.free (k * 6 + 3)
        have f4 := hown.free (k * 6 + 4)
        have f5 := hown.free (k * 6 + 5)
        simp only [cvals, Nat.add_zero, List.getElem?_cons_zero, List.getElem?_cons_succ] at d0 d1 d2 d3 d4 d5
        have HP := Lib.hid (hown.put hky ⟨-9, [], 0, ⟨0, 0, 0⟩⟩)
        have HB := Lib.hid (below_put hbl.out HG.out k ⟨-9, [], 0, ⟨0, 0, 0⟩⟩)
        have HO := Lib.hid (hon.out.put k ⟨-9, [], 0, ⟨0, 0, 0⟩⟩)
        have HL : Hid ((ys.set k ⟨-9, [], 0, ⟨0, 0, 0⟩⟩).length = l.length) := Lib.hid (by rw [List.length_set]; exact hyl)
        generalize ys.set k ⟨-9, [], 0, ⟨0, 0, 0⟩⟩ = zs at HP HL
        generalize g ys k = cc at d0 d1 d2 d3 d4 d5
        obtain ⟨rune, cb, wide, ⟨fg, bg, fl⟩⟩ := cc
        clear hown hky hyl hbl hon
        go_wp2_with fail
        go_roundw
        case rel => exact ⟨k + 1, zs, by omega, HL.out, by go_num, HP.out, Lib.hid HB.out, Lib.hid HO.out⟩
        case measure => simp [intOf]; omega
      · have hd : decide (k < l.length) = false := decide_eq_false hlt
        clear hlt
        go_wp2_with fail
        go_end0
        exact ⟨rfl, hbl.out, fun g o hg h => hon.out.2 g o (fun e => hg (by subst e; rfl)) h⟩
set_option maxHeartbeats 1600000 in
theorem patch_over_t (R C p q m : Int) (f : Bool) (T : ByteArray) (nn : List Int) (l : List Cl) (u x : Value) (base : Nat) (w : World) (hu : OwnN w base u nn) (hx : OwnCs w base x l) (hb : base ≤ w.heap.size) (hn : nn.length ≤ 1000000000) (hl : l.length ≤ 100000000) :
    Calls Tryz.prog 13 #[.agg #[.int .i64 R, .int .i64 C, .bool f, u, x, .int .i64 p, .int .i64 q, .int .i64 m, .string T]] w fun e w' => e = .returned (.tuple #[]) ∧ Below base w w' ∧ ∀ g o, u.ownBlock ≠ some g → x.ownBlock ≠ some g → w.heap[g]? = some o → w'.heap[g]? = some o := by
  have HB0 : Hid (Below base w (w.alloc (.cells #[.int .i64 R, .int .i64 C, .bool f, u, x, .int .i64 p, .int .i64 q, .int .i64 m, .string T] 36))) := Lib.hid ((Below.refl _ _).alloc hb _)
  have hk : Below w.heap.size w (w.alloc (.cells #[.int .i64 R, .int .i64 C, .bool f, u, x, .int .i64 p, .int .i64 q, .int .i64 m, .string T] 36)) := (Below.refl _ _).alloc (Nat.le_refl _) _
  have HU := Lib.hid (own_kept hu hk)
  have HX := Lib.hid (hx.kept hk)
  have HV := Lib.hid (new_alloc w (.cells #[.int .i64 R, .int .i64 C, .bool f, u, x, .int .i64 p, .int .i64 q, .int .i64 m, .string T] 36) _ rfl)
  have HO : Hid (∀ g o, w.heap[g]? = some o → (w.alloc (.cells #[.int .i64 R, .int .i64 C, .bool f, u, x, .int .i64 p, .int .i64 q, .int .i64 m, .string T] 36)).heap[g]? = some o) := Lib.hid fun g o h => old_alloc h _
  have HUL : Hid (∀ g, u.ownBlock = some g → g < w.heap.size) := Lib.hid fun g e => (hu.lt g e).2
  have HXL : Hid (∀ g, x.ownBlock = some g → g < w.heap.size) := Lib.hid fun g e => (hx.lt g e).2
  have HLS : Hid (base ≤ (w.alloc (.cells #[.int .i64 R, .int .i64 C, .bool f, u, x, .int .i64 p, .int .i64 q, .int .i64 m, .string T] 36)).heap.size) := Lib.hid (Nat.le_trans hb hk.size)
  clear hk hu hx
  go_enter Tryz.func13, Tryz.ntmps13
  go_wp2_with fail
  generalize w.alloc (.cells #[.int .i64 R, .int .i64 C, .bool f, u, x, .int .i64 p, .int .i64 q, .int .i64 m, .string T] 36) = w1 at HB0 HU HX HV HO HLS ⊢
  refine (numbers_over nn.length (ints nn) _ HU.out hn).mono ?_; rintro e w2 ⟨rfl, hg, _⟩
  have HX2 : Hid (OwnCs w2 base x l) := Lib.hid (World.ownsRow.kept HX.out hg (own_apart HX.out HU.out (by decide)))
  have HB2 := Lib.hid (below_own HB0.out hg HLS.out HU.out)
  have HV2 := Lib.hid (hg.block _ (Blk.lt HV.out) (fun e => absurd (HUL.out _ e.symm) (Nat.lt_irrefl _)) |>.trans HV.out)
  have HO2 : Hid (∀ g o, u.ownBlock ≠ some g → w.heap[g]? = some o → w2.heap[g]? = some o) := Lib.hid fun g o h1 h2 => (hg.block g (Blk.lt (HO.out g o h2)) (fun e => h1 e.symm)).trans (HO.out g o h2)
  clear hg HU HX HV HO HB0 HLS
  have c4 : w2.cell? ⟨w.heap.size, 4, none⟩ = some x := Blk.cell HV2.out 4
  go_wp2_with fail
  refine (cells_only l x base _ HX2.out hl).mono ?_; rintro e w3 ⟨rfl, hbl, hon⟩
  have HB3 := Lib.hid (HB2.out.trans hbl)
  have HO3 : Hid (∀ g o, u.ownBlock ≠ some g → x.ownBlock ≠ some g → w.heap[g]? = some o → w3.heap[g]? = some o) := Lib.hid fun g o h1 h2 h => hon g o h2 (HO2.out g o h1 h)
  clear hbl hon
  go_wp2_with fail
  go_end0
  exact ⟨rfl, HB3.out, HO3.out⟩
end Pat
end
section
open Go.RowKit
namespace Pat
open Go.Proofs.YtjcfbeiljdohcaaGreatDoor.Row Go.Proofs.YtjcfbeiljdohcaaGreatDoor.Scr Agb
theorem aggAsk : Agg 25 2 := ⟨⟨_, Tryz.underlying25⟩, by kernel_rfl⟩
theorem run_loadAtA {t : TypeId} {n : Nat} (ht : Agg t n) {w : World} {p : Addr} {A : Array Value} (h : At w p A.toList) (hA : A.size = n) : (loadVar t p).run Tryz.prog w = .ok (.agg A) w := by
  have hl : (loadCells p A.toList.length).run Tryz.prog w = .ok A.toList.toArray w := run_loadCells_list (P := Tryz.prog) w p A.toList h
  obtain ⟨i, hi, hs⟩ := Option.map_eq_some_iff.1 ht.size
  obtain ⟨d, hu⟩ := ht.und
  have hsz : A.toList.length = n := by rw [Array.length_toList]; exact hA
  rw [hsz] at hl
  simp [loadVar, Sem.run_bind, isAgg, run_underlying hu, sizeOf, typeInfo, hi, hs, hl]
theorem wp_loadAt {t : TypeId} {n : Nat} (ht : Agg t n) {w : World} {ops : Array Oper} {rest : List Oper} {o : Oper} {a : Act} {Q : Exit → Act → World → Prop} {x : Operand} (hgd : Region.wanted o (yielded ops a.tmps) = true) (ho : o.op = .load t x)
    {p : Addr} {A : Array Value} (hx : a.eval x = .pointer (some p)) (h : At w p A.toList) (hA : A.size = n) (k : wpList Tryz.prog ops Q rest (a.put o.dst (.agg A)) w) : wpList Tryz.prog ops Q (o :: rest) a w := by
  refine wpList_step fun K hK => ?_
  rw [if_pos hgd]
  unfold Oper.wp execOp
  simp only [ho, hx, Instr.loadAt, Instr.sureAddr, Sem.run_bind, Sem.run_pure, Result.andThen_ok, run_loadAtA ht h hA]
  exact hK _ _ k
theorem yields_loadAt {t : TypeId} {n : Nat} (ht : Agg t n) {ops : Array Oper} {T : World → Prop} {o : Oper} {a : Act} {x : Operand} {p : Addr} {A : Array Value} (hgd : Region.wanted o (yielded ops a.tmps) = true) (ho : o.op = .load t x) (hx : a.eval x = .pointer (some p))
    (h : ∀ w, T w → At w p A.toList) (hA : A.size = n) : YieldsIf Tryz.prog ops T o (.agg A) a := by
  refine Or.inl ⟨hgd, fun w hT => ?_⟩
  unfold execOp
  simp only [ho, hx, Instr.loadAt, Instr.sureAddr, Sem.run_bind, Sem.run_pure, Result.andThen_ok, run_loadAtA ht (h w hT) hA]
structure FitV (v : Vw) : Prop where
  s : Short v.g.cells
  h : Held v.g.cells
  c : v.g.cells.length ≤ 4000
  t : v.title.length ≤ 4000
theorem fitV_of {v : Vw} (h : ReachV 1048576 v) (hw : weighV v ≤ 4000) : FitV v := by
  unfold weighV at hw
  exact ⟨fun i hi => Nat.le_trans (h.c.2 i hi) (by decide), fun i hi => Nat.le_trans (h.c.2 i hi) (by decide), by omega, by omega⟩
structure El (w : World) (a : Addr) (v : Vw) (x : Value) : Prop where
  at_ : At w a (vvals ⟨v, x⟩)
  rm : Rm w x v.g.cells
theorem El.kept {w w' : World} {a : Addr} {v : Vw} {x : Value} (h : El w a v x) (hb : Below w.heap.size w w') : El w' a v x := ⟨h.at_.kept hb, h.rm.kept hb⟩
noncomputable def wholeD (v : Vw) : Pt := if viewB v = true then whole v else noP
theorem wholeD_yes {v : Vw} (h : viewB v = true) : wholeD v = whole v := if_pos h
theorem wholeD_no {v : Vw} (h : viewB v = false) : wholeD v = noP := if_neg (by rw [h]; decide)
theorem betD_yes {a b : Vw} (h : (viewB a && viewB b) = true) : betD a b = between a b := if_pos h
theorem betD_no {a b : Vw} (h : (viewB a && viewB b) = false) : betD a b = noP := if_neg (by rw [h]; decide)
theorem ptr_small {p : Pt} (h : patchB p = true) : p.cells.length ≤ 1600 ∧ p.at_.length ≤ 40 := by
  obtain ⟨_, R, C, l, rs, k⟩ := (patchB_iff p).1 h
  have hlen : l.length ≤ R := by have := up_length (lo := 0) k.up (fun i hi => ⟨Nat.zero_le _, k.lt i hi⟩); omega
  have hr : rs.length ≤ R := by rw [k.len]; split; exact Nat.le_refl _; exact hlen
  rw [k.cells, even_length k.even, k.at_, ofN_length]
  have := k.r40; have := k.c40
  exact ⟨Nat.mul_le_mul (show rs.length ≤ 40 by omega) (show C ≤ 40 by omega), by omega⟩
theorem betD_small (a b : Vw) : (betD a b).cells.length ≤ 1600 ∧ (betD a b).at_.length ≤ 40 := by
  cases h : (viewB a && viewB b) with
  | true =>
    have h0 := h
    rw [Bool.and_eq_true] at h0
    rw [betD_yes h]; exact ptr_small (between_ok h0.1 h0.2)
  | false => rw [betD_no h]; exact ⟨by simp [noP], by simp [noP]⟩
theorem wholeD_small (v : Vw) : (wholeD v).cells.length ≤ 1600 ∧ (wholeD v).at_ = [] := by
  cases h : viewB v with
  | true => rw [wholeD_yes h]; exact ⟨(ptr_small (whole_ok h)).1, rfl⟩
  | false => rw [wholeD_no h]; exact ⟨by simp [noP], rfl⟩
end Pat
end
end Go.Proofs.YtjcfbeiljdohcaaGreatDoor
