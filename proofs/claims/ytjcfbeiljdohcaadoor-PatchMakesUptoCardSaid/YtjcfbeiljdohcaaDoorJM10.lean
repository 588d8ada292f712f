/- Joined texts: PatMem, PatMem2, TabMem, ScrMem. -/
import Derived.Test.YtjcfbeiljdohcaaDoorJM9
import Derived.Deep.CutRange
import Derived.Deep.DeepCutAuto
import Derived.Lib.Walk
import Derived.Laws.Rows
import Derived.Laws.Tables
namespace Go.Proofs.YtjcfbeiljdohcaaDoor
set_option maxRecDepth 100000
section
open Go.RowKit
namespace Pat
open Go.Proofs.YtjcfbeiljdohcaaDoor.Row Go.Proofs.YtjcfbeiljdohcaaDoor.Scr Agb
def OwnN (w : World) (base : Nat) (v : Value) (l : List Int) : Prop := w.ownsRow base 3 1 v l.length (ints l)
theorem OwnN.nil (w : World) (base : Nat) : OwnN w base (.slice none 0 0) [] := World.ownsRow_nil _ _ _ _
theorem OwnN.kept {w w' : World} {base : Nat} {v : Value} {l : List Int} (h : OwnN w base v l) (hb : Below w.heap.size w w') : OwnN w' base v l := own_kept h hb
theorem OwnN.low {w : World} {base b2 : Nat} {v : Value} {l : List Int} (h : OwnN w base v l) (hb : b2 ≤ base) : OwnN w b2 v l := Blk.low h hb
theorem OwnN.sl {w : World} {base : Nat} {v : Value} {l : List Int} (h : OwnN w base v l) : Sl w v l := Sl.own h
theorem OwnN.set {w : World} {base g : Nat} {v : Value} {l : List Int} (h : OwnN w base v l) (hg : g < base) (j : Nat) (u : Value) : OwnN (w.setCell ⟨g, j, none⟩ u) base v l := row_set h hg j u
abbrev txt (l : List UInt8) : Value := .string ⟨l.toArray⟩
def vcells (v : Vw) (x : Value) : List Value := [.int .i64 v.g.rows, .int .i64 v.g.cols, x, .int .i64 v.row, .int .i64 v.col, .int .i64 v.modes, txt v.title]
abbrev vagg (v : Vw) (x : Value) : Value := .agg #[.int .i64 v.g.rows, .int .i64 v.g.cols, x, .int .i64 v.row, .int .i64 v.col, .int .i64 v.modes, txt v.title]
abbrev vbox (v : Vw) (x : Value) : Obj := .cells #[.int .i64 v.g.rows, .int .i64 v.g.cols, x, .int .i64 v.row, .int .i64 v.col, .int .i64 v.modes, txt v.title] 32 (0, 0)
def noV : Vw := ⟨⟨0, 0, []⟩, 0, 0, 0, []⟩
theorem aggView : Agg 32 7 := ⟨⟨_, Tryd.underlying32⟩, by kernel_rfl⟩
theorem aggPatch : Agg 35 9 := ⟨⟨_, Tryd.underlying35⟩, by kernel_rfl⟩
theorem wp_loadV {w : World} {ops : Array Oper} {rest : List Oper} {o : Oper} {a : Act} {Q : Exit → Act → World → Prop} {x : Operand} (hgd : Region.wanted o (yielded ops a.tmps) = true) (ho : o.op = .load 32 x)
    {b : Nat} {c0 c1 c2 c3 c4 c5 c6 : Value} {t' : TypeId} (hx : a.eval x = .pointer (some ⟨b, 0, none⟩)) (h : w.heap[b]? = some (.cells #[c0, c1, c2, c3, c4, c5, c6] t' (0, 0))) (k : wpList Tryd.prog ops Q rest (a.put o.dst (.agg #[c0, c1, c2, c3, c4, c5, c6])) w) : wpList Tryd.prog ops Q (o :: rest) a w :=
  wp_loadA aggView hgd ho hx h rfl k
theorem wp_storeV {w : World} {ops : Array Oper} {rest : List Oper} {o : Oper} {a : Act} {Q : Exit → Act → World → Prop} {x y : Operand} {T : World → Prop} {b : Nat} {c0 c1 c2 c3 c4 c5 c6 d0 d1 d2 d3 d4 d5 d6 : Value} (hgd : Region.wanted o (yielded ops a.tmps) = true) (ho : o.op = .store 32 x y)
    (hx : a.eval x = .pointer (some ⟨b, 0, none⟩)) (hy : a.eval y = .agg #[c0, c1, c2, c3, c4, c5, c6]) (hA1 : List.all [c0, c1, c2, c3, c4, c5, c6] (·.oneCell') = true) (hg : w.heap[b]? = some (.cells #[d0, d1, d2, d3, d4, d5, d6] 32 (0, 0)))
    (hT : ∀ w', Sto 32 w b #[c0, c1, c2, c3, c4, c5, c6] w' → T w') (k : ∀ w', Hid (T w') → wpList Tryd.prog ops Q rest (a.put o.dst undef) w') : wpList Tryd.prog ops Q (o :: rest) a w :=
  wp_storeA aggView hgd ho hx hy rfl (by simpa only [List.all_toArray] using hA1) hg rfl hT k
theorem wp_loadP {w : World} {ops : Array Oper} {rest : List Oper} {o : Oper} {a : Act} {Q : Exit → Act → World → Prop} {x : Operand} (hgd : Region.wanted o (yielded ops a.tmps) = true) (ho : o.op = .load 35 x)
    {b : Nat} {c0 c1 c2 c3 c4 c5 c6 c7 c8 : Value} {t' : TypeId} (hx : a.eval x = .pointer (some ⟨b, 0, none⟩)) (h : w.heap[b]? = some (.cells #[c0, c1, c2, c3, c4, c5, c6, c7, c8] t' (0, 0))) (k : wpList Tryd.prog ops Q rest (a.put o.dst (.agg #[c0, c1, c2, c3, c4, c5, c6, c7, c8])) w) : wpList Tryd.prog ops Q (o :: rest) a w :=
  wp_loadA aggPatch hgd ho hx h rfl k
theorem wp_storeP {w : World} {ops : Array Oper} {rest : List Oper} {o : Oper} {a : Act} {Q : Exit → Act → World → Prop} {x y : Operand} {T : World → Prop} {b : Nat} {c0 c1 c2 c3 c4 c5 c6 c7 c8 d0 d1 d2 d3 d4 d5 d6 d7 d8 : Value} (hgd : Region.wanted o (yielded ops a.tmps) = true) (ho : o.op = .store 35 x y)
    (hx : a.eval x = .pointer (some ⟨b, 0, none⟩)) (hy : a.eval y = .agg #[c0, c1, c2, c3, c4, c5, c6, c7, c8]) (hA1 : List.all [c0, c1, c2, c3, c4, c5, c6, c7, c8] (·.oneCell') = true) (hg : w.heap[b]? = some (.cells #[d0, d1, d2, d3, d4, d5, d6, d7, d8] 35 (0, 0)))
    (hT : ∀ w', Sto 35 w b #[c0, c1, c2, c3, c4, c5, c6, c7, c8] w' → T w') (k : ∀ w', Hid (T w') → wpList Tryd.prog ops Q rest (a.put o.dst undef) w') : wpList Tryd.prog ops Q (o :: rest) a w :=
  wp_storeA aggPatch hgd ho hx hy rfl (by simpa only [List.all_toArray] using hA1) hg rfl hT k
set_option maxHeartbeats 1600000 in
theorem copyView_t (R C p q m : Int) (T : ByteArray) (l : List Cl) (x : Value) (w : World) (hx : Cs w x l) (hn : l.length ≤ 100000000) :
    Calls Tryd.prog 26 #[.agg #[.int .i64 R, .int .i64 C, x, .int .i64 p, .int .i64 q, .int .i64 m, .string T]] w fun e w' => ∃ y, e = .returned (.agg #[.int .i64 R, .int .i64 C, y, .int .i64 p, .int .i64 q, .int .i64 m, .string T]) ∧ OwnCs w' w.heap.size y l ∧ Below w.heap.size w w' := by
  have HX := Lib.hid hx
  have HCC := Lib.hid (fun w' (k : Cs w' x l) => copyGrid_any R C l x w' k hn)
  obtain ⟨A, c, rfl, _⟩ := hx.form
  clear hx hn
  go_enter Tryd.func26, Tryd.ntmps26
  go_wp2_with fail
  have hW := (((Below.refl w.heap.size w).alloc (Nat.le_refl _) (.cells #[.int .i64 R, .int .i64 C, .slice A l.length c, .int .i64 p, .int .i64 q, .int .i64 m, .string T] 32 (0, 0))).alloc (by simp) (vbox noV (.slice none 0 0))).alloc (by simp; omega) (.cells #[.int .i64 R, .int .i64 C, .slice A l.length c, .int .i64 p, .int .i64 q, .int .i64 m, .string T] 32 (0, 0))
  refine (HCC.out _ (HX.out.kept hW)).mono ?_; rintro e w1 ⟨y, rfl, ho, hb⟩
  have hG1 : w1.heap[w.heap.size + 1]? = some (vbox noV (.slice none 0 0)) := Blk.kept (old_alloc (new_alloc _ _ _ (by simp)) _) hb
  have hG2 : w1.heap[w.heap.size + 1 + 1]? = some (.cells #[.int .i64 R, .int .i64 C, .slice A l.length c, .int .i64 p, .int .i64 q, .int .i64 m, .string T] 32 (0, 0)) := Blk.kept (new_alloc _ _ _ (by simp)) hb
  have HB : Hid (Below w.heap.size w w1) := Lib.hid (hW.trans (hb.mono hW.size))
  obtain ⟨A1, ca, rfl, _⟩ := ho.cs.form
  have HO : Hid (OwnCs w1 (w.heap.size + 3) (.slice A1 l.length ca) l) := Lib.hid (ho.low (by simp))
  have d0 : w1.cell? ⟨w.heap.size + 1 + 1, 0, none⟩ = some (.int .i64 R) := Blk.cell hG2 0
  have d1 : w1.cell? ⟨w.heap.size + 1 + 1, 1, none⟩ = some (.int .i64 C) := Blk.cell hG2 1
  have d2 : w1.cell? ⟨w.heap.size + 1 + 1, 2, none⟩ = some (.slice A l.length c) := Blk.cell hG2 2
  have f0 := Blk.free hG2 0
  have f1 := Blk.free hG2 1
  have f2 := Blk.free hG2 2
  have HG3 : Hid ((((w1.setCell ⟨w.heap.size + 1 + 1, 0, none⟩ (.int .i64 R)).setCell ⟨w.heap.size + 1 + 1, 1, none⟩ (.int .i64 C)).setCell ⟨w.heap.size + 1 + 1, 2, none⟩ (.slice A1 l.length ca)).heap[w.heap.size + 1 + 1]? = some (.cells #[.int .i64 R, .int .i64 C, .slice A1 l.length ca, .int .i64 p, .int .i64 q, .int .i64 m, .string T] 32 (0, 0))) := Lib.hid (Blk.set (Blk.set (Blk.set hG2 0 _) 1 _) 2 _)
  have HG4 : Hid ((((w1.setCell ⟨w.heap.size + 1 + 1, 0, none⟩ (.int .i64 R)).setCell ⟨w.heap.size + 1 + 1, 1, none⟩ (.int .i64 C)).setCell ⟨w.heap.size + 1 + 1, 2, none⟩ (.slice A1 l.length ca)).heap[w.heap.size + 1]? = some (vbox noV (.slice none 0 0))) := Lib.hid (gput_other (g := w.heap.size + 1 + 1) hG1 (by omega) R C (.slice A1 l.length ca))
  have HO2 : Hid (OwnCs (((w1.setCell ⟨w.heap.size + 1 + 1, 0, none⟩ (.int .i64 R)).setCell ⟨w.heap.size + 1 + 1, 1, none⟩ (.int .i64 C)).setCell ⟨w.heap.size + 1 + 1, 2, none⟩ (.slice A1 l.length ca)) (w.heap.size + 3) (.slice A1 l.length ca) l) := Lib.hid (gput_own HO.out (by omega) _ _ _)
  have HB2 : Hid (Below w.heap.size w (((w1.setCell ⟨w.heap.size + 1 + 1, 0, none⟩ (.int .i64 R)).setCell ⟨w.heap.size + 1 + 1, 1, none⟩ (.int .i64 C)).setCell ⟨w.heap.size + 1 + 1, 2, none⟩ (.slice A1 l.length ca))) := Lib.hid (gput_below HB.out (by omega) _ _ _)
  clear hW hb ho hG1 hG2 HO HB
  go_upto_region 3 with (fail)
  clear d0 d1 d2 f0 f1 f2
  generalize (((w1.setCell ⟨w.heap.size + 1 + 1, 0, none⟩ (.int .i64 R)).setCell ⟨w.heap.size + 1 + 1, 1, none⟩ (.int .i64 C)).setCell ⟨w.heap.size + 1 + 1, 2, none⟩ (.slice A1 l.length ca)) = w2 at HG3 HG4 HO2 HB2 ⊢
  go_wp2_with (first
    | (refine wp_loadV rfl rfl rfl HG3.out ?_)
    | (refine wp_storeV (T := fun w' => w'.heap[w.heap.size + 1]? = some (.cells #[.int .i64 R, .int .i64 C, .slice A1 l.length ca, .int .i64 p, .int .i64 q, .int .i64 m, .string T] 32 (0, 0)) ∧ OwnCs w' (w.heap.size + 3) (.slice A1 l.length ca) l ∧ Below w.heap.size w w') rfl rfl rfl rfl rfl HG4.out (fun w' h => ⟨h.box, h.row HO2.out (by omega), h.below _ _ (by omega) HB2.out⟩) ?_; intro wF HF))
  refine bodyPost_ret (v := .agg #[.int .i64 R, .int .i64 C, .slice A1 l.length ca, .int .i64 p, .int .i64 q, .int .i64 m, .string T]) (ret1A aggView Tryd.results26 rfl HF.out.1 rfl) rfl ⟨_, rfl, HF.out.2.1.low (by omega), HF.out.2.2⟩
theorem copyView_any (v : Vw) (x : Value) (w : World) (hx : Cs w x v.g.cells) (hn : v.g.cells.length ≤ 100000000) :
    Calls Tryd.prog 26 #[vagg v x] w fun e w' => ∃ y, e = .returned (vagg v y) ∧ OwnCs w' w.heap.size y v.g.cells ∧ Below w.heap.size w w' :=
  copyView_t v.g.rows v.g.cols v.row v.col v.modes ⟨v.title.toArray⟩ v.g.cells x w hx hn
end Pat
end
section
open Go.RowKit
namespace Pat
open Go.Proofs.YtjcfbeiljdohcaaDoor.Row Go.Proofs.YtjcfbeiljdohcaaDoor.Scr Agb
set_option maxHeartbeats 1600000 in
theorem eqView_t (R C p q m : Int) (T : ByteArray) (l : List Cl) (x y : Value) (w : World) (hx : Cs w x l) (hy : Cs w y l) (hn : l.length ≤ 100000000) :
    Calls Tryd.prog 9 #[.agg #[.int .i64 R, .int .i64 C, x, .int .i64 p, .int .i64 q, .int .i64 m, .string T], .agg #[.int .i64 R, .int .i64 C, y, .int .i64 p, .int .i64 q, .int .i64 m, .string T]] w fun e w' => e = .returned (.bool true) ∧ Below w.heap.size w w' := by
  have hW := ((Below.refl w.heap.size w).alloc (Nat.le_refl _) (.cells #[.int .i64 R, .int .i64 C, x, .int .i64 p, .int .i64 q, .int .i64 m, .string T] 32)).alloc (by simp) (.cells #[.int .i64 R, .int .i64 C, y, .int .i64 p, .int .i64 q, .int .i64 m, .string T] 32)
  have HG := Lib.hid ((eqGrid_same R C l x y _ (hx.kept hW) (hy.kept hW) hn).mono fun e w' ⟨h1, h2⟩ => (⟨h1, h2, hW.trans (h2.mono hW.size)⟩ : e = Ending.returned (.bool true) ∧ _ ∧ Below w.heap.size w w'))
  have HB0 := Lib.hid (old_alloc (new_alloc w (.cells #[.int .i64 R, .int .i64 C, x, .int .i64 p, .int .i64 q, .int .i64 m, .string T] 32) _ rfl) (.cells #[.int .i64 R, .int .i64 C, y, .int .i64 p, .int .i64 q, .int .i64 m, .string T] 32))
  have HB1 := Lib.hid (new_alloc (w.alloc (.cells #[.int .i64 R, .int .i64 C, x, .int .i64 p, .int .i64 q, .int .i64 m, .string T] 32)) (.cells #[.int .i64 R, .int .i64 C, y, .int .i64 p, .int .i64 q, .int .i64 m, .string T] 32) (w.heap.size + 1) (by simp))
  clear hW hx hy hn
  go_enter Tryd.func9, Tryd.ntmps9
  go_wp2_with fail
  refine HG.out.mono ?_; rintro e w2 ⟨rfl, hb, hb2⟩
  have hG0 := Blk.kept HB0.out hb
  have hG1 := Blk.kept HB1.out hb
  have HB := Lib.hid hb2
  have c0 : w2.cell? ⟨w.heap.size, 0, none⟩ = some (.int .i64 R) := Blk.cell hG0 0
  have c1 : w2.cell? ⟨w.heap.size, 1, none⟩ = some (.int .i64 C) := Blk.cell hG0 1
  have c2 : w2.cell? ⟨w.heap.size, 2, none⟩ = some (x) := Blk.cell hG0 2
  have c3 : w2.cell? ⟨w.heap.size, 3, none⟩ = some (.int .i64 p) := Blk.cell hG0 3
  have c4 : w2.cell? ⟨w.heap.size, 4, none⟩ = some (.int .i64 q) := Blk.cell hG0 4
  have c5 : w2.cell? ⟨w.heap.size, 5, none⟩ = some (.int .i64 m) := Blk.cell hG0 5
  have c6 : w2.cell? ⟨w.heap.size, 6, none⟩ = some (.string T) := Blk.cell hG0 6
  have d0 : w2.cell? ⟨w.heap.size + 1, 0, none⟩ = some (.int .i64 R) := Blk.cell hG1 0
  have d1 : w2.cell? ⟨w.heap.size + 1, 1, none⟩ = some (.int .i64 C) := Blk.cell hG1 1
  have d2 : w2.cell? ⟨w.heap.size + 1, 2, none⟩ = some (y) := Blk.cell hG1 2
  have d3 : w2.cell? ⟨w.heap.size + 1, 3, none⟩ = some (.int .i64 p) := Blk.cell hG1 3
  have d4 : w2.cell? ⟨w.heap.size + 1, 4, none⟩ = some (.int .i64 q) := Blk.cell hG1 4
  have d5 : w2.cell? ⟨w.heap.size + 1, 5, none⟩ = some (.int .i64 m) := Blk.cell hG1 5
  have d6 : w2.cell? ⟨w.heap.size + 1, 6, none⟩ = some (.string T) := Blk.cell hG1 6
  clear hb hb2 hG0 hG1 HB0 HB1 HG
  go_wp2_with fail
  go_ret
  exact ⟨rfl, HB.out⟩
theorem eqView_same (v : Vw) (x y : Value) (w : World) (hx : Cs w x v.g.cells) (hy : Cs w y v.g.cells) (hn : v.g.cells.length ≤ 100000000) :
    Calls Tryd.prog 9 #[vagg v x, vagg v y] w fun e w' => e = .returned (.bool true) ∧ Below w.heap.size w w' :=
  eqView_t v.g.rows v.g.cols v.row v.col v.modes ⟨v.title.toArray⟩ v.g.cells x y w hx hy hn
def pcells (p : Pt) (a x : Value) : List Value := [.int .i64 p.rows, .int .i64 p.cols, .bool p.all, a, x, .int .i64 p.row, .int .i64 p.col, .int .i64 p.modes, txt p.title]
abbrev pagg (p : Pt) (a x : Value) : Value := .agg #[.int .i64 p.rows, .int .i64 p.cols, .bool p.all, a, x, .int .i64 p.row, .int .i64 p.col, .int .i64 p.modes, txt p.title]
abbrev pbox (p : Pt) (a x : Value) : Obj := .cells #[.int .i64 p.rows, .int .i64 p.cols, .bool p.all, a, x, .int .i64 p.row, .int .i64 p.col, .int .i64 p.modes, txt p.title] 35 (0, 0)
def noP : Pt := ⟨0, 0, false, [], [], 0, 0, 0, []⟩
abbrev nilS : Value := .slice none 0 0
end Pat
end
section
open Go.RowKit
namespace Tab
structure Bl (w : World) (x : Value) (l : List Bool) : Prop where
  src : Src w x l.length (bools l)
  room : ∃ A c, x = .slice A l.length c ∧ l.length ≤ c
theorem Bl.kept {w w' : World} {x : Value} {l : List Bool} (h : Bl w x l) (hb : Below w.heap.size w w') : Bl w' x l := ⟨h.src.kept hb, h.room⟩
theorem Bl.nil (w : World) : Bl w (.slice none 0 0) [] := ⟨⟨rfl, .inl ⟨rfl, rfl⟩⟩, none, 0, rfl, by simp⟩
def OwnB (w : World) (base : Nat) (x : Value) (l : List Bool) : Prop := w.ownsRow base 4 1 x l.length (bools l)
theorem OwnB.nil (w : World) (base : Nat) : OwnB w base (.slice none 0 0) [] := World.ownsRow_nil _ _ _ _
theorem OwnB.kept {w w' : World} {base : Nat} {x : Value} {l : List Bool} (h : OwnB w base x l) (hb : Below w.heap.size w w') : OwnB w' base x l := own_kept h hb
theorem OwnB.low {w : World} {base b2 : Nat} {x : Value} {l : List Bool} (h : OwnB w base x l) (hb : b2 ≤ base) : OwnB w b2 x l := Blk.low h hb
theorem OwnB.bl {w : World} {base : Nat} {x : Value} {l : List Bool} (h : OwnB w base x l) : Bl w x l := by
  refine ⟨Src.own h, ?_⟩
  rcases h.2 with ⟨rfl, h0⟩ | ⟨g, cap, cur, rfl, _, _, hc, _⟩
  · exact ⟨none, 0, by rw [h0], by omega⟩
  · exact ⟨_, _, rfl, hc⟩
theorem Bl.get {w : World} {A : Option Addr} {n c : Nat} {l : List Bool} (h : Bl w (.slice A n c) l) : ∀ k, k < l.length → ∃ ad, A = some ad ∧ w.cell? (ad.add k) = some (.bool (l.getD k false)) := by
  intro k hk
  obtain ⟨A', c', e, hf⟩ := h.src.form
  injection e with e1 e2 e3
  subst e1
  obtain ⟨ad, rfl, hc⟩ := hf k hk
  exact ⟨ad, rfl, by rw [hc, bools_get hk]⟩
theorem Bl.shape {w : World} {x : Value} {l : List Bool} (h : Bl w x l) : ∃ A c, x = .slice A l.length c := by
  obtain ⟨A, c, e, _⟩ := h.room
  exact ⟨A, c, e⟩
theorem bools_drop (l : List Bool) (k : Nat) : (bools l).drop k = bools (l.drop k) := by unfold bools; rw [List.map_drop]
theorem bools_take (l : List Bool) (k : Nat) : (bools l).take k = bools (l.take k) := by unfold bools; rw [List.map_take]
theorem Bl.tail {w : World} {A : Option Addr} {n c : Nat} {l : List Bool} (h : Bl w (.slice A n c) l) (k : Nat) (hk : k ≤ l.length) (i : Int) (hi : i = k) :
    ∃ V, (∀ w' : World, (Instr.slice 92 (.slice A n c) (some (.int .i64 i)) none none).run Tryd.prog w' = .ok V w') ∧ Bl w V (l.drop k) := by
  obtain ⟨A', c', e, hc⟩ := h.room
  injection e with e1 e2 e3
  subst e1; subst e2; subst e3; subst hi
  have hu : Tryd.prog.underlying 92 = some (.slice (Tryd.prog.elem 92)) := by kernel_rfl
  refine ⟨.slice (if c = k then A else A.map (·.add k)) (l.length - k) (c - k), fun w' => ?_, ⟨⟨by rw [bools_length], ?_⟩, ?_⟩⟩
  · rw [run_slice_l w' 92 A l.length c hu .i64 k (by omega) (by omega)]
    have hs : (sizeOf (Tryd.prog.elem 92)).run Tryd.prog w' = .ok 1 w' := by kernel_rfl
    rw [hs]
    simp [Result.andThen, sliced]
  · rw [List.length_drop]
    rcases h.src.2 with ⟨e, h0⟩ | ⟨ad, c2, e, hcell⟩
    · injection e with e1 e2 e3
      subst e1; subst e3
      left
      refine ⟨?_, by omega⟩
      have : k = 0 := by omega
      subst this
      simp [h0]
    · injection e with e1 e2 e3
      subst e1; subst e3
      right
      by_cases hck : c = k
      · rw [if_pos hck]
        refine ⟨ad, c - k, rfl, fun j u hu => ?_⟩
        have : l.drop k = [] := List.drop_eq_nil_of_le (by omega)
        rw [this] at hu
        simp [bools] at hu
      · rw [if_neg hck]
        refine ⟨ad.add k, c - k, rfl, fun j u hu => ?_⟩
        rw [Go.Deep.add_add]
        refine hcell (k + j) u ?_
        rw [← bools_drop, List.getElem?_drop] at hu
        exact hu
  · exact ⟨_, _, by rw [List.length_drop], by rw [List.length_drop]; omega⟩
theorem Bl.front {w : World} {A : Option Addr} {n c : Nat} {l : List Bool} (h : Bl w (.slice A n c) l) (k : Nat) (hk : k ≤ l.length) (i : Int) (hi : i = k) :
    ∃ V, (∀ w' : World, (Instr.slice 92 (.slice A n c) none (some (.int .i64 i)) none).run Tryd.prog w' = .ok V w') ∧ Bl w V (l.take k) := by
  obtain ⟨A', c', e, hc⟩ := h.room
  injection e with e1 e2 e3
  subst e1; subst e2; subst e3; subst hi
  have hu : Tryd.prog.underlying 92 = some (.slice (Tryd.prog.elem 92)) := by kernel_rfl
  have hlk : (l.take k).length = k := by rw [List.length_take]; omega
  refine ⟨.slice A k c, fun w' => ?_, ⟨⟨by rw [bools_length], ?_⟩, ?_⟩⟩
  · rw [run_slice_h w' 92 A l.length c hu .i64 k (by omega) (by omega)]
    have hs : (sizeOf (Tryd.prog.elem 92)).run Tryd.prog w' = .ok 1 w' := by kernel_rfl
    rw [hs]
    simp [Result.andThen, sliced]
    intro _
    cases A <;> simp [Addr.add]
  · rw [hlk]
    rcases h.src.2 with ⟨e, h0⟩ | ⟨ad, c2, e, hcell⟩
    · injection e with e1 e2 e3
      subst e1; subst e3
      left
      refine ⟨?_, by omega⟩
      have : k = 0 := by omega
      subst this
      rfl
    · injection e with e1 e2 e3
      subst e1; subst e3
      right
      refine ⟨ad, c, rfl, fun j u hu => hcell j u ?_⟩
      rw [← bools_take] at hu
      have hj : j < ((bools l).take k).length := (List.getElem?_eq_some_iff.1 hu).1
      rw [List.length_take] at hj
      rw [List.getElem?_take_of_lt (by omega)] at hu
      exact hu
  · exact ⟨_, _, by rw [hlk], by rw [hlk]; omega⟩
theorem Tryd.bool_info : (Tryd.prog.info? 4).map (fun i => (i.zero, i.size, i.bytes)) = some (some (.bool false), 1, 1) := by kernel_rfl
theorem Tryd.bool_row : ∃ i : TypeInfo, Tryd.prog.info? 4 = some i ∧ i.zero = some (.bool false) ∧ i.size = 1 ∧ i.bytes = 1 := by
  obtain ⟨i, h, h1, h2, h3⟩ := info_parts Tryd.bool_info
  exact ⟨i, h, h1, h2, h3⟩
theorem wp_append_bools {w : World} {ops : Array Oper} {rest : List Oper} {o : Oper} {a : Act} {Q : Exit → Act → World → Prop} {s x : Operand} (hgd : o.guard = none)
    (ho : o.op = .call { callee := .builtin .append, args := #[s, x], argTypes := #[92, 92] }) (base : Nat) (v : Value) (xs : List Bool) (hs : a.eval s = v) (hown : OwnB w base v xs)
    (y : Value) (news : List Bool) (hy : a.eval x = y) (hx : Src w y news.length (bools news)) (hb : xs.length + news.length ≤ 1000000000) (hbase : base ≤ w.heap.size)
    (h : ∀ v' w', OwnB w' base v' (xs ++ news) → w.grownBy w' v.ownBlock → (v'.ownBlock = v.ownBlock ∨ v'.ownBlock = some w.heap.size) → wpList Tryd.prog ops Q rest (a.put o.dst v') w') :
    wpList Tryd.prog ops Q (o :: rest) a w := by
  obtain ⟨i, hi, hz, h1, h8⟩ := Tryd.bool_row
  refine wpList_append_src hgd ho base 4 i _ 1 Tryd.underlying92 hi hz h1 h8 rfl v xs.length (bools xs) hs hown y news.length (bools news) hy hx (bools_cells _) (by simp only [maxLen]; omega) (by omega) hbase fun v' w' h2 h3 h4 => ?_
  exact h v' w' (by unfold OwnB; rw [bools_append, List.length_append]; exact h2) h3 h4
end Tab
end
section
open Go.RowKit
namespace Scr
open Go.Proofs.YtjcfbeiljdohcaaDoor.Row
def sarr (s : S) (x y z : Value) : Array Value := #[.int .i64 s.main.rows, .int .i64 s.main.cols, x, .int .i64 s.other.rows, .int .i64 s.other.cols, y, .bool s.swapped, .int .i64 s.cur.row, .int .i64 s.cur.col, .bool s.cur.wrap, .int .i64 s.cur.a.fg, .int .i64 s.cur.a.bg, .int .i64 s.cur.a.flags, .int .i64 s.cur.g0, .int .i64 s.cur.g1, .int .i64 s.cur.shift, .bool s.cur.origin, .int .i64 s.saved.row, .int .i64 s.saved.col, .bool s.saved.wrap, .int .i64 s.saved.a.fg, .int .i64 s.saved.a.bg, .int .i64 s.saved.a.flags, .int .i64 s.saved.g0, .int .i64 s.saved.g1, .int .i64 s.saved.shift, .bool s.saved.origin, .int .i64 s.too.row, .int .i64 s.too.col, .bool s.too.wrap, .int .i64 s.too.a.fg, .int .i64 s.too.a.bg, .int .i64 s.too.a.flags, .int .i64 s.too.g0, .int .i64 s.too.g1, .int .i64 s.too.shift, .bool s.too.origin, .int .i64 s.top, .int .i64 s.bottom, z, .int .i64 s.modes, .string ⟨s.title.toArray⟩, .int .i64 s.last]
abbrev sv (s : S) (x y z : Value) : Value := .agg (sarr s x y z)
abbrev curV (k : Cur) : Value := .agg #[.int .i64 k.row, .int .i64 k.col, .bool k.wrap, .int .i64 k.a.fg, .int .i64 k.a.bg, .int .i64 k.a.flags, .int .i64 k.g0, .int .i64 k.g1, .int .i64 k.shift, .bool k.origin]
abbrev gridV (G : Gr) (x : Value) : Value := .agg #[.int .i64 G.rows, .int .i64 G.cols, x]
section
variable (s : S) (x y z : Value)
@[go_sem] theorem sarr_size : (sarr s x y z).size = 43 := rfl
@[go_sem] theorem sarr_0 : (sarr s x y z)[0]? = some (.int .i64 s.main.rows) := rfl
@[go_sem] theorem sarr_1 : (sarr s x y z)[1]? = some (.int .i64 s.main.cols) := rfl
@[go_sem] theorem sarr_2 : (sarr s x y z)[2]? = some (x) := rfl
@[go_sem] theorem sarr_3 : (sarr s x y z)[3]? = some (.int .i64 s.other.rows) := rfl
@[go_sem] theorem sarr_4 : (sarr s x y z)[4]? = some (.int .i64 s.other.cols) := rfl
@[go_sem] theorem sarr_5 : (sarr s x y z)[5]? = some (y) := rfl
@[go_sem] theorem sarr_6 : (sarr s x y z)[6]? = some (.bool s.swapped) := rfl
@[go_sem] theorem sarr_7 : (sarr s x y z)[7]? = some (.int .i64 s.cur.row) := rfl
@[go_sem] theorem sarr_8 : (sarr s x y z)[8]? = some (.int .i64 s.cur.col) := rfl
@[go_sem] theorem sarr_9 : (sarr s x y z)[9]? = some (.bool s.cur.wrap) := rfl
@[go_sem] theorem sarr_10 : (sarr s x y z)[10]? = some (.int .i64 s.cur.a.fg) := rfl
@[go_sem] theorem sarr_11 : (sarr s x y z)[11]? = some (.int .i64 s.cur.a.bg) := rfl
@[go_sem] theorem sarr_12 : (sarr s x y z)[12]? = some (.int .i64 s.cur.a.flags) := rfl
@[go_sem] theorem sarr_13 : (sarr s x y z)[13]? = some (.int .i64 s.cur.g0) := rfl
@[go_sem] theorem sarr_14 : (sarr s x y z)[14]? = some (.int .i64 s.cur.g1) := rfl
@[go_sem] theorem sarr_15 : (sarr s x y z)[15]? = some (.int .i64 s.cur.shift) := rfl
@[go_sem] theorem sarr_16 : (sarr s x y z)[16]? = some (.bool s.cur.origin) := rfl
@[go_sem] theorem sarr_17 : (sarr s x y z)[17]? = some (.int .i64 s.saved.row) := rfl
@[go_sem] theorem sarr_18 : (sarr s x y z)[18]? = some (.int .i64 s.saved.col) := rfl
@[go_sem] theorem sarr_19 : (sarr s x y z)[19]? = some (.bool s.saved.wrap) := rfl
@[go_sem] theorem sarr_20 : (sarr s x y z)[20]? = some (.int .i64 s.saved.a.fg) := rfl
@[go_sem] theorem sarr_21 : (sarr s x y z)[21]? = some (.int .i64 s.saved.a.bg) := rfl
@[go_sem] theorem sarr_22 : (sarr s x y z)[22]? = some (.int .i64 s.saved.a.flags) := rfl
@[go_sem] theorem sarr_23 : (sarr s x y z)[23]? = some (.int .i64 s.saved.g0) := rfl
@[go_sem] theorem sarr_24 : (sarr s x y z)[24]? = some (.int .i64 s.saved.g1) := rfl
@[go_sem] theorem sarr_25 : (sarr s x y z)[25]? = some (.int .i64 s.saved.shift) := rfl
@[go_sem] theorem sarr_26 : (sarr s x y z)[26]? = some (.bool s.saved.origin) := rfl
@[go_sem] theorem sarr_27 : (sarr s x y z)[27]? = some (.int .i64 s.too.row) := rfl
@[go_sem] theorem sarr_28 : (sarr s x y z)[28]? = some (.int .i64 s.too.col) := rfl
@[go_sem] theorem sarr_29 : (sarr s x y z)[29]? = some (.bool s.too.wrap) := rfl
@[go_sem] theorem sarr_30 : (sarr s x y z)[30]? = some (.int .i64 s.too.a.fg) := rfl
@[go_sem] theorem sarr_31 : (sarr s x y z)[31]? = some (.int .i64 s.too.a.bg) := rfl
@[go_sem] theorem sarr_32 : (sarr s x y z)[32]? = some (.int .i64 s.too.a.flags) := rfl
@[go_sem] theorem sarr_33 : (sarr s x y z)[33]? = some (.int .i64 s.too.g0) := rfl
@[go_sem] theorem sarr_34 : (sarr s x y z)[34]? = some (.int .i64 s.too.g1) := rfl
@[go_sem] theorem sarr_35 : (sarr s x y z)[35]? = some (.int .i64 s.too.shift) := rfl
@[go_sem] theorem sarr_36 : (sarr s x y z)[36]? = some (.bool s.too.origin) := rfl
@[go_sem] theorem sarr_37 : (sarr s x y z)[37]? = some (.int .i64 s.top) := rfl
@[go_sem] theorem sarr_38 : (sarr s x y z)[38]? = some (.int .i64 s.bottom) := rfl
@[go_sem] theorem sarr_39 : (sarr s x y z)[39]? = some (z) := rfl
@[go_sem] theorem sarr_40 : (sarr s x y z)[40]? = some (.int .i64 s.modes) := rfl
@[go_sem] theorem sarr_41 : (sarr s x y z)[41]? = some (.string ⟨s.title.toArray⟩) := rfl
@[go_sem] theorem sarr_42 : (sarr s x y z)[42]? = some (.int .i64 s.last) := rfl
end
structure In (w : World) (s : S) (x y z : Value) : Prop where
  m : Rm w x s.main.cells
  o : Rm w y s.other.cells
  t : Tab.Bl w z s.tabs
theorem In.kept {w w' : World} {s : S} {x y z : Value} (h : In w s x y z) (hb : Below w.heap.size w w') : In w' s x y z := ⟨h.m.kept hb, h.o.kept hb, h.t.kept hb⟩
structure Own (w : World) (base : Nat) (s : S) (x y z : Value) : Prop where
  m : OwnCs w base x s.main.cells
  o : OwnCs w base y s.other.cells
  t : Tab.OwnB w base z s.tabs
theorem Own.kept {w w' : World} {base : Nat} {s : S} {x y z : Value} (h : Own w base s x y z) (hb : Below w.heap.size w w') : Own w' base s x y z := ⟨h.m.kept hb, h.o.kept hb, h.t.kept hb⟩
theorem Own.in_ {w : World} {base : Nat} {s : S} {x y z : Value} (h : Own w base s x y z) : In w s x y z := ⟨h.m.rm, h.o.rm, h.t.bl⟩
theorem Own.low {w : World} {base b2 : Nat} {s : S} {x y z : Value} (h : Own w base s x y z) (hb : b2 ≤ base) : Own w b2 s x y z := ⟨h.m.low hb, h.o.low hb, h.t.low hb⟩
def SBox (w : World) (b : Nat) (s : S) (x y z : Value) : Prop := w.heap[b]? = some (.cells (sarr s x y z) 94 (0, 0))
theorem SBox.kept {w w' : World} {b : Nat} {s : S} {x y z : Value} (h : SBox w b s x y z) (hb : Below w.heap.size w w') : SBox w' b s x y z := Blk.kept h hb
theorem SBox.new (w : World) (s : S) (x y z : Value) : SBox (w.alloc (.cells (sarr s x y z) 94)) w.heap.size s x y z := heap_alloc_new _ _
theorem SBox.cell {w : World} {b : Nat} {s : S} {x y z : Value} (h : SBox w b s x y z) (j : Nat) : w.cell? ⟨b, j, none⟩ = (sarr s x y z)[j]? := Blk.cell h j
theorem SBox.free {w : World} {b : Nat} {s : S} {x y z : Value} (h : SBox w b s x y z) (j : Nat) : w.frozen? ⟨b, j, none⟩ = false := Blk.free h j
theorem sizeS : (Tryd.prog.info? 94).map (·.size) = some 43 := by kernel_rfl
theorem run_loadFrom (w : World) (b : Nat) (A : Array Value) (t : TypeId) (n : Nat) (hn : A.size = n) (h : w.heap[b]? = some (.cells A t (0, 0))) : (loadCellsFrom ⟨b, 0, none⟩ 0 n #[]).run Tryd.prog w = .ok A w := by
  subst hn
  have := run_loadCells_list (P := Tryd.prog) w ⟨b, 0, none⟩ A.toList (fun j v hv => by
    have hadd : (⟨b, 0, none⟩ : Addr).add j = ⟨b, j, none⟩ := by unfold Addr.add; split <;> simp_all
    rw [hadd, cell_of_row _ _ j A t (0, 0) h]
    simpa using hv)
  simpa [loadCells] using this
theorem SBox.load {w : World} {b : Nat} {s : S} {x y z : Value} (h : SBox w b s x y z) : (loadCellsFrom ⟨b, 0, none⟩ 0 43 #[]).run Tryd.prog w = .ok (sarr s x y z) w := run_loadFrom w b _ _ 43 rfl h
end Scr
end
end Go.Proofs.YtjcfbeiljdohcaaDoor
