/- Joined texts: ScrOwn, ScrView, ScrArgs, ScrHeavy, ScrSt, ScrWakes. -/
import Derived.Test.YtceaoadlhdgnmaaGreatDoorM15
import Derived.StillTailTactics
import Derived.Deep.RegionHeld3
namespace Go.Proofs.YtceaoadlhdgnmaaGreatDoor
set_option maxRecDepth 100000
section
namespace Scr
open Go.Proofs.YtceaoadlhdgnmaaGreatDoor.Row
theorem fitG_ok {G : Gr} (h : gridB G = true) {r c : Nat} (h1 : 1 ≤ r) (h2 : r ≤ 40) (h3 : 1 ≤ c) (h4 : c ≤ 40) : gridB (fitG G r c) = true := by
  obtain ⟨R, C, rs, rfl, hr, hf⟩ := parts_of h
  rw [hf r c]
  exact (gridB_iff _).2 (fitted_rws hr h1 h2 h3 h4 plain_ok).grid
theorem gridB_held {G : Gr} (h : gridB G = true) : Held G.cells := by
  obtain ⟨R, C, rs, rfl, hr, _⟩ := parts_of h
  exact hr.held
theorem gridB_small {G : Gr} (h : gridB G = true) : G.cells.length ≤ 1600 := by
  obtain ⟨R, C, rs, rfl, hr, _⟩ := parts_of h
  exact hr.small
structure Ok (s : S) : Prop where
  m : gridB s.main = true
  o : gridB s.other = true
  r : s.other.rows = s.main.rows
  c : s.other.cols = s.main.cols
  k1 : cursorB s.cur (s.main.rows - 1) (s.main.cols - 1) = true
  k2 : cursorB s.saved (s.main.rows - 1) (s.main.cols - 1) = true
  k3 : cursorB s.too (s.main.rows - 1) (s.main.cols - 1) = true
  g : marginsB s.top s.bottom s.main.rows = true
  b : (s.tabs.length : Int) = s.main.cols
  n : rng s.modes 0 1023 = true
  t : titleB s.title = true
  l : lastB s.last = true
theorem ok_iff (s : S) : okB s = true ↔ Ok s := by
  unfold okB
  simp only [Bool.and_eq_true, beq_iff_eq]
  exact ⟨fun ⟨a, b, c, d, e, f, g, h, i, j, k, l⟩ => ⟨a, b, c, d, e, f, g, h, i, j, k, l⟩, fun ⟨a, b, c, d, e, f, g, h, i, j, k, l⟩ => ⟨a, b, c, d, e, f, g, h, i, j, k, l⟩⟩
theorem cursor_fit {k : Cur} {m n : Int} (h : cursorB k m n = true) {r c : Nat} (h1 : 1 ≤ r) (h3 : 1 ≤ c) : cursorB (fitC k r c) ((r : Int) - 1) ((c : Int) - 1) = true := by
  unfold cursorB fitC at *
  simp only [Bool.and_eq_true] at h ⊢
  obtain ⟨h5, h6, _, h7⟩ := h
  have h5 := rng_iff.1 h5
  have h6 := rng_iff.1 h6
  exact ⟨rng_iff.2 ⟨by omega, by omega⟩, rng_iff.2 ⟨by omega, by omega⟩, rfl, h7⟩
theorem margins_full {r : Nat} (h : 1 ≤ r) : marginsB 0 ((r : Int) - 1) r = true := by
  unfold marginsB
  by_cases e : (r : Int) = 1
  · rw [if_pos e, e]; rfl
  · rw [if_neg e, decide_eq_true (by omega), decide_eq_true (show (0 : Int) < (r : Int) - 1 by omega), decide_eq_true (by omega)]; rfl
theorem Ok.fit {s : S} (h : Ok s) {r c : Nat} (h1 : 1 ≤ r) (h2 : r ≤ 40) (h3 : 1 ≤ c) (h4 : c ≤ 40) : Ok (resized s r c) :=
  ⟨fitG_ok h.m h1 h2 h3 h4, fitG_ok h.o h1 h2 h3 h4, rfl, rfl, cursor_fit h.k1 h1 h3, cursor_fit h.k2 h1 h3, cursor_fit h.k3 h1 h3, margins_full h1, by show ((Tab.grownOf s.tabs c).length : Int) = (c : Int); rw [Tab.grownOf_length], h.n, h.t, h.l⟩
theorem titleB_len {t : List UInt8} (h : titleB t = true) : t.length ≤ 64 := by
  unfold titleB at h
  rw [Bool.and_eq_true] at h
  exact of_decide_eq_true h.1
theorem Ok.holds {s : S} (h : Ok s) : Holds s := ⟨gridB_held h.m, gridB_held h.o, by have := titleB_len h.t; omega⟩
theorem newS_ok {r c : Nat} (h1 : 1 ≤ r) (h2 : r ≤ 40) (h3 : 1 ≤ c) (h4 : c ≤ 40) : Ok (newS r c) := by
  have hg : gridB (newG r c) = true := (gridB_iff _).2 (news_rws h1 h2 h3 h4 plain_ok).grid
  have hk : cursorB first ((r : Int) - 1) ((c : Int) - 1) = true := by
    unfold cursorB first
    simp only [Bool.and_eq_true]
    exact ⟨rng_iff.2 ⟨by omega, by omega⟩, rng_iff.2 ⟨by omega, by omega⟩, rfl, rfl, rfl, rfl, rfl⟩
  exact ⟨hg, hg, rfl, rfl, hk, hk, hk, margins_full h1, by show ((Tab.grownOf [] c).length : Int) = (c : Int); rw [Tab.grownOf_length], rfl, rfl, rfl⟩
end Scr
end
section
open Go.RowKit
namespace Scr
open Go.Proofs.YtceaoadlhdgnmaaGreatDoor.Row
abbrev nilV : Value := .slice none 0 0
def seenX (s : S) (x y : Value) : Value := if s.swapped then y else x
theorem seenX_rm {w : World} {s : S} {x y z : Value} (h : In w s x y z) : Rm w (seenX s x y) (seenG s).cells := by
  unfold seenX seenG
  cases s.swapped
  · exact h.m
  · exact h.o
abbrev viewV (G : Gr) (v : Value) (row col modes : Int) (t : List UInt8) : Value := .agg #[.int .i64 G.rows, .int .i64 G.cols, v, .int .i64 row, .int .i64 col, .int .i64 modes, .string ⟨t.toArray⟩]
def vput (w : World) (b : Nat) (R C : Int) (v : Value) (row col modes : Int) (t : List UInt8) : World :=
  ((((((w.setCell ⟨b, 0, none⟩ (.int .i64 R)).setCell ⟨b, 1, none⟩ (.int .i64 C)).setCell ⟨b, 2, none⟩ v).setCell ⟨b, 3, none⟩ (.int .i64 row)).setCell ⟨b, 4, none⟩ (.int .i64 col)).setCell ⟨b, 5, none⟩ (.int .i64 modes)).setCell ⟨b, 6, none⟩ (.string ⟨t.toArray⟩)
end Scr
end
section
open Go.ChangeShapes Go.WideShapes Go.RowKit
namespace Scr
open Go.Proofs.YtceaoadlhdgnmaaGreatDoor.Row
structure Sc where
  s : S
  x : Value
  y : Value
  z : Value
def svals (e : Sc) : List Value := (sarr e.s e.x e.y e.z).toList
def noSc : Sc := ⟨noS, .slice none 0 0, .slice none 0 0, .slice none 0 0⟩
abbrev Sc.in_ (w : World) (e : Sc) : Prop := In w e.s e.x e.y e.z
structure Reach (bnd : Nat) (s : S) : Prop where
  m : Texted bnd s.main.cells
  o : Texted bnd s.other.cells
  b : s.tabs.length ≤ 140737488355328
  t : s.title.length ≤ bnd
  n : (I64 s.main.rows ∧ I64 s.main.cols) ∧ (I64 s.other.rows ∧ I64 s.other.cols)
def Scrs (bnd : Nat) (w : World) (v : Value) (l : List Sc) : Prop := (∃ A c, v = .slice A l.length c ∧ l.length ≤ c ∧ ∀ k, k < l.length → ∃ ad, A = some ad ∧ At w (ad.add (k * 43)) (svals (l.getD k noSc))) ∧
  ∀ k, k < l.length → (l.getD k noSc).in_ w ∧ Reach bnd (l.getD k noSc).s
theorem Scrs.kept {bnd : Nat} {w w' : World} {v : Value} {l : List Sc} (h : Scrs bnd w v l) (hb : Below w.heap.size w w') : Scrs bnd w' v l := by
  obtain ⟨⟨A, c, e, hc, hf⟩, h2⟩ := h
  refine ⟨⟨A, c, e, hc, fun k hk => ?_⟩, fun k hk => ⟨(h2 k hk).1.kept hb, (h2 k hk).2⟩⟩
  obtain ⟨ad, e, ha⟩ := hf k hk
  exact ⟨ad, e, ha.kept hb⟩
theorem run_loadAtS {w : World} {a : Addr} {s : S} {x y z : Value} (h : At w a (sarr s x y z).toList) : (loadVar 36 a).run Tryz.prog w = .ok (.agg (sarr s x y z)) w := by
  have hl : (loadCells a (sarr s x y z).toList.length).run Tryz.prog w = .ok (sarr s x y z).toList.toArray w := run_loadCells_list (P := Tryz.prog) w a (sarr s x y z).toList h
  obtain ⟨i, hi, hs⟩ := Option.map_eq_some_iff.1 sizeS
  have hagg : (isAgg 36).run Tryz.prog w = .ok true w := Tryz.isAgg36 w
  have hsz : (sarr s x y z).toList.length = 43 := rfl
  rw [hsz] at hl
  simp [loadVar, Sem.run_bind, hagg, sizeOf, typeInfo, hi, hs, hl]
theorem wp_loadArg {w : World} {ops : Array Oper} {rest : List Oper} {o : Oper} {a : Act} {Q : Exit → Act → World → Prop} {x : Operand} (hgd : Region.wanted o (yielded ops a.tmps) = true) (ho : o.op = .load 36 x)
    {p : Addr} {s : S} {x0 y0 z0 : Value} (hx : a.eval x = .pointer (some p)) (h : At w p (sarr s x0 y0 z0).toList) (k : wpList Tryz.prog ops Q rest (a.put o.dst (.agg (sarr s x0 y0 z0))) w) : wpList Tryz.prog ops Q (o :: rest) a w := by
  refine wpList_step fun K hK => ?_
  rw [if_pos hgd]
  unfold Oper.wp execOp
  simp only [ho, hx, Instr.loadAt, Instr.sureAddr, Sem.run_bind, Sem.run_pure, Result.andThen_ok, run_loadAtS h]
  exact hK _ _ k
theorem cellsScreen : Tryz.prog.cellsOf 36 = 43 := by kernel_rfl
theorem bytesScreen : Tryz.prog.bytesOf 36 = 400 := by kernel_rfl
theorem cellsCursor : Tryz.prog.cellsOf 33 = 10 := by kernel_rfl
theorem cellsBool : Tryz.prog.cellsOf 4 = 1 := by kernel_rfl
theorem bytesBool : Tryz.prog.bytesOf 4 = 1 := by kernel_rfl
theorem cellsBools : Tryz.prog.cellsOf 34 = 1 := by kernel_rfl
theorem cellsScreens : Tryz.prog.cellsOf 22 = 1 := by kernel_rfl
open RowF
theorem one_bool {bnd : Nat} {W : World} {v : Value} (h : Fine bnd Tryz.prog W 4 [v]) : ∃ b, v = .bool b := by
  obtain ⟨x, e⟩ := h.bool Tryz.underlying4
  exact ⟨x, by simpa using e⟩
theorem open_bools {bnd : Nat} {w : World} {v : Value} (h : Fine bnd Tryz.prog w 34 [v]) : ∃ l : List Bool, Tab.Bl w v l ∧ l.length ≤ reachBytes := by
  rcases h.slice Tryz.underlying34 with h0 | ⟨a, len, cap, h1, h2, h3, h4⟩
  · obtain rfl : v = .slice none 0 0 := by simpa using h0
    exact ⟨[], Tab.Bl.nil w, by simp⟩
  · obtain rfl : v = .slice (some a) len cap := by simpa using h1
    obtain ⟨xs, hl, hq⟩ := list_of false (Q := fun i m => w.cell? (a.add i) = some (.bool m)) len fun i hi => by
      obtain ⟨es, g1, g2, g3⟩ := h4 i hi
      obtain ⟨m, rfl⟩ := g3.bool Tryz.underlying4
      refine ⟨m, ?_⟩
      have := g2 0 _ rfl
      rwa [cellsBool, Nat.mul_one, Nat.add_zero] at this
    subst hl
    rw [bytesBool, Nat.mul_one] at h2
    refine ⟨xs, ⟨⟨Tab.bools_length _, .inr ⟨a, cap, rfl, fun j u hu => ?_⟩⟩, some a, cap, rfl, h3.1⟩, h2⟩
    have hj : j < xs.length := by
      have := (List.getElem?_eq_some_iff.1 hu).1
      rwa [Tab.bools_length] at this
    rw [Tab.bools_get hj] at hu
    rw [hq j hj, hu]
theorem open_grid {bnd : Nat} {W : World} {a b v : Value} (h : Fine bnd Tryz.prog W 29 [a, b, v]) : ∃ G : Gr, a = .int .i64 G.rows ∧ b = .int .i64 G.cols ∧ Rm W v G.cells ∧ Texted bnd G.cells ∧ I64 G.rows ∧ I64 G.cols := by
  obtain ⟨r, rfl, h1⟩ := one_int (h.part Tryz.underlying29 0 rfl rfl rfl Tryz.cellsInt : Fine bnd Tryz.prog W 3 [a])
  obtain ⟨c, rfl, h2⟩ := one_int (h.part Tryz.underlying29 1 rfl rfl rfl Tryz.cellsInt : Fine bnd Tryz.prog W 3 [b])
  obtain ⟨l, hl, ht⟩ := open_cells (h.part Tryz.underlying29 2 rfl rfl rfl Tryz.cellsCells : Fine bnd Tryz.prog W 27 [v])
  exact ⟨⟨r, c, l⟩, rfl, rfl, hl, ht, h1, h2⟩
theorem open_cursor {bnd : Nat} {W : World} {a b c d e f g h i j : Value} (H : Fine bnd Tryz.prog W 33 [a, b, c, d, e, f, g, h, i, j]) :
    ∃ k : Cur, [a, b, c, d, e, f, g, h, i, j] = [.int .i64 k.row, .int .i64 k.col, .bool k.wrap, .int .i64 k.a.fg, .int .i64 k.a.bg, .int .i64 k.a.flags, .int .i64 k.g0, .int .i64 k.g1, .int .i64 k.shift, .bool k.origin] := by
  obtain ⟨x0, rfl, _⟩ := one_int (H.part Tryz.underlying33 0 rfl rfl rfl Tryz.cellsInt : Fine bnd Tryz.prog W 3 [a])
  obtain ⟨x1, rfl, _⟩ := one_int (H.part Tryz.underlying33 1 rfl rfl rfl Tryz.cellsInt : Fine bnd Tryz.prog W 3 [b])
  obtain ⟨x2, rfl⟩ := one_bool (H.part Tryz.underlying33 2 rfl rfl rfl cellsBool : Fine bnd Tryz.prog W 4 [c])
  obtain ⟨q, e3⟩ := open_attr (H.part Tryz.underlying33 3 rfl rfl rfl Tryz.cellsAttr : Fine bnd Tryz.prog W 31 [d, e, f])
  obtain ⟨rfl, rfl, rfl⟩ : d = .int .i64 q.fg ∧ e = .int .i64 q.bg ∧ f = .int .i64 q.flags := by simpa using e3
  obtain ⟨x4, rfl, _⟩ := one_int (H.part Tryz.underlying33 4 rfl rfl rfl Tryz.cellsInt : Fine bnd Tryz.prog W 3 [g])
  obtain ⟨x5, rfl, _⟩ := one_int (H.part Tryz.underlying33 5 rfl rfl rfl Tryz.cellsInt : Fine bnd Tryz.prog W 3 [h])
  obtain ⟨x6, rfl, _⟩ := one_int (H.part Tryz.underlying33 6 rfl rfl rfl Tryz.cellsInt : Fine bnd Tryz.prog W 3 [i])
  obtain ⟨x7, rfl⟩ := one_bool (H.part Tryz.underlying33 7 rfl rfl rfl cellsBool : Fine bnd Tryz.prog W 4 [j])
  exact ⟨⟨x0, x1, x2, q, x4, x5, x6, x7⟩, rfl⟩
theorem open_screen {bnd : Nat} {W : World} {cs : List Value} (H : Fine bnd Tryz.prog W 36 cs) : ∃ e : Sc, cs = svals e ∧ e.in_ W ∧ Reach bnd e.s := by
  have hl := H.len Tryz.underlying36
  rw [cellsScreen] at hl
  match cs, hl with
  | a0 :: a1 :: a2 :: a3 :: a4 :: a5 :: a6 :: a7 :: a8 :: a9 :: a10 :: a11 :: a12 :: a13 :: a14 :: a15 :: a16 :: a17 :: a18 :: a19 :: a20 :: a21 :: a22 :: a23 :: a24 :: a25 :: a26 :: a27 :: a28 :: a29 :: a30 :: a31 :: a32 :: a33 :: a34 :: a35 :: a36 :: a37 :: a38 :: a39 :: a40 :: a41 :: a42 :: [], _ =>
    obtain ⟨G, rfl, rfl, g1, g2, g3⟩ := open_grid (H.part Tryz.underlying36 0 rfl rfl rfl Tryz.cellsGrid : Fine bnd Tryz.prog W 29 [a0, a1, a2])
    obtain ⟨G', rfl, rfl, k1, k2, k3⟩ := open_grid (H.part Tryz.underlying36 1 rfl rfl rfl Tryz.cellsGrid : Fine bnd Tryz.prog W 29 [a3, a4, a5])
    obtain ⟨sw, rfl⟩ := one_bool (H.part Tryz.underlying36 2 rfl rfl rfl cellsBool : Fine bnd Tryz.prog W 4 [a6])
    obtain ⟨c1, e1⟩ := open_cursor (H.part Tryz.underlying36 3 rfl rfl rfl cellsCursor : Fine bnd Tryz.prog W 33 [a7, a8, a9, a10, a11, a12, a13, a14, a15, a16])
    obtain ⟨c2, e2⟩ := open_cursor (H.part Tryz.underlying36 4 rfl rfl rfl cellsCursor : Fine bnd Tryz.prog W 33 [a17, a18, a19, a20, a21, a22, a23, a24, a25, a26])
    obtain ⟨c3, e3⟩ := open_cursor (H.part Tryz.underlying36 5 rfl rfl rfl cellsCursor : Fine bnd Tryz.prog W 33 [a27, a28, a29, a30, a31, a32, a33, a34, a35, a36])
    obtain ⟨n6, rfl, _⟩ := one_int (H.part Tryz.underlying36 6 rfl rfl rfl Tryz.cellsInt : Fine bnd Tryz.prog W 3 [a37])
    obtain ⟨n7, rfl, _⟩ := one_int (H.part Tryz.underlying36 7 rfl rfl rfl Tryz.cellsInt : Fine bnd Tryz.prog W 3 [a38])
    obtain ⟨tb, b1, b2⟩ := open_bools (H.part Tryz.underlying36 8 rfl rfl rfl cellsBools : Fine bnd Tryz.prog W 34 [a39])
    obtain ⟨n9, rfl, _⟩ := one_int (H.part Tryz.underlying36 9 rfl rfl rfl Tryz.cellsInt : Fine bnd Tryz.prog W 3 [a40])
    have h10 : Fine bnd Tryz.prog W 9 [a41] := H.part Tryz.underlying36 10 rfl rfl rfl Tryz.cellsStr
    obtain ⟨t, et, ht⟩ := h10.string Tryz.underlying9
    obtain rfl : a41 = .string t := by simpa using et
    obtain ⟨n11, rfl, _⟩ := one_int (H.part Tryz.underlying36 11 rfl rfl rfl Tryz.cellsInt : Fine bnd Tryz.prog W 3 [a42])
    simp only [List.cons.injEq, and_true] at e1 e2 e3
    obtain ⟨rfl, rfl, rfl, rfl, rfl, rfl, rfl, rfl, rfl, rfl⟩ := e1
    obtain ⟨rfl, rfl, rfl, rfl, rfl, rfl, rfl, rfl, rfl, rfl⟩ := e2
    obtain ⟨rfl, rfl, rfl, rfl, rfl, rfl, rfl, rfl, rfl, rfl⟩ := e3
    refine ⟨⟨⟨G, G', sw, c1, c2, c3, n6, n7, tb, n9, t.data.toList, n11⟩, a2, a5, a39⟩, ?_, ⟨g1, k1, b1⟩, ⟨g2, k2, Nat.le_trans b2 (by unfold reachBytes; decide), ht, g3, k3⟩⟩
    obtain ⟨⟨l⟩⟩ := t
    rfl
theorem open_screens {bnd : Nat} {W : World} {v : Value} (h : Fine bnd Tryz.prog W 22 [v]) : ∃ l : List Sc, Scrs bnd W v l ∧ l.length ≤ 140737488355328 := by
  rcases h.slice Tryz.underlying22 with h0 | ⟨a, len, cap, h1, h2, h3, h4⟩
  · obtain rfl : v = .slice none 0 0 := by simpa using h0
    exact ⟨[], ⟨⟨none, 0, rfl, Nat.le_refl _, fun k hk => absurd hk (by simp)⟩, fun k hk => absurd hk (by simp)⟩, by simp⟩
  · obtain rfl : v = .slice (some a) len cap := by simpa using h1
    obtain ⟨l, hl, hq⟩ := list_of noSc (Q := fun i q => At W (a.add (i * 43)) (svals q) ∧ q.in_ W ∧ Reach bnd q.s) len fun i hi => by
      obtain ⟨es, g1, g2, g3⟩ := h4 i hi
      obtain ⟨q, rfl, hb⟩ := open_screen g3
      refine ⟨q, fun j u hu => ?_, hb⟩
      have := g2 j u hu
      rw [cellsScreen] at this
      rw [Go.Deep.add_add]; exact this
    subst hl
    rw [bytesScreen] at h2
    refine ⟨l, ⟨⟨some a, cap, rfl, h3.1, fun k hk => ⟨a, rfl, (hq k hk).1⟩⟩, fun k hk => (hq k hk).2⟩, ?_⟩
    unfold reachBytes at h2; omega
end Scr
end
section
open Go.RowKit
namespace Scr
open Go.Proofs.YtceaoadlhdgnmaaGreatDoor.Row
theorem num8 (n : Int) (w : World) : Calls Tryz.prog 66 #[.int .i64 n] w fun e w' => e = .returned (.int .i64 n) ∧ w = w' := by
  go_enter Tryz.func66, Tryz.ntmps66
  go_wp2_with fail
  go_ret
  exact ⟨rfl, rfl⟩
def weigh (s : S) : Nat := s.main.cells.length + s.other.cells.length + s.tabs.length + s.title.length
set_option maxHeartbeats 1600000 in
theorem weight_any {bnd : Nat} (s : S) (x y z : Value) (w : World) (h : In w s x y z) (hr : Reach bnd s) (hb : bnd ≤ 1152921504606846976) :
    Calls Tryz.prog 49 #[sv s x y z] w fun q w' => q = .returned (.int .i64 (weigh s)) ∧ Below w.heap.size w w' := by
  obtain ⟨Ax, cx, rfl, _⟩ := id h.m.2
  obtain ⟨Ay, cy, rfl, _⟩ := id h.o.2
  obtain ⟨Az, cz, rfl, _⟩ := id h.t.room
  have hm : s.main.cells.length ≤ 140737488355328 := hr.m.1
  have ho : s.other.cells.length ≤ 140737488355328 := hr.o.1
  have ht : s.tabs.length ≤ 140737488355328 := hr.b
  have hl : s.title.length ≤ bnd := hr.t
  have HW : Hid (weigh s = s.main.cells.length + s.other.cells.length + s.tabs.length + s.title.length) := Lib.hid rfl
  have HS : Hid ((⟨s.title.toArray⟩ : ByteArray).size = s.title.length) := Lib.hid (by show s.title.toArray.size = _; simp)
  clear h hr
  have HB : Hid (∀ A : Array Value, Below w.heap.size w (w.alloc (.cells A 36))) := Lib.hid fun A => bel_alloc w _
  obtain ⟨A, hA⟩ : ∃ A, sarr s (.slice Ax s.main.cells.length cx) (.slice Ay s.other.cells.length cy) (.slice Az s.tabs.length cz) = A := ⟨_, rfl⟩
  have d2 : A[2]? = some (.slice Ax s.main.cells.length cx) := by rw [← hA]; rfl
  have d5 : A[5]? = some (.slice Ay s.other.cells.length cy) := by rw [← hA]; rfl
  have d39 : A[39]? = some (.slice Az s.tabs.length cz) := by rw [← hA]; rfl
  have d41 : A[41]? = some (.string ⟨s.title.toArray⟩) := by rw [← hA]; rfl
  show Calls Tryz.prog _ #[.agg (sarr s (.slice Ax s.main.cells.length cx) (.slice Ay s.other.cells.length cy) (.slice Az s.tabs.length cz))] w _
  rw [hA]
  clear hA
  generalize (⟨s.title.toArray⟩ : ByteArray) = t at HS d41
  generalize weigh s = W at HW ⊢
  generalize s.main.cells.length = n1 at *
  generalize s.other.cells.length = n2 at *
  generalize s.tabs.length = n3 at *
  generalize s.title.length = n4 at *
  have hts : t.size ≤ 1152921504606846976 := by have := HS.out; omega
  go_enter Tryz.func49, Tryz.ntmps49
  go_wp2_with fail
  go_ret
  exact ⟨by rw [HW.out, ← HS.out]; simp, HB.out _⟩
def Weighed (l : List Sc) (q : Nat) (w : World) (e : Ending) (w' : World) : Prop := ∃ b : Bool, e = .returned (.bool b) ∧ (b = false → ∀ j, j < q → weigh (l.getD j noSc).s ≤ 5000) ∧ Below w.heap.size w w'
set_option maxHeartbeats 1600000 in
theorem heavy8 {bnd : Nat} (v : Value) (l : List Sc) (n m k r : Int) (w : World) (h : Scrs bnd w v l) (hl : l.length ≤ 140737488355328) (hb : bnd ≤ 1152921504606846976) :
    Calls Tryz.prog 15 #[.agg #[v, .int .i64 n, .int .i64 m, .int .i64 k, .int .i64 r]] w (Weighed l l.length w) := by
  have HBD := Lib.hid hb
  clear hb
  obtain ⟨⟨A, c, rfl, hc, hf⟩, h2⟩ := h
  have HF := Lib.hid hf
  have H2 := Lib.hid h2
  clear h2 hf
  obtain ⟨q, hq⟩ : ∃ q, l.length = q := ⟨_, rfl⟩
  have HQ := Lib.hid hq
  rw [hq] at hl HF H2 ⊢
  have HLQ := Lib.hid hl
  clear hq hl
  have HB := Lib.hid (bel_alloc w (.cells #[.slice A q c, .int .i64 n, .int .i64 m, .int .i64 k, .int .i64 r] 24))
  have HX : Hid ((w.alloc (.cells #[.slice A q c, .int .i64 n, .int .i64 m, .int .i64 k, .int .i64 r] 24)).heap[w.heap.size]? = some (.cells #[.slice A q c, .int .i64 n, .int .i64 m, .int .i64 k, .int .i64 r] 24 (0, 0))) := Lib.hid (heap_alloc_new _ _)
  go_enter Tryz.func15, Tryz.ntmps15
  go_wp2_with fail
  go_loopw [3, 4] (fun t i wr => ∃ (a : Nat) (u : Nat), a ≤ q ∧ i = .int .i64 a ∧ t = .int .i64 u ∧ Hid (u ≤ 2305843009213693952) ∧ Hid (∀ j, j < a → weigh (l.getD j noSc).s ≤ u) ∧ Hid (wr.heap[w.heap.size]? = some (.cells #[.slice A q c, .int .i64 n, .int .i64 m, .int .i64 k, .int .i64 r] 24 (0, 0))) ∧ Hid (Below w.heap.size w wr)) (fun _ i _ => q - (intOf i).toNat)
  case atStart => exact ⟨0, q, by omega, rfl, rfl, Lib.hid (by have := HLQ.out; omega), Lib.hid fun j hj => absurd hj (by omega), HX, HB⟩
  case round =>
    obtain ⟨a, u, ha, rfl, rfl, hu, HJ, HBX, HBL⟩ := hrel
    have b0 : wr.cell? ⟨w.heap.size, 0, none⟩ = some (.slice A q c) := Blk.cell HBX.out 0
    by_cases hlt : a < q
    · by_cases hbig : u < 1048576
      · obtain ⟨ad, rfl, hat⟩ := HF.out a hlt
        have hat := hat.kept HBL.out
        have HI := Lib.hid (H2.out a hlt)
        obtain ⟨e, he⟩ : ∃ e, l.getD a noSc = e := ⟨_, rfl⟩
        have HE := Lib.hid he
        rw [he] at hat HI
        clear he
        obtain ⟨s, x, y, z⟩ := e
        have HAT := Lib.hid (show At wr (ad.add (a * 43)) (sarr s x y z).toList from hat)
        have HWT := Lib.hid (weight_any s x y z wr (HI.out.1.kept HBL.out) HI.out.2 HBD.out)
        have hwb : weigh s ≤ 1152921504606846976 + 422212465065984 := by
          have h := HI.out.2
          have hb := HBD.out
          unfold weigh
          show s.main.cells.length + s.other.cells.length + s.tabs.length + s.title.length ≤ _
          have e1 : s.main.cells.length ≤ 140737488355328 := h.m.1
          have e2 : s.other.cells.length ≤ 140737488355328 := h.o.1
          have e3 : s.tabs.length ≤ 140737488355328 := h.b
          have e4 : s.title.length ≤ bnd := h.t
          omega
        have HWE : Hid (weigh (l.getD a noSc).s = weigh s) := Lib.hid (by rw [HE.out])
        generalize weigh s = W at HWT hwb HWE
        have HSM : Hid (u + W ≤ 2305843009213693952) := Lib.hid (by omega)
        have HW2 := HSM.out
        have hsum : IntKind.i64.wrap ((u : Int) + (W : Int)) = ((u + W : Nat) : Int) := by rw [IntKind.wrap_i64]; omega
        have hsu : u ≤ u + W := Nat.le_add_right _ _
        have hsw : W ≤ u + W := Nat.le_add_left _ _
        generalize u + W = s' at HSM hsum hsu hsw
        have HSU := Lib.hid hsu
        have HSW := Lib.hid hsw
        have hd : decide ((u : Int) < 1048576) = true := decide_eq_true (by omega)
        have hwk : IntKind.i64.wrap ((a : Int) + 1) = ((a + 1 : Nat) : Int) := by rw [IntKind.wrap_i64]; have := HLQ.out; omega
        clear hwb HW2 hbig hsu hsw
        clear hat HI HE
        go_wp2_with (refine wp_loadArg rfl rfl rfl HAT.out ?_)
        refine HWT.out.mono ?_; rintro e w2 ⟨rfl, hb2⟩
        have HB2 := Lib.hid (Blk.kept HBX.out hb2)
        have HL2 := Lib.hid (HBL.out.trans (hb2.mono HBL.out.size))
        clear hb2 HBX HBL b0 hd
        go_wp2_with fail
        go_roundw
        case rel => exact ⟨a + 1, s', by omega, rfl, rfl, HSM, Lib.hid fun j hj => (by
          have := HSU.out
          have := HSW.out
          by_cases e : j = a
          · subst e; rw [HWE.out]; omega
          · have := HJ.out j (by omega); omega), HB2, HL2⟩
        case measure => simp [intOf]; omega
      · have hd : decide ((u : Int) < 1048576) = false := decide_eq_false (by omega)
        go_wp2_with fail
        go_ret
        exact ⟨decide ((5000 : Int) < (u : Int)), rfl, fun h => absurd (of_decide_eq_false h) (by omega), HBL.out⟩
    · have haq : a = q := by omega
      subst haq
      go_wp2_with fail
      go_ret
      exact ⟨decide ((5000 : Int) < (u : Int)), rfl, fun h j hj => (by
        have := HJ.out j hj
        have := of_decide_eq_false h
        omega), HBL.out⟩
end Scr
end
section
open Go.RowKit
namespace Scr
open Go.Proofs.YtceaoadlhdgnmaaGreatDoor.Row
theorem run_load_op {w : World} {o : Oper} {a : Act} {x : Operand} {p : Addr} {s : S} {x0 y0 z0 : Value} (ho : o.op = .load 36 x) (hx : a.eval x = .pointer (some p)) (h : At w p (sarr s x0 y0 z0).toList) :
    (execOp a.eval o).run Tryz.prog w = .ok (.value (.agg (sarr s x0 y0 z0))) w := by
  unfold execOp
  simp only [ho, hx, Instr.loadAt, Instr.sureAddr, Sem.run_bind, Sem.run_pure, Result.andThen_ok, run_loadAtS h]
theorem SBox.at {w : World} {b : Nat} {s : S} {x y z : Value} (h : SBox w b s x y z) : At w ⟨b, 0, none⟩ (sarr s x y z).toList := by
  intro j u hu
  have := h.cell j
  rw [Array.getElem?_toList] at hu
  rw [hu] at this
  have e : (⟨b, 0, none⟩ : Addr).add j = ⟨b, j, none⟩ := by simp [Addr.add]; exact fun q => q.symm
  rw [e]
  exact this
theorem still_loadS {w : World} {ops : Array Oper} {rest : List Oper} {o : Oper} {a : Act} {Q : Act → Prop} {x : Operand} {p : Addr} {s : S} {x0 y0 z0 : Value} (hgd : Region.wanted o (yielded ops a.tmps) = true) (ho : o.op = .load 36 x) (hx : a.eval x = .pointer (some p))
    (h : At w p (sarr s x0 y0 z0).toList) (k : wpStill Tryz.prog ops w Q rest (a.put o.dst (.agg (sarr s x0 y0 z0)))) : wpStill Tryz.prog ops w Q (o :: rest) a := by
  refine wpStill_step fun K hK => ?_
  rw [if_pos hgd]
  unfold Oper.still
  rw [run_load_op ho hx h, Oper.stillUpon_value]
  exact hK _ k
end Scr
end
section
open Go.RowKit
namespace Scr
open Go.Proofs.YtceaoadlhdgnmaaGreatDoor.Row
end Scr
end
end Go.Proofs.YtceaoadlhdgnmaaGreatDoor
