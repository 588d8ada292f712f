/- Joined texts: PatArgs, PatHeavy. -/
import Derived.Test.YtjcfbeiljdohcaaDoorJM21
namespace Go.Proofs.YtjcfbeiljdohcaaDoor
set_option maxRecDepth 100000
section
open Go.ChangeShapes Go.WideShapes Go.RowKit
namespace Pat
open Go.Proofs.YtjcfbeiljdohcaaDoor.Row Go.Proofs.YtjcfbeiljdohcaaDoor.Scr Agb RowF
structure Ve where
  v : Vw
  x : Value
structure Pe where
  p : Pt
  u : Value
  x : Value
def noVe : Ve := ⟨noV, .slice none 0 0⟩
def noPe : Pe := ⟨noP, .slice none 0 0, .slice none 0 0⟩
def vvals (e : Ve) : List Value := vcells e.v e.x
def pvals (e : Pe) : List Value := pcells e.p e.u e.x
structure ReachV (bnd : Nat) (v : Vw) : Prop where
  c : Texted bnd v.g.cells
  t : v.title.length ≤ bnd
  n : I64 v.g.rows ∧ I64 v.g.cols ∧ I64 v.row ∧ I64 v.col ∧ I64 v.modes
structure ReachP (bnd : Nat) (p : Pt) : Prop where
  c : Texted bnd p.cells
  a : p.at_.length ≤ 140737488355328
  t : p.title.length ≤ bnd
  n : I64 p.rows ∧ I64 p.cols ∧ I64 p.row ∧ I64 p.col ∧ I64 p.modes
def VIn (w : World) (e : Ve) : Prop := Rm w e.x e.v.g.cells
def PIn (w : World) (e : Pe) : Prop := Sl w e.u e.p.at_ ∧ Rm w e.x e.p.cells
theorem VIn.kept {w w' : World} {e : Ve} (h : VIn w e) (hb : Below w.heap.size w w') : VIn w' e := Rm.kept h hb
theorem PIn.kept {w w' : World} {e : Pe} (h : PIn w e) (hb : Below w.heap.size w w') : PIn w' e := ⟨h.1.kept hb, h.2.kept hb⟩
def Views (bnd : Nat) (w : World) (val : Value) (l : List Ve) : Prop := Recs w val 7 l.length (l.map vvals) ∧ ∀ k, k < l.length → VIn w (l.getD k noVe) ∧ ReachV bnd (l.getD k noVe).v
def Pats (bnd : Nat) (w : World) (val : Value) (l : List Pe) : Prop := Recs w val 9 l.length (l.map pvals) ∧ ∀ k, k < l.length → PIn w (l.getD k noPe) ∧ ReachP bnd (l.getD k noPe).p
theorem Views.kept {bnd : Nat} {w w' : World} {val : Value} {l : List Ve} (h : Views bnd w val l) (hb : Below w.heap.size w w') : Views bnd w' val l := ⟨Recs.kept h.1 hb, fun k hk => ⟨(h.2 k hk).1.kept hb, (h.2 k hk).2⟩⟩
theorem Pats.kept {bnd : Nat} {w w' : World} {val : Value} {l : List Pe} (h : Pats bnd w val l) (hb : Below w.heap.size w w') : Pats bnd w' val l := ⟨Recs.kept h.1 hb, fun k hk => ⟨(h.2 k hk).1.kept hb, (h.2 k hk).2⟩⟩
theorem Views.form {bnd : Nat} {w : World} {val : Value} {l : List Ve} (h : Views bnd w val l) : ∃ A c, val = .slice A l.length c ∧ ∀ k, k < l.length → ∃ ad, A = some ad ∧ At w (ad.add (k * 7)) (vvals (l.getD k noVe)) := by
  obtain ⟨A, c, rfl, hf⟩ := Recs.form h.1
  refine ⟨A, c, rfl, fun k hk => ?_⟩
  obtain ⟨ad, rfl, ha⟩ := hf k hk
  have e : (l.map vvals).getD k [] = vvals (l.getD k noVe) := by simp [List.getD, hk]
  rw [e] at ha
  exact ⟨ad, rfl, ha⟩
theorem Pats.form {bnd : Nat} {w : World} {val : Value} {l : List Pe} (h : Pats bnd w val l) : ∃ A c, val = .slice A l.length c ∧ ∀ k, k < l.length → ∃ ad, A = some ad ∧ At w (ad.add (k * 9)) (pvals (l.getD k noPe)) := by
  obtain ⟨A, c, rfl, hf⟩ := Recs.form h.1
  refine ⟨A, c, rfl, fun k hk => ?_⟩
  obtain ⟨ad, rfl, ha⟩ := hf k hk
  have e : (l.map pvals).getD k [] = pvals (l.getD k noPe) := by simp [List.getD, hk]
  rw [e] at ha
  exact ⟨ad, rfl, ha⟩
theorem cellsView : Tryd.prog.cellsOf 32 = 7 := by kernel_rfl
theorem bytesView : Tryd.prog.bytesOf 32 = 80 := by kernel_rfl
theorem cellsPatch : Tryd.prog.cellsOf 35 = 9 := by kernel_rfl
theorem bytesPatch : Tryd.prog.bytesOf 35 = 112 := by kernel_rfl
theorem cellsNums : Tryd.prog.cellsOf 33 = 1 := by kernel_rfl
theorem bytesNum : Tryd.prog.bytesOf 3 = 8 := by kernel_rfl
theorem cellsGridP : Tryd.prog.cellsOf 30 = 3 := by kernel_rfl
theorem cellsBoolP : Tryd.prog.cellsOf 4 = 1 := by kernel_rfl
theorem cellsStrP : Tryd.prog.cellsOf 9 = 1 := by kernel_rfl
theorem cellsCellsP : Tryd.prog.cellsOf 28 = 1 := by kernel_rfl
theorem cellsViews : Tryd.prog.cellsOf 22 = 1 := by kernel_rfl
theorem cellsPats : Tryd.prog.cellsOf 23 = 1 := by kernel_rfl
theorem open_grid16 {bnd : Nat} {W : World} {a b v : Value} (h : Fine bnd Tryd.prog W 30 [a, b, v]) : ∃ G : Gr, a = .int .i64 G.rows ∧ b = .int .i64 G.cols ∧ Rm W v G.cells ∧ Texted bnd G.cells ∧ I64 G.rows ∧ I64 G.cols := by
  obtain ⟨r, rfl, h1⟩ := one_int (h.part Tryd.underlying30 0 rfl rfl rfl Tryd.cellsInt : Fine bnd Tryd.prog W 3 [a])
  obtain ⟨c, rfl, h2⟩ := one_int (h.part Tryd.underlying30 1 rfl rfl rfl Tryd.cellsInt : Fine bnd Tryd.prog W 3 [b])
  obtain ⟨l, hl, ht⟩ := open_cells (h.part Tryd.underlying30 2 rfl rfl rfl cellsCellsP : Fine bnd Tryd.prog W 28 [v])
  exact ⟨⟨r, c, l⟩, rfl, rfl, hl, ht, h1, h2⟩
theorem open_nums {bnd : Nat} {w : World} {v : Value} (h : Fine bnd Tryd.prog w 33 [v]) : ∃ l : List Int, Sl w v l ∧ l.length ≤ 140737488355328 ∧ ∀ i, i < l.length → I64 (l.getD i 0) := by
  rcases h.slice Tryd.underlying33 with h0 | ⟨a, len, cap, h1, h2, h3, h4⟩
  · obtain rfl : v = .slice none 0 0 := by simpa using h0
    exact ⟨[], Sl.nil w, by simp, fun i hi => absurd hi (by simp)⟩
  · obtain rfl : v = .slice (some a) len cap := by simpa using h1
    obtain ⟨xs, hl, hq⟩ := list_of (0 : Int) (Q := fun i m => w.cell? (a.add i) = some (.int .i64 m) ∧ I64 m) len fun i hi => by
      obtain ⟨es, g1, g2, g3⟩ := h4 i hi
      obtain ⟨m, rfl, hm⟩ := g3.int Tryd.underlying3
      refine ⟨m, ?_, i64_bd hm⟩
      have := g2 0 _ rfl
      rwa [show Tryd.prog.cellsOf 3 = 1 from by kernel_rfl, Nat.mul_one, Nat.add_zero] at this
    subst hl
    rw [bytesNum] at h2
    refine ⟨xs, ⟨⟨ints_length _, .inr ⟨a, cap, rfl, fun j u hu => ?_⟩⟩, some a, cap, rfl, h3.1⟩, by unfold reachBytes at h2; omega, fun i hi => (hq i hi).2⟩
    have hj : j < xs.length := by
      have := (List.getElem?_eq_some_iff.1 hu).1
      rwa [ints_length] at this
    rw [ints_get hj] at hu
    rw [(hq j hj).1, hu]
theorem open_view {bnd : Nat} {W : World} {cs : List Value} (H : Fine bnd Tryd.prog W 32 cs) : ∃ e : Ve, cs = vvals e ∧ VIn W e ∧ ReachV bnd e.v := by
  have hl := H.len Tryd.underlying32
  rw [cellsView] at hl
  match cs, hl with
  | [a0, a1, a2, a3, a4, a5, a6], _ =>
    obtain ⟨G, rfl, rfl, g1, g2, g3⟩ := open_grid16 (H.part Tryd.underlying32 0 rfl rfl rfl cellsGridP : Fine bnd Tryd.prog W 30 [a0, a1, a2])
    obtain ⟨n1, rfl, k1⟩ := one_int (H.part Tryd.underlying32 1 rfl rfl rfl Tryd.cellsInt : Fine bnd Tryd.prog W 3 [a3])
    obtain ⟨n2, rfl, k2⟩ := one_int (H.part Tryd.underlying32 2 rfl rfl rfl Tryd.cellsInt : Fine bnd Tryd.prog W 3 [a4])
    obtain ⟨n3, rfl, k3⟩ := one_int (H.part Tryd.underlying32 3 rfl rfl rfl Tryd.cellsInt : Fine bnd Tryd.prog W 3 [a5])
    have h4 : Fine bnd Tryd.prog W 9 [a6] := H.part Tryd.underlying32 4 rfl rfl rfl cellsStrP
    obtain ⟨t, et, ht⟩ := h4.string Tryd.underlying9
    obtain rfl : a6 = .string t := by simpa using et
    refine ⟨⟨⟨G, n1, n2, n3, t.data.toList⟩, a2⟩, ?_, g1, ⟨g2, ht, g3.1, g3.2, k1, k2, k3⟩⟩
    obtain ⟨⟨l⟩⟩ := t
    rfl
theorem open_patch {bnd : Nat} {W : World} {cs : List Value} (H : Fine bnd Tryd.prog W 35 cs) : ∃ e : Pe, cs = pvals e ∧ PIn W e ∧ ReachP bnd e.p := by
  have hl := H.len Tryd.underlying35
  rw [cellsPatch] at hl
  match cs, hl with
  | [a0, a1, a2, a3, a4, a5, a6, a7, a8], _ =>
    obtain ⟨n0, rfl, k0⟩ := one_int (H.part Tryd.underlying35 0 rfl rfl rfl Tryd.cellsInt : Fine bnd Tryd.prog W 3 [a0])
    obtain ⟨n1, rfl, k1⟩ := one_int (H.part Tryd.underlying35 1 rfl rfl rfl Tryd.cellsInt : Fine bnd Tryd.prog W 3 [a1])
    obtain ⟨f, ef⟩ := (H.part Tryd.underlying35 2 rfl rfl rfl cellsBoolP : Fine bnd Tryd.prog W 4 [a2]).bool Tryd.underlying4
    obtain rfl : a2 = .bool f := by simpa using ef
    obtain ⟨nn, hn, hn2, _⟩ := open_nums (H.part Tryd.underlying35 3 rfl rfl rfl cellsNums : Fine bnd Tryd.prog W 33 [a3])
    obtain ⟨l, hc, ht⟩ := open_cells (H.part Tryd.underlying35 4 rfl rfl rfl cellsCellsP : Fine bnd Tryd.prog W 28 [a4])
    obtain ⟨n5, rfl, k5⟩ := one_int (H.part Tryd.underlying35 5 rfl rfl rfl Tryd.cellsInt : Fine bnd Tryd.prog W 3 [a5])
    obtain ⟨n6, rfl, k6⟩ := one_int (H.part Tryd.underlying35 6 rfl rfl rfl Tryd.cellsInt : Fine bnd Tryd.prog W 3 [a6])
    obtain ⟨n7, rfl, k7⟩ := one_int (H.part Tryd.underlying35 7 rfl rfl rfl Tryd.cellsInt : Fine bnd Tryd.prog W 3 [a7])
    have h8 : Fine bnd Tryd.prog W 9 [a8] := H.part Tryd.underlying35 8 rfl rfl rfl cellsStrP
    obtain ⟨t, et, htl⟩ := h8.string Tryd.underlying9
    obtain rfl : a8 = .string t := by simpa using et
    refine ⟨⟨⟨n0, n1, f, nn, l, n5, n6, n7, t.data.toList⟩, a3, a4⟩, ?_, ⟨hn, hc⟩, ⟨ht, hn2, htl, k0, k1, k5, k6, k7⟩⟩
    obtain ⟨⟨tl⟩⟩ := t
    rfl
theorem flatten_at {α : Type} (f : α → List Value) (C : Nat) (d : α) {W : World} {a : Addr} {l : List α} (hC : ∀ e, (f e).length = C) (h : ∀ k, k < l.length → At W (a.add (k * C)) (f (l.getD k d))) (cap : Nat) : Recs W (.slice (some a) l.length cap) C l.length (l.map f) :=
  ⟨List.length_map _, fun r hr => by obtain ⟨e, _, rfl⟩ := List.mem_map.1 hr; exact hC e, .inr ⟨a, cap, rfl, fun i r hr => by
    have hi : i < l.length := by
      have := (List.getElem?_eq_some_iff.1 hr).1
      rwa [List.length_map] at this
    have hk := h i hi
    have e : l.getD i d = l[i] := by simp [hi]
    have e2 : r = f l[i] := by
      rw [List.getElem?_map, List.getElem?_eq_getElem hi] at hr
      exact (Option.some.inj hr).symm
    rw [e2, ← e]; exact hk⟩⟩
theorem open_views {bnd : Nat} {W : World} {v : Value} (h : Fine bnd Tryd.prog W 22 [v]) : ∃ l : List Ve, Views bnd W v l ∧ l.length ≤ 140737488355328 := by
  rcases h.slice Tryd.underlying22 with h0 | ⟨a, len, cap, h1, h2, h3, h4⟩
  · obtain rfl : v = .slice none 0 0 := by simpa using h0
    exact ⟨[], ⟨⟨rfl, fun _ h => (by cases h), .inl ⟨rfl, rfl⟩⟩, fun k hk => absurd hk (by simp)⟩, by simp⟩
  · obtain rfl : v = .slice (some a) len cap := by simpa using h1
    obtain ⟨l, hl, hq⟩ := list_of noVe (Q := fun i q => At W (a.add (i * 7)) (vvals q) ∧ VIn W q ∧ ReachV bnd q.v) len fun i hi => by
      obtain ⟨es, g1, g2, g3⟩ := h4 i hi
      obtain ⟨q, rfl, hb⟩ := open_view g3
      refine ⟨q, fun j u hu => ?_, hb⟩
      have := g2 j u hu
      rw [cellsView] at this
      rw [Go.Deep.add_add]; exact this
    subst hl
    rw [bytesView] at h2
    exact ⟨l, ⟨flatten_at vvals 7 noVe (fun _ => rfl) (fun k hk => (hq k hk).1) cap, fun k hk => (hq k hk).2⟩, by unfold reachBytes at h2; omega⟩
theorem open_patches {bnd : Nat} {W : World} {v : Value} (h : Fine bnd Tryd.prog W 23 [v]) : ∃ l : List Pe, Pats bnd W v l ∧ l.length ≤ 140737488355328 := by
  rcases h.slice Tryd.underlying23 with h0 | ⟨a, len, cap, h1, h2, h3, h4⟩
  · obtain rfl : v = .slice none 0 0 := by simpa using h0
    exact ⟨[], ⟨⟨rfl, fun _ h => (by cases h), .inl ⟨rfl, rfl⟩⟩, fun k hk => absurd hk (by simp)⟩, by simp⟩
  · obtain rfl : v = .slice (some a) len cap := by simpa using h1
    obtain ⟨l, hl, hq⟩ := list_of noPe (Q := fun i q => At W (a.add (i * 9)) (pvals q) ∧ PIn W q ∧ ReachP bnd q.p) len fun i hi => by
      obtain ⟨es, g1, g2, g3⟩ := h4 i hi
      obtain ⟨q, rfl, hb⟩ := open_patch g3
      refine ⟨q, fun j u hu => ?_, hb⟩
      have := g2 j u hu
      rw [cellsPatch] at this
      rw [Go.Deep.add_add]; exact this
    subst hl
    rw [bytesPatch] at h2
    exact ⟨l, ⟨flatten_at pvals 9 noPe (fun _ => rfl) (fun k hk => (hq k hk).1) cap, fun k hk => (hq k hk).2⟩, by unfold reachBytes at h2; omega⟩
theorem open_ask16 {bnd : Nat} {W : World} {cs : List Value} (h : Fine bnd Tryd.prog W 25 cs) : ∃ (x y : Value) (V : List Ve) (P : List Pe), cs = [x, y] ∧ Views bnd W x V ∧ Pats bnd W y P ∧ V.length ≤ 140737488355328 ∧ P.length ≤ 140737488355328 := by
  have hu := Tryd.underlying25
  have hl := h.len hu
  rw [show Tryd.prog.cellsOf 25 = 2 by kernel_rfl] at hl
  match cs, hl with
  | [x, y], _ =>
    obtain ⟨V, h1, h2⟩ := open_views (h.part hu 0 rfl rfl rfl cellsViews : Fine bnd Tryd.prog W 22 [x])
    obtain ⟨P, h3, h4⟩ := open_patches (h.part hu 1 rfl rfl rfl cellsPats : Fine bnd Tryd.prog W 23 [y])
    exact ⟨x, y, V, P, rfl, h1, h3, h2, h4⟩
end Pat
end
section
open Go.RowKit
namespace Pat
open Go.Proofs.YtjcfbeiljdohcaaDoor.Row Go.Proofs.YtjcfbeiljdohcaaDoor.Scr Agb
theorem num16 (n : Int) (w : World) : Calls Tryd.prog 8 #[.int .i64 n] w fun e w' => e = .returned (.int .i64 n) ∧ w = w' := by
  go_enter Tryd.func8, Tryd.ntmps8
  go_wp2_with fail
  go_ret
  exact ⟨rfl, rfl⟩
def weighV (v : Vw) : Nat := v.g.cells.length + v.title.length
def weighP (p : Pt) : Nat := p.at_.length + p.cells.length + p.title.length
theorem patchWeight_t (R C p q m : Int) (f : Bool) (T : ByteArray) (Au Ay : Option Addr) (n l cu cy W : Nat) (w : World) (hW : n + l + T.size = W) (hb : W ≤ 4611686018427387904) :
    Calls Tryd.prog 12 #[.agg #[.int .i64 R, .int .i64 C, .bool f, .slice Au n cu, .slice Ay l cy, .int .i64 p, .int .i64 q, .int .i64 m, .string T]] w fun e w' => e = .returned (.int .i64 W) ∧ Below w.heap.size w w' := by
  have HB := Lib.hid ((Below.refl w.heap.size w).alloc (Nat.le_refl _) (.cells #[.int .i64 R, .int .i64 C, .bool f, .slice Au n cu, .slice Ay l cy, .int .i64 p, .int .i64 q, .int .i64 m, .string T] 35))
  obtain ⟨s, hs⟩ : ∃ s, n + l = s := ⟨_, rfl⟩
  have h1 : IntKind.i64.wrap ((n : Int) + (l : Int)) = (s : Int) := by rw [IntKind.wrap_i64]; omega
  have h2 : IntKind.i64.wrap ((s : Int) + (T.size : Int)) = (W : Int) := by rw [IntKind.wrap_i64]; omega
  clear hs hW hb
  go_enter Tryd.func12, Tryd.ntmps12
  go_wp2_with fail
  go_ret
  exact ⟨rfl, HB.out⟩
theorem patchWeight_any {bnd : Nat} (e : Pe) (w : World) (h : PIn w e) (hr : ReachP bnd e.p) (hb : bnd ≤ 1152921504606846976) :
    Calls Tryd.prog 12 #[pagg e.p e.u e.x] w fun q w' => q = .returned (.int .i64 (weighP e.p)) ∧ Below w.heap.size w w' := by
  obtain ⟨⟨R, C, f, nn, l, p, q, m, t⟩, u, x⟩ := e
  obtain ⟨Au, cu, e1, _⟩ := h.1.room
  obtain ⟨Ay, cy, e2, _⟩ := h.2.2
  simp only at e1 e2
  subst e1; subst e2
  have h1 : l.length ≤ 140737488355328 := hr.c.1
  have h2 : nn.length ≤ 140737488355328 := hr.a
  have h3 : t.length ≤ bnd := hr.t
  have hsz : (⟨t.toArray⟩ : ByteArray).size = t.length := by show t.toArray.size = _; simp
  refine patchWeight_t R C p q m f ⟨t.toArray⟩ Au Ay nn.length l.length cu cy _ w ?_ ?_
  · rw [hsz]; rfl
  · show nn.length + l.length + t.length ≤ _; omega
def Weighed16 (V : List Ve) (P : List Pe) (w : World) (e : Ending) (w' : World) : Prop := ∃ b : Bool, e = .returned (.bool b) ∧ (b = false → (∀ j, j < V.length → weighV (V.getD j noVe).v ≤ 4000) ∧ ∀ j, j < P.length → weighP (P.getD j noPe).p ≤ 4000) ∧ Below w.heap.size w w'
set_option maxHeartbeats 6400000 in
theorem heavy16 {bnd : Nat} (x y : Value) (V : List Ve) (P : List Pe) (w : World) (hx : Views bnd w x V) (hy : Pats bnd w y P) (hn : V.length ≤ 140737488355328) (hm : P.length ≤ 140737488355328) (hb : bnd ≤ 1152921504606846976) :
    Calls Tryd.prog 4 #[.agg #[x, y]] w (Weighed16 V P w) := by
  have HBD := Lib.hid hb
  clear hb
  have HX := Lib.hid hx
  have HY := Lib.hid hy
  obtain ⟨A, c, rfl, _⟩ := hx.form
  obtain ⟨A', c', rfl, _⟩ := hy.form
  clear hx hy
  obtain ⟨n, hnn⟩ : ∃ n, V.length = n := ⟨_, rfl⟩
  obtain ⟨m, hmm⟩ : ∃ n, P.length = n := ⟨_, rfl⟩
  have HN := Lib.hid hnn
  have HM := Lib.hid hmm
  rw [hnn] at hn ⊢
  rw [hmm] at hm ⊢
  clear hnn hmm
  have HB := Lib.hid ((Below.refl w.heap.size w).alloc (Nat.le_refl _) (.cells #[.slice A n c, .slice A' m c'] 25))
  have HK := Lib.hid (new_alloc w (.cells #[.slice A n c, .slice A' m c'] 25) _ rfl)
  have hw0 : IntKind.i64.wrap ((n : Int) + (m : Int)) = ((n + m : Nat) : Int) := by rw [IntKind.wrap_i64]; omega
  obtain ⟨s0, hs0⟩ : ∃ s, n + m = s := ⟨_, rfl⟩
  rw [hs0] at hw0
  have HS0 : Hid (s0 ≤ 281474976710656) := Lib.hid (by omega)
  have HNM := Lib.hid (show n ≤ 140737488355328 ∧ m ≤ 140737488355328 from ⟨hn, hm⟩)
  clear hs0
  go_enter Tryd.func4, Tryd.ntmps4
  go_wp2_with fail
  clear hw0
  generalize w.alloc (.cells #[.slice A n c, .slice A' m c'] 25) = wa at HB HK ⊢
  go_loopw [3, 4] (fun t i wr => ∃ (a u : Nat), a ≤ n ∧ i = .int .i64 a ∧ t = .int .i64 u ∧ Hid (u ≤ 2305843009213693952) ∧ Hid (∀ j, j < a → weighV (V.getD j noVe).v ≤ u) ∧ Hid (Below wa.heap.size wa wr)) (fun _ i _ => n - (intOf i).toNat)
  case atStart => exact ⟨0, s0, by omega, rfl, rfl, Lib.hid (by have := HS0.out; omega), Lib.hid fun j hj => absurd hj (by omega), Lib.hid (Below.refl _ _)⟩
  case round =>
    obtain ⟨a, u, ha, rfl, rfl, hu, HJ, HBL⟩ := hrel
    have hX := Blk.kept HK.out HBL.out
    have b0 : wr.cell? ⟨w.heap.size, 0, none⟩ = some (.slice A n c) := Blk.cell hX 0
    have b1 : wr.cell? ⟨w.heap.size, 1, none⟩ = some (.slice A' m c') := Blk.cell hX 1
    clear hX
    have HBW := Lib.hid (HB.out.trans (HBL.out.mono HB.out.size))
    by_cases hlt : a < n
    · by_cases hbig : u < 1048576
      · obtain ⟨A1, c1, e1, hf⟩ := (HX.out.kept HBW.out).form
        injection e1 with e1 e2 e3
        subst e1
        obtain ⟨ad, rfl, K⟩ := hf a (by rw [HN.out]; exact hlt)
        have HRV := Lib.hid ((HX.out.2 a (by rw [HN.out]; exact hlt)))
        clear hf e2 e3
        obtain ⟨e, he⟩ : ∃ e, V.getD a noVe = e := ⟨_, rfl⟩
        rw [he] at K HRV
        have HE := Lib.hid he
        clear he
        obtain ⟨⟨⟨R, C, l⟩, p, q, mo, t⟩, xe⟩ := e
        obtain ⟨Ae, ce, exe, _⟩ := HRV.out.1.2
        simp only at exe
        subst exe
        have hl : l.length ≤ 140737488355328 := HRV.out.2.c.1
        have ht : t.length ≤ bnd := HRV.out.2.t
        have hsz : (⟨t.toArray⟩ : ByteArray).size = t.length := by show t.toArray.size = _; simp
        have HWE : Hid (weighV (V.getD a noVe).v = l.length + t.length) := Lib.hid (by rw [HE.out]; rfl)
        have h2 := K.next 1 rfl
        have h6 := K.next 5 rfl
        obtain ⟨s1, hs1⟩ : ∃ s, u + l.length = s := ⟨_, rfl⟩
        obtain ⟨s2, hs2⟩ : ∃ s, s1 + t.length = s := ⟨_, rfl⟩
        have hB := HBD.out
        have hw1 : IntKind.i64.wrap ((u : Int) + (l.length : Int)) = (s1 : Int) := by rw [IntKind.wrap_i64]; omega
        have hw2 : IntKind.i64.wrap ((s1 : Int) + (t.length : Int)) = (s2 : Int) := by rw [IntKind.wrap_i64]; omega
        have HW2 := Lib.hid hw2
        have HU2 : Hid (s2 ≤ 2305843009213693952) := Lib.hid (by omega)
        have HJ2 : Hid (∀ j, j < a + 1 → weighV (V.getD j noVe).v ≤ s2) := Lib.hid fun j hj => by
          by_cases e : j = a
          · rw [e, HWE.out]; omega
          · have := HJ.out j (by omega); omega
        have hd : decide ((u : Int) < 1048576) = true := decide_eq_true (by omega)
        generalize (⟨t.toArray⟩ : ByteArray) = T at h6 hsz
        rw [← hsz] at hw2
        clear hs1 hs2 hB HE HWE HJ hu HRV hl ht hsz K hbig
        go_wp2_with fail
        go_quiet (fail)
        go_wp2_with fail
        go_roundw
        case rel => exact ⟨a + 1, s2, by omega, by go_num, congrArg (Value.int .i64) (by have h := HW2.out; rw [IntKind.wrap_i64] at h; unfold wrap64; omega), HU2, HJ2, Lib.hid (below_drewN HBL.out _)⟩
        case measure => simp [intOf]; omega
      · have hd : decide ((u : Int) < 1048576) = false := decide_eq_false (by omega)
        have HV : Hid (u ≤ 4000 → ∀ j, j < n → weighV (V.getD j noVe).v ≤ u) := Lib.hid (fun h => absurd h (by omega))
        have HX1 := Lib.hid (Blk.kept HK.out HBL.out)
        clear HJ HBL
        obtain ⟨u1, hu1⟩ : ∃ u1, u1 = u := ⟨_, rfl⟩
        subst hu1
        go_wp2_with fail
        clear b0 b1
        obtain ⟨w1, hw1e⟩ : ∃ w1, w1 = wr := ⟨_, rfl⟩
        subst hw1e
        go_loopw [3, 5] (fun t i wr => ∃ (a u : Nat), a ≤ m ∧ i = .int .i64 a ∧ t = .int .i64 u ∧ Hid (u ≤ 2305843009213693952) ∧ Hid (u1 ≤ u) ∧ Hid (∀ j, j < a → weighP (P.getD j noPe).p ≤ u) ∧ Hid (Below w1.heap.size w1 wr)) (fun _ i _ => m - (intOf i).toNat)
        case atStart => exact ⟨0, u1, by omega, rfl, rfl, hu, Lib.hid (Nat.le_refl _), Lib.hid fun j hj => absurd hj (by omega), Lib.hid (Below.refl _ _)⟩
        case round =>
          obtain ⟨a, u, ha, rfl, rfl, hu, hle, HJ, HBL⟩ := hrel
          have hX := Blk.kept HX1.out HBL.out
          have b0 : wr.cell? ⟨w.heap.size, 0, none⟩ = some (.slice A n c) := Blk.cell hX 0
          have b1 : wr.cell? ⟨w.heap.size, 1, none⟩ = some (.slice A' m c') := Blk.cell hX 1
          clear hX
          have HBV := Lib.hid (HBW.out.trans (HBL.out.mono HBW.out.size))
          by_cases hlt : a < m
          · by_cases hbig : u < 1048576
            · obtain ⟨A1, c1, e1, hf⟩ := (HY.out.kept HBV.out).form
              injection e1 with e1 e2 e3
              subst e1
              obtain ⟨ad, rfl, K⟩ := hf a (by rw [HM.out]; exact hlt)
              have HRV := Lib.hid ((HY.out.2 a (by rw [HM.out]; exact hlt)))
              clear hf e2 e3
              obtain ⟨e, he⟩ : ∃ e, P.getD a noPe = e := ⟨_, rfl⟩
              rw [he] at K HRV
              have HE := Lib.hid he
              clear he
              have HWT := Lib.hid (patchWeight_any e wr (HRV.out.1.kept HBV.out) HRV.out.2 HBD.out)
              have HWB : Hid (weighP e.p ≤ 2000000000000000000) := Lib.hid (by
                have h1 : e.p.cells.length ≤ 140737488355328 := HRV.out.2.c.1
                have h2 := HRV.out.2.a
                have h3 := HRV.out.2.t
                have h4 := HBD.out
                show e.p.at_.length + e.p.cells.length + e.p.title.length ≤ _
                omega)
              have HWE : Hid (weighP (P.getD a noPe).p = weighP e.p) := Lib.hid (by rw [HE.out])
              obtain ⟨⟨R, C, f, nn, l, p, q, mo, t⟩, ue, xe⟩ := e
              generalize weighP (⟨R, C, f, nn, l, p, q, mo, t⟩ : Pt) = W at HWT HWB HWE
              have h0 := K.head
              have h1 := K.next 0 rfl
              have h2 := K.next 1 rfl
              have h3 := K.next 2 rfl
              have h4 := K.next 3 rfl
              have h5 := K.next 4 rfl
              have h6 := K.next 5 rfl
              have h7 := K.next 6 rfl
              have h8 := K.next 7 rfl
              obtain ⟨s2, hs2⟩ : ∃ s, u + W = s := ⟨_, rfl⟩
              have hwb := HWB.out
              have hw2 : IntKind.i64.wrap ((u : Int) + (W : Int)) = (s2 : Int) := by rw [IntKind.wrap_i64]; omega
              have HU2 : Hid (s2 ≤ 2305843009213693952) := Lib.hid (by omega)
              have HLE : Hid (u1 ≤ s2) := Lib.hid (by have := hle.out; omega)
              have HJ2 : Hid (∀ j, j < a + 1 → weighP (P.getD j noPe).p ≤ s2) := Lib.hid fun j hj => by
                by_cases e : j = a
                · rw [e, HWE.out]; omega
                · have := HJ.out j (by omega); omega
              have hd : decide ((u : Int) < 1048576) = true := decide_eq_true (by omega)
              clear hs2 hwb HE HWE HJ hu HRV K hbig HWB hle
              simp only [pagg] at HWT
              go_wp2_with fail
              refine HWT.out.mono ?_; rintro e w5 ⟨rfl, hb⟩
              have HB5 := Lib.hid (HBL.out.trans (hb.mono HBL.out.size))
              clear hb
              go_wp2_with fail
              go_roundw
              case rel => exact ⟨a + 1, s2, by omega, by go_num, rfl, HU2, HLE, HJ2, HB5⟩
              case measure => simp [intOf]; omega
            · have hd : decide ((u : Int) < 1048576) = false := decide_eq_false (by omega)
              have hd4 : decide (4000 < (u : Int)) = true := decide_eq_true (by omega)
              clear hbig
              go_wp2_with fail
              go_ret
              exact ⟨true, rfl, fun h => (by cases h), HBV.out⟩
          · by_cases h4 : u ≤ 4000
            · have hd4 : decide (4000 < (u : Int)) = false := decide_eq_false (by omega)
              go_wp2_with fail
              go_ret
              exact ⟨false, rfl, fun _ => ⟨fun j hj => by have h1 := HV.out (by have := hle.out; omega) j (by rw [← HN.out]; exact hj); have := hle.out; omega, fun j hj => by have := HJ.out j (by have := HM.out; omega); omega⟩, HBV.out⟩
            · have hd4 : decide (4000 < (u : Int)) = true := decide_eq_true (by omega)
              go_wp2_with fail
              go_ret
              exact ⟨true, rfl, fun h => (by cases h), HBV.out⟩
    · have hlt2 : ¬ a < n := hlt
      have HV : Hid (u ≤ 4000 → ∀ j, j < n → weighV (V.getD j noVe).v ≤ u) := Lib.hid (fun _ j hj => HJ.out j (by omega))
      have HX1 := Lib.hid (Blk.kept HK.out HBL.out)
      clear HJ HBL
      obtain ⟨u1, hu1⟩ : ∃ u1, u1 = u := ⟨_, rfl⟩
      subst hu1
      go_wp2_with fail
      clear b0 b1
      obtain ⟨w1, hw1e⟩ : ∃ w1, w1 = wr := ⟨_, rfl⟩
      subst hw1e
      go_loopw [3, 5] (fun t i wr => ∃ (a u : Nat), a ≤ m ∧ i = .int .i64 a ∧ t = .int .i64 u ∧ Hid (u ≤ 2305843009213693952) ∧ Hid (u1 ≤ u) ∧ Hid (∀ j, j < a → weighP (P.getD j noPe).p ≤ u) ∧ Hid (Below w1.heap.size w1 wr)) (fun _ i _ => m - (intOf i).toNat)
      case atStart => exact ⟨0, u1, by omega, rfl, rfl, hu, Lib.hid (Nat.le_refl _), Lib.hid fun j hj => absurd hj (by omega), Lib.hid (Below.refl _ _)⟩
      case round =>
        obtain ⟨a, u, ha, rfl, rfl, hu, hle, HJ, HBL⟩ := hrel
        have hX := Blk.kept HX1.out HBL.out
        have b0 : wr.cell? ⟨w.heap.size, 0, none⟩ = some (.slice A n c) := Blk.cell hX 0
        have b1 : wr.cell? ⟨w.heap.size, 1, none⟩ = some (.slice A' m c') := Blk.cell hX 1
        clear hX
        have HBV := Lib.hid (HBW.out.trans (HBL.out.mono HBW.out.size))
        by_cases hlt : a < m
        · by_cases hbig : u < 1048576
          · obtain ⟨A1, c1, e1, hf⟩ := (HY.out.kept HBV.out).form
            injection e1 with e1 e2 e3
            subst e1
            obtain ⟨ad, rfl, K⟩ := hf a (by rw [HM.out]; exact hlt)
            have HRV := Lib.hid ((HY.out.2 a (by rw [HM.out]; exact hlt)))
            clear hf e2 e3
            obtain ⟨e, he⟩ : ∃ e, P.getD a noPe = e := ⟨_, rfl⟩
            rw [he] at K HRV
            have HE := Lib.hid he
            clear he
            have HWT := Lib.hid (patchWeight_any e wr (HRV.out.1.kept HBV.out) HRV.out.2 HBD.out)
            have HWB : Hid (weighP e.p ≤ 2000000000000000000) := Lib.hid (by
              have h1 : e.p.cells.length ≤ 140737488355328 := HRV.out.2.c.1
              have h2 := HRV.out.2.a
              have h3 := HRV.out.2.t
              have h4 := HBD.out
              show e.p.at_.length + e.p.cells.length + e.p.title.length ≤ _
              omega)
            have HWE : Hid (weighP (P.getD a noPe).p = weighP e.p) := Lib.hid (by rw [HE.out])
            obtain ⟨⟨R, C, f, nn, l, p, q, mo, t⟩, ue, xe⟩ := e
            generalize weighP (⟨R, C, f, nn, l, p, q, mo, t⟩ : Pt) = W at HWT HWB HWE
            have h0 := K.head
            have h1 := K.next 0 rfl
            have h2 := K.next 1 rfl
            have h3 := K.next 2 rfl
            have h4 := K.next 3 rfl
            have h5 := K.next 4 rfl
            have h6 := K.next 5 rfl
            have h7 := K.next 6 rfl
            have h8 := K.next 7 rfl
            obtain ⟨s2, hs2⟩ : ∃ s, u + W = s := ⟨_, rfl⟩
            have hwb := HWB.out
            have hw2 : IntKind.i64.wrap ((u : Int) + (W : Int)) = (s2 : Int) := by rw [IntKind.wrap_i64]; omega
            have HU2 : Hid (s2 ≤ 2305843009213693952) := Lib.hid (by omega)
            have HLE : Hid (u1 ≤ s2) := Lib.hid (by have := hle.out; omega)
            have HJ2 : Hid (∀ j, j < a + 1 → weighP (P.getD j noPe).p ≤ s2) := Lib.hid fun j hj => by
              by_cases e : j = a
              · rw [e, HWE.out]; omega
              · have := HJ.out j (by omega); omega
            have hd : decide ((u : Int) < 1048576) = true := decide_eq_true (by omega)
            clear hs2 hwb HE HWE HJ hu HRV K hbig HWB hle
            simp only [pagg] at HWT
            go_wp2_with fail
            refine HWT.out.mono ?_; rintro e w5 ⟨rfl, hb⟩
            have HB5 := Lib.hid (HBL.out.trans (hb.mono HBL.out.size))
            clear hb
            go_wp2_with fail
            go_roundw
            case rel => exact ⟨a + 1, s2, by omega, by go_num, rfl, HU2, HLE, HJ2, HB5⟩
            case measure => simp [intOf]; omega
          · have hd : decide ((u : Int) < 1048576) = false := decide_eq_false (by omega)
            have hd4 : decide (4000 < (u : Int)) = true := decide_eq_true (by omega)
            clear hbig
            go_wp2_with fail
            go_ret
            exact ⟨true, rfl, fun h => (by cases h), HBV.out⟩
        · by_cases h4 : u ≤ 4000
          · have hd4 : decide (4000 < (u : Int)) = false := decide_eq_false (by omega)
            go_wp2_with fail
            go_ret
            exact ⟨false, rfl, fun _ => ⟨fun j hj => by have h1 := HV.out (by have := hle.out; omega) j (by rw [← HN.out]; exact hj); have := hle.out; omega, fun j hj => by have := HJ.out j (by have := HM.out; omega); omega⟩, HBV.out⟩
          · have hd4 : decide (4000 < (u : Int)) = true := decide_eq_true (by omega)
            go_wp2_with fail
            go_ret
            exact ⟨true, rfl, fun h => (by cases h), HBV.out⟩
end Pat
end
end Go.Proofs.YtjcfbeiljdohcaaDoor
