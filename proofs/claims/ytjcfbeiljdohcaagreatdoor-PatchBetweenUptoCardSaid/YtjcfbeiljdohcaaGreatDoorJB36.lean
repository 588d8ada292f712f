/- Joined texts: PatArgs, PatHeavy, PatWakes. -/
import Derived.Test.YtjcfbeiljdohcaaGreatDoorJB35
namespace Go.Proofs.YtjcfbeiljdohcaaGreatDoor
set_option maxRecDepth 100000
section
open Go.ChangeShapes Go.WideShapes Go.RowKit
namespace Pat
open Go.Proofs.YtjcfbeiljdohcaaGreatDoor.Row Go.Proofs.YtjcfbeiljdohcaaGreatDoor.Scr Agb RowF
structure Ve where
  v : Vw
  x : Value
structure Pe where
  p : Pt
  u : Value
  x : Value
def noVe : Ve := ⟨noV, .slice none 0 0⟩
def noPe : Pe := ⟨noP, .slice none 0 0, .slice none 0 0⟩
def vvals (e : Ve) : List Value := vcells e.v e.x
def pvals (e : Pe) : List Value := pcells e.p e.u e.x
structure ReachV (bnd : Nat) (v : Vw) : Prop where
  c : Texted bnd v.g.cells
  t : v.title.length ≤ bnd
  n : I64 v.g.rows ∧ I64 v.g.cols ∧ I64 v.row ∧ I64 v.col ∧ I64 v.modes
structure ReachP (bnd : Nat) (p : Pt) : Prop where
  c : Texted bnd p.cells
  a : p.at_.length ≤ 140737488355328
  t : p.title.length ≤ bnd
  n : I64 p.rows ∧ I64 p.cols ∧ I64 p.row ∧ I64 p.col ∧ I64 p.modes
def VIn (w : World) (e : Ve) : Prop := Rm w e.x e.v.g.cells
def PIn (w : World) (e : Pe) : Prop := Sl w e.u e.p.at_ ∧ Rm w e.x e.p.cells
theorem VIn.kept {w w' : World} {e : Ve} (h : VIn w e) (hb : Below w.heap.size w w') : VIn w' e := Rm.kept h hb
theorem PIn.kept {w w' : World} {e : Pe} (h : PIn w e) (hb : Below w.heap.size w w') : PIn w' e := ⟨h.1.kept hb, h.2.kept hb⟩
def Views (bnd : Nat) (w : World) (val : Value) (l : List Ve) : Prop := Recs w val 7 l.length (l.map vvals) ∧ ∀ k, k < l.length → VIn w (l.getD k noVe) ∧ ReachV bnd (l.getD k noVe).v
def Pats (bnd : Nat) (w : World) (val : Value) (l : List Pe) : Prop := Recs w val 9 l.length (l.map pvals) ∧ ∀ k, k < l.length → PIn w (l.getD k noPe) ∧ ReachP bnd (l.getD k noPe).p
theorem Views.kept {bnd : Nat} {w w' : World} {val : Value} {l : List Ve} (h : Views bnd w val l) (hb : Below w.heap.size w w') : Views bnd w' val l := ⟨Recs.kept h.1 hb, fun k hk => ⟨(h.2 k hk).1.kept hb, (h.2 k hk).2⟩⟩
theorem Pats.kept {bnd : Nat} {w w' : World} {val : Value} {l : List Pe} (h : Pats bnd w val l) (hb : Below w.heap.size w w') : Pats bnd w' val l := ⟨Recs.kept h.1 hb, fun k hk => ⟨(h.2 k hk).1.kept hb, (h.2 k hk).2⟩⟩
theorem Views.form {bnd : Nat} {w : World} {val : Value} {l : List Ve} (h : Views bnd w val l) : ∃ A c, val = .slice A l.length c ∧ ∀ k, k < l.length → ∃ ad, A = some ad ∧ At w (ad.add (k * 7)) (vvals (l.getD k noVe)) := by
  obtain ⟨A, c, rfl, hf⟩ := Recs.form h.1
  refine ⟨A, c, rfl, fun k hk => ?_⟩
  obtain ⟨ad, rfl, ha⟩ := hf k hk
  have e : (l.map vvals).getD k [] = vvals (l.getD k noVe) := by simp [List.getD, hk]
  rw [e] at ha
  exact ⟨ad, rfl, ha⟩
theorem Pats.form {bnd : Nat} {w : World} {val : Value} {l : List Pe} (h : Pats bnd w val l) : ∃ A c, val = .slice A l.length c ∧ ∀ k, k < l.length → ∃ ad, A = some ad ∧ At w (ad.add (k * 9)) (pvals (l.getD k noPe)) := by
  obtain ⟨A, c, rfl, hf⟩ := Recs.form h.1
  refine ⟨A, c, rfl, fun k hk => ?_⟩
  obtain ⟨ad, rfl, ha⟩ := hf k hk
  have e : (l.map pvals).getD k [] = pvals (l.getD k noPe) := by simp [List.getD, hk]
  rw [e] at ha
  exact ⟨ad, rfl, ha⟩
theorem cellsView : Tryz.prog.cellsOf 31 = 7 := by kernel_rfl
theorem bytesView : Tryz.prog.bytesOf 31 = 80 := by kernel_rfl
theorem cellsPatch : Tryz.prog.cellsOf 36 = 9 := by kernel_rfl
theorem bytesPatch : Tryz.prog.bytesOf 36 = 112 := by kernel_rfl
theorem cellsNums : Tryz.prog.cellsOf 34 = 1 := by kernel_rfl
theorem bytesNum : Tryz.prog.bytesOf 3 = 8 := by kernel_rfl
theorem cellsGridP : Tryz.prog.cellsOf 29 = 3 := by kernel_rfl
theorem cellsBoolP : Tryz.prog.cellsOf 4 = 1 := by kernel_rfl
theorem cellsStrP : Tryz.prog.cellsOf 9 = 1 := by kernel_rfl
theorem cellsCellsP : Tryz.prog.cellsOf 27 = 1 := by kernel_rfl
theorem cellsViews : Tryz.prog.cellsOf 22 = 1 := by kernel_rfl
theorem cellsPats : Tryz.prog.cellsOf 23 = 1 := by kernel_rfl
theorem open_grid16 {bnd : Nat} {W : World} {a b v : Value} (h : Fine bnd Tryz.prog W 29 [a, b, v]) : ∃ G : Gr, a = .int .i64 G.rows ∧ b = .int .i64 G.cols ∧ Rm W v G.cells ∧ Texted bnd G.cells ∧ I64 G.rows ∧ I64 G.cols := by
  obtain ⟨r, rfl, h1⟩ := one_int (h.part Tryz.underlying29 0 rfl rfl rfl Tryz.cellsInt : Fine bnd Tryz.prog W 3 [a])
  obtain ⟨c, rfl, h2⟩ := one_int (h.part Tryz.underlying29 1 rfl rfl rfl Tryz.cellsInt : Fine bnd Tryz.prog W 3 [b])
  obtain ⟨l, hl, ht⟩ := open_cells (h.part Tryz.underlying29 2 rfl rfl rfl cellsCellsP : Fine bnd Tryz.prog W 27 [v])
  exact ⟨⟨r, c, l⟩, rfl, rfl, hl, ht, h1, h2⟩
theorem open_nums {bnd : Nat} {w : World} {v : Value} (h : Fine bnd Tryz.prog w 34 [v]) : ∃ l : List Int, Sl w v l ∧ l.length ≤ 140737488355328 ∧ ∀ i, i < l.length → I64 (l.getD i 0) := by
  rcases h.slice Tryz.underlying34 with h0 | ⟨a, len, cap, h1, h2, h3, h4⟩
  · obtain rfl : v = .slice none 0 0 := by simpa using h0
    exact ⟨[], Sl.nil w, by simp, fun i hi => absurd hi (by simp)⟩
  · obtain rfl : v = .slice (some a) len cap := by simpa using h1
    obtain ⟨xs, hl, hq⟩ := list_of (0 : Int) (Q := fun i m => w.cell? (a.add i) = some (.int .i64 m) ∧ I64 m) len fun i hi => by
      obtain ⟨es, g1, g2, g3⟩ := h4 i hi
      obtain ⟨m, rfl, hm⟩ := g3.int Tryz.underlying3
      refine ⟨m, ?_, i64_bd hm⟩
      have := g2 0 _ rfl
      rwa [show Tryz.prog.cellsOf 3 = 1 from by kernel_rfl, Nat.mul_one, Nat.add_zero] at this
    subst hl
    rw [bytesNum] at h2
    refine ⟨xs, ⟨⟨ints_length _, .inr ⟨a, cap, rfl, fun j u hu => ?_⟩⟩, some a, cap, rfl, h3.1⟩, by unfold reachBytes at h2; omega, fun i hi => (hq i hi).2⟩
    have hj : j < xs.length := by
      have := (List.getElem?_eq_some_iff.1 hu).1
      rwa [ints_length] at this
    rw [ints_get hj] at hu
    rw [(hq j hj).1, hu]
theorem open_view {bnd : Nat} {W : World} {cs : List Value} (H : Fine bnd Tryz.prog W 31 cs) : ∃ e : Ve, cs = vvals e ∧ VIn W e ∧ ReachV bnd e.v := by
  have hl := H.len Tryz.underlying31
  rw [cellsView] at hl
  match cs, hl with
  | [a0, a1, a2, a3, a4, a5, a6], _ =>
    obtain ⟨G, rfl, rfl, g1, g2, g3⟩ := open_grid16 (H.part Tryz.underlying31 0 rfl rfl rfl cellsGridP : Fine bnd Tryz.prog W 29 [a0, a1, a2])
    obtain ⟨n1, rfl, k1⟩ := one_int (H.part Tryz.underlying31 1 rfl rfl rfl Tryz.cellsInt : Fine bnd Tryz.prog W 3 [a3])
    obtain ⟨n2, rfl, k2⟩ := one_int (H.part Tryz.underlying31 2 rfl rfl rfl Tryz.cellsInt : Fine bnd Tryz.prog W 3 [a4])
    obtain ⟨n3, rfl, k3⟩ := one_int (H.part Tryz.underlying31 3 rfl rfl rfl Tryz.cellsInt : Fine bnd Tryz.prog W 3 [a5])
    have h4 : Fine bnd Tryz.prog W 9 [a6] := H.part Tryz.underlying31 4 rfl rfl rfl cellsStrP
    obtain ⟨t, et, ht⟩ := h4.string Tryz.underlying9
    obtain rfl : a6 = .string t := by simpa using et
    refine ⟨⟨⟨G, n1, n2, n3, t.data.toList⟩, a2⟩, ?_, g1, ⟨g2, ht, g3.1, g3.2, k1, k2, k3⟩⟩
    obtain ⟨⟨l⟩⟩ := t
    rfl
theorem open_patch {bnd : Nat} {W : World} {cs : List Value} (H : Fine bnd Tryz.prog W 36 cs) : ∃ e : Pe, cs = pvals e ∧ PIn W e ∧ ReachP bnd e.p := by
  have hl := H.len Tryz.underlying36
  rw [cellsPatch] at hl
  match cs, hl with
  | [a0, a1, a2, a3, a4, a5, a6, a7, a8], _ =>
    obtain ⟨n0, rfl, k0⟩ := one_int (H.part Tryz.underlying36 0 rfl rfl rfl Tryz.cellsInt : Fine bnd Tryz.prog W 3 [a0])
    obtain ⟨n1, rfl, k1⟩ := one_int (H.part Tryz.underlying36 1 rfl rfl rfl Tryz.cellsInt : Fine bnd Tryz.prog W 3 [a1])
    obtain ⟨f, ef⟩ := (H.part Tryz.underlying36 2 rfl rfl rfl cellsBoolP : Fine bnd Tryz.prog W 4 [a2]).bool Tryz.underlying4
    obtain rfl : a2 = .bool f := by simpa using ef
    obtain ⟨nn, hn, hn2, _⟩ := open_nums (H.part Tryz.underlying36 3 rfl rfl rfl cellsNums : Fine bnd Tryz.prog W 34 [a3])
    obtain ⟨l, hc, ht⟩ := open_cells (H.part Tryz.underlying36 4 rfl rfl rfl cellsCellsP : Fine bnd Tryz.prog W 27 [a4])
    obtain ⟨n5, rfl, k5⟩ := one_int (H.part Tryz.underlying36 5 rfl rfl rfl Tryz.cellsInt : Fine bnd Tryz.prog W 3 [a5])
    obtain ⟨n6, rfl, k6⟩ := one_int (H.part Tryz.underlying36 6 rfl rfl rfl Tryz.cellsInt : Fine bnd Tryz.prog W 3 [a6])
    obtain ⟨n7, rfl, k7⟩ := one_int (H.part Tryz.underlying36 7 rfl rfl rfl Tryz.cellsInt : Fine bnd Tryz.prog W 3 [a7])
    have h8 : Fine bnd Tryz.prog W 9 [a8] := H.part Tryz.underlying36 8 rfl rfl rfl cellsStrP
    obtain ⟨t, et, htl⟩ := h8.string Tryz.underlying9
    obtain rfl : a8 = .string t := by simpa using et
    refine ⟨⟨⟨n0, n1, f, nn, l, n5, n6, n7, t.data.toList⟩, a3, a4⟩, ?_, ⟨hn, hc⟩, ⟨ht, hn2, htl, k0, k1, k5, k6, k7⟩⟩
    obtain ⟨⟨tl⟩⟩ := t
    rfl
theorem flatten_at {α : Type} (f : α → List Value) (C : Nat) (d : α) {W : World} {a : Addr} {l : List α} (hC : ∀ e, (f e).length = C) (h : ∀ k, k < l.length → At W (a.add (k * C)) (f (l.getD k d))) (cap : Nat) : Recs W (.slice (some a) l.length cap) C l.length (l.map f) :=
  ⟨List.length_map _, fun r hr => by obtain ⟨e, _, rfl⟩ := List.mem_map.1 hr; exact hC e, .inr ⟨a, cap, rfl, fun i r hr => by
    have hi : i < l.length := by
      have := (List.getElem?_eq_some_iff.1 hr).1
      rwa [List.length_map] at this
    have hk := h i hi
    have e : l.getD i d = l[i] := by simp [hi]
    have e2 : r = f l[i] := by
      rw [List.getElem?_map, List.getElem?_eq_getElem hi] at hr
      exact (Option.some.inj hr).symm
    rw [e2, ← e]; exact hk⟩⟩
theorem open_views {bnd : Nat} {W : World} {v : Value} (h : Fine bnd Tryz.prog W 22 [v]) : ∃ l : List Ve, Views bnd W v l ∧ l.length ≤ 140737488355328 := by
  rcases h.slice Tryz.underlying22 with h0 | ⟨a, len, cap, h1, h2, h3, h4⟩
  · obtain rfl : v = .slice none 0 0 := by simpa using h0
    exact ⟨[], ⟨⟨rfl, fun _ h => (by cases h), .inl ⟨rfl, rfl⟩⟩, fun k hk => absurd hk (by simp)⟩, by simp⟩
  · obtain rfl : v = .slice (some a) len cap := by simpa using h1
    obtain ⟨l, hl, hq⟩ := list_of noVe (Q := fun i q => At W (a.add (i * 7)) (vvals q) ∧ VIn W q ∧ ReachV bnd q.v) len fun i hi => by
      obtain ⟨es, g1, g2, g3⟩ := h4 i hi
      obtain ⟨q, rfl, hb⟩ := open_view g3
      refine ⟨q, fun j u hu => ?_, hb⟩
      have := g2 j u hu
      rw [cellsView] at this
      rw [Go.Deep.add_add]; exact this
    subst hl
    rw [bytesView] at h2
    exact ⟨l, ⟨flatten_at vvals 7 noVe (fun _ => rfl) (fun k hk => (hq k hk).1) cap, fun k hk => (hq k hk).2⟩, by unfold reachBytes at h2; omega⟩
theorem open_patches {bnd : Nat} {W : World} {v : Value} (h : Fine bnd Tryz.prog W 23 [v]) : ∃ l : List Pe, Pats bnd W v l ∧ l.length ≤ 140737488355328 := by
  rcases h.slice Tryz.underlying23 with h0 | ⟨a, len, cap, h1, h2, h3, h4⟩
  · obtain rfl : v = .slice none 0 0 := by simpa using h0
    exact ⟨[], ⟨⟨rfl, fun _ h => (by cases h), .inl ⟨rfl, rfl⟩⟩, fun k hk => absurd hk (by simp)⟩, by simp⟩
  · obtain rfl : v = .slice (some a) len cap := by simpa using h1
    obtain ⟨l, hl, hq⟩ := list_of noPe (Q := fun i q => At W (a.add (i * 9)) (pvals q) ∧ PIn W q ∧ ReachP bnd q.p) len fun i hi => by
      obtain ⟨es, g1, g2, g3⟩ := h4 i hi
      obtain ⟨q, rfl, hb⟩ := open_patch g3
      refine ⟨q, fun j u hu => ?_, hb⟩
      have := g2 j u hu
      rw [cellsPatch] at this
      rw [Go.Deep.add_add]; exact this
    subst hl
    rw [bytesPatch] at h2
    exact ⟨l, ⟨flatten_at pvals 9 noPe (fun _ => rfl) (fun k hk => (hq k hk).1) cap, fun k hk => (hq k hk).2⟩, by unfold reachBytes at h2; omega⟩
theorem open_ask16 {bnd : Nat} {W : World} {cs : List Value} (h : Fine bnd Tryz.prog W 25 cs) : ∃ (x y : Value) (V : List Ve) (P : List Pe), cs = [x, y] ∧ Views bnd W x V ∧ Pats bnd W y P ∧ V.length ≤ 140737488355328 ∧ P.length ≤ 140737488355328 := by
  have hu := Tryz.underlying25
  have hl := h.len hu
  rw [show Tryz.prog.cellsOf 25 = 2 by kernel_rfl] at hl
  match cs, hl with
  | [x, y], _ =>
    obtain ⟨V, h1, h2⟩ := open_views (h.part hu 0 rfl rfl rfl cellsViews : Fine bnd Tryz.prog W 22 [x])
    obtain ⟨P, h3, h4⟩ := open_patches (h.part hu 1 rfl rfl rfl cellsPats : Fine bnd Tryz.prog W 23 [y])
    exact ⟨x, y, V, P, rfl, h1, h3, h2, h4⟩
end Pat
end
section
open Go.RowKit
namespace Pat
open Go.Proofs.YtjcfbeiljdohcaaGreatDoor.Row Go.Proofs.YtjcfbeiljdohcaaGreatDoor.Scr Agb
theorem num16 (n : Int) (w : World) : Calls Tryz.prog 10 #[.int .i64 n] w fun e w' => e = .returned (.int .i64 n) ∧ w = w' := by
  go_enter Tryz.func10, Tryz.ntmps10
  go_wp2_with fail
  go_ret
  exact ⟨rfl, rfl⟩
def weighV (v : Vw) : Nat := v.g.cells.length + v.title.length
def weighP (p : Pt) : Nat := p.at_.length + p.cells.length + p.title.length
theorem patchWeight_t (R C p q m : Int) (f : Bool) (T : ByteArray) (Au Ay : Option Addr) (n l cu cy W : Nat) (w : World) (hW : n + l + T.size = W) (hb : W ≤ 4611686018427387904) :
    Calls Tryz.prog 27 #[.agg #[.int .i64 R, .int .i64 C, .bool f, .slice Au n cu, .slice Ay l cy, .int .i64 p, .int .i64 q, .int .i64 m, .string T]] w fun e w' => e = .returned (.int .i64 W) ∧ Below w.heap.size w w' := by
  have HB := Lib.hid ((Below.refl w.heap.size w).alloc (Nat.le_refl _) (.cells #[.int .i64 R, .int .i64 C, .bool f, .slice Au n cu, .slice Ay l cy, .int .i64 p, .int .i64 q, .int .i64 m, .string T] 36))
  obtain ⟨s, hs⟩ : ∃ s, n + l = s := ⟨_, rfl⟩
  have h1 : IntKind.i64.wrap ((n : Int) + (l : Int)) = (s : Int) := by rw [IntKind.wrap_i64]; omega
  have h2 : IntKind.i64.wrap ((s : Int) + (T.size : Int)) = (W : Int) := by rw [IntKind.wrap_i64]; omega
  clear hs hW hb
  go_enter Tryz.func27, Tryz.ntmps27
  go_wp2_with fail
  go_ret
  exact ⟨rfl, HB.out⟩
theorem patchWeight_any {bnd : Nat} (e : Pe) (w : World) (h : PIn w e) (hr : ReachP bnd e.p) (hb : bnd ≤ 1152921504606846976) :
    Calls Tryz.prog 27 #[pagg e.p e.u e.x] w fun q w' => q = .returned (.int .i64 (weighP e.p)) ∧ Below w.heap.size w w' := by
  obtain ⟨⟨R, C, f, nn, l, p, q, m, t⟩, u, x⟩ := e
  obtain ⟨Au, cu, e1, _⟩ := h.1.room
  obtain ⟨Ay, cy, e2, _⟩ := h.2.2
  simp only at e1 e2
  subst e1; subst e2
  have h1 : l.length ≤ 140737488355328 := hr.c.1
  have h2 : nn.length ≤ 140737488355328 := hr.a
  have h3 : t.length ≤ bnd := hr.t
  have hsz : (⟨t.toArray⟩ : ByteArray).size = t.length := by show t.toArray.size = _; simp
  refine patchWeight_t R C p q m f ⟨t.toArray⟩ Au Ay nn.length l.length cu cy _ w ?_ ?_
  · rw [hsz]; rfl
  · show nn.length + l.length + t.length ≤ _; omega
def Weighed16 (V : List Ve) (P : List Pe) (w : World) (e : Ending) (w' : World) : Prop := ∃ b : Bool, e = .returned (.bool b) ∧ (b = false → (∀ j, j < V.length → weighV (V.getD j noVe).v ≤ 4000) ∧ ∀ j, j < P.length → weighP (P.getD j noPe).p ≤ 4000) ∧ Below w.heap.size w w'
set_option maxHeartbeats 6400000 in
theorem heavy16 {bnd : Nat} (x y : Value) (V : List Ve) (P : List Pe) (w : World) (hx : Views bnd w x V) (hy : Pats bnd w y P) (hn : V.length ≤ 140737488355328) (hm : P.length ≤ 140737488355328) (hb : bnd ≤ 1152921504606846976) :
    Calls Tryz.prog 5 #[.agg #[x, y]] w (Weighed16 V P w) := by
  have HBD := Lib.hid hb
  clear hb
  have HX := Lib.hid hx
  have HY := Lib.hid hy
  obtain ⟨A, c, rfl, _⟩ := hx.form
  obtain ⟨A', c', rfl, _⟩ := hy.form
  clear hx hy
  obtain ⟨n, hnn⟩ : ∃ n, V.length = n := ⟨_, rfl⟩
  obtain ⟨m, hmm⟩ : ∃ n, P.length = n := ⟨_, rfl⟩
  have HN := Lib.hid hnn
  have HM := Lib.hid hmm
  rw [hnn] at hn ⊢
  rw [hmm] at hm ⊢
  clear hnn hmm
  have HB := Lib.hid ((Below.refl w.heap.size w).alloc (Nat.le_refl _) (.cells #[.slice A n c, .slice A' m c'] 25))
  have HK := Lib.hid (new_alloc w (.cells #[.slice A n c, .slice A' m c'] 25) _ rfl)
  have hw0 : IntKind.i64.wrap ((n : Int) + (m : Int)) = ((n + m : Nat) : Int) := by rw [IntKind.wrap_i64]; omega
  obtain ⟨s0, hs0⟩ : ∃ s, n + m = s := ⟨_, rfl⟩
  rw [hs0] at hw0
  have HS0 : Hid (s0 ≤ 281474976710656) := Lib.hid (by omega)
  have HNM := Lib.hid (show n ≤ 140737488355328 ∧ m ≤ 140737488355328 from ⟨hn, hm⟩)
  clear hs0
  go_enter Tryz.func5, Tryz.ntmps5
  go_wp2_with fail
  clear hw0
  generalize w.alloc (.cells #[.slice A n c, .slice A' m c'] 25) = wa at HB HK ⊢
  go_loopw [3, 4] (fun t i wr => ∃ (a u : Nat), a ≤ n ∧ i = .int .i64 a ∧ t = .int .i64 u ∧ Hid (u ≤ 2305843009213693952) ∧ Hid (∀ j, j < a → weighV (V.getD j noVe).v ≤ u) ∧ Hid (Below wa.heap.size wa wr)) (fun _ i _ => n - (intOf i).toNat)
  case atStart => exact ⟨0, s0, by omega, rfl, rfl, Lib.hid (by have := HS0.out; omega), Lib.hid fun j hj => absurd hj (by omega), Lib.hid (Below.refl _ _)⟩
  case round =>
    obtain ⟨a, u, ha, rfl, rfl, hu, HJ, HBL⟩ := hrel
    have hX := Blk.kept HK.out HBL.out
    have b0 : wr.cell? ⟨w.heap.size, 0, none⟩ = some (.slice A n c) := Blk.cell hX 0
    have b1 : wr.cell? ⟨w.heap.size, 1, none⟩ = some (.slice A' m c') := Blk.cell hX 1
    clear hX
    have HBW := Lib.hid (HB.out.trans (HBL.out.mono HB.out.size))
    by_cases hlt : a < n
    · by_cases hbig : u < 1048576
      · obtain ⟨A1, c1, e1, hf⟩ := (HX.out.kept HBW.out).form
        injection e1 with e1 e2 e3
        subst e1
        obtain ⟨ad, rfl, K⟩ := hf a (by rw [HN.out]; exact hlt)
        have HRV := Lib.hid ((HX.out.2 a (by rw [HN.out]; exact hlt)))
        clear hf e2 e3
        obtain ⟨e, he⟩ : ∃ e, V.getD a noVe = e := ⟨_, rfl⟩
        rw [he] at K HRV
        have HE := Lib.hid he
        clear he
        obtain ⟨⟨⟨R, C, l⟩, p, q, mo, t⟩, xe⟩ := e
        obtain ⟨Ae, ce, exe, _⟩ := HRV.out.1.2
        simp only at exe
        subst exe
        have hl : l.length ≤ 140737488355328 := HRV.out.2.c.1
        have ht : t.length ≤ bnd := HRV.out.2.t
        have hsz : (⟨t.toArray⟩ : ByteArray).size = t.length := by show t.toArray.size = _; simp
        have HWE : Hid (weighV (V.getD a noVe).v = l.length + t.length) := Lib.hid (by rw [HE.out]; rfl)
        have h2 := K.next 1 rfl
        have h6 := K.next 5 rfl
        obtain ⟨s1, hs1⟩ : ∃ s, u + l.length = s := ⟨_, rfl⟩
        obtain ⟨s2, hs2⟩ : ∃ s, s1 + t.length = s := ⟨_, rfl⟩
        have hB := HBD.out
        have hw1 : IntKind.i64.wrap ((u : Int) + (l.length : Int)) = (s1 : Int) := by rw [IntKind.wrap_i64]; omega
        have hw2 : IntKind.i64.wrap ((s1 : Int) + (t.length : Int)) = (s2 : Int) := by rw [IntKind.wrap_i64]; omega
        have HW2 := Lib.hid hw2
        have HU2 : Hid (s2 ≤ 2305843009213693952) := Lib.hid (by omega)
        have HJ2 : Hid (∀ j, j < a + 1 → weighV (V.getD j noVe).v ≤ s2) := Lib.hid fun j hj => by
          by_cases e : j = a
          · rw [e, HWE.out]; omega
          · have := HJ.out j (by omega); omega
        have hd : decide ((u : Int) < 1048576) = true := decide_eq_true (by omega)
        generalize (⟨t.toArray⟩ : ByteArray) = T at h6 hsz
        rw [← hsz] at hw2
        clear hs1 hs2 hB HE HWE HJ hu HRV hl ht hsz K hbig
        go_wp2_with fail
        go_quiet (fail)
        go_wp2_with fail
        go_roundw
        case rel => exact ⟨a + 1, s2, by omega, by go_num, congrArg (Value.int .i64) (by have h := HW2.out; rw [IntKind.wrap_i64] at h; unfold wrap64; omega), HU2, HJ2, Lib.hid (below_drewN HBL.out _)⟩
        case measure => simp [intOf]; omega
      · have hd : decide ((u : Int) < 1048576) = false := decide_eq_false (by omega)
        have HV : Hid (u ≤ 4000 → ∀ j, j < n → weighV (V.getD j noVe).v ≤ u) := Lib.hid (fun h => absurd h (by omega))
        have HX1 := Lib.hid (Blk.kept HK.out HBL.out)
        clear HJ HBL
        obtain ⟨u1, hu1⟩ : ∃ u1, u1 = u := ⟨_, rfl⟩
        subst hu1
        go_wp2_with fail
        clear b0 b1
        obtain ⟨w1, hw1e⟩ : ∃ w1, w1 = wr := ⟨_, rfl⟩
        subst hw1e
        go_loopw [3, 5] (fun t i wr => ∃ (a u : Nat), a ≤ m ∧ i = .int .i64 a ∧ t = .int .i64 u ∧ Hid (u ≤ 2305843009213693952) ∧ Hid (u1 ≤ u) ∧ Hid (∀ j, j < a → weighP (P.getD j noPe).p ≤ u) ∧ Hid (Below w1.heap.size w1 wr)) (fun _ i _ => m - (intOf i).toNat)
        case atStart => exact ⟨0, u1, by omega, rfl, rfl, hu, Lib.hid (Nat.le_refl _), Lib.hid fun j hj => absurd hj (by omega), Lib.hid (Below.refl _ _)⟩
        case round =>
          obtain ⟨a, u, ha, rfl, rfl, hu, hle, HJ, HBL⟩ := hrel
          have hX := Blk.kept HX1.out HBL.out
          have b0 : wr.cell? ⟨w.heap.size, 0, none⟩ = some (.slice A n c) := Blk.cell hX 0
          have b1 : wr.cell? ⟨w.heap.size, 1, none⟩ = some (.slice A' m c') := Blk.cell hX 1
          clear hX
          have HBV := Lib.hid (HBW.out.trans (HBL.out.mono HBW.out.size))
          by_cases hlt : a < m
          · by_cases hbig : u < 1048576
            · obtain ⟨A1, c1, e1, hf⟩ := (HY.out.kept HBV.out).form
              injection e1 with e1 e2 e3
              subst e1
              obtain ⟨ad, rfl, K⟩ := hf a (by rw [HM.out]; exact hlt)
              have HRV := Lib.hid ((HY.out.2 a (by rw [HM.out]; exact hlt)))
              clear hf e2 e3
              obtain ⟨e, he⟩ : ∃ e, P.getD a noPe = e := ⟨_, rfl⟩
              rw [he] at K HRV
              have HE := Lib.hid he
              clear he
              have HWT := Lib.hid (patchWeight_any e wr (HRV.out.1.kept HBV.out) HRV.out.2 HBD.out)
              have HWB : Hid (weighP e.p ≤ 2000000000000000000) := Lib.hid (by
                have h1 : e.p.cells.length ≤ 140737488355328 := HRV.out.2.c.1
                have h2 := HRV.out.2.a
                have h3 := HRV.out.2.t
                have h4 := HBD.out
                show e.p.at_.length + e.p.cells.length + e.p.title.length ≤ _
                omega)
              have HWE : Hid (weighP (P.getD a noPe).p = weighP e.p) := Lib.hid (by rw [HE.out])
              obtain ⟨⟨R, C, f, nn, l, p, q, mo, t⟩, ue, xe⟩ := e
              generalize weighP (⟨R, C, f, nn, l, p, q, mo, t⟩ : Pt) = W at HWT HWB HWE
              have h0 := K.head
              have h1 := K.next 0 rfl
              have h2 := K.next 1 rfl
              have h3 := K.next 2 rfl
              have h4 := K.next 3 rfl
              have h5 := K.next 4 rfl
              have h6 := K.next 5 rfl
              have h7 := K.next 6 rfl
              have h8 := K.next 7 rfl
              obtain ⟨s2, hs2⟩ : ∃ s, u + W = s := ⟨_, rfl⟩
              have hwb := HWB.out
              have hw2 : IntKind.i64.wrap ((u : Int) + (W : Int)) = (s2 : Int) := by rw [IntKind.wrap_i64]; omega
              have HU2 : Hid (s2 ≤ 2305843009213693952) := Lib.hid (by omega)
              have HLE : Hid (u1 ≤ s2) := Lib.hid (by have := hle.out; omega)
              have HJ2 : Hid (∀ j, j < a + 1 → weighP (P.getD j noPe).p ≤ s2) := Lib.hid fun j hj => by
                by_cases e : j = a
                · rw [e, HWE.out]; omega
                · have := HJ.out j (by omega); omega
              have hd : decide ((u : Int) < 1048576) = true := decide_eq_true (by omega)
              clear hs2 hwb HE HWE HJ hu HRV K hbig HWB hle
              simp only [pagg] at HWT
              go_wp2_with fail
              refine HWT.out.mono ?_; rintro e w5 ⟨rfl, hb⟩
              have HB5 := Lib.hid (HBL.out.trans (hb.mono HBL.out.size))
              clear hb
              go_wp2_with fail
              go_roundw
              case rel => exact ⟨a + 1, s2, by omega, by go_num, rfl, HU2, HLE, HJ2, HB5⟩
              case measure => simp [intOf]; omega
            · have hd : decide ((u : Int) < 1048576) = false := decide_eq_false (by omega)
              have hd4 : decide (4000 < (u : Int)) = true := decide_eq_true (by omega)
              clear hbig
              go_wp2_with fail
              go_ret
              exact ⟨true, rfl, fun h => (by cases h), HBV.out⟩
          · by_cases h4 : u ≤ 4000
            · have hd4 : decide (4000 < (u : Int)) = false := decide_eq_false (by omega)
              go_wp2_with fail
              go_ret
              exact ⟨false, rfl, fun _ => ⟨fun j hj => by have h1 := HV.out (by have := hle.out; omega) j (by rw [← HN.out]; exact hj); have := hle.out; omega, fun j hj => by have := HJ.out j (by have := HM.out; omega); omega⟩, HBV.out⟩
            · have hd4 : decide (4000 < (u : Int)) = true := decide_eq_true (by omega)
              go_wp2_with fail
              go_ret
              exact ⟨true, rfl, fun h => (by cases h), HBV.out⟩
    · have hlt2 : ¬ a < n := hlt
      have HV : Hid (u ≤ 4000 → ∀ j, j < n → weighV (V.getD j noVe).v ≤ u) := Lib.hid (fun _ j hj => HJ.out j (by omega))
      have HX1 := Lib.hid (Blk.kept HK.out HBL.out)
      clear HJ HBL
      obtain ⟨u1, hu1⟩ : ∃ u1, u1 = u := ⟨_, rfl⟩
      subst hu1
      go_wp2_with fail
      clear b0 b1
      obtain ⟨w1, hw1e⟩ : ∃ w1, w1 = wr := ⟨_, rfl⟩
      subst hw1e
      go_loopw [3, 5] (fun t i wr => ∃ (a u : Nat), a ≤ m ∧ i = .int .i64 a ∧ t = .int .i64 u ∧ Hid (u ≤ 2305843009213693952) ∧ Hid (u1 ≤ u) ∧ Hid (∀ j, j < a → weighP (P.getD j noPe).p ≤ u) ∧ Hid (Below w1.heap.size w1 wr)) (fun _ i _ => m - (intOf i).toNat)
      case atStart => exact ⟨0, u1, by omega, rfl, rfl, hu, Lib.hid (Nat.le_refl _), Lib.hid fun j hj => absurd hj (by omega), Lib.hid (Below.refl _ _)⟩
      case round =>
        obtain ⟨a, u, ha, rfl, rfl, hu, hle, HJ, HBL⟩ := hrel
        have hX := Blk.kept HX1.out HBL.out
        have b0 : wr.cell? ⟨w.heap.size, 0, none⟩ = some (.slice A n c) := Blk.cell hX 0
        have b1 : wr.cell? ⟨w.heap.size, 1, none⟩ = some (.slice A' m c') := Blk.cell hX 1
        clear hX
        have HBV := Lib.hid (HBW.out.trans (HBL.out.mono HBW.out.size))
        by_cases hlt : a < m
        · by_cases hbig : u < 1048576
          · obtain ⟨A1, c1, e1, hf⟩ := (HY.out.kept HBV.out).form
            injection e1 with e1 e2 e3
            subst e1
            obtain ⟨ad, rfl, K⟩ := hf a (by rw [HM.out]; exact hlt)
            have HRV := Lib.hid ((HY.out.2 a (by rw [HM.out]; exact hlt)))
            clear hf e2 e3
            obtain ⟨e, he⟩ : ∃ e, P.getD a noPe = e := ⟨_, rfl⟩
            rw [he] at K HRV
            have HE := Lib.hid he
            clear he
            have HWT := Lib.hid (patchWeight_any e wr (HRV.out.1.kept HBV.out) HRV.out.2 HBD.out)
            have HWB : Hid (weighP e.p ≤ 2000000000000000000) := Lib.hid (by
              have h1 : e.p.cells.length ≤ 140737488355328 := HRV.out.2.c.1
              have h2 := HRV.out.2.a
              have h3 := HRV.out.2.t
              have h4 := HBD.out
              show e.p.at_.length + e.p.cells.length + e.p.title.length ≤ _
              omega)
            have HWE : Hid (weighP (P.getD a noPe).p = weighP e.p) := Lib.hid (by rw [HE.out])
            obtain ⟨⟨R, C, f, nn, l, p, q, mo, t⟩, ue, xe⟩ := e
            generalize weighP (⟨R, C, f, nn, l, p, q, mo, t⟩ : Pt) = W at HWT HWB HWE
            have h0 := K.head
            have h1 := K.next 0 rfl
            have h2 := K.next 1 rfl
            have h3 := K.next 2 rfl
            have h4 := K.next 3 rfl
            have h5 := K.next 4 rfl
            have h6 := K.next 5 rfl
            have h7 := K.next 6 rfl
            have h8 := K.next 7 rfl
            obtain ⟨s2, hs2⟩ : ∃ s, u + W = s := ⟨_, rfl⟩
            have hwb := HWB.out
            have hw2 : IntKind.i64.wrap ((u : Int) + (W : Int)) = (s2 : Int) := by rw [IntKind.wrap_i64]; omega
            have HU2 : Hid (s2 ≤ 2305843009213693952) := Lib.hid (by omega)
            have HLE : Hid (u1 ≤ s2) := Lib.hid (by have := hle.out; omega)
            have HJ2 : Hid (∀ j, j < a + 1 → weighP (P.getD j noPe).p ≤ s2) := Lib.hid fun j hj => by
              by_cases e : j = a
              · rw [e, HWE.out]; omega
              · have := HJ.out j (by omega); omega
            have hd : decide ((u : Int) < 1048576) = true := decide_eq_true (by omega)
            clear hs2 hwb HE HWE HJ hu HRV K hbig HWB hle
            simp only [pagg] at HWT
            go_wp2_with fail
            refine HWT.out.mono ?_; rintro e w5 ⟨rfl, hb⟩
            have HB5 := Lib.hid (HBL.out.trans (hb.mono HBL.out.size))
            clear hb
            go_wp2_with fail
            go_roundw
            case rel => exact ⟨a + 1, s2, by omega, by go_num, rfl, HU2, HLE, HJ2, HB5⟩
            case measure => simp [intOf]; omega
          · have hd : decide ((u : Int) < 1048576) = false := decide_eq_false (by omega)
            have hd4 : decide (4000 < (u : Int)) = true := decide_eq_true (by omega)
            clear hbig
            go_wp2_with fail
            go_ret
            exact ⟨true, rfl, fun h => (by cases h), HBV.out⟩
        · by_cases h4 : u ≤ 4000
          · have hd4 : decide (4000 < (u : Int)) = false := decide_eq_false (by omega)
            go_wp2_with fail
            go_ret
            exact ⟨false, rfl, fun _ => ⟨fun j hj => by have h1 := HV.out (by have := hle.out; omega) j (by rw [← HN.out]; exact hj); have := hle.out; omega, fun j hj => by have := HJ.out j (by have := HM.out; omega); omega⟩, HBV.out⟩
          · have hd4 : decide (4000 < (u : Int)) = true := decide_eq_true (by omega)
            go_wp2_with fail
            go_ret
            exact ⟨true, rfl, fun h => (by cases h), HBV.out⟩
end Pat
end
section
open Go.RowKit
namespace Pat
open Go.Proofs.YtjcfbeiljdohcaaGreatDoor.Row Go.Proofs.YtjcfbeiljdohcaaGreatDoor.Scr Agb
def wb0 : Cl := ⟨32, [], 0, ⟨-1, -1, 0⟩⟩
def wx0 : Cl := ⟨120, [], 0, ⟨-1, -1, 0⟩⟩
theorem two_ok {a b : Cl} (ha : kind a = 1) (hb : kind b = 1) : RowOk [a, b] := by
  refine ⟨by simp, by simp, fun i hi => .inl ?_⟩
  have hi : i < 2 := hi
  rcases (by omega : i = 0 ∨ i = 1) with rfl | rfl
  · exact ha
  · exact hb
theorem kb0 : kind wb0 = 1 := by kernel_rfl
theorem kx0 : kind wx0 = 1 := by kernel_rfl
theorem rows_w {a b c d : Cl} (h1 : RowOk [a, b]) (h2 : RowOk [c, d]) : Rws 2 2 [[a, b], [c, d]] := by
  refine ⟨by omega, by omega, by omega, by omega, rfl, fun r hr => ?_, fun i hi => ?_⟩
  · simp only [List.mem_cons, List.not_mem_nil, or_false] at hr
    rcases hr with rfl | rfl <;> rfl
  · rcases (by omega : i = 0 ∨ i = 1) with rfl | rfl
    · exact h1
    · exact h2
theorem view_w {a b c d : Cl} (h1 : RowOk [a, b]) (h2 : RowOk [c, d]) : viewB ⟨⟨2, 2, [a, b, c, d]⟩, 0, 0, 0, []⟩ = true :=
  (viewB_iff _).2 ⟨by unfold headV; simp only [Bool.and_eq_true]; exact ⟨rfl, rfl, rfl, by kernel_rfl⟩, 2, 2, [[a, b], [c, d]], rfl, rows_w h1 h2⟩
theorem diff_w : diff [[wb0, wb0], [wb0, wb0]] [[wb0, wb0], [wb0, wx0]] = [1] := by
  rw [← diffTo_all]
  show diffTo _ _ 2 = _
  rw [diffTo_other (by unfold rowOf wb0 wx0; simp)]
  show diffTo _ _ (0 + 1) ++ [1] = _
  rw [diffTo_same (a := [[wb0, wb0], [wb0, wb0]]) (b := [[wb0, wb0], [wb0, wx0]]) (k := 0) rfl]
  rfl
theorem between_w : between ⟨⟨2, 2, [wb0, wb0, wb0, wb0]⟩, 0, 0, 0, []⟩ ⟨⟨2, 2, [wb0, wb0, wb0, wx0]⟩, 0, 0, 0, []⟩ = ⟨2, 2, false, [1], [wb0, wx0], 0, 0, 0, []⟩ := by
  have h1 := rows_w (two_ok kb0 kb0) (two_ok kb0 kb0)
  have h2 := rows_w (two_ok kb0 kb0) (two_ok kb0 kx0)
  have k := between_rows (a := ⟨⟨2, 2, [wb0, wb0, wb0, wb0]⟩, 0, 0, 0, []⟩) (b := ⟨⟨2, 2, [wb0, wb0, wb0, wx0]⟩, 0, 0, 0, []⟩) rfl rfl h1 h2
  rw [k, diff_w]
  rfl
theorem held_w (a b c d : Cl) (h : a.comb = [] ∧ b.comb = [] ∧ c.comb = [] ∧ d.comb = []) : Held [a, b, c, d] := by
  intro i hi
  have hi : i < 4 := hi
  rcases (by omega : i = 0 ∨ i = 1 ∨ i = 2 ∨ i = 3) with rfl | rfl | rfl | rfl
  · show a.comb.length ≤ _; rw [h.1]; decide
  · show b.comb.length ≤ _; rw [h.2.1]; decide
  · show c.comb.length ≤ _; rw [h.2.2.1]; decide
  · show d.comb.length ≤ _; rw [h.2.2.2]; decide
abbrev VW (x : Value) : Obj := .cells #[.int .i64 2, .int .i64 2, x, .int .i64 0, .int .i64 0, .int .i64 0, .string ⟨#[]⟩] 31 (0, 0)
set_option maxHeartbeats 6400000 in
theorem wakes16 (w : World) (hT : Tabs w) : Calls Tryz.prog 17 #[] w fun e w' => e = .returned (.bool true) ∧ Below w.heap.size w w' := by
  have HN := Lib.hid (Row.refNew_any 2 2 ⟨-1, -1, 0⟩ w (by decide) (by decide))
  obtain ⟨lA, hlA⟩ : ∃ l, List.replicate (2 * 2) (Row.blank ⟨-1, -1, 0⟩) = l := ⟨_, rfl⟩
  obtain ⟨lB, hlB⟩ : ∃ l, [wb0, wb0, wb0, wx0] = l := ⟨_, rfl⟩
  have HLA : Hid (lA.length = 4) := Lib.hid (by rw [← hlA]; rfl)
  have HLB : Hid (lB.length = 4) := Lib.hid (by rw [← hlB]; rfl)
  have HSET : Hid ((flat lA).set 18 (.int .i64 120) = flat lB) := Lib.hid (by rw [← hlA, ← hlB]; rfl)
  have HGET : Hid ((flat lA)[18]? = some (.int .i64 32)) := Lib.hid (by rw [← hlA]; rfl)
  have HCP := Lib.hid (fun x W (k : Cs W x lA) => copyView_t 2 2 0 0 0 ⟨#[]⟩ lA x W k (by rw [HLA.out]; decide))
  have HBW := Lib.hid (fun A1 c1 A2 c2 W (hw : Below w.heap.size w W) (h1 : Rm W (.slice A1 lA.length c1) lA) (h2 : Rm W (.slice A2 lB.length c2) lB) => between_t 2 2 0 0 0 2 2 0 0 0 [] [] lA lB A1 A2 c1 c2 true true W (by rw [← hlA]; exact view_w (two_ok kb0 kb0) (two_ok kb0 kb0)) (by rw [← hlB]; exact view_w (two_ok kb0 kb0) (two_ok kb0 kx0)) h1 h2 (by rw [← hlA]; exact held_w _ _ _ _ ⟨rfl, rfl, rfl, rfl⟩) (by rw [← hlB]; exact held_w _ _ _ _ ⟨rfl, rfl, rfl, rfl⟩) (hT.kept hw) (by simp) (by simp) ⟨2, 2, false, [1], [wb0, wx0], 0, 0, 0, []⟩ (fun _ => by rw [← hlA, ← hlB]; exact between_w.symm) (fun h => (by cases h)))
  rw [hlA] at HN
  clear hlA hlB hT
  rw [HLA.out, HLB.out] at HBW
  go_enter Tryz.func17, Tryz.ntmps17
  go_wp2_with fail
  refine HN.out.mono ?_; rintro e w1 ⟨v, rfl, ho, hb⟩
  obtain ⟨A1, c1, rfl⟩ := own_shape ho
  rw [HLA.out] at ho ⊢
  have HB1 : Hid (Below w.heap.size w (w1.alloc (VW (.slice A1 4 c1)))) := Lib.hid (hb.alloc hb.size _)
  have HO1 : Hid (OwnCs (w1.alloc (VW (.slice A1 4 c1))) w.heap.size (.slice A1 4 c1) lA) := Lib.hid (ho.kept ((Below.refl _ _).alloc (Nat.le_refl _) _))
  have HV1 : Hid ((w1.alloc (VW (.slice A1 4 c1))).heap[w1.heap.size]? = some (VW (.slice A1 4 c1))) := Lib.hid (new_alloc _ _ _ rfl)
  clear ho hb HN
  go_upto_region 2 with (fail)
  generalize w1.alloc (VW (.slice A1 4 c1)) = w2 at HB1 HO1 HV1 ⊢
  generalize w1.heap.size = b1 at HV1 ⊢
  go_wp2_with (refine wp_loadV rfl rfl rfl HV1.out ?_)
  refine (HCP.out _ _ HO1.out.cs).mono ?_; rintro e w3 ⟨y, rfl, ho, hb⟩
  obtain ⟨g, c2, rfl, hg, _⟩ : ∃ g c, y = .slice (some ⟨g, 0, none⟩) lA.length c ∧ w2.heap.size ≤ g ∧ True := by
    rcases ho.shape with ⟨e, h0⟩ | ⟨b, cap, e, h1, _⟩
    · have := HLA.out; rw [h0] at this; cases this
    · exact ⟨b, cap, e, h1, trivial⟩
  rw [HLA.out] at ho ⊢
  have HNA : Hid ((Value.slice A1 4 c1).ownBlock ≠ some g) := Lib.hid fun e => by
    have := (World.ownsRow.lt HO1.out g e).2
    omega
  have HB3 := Lib.hid (HB1.out.trans (hb.mono HB1.out.size))
  have HO3 := Lib.hid (row_kept HO1.out hb)
  have HV3 := Lib.hid (Blk.kept HV1.out hb)
  have HLT : Hid (b1 < g) := Lib.hid (by have := Blk.lt HV1.out; omega)
  have HG3 : Hid (g < w3.heap.size) := Lib.hid (World.ownsRow.lt ho g rfl).2
  have HB4 : Hid (Below w.heap.size w (w3.alloc (VW (.slice (some ⟨g, 0, none⟩) 4 c2)))) := Lib.hid (HB3.out.alloc HB3.out.size _)
  have hk := (Below.refl w3.heap.size w3).alloc (Nat.le_refl _) (VW (.slice (some ⟨g, 0, none⟩) 4 c2))
  have HO4 := Lib.hid (row_kept HO3.out hk)
  have HV4 := Lib.hid (old_alloc HV3.out (VW (.slice (some ⟨g, 0, none⟩) 4 c2)))
  have HY4 := Lib.hid (row_kept ho hk)
  have HZ4 : Hid ((w3.alloc (VW (.slice (some ⟨g, 0, none⟩) 4 c2))).heap[w3.heap.size]? = some (VW (.slice (some ⟨g, 0, none⟩) 4 c2))) := Lib.hid (new_alloc _ _ _ rfl)
  have HB1S : Hid (w.heap.size ≤ g) := Lib.hid (Nat.le_trans HB1.out.size hg)
  clear ho hb hk HB1 HO1 HV1 HB3 HO3 HV3 HCP
  go_upto_region 3 with (fail)
  generalize w3.alloc (VW (.slice (some ⟨g, 0, none⟩) 4 c2)) = w4 at HB4 HO4 HV4 HY4 HZ4 ⊢
  generalize w3.heap.size = b2 at HZ4 HG3 ⊢
  have c2' : w4.cell? ⟨b2, 2, none⟩ = some (.slice (some ⟨g, 0, none⟩) 4 c2) := Blk.cell HZ4.out 2
  have hY : (w4.ownsRow w2.heap.size 78 6 (.slice (some ⟨g, 0, none⟩) 4 c2) 4 (flat lA)) := by have h := HY4.out; unfold OwnCs at h; rwa [HLA.out] at h
  have g18 : w4.cell? ⟨g, 18, none⟩ = some (.int .i64 32) := by
    have h := World.ownsRow.cellAt hY 18 (by decide)
    rw [h]; exact HGET.out
  have gf18 := World.ownsRow.frozenAt hY 18
  have HY5 : Hid (OwnCs (w4.setCell ⟨g, 18, none⟩ (.int .i64 120)) w2.heap.size (.slice (some ⟨g, 0, none⟩) 4 c2) lB) := Lib.hid (by
    have s := (World.ownsRow.stored hY 18 (.int .i64 120)).1
    unfold OwnCs
    rw [HLB.out, ← HSET.out]; exact s)
  have HO5 : Hid (OwnCs (w4.setCell ⟨g, 18, none⟩ (.int .i64 120)) w.heap.size (.slice A1 4 c1) lA) := Lib.hid (row_other HO4.out HNA.out _ _)
  have HV5 : Hid ((w4.setCell ⟨g, 18, none⟩ (.int .i64 120)).heap[b1]? = some (VW (.slice A1 4 c1))) := Lib.hid (Blk.other HV4.out (by have := HLT.out; omega) _ _)
  have HZ5 : Hid ((w4.setCell ⟨g, 18, none⟩ (.int .i64 120)).heap[b2]? = some (VW (.slice (some ⟨g, 0, none⟩) 4 c2))) := Lib.hid (Blk.other HZ4.out (by have := HG3.out; omega) _ _)
  have HB5 : Hid (Below w.heap.size w (w4.setCell ⟨g, 18, none⟩ (.int .i64 120))) := Lib.hid (HB4.out.setCell (p := ⟨g, 18, none⟩) (by have := HB1S.out; show w.heap.size ≤ g; omega) _)
  clear hY HO4 HV4 HZ4 HB4 HY4 HGET HSET
  go_upto_region 4 with (fail)
  clear c2' g18 gf18
  generalize w4.setCell ⟨g, 18, none⟩ (.int .i64 120) = w5 at HY5 HO5 HV5 HZ5 HB5 ⊢
  go_wp2_with (first
    | (refine wp_loadV rfl rfl rfl HV5.out ?_)
    | (refine wp_loadV rfl rfl rfl HZ5.out ?_))
  refine (HBW.out _ _ _ _ _ HB5.out HO5.out.rm HY5.out.rm).mono ?_; rintro e w6 ⟨u, v, rfl, hu, hv, hb⟩
  obtain ⟨Bu, ku, rfl⟩ := own_shape hu
  obtain ⟨Bv, kv, rfl⟩ := own_shape hv
  have HU6 := Lib.hid (hu.sl.kept ((Below.refl _ _).alloc (Nat.le_refl _) (.cells #[.int .i64 2, .int .i64 2, .bool false, .slice Bu 1 ku, .slice Bv 2 kv, .int .i64 0, .int .i64 0, .int .i64 0, .string ⟨#[]⟩] 36 (0, 0))))
  have HB6 := Lib.hid ((HB5.out.trans (hb.mono HB5.out.size)).alloc (HB5.out.trans (hb.mono HB5.out.size)).size (.cells #[.int .i64 2, .int .i64 2, .bool false, .slice Bu 1 ku, .slice Bv 2 kv, .int .i64 0, .int .i64 0, .int .i64 0, .string ⟨#[]⟩] 36 (0, 0)))
  have HP6 : Hid ((w6.alloc (.cells #[.int .i64 2, .int .i64 2, .bool false, .slice Bu 1 ku, .slice Bv 2 kv, .int .i64 0, .int .i64 0, .int .i64 0, .string ⟨#[]⟩] 36 (0, 0))).heap[w6.heap.size]? = some (.cells #[.int .i64 2, .int .i64 2, .bool false, .slice Bu 1 ku, .slice Bv 2 kv, .int .i64 0, .int .i64 0, .int .i64 0, .string ⟨#[]⟩] 36 (0, 0))) := Lib.hid (new_alloc _ _ _ rfl)
  clear hu hv hb HB5 HO5 HY5 HV5 HZ5 HBW
  simp only [codeB, Bool.and_self, if_true]
  go_upto_region 5 with (fail)
  generalize w6.alloc (.cells #[.int .i64 2, .int .i64 2, .bool false, .slice Bu 1 ku, .slice Bv 2 kv, .int .i64 0, .int .i64 0, .int .i64 0, .string ⟨#[]⟩] 36 (0, 0)) = w7 at HU6 HB6 HP6 ⊢
  generalize w6.heap.size = b3 at HP6 ⊢
  have c3 : w7.cell? ⟨b3, 3, none⟩ = some (.slice Bu 1 ku) := Blk.cell HP6.out 3
  have c4 : w7.cell? ⟨b3, 4, none⟩ = some (.slice Bv 2 kv) := Blk.cell HP6.out 4
  have HK := (Below.refl w7.heap.size w7).alloc (Nat.le_refl _) (.cells #[.int .i64 1] 3 (0, 0))
  have HEQ := Lib.hid (eqNumbers_same 1 1 [(1 : Int)] [(1 : Int)] _ (HU6.out.kept HK).src (Src.made w7 (ints [(1 : Int)]) 3 1 1 rfl) rfl (by decide))
  have HB7 := Lib.hid (HB6.out.trans (HK.mono HB6.out.size))
  have d4 : (w7.alloc (.cells #[.int .i64 1] 3 (0, 0))).cell? ⟨b3, 4, none⟩ = some (.slice Bv 2 kv) := Blk.cell (Blk.kept HP6.out HK) 4
  clear HK HU6 HB6 HP6
  go_wp2_with fail
  refine (num16 0 w7).mono ?_; rintro e w' ⟨rfl, rfl⟩
  go_wp2_with fail
  refine HEQ.out.mono ?_; rintro e w' ⟨rfl, q, rfl⟩
  have d4' : ((w7.alloc (.cells #[.int .i64 1] 3 (0, 0))).drewN q).cell? ⟨b3, 4, none⟩ = some (.slice Bv 2 kv) := d4
  go_wp2_with fail
  go_ret
  exact ⟨rfl, below_drewN HB7.out _⟩
end Pat
end
end Go.Proofs.YtjcfbeiljdohcaaGreatDoor
