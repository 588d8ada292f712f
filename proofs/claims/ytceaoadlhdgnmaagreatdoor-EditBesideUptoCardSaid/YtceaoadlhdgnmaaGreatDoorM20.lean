/- Joined texts: RowFar, ScrEq, ScrFar. -/
import Derived.Test.YtceaoadlhdgnmaaGreatDoorM14
namespace Go.Proofs.YtceaoadlhdgnmaaGreatDoor
set_option maxRecDepth 100000
section
open Go.RowKit
namespace Row
def Only (b : Nat) (w w' : World) : Prop := w.heap.size ≤ w'.heap.size ∧ ∀ (g : Nat) (o : Obj), g ≠ b → w.heap[g]? = some o → w'.heap[g]? = some o
theorem Only.refl (b : Nat) (w : World) : Only b w w := ⟨Nat.le_refl _, fun _ _ _ h => h⟩
theorem Only.set {b : Nat} {w w' : World} (h : Only b w w') (j : Nat) (u : Value) : Only b w (w'.setCell ⟨b, j, none⟩ u) :=
  ⟨by simpa [World.setCell] using h.1, fun g o hg e => Blk.other (h.2 g o hg e) hg j u⟩
theorem Only.put {b : Nat} {w w' : World} (h : Only b w w') (k : Nat) (c : Cl) : Only b w (putCell w' b k c) :=
  (((((h.set _ _).set _ _).set _ _).set _ _).set _ _).set _ _
theorem OwnCs.only {w w' : World} {base b : Nat} {v : Value} {l : List Cl} (h : OwnCs w base v l) (ho : Only b w w') (hv : v.ownBlock ≠ some b) : OwnCs w' base v l := by
  refine ⟨h.1, ?_⟩
  rcases h.2 with h0 | ⟨g, cap, cur, rfl, hb, hg, rest⟩
  · exact .inl h0
  · exact .inr ⟨g, cap, cur, rfl, hb, ho.2 g _ (fun e => hv (by subst e; rfl)) hg, rest⟩
end Row
end
section
open Go.RowKit
namespace Scr
open Go.Proofs.YtceaoadlhdgnmaaGreatDoor.Row
@[go_sem] theorem eql_cur (a b : Int) (c : Bool) (d e f g h i : Int) (j : Bool) (w : World) :
    (binOp .eql 33 (.agg #[.int .i64 a, .int .i64 b, .bool c, .int .i64 d, .int .i64 e, .int .i64 f, .int .i64 g, .int .i64 h, .int .i64 i, .bool j]) (.agg #[.int .i64 a, .int .i64 b, .bool c, .int .i64 d, .int .i64 e, .int .i64 f, .int .i64 g, .int .i64 h, .int .i64 i, .bool j])).run Tryz.prog w = .ok (.bool true) w := by
  simp [go_sem]
structure Lens (s : S) : Prop where
  m : s.main.cells.length ≤ 1000000
  o : s.other.cells.length ≤ 1000000
  t : s.tabs.length ≤ 1000000
structure Two (w0 : World) (s : S) (x y z x' y' z' : Value) (w : World) : Prop where
  bel : Below w0.heap.size w0 w
  b0 : SBox w w0.heap.size s x y z
  b1 : SBox w (w0.heap.size + 1) s x' y' z'
  i0 : In w s x y z
  i1 : In w s x' y' z'
theorem Two.kept {w0 w w' : World} {s : S} {x y z x' y' z' : Value} (h : Two w0 s x y z x' y' z' w) (hb : Below w.heap.size w w') : Two w0 s x y z x' y' z' w' :=
  ⟨h.bel.trans (hb.mono h.bel.size), h.b0.kept hb, h.b1.kept hb, h.i0.kept hb, h.i1.kept hb⟩
theorem Two.start {w : World} {s : S} {x y z x' y' z' : Value} (h : In w s x y z) (h' : In w s x' y' z') : Two w s x y z x' y' z' ((w.alloc (.cells (sarr s x y z) 36)).alloc (.cells (sarr s x' y' z') 36)) := by
  have hb : Below w.heap.size w ((w.alloc (.cells (sarr s x y z) 36)).alloc (.cells (sarr s x' y' z') 36)) := ((Below.refl _ _).alloc (Nat.le_refl _) _).alloc (by simp) _
  exact ⟨hb, heap_alloc2_old _ _ _, heap_alloc2_new _ _ _, h.kept hb, h'.kept hb⟩
theorem call_then {f : FuncId} {args : Array Value} {w : World} {v : Value} {Q : Ending → World → Prop} {T : World → Prop} (h : Calls Tryz.prog f args w fun e w' => e = .returned v ∧ Below w.heap.size w w') (hT : ∀ w', Below w.heap.size w w' → T w')
    (hQ : ∀ w', Hid (T w') → Q (.returned v) w') : Calls Tryz.prog f args w Q :=
  h.mono (by rintro e w' ⟨rfl, hb⟩; exact hQ w' (Lib.hid (hT w' hb)))
set_option maxHeartbeats 3200000 in
theorem eqScreen_same (s : S) (x y z x' y' z' : Value) (w : World) (h : In w s x y z) (h' : In w s x' y' z') (hl : Lens s) :
    Calls Tryz.prog 67 #[sv s x y z, sv s x' y' z'] w fun e w' => e = .returned (.bool true) ∧ Below w.heap.size w w' := by
  have H0 := Lib.hid (Two.start h h')
  have HL := Lib.hid hl
  clear h h' hl
  go_enter Tryz.func67, Tryz.ntmps67
  go_wp2_with fail
  refine call_then (eqGrid_same s.main.rows s.main.cols s.main.cells x x' _ H0.out.i0.m.cs H0.out.i1.m.cs (by have := HL.out.m; omega)) (T := Two w s x y z x' y' z') (fun _ hb => H0.out.kept hb) ?_; intro w1 H1
  clear H0
  have c0 : ∀ j, w1.cell? ⟨w.heap.size, j, none⟩ = (sarr s x y z)[j]? := H1.out.b0.cell
  have c1 : ∀ j, w1.cell? ⟨w.heap.size + 1, j, none⟩ = (sarr s x' y' z')[j]? := H1.out.b1.cell
  go_wp2_with fail
  refine call_then (eqGrid_same s.other.rows s.other.cols s.other.cells y y' _ H1.out.i0.o.cs H1.out.i1.o.cs (by have := HL.out.o; omega)) (T := Two w s x y z x' y' z') (fun _ hb => H1.out.kept hb) ?_; intro w2 H2
  clear H1 c0 c1
  have c0 : ∀ j, w2.cell? ⟨w.heap.size, j, none⟩ = (sarr s x y z)[j]? := H2.out.b0.cell
  have c1 : ∀ j, w2.cell? ⟨w.heap.size + 1, j, none⟩ = (sarr s x' y' z')[j]? := H2.out.b1.cell
  go_wp2_with fail
  refine call_then (Tab.eqBools_same s.tabs s.tabs _ H2.out.i0.t H2.out.i1.t rfl (by have := HL.out.t; omega)) (T := Two w s x y z x' y' z') (fun _ hb => H2.out.kept hb) ?_; intro w3 H3
  clear H2 c0 c1
  have c0 : ∀ j, w3.cell? ⟨w.heap.size, j, none⟩ = (sarr s x y z)[j]? := H3.out.b0.cell
  have c1 : ∀ j, w3.cell? ⟨w.heap.size + 1, j, none⟩ = (sarr s x' y' z')[j]? := H3.out.b1.cell
  go_wp2_with fail
  go_ret
  exact ⟨rfl, H3.out.bel⟩
end Scr
end
section
open Go.RowKit
namespace Scr
open Go.Proofs.YtceaoadlhdgnmaaGreatDoor.Row
def Shaped (w w' : World) : Prop := (∀ b v m, OwnCs w b v m → ∃ m', m'.length = m.length ∧ OwnCs w' b v m') ∧ ∀ b v m, Tab.OwnB w b v m → Tab.OwnB w' b v m
theorem Shaped.refl (w : World) : Shaped w w := ⟨fun _ _ m h => ⟨m, rfl, h⟩, fun _ _ _ h => h⟩
theorem own_put {w : World} {b0 b n cap : Nat} {l : List Cl} (h : OwnCs w b0 (.slice (some ⟨b, 0, none⟩) n cap) l) (k : Nat) (c : Cl) : OwnCs (putCell w b k c) b0 (.slice (some ⟨b, 0, none⟩) n cap) (l.set k c) := by
  rcases Nat.lt_or_ge k l.length with hk | hk
  · exact h.put hk c
  · have hn : n = l.length := h.n
    subst hn
    have hf : (Row.flat l).length = l.length * 6 := flat_length l
    have s0 := World.ownsRow.stored h (k * 6) (.int .i64 c.rune)
    have s1 := s0.1.stored (k * 6 + 1) (.string ⟨c.comb.toArray⟩)
    have s2 := s1.1.stored (k * 6 + 2) (.int .i64 c.wide)
    have s3 := s2.1.stored (k * 6 + 3) (.int .i64 c.a.fg)
    have s4 := s3.1.stored (k * 6 + 4) (.int .i64 c.a.bg)
    have s5 := s4.1.stored (k * 6 + 5) (.int .i64 c.a.flags)
    have e := s5.1
    rw [List.set_eq_of_length_le (l := Row.flat l) (by omega), List.set_eq_of_length_le (l := Row.flat l) (by omega), List.set_eq_of_length_le (l := Row.flat l) (by omega), List.set_eq_of_length_le (l := Row.flat l) (by omega), List.set_eq_of_length_le (l := Row.flat l) (by omega), List.set_eq_of_length_le (l := Row.flat l) (by omega)] at e
    rw [List.set_eq_of_length_le hk]
    exact e
theorem ownB_ne {w : World} {base g : Nat} {v : Value} {l : List Bool} (h : Tab.OwnB w base v l) (hg : v.ownBlock ≠ some g) (j : Nat) (u : Value) : Tab.OwnB (w.setCell ⟨g, j, none⟩ u) base v l := by
  refine ⟨h.1, ?_⟩
  rcases h.2 with h0 | ⟨b, cap, cur, rfl, hb, hc, rest⟩
  · exact .inl h0
  · exact .inr ⟨b, cap, cur, rfl, hb, Blk.other hc (fun e => hg (by subst e; rfl)) j u, rest⟩
theorem ownB_put {w : World} {base g : Nat} {v : Value} {l : List Bool} (h : Tab.OwnB w base v l) (hg : v.ownBlock ≠ some g) (k : Nat) (c : Cl) : Tab.OwnB (putCell w g k c) base v l :=
  ownB_ne (ownB_ne (ownB_ne (ownB_ne (ownB_ne (ownB_ne h hg _ _) hg _ _) hg _ _) hg _ _) hg _ _) hg _ _
theorem Shaped.put {w wr : World} {base b n cap : Nat} {l : List Cl} (h : Shaped w wr) (hown : OwnCs wr base (.slice (some ⟨b, 0, none⟩) n cap) l) (k : Nat) (c : Cl) : Shaped w (putCell wr b k c) := by
  refine ⟨fun b2 v m hm => ?_, fun b2 v m hm => ?_⟩
  · obtain ⟨m', hl, hm'⟩ := h.1 b2 v m hm
    rcases hm'.shape with ⟨rfl, rfl⟩ | ⟨g, cp, e, _⟩
    · exact ⟨[], hl, OwnCs.nil _ _⟩
    · by_cases hg : g = b
      · subst hg; subst e
        exact ⟨m'.set k c, by rw [List.length_set]; exact hl, own_put hm' k c⟩
      · exact ⟨m', hl, hm'.only ((Only.refl b wr).put k c) (by subst e; exact fun q => hg (Option.some.inj q))⟩
  · have hb := h.2 b2 v m hm
    refine ownB_put hb ?_ k c
    rcases hb.2 with ⟨rfl, _⟩ | ⟨g, cap', cur', rfl, _, hg, _⟩
    · exact fun q => by cases q
    · intro q
      have e : g = b := Option.some.inj q
      subst e
      rcases hown.2 with ⟨e, _⟩ | ⟨g2, cap2, cur2, e, _, hg2, _⟩
      · injection e with e; cases e
      · injection e with e1
        injection e1 with e1
        injection e1 with e1
        subst e1
        rw [hg] at hg2
        injection hg2 with e2
        injection e2 with _ e3
        exact absurd e3 (by decide)
set_option maxHeartbeats 1600000 in
theorem cells_over (l : List Cl) (x : Value) (base : Nat) (w : World) (hx : OwnCs w base x l) (hn : l.length ≤ 100000000) :
    Calls Tryz.prog 115 #[x] w fun e w' => e = .returned (.tuple #[]) ∧ Below base w w' ∧ Shaped w w' ∧ ∀ g o, x.ownBlock ≠ some g → w.heap[g]? = some o → w'.heap[g]? = some o := by
  rcases hx.shape with ⟨rfl, h0⟩ | ⟨b, cap, rfl, hb, _⟩
  · clear hx
    go_enter Tryz.func115, Tryz.ntmps115
    go_wp2_with fail
    go_rounds 1
    go_end0
    exact ⟨rfl, Below.refl _ _, Shaped.refl _, fun _ _ _ h => h⟩
  · have HG := Lib.hid hb
    clear hb
    go_enter Tryz.func115, Tryz.ntmps115
    go_wp2_with fail
    go_loopw [2] (fun i wr => ∃ (k : Nat) (ys : List Cl), k ≤ l.length ∧ ys.length = l.length ∧ i = .int .i64 k ∧ OwnCs wr base (.slice (some ⟨b, 0, none⟩) l.length cap) ys ∧ Hid (Below base w wr) ∧ Hid (Only b w wr) ∧ Hid (Shaped w wr)) (fun i _ => l.length - (intOf i).toNat)
    case atStart => exact ⟨0, l, by omega, rfl, rfl, hx, Lib.hid (Below.refl _ _), Lib.hid (Only.refl _ _), Lib.hid (Shaped.refl _)⟩
    case round =>
      obtain ⟨k, ys, hk, hyl, rfl, hown, hbl, hon, hsh⟩ := hrel
      by_cases hlt : k < l.length
      · have hky : k < ys.length := by omega
        have d0 := hown.cell hky (show 0 < 6 by decide)
        have d1 := hown.cell hky (show 1 < 6 by decide)
        have d2 := hown.cell hky (show 2 < 6 by decide)
        have d3 := hown.cell hky (show 3 < 6 by decide)
        have d4 := hown.cell hky (show 4 < 6 by decide)
        have d5 := hown.cell hky (show 5 < 6 by decide)
        have f0 := hown.free (k * 6)
        have f1 := hown.free (k * 6 + 1)
        have f2 := hown.free (k * 6 + 2)
        have f3 := hown.free (k * 6 + 3)
        have f4 := hown.free (k * 6 + 4)
        have f5 := hown.free (k * 6 + 5)
        simp only [cvals, Nat.add_zero, List.getElem?_cons_zero, List.getElem?_cons_succ] at d0 d1 d2 d3 d4 d5
        have HP := Lib.hid (hown.put hky ⟨-9, [], 0, ⟨0, 0, 0⟩⟩)
        have HB := Lib.hid (below_put hbl.out HG.out k ⟨-9, [], 0, ⟨0, 0, 0⟩⟩)
        have HO := Lib.hid (hon.out.put k ⟨-9, [], 0, ⟨0, 0, 0⟩⟩)
        have HS := Lib.hid (hsh.out.put hown k ⟨-9, [], 0, ⟨0, 0, 0⟩⟩)
        have HL : Hid ((ys.set k ⟨-9, [], 0, ⟨0, 0, 0⟩⟩).length = l.length) := Lib.hid (by rw [List.length_set]; exact hyl)
        generalize ys.set k ⟨-9, [], 0, ⟨0, 0, 0⟩⟩ = zs at HP HL
        generalize g ys k = cc at d0 d1 d2 d3 d4 d5
        obtain ⟨rune, cb, wide, ⟨fg, bg, fl⟩⟩ := cc
        clear hown hky hyl hbl hon hsh
        go_wp2_with fail
        go_roundw
        case rel => exact ⟨k + 1, zs, by omega, HL.out, by go_num, HP.out, Lib.hid HB.out, Lib.hid HO.out, Lib.hid HS.out⟩
        case measure => simp [intOf]; omega
      · have hd : decide (k < l.length) = false := decide_eq_false hlt
        clear hlt
        go_wp2_with fail
        go_end0
        exact ⟨rfl, hbl.out, hsh.out, fun g o hg h => hon.out.2 g o (fun e => hg (by subst e; rfl)) h⟩
theorem scr_ne {w : World} {base g : Nat} {v : Value} {l : List Cl} {A : Array Value} (h : OwnCs w base v l) (hg : w.heap[g]? = some (.cells A 36 (0, 0))) : v.ownBlock ≠ some g := by
  rcases h.2 with ⟨rfl, _⟩ | ⟨g', cap', cur', rfl, _, hc, _⟩
  · exact fun q => by cases q
  · intro q
    have e : g' = g := Option.some.inj q
    subst e
    rw [hg] at hc
    injection hc with e2
    injection e2 with _ e3
    exact absurd e3 (by decide)
theorem scr_neB {w : World} {base g : Nat} {v : Value} {l : List Bool} {A : Array Value} (h : Tab.OwnB w base v l) (hg : w.heap[g]? = some (.cells A 36 (0, 0))) : v.ownBlock ≠ some g := by
  rcases h.2 with ⟨rfl, _⟩ | ⟨g', cap', cur', rfl, _, hc, _⟩
  · exact fun q => by cases q
  · intro q
    have e : g' = g := Option.some.inj q
    subst e
    rw [hg] at hc
    injection hc with e2
    injection e2 with _ e3
    exact absurd e3 (by decide)
set_option maxHeartbeats 800000 in
theorem bools_over {u : Value} {base : Nat} (l : List Bool) (w : World) (hx : Tab.OwnB w base u l) (hn : l.length ≤ 1000000) :
    Calls Tryz.prog 116 #[u] w fun e w' => e = .returned (.tuple #[]) ∧ Below base w w' ∧ ∀ g o, u.ownBlock ≠ some g → w.heap[g]? = some o → w'.heap[g]? = some o := by
  have hv : u = .slice none 0 0 ∧ l.length = 0 ∨ ∃ g cap, u = .slice (some ⟨g, 0, none⟩) l.length cap ∧ base ≤ g := by
    rcases hx.2 with h0 | ⟨g, cap, cur, h0, hb, _⟩
    · exact .inl h0
    · exact .inr ⟨g, cap, h0, hb⟩
  rcases hv with ⟨rfl, h0⟩ | ⟨g, cap, rfl, hbase⟩
  · clear hx
    go_enter Tryz.func116, Tryz.ntmps116
    go_wp2_with fail
    go_rounds 1
    go_end0
    exact ⟨rfl, Below.refl _ _, fun _ _ _ h => h⟩
  · unfold Tab.OwnB at hx
    have hbl : ∀ k, k < l.length → ∃ b, (Tab.bools l)[k]? = some (.bool b) := fun k hk => ⟨_, Tab.bools_get hk⟩
    generalize Tab.bools l = xs0 at hx hbl
    have HB0 := Lib.hid hbl
    clear hbl
    generalize l.length = n at hx hn HB0 ⊢
    have HO0 := Lib.hid (Only.refl g w)
    go_enter Tryz.func116, Tryz.ntmps116
    go_wp2_with fail
    go_loopw [2] (fun i wr => ∃ (k : Nat) (ys : List Value), k ≤ n ∧ i = .int .i64 k ∧ wr.ownsRow base 4 1 (.slice (some ⟨g, 0, none⟩) n cap) n ys ∧ Hid (∀ j, j < n → ∃ b, ys[j]? = some (.bool b)) ∧ Below base w wr ∧ Hid (Only g w wr)) (fun i _ => n - (intOf i).toNat)
    case atStart => exact ⟨0, xs0, by omega, rfl, hx, HB0, Below.refl _ _, HO0⟩
    case round =>
      obtain ⟨k, ys, hk, rfl, hown, HB, hbl, HO⟩ := hrel
      by_cases hlt : k < n
      · obtain ⟨b, hys⟩ := HB.out k hlt
        have hc := hown.cellAt k (by omega)
        rw [hys] at hc
        have hf := hown.frozenAt k
        have hst := hown.stored k (.bool !b)
        have HB2 : Hid (∀ j, j < n → ∃ b', (ys.set k (.bool !b))[j]? = some (.bool b')) := Lib.hid fun j hj => by
          by_cases hjk : k = j
          · subst hjk; exact ⟨!b, by rw [List.getElem?_set_self (by have := hown.1; omega)]⟩
          · obtain ⟨b', h'⟩ := HB.out j hj
            exact ⟨b', by rw [List.getElem?_set_ne hjk]; exact h'⟩
        clear hys
        go_wp2_with fail
        go_roundw
        case rel => exact ⟨k + 1, _, by omega, by go_num, hst.1, HB2, hbl.setCell hbase _, Lib.hid (HO.out.set k _)⟩
        case measure => simp [intOf]; omega
      · go_wp2_with fail
        go_end0
        exact ⟨rfl, hbl, fun g' o hg h => HO.out.2 g' o (fun e => hg (by subst e; rfl)) h⟩
def Boxes (w w' : World) : Prop := ∀ (g : Nat) (A : Array Value), w.heap[g]? = some (.cells A 36 (0, 0)) → w'.heap[g]? = some (.cells A 36 (0, 0))
theorem Boxes.trans {a b c : World} (h : Boxes a b) (h' : Boxes b c) : Boxes a c := fun g A e => h' g A (h g A e)
theorem boxes_alloc (w : World) (o : Obj) : Boxes w (w.alloc o) := fun _ _ e => old_alloc e o
end Scr
end
end Go.Proofs.YtceaoadlhdgnmaaGreatDoor
