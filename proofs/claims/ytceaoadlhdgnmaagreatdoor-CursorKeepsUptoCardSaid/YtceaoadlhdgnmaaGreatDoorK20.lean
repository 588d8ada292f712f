/- Joined texts: ScrFar. -/
import Derived.Test.YtceaoadlhdgnmaaGreatDoorK14
import Derived.Test.YtceaoadlhdgnmaaGreatDoorK18
import Derived.Test.YtceaoadlhdgnmaaGreatDoorK19
section
/- A screen that is scribbled over: nothing below its own memory is touched. -/
namespace Go.Proofs.YtceaoadlhdgnmaaGreatDoor
set_option maxRecDepth 100000
open Go.RowKit
namespace Scr
open Go.Proofs.YtceaoadlhdgnmaaGreatDoor.Row

/-- Whatever own slice was there is one of so many. -/
def Shaped (w w' : World) : Prop := (∀ b v m, OwnCs w b v m → ∃ m', m'.length = m.length ∧ OwnCs w' b v m') ∧ ∀ b v m, Tab.OwnB w b v m → Tab.OwnB w' b v m
theorem Shaped.refl (w : World) : Shaped w w := ⟨fun _ _ m h => ⟨m, rfl, h⟩, fun _ _ _ h => h⟩
theorem own_put {w : World} {b0 b n cap : Nat} {l : List Cl} (h : OwnCs w b0 (.slice (some ⟨b, 0, none⟩) n cap) l) (k : Nat) (c : Cl) : OwnCs (putCell w b k c) b0 (.slice (some ⟨b, 0, none⟩) n cap) (l.set k c) := by
  rcases Nat.lt_or_ge k l.length with hk | hk
  · exact h.put hk c
  · have hn : n = l.length := h.n
    subst hn
    have hf : (Row.flat l).length = l.length * 6 := flat_length l
    have s0 := World.ownsRow.stored h (k * 6) (.int .i64 c.rune)
    have s1 := s0.1.stored (k * 6 + 1) (.string ⟨c.comb.toArray⟩)
    have s2 := s1.1.stored (k * 6 + 2) (.int .i64 c.wide)
    have s3 := s2.1.stored (k * 6 + 3) (.int .i64 c.a.fg)
    have s4 := s3.1.stored (k * 6 + 4) (.int .i64 c.a.bg)
    have s5 := s4.1.stored (k * 6 + 5) (.int .i64 c.a.flags)
    have e := s5.1
    rw [List.set_eq_of_length_le (l := Row.flat l) (by omega), List.set_eq_of_length_le (l := Row.flat l) (by omega), List.set_eq_of_length_le (l := Row.flat l) (by omega), List.set_eq_of_length_le (l := Row.flat l) (by omega), List.set_eq_of_length_le (l := Row.flat l) (by omega), List.set_eq_of_length_le (l := Row.flat l) (by omega)] at e
    rw [List.set_eq_of_length_le hk]
    exact e
theorem ownB_ne {w : World} {base g : Nat} {v : Value} {l : List Bool} (h : Tab.OwnB w base v l) (hg : v.ownBlock ≠ some g) (j : Nat) (u : Value) : Tab.OwnB (w.setCell ⟨g, j, none⟩ u) base v l := by
  refine ⟨h.1, ?_⟩
  rcases h.2 with h0 | ⟨b, cap, cur, rfl, hb, hc, rest⟩
  · exact .inl h0
  · exact .inr ⟨b, cap, cur, rfl, hb, Blk.other hc (fun e => hg (by subst e; rfl)) j u, rest⟩
theorem ownB_put {w : World} {base g : Nat} {v : Value} {l : List Bool} (h : Tab.OwnB w base v l) (hg : v.ownBlock ≠ some g) (k : Nat) (c : Cl) : Tab.OwnB (putCell w g k c) base v l :=
  ownB_ne (ownB_ne (ownB_ne (ownB_ne (ownB_ne (ownB_ne h hg _ _) hg _ _) hg _ _) hg _ _) hg _ _) hg _ _
theorem Shaped.put {w wr : World} {base b n cap : Nat} {l : List Cl} (h : Shaped w wr) (hown : OwnCs wr base (.slice (some ⟨b, 0, none⟩) n cap) l) (k : Nat) (c : Cl) : Shaped w (putCell wr b k c) := by
  refine ⟨fun b2 v m hm => ?_, fun b2 v m hm => ?_⟩
  · obtain ⟨m', hl, hm'⟩ := h.1 b2 v m hm
    rcases hm'.shape with ⟨rfl, rfl⟩ | ⟨g, cp, e, _⟩
    · exact ⟨[], hl, OwnCs.nil _ _⟩
    · by_cases hg : g = b
      · subst hg; subst e
        exact ⟨m'.set k c, by rw [List.length_set]; exact hl, own_put hm' k c⟩
      · exact ⟨m', hl, hm'.only ((Only.refl b wr).put k c) (by subst e; exact fun q => hg (Option.some.inj q))⟩
  · have hb := h.2 b2 v m hm
    refine ownB_put hb ?_ k c
    rcases hb.2 with ⟨rfl, _⟩ | ⟨g, cap', cur', rfl, _, hg, _⟩
    · exact fun q => by cases q
    · intro q
      have e : g = b := Option.some.inj q
      subst e
      rcases hown.2 with ⟨e, _⟩ | ⟨g2, cap2, cur2, e, _, hg2, _⟩
      · injection e with e; cases e
      · injection e with e1
        injection e1 with e1
        injection e1 with e1
        subst e1
        rw [hg] at hg2
        injection hg2 with e2
        injection e2 with _ e3
        exact absurd e3 (by decide)
set_option maxHeartbeats 1600000 in
theorem cells_over (l : List Cl) (x : Value) (base : Nat) (w : World) (hx : OwnCs w base x l) (hn : l.length ≤ 100000000) :
    Calls Tryz.prog 115 #[x] w fun e w' => e = .returned (.tuple #[]) ∧ Below base w w' ∧ Shaped w w' ∧ ∀ g o, x.ownBlock ≠ some g → w.heap[g]? = some o → w'.heap[g]? = some o := by
  rcases hx.shape with ⟨rfl, h0⟩ | ⟨b, cap, rfl, hb, _⟩
  · clear hx
    go_enter Tryz.func115, Tryz.ntmps115
    go_wp2_with fail
    go_rounds 1
    go_end0
    exact ⟨rfl, Below.refl _ _, Shaped.refl _, fun _ _ _ h => h⟩
  · have HG := Lib.hid hb
    clear hb
    go_enter Tryz.func115, Tryz.ntmps115
    go_wp2_with fail
    go_loopw [2] (fun i wr => ∃ (k : Nat) (ys : List Cl), k ≤ l.length ∧ ys.length = l.length ∧ i = .int .i64 k ∧ OwnCs wr base (.slice (some ⟨b, 0, none⟩) l.length cap) ys ∧ Hid (Below base w wr) ∧ Hid (Only b w wr) ∧ Hid (Shaped w wr)) (fun i _ => l.length - (intOf i).toNat)
    case atStart => exact ⟨0, l, by omega, rfl, rfl, hx, Lib.hid (Below.refl _ _), Lib.hid (Only.refl _ _), Lib.hid (Shaped.refl _)⟩
    case round =>
      obtain ⟨k, ys, hk, hyl, rfl, hown, hbl, hon, hsh⟩ := hrel
      by_cases hlt : k < l.length
      · have hky : k < ys.length := by omega
        have d0 := hown.cell hky (show 0 < 6 by decide)
        have d1 := hown.cell hky (show 1 < 6 by decide)
        have d2 := hown.cell hky (show 2 < 6 by decide)
        have d3 := hown.cell hky (show 3 < 6 by decide)
        have d4 := hown.cell hky (show 4 < 6 by decide)
        have d5 := hown.cell hky (show 5 < 6 by decide)
        have f0 := hown.free (k * 6)
        have f1 := hown.free (k * 6 + 1)
        have f2 := hown.free (k * 6 + 2)
        have f3 := hown.free (k * 6 + 3)
        have f4 := hown.free (k * 6 + 4)
        have f5 := hown.free (k * 6 + 5)
        simp only [cvals, Nat.add_zero, List.getElem?_cons_zero, List.getElem?_cons_succ] at d0 d1 d2 d3 d4 d5
        have HP := Lib.hid (hown.put hky ⟨-9, [], 0, ⟨0, 0, 0⟩⟩)
        have HB := Lib.hid (below_put hbl.out HG.out k ⟨-9, [], 0, ⟨0, 0, 0⟩⟩)
        have HO := Lib.hid (hon.out.put k ⟨-9, [], 0, ⟨0, 0, 0⟩⟩)
        have HS := Lib.hid (hsh.out.put hown k ⟨-9, [], 0, ⟨0, 0, 0⟩⟩)
        have HL : Hid ((ys.set k ⟨-9, [], 0, ⟨0, 0, 0⟩⟩).length = l.length) := Lib.hid (by rw [List.length_set]; exact hyl)
        generalize ys.set k ⟨-9, [], 0, ⟨0, 0, 0⟩⟩ = zs at HP HL
        generalize g ys k = cc at d0 d1 d2 d3 d4 d5
        obtain ⟨rune, cb, wide, ⟨fg, bg, fl⟩⟩ := cc
        clear hown hky hyl hbl hon hsh
        go_wp2_with fail
        go_roundw
        case rel => exact ⟨k + 1, zs, by omega, HL.out, by go_num, HP.out, Lib.hid HB.out, Lib.hid HO.out, Lib.hid HS.out⟩
        case measure => simp [intOf]; omega
      · have hd : decide (k < l.length) = false := decide_eq_false hlt
        clear hlt
        go_wp2_with fail
        go_end0
        exact ⟨rfl, hbl.out, hsh.out, fun g o hg h => hon.out.2 g o (fun e => hg (by subst e; rfl)) h⟩
/-- A screen's box is no row of cells, no row of truths. -/
theorem scr_ne {w : World} {base g : Nat} {v : Value} {l : List Cl} {A : Array Value} (h : OwnCs w base v l) (hg : w.heap[g]? = some (.cells A 36 (0, 0))) : v.ownBlock ≠ some g := by
  rcases h.2 with ⟨rfl, _⟩ | ⟨g', cap', cur', rfl, _, hc, _⟩
  · exact fun q => by cases q
  · intro q
    have e : g' = g := Option.some.inj q
    subst e
    rw [hg] at hc
    injection hc with e2
    injection e2 with _ e3
    exact absurd e3 (by decide)
theorem scr_neB {w : World} {base g : Nat} {v : Value} {l : List Bool} {A : Array Value} (h : Tab.OwnB w base v l) (hg : w.heap[g]? = some (.cells A 36 (0, 0))) : v.ownBlock ≠ some g := by
  rcases h.2 with ⟨rfl, _⟩ | ⟨g', cap', cur', rfl, _, hc, _⟩
  · exact fun q => by cases q
  · intro q
    have e : g' = g := Option.some.inj q
    subst e
    rw [hg] at hc
    injection hc with e2
    injection e2 with _ e3
    exact absurd e3 (by decide)
set_option maxHeartbeats 800000 in
/-- Truths turned, each: no other block is touched. -/
theorem bools_over {u : Value} {base : Nat} (l : List Bool) (w : World) (hx : Tab.OwnB w base u l) (hn : l.length ≤ 1000000) :
    Calls Tryz.prog 116 #[u] w fun e w' => e = .returned (.tuple #[]) ∧ Below base w w' ∧ ∀ g o, u.ownBlock ≠ some g → w.heap[g]? = some o → w'.heap[g]? = some o := by
  have hv : u = .slice none 0 0 ∧ l.length = 0 ∨ ∃ g cap, u = .slice (some ⟨g, 0, none⟩) l.length cap ∧ base ≤ g := by
    rcases hx.2 with h0 | ⟨g, cap, cur, h0, hb, _⟩
    · exact .inl h0
    · exact .inr ⟨g, cap, h0, hb⟩
  rcases hv with ⟨rfl, h0⟩ | ⟨g, cap, rfl, hbase⟩
  · clear hx
    go_enter Tryz.func116, Tryz.ntmps116
    go_wp2_with fail
    go_rounds 1
    go_end0
    exact ⟨rfl, Below.refl _ _, fun _ _ _ h => h⟩
  · unfold Tab.OwnB at hx
    have hbl : ∀ k, k < l.length → ∃ b, (Tab.bools l)[k]? = some (.bool b) := fun k hk => ⟨_, Tab.bools_get hk⟩
    generalize Tab.bools l = xs0 at hx hbl
    have HB0 := Lib.hid hbl
    clear hbl
    generalize l.length = n at hx hn HB0 ⊢
    have HO0 := Lib.hid (Only.refl g w)
    go_enter Tryz.func116, Tryz.ntmps116
    go_wp2_with fail
    go_loopw [2] (fun i wr => ∃ (k : Nat) (ys : List Value), k ≤ n ∧ i = .int .i64 k ∧ wr.ownsRow base 4 1 (.slice (some ⟨g, 0, none⟩) n cap) n ys ∧ Hid (∀ j, j < n → ∃ b, ys[j]? = some (.bool b)) ∧ Below base w wr ∧ Hid (Only g w wr)) (fun i _ => n - (intOf i).toNat)
    case atStart => exact ⟨0, xs0, by omega, rfl, hx, HB0, Below.refl _ _, HO0⟩
    case round =>
      obtain ⟨k, ys, hk, rfl, hown, HB, hbl, HO⟩ := hrel
      by_cases hlt : k < n
      · obtain ⟨b, hys⟩ := HB.out k hlt
        have hc := hown.cellAt k (by omega)
        rw [hys] at hc
        have hf := hown.frozenAt k
        have hst := hown.stored k (.bool !b)
        have HB2 : Hid (∀ j, j < n → ∃ b', (ys.set k (.bool !b))[j]? = some (.bool b')) := Lib.hid fun j hj => by
          by_cases hjk : k = j
          · subst hjk; exact ⟨!b, by rw [List.getElem?_set_self (by have := hown.1; omega)]⟩
          · obtain ⟨b', h'⟩ := HB.out j hj
            exact ⟨b', by rw [List.getElem?_set_ne hjk]; exact h'⟩
        clear hys
        go_wp2_with fail
        go_roundw
        case rel => exact ⟨k + 1, _, by omega, by go_num, hst.1, HB2, hbl.setCell hbase _, Lib.hid (HO.out.set k _)⟩
        case measure => simp [intOf]; omega
      · go_wp2_with fail
        go_end0
        exact ⟨rfl, hbl, fun g' o hg h => HO.out.2 g' o (fun e => hg (by subst e; rfl)) h⟩
/-- Screens' boxes stand where they stood. -/
def Boxes (w w' : World) : Prop := ∀ (g : Nat) (A : Array Value), w.heap[g]? = some (.cells A 36 (0, 0)) → w'.heap[g]? = some (.cells A 36 (0, 0))
theorem Boxes.trans {a b c : World} (h : Boxes a b) (h' : Boxes b c) : Boxes a c := fun g A e => h' g A (h g A e)
theorem boxes_alloc (w : World) (o : Obj) : Boxes w (w.alloc o) := fun _ _ e => old_alloc e o
set_option maxHeartbeats 1600000 in
theorem screen_over (s : S) (x y z : Value) (base : Nat) (w : World) (h : Own w base s x y z) (hl : Lens s) (hb : base ≤ w.heap.size) :
    Calls Tryz.prog 68 #[sv s x y z] w fun e w' => e = .returned (.tuple #[]) ∧ Below base w w' ∧ Boxes w w' := by
  have HA := Lib.hid (h.kept (bel_alloc w (.cells (sarr s x y z) 36)))
  have H0 : Hid (SBox (w.alloc (.cells (sarr s x y z) 36)) w.heap.size s x y z) := Lib.hid (SBox.new w s x y z)
  have HB0 : Hid (Below base w (w.alloc (.cells (sarr s x y z) 36))) := Lib.hid ((Below.refl _ _).alloc hb _)
  have HX0 := Lib.hid (boxes_alloc w (.cells (sarr s x y z) 36))
  have HL := Lib.hid hl
  clear h hl
  go_enter Tryz.func68, Tryz.ntmps68
  go_wp2_with fail
  refine (cells_over s.main.cells x base _ HA.out.m (by have := HL.out.m; omega)).mono ?_; rintro e w1 ⟨rfl, hbl, hsh, hon⟩
  have HX1 : Hid (Boxes w w1) := Lib.hid (HX0.out.trans fun g A e => hon _ _ (scr_ne HA.out.m e) e)
  have H1 : Hid (SBox w1 w.heap.size s x y z) := Lib.hid (hon _ _ (scr_ne HA.out.m H0.out) H0.out)
  have HB1 := Lib.hid (HB0.out.trans hbl)
  have HO1 := Lib.hid (hsh.1 _ _ _ HA.out.o)
  have HT1 := Lib.hid (hsh.2 _ _ _ HA.out.t)
  clear hbl hsh hon HA H0 HB0 HX0
  have c1 : ∀ j, w1.cell? ⟨w.heap.size, j, none⟩ = (sarr s x y z)[j]? := H1.out.cell
  go_wp2_with fail
  obtain ⟨m', hm', ho'⟩ := HO1.out
  refine (cells_over m' y base _ ho' (by have := HL.out.o; omega)).mono ?_; rintro e w2 ⟨rfl, hbl, hsh, hon⟩
  have HX2 : Hid (Boxes w w2) := Lib.hid (HX1.out.trans fun g A e => hon _ _ (scr_ne ho' e) e)
  have H2 : Hid (SBox w2 w.heap.size s x y z) := Lib.hid (hon _ _ (scr_ne ho' H1.out) H1.out)
  have HB2 := Lib.hid (HB1.out.trans hbl)
  have HT2 := Lib.hid (hsh.2 _ _ _ HT1.out)
  clear hbl hsh hon H1 c1 HB1 HO1 hm' ho' HX1
  have c2 : ∀ j, w2.cell? ⟨w.heap.size, j, none⟩ = (sarr s x y z)[j]? := H2.out.cell
  go_wp2_with fail
  refine (bools_over s.tabs _ HT2.out (by have := HL.out.t; omega)).mono ?_; rintro e w3 ⟨rfl, hbl, hon⟩
  have HX3 : Hid (Boxes w w3) := Lib.hid (HX2.out.trans fun g A e => hon _ _ (scr_neB HT2.out e) e)
  have HB3 := Lib.hid (HB2.out.trans hbl)
  clear hbl hon
  go_wp2_with fail
  go_end0
  exact ⟨rfl, HB3.out, HX3.out⟩
end Scr
end Go.Proofs.YtceaoadlhdgnmaaGreatDoor
end
