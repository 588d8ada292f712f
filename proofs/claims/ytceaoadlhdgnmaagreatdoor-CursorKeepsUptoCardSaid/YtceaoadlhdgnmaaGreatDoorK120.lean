/- Joined texts: ScrUni0. -/
import Derived.Test.YtceaoadlhdgnmaaGreatDoorK25
import Derived.Test.YtceaoadlhdgnmaaGreatDoorK26
import Derived.Test.YtceaoadlhdgnmaaGreatDoorK31
section
/- What the laws' walks need of a screen that came in: short enough for all calls; an answer with its code. -/
namespace Go.Proofs.YtceaoadlhdgnmaaGreatDoor
set_option maxRecDepth 100000
open Go.RowKit
namespace Scr
open Go.Proofs.YtceaoadlhdgnmaaGreatDoor.Row

def wi8 (i : Int) (n : Nat) : Nat := (i % 18446744073709551616).toNat % n
theorem within8 (i : Int) (n : Nat) (h0 : 0 < n) (hn : n ≤ 1000000) (w : World) : Calls Tryz.prog 23 #[.int .i64 i, .int .i64 n] w fun e w' => e = .returned (.int .i64 (wi8 i n)) ∧ w' = w := by
  have h1 : IntKind.u64.wrap i = i % 18446744073709551616 := by rw [IntKind.wrap_u64]
  have h2 : IntKind.u64.wrap (n : Int) = (n : Int) := by rw [IntKind.wrap_u64]; omega
  have hb : 0 ≤ i % 18446744073709551616 := Int.emod_nonneg _ (by decide)
  have hlt : (wi8 i n) < n := Nat.mod_lt _ h0
  obtain ⟨q, hq⟩ : ∃ q : Nat, i % 18446744073709551616 = (q : Int) := ⟨(i % 18446744073709551616).toNat, by omega⟩
  have h3 : (q : Int) % (n : Int) = ((wi8 i n : Nat) : Int) := by unfold wi8; rw [hq]; simp
  rw [hq] at h1
  have hne : ((n : Int) == 0) = false := by rw [beq_eq_false_iff_ne]; omega
  generalize wi8 i n = k at h3 hlt ⊢
  clear hb hq
  go_enter Tryz.func23, Tryz.ntmps23
  go_wp2_with fail
  go_ret
  exact ⟨rfl, rfl⟩
theorem Ok.lens8 {s : S} (h : Ok s) : Lens s := by
  have h1 := gridB_small h.m
  have h2 := gridB_small h.o
  have h3 := h.b
  have h4 := (gridB_sides h.m).2.2
  exact ⟨by omega, by omega, by omega⟩
/-- Same, whether there may be an answer or not. -/
theorem same_any (may : Bool) (base : Nat) (X W : S) (x y z x' y' z' : Value) (code : Int) (s : S) (xi yi zi xs ys zs : Value) (w : World) (hb : base ≤ w.heap.size) (hc : code = codeB may)
    (h1 : may = true → W = X ∧ Own w base X x y z ∧ In w X x' y' z' ∧ Lens X) (h0 : may = false → X = noS ∧ x = nilS ∧ y = nilS ∧ z = nilS)
    (hi : ∀ w', Below base w w' → In w' s xi yi zi) (hs : ∀ w', Below base w w' → In w' s xs ys zs) (hl2 : Lens s) :
    Calls Tryz.prog 21 #[sv X x y z, .int .i64 code, .bool may, sv W x' y' z', sv s xi yi zi, sv s xs ys zs] w fun e w' => e = .returned (.bool true) ∧ Below base w w' ∧ Boxes w w' := by
  subst hc
  cases may
  · obtain ⟨rfl, rfl, rfl, rfl⟩ := h0 rfl
    exact same_no base W x' y' z' s xi yi zi xs ys zs w hb hi hs hl2
  · obtain ⟨rfl, h2, h3, h4⟩ := h1 rfl
    exact same_yes base W x y z x' y' z' s xi yi zi xs ys zs w hb h2 h3 hi hs h4 hl2
/-- An answer of the developers': the screen, or nothing. -/
structure Ans (w w' : World) (may : Bool) (X0 X : S) (x y z : Value) (code : Int) : Prop where
  bel : Below w.heap.size w w'
  own : Own w' w.heap.size X x y z
  code : code = codeB may
  yes : may = true → X = X0
  no : may = false → X = noS ∧ x = nilS ∧ y = nilS ∧ z = nilS
/-- What came in, short enough for all calls. -/
structure Fit8 (s : S) : Prop where
  h : Holds s
  sh : Shorts s
  l : Lens s
theorem fit8 {s : S} (hr : Reach 1048576 s) (hw : weigh s ≤ 5000) : Fit8 s := by
  unfold weigh at hw
  exact ⟨⟨fun i hi => Nat.le_trans (hr.m.2 i hi) (by decide), fun i hi => Nat.le_trans (hr.o.2 i hi) (by decide), Nat.le_trans hr.t (by decide)⟩,
    ⟨fun i hi => Nat.le_trans (hr.m.2 i hi) (by decide), fun i hi => Nat.le_trans (hr.o.2 i hi) (by decide), Nat.le_trans hr.t (by decide), by omega, by omega⟩, ⟨by omega, by omega, by omega⟩⟩
/-- A screen stored whole: own memory elsewhere stays. -/
theorem Sto.own2 {w w' : World} {b base : Nat} {A old : Array Value} {s : S} {x y z : Value} (h : Sto w b A w') (hb : w.heap[b]? = some (.cells old 36 (0, 0))) (ho : Own w base s x y z) : Own w' base s x y z := by
  have k1 : ∀ {v : Value} {l : List Cl}, OwnCs w base v l → OwnCs w' base v l := fun {v l} hv => by
    have hn := scr_ne hv hb
    refine ⟨hv.1, ?_⟩
    rcases hv.2 with h0 | ⟨g, cap, cur, rfl, hg, hc, rest⟩
    · exact .inl h0
    · exact .inr ⟨g, cap, cur, rfl, hg, (h.other g (fun e => hn (by subst e; rfl))).trans hc, rest⟩
  refine ⟨k1 ho.m, k1 ho.o, ?_⟩
  have hn := scr_neB ho.t hb
  refine ⟨ho.t.1, ?_⟩
  rcases ho.t.2 with h0 | ⟨g, cap, cur, rfl, hg, hc, rest⟩
  · exact .inl h0
  · exact .inr ⟨g, cap, cur, rfl, hg, (h.other g (fun e => hn (by subst e; rfl))).trans hc, rest⟩
/-- What lies elsewhere. -/
theorem Sto.boxed {w w' : World} {b g : Nat} {A A' : Array Value} (h : Sto w b A w') (hn : g ≠ b) (hb : w.heap[g]? = some (.cells A' 36 (0, 0))) : w'.heap[g]? = some (.cells A' 36 (0, 0)) := (h.other g hn).trans hb
end Scr
end Go.Proofs.YtceaoadlhdgnmaaGreatDoor
end
