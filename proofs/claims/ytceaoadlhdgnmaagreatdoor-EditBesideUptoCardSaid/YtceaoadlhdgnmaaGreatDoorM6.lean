/- Joined texts: RowTabs, RowValid. -/
import Derived.Test.YtceaoadlhdgnmaaGreatDoorM4
import Derived.Shelf.Unicode.ValidAny
import Derived.Lib.LaidU8T
import Derived.MakeChecks
import Derived.LaidLaws
import Derived.Laws.IdiomStrings
namespace Go.Proofs.YtceaoadlhdgnmaaGreatDoor
set_option maxRecDepth 100000
section
open Go.ChangeShapes Go.WideShapes Go.RowKit
namespace Row
def accZ : List (Int × Int) := [(128, 191), (160, 191), (128, 159), (144, 191), (128, 143), (0, 0), (0, 0), (0, 0), (0, 0), (0, 0), (0, 0), (0, 0), (0, 0), (0, 0), (0, 0), (0, 0)]
def pairs {H : Type} (l : List (Int × Int)) : DataW H := .agg (l.map fun x => .agg [.lit (.int .u8 x.1), .lit (.int .u8 x.2)])
theorem acc_data : (Rows.laid_unicode_utf8_acceptRanges : DataW Unit) = pairs accZ := rfl
def firstZ : List Int := Go.Pinned.utf8FirstZ.map fun (n : Nat) => (n : Int)
theorem first_data : Rows.laid_unicode_utf8_first = Lib.tabData .u8 firstZ := by
  unfold Rows.laid_unicode_utf8_first Go.Pinned.utf8First Go.Pinned.numbers Lib.tabData firstZ
  rw [List.map_map]; rfl
theorem firstZ_get : ∀ i : Fin 256, Go.Pinned.utf8FirstZ[i.val]? = some (Lib.firstT i) := by decide +kernel
section
variable {H : Type} {enc : TypeId × Value → H} {P : Program} {w : World} {base : Nat} {sp : Nat → Bool} {held : Bool} {fuel : Nat}
theorem cells_of_pairs {t e f0t f1t : TypeId} {fs : Array Field} {n : Nat} {cs : List Value} {l : List (Int × Int)} {p : List MemPlace} {f0 f1 : Field} (ht : P.underlying t = some (.array n e)) (he : P.underlying e = some (.struct fs)) (hfs : fs = #[f0, f1])
    (h0 : f0.type = f0t ∧ f0.offset = 0) (h1 : f1.type = f1t ∧ f1.offset = 1) (u0 : P.underlying f0t = some (.int .u8)) (u1 : P.underlying f1t = some (.int .u8)) (c0 : P.cellsOf f0t = 1) (c1 : P.cellsOf f1t = 1) (ce : P.cellsOf e = 2)
    (h : DataW.trod enc P w base sp held fuel t cs = some (pairs l, p)) {i : Nat} (hi : i < n) {x : Int × Int} (hx : l[i]? = some x) : cs[i * 2]? = some (.int .u8 x.1) ∧ cs[i * 2 + 1]? = some (.int .u8 x.2) := by
  subst hfs
  obtain ⟨xs, m, _, hx1, hl, hn, hel⟩ := DataW.trod_array ht h
  have hi' := hel i hi
  rw [ce] at hi'
  have hxi : xs[i]? = some (xs[i]'(by omega)) := List.getElem?_eq_getElem (by omega)
  rw [hxi] at hi'
  obtain ⟨y0, y1, k, hy, hlen, g0, g1⟩ := trod_struct2 he hi'
  rw [h0.1, h0.2, c0] at g0
  rw [h1.1, h1.2, c1] at g1
  have hd : (xs[i]'(by omega)).1 = (.agg [.lit (.int .u8 x.1), .lit (.int .u8 x.2)] : DataW H) := by
    have e1 : l.map (fun x => (.agg [.lit (.int .u8 x.1), .lit (.int .u8 x.2)] : DataW H)) = xs.map (·.1) := by
      have := congrArg Prod.fst hx1
      unfold pairs at this
      injection this
    have e2 := congrArg (·[i]?) e1
    simp only [List.getElem?_map, hx, hxi, Option.map_some, Option.some.injEq] at e2
    exact e2.symm
  rw [hy] at hd
  simp only [DataW.agg.injEq, List.cons.injEq, and_true] at hd
  obtain ⟨a, ha, hda, _⟩ := DataW.trod_int u0 g0
  obtain ⟨b, hb, hdb, _⟩ := DataW.trod_int u1 g1
  rw [hda] at hd
  rw [hdb] at hd
  simp only [DataW.lit.injEq, Lit.int.injEq, true_and] at hd
  obtain ⟨rfl, rfl⟩ := hd
  constructor
  · have := congrArg (·[0]?) ha
    simp [List.getElem?_drop] at this
    exact this
  · have := congrArg (·[0]?) hb
    simp [List.getElem?_drop] at this
    exact this
end
theorem Tryz.gFirst : Tryz.prog.globalNamed "unicode/utf8.first" = some 0 := by kernel_rfl
theorem Tryz.gAcc : Tryz.prog.globalNamed "unicode/utf8.acceptRanges" = some 1 := by kernel_rfl
theorem Tryz.tFirst : (Tryz.prog.globals[0]?).map (·.type) = some 161 := by kernel_rfl
theorem Tryz.tAcc : (Tryz.prog.globals[1]?).map (·.type) = some 164 := by kernel_rfl
theorem Tryz.cU8 : Tryz.prog.cellsOf 5 = 1 := by kernel_rfl
theorem Tryz.cPair : Tryz.prog.cellsOf 163 = 2 := by kernel_rfl
theorem Tryz.cFirst : Tryz.prog.cellsOf 161 = 256 := by kernel_rfl
def laid2 : List (String × DataW Unit) := [("unicode/utf8.acceptRanges", Rows.laid_unicode_utf8_acceptRanges), ("unicode/utf8.first", Rows.laid_unicode_utf8_first)]
theorem acc_get : ∀ i : Fin 16, accZ[i.val]? = some (((Lib.accLo i : Nat) : Int), ((Lib.accHi i : Nat) : Int)) := by decide +kernel
def Tabs (w : World) : Prop := Lib.Utf8Tabs 0 1 w
theorem Tabs.kept {w w' : World} (h : Tabs w) (hb : Below w.heap.size w w') : Tabs w' :=
  ⟨fun i hi => cell_kept hb (h.1 i hi), fun i hi => ⟨cell_kept hb (h.2 i hi).1, cell_kept hb (h.2 i hi).2⟩⟩
theorem tabs_of_laid {W : World} (h : laidMetH Tryz.prog laid2 W) : Tabs W := by
  rw [MakeChecks.laidMetH_plain _ _ _ (by kernel_rfl)] at h
  obtain ⟨ps, ⟨g0, t0, cs0, f0, p0, q0, hg0, ht0, hv0, hd0, ⟨g1, t1, cs1, f1, p1, q1, hg1, ht1, hv1, hd1, _, _⟩, _⟩, _, _⟩ := h
  obtain rfl := Option.some.inj (Tryz.gAcc.symm.trans hg0)
  obtain rfl := Option.some.inj (Tryz.gFirst.symm.trans hg1)
  obtain rfl := Option.some.inj (Tryz.tAcc.symm.trans ht0)
  obtain rfl := Option.some.inj (Tryz.tFirst.symm.trans ht1)
  rw [first_data] at hd1
  rw [acc_data] at hd0
  have h1 := Lib.cells_of_tab Tryz.underlying161 Tryz.underlying5 Tryz.cU8 Tryz.cFirst hd1
  have c1 : ∀ i, i < 256 → W.cell? ⟨0, i, none⟩ = some (.int .u8 (Lib.firstT i : Nat)) := fun i hi => by
    rw [World.var?_cell hg1 hv1 i, ← Array.getElem?_toList, h1, List.getElem?_map]
    unfold firstZ
    rw [List.getElem?_map, firstZ_get ⟨i, hi⟩]
    rfl
  have c2 : ∀ i, i < 16 → W.cell? ⟨1, 2 * i, none⟩ = some (.int .u8 (Lib.accLo i : Nat)) ∧ W.cell? ⟨1, 2 * i + 1, none⟩ = some (.int .u8 (Lib.accHi i : Nat)) := fun i hi => by
    have := cells_of_pairs Tryz.underlying164 Tryz.underlying163 rfl ⟨rfl, rfl⟩ ⟨rfl, rfl⟩ Tryz.underlying5 Tryz.underlying5 Tryz.cU8 Tryz.cU8 Tryz.cPair hd0 (i := i) (by omega) (acc_get ⟨i, hi⟩)
    rw [Nat.mul_comm 2 i, World.var?_cell hg0 hv0 (i * 2), World.var?_cell hg0 hv0 (i * 2 + 1), ← Array.getElem?_toList, ← Array.getElem?_toList]
    exact this
  exact ⟨c1, c2⟩
noncomputable def laidWorld (os : Os) : World :=
  let w0 := World.holding Tryz.prog os ⟨#[], #[], []⟩
  { w0 with heap := (w0.heap.modify 0 fun
      | .cells _ t frozen => .cells (firstZ.map (Value.int .u8)).toArray t frozen
      | o => o).modify 1 fun
      | .cells _ t frozen => .cells (accZ.flatMap fun x => [Value.int .u8 x.1, Value.int .u8 x.2]).toArray t frozen
      | o => o }
theorem laid_met (os : Os) (args : Array Value) : laidMet Tryz.prog laid2 ((laidWorld os).forCall (fun _ _ => 0) ⟨#[], args, []⟩).memory :=
  laidMet_of_run' 8 (by kernel_rfl) (by kernel_rfl)
end Row
end
section
open Go.RowKit
namespace Row
def layV : Go.Shelf.Ren := ⟨fun | 196 => 111 | 259 => 147 | n => n,
  fun | 0 => 0 | 3 => 3 | 4 => 4 | 5 => 5 | 9 => 9 | 12 => 12 | 46 => 79 | 53 => 205 | 119 => 161 | 138 => 163 | 139 => 164 | n => n,
  fun | 3 => 0 | 4 => 1 | n => n⟩
theorem laidV : Lays.n196 Tryz.prog layV := {
  mixed := by kernel_rfl
  f196 := Tryz.func111.trans (congrArg some (by kernel_rfl))
  f259 := Tryz.func147.trans (congrArg some (by kernel_rfl))
  t0 := Tryz.underlying0
  a0 := Tryz.isAgg0
  z0 := Tryz.sizeOf0
  v0 := Tryz.zeroValue0
  t3 := Tryz.underlying3
  a3 := Tryz.isAgg3
  z3 := Tryz.sizeOf3
  v3 := Tryz.zeroValue3
  t4 := Tryz.underlying4
  a4 := Tryz.isAgg4
  z4 := Tryz.sizeOf4
  v4 := Tryz.zeroValue4
  t5 := Tryz.underlying5
  a5 := Tryz.isAgg5
  z5 := Tryz.sizeOf5
  v5 := Tryz.zeroValue5
  t9 := Tryz.underlying9
  a9 := Tryz.isAgg9
  z9 := Tryz.sizeOf9
  v9 := Tryz.zeroValue9
  t12 := Tryz.underlying12
  a12 := Tryz.isAgg12
  z12 := Tryz.sizeOf12
  v12 := Tryz.zeroValue12
  t46 := Tryz.underlying79
  a46 := Tryz.isAgg79
  z46 := Tryz.sizeOf79
  v46 := Tryz.zeroValue79
  t53 := Tryz.underlying205
  a53 := Tryz.isAgg205
  z53 := Tryz.sizeOf205
  v53 := Tryz.zeroValue205
  t119 := Tryz.underlying161
  a119 := Tryz.isAgg161
  z119 := Tryz.sizeOf161
  t138 := Tryz.underlying163
  a138 := Tryz.isAgg163
  z138 := Tryz.sizeOf163
  v138 := Tryz.zeroValue163
  t139 := Tryz.underlying164
  a139 := Tryz.isAgg164
  z139 := Tryz.sizeOf164
  v139 := Tryz.zeroValue164
  g3 := by kernel_rfl
  g4 := by kernel_rfl }
theorem valid_any (s : ByteArray) (w : World) (hs : s.size ≤ 1000000000) (hT : Tabs w) :
    Calls Tryz.prog 111 #[.string s] w fun e w' => e = .returned (.bool (Lib.validD s.data.toList)) ∧ Below w.heap.size w w' :=
  Any.utf8_ValidString laidV s w (by omega) hT
end Row
end
end Go.Proofs.YtceaoadlhdgnmaaGreatDoor
