/- Joined texts: RowTabs, RowValid, RowRef. -/
import Derived.Test.YtknhkmobnhjhhaaDoorJ1
import Derived.Test.YtknhkmobnhjhhaaDoorJ2
import Derived.Test.YtknhkmobnhjhhaaDoorJ4
import Derived.Test.YtknhkmobnhjhhaaDoorJ5
import Derived.Shelf.Unicode.ValidAny
import Derived.Lib.LaidU8T
import Derived.MakeChecks
import Derived.LaidLaws
import Derived.Laws.IdiomStrings
section
/- What the rows' listed tables give a walk: the library's two tables lie in their blocks; a world that holds them, for the witness. -/
namespace Go.Proofs.YtknhkmobnhjhhaaDoor
open Go.ChangeShapes Go.WideShapes Go.RowKit
namespace Row

def accZ : List (Int × Int) := [(128, 191), (160, 191), (128, 159), (144, 191), (128, 143), (0, 0), (0, 0), (0, 0), (0, 0), (0, 0), (0, 0), (0, 0), (0, 0), (0, 0), (0, 0), (0, 0)]
def pairs {H : Type} (l : List (Int × Int)) : DataW H := .agg (l.map fun x => .agg [.lit (.int .u8 x.1), .lit (.int .u8 x.2)])
theorem acc_data : (Rows.laid_unicode_utf8_acceptRanges : DataW Unit) = pairs accZ := rfl
def firstZ : List Int := Go.Pinned.utf8FirstZ.map fun (n : Nat) => (n : Int)
theorem first_data : Rows.laid_unicode_utf8_first = Lib.tabData .u8 firstZ := by
  unfold Rows.laid_unicode_utf8_first Go.Pinned.utf8First Go.Pinned.numbers Lib.tabData firstZ
  rw [List.map_map]; rfl
theorem firstZ_get : ∀ i : Fin 256, Go.Pinned.utf8FirstZ[i.val]? = some (Lib.firstT i) := by decide +kernel

section
variable {H : Type} {enc : TypeId × Value → H} {P : Program} {w : World} {base : Nat} {sp : Nat → Bool} {held : Bool} {fuel : Nat}
/-- An array of structs of two bytes, cell for cell. -/
theorem cells_of_pairs {t e f0t f1t : TypeId} {fs : Array Field} {n : Nat} {cs : List Value} {l : List (Int × Int)} {p : List MemPlace} {f0 f1 : Field} (ht : P.underlying t = some (.array n e)) (he : P.underlying e = some (.struct fs)) (hfs : fs = #[f0, f1])
    (h0 : f0.type = f0t ∧ f0.offset = 0) (h1 : f1.type = f1t ∧ f1.offset = 1) (u0 : P.underlying f0t = some (.int .u8)) (u1 : P.underlying f1t = some (.int .u8)) (c0 : P.cellsOf f0t = 1) (c1 : P.cellsOf f1t = 1) (ce : P.cellsOf e = 2)
    (h : DataW.trod enc P w base sp held fuel t cs = some (pairs l, p)) {i : Nat} (hi : i < n) {x : Int × Int} (hx : l[i]? = some x) : cs[i * 2]? = some (.int .u8 x.1) ∧ cs[i * 2 + 1]? = some (.int .u8 x.2) := by
  subst hfs
  obtain ⟨xs, m, _, hx1, hl, hn, hel⟩ := DataW.trod_array ht h
  have hi' := hel i hi
  rw [ce] at hi'
  have hxi : xs[i]? = some (xs[i]'(by omega)) := List.getElem?_eq_getElem (by omega)
  rw [hxi] at hi'
  obtain ⟨y0, y1, k, hy, hlen, g0, g1⟩ := trod_struct2 he hi'
  rw [h0.1, h0.2, c0] at g0
  rw [h1.1, h1.2, c1] at g1
  have hd : (xs[i]'(by omega)).1 = (.agg [.lit (.int .u8 x.1), .lit (.int .u8 x.2)] : DataW H) := by
    have e1 : l.map (fun x => (.agg [.lit (.int .u8 x.1), .lit (.int .u8 x.2)] : DataW H)) = xs.map (·.1) := by
      have := congrArg Prod.fst hx1
      unfold pairs at this
      injection this
    have e2 := congrArg (·[i]?) e1
    simp only [List.getElem?_map, hx, hxi, Option.map_some, Option.some.injEq] at e2
    exact e2.symm
  rw [hy] at hd
  simp only [DataW.agg.injEq, List.cons.injEq, and_true] at hd
  obtain ⟨a, ha, hda, _⟩ := DataW.trod_int u0 g0
  obtain ⟨b, hb, hdb, _⟩ := DataW.trod_int u1 g1
  rw [hda] at hd
  rw [hdb] at hd
  simp only [DataW.lit.injEq, Lit.int.injEq, true_and] at hd
  obtain ⟨rfl, rfl⟩ := hd
  constructor
  · have := congrArg (·[0]?) ha
    simp [List.getElem?_drop] at this
    exact this
  · have := congrArg (·[0]?) hb
    simp [List.getElem?_drop] at this
    exact this
end

theorem Tryd.gFirst : Tryd.prog.globalNamed "unicode/utf8.first" = some 0 := by kernel_rfl
theorem Tryd.gAcc : Tryd.prog.globalNamed "unicode/utf8.acceptRanges" = some 1 := by kernel_rfl
theorem Tryd.tFirst : (Tryd.prog.globals[0]?).map (·.type) = some 113 := by kernel_rfl
theorem Tryd.tAcc : (Tryd.prog.globals[1]?).map (·.type) = some 116 := by kernel_rfl
theorem Tryd.cU8 : Tryd.prog.cellsOf 5 = 1 := by kernel_rfl
theorem Tryd.cPair : Tryd.prog.cellsOf 115 = 2 := by kernel_rfl
theorem Tryd.cFirst : Tryd.prog.cellsOf 113 = 256 := by kernel_rfl
/-- The two listed variables, in the rows' order. -/
def laid2 : List (String × DataW Unit) := [("unicode/utf8.acceptRanges", Rows.laid_unicode_utf8_acceptRanges), ("unicode/utf8.first", Rows.laid_unicode_utf8_first)]
theorem acc_get : ∀ i : Fin 16, accZ[i.val]? = some (((Lib.accLo i : Nat) : Int), ((Lib.accHi i : Nat) : Int)) := by decide +kernel
/-- The library's two tables lie in their blocks. -/
def Tabs (w : World) : Prop := Lib.Utf8Tabs 0 1 w
theorem Tabs.kept {w w' : World} (h : Tabs w) (hb : Below w.heap.size w w') : Tabs w' :=
  ⟨fun i hi => cell_kept hb (h.1 i hi), fun i hi => ⟨cell_kept hb (h.2 i hi).1, cell_kept hb (h.2 i hi).2⟩⟩
theorem tabs_of_laid {W : World} (h : laidMetH Tryd.prog laid2 W) : Tabs W := by
  rw [MakeChecks.laidMetH_plain _ _ _ (by kernel_rfl)] at h
  obtain ⟨ps, ⟨g0, t0, cs0, f0, p0, q0, hg0, ht0, hv0, hd0, ⟨g1, t1, cs1, f1, p1, q1, hg1, ht1, hv1, hd1, _, _⟩, _⟩, _, _⟩ := h
  obtain rfl := Option.some.inj (Tryd.gAcc.symm.trans hg0)
  obtain rfl := Option.some.inj (Tryd.gFirst.symm.trans hg1)
  obtain rfl := Option.some.inj (Tryd.tAcc.symm.trans ht0)
  obtain rfl := Option.some.inj (Tryd.tFirst.symm.trans ht1)
  rw [first_data] at hd1
  rw [acc_data] at hd0
  have h1 := Lib.cells_of_tab Tryd.underlying113 Tryd.underlying5 Tryd.cU8 Tryd.cFirst hd1
  have c1 : ∀ i, i < 256 → W.cell? ⟨0, i, none⟩ = some (.int .u8 (Lib.firstT i : Nat)) := fun i hi => by
    rw [World.var?_cell hg1 hv1 i, ← Array.getElem?_toList, h1, List.getElem?_map]
    unfold firstZ
    rw [List.getElem?_map, firstZ_get ⟨i, hi⟩]
    rfl
  have c2 : ∀ i, i < 16 → W.cell? ⟨1, 2 * i, none⟩ = some (.int .u8 (Lib.accLo i : Nat)) ∧ W.cell? ⟨1, 2 * i + 1, none⟩ = some (.int .u8 (Lib.accHi i : Nat)) := fun i hi => by
    have := cells_of_pairs Tryd.underlying116 Tryd.underlying115 rfl ⟨rfl, rfl⟩ ⟨rfl, rfl⟩ Tryd.underlying5 Tryd.underlying5 Tryd.cU8 Tryd.cU8 Tryd.cPair hd0 (i := i) (by omega) (acc_get ⟨i, hi⟩)
    rw [Nat.mul_comm 2 i, World.var?_cell hg0 hv0 (i * 2), World.var?_cell hg0 hv0 (i * 2 + 1), ← Array.getElem?_toList, ← Array.getElem?_toList]
    exact this
  exact ⟨c1, c2⟩

/-- A world that holds the two tables: the settled one, the two blocks laid. -/
noncomputable def laidWorld (os : Os) : World :=
  let w0 := World.holding Tryd.prog os ⟨#[], #[], []⟩
  { w0 with heap := (w0.heap.modify 0 fun
      | .cells _ t frozen => .cells (firstZ.map (Value.int .u8)).toArray t frozen
      | o => o).modify 1 fun
      | .cells _ t frozen => .cells (accZ.flatMap fun x => [Value.int .u8 x.1, Value.int .u8 x.2]).toArray t frozen
      | o => o }
theorem laid_met (os : Os) (args : Array Value) : laidMet Tryd.prog laid2 ((laidWorld os).forCall (fun _ _ => 0) ⟨#[], args, []⟩).memory :=
  laidMet_of_run' 8 (by kernel_rfl) (by kernel_rfl)
end Row
end Go.Proofs.YtknhkmobnhjhhaaDoor
end
section
/- The library's ValidString, laid at this program; a cell's marks as the page reads them. -/
namespace Go.Proofs.YtknhkmobnhjhhaaDoor
set_option maxRecDepth 100000
open Go.RowKit
namespace Row

def layV : Go.Shelf.Ren := ⟨fun | 196 => 42 | 259 => 54 | n => n,
  fun | 0 => 0 | 3 => 3 | 4 => 4 | 5 => 5 | 9 => 9 | 12 => 12 | 46 => 117 | 53 => 137 | 119 => 113 | 138 => 115 | 139 => 116 | n => n,
  fun | 3 => 0 | 4 => 1 | n => n⟩
theorem laidV : Lays.n196 Tryd.prog layV := {
  mixed := by kernel_rfl
  f196 := Tryd.func42.trans (congrArg some (by kernel_rfl))
  f259 := Tryd.func54.trans (congrArg some (by kernel_rfl))
  t0 := Tryd.underlying0
  a0 := Tryd.isAgg0
  z0 := Tryd.sizeOf0
  v0 := Tryd.zeroValue0
  t3 := Tryd.underlying3
  a3 := Tryd.isAgg3
  z3 := Tryd.sizeOf3
  v3 := Tryd.zeroValue3
  t4 := Tryd.underlying4
  a4 := Tryd.isAgg4
  z4 := Tryd.sizeOf4
  v4 := Tryd.zeroValue4
  t5 := Tryd.underlying5
  a5 := Tryd.isAgg5
  z5 := Tryd.sizeOf5
  v5 := Tryd.zeroValue5
  t9 := Tryd.underlying9
  a9 := Tryd.isAgg9
  z9 := Tryd.sizeOf9
  v9 := Tryd.zeroValue9
  t12 := Tryd.underlying12
  a12 := Tryd.isAgg12
  z12 := Tryd.sizeOf12
  v12 := Tryd.zeroValue12
  t46 := Tryd.underlying117
  a46 := Tryd.isAgg117
  z46 := Tryd.sizeOf117
  v46 := Tryd.zeroValue117
  t53 := Tryd.underlying137
  a53 := Tryd.isAgg137
  z53 := Tryd.sizeOf137
  v53 := Tryd.zeroValue137
  t119 := Tryd.underlying113
  a119 := Tryd.isAgg113
  z119 := Tryd.sizeOf113
  t138 := Tryd.underlying115
  a138 := Tryd.isAgg115
  z138 := Tryd.sizeOf115
  v138 := Tryd.zeroValue115
  t139 := Tryd.underlying116
  a139 := Tryd.isAgg116
  z139 := Tryd.sizeOf116
  v139 := Tryd.zeroValue116
  g3 := by kernel_rfl
  g4 := by kernel_rfl }
theorem valid_any (s : ByteArray) (w : World) (hs : s.size ≤ 1000000000) (hT : Tabs w) :
    Calls Tryd.prog 42 #[.string s] w fun e w' => e = .returned (.bool (Lib.validD s.data.toList)) ∧ Below w.heap.size w w' :=
  Any.utf8_ValidString laidV s w (by omega) hT
end Row
end Go.Proofs.YtknhkmobnhjhhaaDoor
end
section
/- The page's rows: which cell, which row may be; a blank row; cut. -/
namespace Go.Proofs.YtknhkmobnhjhhaaDoor
set_option maxRecDepth 100000
open Go.RowKit
namespace Row
open Utf Wid

/-- The runes that the machine's own conversion makes. -/
def runeVals (l : List UInt8) : List Value := (runesN l.length l).map (Value.int .i32)
theorem runesFrom_is (s : ByteArray) : ∀ (n pos : Nat) (acc : Array Value), (Conv.runesFrom s n pos acc).toList = acc.toList ++ (runesN n (s.data.toList.drop pos)).map (Value.int .i32)
  | 0, pos, acc => by simp [Conv.runesFrom, runesN]
  | n + 1, pos, acc => by
    unfold Conv.runesFrom
    by_cases hp : pos < s.size
    · rw [if_pos hp]
      have hne := Utf.drop_ne hp
      simp only [runesN, if_neg hne, Utf.dec_at, List.drop_drop]
      rw [runesFrom_is s n _ _, Array.toList_push, List.append_assoc]
      rfl
    · rw [if_neg hp]
      have he : s.data.toList.drop pos = [] := List.drop_eq_nil_of_le (by show s.size ≤ pos; omega)
      simp [runesN, he]
theorem runes_at (s : ByteArray) : (Conv.runesFrom s s.size 0 #[]).toList = runeVals s.data.toList := by
  rw [runesFrom_is s s.size 0 #[]]; rfl
theorem runesN_le : ∀ (n : Nat) (l : List UInt8), (runesN n l).length ≤ n
  | 0, _ => by simp [runesN]
  | n + 1, l => by
    unfold runesN
    split
    · simp
    · have := runesN_le n (l.drop (dec l).2)
      simp; omega
theorem runesN_bd : ∀ (n : Nat) (l : List UInt8) (k : Nat), 0 ≤ (runesN n l).getD k 0 ∧ (runesN n l).getD k 0 ≤ 1114111
  | 0, _, k => by simp [runesN]
  | n + 1, l, k => by
    unfold runesN
    split
    · simp
    · cases k with
      | zero =>
        have := Utf.dec_small l
        simp only [List.getD_cons_zero]
        omega
      | succ k => exact runesN_bd n _ k
/-- All runes from k on are marks. -/
def allM (l : List Int) (k : Nat) : Bool := (l.drop k).all fun r => decide (wid r = 0)
theorem allM_step {l : List Int} {k : Nat} (h : k < l.length) : allM l k = (decide (wid (l.getD k 0) = 0) && allM l (k + 1)) := by
  unfold allM
  rw [List.drop_eq_getElem_cons h, List.all_cons]
  simp [List.getD, h]
theorem combOk_runes (l : List UInt8) : combOk l = (Lib.validD l && (allM (runesN l.length l) 0 && decide ((runesN l.length l).length ≤ 2))) := by
  have hm := marks_runes l.length l (Nat.le_refl _)
  unfold combOk allM
  rw [List.drop_zero]
  cases ha : (runesN l.length l).all fun r => decide (wid r = 0) with
  | true =>
    rw [ha, if_pos rfl] at hm
    rw [hm, marks_valid l.length l _ (Nat.le_refl _) hm]
    simp
  | false =>
    rw [ha, if_neg (by decide)] at hm
    rw [hm]
    simp

/-- The box that a function lays its cell into, behind calls that only made blocks. -/
theorem cbox_kept {w w1 : World} {c : Cl} {arr : Array Value} (ha : arr = (cvals c).toArray) (hb : Below (w.alloc (.cells arr 91)).heap.size (w.alloc (.cells arr 91)) w1) :
    w1.heap[w.heap.size]? = some (.cells (cvals c).toArray 91 (0, 0)) ∧ Below w.heap.size w w1 := by
  subst ha
  exact ⟨Blk.kept (heap_alloc_new _ _) hb, ((Below.refl _ _).alloc (Nat.le_refl _) _).trans (hb.mono (by simp))⟩
theorem cbox_cells {w : World} {b : Nat} {r x f1 f2 f3 : Int} {m : List UInt8} (h : w.heap[b]? = some (.cells (cvals ⟨r, m, x, ⟨f1, f2, f3⟩⟩).toArray 91 (0, 0))) :
    w.cell? ⟨b, 0, none⟩ = some (.int .i64 r) ∧ w.cell? ⟨b, 1, none⟩ = some (.string ⟨m.toArray⟩) ∧ w.cell? ⟨b, 2, none⟩ = some (.int .i64 x) ∧ w.cell? ⟨b, 3, none⟩ = some (.int .i64 f1) ∧ w.cell? ⟨b, 4, none⟩ = some (.int .i64 f2) ∧ w.cell? ⟨b, 5, none⟩ = some (.int .i64 f3) :=
  ⟨Blk.cell h 0, Blk.cell h 1, Blk.cell h 2, Blk.cell h 3, Blk.cell h 4, Blk.cell h 5⟩
end Row
end Go.Proofs.YtknhkmobnhjhhaaDoor
end
