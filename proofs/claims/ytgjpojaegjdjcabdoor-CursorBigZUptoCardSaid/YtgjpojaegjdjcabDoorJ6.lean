/- Joined texts: RowTabs, RowValid, RowRef. -/
import Derived.Test.YtgjpojaegjdjcabDoorJ1
import Derived.Test.YtgjpojaegjdjcabDoorJ2
import Derived.Test.YtgjpojaegjdjcabDoorJ4
import Derived.Shelf.Unicode.ValidAny
import Derived.Lib.LaidU8T
import Derived.MakeChecks
import Derived.LaidLaws
import Derived.Laws.IdiomStrings
section
/- What the rows' listed tables give a walk: the library's two tables lie in their blocks; a world that holds them, for the witness. -/
namespace Go.Proofs.YtgjpojaegjdjcabDoor
open Go.ChangeShapes Go.WideShapes Go.RowKit
namespace Row

def accZ : List (Int × Int) := [(128, 191), (160, 191), (128, 159), (144, 191), (128, 143), (0, 0), (0, 0), (0, 0), (0, 0), (0, 0), (0, 0), (0, 0), (0, 0), (0, 0), (0, 0), (0, 0)]
def pairs {H : Type} (l : List (Int × Int)) : DataW H := .agg (l.map fun x => .agg [.lit (.int .u8 x.1), .lit (.int .u8 x.2)])
theorem acc_data : (Rows.laid_unicode_utf8_acceptRanges : DataW Unit) = pairs accZ := rfl
def firstZ : List Int := Go.Pinned.utf8FirstZ.map fun (n : Nat) => (n : Int)
theorem first_data : Rows.laid_unicode_utf8_first = Lib.tabData .u8 firstZ := by
  unfold Rows.laid_unicode_utf8_first Go.Pinned.utf8First Go.Pinned.numbers Lib.tabData firstZ
  rw [List.map_map]; rfl
theorem firstZ_get : ∀ i : Fin 256, Go.Pinned.utf8FirstZ[i.val]? = some (Lib.firstT i) := by decide +kernel

section
variable {H : Type} {enc : TypeId × Value → H} {P : Program} {w : World} {base : Nat} {sp : Nat → Bool} {held : Bool} {fuel : Nat}
/-- An array of structs of two bytes, cell for cell. -/
theorem cells_of_pairs {t e f0t f1t : TypeId} {fs : Array Field} {n : Nat} {cs : List Value} {l : List (Int × Int)} {p : List MemPlace} {f0 f1 : Field} (ht : P.underlying t = some (.array n e)) (he : P.underlying e = some (.struct fs)) (hfs : fs = #[f0, f1])
    (h0 : f0.type = f0t ∧ f0.offset = 0) (h1 : f1.type = f1t ∧ f1.offset = 1) (u0 : P.underlying f0t = some (.int .u8)) (u1 : P.underlying f1t = some (.int .u8)) (c0 : P.cellsOf f0t = 1) (c1 : P.cellsOf f1t = 1) (ce : P.cellsOf e = 2)
    (h : DataW.trod enc P w base sp held fuel t cs = some (pairs l, p)) {i : Nat} (hi : i < n) {x : Int × Int} (hx : l[i]? = some x) : cs[i * 2]? = some (.int .u8 x.1) ∧ cs[i * 2 + 1]? = some (.int .u8 x.2) := by
  subst hfs
  obtain ⟨xs, m, _, hx1, hl, hn, hel⟩ := DataW.trod_array ht h
  have hi' := hel i hi
  rw [ce] at hi'
  have hxi : xs[i]? = some (xs[i]'(by omega)) := List.getElem?_eq_getElem (by omega)
  rw [hxi] at hi'
  obtain ⟨y0, y1, k, hy, hlen, g0, g1⟩ := trod_struct2 he hi'
  rw [h0.1, h0.2, c0] at g0
  rw [h1.1, h1.2, c1] at g1
  have hd : (xs[i]'(by omega)).1 = (.agg [.lit (.int .u8 x.1), .lit (.int .u8 x.2)] : DataW H) := by
    have e1 : l.map (fun x => (.agg [.lit (.int .u8 x.1), .lit (.int .u8 x.2)] : DataW H)) = xs.map (·.1) := by
      have := congrArg Prod.fst hx1
      unfold pairs at this
      injection this
    have e2 := congrArg (·[i]?) e1
    simp only [List.getElem?_map, hx, hxi, Option.map_some, Option.some.injEq] at e2
    exact e2.symm
  rw [hy] at hd
  simp only [DataW.agg.injEq, List.cons.injEq, and_true] at hd
  obtain ⟨a, ha, hda, _⟩ := DataW.trod_int u0 g0
  obtain ⟨b, hb, hdb, _⟩ := DataW.trod_int u1 g1
  rw [hda] at hd
  rw [hdb] at hd
  simp only [DataW.lit.injEq, Lit.int.injEq, true_and] at hd
  obtain ⟨rfl, rfl⟩ := hd
  constructor
  · have := congrArg (·[0]?) ha
    simp [List.getElem?_drop] at this
    exact this
  · have := congrArg (·[0]?) hb
    simp [List.getElem?_drop] at this
    exact this
end

theorem Tryd.gFirst : Tryd.prog.globalNamed "unicode/utf8.first" = some 0 := by kernel_rfl
theorem Tryd.gAcc : Tryd.prog.globalNamed "unicode/utf8.acceptRanges" = some 1 := by kernel_rfl
theorem Tryd.tFirst : (Tryd.prog.globals[0]?).map (·.type) = some 96 := by kernel_rfl
theorem Tryd.tAcc : (Tryd.prog.globals[1]?).map (·.type) = some 99 := by kernel_rfl
theorem Tryd.cU8 : Tryd.prog.cellsOf 5 = 1 := by kernel_rfl
theorem Tryd.cPair : Tryd.prog.cellsOf 98 = 2 := by kernel_rfl
theorem Tryd.cFirst : Tryd.prog.cellsOf 96 = 256 := by kernel_rfl
/-- The two listed variables, in the rows' order. -/
def laid2 : List (String × DataW Unit) := [("unicode/utf8.acceptRanges", Rows.laid_unicode_utf8_acceptRanges), ("unicode/utf8.first", Rows.laid_unicode_utf8_first)]
theorem acc_get : ∀ i : Fin 16, accZ[i.val]? = some (((Lib.accLo i : Nat) : Int), ((Lib.accHi i : Nat) : Int)) := by decide +kernel
/-- The library's two tables lie in their blocks. -/
def Tabs (w : World) : Prop := Lib.Utf8Tabs 0 1 w
theorem Tabs.kept {w w' : World} (h : Tabs w) (hb : Below w.heap.size w w') : Tabs w' :=
  ⟨fun i hi => cell_kept hb (h.1 i hi), fun i hi => ⟨cell_kept hb (h.2 i hi).1, cell_kept hb (h.2 i hi).2⟩⟩
theorem tabs_of_laid {W : World} (h : laidMetH Tryd.prog laid2 W) : Tabs W := by
  rw [MakeChecks.laidMetH_plain _ _ _ (by kernel_rfl)] at h
  obtain ⟨ps, ⟨g0, t0, cs0, f0, p0, q0, hg0, ht0, hv0, hd0, ⟨g1, t1, cs1, f1, p1, q1, hg1, ht1, hv1, hd1, _, _⟩, _⟩, _, _⟩ := h
  obtain rfl := Option.some.inj (Tryd.gAcc.symm.trans hg0)
  obtain rfl := Option.some.inj (Tryd.gFirst.symm.trans hg1)
  obtain rfl := Option.some.inj (Tryd.tAcc.symm.trans ht0)
  obtain rfl := Option.some.inj (Tryd.tFirst.symm.trans ht1)
  rw [first_data] at hd1
  rw [acc_data] at hd0
  have h1 := Lib.cells_of_tab Tryd.underlying96 Tryd.underlying5 Tryd.cU8 Tryd.cFirst hd1
  have c1 : ∀ i, i < 256 → W.cell? ⟨0, i, none⟩ = some (.int .u8 (Lib.firstT i : Nat)) := fun i hi => by
    rw [World.var?_cell hg1 hv1 i, ← Array.getElem?_toList, h1, List.getElem?_map]
    unfold firstZ
    rw [List.getElem?_map, firstZ_get ⟨i, hi⟩]
    rfl
  have c2 : ∀ i, i < 16 → W.cell? ⟨1, 2 * i, none⟩ = some (.int .u8 (Lib.accLo i : Nat)) ∧ W.cell? ⟨1, 2 * i + 1, none⟩ = some (.int .u8 (Lib.accHi i : Nat)) := fun i hi => by
    have := cells_of_pairs Tryd.underlying99 Tryd.underlying98 rfl ⟨rfl, rfl⟩ ⟨rfl, rfl⟩ Tryd.underlying5 Tryd.underlying5 Tryd.cU8 Tryd.cU8 Tryd.cPair hd0 (i := i) (by omega) (acc_get ⟨i, hi⟩)
    rw [Nat.mul_comm 2 i, World.var?_cell hg0 hv0 (i * 2), World.var?_cell hg0 hv0 (i * 2 + 1), ← Array.getElem?_toList, ← Array.getElem?_toList]
    exact this
  exact ⟨c1, c2⟩

/-- A world that holds the two tables: the settled one, the two blocks laid. -/
noncomputable def laidWorld (os : Os) : World :=
  let w0 := World.holding Tryd.prog os ⟨#[], #[], []⟩
  { w0 with heap := (w0.heap.modify 0 fun
      | .cells _ t frozen => .cells (firstZ.map (Value.int .u8)).toArray t frozen
      | o => o).modify 1 fun
      | .cells _ t frozen => .cells (accZ.flatMap fun x => [Value.int .u8 x.1, Value.int .u8 x.2]).toArray t frozen
      | o => o }
theorem laid_met (os : Os) (args : Array Value) : laidMet Tryd.prog laid2 ((laidWorld os).forCall (fun _ _ => 0) ⟨#[], args, []⟩).memory :=
  laidMet_of_run' 8 (by kernel_rfl) (by kernel_rfl)
end Row
end Go.Proofs.YtgjpojaegjdjcabDoor
end
section
/- The library's ValidString, laid at this program; a cell's marks as the page reads them. -/
namespace Go.Proofs.YtgjpojaegjdjcabDoor
set_option maxRecDepth 100000
open Go.RowKit
namespace Row

def layV : Go.Shelf.Ren := ⟨fun | 196 => 50 | 259 => 65 | n => n,
  fun | 0 => 0 | 3 => 3 | 4 => 4 | 5 => 5 | 9 => 9 | 12 => 12 | 46 => 64 | 53 => 109 | 119 => 96 | 138 => 98 | 139 => 99 | n => n,
  fun | 3 => 0 | 4 => 1 | n => n⟩
theorem laidV : Lays.n196 Tryd.prog layV := {
  mixed := by kernel_rfl
  f196 := Tryd.func50.trans (congrArg some (by kernel_rfl))
  f259 := Tryd.func65.trans (congrArg some (by kernel_rfl))
  t0 := Tryd.underlying0
  a0 := Tryd.isAgg0
  z0 := Tryd.sizeOf0
  v0 := Tryd.zeroValue0
  t3 := Tryd.underlying3
  a3 := Tryd.isAgg3
  z3 := Tryd.sizeOf3
  v3 := Tryd.zeroValue3
  t4 := Tryd.underlying4
  a4 := Tryd.isAgg4
  z4 := Tryd.sizeOf4
  v4 := Tryd.zeroValue4
  t5 := Tryd.underlying5
  a5 := Tryd.isAgg5
  z5 := Tryd.sizeOf5
  v5 := Tryd.zeroValue5
  t9 := Tryd.underlying9
  a9 := Tryd.isAgg9
  z9 := Tryd.sizeOf9
  v9 := Tryd.zeroValue9
  t12 := Tryd.underlying12
  a12 := Tryd.isAgg12
  z12 := Tryd.sizeOf12
  v12 := Tryd.zeroValue12
  t46 := Tryd.underlying64
  a46 := Tryd.isAgg64
  z46 := Tryd.sizeOf64
  v46 := Tryd.zeroValue64
  t53 := Tryd.underlying109
  a53 := Tryd.isAgg109
  z53 := Tryd.sizeOf109
  v53 := Tryd.zeroValue109
  t119 := Tryd.underlying96
  a119 := Tryd.isAgg96
  z119 := Tryd.sizeOf96
  t138 := Tryd.underlying98
  a138 := Tryd.isAgg98
  z138 := Tryd.sizeOf98
  v138 := Tryd.zeroValue98
  t139 := Tryd.underlying99
  a139 := Tryd.isAgg99
  z139 := Tryd.sizeOf99
  v139 := Tryd.zeroValue99
  g3 := by kernel_rfl
  g4 := by kernel_rfl }
theorem valid_any (s : ByteArray) (w : World) (hs : s.size ≤ 1000000000) (hT : Tabs w) :
    Calls Tryd.prog 50 #[.string s] w fun e w' => e = .returned (.bool (Lib.validD s.data.toList)) ∧ Below w.heap.size w w' :=
  Any.utf8_ValidString laidV s w (by omega) hT
end Row
end Go.Proofs.YtgjpojaegjdjcabDoor
end
section
/- The page's rows: which cell, which row may be; a blank row; cut. -/
namespace Go.Proofs.YtgjpojaegjdjcabDoor
set_option maxRecDepth 100000
open Go.RowKit
namespace Row
open Utf Wid

/-- The runes that the machine's own conversion makes. -/
def runeVals (l : List UInt8) : List Value := (runesN l.length l).map (Value.int .i32)
theorem runesFrom_is (s : ByteArray) : ∀ (n pos : Nat) (acc : Array Value), (Conv.runesFrom s n pos acc).toList = acc.toList ++ (runesN n (s.data.toList.drop pos)).map (Value.int .i32)
  | 0, pos, acc => by simp [Conv.runesFrom, runesN]
  | n + 1, pos, acc => by
    unfold Conv.runesFrom
    by_cases hp : pos < s.size
    · rw [if_pos hp]
      have hne := Utf.drop_ne hp
      simp only [runesN, if_neg hne, Utf.dec_at, List.drop_drop]
      rw [runesFrom_is s n _ _, Array.toList_push, List.append_assoc]
      rfl
    · rw [if_neg hp]
      have he : s.data.toList.drop pos = [] := List.drop_eq_nil_of_le (by show s.size ≤ pos; omega)
      simp [runesN, he]
theorem runes_at (s : ByteArray) : (Conv.runesFrom s s.size 0 #[]).toList = runeVals s.data.toList := by
  rw [runesFrom_is s s.size 0 #[]]; rfl
theorem runesN_le : ∀ (n : Nat) (l : List UInt8), (runesN n l).length ≤ n
  | 0, _ => by simp [runesN]
  | n + 1, l => by
    unfold runesN
    split
    · simp
    · have := runesN_le n (l.drop (dec l).2)
      simp; omega
theorem runesN_bd : ∀ (n : Nat) (l : List UInt8) (k : Nat), 0 ≤ (runesN n l).getD k 0 ∧ (runesN n l).getD k 0 ≤ 1114111
  | 0, _, k => by simp [runesN]
  | n + 1, l, k => by
    unfold runesN
    split
    · simp
    · cases k with
      | zero =>
        have := Utf.dec_small l
        simp only [List.getD_cons_zero]
        omega
      | succ k => exact runesN_bd n _ k
/-- '[]rune(s)': a slice that reads as the runes. -/
theorem run_runes (s : ByteArray) (w : World) (hs : s.size ≤ 1000000000) :
    ∃ c w', (convert 9 108 (.string s)).run Tryd.prog w = .ok (.slice (some ⟨w.heap.size, 0, none⟩) (runesN s.size s.data.toList).length c) w' ∧
      (∀ k, k < (runesN s.size s.data.toList).length → w'.cell? ⟨w.heap.size, k, none⟩ = some (.int .i32 ((runesN s.size s.data.toList).getD k 0))) ∧ Below w.heap.size w w' := by
  have hsz : (Conv.runesFrom s s.size 0 #[]).size = (runesN s.size s.data.toList).length := by
    rw [← Array.length_toList, runes_at]; simp [runeVals]
  have hle : (Conv.runesFrom s s.size 0 #[]).size ≤ 70368744177664 := by rw [hsz]; have := runesN_le s.size s.data.toList; omega
  have hr := run_runes_of_string (P := Tryd.prog) w 9 108 21 s Tryd.underlying9 Tryd.underlying108 Tryd.underlying21 hle
  rw [hsz] at hr
  refine ⟨_, _, hr, fun k hk => ?_, (Below.refl _ _).drew.alloc (Nat.le_refl _) _⟩
  have hb := heap_alloc_new w.drew (.cells (Conv.runesFrom s s.size 0 #[] ++ Array.replicate (grownCap w (runesN s.size s.data.toList).length 0 21 - (runesN s.size s.data.toList).length) (.int .i32 0)) 21)
  have hc := Blk.cell hb k
  have hd : (w.drew).heap.size = w.heap.size := rfl
  rw [hd] at hc
  rw [hc, Array.getElem?_append_left (by rw [hsz]; exact hk), ← Array.getElem?_toList, runes_at]
  show ((runesN s.size s.data.toList).map (Value.int .i32))[k]? = _
  rw [List.getElem?_map]
  simp [List.getD, hk]

/-- All runes from k on are marks. -/
def allM (l : List Int) (k : Nat) : Bool := (l.drop k).all fun r => decide (wid r = 0)
theorem allM_step {l : List Int} {k : Nat} (h : k < l.length) : allM l k = (decide (wid (l.getD k 0) = 0) && allM l (k + 1)) := by
  unfold allM
  rw [List.drop_eq_getElem_cons h, List.all_cons]
  simp [List.getD, h]
theorem combOk_runes (l : List UInt8) : combOk l = (Lib.validD l && (allM (runesN l.length l) 0 && decide ((runesN l.length l).length ≤ 2))) := by
  have hm := marks_runes l.length l (Nat.le_refl _)
  unfold combOk allM
  rw [List.drop_zero]
  cases ha : (runesN l.length l).all fun r => decide (wid r = 0) with
  | true =>
    rw [ha, if_pos rfl] at hm
    rw [hm, marks_valid l.length l _ (Nat.le_refl _) hm]
    simp
  | false =>
    rw [ha, if_neg (by decide)] at hm
    rw [hm]
    simp

/-- The box that a function lays its cell into, behind calls that only made blocks. -/
theorem cbox_kept {w w1 : World} {c : Cl} {arr : Array Value} (ha : arr = (cvals c).toArray) (hb : Below (w.alloc (.cells arr 81)).heap.size (w.alloc (.cells arr 81)) w1) :
    w1.heap[w.heap.size]? = some (.cells (cvals c).toArray 81 (0, 0)) ∧ Below w.heap.size w w1 := by
  subst ha
  exact ⟨Blk.kept (heap_alloc_new _ _) hb, ((Below.refl _ _).alloc (Nat.le_refl _) _).trans (hb.mono (by simp))⟩
theorem cbox_cells {w : World} {b : Nat} {r x f1 f2 f3 : Int} {m : List UInt8} (h : w.heap[b]? = some (.cells (cvals ⟨r, m, x, ⟨f1, f2, f3⟩⟩).toArray 81 (0, 0))) :
    w.cell? ⟨b, 0, none⟩ = some (.int .i64 r) ∧ w.cell? ⟨b, 1, none⟩ = some (.string ⟨m.toArray⟩) ∧ w.cell? ⟨b, 2, none⟩ = some (.int .i64 x) ∧ w.cell? ⟨b, 3, none⟩ = some (.int .i64 f1) ∧ w.cell? ⟨b, 4, none⟩ = some (.int .i64 f2) ∧ w.cell? ⟨b, 5, none⟩ = some (.int .i64 f3) :=
  ⟨Blk.cell h 0, Blk.cell h 1, Blk.cell h 2, Blk.cell h 3, Blk.cell h 4, Blk.cell h 5⟩
theorem attr_at (a : Look) (b : Bool) (hb : attrOk a = b) (w : World) : Calls Tryd.prog 48 #[.agg #[.int .i64 a.fg, .int .i64 a.bg, .int .i64 a.flags]] w fun e w' => e = .returned (.bool b) ∧ Below w.heap.size w w' := by
  subst hb; exact attr_any a w
theorem width_at (r q : Int) (hq : wid r = q) (w : World) : Calls Tryd.prog 29 #[.int .i64 r] w fun e w' => e = .returned (.int .i64 q) ∧ Below w.heap.size w w' := by
  subst hq; exact width_any r w

set_option maxHeartbeats 1600000 in
theorem refCell_bada (c : Cl) (w : World) (h : attrOk c.a = false) :
    Calls Tryd.prog 63 #[cagg c] w fun e w' => e = .returned (.bool false) ∧ Below w.heap.size w w' := by
  have HA := Lib.hid (fun w' => attr_at c.a false h w')
  obtain ⟨r, m, x, ⟨f1, f2, f3⟩⟩ := c
  clear h
  unfold cagg
  go_enter Tryd.func63, Tryd.ntmps63
  go_wp2_with fail
  refine (HA.out _).mono ?_; rintro e w1 ⟨rfl, hb1⟩
  obtain ⟨hk1, hbw⟩ := cbox_kept (c := ⟨r, m, x, ⟨f1, f2, f3⟩⟩) rfl hb1
  have HB1 := Lib.hid hbw
  clear hb1 hk1 hbw
  go_wp2_with fail
  go_ret
  exact ⟨rfl, HB1.out⟩
set_option maxHeartbeats 1600000 in
theorem refCell_badv (c : Cl) (w : World) (h : attrOk c.a = true) (hv : Lib.validD c.comb = false) (hs : c.comb.length ≤ 1000000000) (hT : Tabs w) :
    Calls Tryd.prog 63 #[cagg c] w fun e w' => e = .returned (.bool false) ∧ Below w.heap.size w w' := by
  have HA := Lib.hid (fun w' => attr_at c.a true h w')
  have HV := Lib.hid (fun w' (k : Tabs w') => valid_any ⟨c.comb.toArray⟩ w' hs k)
  obtain ⟨r, m, x, ⟨f1, f2, f3⟩⟩ := c
  have HV2 : Hid (Lib.validD (⟨m.toArray⟩ : ByteArray).data.toList = false) := Lib.hid hv
  rw [HV2.out] at HV
  clear h hv hs
  unfold cagg
  go_enter Tryd.func63, Tryd.ntmps63
  go_wp2_with fail
  refine (HA.out _).mono ?_; rintro e w1 ⟨rfl, hb1⟩
  obtain ⟨hk1, hbw⟩ := cbox_kept (c := ⟨r, m, x, ⟨f1, f2, f3⟩⟩) rfl hb1
  have HB1 := Lib.hid hbw
  have HT1 := Lib.hid (hT.kept hbw)
  obtain ⟨k0, k1, k2, k3, k4, k5⟩ := cbox_cells hk1
  clear hb1 hk1 hbw
  go_wp2_with fail
  refine (HV.out _ HT1.out).mono ?_; rintro e w2 ⟨rfl, hb2⟩
  have HB2 : Hid (Below w.heap.size w w2) := Lib.hid (HB1.out.trans (hb2.mono HB1.out.size))
  clear hb2
  go_wp2_with fail
  go_ret
  exact ⟨rfl, HB2.out⟩
set_option maxHeartbeats 3200000 in
theorem refCell_fine (c : Cl) (b : Bool) (w : World) (h : attrOk c.a = true) (hv : Lib.validD c.comb = true) (hs : c.comb.length ≤ 1000000000) (hT : Tabs w) (hb : b = true ↔ kind c ≠ 0) :
    Calls Tryd.prog 63 #[cagg c] w fun e w' => e = .returned (.bool b) ∧ Below w.heap.size w w' := by
  have HA := Lib.hid (fun w' => attr_at c.a true h w')
  have HV := Lib.hid (fun w' (k : Tabs w') => valid_any ⟨c.comb.toArray⟩ w' hs k)
  have HRN := Lib.hid (fun w' => run_runes ⟨c.comb.toArray⟩ w' hs)
  have hcr := combOk_runes c.comb
  rw [hv, Bool.true_and] at hcr
  have HWD := Lib.hid (fun q hq w' => width_at c.rune q hq w')
  have HKB : Hid (combOk c.comb = false → b = false) := Lib.hid fun e => by
    cases b
    · rfl
    · exact absurd (kind_bad e) (hb.1 rfl)
  have HKF : Hid (combOk c.comb = true → (b = true ↔ (bif decide (wid c.rune = 1) && decide (c.wide = 0) then 1 else bif decide (wid c.rune = 2) && decide (c.wide = 1) then 2 else bif isSec c then 3 else 0) ≠ 0)) := Lib.hid fun e => by rw [hb, kind_fine e h]
  obtain ⟨r, m, x, ⟨f1, f2, f3⟩⟩ := c
  have HV2 : Hid (Lib.validD (⟨m.toArray⟩ : ByteArray).data.toList = true) := Lib.hid hv
  have HCR : Hid (combOk m = (allM (runesN m.length m) 0 && decide ((runesN m.length m).length ≤ 2))) := Lib.hid hcr
  rw [HV2.out] at HV
  have HRN : Hid (∀ w' : World, ∃ c w'', (convert 9 108 (.string ⟨m.toArray⟩)).run Tryd.prog w' = .ok (.slice (some ⟨w'.heap.size, 0, none⟩) (runesN m.length m).length c) w'' ∧
      (∀ k, k < (runesN m.length m).length → w''.cell? ⟨w'.heap.size, k, none⟩ = some (.int .i32 ((runesN m.length m).getD k 0))) ∧ Below w'.heap.size w' w'') := HRN
  have hle := runesN_le m.length m
  have HBD := Lib.hid (runesN_bd m.length m)
  have hsm : m.length ≤ 1000000000 := hs
  generalize runesN m.length m = rs at HCR HRN hle HBD
  clear h hv hs hcr hb
  unfold cagg
  go_enter Tryd.func63, Tryd.ntmps63
  go_wp2_with fail
  refine (HA.out _).mono ?_; rintro e w1 ⟨rfl, hb1⟩
  obtain ⟨hk1, hbw⟩ := cbox_kept (c := ⟨r, m, x, ⟨f1, f2, f3⟩⟩) rfl hb1
  have HB1 := Lib.hid hbw
  have HT1 := Lib.hid (hT.kept hbw)
  have HK1 := Lib.hid hk1
  obtain ⟨k0, k1, k2, k3, k4, k5⟩ := cbox_cells hk1
  clear hb1 hk1 hbw
  go_wp2_with fail
  refine (HV.out _ HT1.out).mono ?_; rintro e w2 ⟨rfl, hb2⟩
  have HB2 : Hid (Below w.heap.size w w2) := Lib.hid (HB1.out.trans (hb2.mono HB1.out.size))
  have HK2 := Lib.hid (Blk.kept HK1.out hb2)
  clear hb2 k0 k1 k2 k3 k4 k5
  obtain ⟨k0, k1, k2, k3, k4, k5⟩ := cbox_cells HK2.out
  obtain ⟨cp, w3, hrun, hcells, hb3⟩ := HRN.out w2
  have HB3 : Hid (Below w.heap.size w w3) := Lib.hid (HB2.out.trans (hb3.mono HB2.out.size))
  have HK3 := Lib.hid (Blk.kept HK2.out hb3)
  have HCE := Lib.hid hcells
  clear hcells hb3
  go_wp2_with fail
  go_loopw [4] (fun i wr => ∃ k : Nat, k ≤ rs.length ∧ i = .int .i64 k ∧ Hid (allM rs 0 = allM rs k) ∧ Below w3.heap.size w3 wr) (fun i _ => rs.length - (intOf i).toNat)
  case atStart => exact ⟨0, by omega, rfl, Lib.hid rfl, Below.refl _ _⟩
  case round =>
    obtain ⟨k, hk, rfl, HM, hbl⟩ := hrel
    have HBL := Lib.hid hbl
    have HBW : Hid (Below w.heap.size w wr) := Lib.hid (HB3.out.trans (hbl.mono HB3.out.size))
    clear k0 k1 k2 k3 k4 k5
    by_cases hlt : k < rs.length
    · have c1 := cell_kept hbl (HCE.out k hlt)
      have hpb := HBD.out k
      by_cases hw : wid (rs.getD k 0) = 0
      · have HM2 : Hid (allM rs 0 = allM rs (k + 1)) := Lib.hid (by rw [HM.out, allM_step hlt, decide_eq_true hw, Bool.true_and])
        have HW := Lib.hid (fun w' => width_at _ 0 hw w')
        clear hw hbl
        generalize rs.getD k 0 = p at c1 hpb HW
        go_wp2_with fail
        refine (HW.out _).mono ?_; rintro e w4 ⟨rfl, hb4⟩
        have HB4 : Hid (Below w3.heap.size w3 w4) := Lib.hid (HBL.out.trans (hb4.mono HBL.out.size))
        clear hb4
        go_wp2_with fail
        go_roundw
        case rel => exact ⟨k + 1, by omega, by go_num, HM2, HB4.out⟩
        case measure => simp [intOf]; omega
      · have hbf : b = false := HKB.out (by rw [HCR.out, HM.out, allM_step hlt, decide_eq_false hw, Bool.false_and, Bool.false_and])
        subst hbf
        have HW := Lib.hid (fun w' => width_at (rs.getD k 0) _ rfl w')
        have hb1 : (wid (rs.getD k 0) != 0) = true := by rw [bne_iff_ne]; exact hw
        clear hw hbl
        generalize rs.getD k 0 = p at c1 hpb HW hb1
        generalize wid p = q at HW hb1
        go_wp2_with fail
        refine (HW.out _).mono ?_; rintro e w4 ⟨rfl, hb4⟩
        have HB4 : Hid (Below w.heap.size w w4) := Lib.hid (HBW.out.trans (hb4.mono HBW.out.size))
        clear hb4
        go_wp2_with fail
        go_ret
        exact ⟨rfl, HB4.out⟩
    · have hkn : k = rs.length := by omega
      subst hkn
      have hall : allM rs rs.length = true := by unfold allM; rw [List.drop_length]; rfl
      have HCM : Hid (combOk m = decide (rs.length ≤ 2)) := Lib.hid (by rw [HCR.out, HM.out, hall, Bool.true_and])
      obtain ⟨k0, k1, k2, k3, k4, k5⟩ := cbox_cells (Blk.kept HK3.out hbl)
      clear hall hbl
      by_cases h2 : rs.length ≤ 2
      · have HKK := Lib.hid (HKF.out (by rw [HCM.out]; exact decide_eq_true h2))
        have hd2 : decide (2 < rs.length) = false := decide_eq_false (by omega)
        by_cases hx0 : x = 0
        · subst hx0
          have hbq : (wid r == 1) = b := by
            have := HKK.out
            cases b
            · rw [beq_eq_false_iff_ne]
              intro e
              have h1 := this.2
              simp [e] at h1
            · rw [beq_iff_eq]
              have h1 := this.1 rfl
              simp [isSec] at h1
              by_cases e : wid r = 1
              · exact e
              · simp [e] at h1
          have HW := Lib.hid (fun w' => HWD.out _ rfl w')
          generalize wid r = q at HW hbq
          go_wp2_with fail
          refine (HW.out _).mono ?_; rintro e w4 ⟨rfl, hb4⟩
          have HB4 : Hid (Below w.heap.size w w4) := Lib.hid (HBW.out.trans (hb4.mono HBW.out.size))
          clear hb4
          go_wp2_with fail
          go_ret
          exact ⟨rfl, HB4.out⟩
        · have hxb0 : (x == 0) = false := by rw [beq_eq_false_iff_ne]; exact hx0
          by_cases hx1 : x = 1
          · subst hx1
            have hbq : (wid r == 2) = b := by
              have := HKK.out
              cases b
              · rw [beq_eq_false_iff_ne]
                intro e
                have h1 := this.2
                simp [e] at h1
              · rw [beq_iff_eq]
                have h1 := this.1 rfl
                simp [isSec] at h1
                by_cases e : wid r = 2
                · exact e
                · simp [e] at h1
            have HW := Lib.hid (fun w' => HWD.out _ rfl w')
            generalize wid r = q at HW hbq
            go_wp2_with fail
            refine (HW.out _).mono ?_; rintro e w4 ⟨rfl, hb4⟩
            have HB4 : Hid (Below w.heap.size w w4) := Lib.hid (HBW.out.trans (hb4.mono HBW.out.size))
            clear hb4
            go_wp2_with fail
            go_ret
            exact ⟨rfl, HB4.out⟩
          · have hxb1 : (x == 1) = false := by rw [beq_eq_false_iff_ne]; exact hx1
            have HBS : Hid (b = (decide (x = 2) && (decide (r = 0) && decide (m = [])))) := Lib.hid (by
              have := HKK.out
              simp only [decide_eq_false hx0, decide_eq_false hx1, Bool.and_false, cond_false] at this
              have hs : isSec ⟨r, m, x, ⟨f1, f2, f3⟩⟩ = (decide (r = 0) && (decide (m = []) && decide (x = 2))) := rfl
              rw [hs] at this
              by_cases e1 : r = 0
              · by_cases e2 : m = []
                · by_cases e3 : x = 2
                  · simp [e1, e2, e3] at this ⊢; exact this
                  · simp [e1, e2, e3] at this ⊢; exact this
                · simp [e1, e2] at this ⊢; exact this
              · simp [e1] at this ⊢; exact this)
            clear hx0 hx1
            by_cases e3 : x = 2
            · subst e3
              by_cases e1 : r = 0
              · subst e1
                by_cases e2 : m = []
                · subst e2
                  go_wp2_with fail
                  go_ret
                  exact ⟨by rw [HBS.out]; rfl, HBW.out⟩
                · have HBF : Hid (b = false) := Lib.hid (by rw [HBS.out, decide_eq_false e2]; simp)
                  have hme : m.isEmpty = false := by cases m with
                    | nil => exact absurd rfl e2
                    | cons _ _ => rfl
                  clear e2
                  go_wp2_with fail
                  go_ret
                  exact ⟨by rw [HBF.out]; rfl, HBW.out⟩
              · have HBF : Hid (b = false) := Lib.hid (by rw [HBS.out, decide_eq_false e1]; simp)
                have hrb : (r == 0) = false := by rw [beq_eq_false_iff_ne]; exact e1
                clear e1
                go_wp2_with fail
                go_ret
                exact ⟨by rw [HBF.out]; rfl, HBW.out⟩
            · have HBF : Hid (b = false) := Lib.hid (by rw [HBS.out, decide_eq_false e3]; simp)
              have hrb : (x == 2) = false := by rw [beq_eq_false_iff_ne]; exact e3
              clear e3
              go_wp2_with fail
              go_ret
              exact ⟨by rw [HBF.out]; rfl, HBW.out⟩
      · have hbf : b = false := HKB.out (by rw [HCM.out]; exact decide_eq_false h2)
        subst hbf
        have hd2 : decide (2 < rs.length) = true := decide_eq_true (by omega)
        go_wp2_with fail
        go_ret
        exact ⟨rfl, HBW.out⟩
theorem refCell_any (c : Cl) (b : Bool) (w : World) (hs : c.comb.length ≤ 1000000000) (hT : Tabs w) (hb : b = true ↔ kind c ≠ 0) :
    Calls Tryd.prog 63 #[cagg c] w fun e w' => e = .returned (.bool b) ∧ Below w.heap.size w w' := by
  cases h : attrOk c.a with
  | false =>
    have hbf : b = false := by
      cases b
      · rfl
      · exact absurd (kind_bada h) (hb.1 rfl)
    subst hbf
    exact refCell_bada c w h
  | true =>
    cases hv : Lib.validD c.comb with
    | false =>
      have hbf : b = false := by
        cases b
        · rfl
        · exact absurd (kind_bad (by rw [combOk_runes, hv]; rfl)) (hb.1 rfl)
      subst hbf
      exact refCell_badv c w h hv hs hT
    | true => exact refCell_fine c b w h hv hs hT hb
end Row
end Go.Proofs.YtgjpojaegjdjcabDoor
end
