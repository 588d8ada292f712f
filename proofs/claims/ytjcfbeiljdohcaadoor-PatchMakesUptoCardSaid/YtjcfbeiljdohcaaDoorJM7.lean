/- Joined texts: GrdEq, RowMarks, Law, RowTabs, RowValid, RowDev. -/
import Derived.Test.YtjcfbeiljdohcaaDoorJM6
import Derived.Lib.ValidLaws
import Derived.ProofKit
import Derived.OpenShut
import Derived.Deep.DeepHandedRow
import Derived.Lib.LaidTab
import Derived.WideKeyArgs
import Derived.ChangeSame
import Derived.SliceStrings
import Derived.Shelf.Unicode.ValidAny
import Derived.Lib.LaidU8T
import Derived.MakeChecks
import Derived.LaidLaws
import Derived.Laws.IdiomStrings
import Derived.Lib.QuietBelow
namespace Go.Proofs.YtjcfbeiljdohcaaDoor
set_option maxRecDepth 100000
section
open Go.RowKit
namespace Row
theorem eqGrid_same (R C : Int) (l : List Cl) (x y : Value) (w : World) (hx : Cs w x l) (hy : Cs w y l) (hn : l.length ≤ 100000000) :
    Calls Tryd.prog 23 #[.agg #[.int .i64 R, .int .i64 C, x], .agg #[.int .i64 R, .int .i64 C, y]] w fun e w' => e = .returned (.bool true) ∧ Below w.heap.size w w' := by
  have hW := ((Below.refl w.heap.size w).alloc (Nat.le_refl _) (gbox R C x)).alloc (by simp) (gbox R C y)
  have HC : Hid (Calls Tryd.prog 38 #[x, y] ((w.alloc (gbox R C x)).alloc (gbox R C y)) fun e w' => e = .returned (.bool true) ∧ Below w.heap.size w w') :=
    Lib.hid ((eqCells_same l x y _ (hx.kept hW) (hy.kept hW) hn).mono fun e w' ⟨h1, q, h2⟩ => ⟨h1, by subst h2; exact below_drewN hW q⟩)
  obtain ⟨A, c, rfl, _⟩ := hx.form
  obtain ⟨A', c', rfl, _⟩ := hy.form
  clear hx hy hW
  go_enter Tryd.func23, Tryd.ntmps23
  go_wp2_with fail
  refine HC.out.mono ?_; rintro e w1 ⟨rfl, hb⟩
  have HB := Lib.hid hb
  clear hb
  go_wp2_with fail
  go_ret
  exact ⟨rfl, HB.out⟩
end Row
end
section
namespace Row
open Wid Utf
theorem dec_L (l : List UInt8) : Lib.decodeL l = dec l := by rw [Lib.decodeL_N]; rfl
theorem marks_valid : ∀ (k : Nat) (l : List UInt8) (n : Nat), l.length ≤ k → marks l = some n → Lib.validD l = true
  | 0, l, n, h, _ => by
    have : l = [] := List.eq_nil_of_length_eq_zero (by omega)
    subst this; rfl
  | k + 1, l, n, h, hm => by
    by_cases hl : l = []
    · subst hl; rfl
    · rw [marks_step hl] at hm
      have h1 := dec_pos hl
      by_cases hw : wid (dec l).1 = 0
      · rw [if_pos hw] at hm
        obtain ⟨m, hm', _⟩ := Option.map_eq_some_iff.1 hm
        have := marks_valid k (l.drop (dec l).2) m (by rw [List.length_drop]; omega) hm'
        rw [Lib.validD_step l hl, dec_L, if_neg, this]
        rintro ⟨e, _⟩
        rw [e] at hw
        exact absurd hw (by decide)
      · rw [if_neg hw] at hm; cases hm
end Row
end
section
open Go.ChangeShapes Go.WideShapes Go.RowKit
theorem Tryd.own : ownKnob Tryd.prog.godebug = none := by kernel_rfl
theorem Tryd.laidOut : laidOutB Tryd.prog = true := by kernel_rfl
section
variable {H : Type} {enc : TypeId × Value → H} {P : Program}
theorem law_post {f : Func} {s : ChangeSpec} {fresh handsOn : Bool} {W W' : World} {v0 : Value} {d0 : DataW H} {before : List MemPlace} {t tb : TypeId}
    (hl : laidOutB P = true) (hr : P.readableRec t = true) (hrow : t < P.types.size) (hp : f.params = #[t]) (hres : f.resultTypes = #[tb]) (htb : P.underlying tb = some .bool) (hv : s.vars = [])
    (hfn : (s.fn H [d0]).results = [.lit (.bool true)] ∧ (s.fn H [d0]).args = [d0] ∧ (s.fn H [d0]).vars = [])
    (hW : DataW.Whole enc P f.params.toList s.vars false W [v0] [d0] [] before) (h0 : DataW.Trod enc P W 0 (fun _ => true) true t v0 d0 before) (hB : Below W.heap.size W W') :
    s.post enc P f false fresh handsOn false W #[v0] (.bool true) W' := by
  have hlt : ∀ p ∈ before, p.block < W.heap.size := fun p hp => hW.lt p hp
  refine ⟨[d0], [], before, [], before, [], hW, ?_, ?_, ?_, hB.frame _, fun h => by cases h⟩
  · rw [hres, List.append_nil, hfn.1]
    exact trodAll_mk1 (shut_bool htb true)
  · rw [hp, List.append_nil, hfn.2.1]
    exact trodAll_mk1 (WideElems.Trod_stays hl hr hrow h0 (fun p hp => hB.same (hlt p hp)) (fun p hp => decide_eq_true (hlt p hp)))
  · rw [hv, List.append_nil, hfn.2.2]
    rfl
end
end
section
open Go.ChangeShapes Go.WideShapes Go.RowKit
namespace Row
def accZ : List (Int × Int) := [(128, 191), (160, 191), (128, 159), (144, 191), (128, 143), (0, 0), (0, 0), (0, 0), (0, 0), (0, 0), (0, 0), (0, 0), (0, 0), (0, 0), (0, 0), (0, 0)]
def pairs {H : Type} (l : List (Int × Int)) : DataW H := .agg (l.map fun x => .agg [.lit (.int .u8 x.1), .lit (.int .u8 x.2)])
theorem acc_data : (Rows.laid_unicode_utf8_acceptRanges : DataW Unit) = pairs accZ := rfl
def firstZ : List Int := Go.Pinned.utf8FirstZ.map fun (n : Nat) => (n : Int)
theorem first_data : Rows.laid_unicode_utf8_first = Lib.tabData .u8 firstZ := by
  unfold Rows.laid_unicode_utf8_first Go.Pinned.utf8First Go.Pinned.numbers Lib.tabData firstZ
  rw [List.map_map]; rfl
theorem firstZ_get : ∀ i : Fin 256, Go.Pinned.utf8FirstZ[i.val]? = some (Lib.firstT i) := by decide +kernel
section
variable {H : Type} {enc : TypeId × Value → H} {P : Program} {w : World} {base : Nat} {sp : Nat → Bool} {held : Bool} {fuel : Nat}
theorem cells_of_pairs {t e f0t f1t : TypeId} {fs : Array Field} {n : Nat} {cs : List Value} {l : List (Int × Int)} {p : List MemPlace} {f0 f1 : Field} (ht : P.underlying t = some (.array n e)) (he : P.underlying e = some (.struct fs)) (hfs : fs = #[f0, f1])
    (h0 : f0.type = f0t ∧ f0.offset = 0) (h1 : f1.type = f1t ∧ f1.offset = 1) (u0 : P.underlying f0t = some (.int .u8)) (u1 : P.underlying f1t = some (.int .u8)) (c0 : P.cellsOf f0t = 1) (c1 : P.cellsOf f1t = 1) (ce : P.cellsOf e = 2)
    (h : DataW.trod enc P w base sp held fuel t cs = some (pairs l, p)) {i : Nat} (hi : i < n) {x : Int × Int} (hx : l[i]? = some x) : cs[i * 2]? = some (.int .u8 x.1) ∧ cs[i * 2 + 1]? = some (.int .u8 x.2) := by
  subst hfs
  obtain ⟨xs, m, _, hx1, hl, hn, hel⟩ := DataW.trod_array ht h
  have hi' := hel i hi
  rw [ce] at hi'
  have hxi : xs[i]? = some (xs[i]'(by omega)) := List.getElem?_eq_getElem (by omega)
  rw [hxi] at hi'
  obtain ⟨y0, y1, k, hy, hlen, g0, g1⟩ := trod_struct2 he hi'
  rw [h0.1, h0.2, c0] at g0
  rw [h1.1, h1.2, c1] at g1
  have hd : (xs[i]'(by omega)).1 = (.agg [.lit (.int .u8 x.1), .lit (.int .u8 x.2)] : DataW H) := by
    have e1 : l.map (fun x => (.agg [.lit (.int .u8 x.1), .lit (.int .u8 x.2)] : DataW H)) = xs.map (·.1) := by
      have := congrArg Prod.fst hx1
      unfold pairs at this
      injection this
    have e2 := congrArg (·[i]?) e1
    simp only [List.getElem?_map, hx, hxi, Option.map_some, Option.some.injEq] at e2
    exact e2.symm
  rw [hy] at hd
  simp only [DataW.agg.injEq, List.cons.injEq, and_true] at hd
  obtain ⟨a, ha, hda, _⟩ := DataW.trod_int u0 g0
  obtain ⟨b, hb, hdb, _⟩ := DataW.trod_int u1 g1
  rw [hda] at hd
  rw [hdb] at hd
  simp only [DataW.lit.injEq, Lit.int.injEq, true_and] at hd
  obtain ⟨rfl, rfl⟩ := hd
  constructor
  · have := congrArg (·[0]?) ha
    simp [List.getElem?_drop] at this
    exact this
  · have := congrArg (·[0]?) hb
    simp [List.getElem?_drop] at this
    exact this
end
theorem Tryd.gFirst : Tryd.prog.globalNamed "unicode/utf8.first" = some 0 := by kernel_rfl
theorem Tryd.gAcc : Tryd.prog.globalNamed "unicode/utf8.acceptRanges" = some 1 := by kernel_rfl
theorem Tryd.tFirst : (Tryd.prog.globals[0]?).map (·.type) = some 85 := by kernel_rfl
theorem Tryd.tAcc : (Tryd.prog.globals[1]?).map (·.type) = some 88 := by kernel_rfl
theorem Tryd.cU8 : Tryd.prog.cellsOf 5 = 1 := by kernel_rfl
theorem Tryd.cPair : Tryd.prog.cellsOf 87 = 2 := by kernel_rfl
theorem Tryd.cFirst : Tryd.prog.cellsOf 85 = 256 := by kernel_rfl
def laid2 : List (String × DataW Unit) := [("unicode/utf8.acceptRanges", Rows.laid_unicode_utf8_acceptRanges), ("unicode/utf8.first", Rows.laid_unicode_utf8_first)]
theorem acc_get : ∀ i : Fin 16, accZ[i.val]? = some (((Lib.accLo i : Nat) : Int), ((Lib.accHi i : Nat) : Int)) := by decide +kernel
def Tabs (w : World) : Prop := Lib.Utf8Tabs 0 1 w
theorem Tabs.kept {w w' : World} (h : Tabs w) (hb : Below w.heap.size w w') : Tabs w' :=
  ⟨fun i hi => cell_kept hb (h.1 i hi), fun i hi => ⟨cell_kept hb (h.2 i hi).1, cell_kept hb (h.2 i hi).2⟩⟩
theorem tabs_of_laid {W : World} (h : laidMetH Tryd.prog laid2 W) : Tabs W := by
  rw [MakeChecks.laidMetH_plain _ _ _ (by kernel_rfl)] at h
  obtain ⟨ps, ⟨g0, t0, cs0, f0, p0, q0, hg0, ht0, hv0, hd0, ⟨g1, t1, cs1, f1, p1, q1, hg1, ht1, hv1, hd1, _, _⟩, _⟩, _, _⟩ := h
  obtain rfl := Option.some.inj (Tryd.gAcc.symm.trans hg0)
  obtain rfl := Option.some.inj (Tryd.gFirst.symm.trans hg1)
  obtain rfl := Option.some.inj (Tryd.tAcc.symm.trans ht0)
  obtain rfl := Option.some.inj (Tryd.tFirst.symm.trans ht1)
  rw [first_data] at hd1
  rw [acc_data] at hd0
  have h1 := Lib.cells_of_tab Tryd.underlying85 Tryd.underlying5 Tryd.cU8 Tryd.cFirst hd1
  have c1 : ∀ i, i < 256 → W.cell? ⟨0, i, none⟩ = some (.int .u8 (Lib.firstT i : Nat)) := fun i hi => by
    rw [World.var?_cell hg1 hv1 i, ← Array.getElem?_toList, h1, List.getElem?_map]
    unfold firstZ
    rw [List.getElem?_map, firstZ_get ⟨i, hi⟩]
    rfl
  have c2 : ∀ i, i < 16 → W.cell? ⟨1, 2 * i, none⟩ = some (.int .u8 (Lib.accLo i : Nat)) ∧ W.cell? ⟨1, 2 * i + 1, none⟩ = some (.int .u8 (Lib.accHi i : Nat)) := fun i hi => by
    have := cells_of_pairs Tryd.underlying88 Tryd.underlying87 rfl ⟨rfl, rfl⟩ ⟨rfl, rfl⟩ Tryd.underlying5 Tryd.underlying5 Tryd.cU8 Tryd.cU8 Tryd.cPair hd0 (i := i) (by omega) (acc_get ⟨i, hi⟩)
    rw [Nat.mul_comm 2 i, World.var?_cell hg0 hv0 (i * 2), World.var?_cell hg0 hv0 (i * 2 + 1), ← Array.getElem?_toList, ← Array.getElem?_toList]
    exact this
  exact ⟨c1, c2⟩
noncomputable def laidWorld (os : Os) : World :=
  let w0 := World.holding Tryd.prog os ⟨#[], #[], []⟩
  { w0 with heap := (w0.heap.modify 0 fun
      | .cells _ t frozen => .cells (firstZ.map (Value.int .u8)).toArray t frozen
      | o => o).modify 1 fun
      | .cells _ t frozen => .cells (accZ.flatMap fun x => [Value.int .u8 x.1, Value.int .u8 x.2]).toArray t frozen
      | o => o }
theorem laid_met (os : Os) (args : Array Value) : laidMet Tryd.prog laid2 ((laidWorld os).forCall (fun _ _ => 0) ⟨#[], args, []⟩).memory :=
  laidMet_of_run' 8 (by kernel_rfl) (by kernel_rfl)
end Row
end
section
open Go.RowKit
namespace Row
def layV : Go.Shelf.Ren := ⟨fun | 196 => 30 | 259 => 42 | n => n,
  fun | 0 => 0 | 3 => 3 | 4 => 4 | 5 => 5 | 9 => 9 | 12 => 12 | 46 => 89 | 53 => 107 | 119 => 85 | 138 => 87 | 139 => 88 | n => n,
  fun | 3 => 0 | 4 => 1 | n => n⟩
theorem laidV : Lays.n196 Tryd.prog layV := {
  mixed := by kernel_rfl
  f196 := Tryd.func30.trans (congrArg some (by kernel_rfl))
  f259 := Tryd.func42.trans (congrArg some (by kernel_rfl))
  t0 := Tryd.underlying0
  a0 := Tryd.isAgg0
  z0 := Tryd.sizeOf0
  v0 := Tryd.zeroValue0
  t3 := Tryd.underlying3
  a3 := Tryd.isAgg3
  z3 := Tryd.sizeOf3
  v3 := Tryd.zeroValue3
  t4 := Tryd.underlying4
  a4 := Tryd.isAgg4
  z4 := Tryd.sizeOf4
  v4 := Tryd.zeroValue4
  t5 := Tryd.underlying5
  a5 := Tryd.isAgg5
  z5 := Tryd.sizeOf5
  v5 := Tryd.zeroValue5
  t9 := Tryd.underlying9
  a9 := Tryd.isAgg9
  z9 := Tryd.sizeOf9
  v9 := Tryd.zeroValue9
  t12 := Tryd.underlying12
  a12 := Tryd.isAgg12
  z12 := Tryd.sizeOf12
  v12 := Tryd.zeroValue12
  t46 := Tryd.underlying89
  a46 := Tryd.isAgg89
  z46 := Tryd.sizeOf89
  v46 := Tryd.zeroValue89
  t53 := Tryd.underlying107
  a53 := Tryd.isAgg107
  z53 := Tryd.sizeOf107
  v53 := Tryd.zeroValue107
  t119 := Tryd.underlying85
  a119 := Tryd.isAgg85
  z119 := Tryd.sizeOf85
  t138 := Tryd.underlying87
  a138 := Tryd.isAgg87
  z138 := Tryd.sizeOf87
  v138 := Tryd.zeroValue87
  t139 := Tryd.underlying88
  a139 := Tryd.isAgg88
  z139 := Tryd.sizeOf88
  v139 := Tryd.zeroValue88
  g3 := by kernel_rfl
  g4 := by kernel_rfl }
theorem valid_any (s : ByteArray) (w : World) (hs : s.size ≤ 1000000000) (hT : Tabs w) :
    Calls Tryd.prog 30 #[.string s] w fun e w' => e = .returned (.bool (Lib.validD s.data.toList)) ∧ Below w.heap.size w w' :=
  Any.utf8_ValidString laidV s w (by omega) hT
end Row
end
section
open Go.RowKit
namespace Row
open Utf Wid
def marksV (m : Option Nat) : Value := match m with
  | some n => .tuple #[.int .i64 n, .bool true]
  | none => .tuple #[.int .i64 0, .bool false]
theorem marksV_some (n : Nat) : marksV (some n) = .tuple #[.int .i64 n, .bool true] := rfl
theorem marksV_none : marksV none = .tuple #[.int .i64 0, .bool false] := rfl
set_option maxHeartbeats 800000 in
theorem marks_any (s : ByteArray) (w : World) (hs : s.size ≤ 1152921504606846976) : Calls Tryd.prog 94 #[.string s] w fun e w' => e = .returned (marksV (marks s.data.toList)) ∧ Below w.heap.size w w' := by
  go_enter Tryd.func94, Tryd.ntmps94
  go_wp2_with fail
  go_loopw [2] (fun t wr => ∃ pos n : Nat, pos ≤ s.size ∧ t = .int .i64 n ∧ n ≤ pos ∧ Hid ((marks (s.data.toList.drop pos)).map (· + n) = marks s.data.toList) ∧ Hid (wr.heap[w.heap.size]? = some (.stringIter s pos)) ∧ Below w.heap.size w wr) (fun _ wr => s.size - wr.iterPos w.heap.size)
  case atStart => exact ⟨0, 0, by omega, rfl, by omega, Lib.hid (by rw [List.drop_zero]; cases marks s.data.toList <;> rfl), Lib.hid (World.iter_heap _ _ _), Utf.below_iter (Below.refl _ _) (Nat.le_refl _) _ _⟩
  case round =>
    obtain ⟨pos, n, hpos, rfl, hn, HT, HI, hbl⟩ := hrel
    by_cases hp : pos < s.size
    · have hnx : ∀ ty, (Instr.next (.pointer (some ⟨w.heap.size, 0, none⟩)) true ty).run Tryd.prog wr = _ := fun ty => Lib.run_next_any_at wr w.heap.size s pos ty HI.out hp
      have HIP : Hid (wr.iterPos w.heap.size = pos) := Lib.hid (by simp [World.iterPos, HI.out])
      rw [Utf.dec_at] at hnx
      have hstep := marks_step (Utf.drop_ne hp)
      rw [List.drop_drop] at hstep
      have hle := dec_le (Utf.drop_ne hp)
      have h1 := dec_pos (Utf.drop_ne hp)
      have hsm := Utf.dec_small (s.data.toList.drop pos)
      rw [List.length_drop, show s.data.toList.length = s.size from rfl] at hle
      obtain ⟨d, hD⟩ : ∃ d, Utf.dec (s.data.toList.drop pos) = d := ⟨_, rfl⟩
      rw [hD] at hnx hstep hle h1 hsm
      clear hD
      have HS := Lib.hid hstep
      clear hstep
      have hit2 := Lib.iterAt_heap wr w.heap.size s pos (pos + d.2) HI.out
      have HIT2 := Lib.hid hit2
      have hIP2 : Hid ((wr.iterAt w.heap.size s (pos + d.2)).iterPos w.heap.size = pos + d.2) := Lib.hid (by simp [World.iterPos, hit2])
      have HBL2 : Hid (Below w.heap.size w (wr.iterAt w.heap.size s (pos + d.2))) := Lib.hid (Lib.below_iterAt hbl (Nat.le_refl _) _ _)
      have HOF := Lib.hid (of_any (d.1 : Int) (wr.iterAt w.heap.size s (pos + d.2)))
      have HSZ : Hid (w.heap.size < (wr.iterAt w.heap.size s (pos + d.2)).heap.size) := Lib.hid (Array.getElem?_eq_some_iff.1 hit2).1
      clear hit2
      by_cases hw0 : wid (d.1 : Int) = 0
      · have HM : Hid (marks (s.data.toList.drop pos) = (marks (s.data.toList.drop (pos + d.2))).map (· + 1)) := Lib.hid (by rw [HS.out, if_pos hw0])
        rw [hw0] at HOF
        go_wp2_with fail
        refine HOF.out.mono ?_; rintro e w1 ⟨rfl, hb1⟩
        have HB1 := Lib.hid hb1
        have HH1 : Hid (w1.heap[w.heap.size]? = some (.stringIter s (pos + d.2))) := Lib.hid (by rw [hb1.block _ HSZ.out]; exact HIT2.out)
        have HIP1 : Hid (w1.iterPos w.heap.size = pos + d.2) := Lib.hid (by simp [World.iterPos, HH1.out])
        have HBW : Hid (Below w.heap.size w w1) := Lib.hid (HBL2.out.trans (hb1.mono HBL2.out.size))
        clear hb1
        go_wp2_with fail
        go_roundw
        case rel => exact ⟨pos + d.2, n + 1, by omega, by go_num, by omega, Lib.hid (by rw [← HT.out, HM.out]; cases marks (s.data.toList.drop (pos + d.2)) <;> simp <;> omega), HH1, HBW.out⟩
        case measure => rw [HIP1.out, HIP.out]; omega
      · have HM : Hid (marks s.data.toList = none) := Lib.hid (by rw [← HT.out, HS.out, if_neg hw0]; rfl)
        have hb1 : (wid (d.1 : Int) != 0) = true := by rw [bne_iff_ne]; exact hw0
        generalize wid (d.1 : Int) = q at HOF hb1
        go_wp2_with fail
        refine HOF.out.mono ?_; rintro e w1 ⟨rfl, hb1⟩
        have HBW : Hid (Below w.heap.size w w1) := Lib.hid (HBL2.out.trans (hb1.mono HBL2.out.size))
        clear hb1
        go_wp2_with fail
        go_ret2
        exact ⟨by rw [HM.out]; rfl, HBW.out⟩
    · have hnx : ∀ ty, (Instr.next (.pointer (some ⟨w.heap.size, 0, none⟩)) true ty).run Tryd.prog wr = _ := fun ty => Lib.run_next_end_at wr w.heap.size s pos ty HI.out hp
      have HE : Hid (marks s.data.toList = some n) := Lib.hid (by
        have h := HT.out
        rw [List.drop_eq_nil_of_le (by show s.size ≤ pos; omega), marks_nil] at h
        rw [← h]; simp)
      go_wp2_with fail
      go_ret2
      exact ⟨by rw [HE.out]; rfl, hbl⟩
def partV (k : Nat) (p : Addr) : Value :=
  if k = 1 then .iface 165 (.agg #[.pointer (some p)]) else if k = 2 then .iface 161 (.agg #[.pointer (some p)]) else if k = 3 then .iface 163 (.agg #[.pointer (some p)]) else .iface 170 (.agg #[])
@[go_sem] theorem p_ff (v : Value) (w : World) : (Instr.typeAssert (.iface 161 v) 157 161 true).run Tryd.prog w = .ok (.tuple #[v, .bool true]) w := by kernel_rfl
@[go_sem] theorem p_ss (v : Value) (w : World) : (Instr.typeAssert (.iface 163 v) 157 163 true).run Tryd.prog w = .ok (.tuple #[v, .bool true]) w := by kernel_rfl
@[go_sem] theorem p_ww (v : Value) (w : World) : (Instr.typeAssert (.iface 165 v) 157 165 true).run Tryd.prog w = .ok (.tuple #[v, .bool true]) w := by kernel_rfl
@[go_sem] theorem p_wf (v : Value) (w : World) : (Instr.typeAssert (.iface 165 v) 157 161 true).run Tryd.prog w = .ok (.tuple #[.agg #[.pointer none], .bool false]) w := by kernel_rfl
@[go_sem] theorem p_sf (v : Value) (w : World) : (Instr.typeAssert (.iface 163 v) 157 161 true).run Tryd.prog w = .ok (.tuple #[.agg #[.pointer none], .bool false]) w := by kernel_rfl
@[go_sem] theorem p_nf (v : Value) (w : World) : (Instr.typeAssert (.iface 170 v) 157 161 true).run Tryd.prog w = .ok (.tuple #[.agg #[.pointer none], .bool false]) w := by kernel_rfl
@[go_sem] theorem p_ws (v : Value) (w : World) : (Instr.typeAssert (.iface 165 v) 157 163 true).run Tryd.prog w = .ok (.tuple #[.agg #[.pointer none], .bool false]) w := by kernel_rfl
@[go_sem] theorem p_fs (v : Value) (w : World) : (Instr.typeAssert (.iface 161 v) 157 163 true).run Tryd.prog w = .ok (.tuple #[.agg #[.pointer none], .bool false]) w := by kernel_rfl
@[go_sem] theorem p_ns (v : Value) (w : World) : (Instr.typeAssert (.iface 170 v) 157 163 true).run Tryd.prog w = .ok (.tuple #[.agg #[.pointer none], .bool false]) w := by kernel_rfl
@[go_sem] theorem p_nw (v : Value) (w : World) : (Instr.typeAssert (.iface 170 v) 157 165 true).run Tryd.prog w = .ok (.tuple #[.agg #[.pointer none], .bool false]) w := by kernel_rfl
@[go_sem] theorem p_must (v : Value) (w : World) : (Instr.typeAssert (.iface 161 v) 157 161 false).run Tryd.prog w = .ok v w := by kernel_rfl
theorem eql_sec (c : Cl) (w : World) : (binOp .eql 63 (cagg c) (cagg (sec c.a))).run Tryd.prog w = .ok (.bool (isSec c)) w := by
  obtain ⟨r, cb, x, ⟨fg, bg, fl⟩⟩ := c
  have hs : isSec ⟨r, cb, x, ⟨fg, bg, fl⟩⟩ = (decide (r = 0) && (decide (cb = []) && decide (x = 2))) := rfl
  rw [hs]
  by_cases h1 : r = 0
  · by_cases h2 : cb = []
    · by_cases h3 : x = 2
      · simp [cagg, sec, go_sem, h1, h2, h3]
      · simp [cagg, sec, go_sem, h1, h2, h3]
    · simp [cagg, sec, go_sem, h1, h2]
  · simp [cagg, sec, go_sem, h1]
theorem kind_bad {c : Cl} (h : combOk c.comb = false) : kind c = 0 := by unfold kind; rw [h]; rfl
theorem kind_bada {c : Cl} (h : attrOk c.a = false) : kind c = 0 := by unfold kind; rw [h, Bool.and_false]; rfl
theorem kind_fine {c : Cl} (h : combOk c.comb = true) (h2 : attrOk c.a = true) :
    kind c = bif decide (wid c.rune = 1) && decide (c.wide = 0) then 1 else bif decide (wid c.rune = 2) && decide (c.wide = 1) then 2 else bif isSec c then 3 else 0 := by unfold kind; rw [h, h2]; rfl
set_option maxHeartbeats 1600000 in
theorem look_bad (c : Cl) (ad : Addr) (w : World) (hc : At w ad (cvals c)) (hs : c.comb.length ≤ 1152921504606846976) (h : combOk c.comb = false) :
    Calls Tryd.prog 89 #[.pointer (some ad)] w fun e w' => e = .returned (partV (kind c) ad) ∧ Below w.heap.size w w' := by
  rw [kind_bad h]
  have HMK := Lib.hid (fun w' => marks_any ⟨c.comb.toArray⟩ w' hs)
  obtain ⟨rune, cb, wide, ⟨fg, bg, fl⟩⟩ := c
  have h1 := hc.next 0 rfl
  have hm : marks cb = none ∨ ∃ n, marks cb = some n ∧ 2 < n := by
    have h : combOk cb = false := h
    unfold combOk at h
    cases hm : marks cb with
    | none => exact .inl rfl
    | some n => rw [hm] at h; exact .inr ⟨n, rfl, by have := of_decide_eq_false h; omega⟩
  have hml : ∀ n, marks cb = some n → n ≤ cb.length := fun n e => marks_le _ cb n (Nat.le_refl _) e
  rcases hm with hm | ⟨n, hm, hn⟩
  · have HM : Hid (marks (⟨cb.toArray⟩ : ByteArray).data.toList = none) := Lib.hid hm
    clear hm hml h hc
    go_enter Tryd.func89, Tryd.ntmps89
    go_wp2_with fail
    refine (HMK.out _).mono ?_; rw [HM.out, marksV_none]; rintro e w1 ⟨rfl, hb1⟩
    have HB1 := Lib.hid hb1
    clear hb1
    go_wp2_with fail
    go_ret
    exact ⟨rfl, HB1.out⟩
  · have HM : Hid (marks (⟨cb.toArray⟩ : ByteArray).data.toList = some n) := Lib.hid hm
    have hnl := hml n hm
    have hsl : cb.length ≤ 1152921504606846976 := hs
    clear hm hml h hc hs
    go_enter Tryd.func89, Tryd.ntmps89
    go_wp2_with fail
    refine (HMK.out _).mono ?_; rw [HM.out, marksV_some]; rintro e w1 ⟨rfl, hb1⟩
    have HB1 := Lib.hid hb1
    clear hb1
    go_wp2_with fail
    go_ret
    exact ⟨rfl, HB1.out⟩
set_option maxHeartbeats 1600000 in
theorem look_bada (c : Cl) (ad : Addr) (w : World) (hc : At w ad (cvals c)) (hs : c.comb.length ≤ 1152921504606846976) (h : combOk c.comb = true) (h2 : attrOk c.a = false) :
    Calls Tryd.prog 89 #[.pointer (some ad)] w fun e w' => e = .returned (partV (kind c) ad) ∧ Below w.heap.size w w' := by
  rw [kind_bada h2]
  have HMK := Lib.hid (fun w' => marks_any ⟨c.comb.toArray⟩ w' hs)
  have HCK := Lib.hid (fun w' => check_any c.a false h2 w')
  obtain ⟨rune, cb, wide, ⟨fg, bg, fl⟩⟩ := c
  have h1 := hc.next 0 rfl
  have HAT := Lib.hid hc
  have hm : ∃ n, marks cb = some n ∧ n ≤ 2 := by
    have h : combOk cb = true := h
    unfold combOk at h
    cases hm : marks cb with
    | none => rw [hm] at h; cases h
    | some n => rw [hm] at h; exact ⟨n, rfl, of_decide_eq_true h⟩
  obtain ⟨n, hm, hn⟩ := hm
  have HM : Hid (marks (⟨cb.toArray⟩ : ByteArray).data.toList = some n) := Lib.hid hm
  clear hm h hc hs h2
  go_enter Tryd.func89, Tryd.ntmps89
  go_wp2_with fail
  refine (HMK.out _).mono ?_; rw [HM.out, marksV_some]; rintro e w1 ⟨rfl, hb1⟩
  have HB1 := Lib.hid hb1
  have hc1 := HAT.out.kept hb1
  have k3 := hc1.next 2 rfl
  have k4 := hc1.next 3 rfl
  have k5 := hc1.next 4 rfl
  clear hb1 hc1
  go_wp2_with fail
  refine (HCK.out _).mono ?_; rintro e w2 ⟨rfl, hb2⟩
  have HB2 : Hid (Below w.heap.size w w2) := Lib.hid (HB1.out.trans (hb2.mono HB1.out.size))
  clear hb2
  go_wp2_with fail
  go_ret
  exact ⟨rfl, HB2.out⟩
set_option maxHeartbeats 3200000 in
theorem look_fine (c : Cl) (ad : Addr) (w : World) (hc : At w ad (cvals c)) (hs : c.comb.length ≤ 1152921504606846976) (h : combOk c.comb = true) (h2 : attrOk c.a = true) :
    Calls Tryd.prog 89 #[.pointer (some ad)] w fun e w' => e = .returned (partV (kind c) ad) ∧ Below w.heap.size w w' := by
  have hk := kind_fine h h2
  generalize kind c = kk at hk ⊢
  have HK := Lib.hid hk
  clear hk
  have HMK := Lib.hid (fun w' => marks_any ⟨c.comb.toArray⟩ w' hs)
  have HCK := Lib.hid (fun w' => check_any c.a true h2 w')
  have HOF := Lib.hid (fun w' => of_any c.rune w')
  have HSC := Lib.hid (fun w' => sec_any c.a w')
  have heq := eql_sec c
  obtain ⟨rune, cb, wide, ⟨fg, bg, fl⟩⟩ := c
  simp only [cagg, sec] at heq
  have h1 := hc.next 0 rfl
  have HAT := Lib.hid hc
  have hm : ∃ n, marks cb = some n ∧ n ≤ 2 := by
    have h : combOk cb = true := h
    unfold combOk at h
    cases hm : marks cb with
    | none => rw [hm] at h; cases h
    | some n => rw [hm] at h; exact ⟨n, rfl, of_decide_eq_true h⟩
  obtain ⟨n, hm, hn⟩ := hm
  have HM : Hid (marks (⟨cb.toArray⟩ : ByteArray).data.toList = some n) := Lib.hid hm
  clear hm h hc hs h2
  go_enter Tryd.func89, Tryd.ntmps89
  go_wp2_with fail
  refine (HMK.out _).mono ?_; rw [HM.out, marksV_some]; rintro e w1 ⟨rfl, hb1⟩
  have HB1 := Lib.hid hb1
  have hc1 := HAT.out.kept hb1
  have k3 := hc1.next 2 rfl
  have k4 := hc1.next 3 rfl
  have k5 := hc1.next 4 rfl
  clear hb1 hc1
  go_wp2_with fail
  refine (HCK.out _).mono ?_; rintro e w2 ⟨rfl, hb2⟩
  have HB2 : Hid (Below w.heap.size w w2) := Lib.hid (HB1.out.trans (hb2.mono HB1.out.size))
  clear hb2 k3 k4 k5
  have hc2 := HAT.out.kept HB2.out
  have m0 := hc2.head
  have m2 := hc2.next 1 rfl
  clear hc2
  go_wp2_with fail
  refine (HOF.out _).mono ?_; rintro e w3 ⟨rfl, hb3⟩
  have HB3 : Hid (Below w.heap.size w w3) := Lib.hid (HB2.out.trans (hb3.mono HB2.out.size))
  clear hb3 m0 m2
  have hc3 := HAT.out.kept HB3.out
  have q0 := hc3.head
  have q1 := hc3.next 0 rfl
  have q2 := hc3.next 1 rfl
  have q3 := hc3.next 2 rfl
  have q4 := hc3.next 3 rfl
  have q5 := hc3.next 4 rfl
  clear hc3
  have HK2 : Hid (kk = bif decide (wid rune = 1) && decide (wide = 0) then 1 else bif decide (wid rune = 2) && decide (wide = 1) then 2 else bif isSec ⟨rune, cb, wide, ⟨fg, bg, fl⟩⟩ then 3 else 0) := HK
  clear HK
  generalize wid rune = q at HK2 HOF ⊢
  by_cases e1 : q = 1 ∧ wide = 0
  · obtain ⟨rfl, rfl⟩ := e1
    have HKK : Hid (kk = 1) := HK2
    go_wp2_with fail
    go_ret
    exact ⟨by rw [HKK.out]; rfl, HB3.out⟩
  · by_cases e2 : q = 2 ∧ wide = 1
    · obtain ⟨rfl, rfl⟩ := e2
      have HKK : Hid (kk = 2) := HK2
      go_wp2_with fail
      go_ret
      exact ⟨by rw [HKK.out]; rfl, HB3.out⟩
    · have HKK : Hid (kk = bif isSec ⟨rune, cb, wide, ⟨fg, bg, fl⟩⟩ then 3 else 0) := Lib.hid (by
        have := HK2.out
        rw [this]
        have f1 : (decide (q = 1) && decide (wide = 0)) = false := by
          rw [Bool.and_eq_false_iff]
          by_cases h : q = 1
          · exact .inr (decide_eq_false fun h2 => e1 ⟨h, h2⟩)
          · exact .inl (decide_eq_false h)
        have f2 : (decide (q = 2) && decide (wide = 1)) = false := by
          rw [Bool.and_eq_false_iff]
          by_cases h : q = 2
          · exact .inr (decide_eq_false fun h2 => e2 ⟨h, h2⟩)
          · exact .inl (decide_eq_false h)
        rw [f1, f2]; rfl)
      clear HK2
      have hways : (q = 1 ∧ wide ≠ 0) ∨ (q = 2 ∧ wide ≠ 1) ∨ (q ≠ 1 ∧ q ≠ 2) := by omega
      clear e1 e2
      have z0 := cell_regrown q0
      have z1 := cell_regrown q1
      have z2 := cell_regrown q2
      have z3 := cell_regrown q3
      have z4 := cell_regrown q4
      have z5 := cell_regrown q5
      have cS : ∀ d os, Calls Tryd.prog 90 #[.agg #[.int .i64 fg, .int .i64 bg, .int .i64 fl]] (Go.Sort.grow (redrawn w3 d) os) fun e w'' => e = .returned (.agg #[.int .i64 0, .string ⟨#[]⟩, .int .i64 2, .int .i64 fg, .int .i64 bg, .int .i64 fl]) ∧ ∃ p : Regrown, w'' = Go.Sort.grow (redrawn w3 p.d) p.os := fun d os => Calls.regrown_of (HSC.out _)
      generalize isSec ⟨rune, cb, wide, ⟨fg, bg, fl⟩⟩ = b at heq HKK
      have BC : Hid (∀ d os, Below w.heap.size w (Go.Sort.grow (redrawn w3 d) os)) := Lib.hid fun d os => HB3.out.trans ((below_regrown w3 d os).mono HB3.out.size)
      rcases hways with ⟨rfl, hw⟩ | ⟨rfl, hw⟩ | ⟨hq1, hq2⟩
      · have b1 : (wide == 0) = false := by rw [beq_eq_false_iff_ne]; exact hw
        clear hw
        go_wp2_with fail
        refine wp_region_quiet_below (by kernel_rfl) (by kernel_rfl) ?_
        repeat (quiet_step (exact cS _ _))
        refine wpQuiet_nil ?_
        intro _ hw'
        obtain ⟨⟨dq, osq⟩, hw''⟩ := hw'
        subst hw''
        have HB4 := Lib.hid (BC.out dq osq)
        clear heq z0 z1 z2 z3 z4 z5 cS q0 q1 q2 q3 q4 q5
        generalize Go.Sort.grow (redrawn w3 dq) osq = w4 at HB4 ⊢
        cases b
        all_goals
          go_wp2_with fail
          go_ret
          exact ⟨by rw [HKK.out]; rfl, HB4.out⟩
      · have b1 : (wide == 1) = false := by rw [beq_eq_false_iff_ne]; exact hw
        clear hw
        go_wp2_with fail
        refine wp_region_quiet_below (by kernel_rfl) (by kernel_rfl) ?_
        repeat (quiet_step (exact cS _ _))
        refine wpQuiet_nil ?_
        intro _ hw'
        obtain ⟨⟨dq, osq⟩, hw''⟩ := hw'
        subst hw''
        have HB4 := Lib.hid (BC.out dq osq)
        clear heq z0 z1 z2 z3 z4 z5 cS q0 q1 q2 q3 q4 q5
        generalize Go.Sort.grow (redrawn w3 dq) osq = w4 at HB4 ⊢
        cases b
        all_goals
          go_wp2_with fail
          go_ret
          exact ⟨by rw [HKK.out]; rfl, HB4.out⟩
      · have b1 : (q == 1) = false := by rw [beq_eq_false_iff_ne]; exact hq1
        have b2 : (q == 2) = false := by rw [beq_eq_false_iff_ne]; exact hq2
        clear hq1 hq2
        go_wp2_with fail
        refine wp_region_quiet_below (by kernel_rfl) (by kernel_rfl) ?_
        repeat (quiet_step (exact cS _ _))
        refine wpQuiet_nil ?_
        intro _ hw'
        obtain ⟨⟨dq, osq⟩, hw''⟩ := hw'
        subst hw''
        have HB4 := Lib.hid (BC.out dq osq)
        clear heq z0 z1 z2 z3 z4 z5 cS q0 q1 q2 q3 q4 q5
        generalize Go.Sort.grow (redrawn w3 dq) osq = w4 at HB4 ⊢
        cases b
        all_goals
          go_wp2_with fail
          go_ret
          exact ⟨by rw [HKK.out]; rfl, HB4.out⟩
theorem look_any (c : Cl) (ad : Addr) (w : World) (hc : At w ad (cvals c)) (hs : c.comb.length ≤ 1152921504606846976) :
    Calls Tryd.prog 89 #[.pointer (some ad)] w fun e w' => e = .returned (partV (kind c) ad) ∧ Below w.heap.size w w' := by
  cases h : combOk c.comb with
  | false => exact look_bad c ad w hc hs h
  | true =>
    cases h2 : attrOk c.a with
    | false => exact look_bada c ad w hc hs h h2
    | true => exact look_fine c ad w hc hs h h2
end Row
end
end Go.Proofs.YtjcfbeiljdohcaaDoor
