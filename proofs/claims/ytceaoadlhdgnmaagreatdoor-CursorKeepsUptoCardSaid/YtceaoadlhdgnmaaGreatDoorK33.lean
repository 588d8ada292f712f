/- Joined texts: TabLib, TabNew, TabSet. -/
import Derived.Test.YtceaoadlhdgnmaaGreatDoorK11
import Derived.Shelf.Strings.BuilderRune
import Derived.Shelf.Strings.BuilderF
import Derived.Lib.SliceRun
import Derived.Laws.CopyRow
import Derived.Laws.CopyOwn
section
/- The library's strings.Builder (WriteRune, String), laid at this program; its Clone of truths. -/
namespace Go.Proofs.YtceaoadlhdgnmaaGreatDoor
set_option maxRecDepth 100000
open Go.RowKit
namespace Tab

def layW : Go.Shelf.Ren := ⟨fun | 168 => 219 | 169 => 220 | 240 => 221 | 242 => 222 | 276 => 223 | 278 => 224 | n => n,
  fun | 0 => 0 | 3 => 3 | 4 => 4 | 5 => 5 | 9 => 9 | 20 => 20 | 21 => 21 | 37 => 259 | 46 => 79 | 51 => 252 | 70 => 258 | 72 => 261 | 75 => 263 | 80 => 266 | 127 => 268 | 164 => 269 | n => n,
  fun n => n⟩
theorem laidW168 : Lays.n168 Tryz.prog layW := {
  mixed := by kernel_rfl
  f168 := Tryz.func219.trans (congrArg some (by kernel_rfl))
  f240 := Tryz.func221.trans (congrArg some (by kernel_rfl))
  f242 := Tryz.func222.trans (congrArg some (by kernel_rfl))
  f276 := Tryz.func223.trans (congrArg some (by kernel_rfl))
  f278 := Tryz.func224.trans (congrArg some (by kernel_rfl))
  t0 := Tryz.underlying0
  a0 := Tryz.isAgg0
  z0 := Tryz.sizeOf0
  v0 := Tryz.zeroValue0
  t3 := Tryz.underlying3
  a3 := Tryz.isAgg3
  z3 := Tryz.sizeOf3
  v3 := Tryz.zeroValue3
  t4 := Tryz.underlying4
  a4 := Tryz.isAgg4
  z4 := Tryz.sizeOf4
  v4 := Tryz.zeroValue4
  t5 := Tryz.underlying5
  a5 := Tryz.isAgg5
  z5 := Tryz.sizeOf5
  v5 := Tryz.zeroValue5
  t9 := Tryz.underlying9
  a9 := Tryz.isAgg9
  z9 := Tryz.sizeOf9
  v9 := Tryz.zeroValue9
  t20 := Tryz.underlying20
  a20 := Tryz.isAgg20
  z20 := Tryz.sizeOf20
  v20 := Tryz.zeroValue20
  t21 := Tryz.underlying21
  a21 := Tryz.isAgg21
  z21 := Tryz.sizeOf21
  v21 := Tryz.zeroValue21
  t37 := Tryz.underlying259
  a37 := Tryz.isAgg259
  z37 := Tryz.sizeOf259
  v37 := Tryz.zeroValue259
  t46 := Tryz.underlying79
  a46 := Tryz.isAgg79
  z46 := Tryz.sizeOf79
  v46 := Tryz.zeroValue79
  t51 := Tryz.underlying252
  a51 := Tryz.isAgg252
  z51 := Tryz.sizeOf252
  v51 := Tryz.zeroValue252
  t70 := Tryz.underlying258
  a70 := Tryz.isAgg258
  z70 := Tryz.sizeOf258
  v70 := Tryz.zeroValue258
  t72 := Tryz.underlying261
  a72 := Tryz.isAgg261
  z72 := Tryz.sizeOf261
  v72 := Tryz.zeroValue261
  t75 := Tryz.underlying263
  a75 := Tryz.isAgg263
  z75 := Tryz.sizeOf263
  v75 := Tryz.zeroValue263
  t164 := Tryz.underlying269
  a164 := Tryz.isAgg269
  z164 := Tryz.sizeOf269
  v164 := Tryz.zeroValue269
}
theorem laidW169 : Lays.n169 Tryz.prog layW := {
  mixed := by kernel_rfl
  f169 := Tryz.func220.trans (congrArg some (by kernel_rfl))
  t0 := Tryz.underlying0
  a0 := Tryz.isAgg0
  z0 := Tryz.sizeOf0
  v0 := Tryz.zeroValue0
  t3 := Tryz.underlying3
  a3 := Tryz.isAgg3
  z3 := Tryz.sizeOf3
  v3 := Tryz.zeroValue3
  t9 := Tryz.underlying9
  a9 := Tryz.isAgg9
  z9 := Tryz.sizeOf9
  v9 := Tryz.zeroValue9
  t37 := Tryz.underlying259
  a37 := Tryz.isAgg259
  z37 := Tryz.sizeOf259
  v37 := Tryz.zeroValue259
  t70 := Tryz.underlying258
  a70 := Tryz.isAgg258
  z70 := Tryz.sizeOf258
  v70 := Tryz.zeroValue258
  t72 := Tryz.underlying261
  a72 := Tryz.isAgg261
  z72 := Tryz.sizeOf261
  v72 := Tryz.zeroValue261
  t127 := Tryz.underlying268
  a127 := Tryz.isAgg268
  z127 := Tryz.sizeOf268
  v127 := Tryz.zeroValue268
}
theorem extraW : Builder.Extra Tryz.prog layW := {
  sizeBuilder := by kernel_rfl
  liesBuilder := by kernel_rfl
  t5 := Tryz.underlying5
  a5 := Tryz.isAgg5
  z5 := Tryz.sizeOf5
  v5 := Tryz.zeroValue5
  infoByte := by kernel_rfl
  cellsByte := by kernel_rfl
  sizeByte := by kernel_rfl
  neB5 := by decide }
/-- A builder of the call's own that holds these bytes. -/
def Bd (w : World) (B b : Nat) (l : List UInt8) : Prop := Lib.IsBuilderF 261 5 B b (Lib.byteCells l) w
theorem rune_byte (t : Bool) : Lib.runeCells (if t then 124 else 46) = Lib.byteCells [mark t] := by cases t <;> rfl
theorem write_any (B b : Nat) (l : List UInt8) (t : Bool) (w : World) (h : Bd w B b l) (hl : l.length ≤ 1000000) (hB : B ≤ w.heap.size) :
    Calls Tryz.prog 219 #[.pointer (some ⟨b, 0, none⟩), .int .i32 (if t then 124 else 46)] w fun e w' => (∃ v, e = .returned v) ∧ Bd w' B b (l ++ [mark t]) ∧ Below B w w' := by
  refine (Any.Builder_WriteRune_k laidW168 extraW B b (Lib.byteCells l) (if t then 124 else 46) (by cases t <;> decide) (by cases t <;> decide) w h (by rw [Lib.byteCells_length]; omega) hB).mono ?_
  rintro e w' ⟨h1, h2, h3, _⟩
  refine ⟨⟨_, h1⟩, ?_, h3⟩
  unfold Bd
  rw [Lib.byteCells_append, ← rune_byte]
  exact .inr h2
theorem string_any (B b : Nat) (l : List UInt8) (w : World) (h : Bd w B b l) (hB : B ≤ w.heap.size) :
    Calls Tryz.prog 220 #[.pointer (some ⟨b, 0, none⟩)] w fun e w' => e = .returned (.string ⟨l.toArray⟩) ∧ Below B w w' :=
  (Any.Builder_String_any_f laidW169 extraW B b l w h hB).mono fun _ _ k => ⟨k.1, k.2.2⟩

@[go_sem] theorem eql_nil (w : World) (a : Option Addr) (n c n' c' : Nat) : (binOp .eql 34 (.slice a n c) (.slice none n' c')).run Tryz.prog w = .ok (.bool a.isNone) w := Lib.run_eql_slice_nil w _ _ a n c n' c' Tryz.underlying34
set_option maxHeartbeats 800000 in
theorem clone_any (l : List Bool) (x : Value) (w : World) (hx : Bl w x l) (hn : l.length ≤ 1000000) :
    Calls Tryz.prog 101 #[x] w fun e w' => ∃ v, e = .returned v ∧ OwnB w' w.heap.size v l ∧ Below w.heap.size w w' := by
  rcases hx.src.2 with ⟨rfl, h0⟩ | ⟨ad, c, rfl, _⟩
  · have hl : l = [] := List.eq_nil_of_length_eq_zero h0
    subst hl
    go_enter Tryz.func101, Tryz.ntmps101
    go_wp2_with fail
    go_ret
    exact ⟨_, rfl, OwnB.nil _ _, Below.refl _ _⟩
  · have HX := Lib.hid hx.src
    clear hx
    go_enter Tryz.func101, Tryz.ntmps101
    go_wp2_with (at_builtin; refine wp_append_bools rfl rfl w.heap.size _ [] rfl (World.ownsRow_made w #[] 0 (Nat.le_refl _) (Nat.zero_le _) rfl) _ l rfl (HX.out.kept ((Below.refl _ _).alloc (Nat.le_refl _) _)) (by simp; omega) (by simp) ?_; intro v1 w1 ho1 hg1 hat1)
    go_ret
    refine ⟨_, rfl, ho1, ?_⟩
    exact ((Below.refl _ w).alloc (Nat.le_refl _) _).grown hg1 (by simp) (by intro k hk; have hk : some w.heap.size = some k := hk; injection hk with hk; omega)
end Tab
end Go.Proofs.YtceaoadlhdgnmaaGreatDoor
end
section
/- New stops: grown, New, Resize, Set. -/
namespace Go.Proofs.YtceaoadlhdgnmaaGreatDoor
set_option maxRecDepth 100000
open Go.RowKit
namespace Tab

/-- Block b holds these truths and nothing else. -/
def Whole (w : World) (b : Nat) (l : List Bool) : Prop := w.heap[b]? = some (.cells (bools l).toArray 4 (0, 0))
theorem Whole.own {w : World} {b : Nat} {l : List Bool} (h : Whole w b l) {base : Nat} (hb : base ≤ b) (hl : l.length ≤ 1000000) : OwnB w base (.slice (some ⟨b, 0, none⟩) l.length l.length) l := by
  refine ⟨by rw [bools_length, Nat.mul_one], .inr ⟨b, l.length, _, rfl, hb, h, Nat.le_refl _, by simp only [maxLen]; omega, ?_, ?_⟩⟩
  · simp [bools_length]
  · rw [Nat.mul_one, ← bools_length l]; simp
theorem Whole.of {w : World} {base b : Nat} {l : List Bool} (h : w.ownsRow base 4 1 (.slice (some ⟨b, 0, none⟩) l.length l.length) l.length (bools l)) : Whole w b l := by
  rcases h.2 with ⟨e, _⟩ | ⟨b', cap, cur, e, _, hg, _, _, hs, ht⟩
  · injection e with e; cases e
  · injection e with e1 e2 e3
    injection e1 with e1
    injection e1 with e1
    subst e1
    subst e3
    unfold Whole
    rw [hg]
    have : cur.toList = bools l := by
      rw [← ht, List.take_of_length_le (by rw [Array.length_toList, hs]; exact Nat.le_refl _)]
    rw [← this]
theorem made_false (n : Nat) : (madeCells (Value.bool false).cells (n * 1)).toList = bools (List.replicate n false) := by
  apply List.ext_getElem?
  intro j
  simp only [madeCells, Value.cells, Nat.mul_one]
  rw [Array.getElem?_toList, Array.getElem?_map]
  unfold bools
  rw [List.getElem?_map]
  by_cases hj : j < n
  · simp [hj, Nat.mod_one]
  · simp [hj]
theorem run_copy_bools {w : World} {ty : TypeId} {b n : Nat} {x : Value} {l : List Bool} (h : Whole w b (List.replicate n false)) (hx : Bl w x l) (hl : l.length ≤ n) :
    ∃ w', (Builtin.copy_ #[34, 34] ty #[.slice (some ⟨b, 0, none⟩) n n, x]).run Tryz.prog w = .ok (goInt l.length) w' ∧ Whole w' b (l ++ List.replicate (n - l.length) false) ∧ ∀ B w0, Below B w0 w → B ≤ b → Below B w0 w' := by
  obtain ⟨i, hi, hz, h1, h8⟩ := Tryz.bool_row
  rcases hx.src.2 with ⟨rfl, h0⟩ | ⟨ad, c, rfl, hc⟩
  · have hl0 : l = [] := List.eq_nil_of_length_eq_zero h0
    subst hl0
    exact ⟨w, run_copy_nil Tryz.prog w 34 34 ty 4 _ n n Tryz.underlying34 (by rw [hi]; rfl), by simpa using h, fun _ _ hb _ => hb⟩
  · have hrun := run_copy_row (P := Tryz.prog) w 34 34 ty 4 b 0 n n ad l.length c _ _ (bools l) Tryz.underlying34 (by rw [hi]; simp [h1]) h
      (by rw [bools_length]; exact (Nat.min_eq_left hl).symm) hc (by simp [bools_length]; exact hl) (bools_cells l)
    rw [bools_length] at hrun
    refine ⟨_, hrun, ?_, fun B w0 hb hB => below_setRow hb hB _⟩
    have hrow := setRow_heap w b _ ((bools (List.replicate n false)).toArray.toList.take 0 ++ bools l ++ (bools (List.replicate n false)).toArray.toList.drop (0 + l.length)).toArray _ _ h
    unfold Whole
    rw [hrow, List.take_zero, List.nil_append, Nat.zero_add, bools_drop, List.drop_replicate, bools_append]
theorem wp_copy_bools {w : World} {ops : Array Oper} {rest : List Oper} {o : Oper} {a : Act} {Q : Exit → Act → World → Prop} {d s : Operand} (hgd : o.guard = none)
    (ho : o.op = .call { callee := .builtin .copy, args := #[d, s], argTypes := #[34, 34] }) (b n : Nat) (x : Value) (l : List Bool)
    (hd : a.eval d = .slice (some ⟨b, 0, none⟩) n n) (hs : a.eval s = x) (h : Whole w b (List.replicate n false)) (hx : Bl w x l) (hl : l.length ≤ n)
    (hK : ∀ w', Whole w' b (l ++ List.replicate (n - l.length) false) → (∀ B w0, Below B w0 w → B ≤ b → Below B w0 w') → wpList Tryz.prog ops Q rest (a.put o.dst (goInt l.length)) w') : wpList Tryz.prog ops Q (o :: rest) a w := by
  refine wpList_plain hgd fun K hK' => ?_
  obtain ⟨w', hrun, h1, h2⟩ := run_copy_bools (ty := o.type) h hx hl
  unfold Oper.wp execOp
  simp only [ho, resolve, invoke, builtin, Sem.run_bind, Sem.run_pure, Result.andThen_ok, List.map_toArray, List.map_cons, List.map_nil, hs, hd, hrun]
  exact hK' _ _ (hK w' h1 h2)
/-- So far laid: the columns behind are bare. -/
def laidTo (l : List Bool) (n k : Nat) : List Bool := (grownOf l n).take k ++ List.replicate (n - k) false
theorem laidTo_length (l : List Bool) {n k : Nat} (h : k ≤ n) : (laidTo l n k).length = n := by
  unfold laidTo
  rw [List.length_append, List.length_take, grownOf_length, List.length_replicate]; omega
theorem laidTo_set (l : List Bool) {n k : Nat} (h : k < n) (hl : l.length ≤ k) : (laidTo l n k).set k (stopAt k) = laidTo l n (k + 1) := by
  unfold laidTo
  have hk : ((grownOf l n).take k).length = k := by rw [List.length_take, grownOf_length]; omega
  rw [take_succ_bool (l := grownOf l n) (k := k) (by rw [grownOf_length]; exact h), grownOf_get hl h, List.set_append_right _ _ (by omega), hk, Nat.sub_self, show n - k = (n - (k + 1)) + 1 from by omega, List.replicate_succ, List.set_cons_zero, List.append_assoc]
  rfl
theorem laidTo_start (l : List Bool) {n : Nat} (h : l.length ≤ n) : laidTo l n l.length = l ++ List.replicate (n - l.length) false := by
  unfold laidTo
  rw [grownOf_take l n l.length (Nat.le_refl _) h, List.take_length]
theorem laidTo_full (l : List Bool) (n : Nat) : laidTo l n n = grownOf l n := by
  unfold laidTo
  rw [List.take_of_length_le (by rw [grownOf_length]; exact Nat.le_refl _)]; simp
theorem Whole.set {w : World} {b : Nat} {l : List Bool} (h : Whole w b l) (k : Nat) (t : Bool) : Whole (w.setCell ⟨b, k, none⟩ (.bool t)) b (l.set k t) := by
  have := Blk.set h k (.bool t)
  unfold Whole
  rw [this]
  congr 2
  simp [bools, List.map_set]
theorem stop_rem (k : Nat) : (((k : Int) % 8) == 0) = decide (k % 8 = 0) := by rw [Bool.eq_iff_iff, beq_iff_eq, decide_eq_true_eq]; omega
set_option maxHeartbeats 1600000 in
theorem grown_any (l : List Bool) (n : Nat) (x : Value) (w : World) (hx : Bl w x l) (hl : l.length ≤ n) (hn : n ≤ 1000000) :
    Calls Tryz.prog 154 #[x, .int .i64 n] w fun e w' => ∃ v, e = .returned v ∧ OwnB w' w.heap.size v (grownOf l n) ∧ Below w.heap.size w w' := by
  obtain ⟨i, hi, hz, h1, h8⟩ := Tryz.bool_row
  have HX := Lib.hid hx
  have HL := Lib.hid hl
  have HST := Lib.hid (laidTo_start l hl)
  have HSET := Lib.hid (fun k (h : k < n) (hk : l.length ≤ k) => laidTo_set l h hk)
  have HLEN := Lib.hid (fun k (h : k ≤ n) => laidTo_length l h)
  have HFU := Lib.hid (laidTo_full l n)
  clear hx hl
  go_enter Tryz.func154, Tryz.ntmps154
  go_wp2_with (first
    | (at_make; refine wpList_make_full _ rfl _ _ _ rfl w.heap.size 4 i _ 1 Tryz.underlying34 hi hz h1 .i64 .i64 _ _ n rfl rfl (by go_num) (by go_num) (by rw [h8]; omega) (by simp only [maxLen]; omega) (Nat.le_refl _) ?_; intro w1 ho1 hg1; rw [made_false] at ho1; have HW1 := Lib.hid (Whole.of (l := List.replicate n false) (by rw [List.length_replicate]; exact ho1)); have HB1 : Hid (Below w.heap.size w w1) := Lib.hid ((Below.refl _ w).grown hg1 (Nat.le_refl _) (fun k hk => by cases hk)); clear ho1)
    | (with_reducible refine wp_copy_bools (o := ⟨some 11, _, _, _, _, _⟩) rfl rfl w.heap.size n x l rfl rfl HW1.out (HX.out.kept HB1.out) HL.out ?_; intro w2 hw2 hb2; have HW2 := Lib.hid hw2; have HB2 := Lib.hid (hb2 _ _ HB1.out (Nat.le_refl _)); clear hw2 hb2))
  rw [← HST.out] at HW2
  go_loopw [6] (fun j wr => ∃ k : Nat, l.length ≤ k ∧ k ≤ n ∧ j = .int .i64 k ∧ Hid (Whole wr w.heap.size (laidTo l n k)) ∧ Below w.heap.size w wr) (fun j _ => n - (intOf j).toNat)
  case atStart => exact ⟨l.length, Nat.le_refl _, HL.out, rfl, HW2, HB2.out⟩
  case round =>
    obtain ⟨k, hlk, hk, rfl, HW, hb⟩ := hrel
    by_cases hlt : k < n
    · have hfz := Blk.free HW.out k
      have hcl : wr.cell? ⟨w.heap.size, k, none⟩ = some (.bool ((laidTo l n k).getD k false)) := by
        rw [Blk.cell HW.out k, List.getElem?_toArray, bools_get (by rw [HLEN.out k hk]; exact hlt)]
      have HW3 := Lib.hid (HW.out.set k (stopAt k))
      rw [HSET.out k hlt hlk] at HW3
      have HB3 := Lib.hid (hb.setCell (p := ⟨w.heap.size, k, none⟩) (Nat.le_refl _) (.bool (stopAt k)))
      generalize (laidTo l n k).getD k false = old at hcl
      by_cases h0 : 0 < k
      · have hs : stopAt k = decide (k % 8 = 0) := by unfold stopAt; rw [decide_eq_true h0]; rfl
        have hr := stop_rem k
        rw [hs] at HW3 HB3
        clear hs
        generalize decide (k % 8 = 0) = st at hr HW3 HB3
        go_wp2_with fail
        go_roundw
        case rel => exact ⟨k + 1, by omega, by omega, by go_num, HW3, HB3.out⟩
        case measure => simp [intOf]; omega
      · have hs : stopAt k = false := by unfold stopAt; rw [decide_eq_false h0]; rfl
        rw [hs] at HW3 HB3
        clear hs
        go_wp2_with fail
        go_roundw
        case rel => exact ⟨k + 1, by omega, by omega, by go_num, HW3, HB3.out⟩
        case measure => simp [intOf]; omega
    · have hkn : k = n := by omega
      subst hkn
      have HO : Hid (OwnB wr w.heap.size (.slice (some ⟨w.heap.size, 0, none⟩) k k) (grownOf l k)) := Lib.hid (by
        have h := HW.out
        rw [HFU.out] at h
        have := h.own (Nat.le_refl w.heap.size) (by rw [grownOf_length]; exact hn)
        rwa [grownOf_length] at this)
      go_wp2_with fail
      go_ret
      exact ⟨_, rfl, HO.out, hb⟩
end Tab
end Go.Proofs.YtceaoadlhdgnmaaGreatDoor
end
section
/- Stops anew, cut or made longer, and one set. -/
namespace Go.Proofs.YtceaoadlhdgnmaaGreatDoor
set_option maxRecDepth 100000
open Go.RowKit
namespace Tab

def anewOf (n : Int) : List Bool := if rng n 1 40 then grownOf [] n.toNat else []
set_option maxHeartbeats 800000 in
theorem new_any (n : Int) (w : World) :
    Calls Tryz.prog 120 #[.int .i64 n] w fun e w' => ∃ v, e = .returned (.tuple #[v, .int .i64 (codeOf (rng n 1 40))]) ∧ OwnB w' w.heap.size v (anewOf n) ∧ Below w.heap.size w w' := by
  have HC := Lib.hid (columns_any n w)
  by_cases h : rng n 1 40 = true
  · have hr := rng_yes.1 h
    obtain ⟨n, rfl⟩ := Int.eq_ofNat_of_zero_le (show 0 ≤ n by omega)
    have HA : Hid (anewOf n = grownOf [] n) := Lib.hid (by unfold anewOf; rw [h]; rfl)
    have HG := Lib.hid (grown_any [] n (.slice none 0 0) w (Bl.nil w) (Nat.zero_le _) (by omega))
    rw [h] at HC ⊢
    rw [HA.out]
    clear h hr HA
    go_enter Tryz.func120, Tryz.ntmps120
    go_wp2_with fail
    refine HC.out.mono ?_; rintro e w' ⟨rfl, rfl⟩
    go_wp2_with fail
    refine HG.out.mono ?_; rintro e w1 ⟨v, rfl, ho, hb⟩
    go_wp2_with fail
    go_ret2
    exact ⟨v, rfl, ho, hb⟩
  · have h : rng n 1 40 = false := by simpa using h
    have HA : Hid (anewOf n = []) := Lib.hid (by unfold anewOf; rw [h]; rfl)
    rw [h] at HC ⊢
    rw [HA.out]
    clear h HA
    go_enter Tryz.func120, Tryz.ntmps120
    go_wp2_with fail
    refine HC.out.mono ?_; rintro e w' ⟨rfl, rfl⟩
    go_wp2_with fail
    go_ret2
    exact ⟨_, rfl, OwnB.nil _ _, Below.refl _ _⟩

def cutOk (l : List Bool) (n : Int) : Bool := okB l && rng n 1 40
def cutOf (l : List Bool) (n : Int) : List Bool := if cutOk l n then grownOf l n.toNat else []
def setOk (l : List Bool) (a : Int) : Bool := okB l && rng a 0 (l.length - 1)
def setOf (l : List Bool) (a : Int) (t : Bool) : List Bool := if setOk l a then l.set a.toNat t else []
end Tab
end Go.Proofs.YtceaoadlhdgnmaaGreatDoor
end
