/- Joined texts: TabLib, TabNew, TabSet. -/
import Derived.Test.YtceaoadlhdgnmaaGreatDoorM11
import Derived.Shelf.Strings.BuilderRune
import Derived.Shelf.Strings.BuilderF
import Derived.Lib.SliceRun
import Derived.Laws.CopyRow
import Derived.Laws.CopyOwn
namespace Go.Proofs.YtceaoadlhdgnmaaGreatDoor
set_option maxRecDepth 100000
section
open Go.RowKit
namespace Tab
def layW : Go.Shelf.Ren := ⟨fun | 168 => 219 | 169 => 220 | 240 => 221 | 242 => 222 | 276 => 223 | 278 => 224 | n => n,
  fun | 0 => 0 | 3 => 3 | 4 => 4 | 5 => 5 | 9 => 9 | 20 => 20 | 21 => 21 | 37 => 259 | 46 => 79 | 51 => 252 | 70 => 258 | 72 => 261 | 75 => 263 | 80 => 266 | 127 => 268 | 164 => 269 | n => n,
  fun n => n⟩
theorem laidW168 : Lays.n168 Tryz.prog layW := {
  mixed := by kernel_rfl
  f168 := Tryz.func219.trans (congrArg some (by kernel_rfl))
  f240 := Tryz.func221.trans (congrArg some (by kernel_rfl))
  f242 := Tryz.func222.trans (congrArg some (by kernel_rfl))
  f276 := Tryz.func223.trans (congrArg some (by kernel_rfl))
  f278 := Tryz.func224.trans (congrArg some (by kernel_rfl))
  t0 := Tryz.underlying0
  a0 := Tryz.isAgg0
  z0 := Tryz.sizeOf0
  v0 := Tryz.zeroValue0
  t3 := Tryz.underlying3
  a3 := Tryz.isAgg3
  z3 := Tryz.sizeOf3
  v3 := Tryz.zeroValue3
  t4 := Tryz.underlying4
  a4 := Tryz.isAgg4
  z4 := Tryz.sizeOf4
  v4 := Tryz.zeroValue4
  t5 := Tryz.underlying5
  a5 := Tryz.isAgg5
  z5 := Tryz.sizeOf5
  v5 := Tryz.zeroValue5
  t9 := Tryz.underlying9
  a9 := Tryz.isAgg9
  z9 := Tryz.sizeOf9
  v9 := Tryz.zeroValue9
  t20 := Tryz.underlying20
  a20 := Tryz.isAgg20
  z20 := Tryz.sizeOf20
  v20 := Tryz.zeroValue20
  t21 := Tryz.underlying21
  a21 := Tryz.isAgg21
  z21 := Tryz.sizeOf21
  v21 := Tryz.zeroValue21
  t37 := Tryz.underlying259
  a37 := Tryz.isAgg259
  z37 := Tryz.sizeOf259
  v37 := Tryz.zeroValue259
  t46 := Tryz.underlying79
  a46 := Tryz.isAgg79
  z46 := Tryz.sizeOf79
  v46 := Tryz.zeroValue79
  t51 := Tryz.underlying252
  a51 := Tryz.isAgg252
  z51 := Tryz.sizeOf252
  v51 := Tryz.zeroValue252
  t70 := Tryz.underlying258
  a70 := Tryz.isAgg258
  z70 := Tryz.sizeOf258
  v70 := Tryz.zeroValue258
  t72 := Tryz.underlying261
  a72 := Tryz.isAgg261
  z72 := Tryz.sizeOf261
  v72 := Tryz.zeroValue261
  t75 := Tryz.underlying263
  a75 := Tryz.isAgg263
  z75 := Tryz.sizeOf263
  v75 := Tryz.zeroValue263
  t164 := Tryz.underlying269
  a164 := Tryz.isAgg269
  z164 := Tryz.sizeOf269
  v164 := Tryz.zeroValue269
}
theorem laidW169 : Lays.n169 Tryz.prog layW := {
  mixed := by kernel_rfl
  f169 := Tryz.func220.trans (congrArg some (by kernel_rfl))
  t0 := Tryz.underlying0
  a0 := Tryz.isAgg0
  z0 := Tryz.sizeOf0
  v0 := Tryz.zeroValue0
  t3 := Tryz.underlying3
  a3 := Tryz.isAgg3
  z3 := Tryz.sizeOf3
  v3 := Tryz.zeroValue3
  t9 := Tryz.underlying9
  a9 := Tryz.isAgg9
  z9 := Tryz.sizeOf9
  v9 := Tryz.zeroValue9
  t37 := Tryz.underlying259
  a37 := Tryz.isAgg259
  z37 := Tryz.sizeOf259
  v37 := Tryz.zeroValue259
  t70 := Tryz.underlying258
  a70 := Tryz.isAgg258
  z70 := Tryz.sizeOf258
  v70 := Tryz.zeroValue258
  t72 := Tryz.underlying261
  a72 := Tryz.isAgg261
  z72 := Tryz.sizeOf261
  v72 := Tryz.zeroValue261
  t127 := Tryz.underlying268
  a127 := Tryz.isAgg268
  z127 := Tryz.sizeOf268
  v127 := Tryz.zeroValue268
}
theorem extraW : Builder.Extra Tryz.prog layW := {
  sizeBuilder := by kernel_rfl
  liesBuilder := by kernel_rfl
  t5 := Tryz.underlying5
  a5 := Tryz.isAgg5
  z5 := Tryz.sizeOf5
  v5 := Tryz.zeroValue5
  infoByte := by kernel_rfl
  cellsByte := by kernel_rfl
  sizeByte := by kernel_rfl
  neB5 := by decide }
def Bd (w : World) (B b : Nat) (l : List UInt8) : Prop := Lib.IsBuilderF 261 5 B b (Lib.byteCells l) w
theorem rune_byte (t : Bool) : Lib.runeCells (if t then 124 else 46) = Lib.byteCells [mark t] := by cases t <;> rfl
theorem write_any (B b : Nat) (l : List UInt8) (t : Bool) (w : World) (h : Bd w B b l) (hl : l.length ≤ 1000000) (hB : B ≤ w.heap.size) :
    Calls Tryz.prog 219 #[.pointer (some ⟨b, 0, none⟩), .int .i32 (if t then 124 else 46)] w fun e w' => (∃ v, e = .returned v) ∧ Bd w' B b (l ++ [mark t]) ∧ Below B w w' := by
  refine (Any.Builder_WriteRune_k laidW168 extraW B b (Lib.byteCells l) (if t then 124 else 46) (by cases t <;> decide) (by cases t <;> decide) w h (by rw [Lib.byteCells_length]; omega) hB).mono ?_
  rintro e w' ⟨h1, h2, h3, _⟩
  refine ⟨⟨_, h1⟩, ?_, h3⟩
  unfold Bd
  rw [Lib.byteCells_append, ← rune_byte]
  exact .inr h2
theorem string_any (B b : Nat) (l : List UInt8) (w : World) (h : Bd w B b l) (hB : B ≤ w.heap.size) :
    Calls Tryz.prog 220 #[.pointer (some ⟨b, 0, none⟩)] w fun e w' => e = .returned (.string ⟨l.toArray⟩) ∧ Below B w w' :=
  (Any.Builder_String_any_f laidW169 extraW B b l w h hB).mono fun _ _ k => ⟨k.1, k.2.2⟩
@[go_sem] theorem eql_nil (w : World) (a : Option Addr) (n c n' c' : Nat) : (binOp .eql 34 (.slice a n c) (.slice none n' c')).run Tryz.prog w = .ok (.bool a.isNone) w := Lib.run_eql_slice_nil w _ _ a n c n' c' Tryz.underlying34
set_option maxHeartbeats 800000 in
theorem clone_any (l : List Bool) (x : Value) (w : World) (hx : Bl w x l) (hn : l.length ≤ 1000000) :
    Calls Tryz.prog 101 #[x] w fun e w' => ∃ v, e = .returned v ∧ OwnB w' w.heap.size v l ∧ Below w.heap.size w w' := by
  rcases hx.src.2 with ⟨rfl, h0⟩ | ⟨ad, c, rfl, _⟩
  · have hl : l = [] := List.eq_nil_of_length_eq_zero h0
    subst hl
    go_enter Tryz.func101, Tryz.ntmps101
    go_wp2_with fail
    go_ret
    exact ⟨_, rfl, OwnB.nil _ _, Below.refl _ _⟩
  · have HX := Lib.hid hx.src
    clear hx
    go_enter Tryz.func101, Tryz.ntmps101
    go_wp2_with (at_builtin; refine wp_append_bools rfl rfl w.heap.size _ [] rfl (World.ownsRow_made w #[] 0 (Nat.le_refl _) (Nat.zero_le _) rfl) _ l rfl (HX.out.kept ((Below.refl _ _).alloc (Nat.le_refl _) _)) (by simp; omega) (by simp) ?_; intro v1 w1 ho1 hg1 hat1)
    go_ret
    refine ⟨_, rfl, ho1, ?_⟩
    exact ((Below.refl _ w).alloc (Nat.le_refl _) _).grown hg1 (by simp) (by intro k hk; have hk : some w.heap.size = some k := hk; injection hk with hk; omega)
end Tab
end
section
open Go.RowKit
namespace Tab
def Whole (w : World) (b : Nat) (l : List Bool) : Prop := w.heap[b]? = some (.cells (bools l).toArray 4 (0, 0))
theorem Whole.own {w : World} {b : Nat} {l : List Bool} (h : Whole w b l) {base : Nat} (hb : base ≤ b) (hl : l.length ≤ 1000000) : OwnB w base (.slice (some ⟨b, 0, none⟩) l.length l.length) l := by
  refine ⟨by rw [bools_length, Nat.mul_one], .inr ⟨b, l.length, _, rfl, hb, h, Nat.le_refl _, by simp only [maxLen]; omega, ?_, ?_⟩⟩
  · simp [bools_length]
  · rw [Nat.mul_one, ← bools_length l]; simp
theorem Whole.of {w : World} {base b : Nat} {l : List Bool} (h : w.ownsRow base 4 1 (.slice (some ⟨b, 0, none⟩) l.length l.length) l.length (bools l)) : Whole w b l := by
  rcases h.2 with ⟨e, _⟩ | ⟨b', cap, cur, e, _, hg, _, _, hs, ht⟩
  · injection e with e; cases e
  · injection e with e1 e2 e3
    injection e1 with e1
    injection e1 with e1
    subst e1
    subst e3
    unfold Whole
    rw [hg]
    have : cur.toList = bools l := by
      rw [← ht, List.take_of_length_le (by rw [Array.length_toList, hs]; exact Nat.le_refl _)]
    rw [← this]
def laidTo (l : List Bool) (n k : Nat) : List Bool := (grownOf l n).take k ++ List.replicate (n - k) false
theorem Whole.set {w : World} {b : Nat} {l : List Bool} (h : Whole w b l) (k : Nat) (t : Bool) : Whole (w.setCell ⟨b, k, none⟩ (.bool t)) b (l.set k t) := by
  have := Blk.set h k (.bool t)
  unfold Whole
  rw [this]
  congr 2
  simp [bools, List.map_set]
end Tab
end
section
open Go.RowKit
namespace Tab
def anewOf (n : Int) : List Bool := if rng n 1 40 then grownOf [] n.toNat else []
def cutOk (l : List Bool) (n : Int) : Bool := okB l && rng n 1 40
def cutOf (l : List Bool) (n : Int) : List Bool := if cutOk l n then grownOf l n.toNat else []
def setOk (l : List Bool) (a : Int) : Bool := okB l && rng a 0 (l.length - 1)
def setOf (l : List Bool) (a : Int) (t : Bool) : List Bool := if setOk l a then l.set a.toNat t else []
end Tab
end
end Go.Proofs.YtceaoadlhdgnmaaGreatDoor
