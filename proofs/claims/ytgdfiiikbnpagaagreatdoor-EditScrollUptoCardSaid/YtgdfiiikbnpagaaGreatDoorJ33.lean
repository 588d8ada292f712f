/- Joined texts: TabLib, TabNew, TabSet. -/
import Derived.Test.YtgdfiiikbnpagaaGreatDoorJ11
import Derived.Shelf.Strings.BuilderRune
import Derived.Shelf.Strings.BuilderF
import Derived.Lib.SliceRun
import Derived.Laws.CopyRow
import Derived.Laws.CopyOwn
section
/- The library's strings.Builder (WriteRune, String), laid at this program; its Clone of truths. -/
namespace Go.Proofs.YtgdfiiikbnpagaaGreatDoor
set_option maxRecDepth 100000
open Go.RowKit
namespace Tab

@[go_sem] theorem eql_nil (w : World) (a : Option Addr) (n c n' c' : Nat) : (binOp .eql 35 (.slice a n c) (.slice none n' c')).run Tryz.prog w = .ok (.bool a.isNone) w := Lib.run_eql_slice_nil w _ _ a n c n' c' Tryz.underlying35
set_option maxHeartbeats 800000 in
theorem clone_any (l : List Bool) (x : Value) (w : World) (hx : Bl w x l) (hn : l.length ≤ 1000000) :
    Calls Tryz.prog 39 #[x] w fun e w' => ∃ v, e = .returned v ∧ OwnB w' w.heap.size v l ∧ Below w.heap.size w w' := by
  rcases hx.src.2 with ⟨rfl, h0⟩ | ⟨ad, c, rfl, _⟩
  · have hl : l = [] := List.eq_nil_of_length_eq_zero h0
    subst hl
    go_enter Tryz.func39, Tryz.ntmps39
    go_wp2_with fail
    go_ret
    exact ⟨_, rfl, OwnB.nil _ _, Below.refl _ _⟩
  · have HX := Lib.hid hx.src
    clear hx
    go_enter Tryz.func39, Tryz.ntmps39
    go_wp2_with (at_builtin; refine wp_append_bools rfl rfl w.heap.size _ [] rfl (World.ownsRow_made w #[] 0 (Nat.le_refl _) (Nat.zero_le _) rfl) _ l rfl (HX.out.kept ((Below.refl _ _).alloc (Nat.le_refl _) _)) (by simp; omega) (by simp) ?_; intro v1 w1 ho1 hg1 hat1)
    go_ret
    refine ⟨_, rfl, ho1, ?_⟩
    exact ((Below.refl _ w).alloc (Nat.le_refl _) _).grown hg1 (by simp) (by intro k hk; have hk : some w.heap.size = some k := hk; injection hk with hk; omega)
end Tab
end Go.Proofs.YtgdfiiikbnpagaaGreatDoor
end
section
/- New stops: grown, New, Resize, Set. -/
namespace Go.Proofs.YtgdfiiikbnpagaaGreatDoor
set_option maxRecDepth 100000
open Go.RowKit
namespace Tab

/-- Block b holds these truths and nothing else. -/
def Whole (w : World) (b : Nat) (l : List Bool) : Prop := w.heap[b]? = some (.cells (bools l).toArray 4 (0, 0))
theorem Whole.own {w : World} {b : Nat} {l : List Bool} (h : Whole w b l) {base : Nat} (hb : base ≤ b) (hl : l.length ≤ 1000000) : OwnB w base (.slice (some ⟨b, 0, none⟩) l.length l.length) l := by
  refine ⟨by rw [bools_length, Nat.mul_one], .inr ⟨b, l.length, _, rfl, hb, h, Nat.le_refl _, by simp only [maxLen]; omega, ?_, ?_⟩⟩
  · simp [bools_length]
  · rw [Nat.mul_one, ← bools_length l]; simp
theorem Whole.of {w : World} {base b : Nat} {l : List Bool} (h : w.ownsRow base 4 1 (.slice (some ⟨b, 0, none⟩) l.length l.length) l.length (bools l)) : Whole w b l := by
  rcases h.2 with ⟨e, _⟩ | ⟨b', cap, cur, e, _, hg, _, _, hs, ht⟩
  · injection e with e; cases e
  · injection e with e1 e2 e3
    injection e1 with e1
    injection e1 with e1
    subst e1
    subst e3
    unfold Whole
    rw [hg]
    have : cur.toList = bools l := by
      rw [← ht, List.take_of_length_le (by rw [Array.length_toList, hs]; exact Nat.le_refl _)]
    rw [← this]
/-- So far laid: the columns behind are bare. -/
def laidTo (l : List Bool) (n k : Nat) : List Bool := (grownOf l n).take k ++ List.replicate (n - k) false
theorem Whole.set {w : World} {b : Nat} {l : List Bool} (h : Whole w b l) (k : Nat) (t : Bool) : Whole (w.setCell ⟨b, k, none⟩ (.bool t)) b (l.set k t) := by
  have := Blk.set h k (.bool t)
  unfold Whole
  rw [this]
  congr 2
  simp [bools, List.map_set]
end Tab
end Go.Proofs.YtgdfiiikbnpagaaGreatDoor
end
section
/- Stops anew, cut or made longer, and one set. -/
namespace Go.Proofs.YtgdfiiikbnpagaaGreatDoor
set_option maxRecDepth 100000
open Go.RowKit
namespace Tab

def anewOf (n : Int) : List Bool := if rng n 1 40 then grownOf [] n.toNat else []
def cutOk (l : List Bool) (n : Int) : Bool := okB l && rng n 1 40
def cutOf (l : List Bool) (n : Int) : List Bool := if cutOk l n then grownOf l n.toNat else []
def setOk (l : List Bool) (a : Int) : Bool := okB l && rng a 0 (l.length - 1)
def setOf (l : List Bool) (a : Int) (t : Bool) : List Bool := if setOk l a then l.set a.toNat t else []
end Tab
end Go.Proofs.YtgdfiiikbnpagaaGreatDoor
end
