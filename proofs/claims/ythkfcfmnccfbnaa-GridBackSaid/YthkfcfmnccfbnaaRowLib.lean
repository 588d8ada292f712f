/- The library's Clone, Grow, Concat and Repeat at cells of a row. -/
import Derived.Test.YthkfcfmnccfbnaaRowMem
import Derived.Lib.AppendZerosOnto
import Derived.Lib.SliceRun
import Derived.Lib.Walk
namespace Go.Proofs.Ythkfcfmnccfbnaa
set_option maxRecDepth 100000
open Go.RowKit
namespace Row

@[go_sem] theorem eql_nil (w : World) (a : Option Addr) (n c n' c' : Nat) : (binOp .eql 22 (.slice a n c) (.slice none n' c')).run Try.prog w = .ok (.bool a.isNone) w := Lib.run_eql_slice_nil w _ _ a n c n' c' Try.underlying22
set_option maxHeartbeats 800000 in
theorem clone_any (l : List Cl) (x : Value) (w : World) (hx : Cs w x l) (hn : l.length ≤ 1000000) :
    Calls Try.prog 50 #[x] w fun e w' => ∃ v, e = .returned v ∧ OwnCs w' w.heap.size v l ∧ Below w.heap.size w w' := by
  rcases hx.2.2 with ⟨rfl, h0⟩ | ⟨ad, c, rfl, _⟩
  · have hl : l = [] := List.eq_nil_of_length_eq_zero h0
    subst hl
    go_enter Try.func50, Try.ntmps50
    go_wp2_with fail
    go_ret
    exact ⟨_, rfl, OwnCs.nil _ _, Below.refl _ _⟩
  · have HX := Lib.hid hx
    clear hx
    go_enter Try.func50, Try.ntmps50
    go_wp2_with (at_builtin; refine wp_append_cs rfl rfl w.heap.size _ _ [] l rfl (World.ownsRow_made w #[] 0 (Nat.le_refl _) (Nat.zero_le _) rfl) rfl (HX.out.kept ((Below.refl _ _).alloc (Nat.le_refl _) _)) (by simp; omega) (by simp) ?_; intro v1 w1 ho1 hg1 hat1)
    go_ret
    refine ⟨_, rfl, ho1, ?_⟩
    exact ((Below.refl _ w).alloc (Nat.le_refl _) _).grown hg1 (by simp) (by intro k hk; have hk : some w.heap.size = some k := hk; injection hk with hk; omega)
end Row
end Go.Proofs.Ythkfcfmnccfbnaa
