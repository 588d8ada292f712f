/- The statements' EqGrid of grids alike. -/
import Derived.Test.YthkfcfmnccfbnaaGrdMem
namespace Go.Proofs.Ythkfcfmnccfbnaa
set_option maxRecDepth 100000
open Go.RowKit
namespace Row

/-- The same grid. -/
theorem eqGrid_same (R C : Int) (l : List Cl) (x y : Value) (w : World) (hx : Cs w x l) (hy : Cs w y l) (hn : l.length ≤ 100000000) :
    Calls Try.prog 10 #[.agg #[.int .i64 R, .int .i64 C, x], .agg #[.int .i64 R, .int .i64 C, y]] w fun e w' => e = .returned (.bool true) ∧ Below w.heap.size w w' := by
  have hW := ((Below.refl w.heap.size w).alloc (Nat.le_refl _) (gbox R C x)).alloc (by simp) (gbox R C y)
  have HC : Hid (Calls Try.prog 22 #[x, y] ((w.alloc (gbox R C x)).alloc (gbox R C y)) fun e w' => e = .returned (.bool true) ∧ Below w.heap.size w w') :=
    Lib.hid ((eqCells_same l x y _ (hx.kept hW) (hy.kept hW) hn).mono fun e w' ⟨h1, q, h2⟩ => ⟨h1, by subst h2; exact below_drewN hW q⟩)
  obtain ⟨A, c, rfl, _⟩ := hx.form
  obtain ⟨A', c', rfl, _⟩ := hy.form
  clear hx hy hW
  go_enter Try.func10, Try.ntmps10
  go_wp2_with fail
  refine HC.out.mono ?_; rintro e w1 ⟨rfl, hb⟩
  have HB := Lib.hid hb
  clear hb
  go_wp2_with fail
  go_ret
  exact ⟨rfl, HB.out⟩

end Row
end Go.Proofs.Ythkfcfmnccfbnaa
