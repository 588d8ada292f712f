/- The keys' laws' argument, opened; a world that holds the library's tables that its rows list, for the witness. -/
import Derived.Test.YtkkpdfjbgiijlaaDoorKeyLawB
import Derived.Test.YtkkpdfjbgiijlaaDoorFine
import Derived.MakeChecks
import Derived.LaidLaws
namespace Go.Proofs.YtkkpdfjbgiijlaaDoor
set_option maxRecDepth 100000
open Go.ChangeShapes Go.WideShapes Go.RowKit Tri KeyM
namespace Key

theorem open_ask {W : World} {cs : List Value} (h : Fine Tryd.prog W 25 cs) : ∃ (x : Value) (m : Int) (y : Value) (K : List T3) (S : List ByteArray), cs = [x, .int .i64 m, y] ∧ Ts W x K ∧ (∀ i, i < K.length → (g K i).Small) ∧ I64 m ∧ Strs W y S ∧
    K.length ≤ 140737488355328 ∧ (S.length + 2) * 16 ≤ 140737488355328 ∧ ∀ k, k < S.length → (S.getD k ByteArray.empty).size ≤ 140737488355328 := by
  have hu := Tryd.underlying25
  have hl := h.len hu
  rw [show Tryd.prog.cellsOf 25 = 3 by kernel_rfl] at hl
  match cs, hl with
  | [x, b, y], _ =>
    have h0 : Fine Tryd.prog W 22 [x] := h.part hu 0 (t' := 22) (o := 0) (c := 1) rfl rfl rfl (by kernel_rfl)
    have h1 : Fine Tryd.prog W 3 [b] := h.part hu 1 (t' := 3) (o := 1) (c := 1) rfl rfl rfl (by kernel_rfl)
    have h2 : Fine Tryd.prog W 23 [y] := h.part hu 2 (t' := 23) (o := 2) (c := 1) rfl rfl rfl (by kernel_rfl)
    obtain ⟨K, k1, k2, k3, _⟩ := KeyM.fine_ts h0
    obtain ⟨m, e1, hm⟩ := h1.int Tryd.underlying3
    obtain rfl : b = .int .i64 m := by simpa using e1
    obtain ⟨S, s1, s2, s3⟩ := h2.texts Tryd.underlying23 Tryd.underlying9 (by kernel_rfl) (by kernel_rfl)
    refine ⟨x, m, y, K, S, rfl, k1, k3, i64_bd hm, s1, ?_, ?_, fun k hk => ?_⟩
    · unfold reachBytes at k2; omega
    · unfold reachBytes at s2; omega
    · have := s3 k hk; unfold reachBytes at this; omega
/-- A table's numbers. -/
def litsOf : DataW Unit → List Value
  | .agg l => l.map fun | .lit (.int k n) => .int k n | _ => undef
  | _ => []
noncomputable def laidWorld (os : Os) : World :=
  let w0 := World.holding Tryd.prog os ⟨#[], #[], []⟩
  { w0 with heap := ((w0.heap.modify 1 fun
      | .cells _ t frozen => .cells (litsOf Rows.laid_math_bits_deBruijn32tab).toArray t frozen
      | o => o).modify 2 fun
      | .cells _ t frozen => .cells (litsOf Rows.laid_math_bits_deBruijn64tab).toArray t frozen
      | o => o).modify 0 fun
      | .cells _ t frozen => .cells (litsOf Rows.laid_internal_strconv_uint64pow10).toArray t frozen
      | o => o }
theorem laid_met (os : Os) (args : Array Value) : laidMet Tryd.prog Rows.keyBytesRow.laid ((laidWorld os).forCall (fun _ _ => 0) ⟨#[], args, []⟩).memory :=
  laidMet_of_run' 8 (by kernel_rfl) (by kernel_rfl)
end Key
end Go.Proofs.YtkkpdfjbgiijlaaDoor
