/- Of any grid (or not) and acts the law on grids moved up and down again answers true, and leaves them as they were: rows moved down that were moved up are where they were, but for those that are gone, and a grid resized to its own size is the same. No condition. -/
import Derived.Test.YthkfcfmnccfbnaaGrdBack
import Derived.Test.YthkfcfmnccfbnaaRowFine
import Derived.Test.YthkfcfmnccfbnaaLaw
import Derived.SizedLaws
namespace Go.Proofs.Ythkfcfmnccfbnaa
set_option maxRecDepth 100000
open Go.ChangeShapes Go.WideShapes Go.ChangeAt Go.RowKit
namespace gridBack

theorem readable : Try.prog.readableRec 27 = true := by kernel_rfl
theorem inTable : 27 < Try.prog.types.size := of_decide_eq_true (by kernel_rfl)
theorem contract (H : Type) (enc : TypeId × Value → H) (W : World) (base : Nat) (args : Array Value) (ds gs : List (DataW H)) (before : List MemPlace)
    (hval : ∀ (j : Nat) t v, Try.f3.params[j]? = some t → args[j]? = some v → Value.okWide Try.prog W .any base t v)
    (hW : DataW.Whole enc Try.prog Try.f3.params.toList Rows.gridBackSpec.vars false W args.toList ds gs before)
    (hsz : (DataW.weightsEach Try.prog (Try.f3.params.toList ++ Rows.gridBackSpec.plain.varTypes Try.prog) (ds ++ gs)).all (· ≤ reachBytes) = true) :
    Calls Try.prog 3 args W fun e W' => ∃ v, e = .returned v ∧ Rows.gridBackSpec.post enc Try.prog Try.f3 false true false false W args v W' := by
  have hW' := hW
  obtain ⟨p, q, hA0, hV, rfl, hfz, hnd⟩ := hW
  have hA : DataW.TrodAll enc Try.prog W 0 (fun _ => true) true Try.f3.params.toList args.toList ds p := hA0
  rw [Try.params3] at hA hval hsz
  obtain ⟨v0, vs0, d0, ds0, p0, q0, hargs, rfl, rfl, h0, r0⟩ := trodAll_cons hA
  obtain ⟨rfl, rfl, rfl⟩ := trodAll_nil r0
  obtain rfl : args = #[v0] := by cases args; simp_all
  obtain ⟨rfl, rfl⟩ := trodVars_none hV
  simp only [List.append_nil] at hW' h0
  rw [List.append_nil] at hsz
  have done : ∀ W' : World, Below W.heap.size W W' → Rows.gridBackSpec.post enc Try.prog Try.f3 false true false false W #[v0] (.bool true) W' := fun W' hB =>
    law_post Try.laidOut readable inTable Try.params3 (by kernel_rfl) Try.underlying4 rfl ⟨rfl, rfl, rfl⟩ hW' h0 hB
  obtain ⟨cs, rfl, hF⟩ := RowF.arg_fine (bnd := reachBytes) Try.underlying27 (hval 0 27 v0 rfl rfl) h0 hsz (.inr (Nat.le_refl _))
  obtain ⟨r, c, x, y, rfl, _, _, ⟨l, hx, hl⟩, t, hy, hm⟩ := Row.open_script hF
  refine (Row.lawBack_any r c x y l t W hx hy ⟨hl.1, fun i hi => Nat.le_trans (hl.2 i hi) (by unfold reachBytes; decide)⟩ hm).mono fun e W' ⟨he, hB⟩ => ?_
  subst he
  exact ⟨_, rfl, done _ hB⟩

set_option maxRecDepth 100000 in
theorem lifted (os : Os) (started : os.Started) (H : Type) (enc : TypeId × Value → H) :
    ReturnsInHanded {} Try.checked os 3 .any (Rows.gridBackSpec.pre6 enc Try.prog Try.f3 Rows.gridBackRow.domain false) (Rows.gridBackSpec.post enc Try.prog Try.f3 false true false false) := by
  refine returnsInHanded_of_change_sized (C := Try.checked) Try.own started (by kernel_rfl) Try.func3
    (ChangeSpec.witness6 (enc := enc) (C := Try.checked) false ⟨#[], #[.agg #[.int .i64 0, .int .i64 0, .slice none 0 0, .slice none 0 0]], []⟩ 8 (by kernel_rfl) (by kernel_rfl) (by kernel_rfl) (by kernel_rfl)) ?_
  intro W base args ds gs before hval hW _ hsz _
  exact contract H enc W base args ds gs before hval hW hsz
theorem said : Rows.GridBackSaid :=
  OpenClaim.holds_of_wide 3 Try.f3 rfl rfl rfl rfl rfl rfl rfl ⟨rfl, rfl, rfl, rfl, rfl⟩ rfl rfl rfl rfl rfl (by kernel_rfl) Try.func3 (by kernel_rfl)
    (of_decide_eq_true (by kernel_rfl)) (by unfold Func.isWrapper; first | (rw [if_pos (by decide +kernel)]; kernel_rfl) | (rw [if_neg (by decide +kernel)]; exact ⟨rfl, rfl⟩))
    (fun os started H enc _ => lifted os started H enc)
end gridBack
end Go.Proofs.Ythkfcfmnccfbnaa
