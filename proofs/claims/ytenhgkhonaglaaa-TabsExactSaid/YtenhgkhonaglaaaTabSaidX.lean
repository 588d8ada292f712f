/- Of any stops (or not) and any numbers the law 'TabsExact' answers true, and leaves them as they were: whatever stops are set, asked, cut and made longer, each call tells what the page says, or refuses. No condition. -/
import Derived.Test.YtenhgkhonaglaaaTabLawX
import Derived.Test.YtenhgkhonaglaaaFine
import Derived.Test.YtenhgkhonaglaaaLaw
import Derived.SizedLaws
namespace Go.Proofs.Ytenhgkhonaglaaa
set_option maxRecDepth 100000
open Go.ChangeShapes Go.WideShapes Go.ChangeAt Go.RowKit
namespace tabsExact

theorem readable : Try.prog.readableRec 44 = true := by kernel_rfl
theorem inTable : 44 < Try.prog.types.size := of_decide_eq_true (by kernel_rfl)
theorem contract (H : Type) (enc : TypeId × Value → H) (W : World) (base : Nat) (args : Array Value) (ds gs : List (DataW H)) (before : List MemPlace)
    (hval : ∀ (j : Nat) t v, Try.f4.params[j]? = some t → args[j]? = some v → Value.okWide Try.prog W .any base t v)
    (hW : DataW.Whole enc Try.prog Try.f4.params.toList Rows.tabsExactSpec.vars false W args.toList ds gs before)
    (hsz : (DataW.weightsEach Try.prog (Try.f4.params.toList ++ Rows.tabsExactSpec.plain.varTypes Try.prog) (ds ++ gs)).all (· ≤ reachBytes) = true) :
    Calls Try.prog 4 args W fun e W' => ∃ v, e = .returned v ∧ Rows.tabsExactSpec.post enc Try.prog Try.f4 false true false false W args v W' := by
  have hW' := hW
  obtain ⟨p, q, hA0, hV, rfl, hfz, hnd⟩ := hW
  have hA : DataW.TrodAll enc Try.prog W 0 (fun _ => true) true Try.f4.params.toList args.toList ds p := hA0
  rw [Try.params4] at hA hval hsz
  obtain ⟨v0, vs0, d0, ds0, p0, q0, hargs, rfl, rfl, h0, r0⟩ := trodAll_cons hA
  obtain ⟨rfl, rfl, rfl⟩ := trodAll_nil r0
  obtain rfl : args = #[v0] := by cases args; simp_all
  obtain ⟨rfl, rfl⟩ := trodVars_none hV
  simp only [List.append_nil] at hW' h0
  rw [List.append_nil] at hsz
  have done : ∀ W' : World, Below W.heap.size W W' → Rows.tabsExactSpec.post enc Try.prog Try.f4 false true false false W #[v0] (.bool true) W' := fun W' hB =>
    law_post Try.laidOut readable inTable Try.params4 (by kernel_rfl) Try.underlying4 rfl ⟨rfl, rfl, rfl⟩ hW' h0 hB
  obtain ⟨cs, rfl, hF⟩ := arg_fine Try.underlying44 (hval 0 44 v0 rfl rfl) h0 hsz
  obtain ⟨x, y, rfl, ⟨l, hx, hl⟩, t, hy, ht, _⟩ := Tab.open_script hF
  refine (Tab.lawExact_any x y l t W hx hy (Nat.le_trans hl (by unfold reachBytes; decide)) (Nat.le_trans ht (by unfold reachBytes; decide))).mono fun e W' ⟨he, hB⟩ => ?_
  subst he
  exact ⟨_, rfl, done _ hB⟩

set_option maxRecDepth 100000 in
theorem lifted (os : Os) (started : os.Started) (H : Type) (enc : TypeId × Value → H) :
    ReturnsInHanded {} Try.checked os 4 .any (Rows.tabsExactSpec.pre6 enc Try.prog Try.f4 Rows.tabsExactRow.domain false) (Rows.tabsExactSpec.post enc Try.prog Try.f4 false true false false) := by
  refine returnsInHanded_of_change_sized (C := Try.checked) Try.own started (by kernel_rfl) Try.func4
    (ChangeSpec.witness6 (enc := enc) (C := Try.checked) false ⟨#[], #[.agg #[.slice none 0 0, .slice none 0 0]], []⟩ 8 (by kernel_rfl) (by kernel_rfl) (by kernel_rfl) (by kernel_rfl)) ?_
  intro W base args ds gs before hval hW _ hsz _
  exact contract H enc W base args ds gs before hval hW hsz
theorem said : Rows.TabsExactSaid :=
  OpenClaim.holds_of_wide 4 Try.f4 rfl rfl rfl rfl rfl rfl rfl ⟨rfl, rfl, rfl, rfl, rfl⟩ rfl rfl rfl rfl rfl (by kernel_rfl) Try.func4 (by kernel_rfl)
    (of_decide_eq_true (by kernel_rfl)) (by unfold Func.isWrapper; first | (rw [if_pos (by decide +kernel)]; kernel_rfl) | (rw [if_neg (by decide +kernel)]; exact ⟨rfl, rfl⟩))
    (fun os started H enc _ => lifted os started H enc)
end tabsExact
end Go.Proofs.Ytenhgkhonaglaaa
