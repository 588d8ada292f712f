/- Of any texts and numbers the law on widths of texts answers true, and leaves them as they were: a text's width is the sum of its runes', and with two letters behind a valid one two more. No condition. -/
import Derived.Test.YtodecjdcaaonoaaWidLawT
import Derived.Test.YtodecjdcaaonoaaWidAsk
import Derived.SizedLaws
namespace Go.Proofs.Ytodecjdcaaonoaa
open Go.ChangeShapes Go.WideShapes Go.ChangeAt Go.RowKit
namespace widthText

theorem readable : Try.prog.readableRec 27 = true := by kernel_rfl
theorem inTable : 27 < Try.prog.types.size := of_decide_eq_true (by kernel_rfl)
theorem contract (H : Type) (enc : TypeId × Value → H) (W : World) (base : Nat) (args : Array Value) (ds gs : List (DataW H)) (before : List MemPlace)
    (hval : ∀ (j : Nat) t v, Try.f4.params[j]? = some t → args[j]? = some v → Value.okWide Try.prog W .any base t v)
    (hW : DataW.Whole enc Try.prog Try.f4.params.toList Rows.widthTextSpec.vars false W args.toList ds gs before)
    (hsz : (DataW.weightsEach Try.prog (Try.f4.params.toList ++ Rows.widthTextSpec.plain.varTypes Try.prog) (ds ++ gs)).all (· ≤ reachBytes) = true) :
    Calls Try.prog 4 args W fun e W' => ∃ v, e = .returned v ∧ Rows.widthTextSpec.post enc Try.prog Try.f4 false true false false W args v W' := by
  have hW' := hW
  obtain ⟨p, q, hA0, hV, rfl, hfz, hnd⟩ := hW
  have hA : DataW.TrodAll enc Try.prog W 0 (fun _ => true) true Try.f4.params.toList args.toList ds p := hA0
  rw [Try.params4] at hA hval hsz
  obtain ⟨v0, vs0, d0, ds0, p0, q0, hargs, rfl, rfl, h0, r0⟩ := trodAll_cons hA
  obtain ⟨rfl, rfl, rfl⟩ := trodAll_nil r0
  obtain rfl : args = #[v0] := by cases args; simp_all
  obtain ⟨rfl, rfl⟩ := trodVars_none hV
  simp only [List.append_nil] at hW' h0
  rw [List.append_nil] at hsz
  have done : ∀ W' : World, Below W.heap.size W W' → Rows.widthTextSpec.post enc Try.prog Try.f4 false true false false W #[v0] (.bool true) W' := fun W' hB =>
    law_post Try.laidOut readable inTable Try.params4 (by kernel_rfl) Try.underlying4 rfl ⟨rfl, rfl, rfl⟩ hW' h0 hB
  obtain ⟨cs, rfl, hF⟩ := arg_fine Try.underlying27 (hval 0 27 v0 rfl rfl) h0 hsz
  obtain ⟨x, y, rfl, hx, _⟩ := Wid.open_ask hF
  obtain ⟨ss, hs, hn, hk⟩ := hx.texts Try.underlying22 Try.underlying9 Wid.Try.cellsStr Wid.Try.bytesStr
  refine (Wid.lawText_any (y := y) ss W hs (by unfold reachBytes at hn; omega) (fun k hk' => by have := hk k hk'; unfold reachBytes at this; omega)).mono fun e W' ⟨he, hB⟩ => ?_
  subst he
  exact ⟨_, rfl, done _ hB⟩

set_option maxRecDepth 100000 in
theorem lifted (os : Os) (started : os.Started) (H : Type) (enc : TypeId × Value → H) :
    ReturnsInHanded {} Try.checked os 4 .any (Rows.widthTextSpec.pre6 enc Try.prog Try.f4 Rows.widthTextRow.domain false) (Rows.widthTextSpec.post enc Try.prog Try.f4 false true false false) := by
  refine returnsInHanded_of_change_sized (C := Try.checked) Try.own started (by kernel_rfl) Try.func4
    (ChangeSpec.witness6 (enc := enc) (C := Try.checked) false ⟨#[], #[.agg #[.slice none 0 0, .slice none 0 0]], []⟩ 8 (by kernel_rfl) (by kernel_rfl) (by kernel_rfl) (by kernel_rfl)) ?_
  intro W base args ds gs before hval hW _ hsz _
  exact contract H enc W base args ds gs before hval hW hsz
theorem said : Rows.WidthTextSaid :=
  OpenClaim.holds_of_wide 4 Try.f4 rfl rfl rfl rfl rfl rfl rfl ⟨rfl, rfl, rfl, rfl, rfl⟩ rfl rfl rfl rfl rfl (by kernel_rfl) Try.func4 (by kernel_rfl)
    (of_decide_eq_true (by kernel_rfl)) (by unfold Func.isWrapper; first | (rw [if_pos (by decide +kernel)]; kernel_rfl) | (rw [if_neg (by decide +kernel)]; exact ⟨rfl, rfl⟩))
    (fun os started H enc _ => lifted os started H enc)
end widthText
end Go.Proofs.Ytodecjdcaaonoaa
