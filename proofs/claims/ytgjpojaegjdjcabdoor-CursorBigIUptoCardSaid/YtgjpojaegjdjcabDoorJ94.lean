/- Joined texts: CurSaidBigI. -/
import Derived.Test.YtgjpojaegjdjcabDoorJ1
import Derived.Test.YtgjpojaegjdjcabDoorJ2
import Derived.Test.YtgjpojaegjdjcabDoorJ3
import Derived.Test.YtgjpojaegjdjcabDoorJ4
import Derived.Test.YtgjpojaegjdjcabDoorJ5
import Derived.Test.YtgjpojaegjdjcabDoorJ6
import Derived.Test.YtgjpojaegjdjcabDoorJ7
import Derived.Test.YtgjpojaegjdjcabDoorJ8
import Derived.Test.YtgjpojaegjdjcabDoorJ9
import Derived.Test.YtgjpojaegjdjcabDoorJ10
import Derived.Test.YtgjpojaegjdjcabDoorJ11
import Derived.Test.YtgjpojaegjdjcabDoorJ12
import Derived.Test.YtgjpojaegjdjcabDoorJ13
import Derived.Test.YtgjpojaegjdjcabDoorJ14
import Derived.Test.YtgjpojaegjdjcabDoorJ15
import Derived.Test.YtgjpojaegjdjcabDoorJ17
import Derived.Test.YtgjpojaegjdjcabDoorJ18
import Derived.Test.YtgjpojaegjdjcabDoorJ19
import Derived.Test.YtgjpojaegjdjcabDoorJ20
import Derived.Test.YtgjpojaegjdjcabDoorJ21
import Derived.Test.YtgjpojaegjdjcabDoorJ22
import Derived.Test.YtgjpojaegjdjcabDoorJ23
import Derived.Test.YtgjpojaegjdjcabDoorJ24
import Derived.Test.YtgjpojaegjdjcabDoorJ25
import Derived.Test.YtgjpojaegjdjcabDoorJ26
import Derived.Test.YtgjpojaegjdjcabDoorJ29
import Derived.Test.YtgjpojaegjdjcabDoorJ30
import Derived.Test.YtgjpojaegjdjcabDoorJ31
import Derived.Test.YtgjpojaegjdjcabDoorJ41
import Derived.Test.YtgjpojaegjdjcabDoorJ43
import Derived.Test.YtgjpojaegjdjcabDoorJ61
import Derived.Test.YtgjpojaegjdjcabDoorJ62
import Derived.Test.YtgjpojaegjdjcabDoorJ63
import Derived.Test.YtgjpojaegjdjcabDoorJ64
import Derived.Test.YtgjpojaegjdjcabDoorJ65
import Derived.Test.YtgjpojaegjdjcabDoorJ66
import Derived.Test.YtgjpojaegjdjcabDoorJ67
import Derived.Test.YtgjpojaegjdjcabDoorJ68
import Derived.Test.YtgjpojaegjdjcabDoorJ69
import Derived.Test.YtgjpojaegjdjcabDoorJ70
import Derived.Test.YtgjpojaegjdjcabDoorJ71
import Derived.Test.YtgjpojaegjdjcabDoorJ72
import Derived.Test.YtgjpojaegjdjcabDoorJ73
import Derived.Test.YtgjpojaegjdjcabDoorJ74
import Derived.Test.YtgjpojaegjdjcabDoorCards
import Derived.Test.YtgjpojaegjdjcabDoorTie
section
/- Of any screens of bulk at most 1048576 the law 'CursorBigI' answers true, and leaves them as they were: where the cursor of each of the first four is led by I, by six numbers each, is the page's, or refused. Conditions: the library's two tables of package utf8 hold what its text lays (the card ties them to it). -/
namespace Go.Proofs.YtgjpojaegjdjcabDoor
set_option maxRecDepth 100000
open Go.ChangeShapes Go.WideShapes Go.ChangeAt Go.RowKit
namespace cursorBigI

theorem readable : Tryd.prog.readableRec 24 = true := by kernel_rfl
theorem inTable : 24 < Tryd.prog.types.size := of_decide_eq_true (by kernel_rfl)
theorem contract (H : Type) (enc : TypeId × Value → H) (W : World) (base : Nat) (args : Array Value) (ds gs : List (DataW H)) (before : List MemPlace)
    (hval : ∀ (j : Nat) t v, Tryd.f9.params[j]? = some t → args[j]? = some v → Value.okWide Tryd.prog W .any base t v)
    (hW : DataW.Whole enc Tryd.prog Tryd.f9.params.toList Rows.cursorBigISpec.vars false W args.toList ds gs before)
    (hsz : (DataW.weightsEach Tryd.prog (Tryd.f9.params.toList ++ (OpenSpec.ofChange Rows.cursorBigISpec).bare.plain.varTypes Tryd.prog) (ds ++ gs)).all (· ≤ reachBytes) = true) (hk : Rows.uptoSmall H (ds ++ gs) = true) (hL : laidMetH Tryd.prog Rows.cursorBigIUptoRow.laid W) :
    Calls Tryd.prog 9 args W fun e W' => ∃ v, e = .returned v ∧ Rows.cursorBigISpec.post enc Tryd.prog Tryd.f9 false true false false W args v W' := by
  have hW' := hW
  obtain ⟨p, q, hA0, hV, rfl, hfz, hnd⟩ := hW
  have hA : DataW.TrodAll enc Tryd.prog W 0 (fun _ => true) true Tryd.f9.params.toList args.toList ds p := hA0
  rw [Tryd.params9] at hA hval hsz
  obtain ⟨v0, vs0, d0, ds0, p0, q0, hargs, rfl, rfl, h0, r0⟩ := trodAll_cons hA
  obtain ⟨rfl, rfl, rfl⟩ := trodAll_nil r0
  obtain rfl : args = #[v0] := by cases args; simp_all
  obtain ⟨rfl, rfl⟩ := trodVars_none hV
  simp only [List.append_nil] at hW' h0
  rw [List.append_nil] at hsz hk
  have hbk : Rows.uptoBulk d0 ≤ 1048576 := by
    have h : Rows.uptoBulkAll [d0] ≤ 1048576 := of_decide_eq_true hk
    simp only [Rows.uptoBulkAll] at h
    omega
  obtain ⟨cs, rfl, hF⟩ := RowF.arg_fine (bnd := 1048576) Tryd.underlying24 (hval 0 24 v0 rfl rfl) h0 hsz (.inl hbk)
  obtain ⟨v, n, m, k, r, rfl, _, l, hS, hl⟩ := Scr.open_ask8 hF
  refine (Scr.lawCursorBigI_any v l n m k r W hS hl (Row.tabs_of_laid hL)).mono fun e W' ⟨he, hB⟩ => ?_
  subst he
  exact ⟨_, rfl, law_post Tryd.laidOut readable inTable Tryd.params9 (by kernel_rfl) Tryd.underlying4 rfl ⟨rfl, rfl, rfl⟩ hW' h0 hB⟩

theorem reads (os : Os) {H : Type} (enc : TypeId × Value → H) : ∃ places, DataW.whole enc Tryd.prog ((Row.laidWorld os).forCall (fun _ _ => 0) ⟨#[], #[.agg #[.slice none 0 0, .int .i64 0, .int .i64 0, .int .i64 0, .int .i64 0]], []⟩).memory Tryd.f9.params.toList Rows.cursorBigISpec.vars false #[(.agg #[.slice none 0 0, .int .i64 0, .int .i64 0, .int .i64 0, .int .i64 0] : Value)].toList 8 = some ([.agg [.nil, .lit (.int .i64 0), .lit (.int .i64 0), .lit (.int .i64 0), .lit (.int .i64 0)]], [], places) :=
  ⟨[], by kernel_rfl⟩
set_option maxRecDepth 100000 in
theorem lifted (os : Os) (started : os.Started) (H : Type) (enc : TypeId × Value → H) (F : Stop.Interp) :
    ReturnsInHanded {} Tryd.checked os 9 .any ((Rows.OpenSpec.upto Rows.cursorBigISpec).preRow enc Tryd.prog Tryd.f9 Rows.cursorBigIUptoRow.domain false Rows.cursorBigIUptoRow.laid) (((Rows.OpenSpec.upto Rows.cursorBigISpec).at F).post enc Tryd.prog Tryd.f9 false true false false) := by
  obtain ⟨places, hx⟩ := reads os enc
  refine returnsInHanded_of_row (C := Tryd.checked) (s := Rows.OpenSpec.upto Rows.cursorBigISpec) Tryd.own started (by kernel_rfl) Tryd.func9
    (witness_row_at (enc := enc) (C := Tryd.checked) false (Row.laidWorld os) #[.agg #[.slice none 0 0, .int .i64 0, .int .i64 0, .int .i64 0, .int .i64 0]] rfl (by kernel_rfl) (by kernel_rfl) (by kernel_rfl)
      (OpenSpec.preRow_of_cond 8 hx (by kernel_rfl) (fun k hk => by cases hk; kernel_rfl) (by kernel_rfl) (Row.laid_met os _))) ?_
  intro W base args ds gs before hval hW _ hcond hsz hL _ _
  exact contract H enc W base args ds gs before hval hW hsz (hcond _ rfl) hL
theorem said : Rows.CursorBigIUptoSaid :=
  OpenClaim.holds_of_cond 9 Tryd.f9 rfl rfl rfl rfl rfl rfl rfl ⟨rfl, rfl, rfl, rfl, rfl⟩ rfl rfl rfl rfl rfl (by kernel_rfl) Tryd.func9 (by kernel_rfl)
    (of_decide_eq_true (by kernel_rfl)) (by unfold Func.isWrapper; first | (rw [if_pos (by decide +kernel)]; kernel_rfl) | (rw [if_neg (by decide +kernel)]; exact ⟨rfl, rfl⟩))
    (fun os started H enc _ F => by rw [OpenClaim.pre_eq_preRow]; exact lifted os started H enc F)
/-- No parameter wants a stand-in; the program's own looks are as the card says. -/
theorem plain (f : FuncId) (fn : Func) (hf : Tryd.pinned.checked.prog.funcNamed "beacon/beaconlaw10.CursorBigI" = some f) (hfn : Tryd.pinned.checked.prog.funcs[f]? = some fn) :
    true = Tryd.pinned.checked.prog.looks [] ∧ ∀ (j : Nat) t, fn.params[j]? = some t → Tryd.pinned.checked.prog.wantsStandIn t = false := by
  obtain rfl : f = 9 := Option.some.inj ((show Tryd.prog.funcNamed "beacon/beaconlaw10.CursorBigI" = some 9 by kernel_rfl).symm.trans hf) |>.symm
  obtain rfl : fn = Tryd.f9 := (Option.some.inj (Tryd.func9.symm.trans hfn)).symm
  refine ⟨by kernel_rfl, fun j t ht => ?_⟩
  rw [Tryd.params9] at ht
  obtain rfl : t = 24 := by simpa using Array.mem_of_getElem? ht
  exact (show Tryd.prog.wantsStandIn 24 = false by kernel_rfl)
/-- The card. -/
theorem card : Rows.CursorBigIUptoCardSaid :=
  Claim7.holds_tied_plain_at .later [] _ _ _ _ said (fun _ h => by cases h) (by kernel_rfl) (fun _ h => by cases h) cursorBigIUpto_row_tie rfl ⟨rfl, rfl⟩ (by kernel_rfl) rfl plain (by kernel_rfl)
end cursorBigI
end Go.Proofs.YtgjpojaegjdjcabDoor
end
