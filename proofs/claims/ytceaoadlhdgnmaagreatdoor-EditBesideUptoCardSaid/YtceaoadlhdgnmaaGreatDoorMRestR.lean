/- What the joined texts left out. -/
import Derived.Test.YtceaoadlhdgnmaaGreatDoorM5
import Derived.Test.YtceaoadlhdgnmaaGreatDoorM101
import Derived.Lib.TrimUEq
import Derived.WalkKit
import Derived.Outline
import Derived.BigQuiet
import Derived.Deep.QuietTactic
import Derived.WalkSpells
import Derived.WalkLawsBesides
import Derived.Below
import Derived.OwnWalk
import Derived.Laws.OwnMore
import Derived.Deep.AppendLies
import Derived.Deep.Draws
import Derived.Maps.AppendAt
import Derived.RegionTactic
import Derived.Lib.Hide
import Derived.Handy
import Derived.Laws.BitsLemmas
import Derived.Laws.BytesString
import Derived.Laws.IdiomStrings
import Derived.Laws.RangeAny
import Derived.Laws.Runes
import Derived.LoopTactic
import Derived.Lib.OthersKept
import Derived.Deep.Slices
import Derived.Deep.Onto
import Derived.StillTailTactics
import Derived.Deep.RegionHeld3
import Derived.OneCell
import Derived.Lib.QuietBelow
import Derived.Deep.RegionHeld
import Derived.Lib.AppendZerosOnto
import Derived.Lib.SliceRun
import Derived.Lib.Walk
import Derived.Lib.Mul64
import Derived.Laws.BitsAllLaws
import Derived.Laws.CopyOwn
import Derived.Deep.RegionLaw
import Derived.ProofKit
import Derived.OpenShut
import Derived.Deep.DeepHandedRow
import Derived.Lib.LaidTab
import Derived.WideKeyArgs
import Derived.ChangeSame
import Derived.SliceStrings
import Derived.Shelf.Unicode.ValidAny
import Derived.Lib.LaidU8T
import Derived.MakeChecks
import Derived.LaidLaws
import Derived.Lib.ValidLaws
section
namespace Go.Proofs.YtceaoadlhdgnmaaGreatDoor
namespace Wid

theorem follows_1_is {f b : Nat} (h : Utf.follows f 1 b = true) : 128 ≤ b ∧ b ≤ 191 ∧ (f = 224 → 160 ≤ b) ∧ (f = 240 → 144 ≤ b) ∧ (f = 237 → b ≤ 159) ∧ (f = 244 → b ≤ 143) := by
  have h := Utf.follows_iff.1 h
  simp only [Utf.low, Utf.high, if_true] at h
  repeat' split at h
  all_goals omega
theorem more_is {f n : Nat} (h : Utf.more f = n + 1) : (n = 0 ∧ 194 ≤ f ∧ f ≤ 223) ∨ (n = 1 ∧ 224 ≤ f ∧ f ≤ 239) ∨ (n = 2 ∧ 240 ≤ f ∧ f ≤ 244) := by
  unfold Utf.more at h
  repeat' split at h
  all_goals omega
/-- A whole rune at the head is decoded, whatever follows. -/
theorem dec_head {l : List UInt8} {r : Nat} (h : Utf.Rune l r) (x : List UInt8) : Utf.dec (l ++ x) = (r, l.length) := by
  unfold Utf.dec
  match l, h with
  | [b], ⟨h0, e⟩ =>
    subst e
    simp [Lib.decodeN, h0]
  | [f, g], ⟨hm, h1, e⟩ =>
    have a := more_is (n := 0) hm
    have b := follows_1_is h1
    have e' : r = f.toNat % 32 * 64 + g.toNat % 64 := e
    simp only [List.cons_append, List.nil_append, List.getD_cons_zero, List.getD_cons_succ, List.length_cons, List.length_nil]
    unfold Lib.decodeN
    rw [if_neg (by omega), if_pos (by omega), if_pos (by omega), e']
  | [f, g, k], ⟨hm, h1, h2, e⟩ =>
    have a := more_is (n := 1) hm
    have b := follows_1_is h1
    have c := Utf.follows_pos h2
    have e' : r = (f.toNat % 16 * 64 + g.toNat % 64) * 64 + k.toNat % 64 := e
    simp only [List.cons_append, List.nil_append, List.getD_cons_zero, List.getD_cons_succ, List.length_cons, List.length_nil]
    unfold Lib.decodeN
    rw [if_neg (by omega), if_neg (by omega), if_pos (by omega), if_pos (by omega), e']
    exact Prod.ext (by show (_ : Nat) = _; omega) rfl
  | [f, g, k, j], ⟨hm, h1, h2, h3, e⟩ =>
    have a := more_is (n := 2) hm
    have b := follows_1_is h1
    have c := Utf.follows_pos h2
    have d := Utf.follows_pos h3
    have e' : r = ((f.toNat % 8 * 64 + g.toNat % 64) * 64 + k.toNat % 64) * 64 + j.toNat % 64 := e
    simp only [List.cons_append, List.nil_append, List.getD_cons_zero, List.getD_cons_succ, List.length_cons, List.length_nil]
    unfold Lib.decodeN
    rw [if_neg (by omega), if_neg (by omega), if_neg (by omega), if_pos (by omega), if_pos (by omega), e']
    exact Prod.ext (by show (_ : Nat) = _; omega) rfl
end Wid
end Go.Proofs.YtceaoadlhdgnmaaGreatDoor
end
section
namespace Go.Proofs.YtceaoadlhdgnmaaGreatDoor
set_option maxRecDepth 100000
open Go.RowKit
namespace Row

theorem flat_nil : flat [] = [] := rfl
end Row
end Go.Proofs.YtceaoadlhdgnmaaGreatDoor
end
section
namespace Go.Proofs.YtceaoadlhdgnmaaGreatDoor
set_option maxRecDepth 100000
open Go.RowKit
namespace Row
open Utf Wid

set_option maxHeartbeats 1600000 in
theorem cells_any (r : Int) (a : Look) (w : World) (hr : wid r = 1 ∨ wid r = 2) :
    Calls Tryz.prog 195 #[.int .i64 r, .agg #[.int .i64 a.fg, .int .i64 a.bg, .int .i64 a.flags]] w fun e w' => ∃ v, e = .returned v ∧ OwnCs w' w.heap.size v (cellsOf r a) ∧ Below w.heap.size w w' := by
  have hb0 : Below w.heap.size w (w.alloc (.cells #[.int .i64 a.fg, .int .i64 a.bg, .int .i64 a.flags] 31)) := (Below.refl _ _).alloc (Nat.le_refl _) _
  have HB0 := Lib.hid hb0
  have HK : Hid ((w.alloc (.cells #[.int .i64 a.fg, .int .i64 a.bg, .int .i64 a.flags] 31)).heap[w.heap.size]? = some (.cells #[.int .i64 a.fg, .int .i64 a.bg, .int .i64 a.flags] 31 (0, 0))) := Lib.hid (heap_alloc_new _ _)
  have HOF := Lib.hid (fun w' => of_any r w')
  clear hb0
  rcases hr with h | h
  · have HC : Hid (cellsOf r a = [⟨r, [], 0, a⟩]) := Lib.hid (by unfold cellsOf; rw [if_pos h])
    rw [h] at HOF
    clear h
    go_enter Tryz.func195, Tryz.ntmps195
    go_wp2_with fail
    refine (HOF.out _).mono ?_; rintro e w1 ⟨rfl, hb1⟩
    have HB1 : Hid (Below w.heap.size w w1) := Lib.hid (HB0.out.trans (hb1.mono (by simp)))
    have hk1 := Blk.kept HK.out hb1
    have k0 := Blk.cell hk1 0
    have k1 := Blk.cell hk1 1
    have k2 := Blk.cell hk1 2
    simp only [List.getElem?_toArray, List.getElem?_cons_zero, List.getElem?_cons_succ] at k0 k1 k2
    have HO : Hid (OwnCs (w1.alloc (.cells (cvals ⟨r, [], 0, a⟩).toArray 57)) w.heap.size (.slice (some ⟨w1.heap.size, 0, none⟩) 1 1) [⟨r, [], 0, a⟩]) := Lib.hid ⟨rfl, .inr ⟨w1.heap.size, 1, _, rfl, HB1.out.size, heap_alloc_new _ _, Nat.le_refl _, by decide, rfl, rfl⟩⟩
    have HB2 : Hid (Below w.heap.size w (w1.alloc (.cells (cvals ⟨r, [], 0, a⟩).toArray 57))) := Lib.hid (HB1.out.alloc HB1.out.size _)
    clear hb1 hk1
    go_wp2_with fail
    go_ret
    exact ⟨_, rfl, by rw [HC.out]; exact HO.out, HB2.out⟩
  · have HC : Hid (cellsOf r a = [⟨r, [], 1, a⟩, sec a]) := Lib.hid (by unfold cellsOf; rw [if_neg (by omega)])
    rw [h] at HOF
    clear h
    have HSC : Hid (∀ w', Calls Tryz.prog 206 #[.agg #[.int .i64 a.fg, .int .i64 a.bg, .int .i64 a.flags]] w' fun e w'' => e = .returned (.agg #[.int .i64 0, .string ⟨#[]⟩, .int .i64 2, .int .i64 a.fg, .int .i64 a.bg, .int .i64 a.flags]) ∧ Below w'.heap.size w' w'') := Lib.hid (fun w' => sec_any a w')
    go_enter Tryz.func195, Tryz.ntmps195
    go_wp2_with fail
    refine (HOF.out _).mono ?_; rintro e w1 ⟨rfl, hb1⟩
    have HB1 : Hid (Below w.heap.size w w1) := Lib.hid (HB0.out.trans (hb1.mono (by simp)))
    have hk1 := Blk.kept HK.out hb1
    have zlt := Blk.lt hk1
    have k0 := Blk.cell hk1 0
    have k1 := Blk.cell hk1 1
    have k2 := Blk.cell hk1 2
    simp only [List.getElem?_toArray, List.getElem?_cons_zero, List.getElem?_cons_succ] at k0 k1 k2
    clear hb1 hk1
    go_wp2_with fail
    have q0 : w1.drew.cell? ⟨w.heap.size, 0, none⟩ = some (.int .i64 a.fg) := k0
    have q1 : w1.drew.cell? ⟨w.heap.size, 1, none⟩ = some (.int .i64 a.bg) := k1
    have q2 : w1.drew.cell? ⟨w.heap.size, 2, none⟩ = some (.int .i64 a.flags) := k2
    go_region_held3 (fun w' => w'.cell? ⟨w.heap.size, 0, none⟩ = some (.int .i64 a.fg) ∧ w'.cell? ⟨w.heap.size, 1, none⟩ = some (.int .i64 a.bg) ∧ w'.cell? ⟨w.heap.size, 2, none⟩ = some (.int .i64 a.flags)) (first | (with_reducible exact ⟨c0A, c1A, c2A⟩) | (with_reducible exact ⟨q0, q1, q2⟩) | go_keep)
      ((first
        | (go_at_call 206; refine (HSC.out _).mono ?_; rintro e wA ⟨rfl, hbA⟩; have hbA : Below w1.heap.size w1 wA := (Below.refl _ _).drew.trans hbA; have HBA : Hid (Below w.heap.size w wA) := Lib.hid (HB1.out.trans (hbA.mono HB1.out.size)); have c0A := cell_kept hbA k0; have c1A := cell_kept hbA k1; have c2A := cell_kept hbA k2; clear hbA)))
    have HO : Hid (OwnCs (wA.alloc (.cells (flat [⟨r, [], 1, a⟩, sec a]).toArray 57)) w.heap.size (.slice (some ⟨wA.heap.size, 0, none⟩) 2 2) [⟨r, [], 1, a⟩, sec a]) := Lib.hid ⟨rfl, .inr ⟨wA.heap.size, 2, _, rfl, HBA.out.size, heap_alloc_new _ _, Nat.le_refl _, by decide, rfl, rfl⟩⟩
    have HB2 : Hid (Below w.heap.size w (wA.alloc (.cells (flat [⟨r, [], 1, a⟩, sec a]).toArray 57))) := Lib.hid (HBA.out.alloc HBA.out.size _)
    go_wp2_with fail
    go_ret
    exact ⟨_, rfl, by rw [HC.out]; exact HO.out, HB2.out⟩
end Row
end Go.Proofs.YtceaoadlhdgnmaaGreatDoor
end
section
namespace Go.Proofs.YtceaoadlhdgnmaaGreatDoor
set_option maxRecDepth 100000
open Go.RowKit
namespace Row
open Utf Wid

set_option maxHeartbeats 1600000 in
theorem put_fits (l : List Cl) (a : Look) (k n : Nat) (r : Int) (x : Value) (w : World) (hx : Cs w x l) (hs : Held l) (hl : l.length ≤ 1000) (h : RowOk l) (ha : attrOk a = true) (hr : wid r = n) (hn : 1 ≤ n) (hf : k + n ≤ l.length) :
    Calls Tryz.prog 169 #[x, .int .i64 k, .int .i64 r, .agg #[.int .i64 a.fg, .int .i64 a.bg, .int .i64 a.flags]] w fun e w' => ∃ v, e = .returned (.tuple #[v, .int .i64 0]) ∧ OwnCs w' w.heap.size v (mid l k (k + n) (cellsOf r a)) ∧ Below w.heap.size w w' := by
  have HX := Lib.hid hx
  have HF := Lib.hid (fun w' (k : Cs w' x l) => fit_yes h ha hs hl x w' k)
  have HR : Hid (rng (k : Int) 0 ((l.length : Int) - 1) = true) := Lib.hid (rng_yes (by omega) (by omega))
  have hl1 : 1 ≤ l.length := h.1
  have hwrap : IntKind.i64.wrap ((l.length : Int) - 1) = (l.length : Int) - 1 := by rw [IntKind.wrap_i64]; omega
  have hr12 : wid r = 1 ∨ wid r = 2 := by rcases wid_cases r with e | e | e | e <;> omega
  have HCE := Lib.hid (fun w' => cells_any r a w' hr12)
  have hcl := cells_length (a := a) hr12
  have HRP := Lib.hid (fun y w' (h1 : Cs w' x l) (h2 : Cs w' y (cellsOf r a)) => replaced_any l (cellsOf r a) k (k + n) x y w' h1 h2 h.2.2 hs hl (by omega) (by omega) hf)
  have HM : Hid (repl l k (k + n) (cellsOf r a) = mid l k (k + n) (cellsOf r a)) := Lib.hid (by unfold repl; rw [if_neg]; rintro ⟨e, _⟩; omega)
  rw [HM.out] at HRP
  clear HM
  obtain ⟨A, c, rfl, _⟩ := hx.form
  have HOF := Lib.hid (fun w' => of_any r w')
  rw [hr] at HOF
  have hd : decide ((n : Int) < 1) = false := decide_eq_false (by omega)
  have hwrap2 : IntKind.i64.wrap ((k : Int) + (n : Int)) = ((k + n : Nat) : Int) := by rw [IntKind.wrap_i64]; omega
  have hd2 : decide (l.length < k + n) = false := decide_eq_false (by omega)
  generalize k + n = kn at HRP hwrap2 hd2 ⊢
  generalize mid l k kn (cellsOf r a) = res at HRP ⊢
  generalize cellsOf r a = cs at HCE HRP
  clear hx hs h ha hr hr12 hcl hn hf
  go_enter Tryz.func169, Tryz.ntmps169
  go_wp2_with fail
  refine (HOF.out _).mono ?_; rintro e w1 ⟨rfl, hb1⟩
  obtain ⟨hk1, hbw⟩ := box_kept hb1
  have HB1 := Lib.hid hbw
  have HK1 := Lib.hid hk1
  obtain ⟨k0, k1, k2⟩ := box_cells hk1
  clear hb1 hk1 hbw
  go_wp2_with fail
  refine (HF.out _ (HX.out.kept HB1.out)).mono ?_; rintro e w2 ⟨rfl, hb2⟩
  have HB2 : Hid (Below w.heap.size w w2) := Lib.hid (HB1.out.trans (hb2.mono HB1.out.size))
  clear k0 k1 k2
  obtain ⟨k0, k1, k2⟩ := box_cells (Blk.kept HK1.out hb2)
  clear hb2
  go_wp2_with fail
  refine (rowIn_at _ _ _ _ HR.out _).mono ?_; rintro e w' ⟨rfl, rfl⟩
  go_wp2_with fail
  refine (HCE.out _).mono ?_; rintro e w3 ⟨v3, rfl, ho3, hb3⟩
  have HB3 : Hid (Below w.heap.size w w3) := Lib.hid (HB2.out.trans (hb3.mono HB2.out.size))
  have HC3 := Lib.hid ho3.cs
  clear ho3 hb3
  go_wp2_with fail
  refine (HRP.out _ _ (HX.out.kept HB3.out) HC3.out).mono ?_; rintro e w4 ⟨v4, rfl, ho4, hb4⟩
  have HO4 : Hid (OwnCs w4 w.heap.size v4 res) := Lib.hid (ho4.low HB3.out.size)
  have HB4 : Hid (Below w.heap.size w w4) := Lib.hid (HB3.out.trans (hb4.mono HB3.out.size))
  clear ho4 hb4
  go_wp2_with fail
  go_ret2
  exact ⟨v4, rfl, HO4.out, HB4.out⟩
end Row
end Go.Proofs.YtceaoadlhdgnmaaGreatDoor
end
