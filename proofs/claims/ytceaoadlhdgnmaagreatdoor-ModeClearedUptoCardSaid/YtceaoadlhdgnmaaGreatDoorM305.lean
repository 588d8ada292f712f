/- Joined texts: MdPlain, MdFlag, MdDo. -/
import Derived.Test.YtceaoadlhdgnmaaGreatDoorM110
import Derived.Test.YtceaoadlhdgnmaaGreatDoorM212
import Derived.BigQuiet
import Derived.Deep.CutRange
import Derived.Deep.DeepCutAuto
namespace Go.Proofs.YtceaoadlhdgnmaaGreatDoor
set_option maxRecDepth 100000
section
namespace Scr
open Go.Proofs.YtceaoadlhdgnmaaGreatDoor.Row Wid
theorem ofInt_wrap (R : BitVec 64) : BitVec.ofInt 64 (IntKind.i64.wrap (R.toNat : Int)) = R := by
  apply BitVec.eq_of_toNat_eq
  rw [BitVec.toNat_ofInt, IntKind.wrap_i64]
  have := R.isLt
  omega
theorem bv_or_andNot (A B : BitVec 64) : (A &&& ~~~B) ||| B = A ||| B := by
  ext i hi
  simp only [BitVec.getElem_or, BitVec.getElem_and, BitVec.getElem_not]
  cases A[i] <;> cases B[i] <;> rfl
theorem or_andNot (x y : Int) : bits .or .i64 (bits .andNot .i64 x y) y = bits .or .i64 x y := by
  show IntKind.i64.wrap ((BitVec.ofInt 64 (IntKind.i64.wrap ((BitVec.ofInt 64 x &&& ~~~(BitVec.ofInt 64 y)).toNat : Int)) ||| BitVec.ofInt 64 y).toNat : Int) = IntKind.i64.wrap ((BitVec.ofInt 64 x ||| BitVec.ofInt 64 y).toNat : Int)
  rw [ofInt_wrap, bv_or_andNot]
theorem ofInt_toNat {x : Int} (h0 : 0 ≤ x) (h1 : x < 1024) : (BitVec.ofInt 64 x).toNat = x.toNat := by rw [BitVec.toNat_ofInt]; omega
theorem wrap_small {n : Nat} (h : n < 1024) : IntKind.i64.wrap (n : Int) = n := by rw [IntKind.wrap_i64]; omega
theorem or_small {x y : Int} (h0 : 0 ≤ x) (h1 : x < 1024) (h2 : 0 ≤ y) (h3 : y < 1024) : 0 ≤ bits .or .i64 x y ∧ bits .or .i64 x y < 1024 := by
  have h : (x.toNat ||| y.toNat) < 2 ^ 10 := Nat.or_lt_two_pow (by omega) (by omega)
  have e : bits .or .i64 x y = IntKind.i64.wrap ((BitVec.ofInt 64 x ||| BitVec.ofInt 64 y).toNat : Int) := rfl
  rw [e, BitVec.toNat_or, ofInt_toNat h0 h1, ofInt_toNat h2 h3, wrap_small h]
  omega
theorem andNot_small {x : Int} (y : Int) (h0 : 0 ≤ x) (h1 : x < 1024) : 0 ≤ bits .andNot .i64 x y ∧ bits .andNot .i64 x y < 1024 := by
  have h : (x.toNat &&& (~~~(BitVec.ofInt 64 y)).toNat) ≤ x.toNat := Nat.and_le_left
  have e : bits .andNot .i64 x y = IntKind.i64.wrap ((BitVec.ofInt 64 x &&& ~~~(BitVec.ofInt 64 y)).toNat : Int) := rfl
  rw [e, BitVec.toNat_and, ofInt_toNat h0 h1, wrap_small (by omega)]
  omega
theorem or_zero {x : Int} (h0 : 0 ≤ x) (h1 : x < 1024) : bits .or .i64 x 0 = x := by
  have e : bits .or .i64 x 0 = IntKind.i64.wrap ((BitVec.ofInt 64 x ||| 0#64).toNat : Int) := rfl
  rw [e, BitVec.or_zero, ofInt_toNat h0 h1, wrap_small (by omega)]
  omega
theorem andNot_zero {x : Int} (h0 : 0 ≤ x) (h1 : x < 1024) : bits .andNot .i64 x 0 = x := by
  have e : bits .andNot .i64 x 0 = IntKind.i64.wrap ((BitVec.ofInt 64 x &&& ~~~(0#64)).toNat : Int) := rfl
  rw [e, show ~~~(0#64) = BitVec.allOnes 64 from rfl, BitVec.and_allOnes, ofInt_toNat h0 h1, wrap_small (by omega)]
  omega
def bitOf (p : Bool) (n : Int) : Int :=
  if p then (if n = 7 then 1 else if n = 25 then 8 else if n = 1 then 16 else if n = 66 then 32 else if n = 5 then 64 else if n = 2004 then 128 else if n = 1000 then 256 else if n = 1004 then 512 else 0)
  else (if n = 4 then 2 else if n = 20 then 4 else 0)
theorem bitOf_in (p : Bool) (n : Int) : 0 ≤ bitOf p n ∧ bitOf p n < 1024 := by
  unfold bitOf
  repeat' split
  all_goals omega
def modeM (m b : Int) (on : Bool) : Int := if on then bits .or .i64 m b else bits .andNot .i64 m b
def withM (s : S) (m : Int) : S := { s with modes := m }
def putM (s : S) (b : Int) (on : Bool) : S := if on = false ∧ b = 1 then noWrap (withM s (modeM s.modes b on)) else withM s (modeM s.modes b on)
theorem withM_ok {s : S} (h : Ok s) {m : Int} (h0 : 0 ≤ m) (h1 : m < 1024) : Ok (withM s m) := ⟨h.m, h.o, h.r, h.c, h.k1, h.k2, h.k3, h.g, h.b, rng_iff.2 ⟨h0, show m ≤ 1023 by omega⟩, h.t, h.l⟩
theorem Ok.modes {s : S} (h : Ok s) : 0 ≤ s.modes ∧ s.modes < 1024 := by have := rng_iff.1 h.n; omega
theorem modeM_in {m b : Int} (h0 : 0 ≤ m) (h1 : m < 1024) (h2 : 0 ≤ b) (h3 : b < 1024) (on : Bool) : 0 ≤ modeM m b on ∧ modeM m b on < 1024 := by
  unfold modeM; split
  · exact or_small h0 h1 h2 h3
  · exact andNot_small b h0 h1
theorem putM_ok {s : S} (h : Ok s) {b : Int} (h2 : 0 ≤ b) (h3 : b < 1024) (on : Bool) : Ok (putM s b on) := by
  have hm := modeM_in h.modes.1 h.modes.2 h2 h3 on
  unfold putM; split
  · exact noWrap_ok (withM_ok h hm.1 hm.2)
  · exact withM_ok h hm.1 hm.2
theorem putM_zero {s : S} (h : Ok s) (on : Bool) : putM s 0 on = s := by
  unfold putM modeM
  rw [if_neg (by omega)]
  cases on
  · rw [if_neg (by simp), andNot_zero h.modes.1 h.modes.2]; rfl
  · rw [if_pos rfl, or_zero h.modes.1 h.modes.2]; rfl
def originS (s : S) (on : Bool) : S := { s with cur := { s.cur with origin := on } }
def swapS (s : S) (on : Bool) : S := { s with swapped := on }
def blankS (s : S) : S := { s with other := newG s.main.rows.toNat s.main.cols.toNat }
def turnA (s : S) (keeps on : Bool) : S := if (keeps && on) = true then saveS s else s
def turnB (s : S) (keeps blanks on : Bool) : S := if (blanks && (on && !s.swapped)) = true then blankS (swapS (turnA s keeps on) on) else swapS (turnA s keeps on) on
def turnS (s : S) (keeps blanks on : Bool) : S := if (keeps && (!on && s.swapped)) = true then restS (turnB s keeps blanks on) else turnB s keeps blanks on
inductive MDeed where
  | flag (b : Int)
  | origin
  | swap (keeps blanks : Bool)
def deedM (p : Bool) (n : Int) : MDeed :=
  if p = true ∧ n = 6 then .origin else if p = true ∧ n = 47 then .swap false false else if p = true ∧ n = 1047 then .swap false true else if p = true ∧ n = 1049 then .swap true true else .flag (bitOf p n)
def doM (s : S) (on : Bool) : MDeed → S
  | .flag b => putM s b on
  | .origin => moveS (originS s on) 72 1 1
  | .swap k b => turnS s k b on
def setS (s : S) (p : Bool) (n : Int) (on : Bool) : S := doM s on (deedM p n)
theorem originS_ok {s : S} (h : Ok s) (on : Bool) : Ok (originS s on) := ⟨h.m, h.o, h.r, h.c, h.k1, h.k2, h.k3, h.g, h.b, h.n, h.t, h.l⟩
theorem swapS_ok {s : S} (h : Ok s) (on : Bool) : Ok (swapS s on) := ⟨h.m, h.o, h.r, h.c, h.k1, h.k2, h.k3, h.g, h.b, h.n, h.t, h.l⟩
theorem Ok.size {s : S} (h : Ok s) : ∃ R C : Nat, s.main.rows = (R : Int) ∧ s.main.cols = (C : Int) ∧ 1 ≤ R ∧ R ≤ 40 ∧ 1 ≤ C ∧ C ≤ 40 := by
  have f := h.facts
  have h1 := f.r1; have h2 := f.r40; have h3 := f.c1; have h4 := f.c40
  exact ⟨s.main.rows.toNat, s.main.cols.toNat, by omega, by omega, by omega, by omega, by omega, by omega⟩
theorem blankS_ok {s : S} (h : Ok s) : Ok (blankS s) := by
  obtain ⟨R, C, hR, hC, h1, h2, h3, h4⟩ := h.size
  have hn := newS_ok h1 h2 h3 h4
  refine ⟨h.m, ?_, ?_, ?_, h.k1, h.k2, h.k3, h.g, h.b, h.n, h.t, h.l⟩
  · show gridB (newG s.main.rows.toNat s.main.cols.toNat) = true
    rw [hR, hC, Int.toNat_natCast, Int.toNat_natCast]; exact hn.m
  · show ((s.main.rows.toNat : Nat) : Int) = s.main.rows
    omega
  · show ((s.main.cols.toNat : Nat) : Int) = s.main.cols
    omega
theorem turnA_ok {s : S} (h : Ok s) (keeps on : Bool) : Ok (turnA s keeps on) := by
  unfold turnA; split
  · exact saveS_ok h
  · exact h
theorem turnB_ok {s : S} (h : Ok s) (keeps blanks on : Bool) : Ok (turnB s keeps blanks on) := by
  unfold turnB; split
  · exact blankS_ok (swapS_ok (turnA_ok h _ _) _)
  · exact swapS_ok (turnA_ok h _ _) _
theorem turnS_ok {s : S} (h : Ok s) (keeps blanks on : Bool) : Ok (turnS s keeps blanks on) := by
  unfold turnS; split
  · exact restS_ok (turnB_ok h _ _ _)
  · exact turnB_ok h _ _ _
theorem setS_ok {s : S} (h : Ok s) (p : Bool) (n : Int) (on : Bool) : Ok (setS s p n on) := by
  unfold setS deedM
  split
  · exact moveS_ok (originS_ok h on) _ _ _
  split
  · exact turnS_ok h _ _ on
  split
  · exact turnS_ok h _ _ on
  split
  · exact turnS_ok h _ _ on
  · exact putM_ok h (bitOf_in p n).1 (bitOf_in p n).2 on
theorem erase_whole {l : List Cl} {C : Nat} (hl : l.length = C) (h1 : 1 ≤ C) (a : Look) : eraseL l 0 C a = blankRow C a := by
  unfold eraseL repl
  rw [Nat.sub_zero, if_neg (by omega)]
  unfold mid
  rw [List.take_zero, List.nil_append, List.drop_of_length_le (by rw [cutL_length, cutL_length]; omega), List.append_nil]
  rfl
theorem set_mid {α : Type} (A : List α) (r x : α) (B : List α) : (A ++ r :: B).set A.length x = A ++ x :: B := by
  rw [List.set_append_right _ _ (Nat.le_refl _), Nat.sub_self, List.set_cons_zero]
theorem wipeN_all {R C : Nat} {rs : List (List Cl)} (h : Rws R C rs) (a : Look) : ∀ k, k ≤ R → wipeN 0 ((R : Int) * (C : Int)) a k ⟨R, C, rs.flatten⟩ = ⟨R, C, (List.replicate k (blankRow C a) ++ rs.drop k).flatten⟩
  | 0, _ => by simp [wipeN]
  | k + 1, hk => by
    have hlen : k < rs.length := by rw [h.len]; omega
    have e0 : wipeN 0 ((R : Int) * (C : Int)) a (k + 1) ⟨R, C, rs.flatten⟩ = wipeRow 0 ((R : Int) * (C : Int)) a (wipeN 0 ((R : Int) * (C : Int)) a k ⟨R, C, rs.flatten⟩) k := rfl
    rw [e0, wipeN_all h a k (by omega)]
    have hd : rs.drop k = rs[k] :: rs.drop (k + 1) := List.drop_eq_getElem_cons hlen
    have heven : Even C (List.replicate k (blankRow C a) ++ rs.drop k) := even_append (fun x hx => by rw [(List.mem_replicate.1 hx).2]; exact blankRow_length C a) (h.even.drop k)
    have hL : (List.replicate k (blankRow C a) ++ rs.drop k).length = R := by rw [List.length_append, List.length_replicate, List.length_drop, h.len]; omega
    have hlo : loC 0 (C : Int) k = 0 := by unfold loC; have : (0 : Int) ≤ (k : Int) * (C : Int) := Int.mul_nonneg (by omega) (by omega); omega
    have hhi : hiC ((R : Int) * (C : Int)) (C : Int) k = C := by
      unfold hiC
      have : (k : Int) * (C : Int) + (C : Int) ≤ (R : Int) * (C : Int) := by
        have h2 : ((k + 1 : Nat) : Int) * (C : Int) ≤ (R : Int) * (C : Int) := Int.mul_le_mul_of_nonneg_right (by omega) (by omega)
        rw [show ((k + 1 : Nat) : Int) * (C : Int) = (k : Int) * (C : Int) + (C : Int) by rw [Int.natCast_add, Int.add_mul]; simp] at h2
        exact h2
      omega
    have hc1 := h.c1
    unfold wipeRow
    show (if loC 0 (C : Int) k < hiC ((R : Int) * (C : Int)) (C : Int) k then _ else _) = _
    rw [hlo, hhi, if_pos (by omega)]
    have hrow : rowG ⟨(R : Int), (C : Int), (List.replicate k (blankRow C a) ++ rs.drop k).flatten⟩ k = rowOf (List.replicate k (blankRow C a) ++ rs.drop k) k := by
      show Row.rowAt _ ((C : Int).toNat) k = _
      rw [Int.toNat_natCast]
      exact rowAt_flat heven (by rw [hL]; omega)
    have hrl : (rowOf (List.replicate k (blankRow C a) ++ rs.drop k) k).length = C := heven _ (rowOf_mem (by rw [hL]; omega))
    rw [hrow, Int.toNat_natCast, show (0 : Int).toNat = 0 from rfl, erase_whole hrl hc1]
    show (⟨(R : Int), (C : Int), overL (List.replicate k (blankRow C a) ++ rs.drop k).flatten (k * ((C : Int).toNat)) (blankRow C a)⟩ : Gr) = _
    rw [Int.toNat_natCast, overL_flat heven (by rw [hL]; omega) (blankRow_length C a)]
    have e2 : (List.replicate k (blankRow C a) ++ rs.drop k).set k (blankRow C a) = List.replicate (k + 1) (blankRow C a) ++ rs.drop (k + 1) := by
      have := set_mid (List.replicate k (blankRow C a)) rs[k] (blankRow C a) (rs.drop (k + 1))
      rw [List.length_replicate] at this
      rw [hd, this, List.replicate_succ', List.append_assoc]; rfl
    rw [e2]
theorem wipe_new {G : Gr} (h : gridB G = true) (a : Look) : wipeN 0 (G.rows * G.cols) a G.rows.toNat G = ⟨G.rows, G.cols, (news G.rows.toNat G.cols.toNat a).flatten⟩ := by
  obtain ⟨R, C, rs, rfl, hr, _⟩ := parts_of h
  show wipeN 0 ((R : Int) * (C : Int)) a ((R : Int).toNat) _ = (⟨(R : Int), (C : Int), (news ((R : Int).toNat) ((C : Int).toNat) a).flatten⟩ : Gr)
  rw [Int.toNat_natCast, Int.toNat_natCast, wipeN_all hr a R (Nat.le_refl _), List.drop_of_length_le (by rw [hr.len]; omega), List.append_nil]
  rfl
def plainC (s : S) : S := { s with cur := { s.cur with a := plain } }
def withC (s : S) (k : Cur) : S := { s with cur := k }
theorem plainC_ok {s : S} (h : Ok s) : Ok (plainC s) := by
  refine ⟨h.m, h.o, h.r, h.c, ?_, h.k2, h.k3, h.g, h.b, h.n, h.t, h.l⟩
  have hk := h.k1
  unfold cursorB at hk
  unfold cursorB plainC
  simp only [Bool.and_eq_true] at hk ⊢
  exact ⟨hk.1, hk.2.1, hk.2.2.1, plain_ok, hk.2.2.2.2⟩
theorem blank_is {s : S} (h : Ok s) (hs : s.swapped = true) : withC (editS (plainC s) 74 2) s.cur = blankS s := by
  have h1 := h.o
  have e1 : editS (plainC s) 74 2 = wipeS (noWrap (plainC s)) 0 (s.main.rows * s.main.cols) := rfl
  have e2 : seenG (noWrap (plainC s)) = s.other := by unfold seenG; show (if s.swapped then s.other else s.main) = _; rw [hs]; rfl
  rw [e1]
  unfold wipeS
  rw [e2]
  show withC (putG _ (wipeN 0 (s.main.rows * s.main.cols) plain s.main.rows.toNat s.other)) s.cur = _
  have e3 := wipe_new h1 plain
  rw [h.r, h.c] at e3
  rw [e3]
  unfold putG
  have e4 : (noWrap (plainC s)).swapped = true := hs
  rw [if_pos e4]
  unfold blankS newG
  have h5 := h.size
  obtain ⟨R, C, hR, hC, _⟩ := h5
  rw [hR, hC, Int.toNat_natCast, Int.toNat_natCast]
  rfl
def marginsS (s : S) (n m : Int) : S :=
  if max n 1 < (if m ≤ 0 then s.main.rows else m) ∧ (if m ≤ 0 then s.main.rows else m) ≤ s.main.rows then moveS { s with top := max n 1 - 1, bottom := (if m ≤ 0 then s.main.rows else m) - 1 } 72 1 1 else s
def softS (s : S) : S := { s with modes := bits .or .i64 9 (bits .and .i64 s.modes 960), cur := ⟨s.cur.row, s.cur.col, false, plain, 0, 0, 0, false⟩, saved := first, too := first, top := 0, bottom := s.main.rows - 1 }
def hardS (s : S) : S := newS s.main.rows.toNat s.main.cols.toNat
def eCell : Cl := ⟨69, [], 0, plain⟩
def fillG (G : Gr) : Gr := { G with cells := List.replicate G.cells.length eCell }
def filledS (s : S) : S := { putG s (fillG (seenG s)) with top := 0, bottom := s.main.rows - 1 }
def alignS (s : S) : S := { filledS s with cur := { s.cur with row := 0, col := 0, wrap := false } }
end Scr
end
section
open Go.RowKit
namespace Scr
open Go.Proofs.YtceaoadlhdgnmaaGreatDoor.Row Wid
def flagsB : ByteArray := ⟨#[63, 55, 59, 52, 59, 50, 48, 59, 63, 50, 53, 59, 63, 49, 59, 63, 54, 54, 59, 63, 53, 59, 63, 50, 48, 48, 52, 59, 63, 49, 48, 48, 48, 59, 63, 49, 48, 48, 52, 59]⟩
def flagsL : List Nat := [63, 55, 59, 52, 59, 50, 48, 59, 63, 50, 53, 59, 63, 49, 59, 63, 54, 54, 59, 63, 53, 59, 63, 50, 48, 48, 52, 59, 63, 49, 48, 48, 48, 59, 63, 49, 48, 48, 52, 59]
def flagStep (t : Int × Int × Bool) (r : Nat) : Int × Int × Bool := if r = 63 then (t.1, t.2.1, true) else if r = 59 then (2 * t.1, 0, false) else (t.1, 10 * t.2.1 + ((r : Int) - 48), t.2.2)
def flagAt (j : Nat) : Int × Int × Bool := (flagsL.take j).foldl flagStep (1, 0, false)
theorem flags_dec : ∀ j : Fin 40, Utf.dec (flagsB.data.toList.drop j.val) = (flagsL.getD j.val 0, 1) := of_decide_eq_true (by kernel_rfl)
theorem flags_size : flagsB.size = 40 := by kernel_rfl
theorem flags_all : ∀ j : Fin 40, flagAt (j.val + 1) = flagStep (flagAt j.val) (flagsL.getD j.val 0) ∧ (1 ≤ (flagAt j.val).1 ∧ (flagAt j.val).1 ≤ 512) ∧ (0 ≤ (flagAt j.val).2.1 ∧ (flagAt j.val).2.1 ≤ 3000) ∧
    (flagsL.getD j.val 0 = 63 ∨ flagsL.getD j.val 0 = 59 ∨ (48 ≤ flagsL.getD j.val 0 ∧ flagsL.getD j.val 0 ≤ 57)) ∧ (flagsL.getD j.val 0 = 59 → bitOf (flagAt j.val).2.2 (flagAt j.val).2.1 = (flagAt j.val).1) := of_decide_eq_true (by kernel_rfl)
theorem flag_at {j : Nat} (hj : j < 40) : Utf.dec (flagsB.data.toList.drop j) = (flagsL.getD j 0, 1) ∧ flagAt (j + 1) = flagStep (flagAt j) (flagsL.getD j 0) ∧ (1 ≤ (flagAt j).1 ∧ (flagAt j).1 ≤ 512) ∧ (0 ≤ (flagAt j).2.1 ∧ (flagAt j).2.1 ≤ 3000) ∧
    (flagsL.getD j 0 = 63 ∨ flagsL.getD j 0 = 59 ∨ (48 ≤ flagsL.getD j 0 ∧ flagsL.getD j 0 ≤ 57)) ∧ (flagsL.getD j 0 = 59 → bitOf (flagAt j).2.2 (flagAt j).2.1 = (flagAt j).1) := ⟨flags_dec ⟨j, hj⟩, flags_all ⟨j, hj⟩⟩
theorem flag_none {p : Bool} {n : Int} (h : ∀ j, j < 40 → flagsL.getD j 0 = 59 → ¬ ((flagAt j).2.1 = n ∧ (flagAt j).2.2 = p)) : bitOf p n = 0 := by
  have k : ∀ (j : Nat) (_ : j < 40) (_ : flagsL.getD j 0 = 59) (m : Int) (_ : (flagAt j).2.1 = m) (q : Bool) (_ : (flagAt j).2.2 = q), p = q → n ≠ m := fun j hj h9 m hm q hq hp hn => h j hj h9 ⟨hm.trans hn.symm, hq.trans hp.symm⟩
  unfold bitOf
  cases p with
  | true =>
    have h1 := k 2 (by decide) rfl 7 rfl true rfl rfl
    have h2 := k 11 (by decide) rfl 25 rfl true rfl rfl
    have h3 := k 14 (by decide) rfl 1 rfl true rfl rfl
    have h4 := k 18 (by decide) rfl 66 rfl true rfl rfl
    have h5 := k 21 (by decide) rfl 5 rfl true rfl rfl
    have h6 := k 27 (by decide) rfl 2004 rfl true rfl rfl
    have h7 := k 33 (by decide) rfl 1000 rfl true rfl rfl
    have h8 := k 39 (by decide) rfl 1004 rfl true rfl rfl
    rw [if_pos rfl, if_neg h1, if_neg h2, if_neg h3, if_neg h4, if_neg h5, if_neg h6, if_neg h7, if_neg h8]
  | false =>
    have h1 := k 4 (by decide) rfl 4 rfl false rfl rfl
    have h2 := k 7 (by decide) rfl 20 rfl false rfl rfl
    rw [if_neg (by simp), if_neg h1, if_neg h2]
set_option maxHeartbeats 1600000 in
theorem flag_any (p : Bool) (n : Int) (w : World) : Calls Tryz.prog 108 #[.bool p, .int .i64 n] w fun e w' => e = .returned (.int .i64 (bitOf p n)) ∧ Below w.heap.size w w' := by
  go_enter Tryz.func108, Tryz.ntmps108
  go_wp2_with fail
  go_loopw [5, 6, 7] (fun t5 t6 t7 wr => ∃ (j : Nat) (b t : Int) (sg : Bool), j ≤ 40 ∧ t5 = .int .i64 b ∧ t6 = .int .i64 t ∧ t7 = .bool sg ∧ Hid (flagAt j = (b, t, sg)) ∧ Hid (∀ i, i < j → flagsL.getD i 0 = 59 → ¬ ((flagAt i).2.1 = n ∧ (flagAt i).2.2 = p)) ∧ Hid (wr.heap[w.heap.size]? = some (.stringIter flagsB j)) ∧ Below w.heap.size w wr) (fun _ _ _ wr => 40 - wr.iterPos w.heap.size)
  case atStart => exact ⟨0, 1, 0, false, by omega, rfl, rfl, rfl, Lib.hid rfl, Lib.hid (fun i hi => absurd hi (by omega)), Lib.hid (World.iter_heap _ _ _), Utf.below_iter (Below.refl _ _) (Nat.le_refl _) _ _⟩
  case round =>
    obtain ⟨j, b, t, sg, hj, rfl, rfl, rfl, HS, HN, HI, hbl⟩ := hrel
    have HIP : Hid (wr.iterPos w.heap.size = j) := Lib.hid (by simp [World.iterPos, HI.out])
    by_cases hp : j < 40
    · obtain ⟨hd, h1, h2, h3, h4, h5⟩ := flag_at hp
      have hnx : ∀ ty, (Instr.next (.pointer (some ⟨w.heap.size, 0, none⟩)) true ty).run Tryz.prog wr = _ := fun ty => Lib.run_next_any_at wr w.heap.size flagsB j ty HI.out (by rw [flags_size]; exact hp)
      rw [Utf.dec_at] at hnx
      rw [hd] at hnx
      simp only at hnx
      rw [HS.out] at h1 h2 h3 h5
      simp only at h2 h3 h5
      have HN1 : Hid (flagsL.getD j 0 ≠ 59 ∨ ¬ (t = n ∧ sg = p) → ∀ i, i < j + 1 → flagsL.getD i 0 = 59 → ¬ ((flagAt i).2.1 = n ∧ (flagAt i).2.2 = p)) := Lib.hid fun hh i hi h9 => by
        by_cases e : i = j
        · subst e
          rw [HS.out]
          rcases hh with hh | hh
          · exact absurd h9 hh
          · exact hh
        · exact HN.out i (by omega) h9
      generalize flagsL.getD j 0 = r at hnx h1 h4 h5 HN1
      have H1 := Lib.hid h1
      have H5 := Lib.hid h5
      have hit2 := Lib.iterAt_heap wr w.heap.size flagsB j (j + 1) HI.out
      have HIT2 := Lib.hid hit2
      have HIP2 : Hid ((wr.iterAt w.heap.size flagsB (j + 1)).iterPos w.heap.size = j + 1) := Lib.hid (by simp [World.iterPos, hit2])
      have HBL2 : Hid (Below w.heap.size w (wr.iterAt w.heap.size flagsB (j + 1))) := Lib.hid (Lib.below_iterAt hbl (Nat.le_refl _) _ _)
      clear hit2 hbl HS HN h1 h5 hd HI
      rcases h4 with rfl | rfl | ⟨h48, h57⟩
      · go_wp2_with fail
        go_roundw
        case rel => exact ⟨j + 1, b, t, true, by omega, rfl, rfl, rfl, Lib.hid H1.out, Lib.hid (HN1.out (.inl (by decide))), HIT2, HBL2.out⟩
        case measure => rw [HIP2.out, HIP.out]; omega
      · by_cases ht : t = n
        · subst ht
          by_cases hs : sg = p
          · subst hs
            have HB := Lib.hid (H5.out rfl)
            have hsb : (sg == sg) = true := by simp
            go_wp2_with fail
            go_ret
            exact ⟨by rw [HB.out]; rfl, HBL2.out⟩
          · have hsb : (sg == p) = false := by rw [beq_eq_false_iff_ne]; exact hs
            have HN2 := Lib.hid (HN1.out (.inr fun q => hs q.2))
            have hw2 : IntKind.i64.wrap (b * 2) = 2 * b := by rw [IntKind.wrap_i64]; omega
            clear HN1
            go_wp2_with fail
            go_roundw
            case rel => exact ⟨j + 1, 2 * b, 0, false, by omega, by first | rfl | go_num, rfl, rfl, Lib.hid H1.out, HN2, HIT2, HBL2.out⟩
            case measure => rw [HIP2.out, HIP.out]; omega
        · have htb : (t == n) = false := by rw [beq_eq_false_iff_ne]; exact ht
          have HN2 := Lib.hid (HN1.out (.inr fun q => ht q.1))
          have hw2 : IntKind.i64.wrap (b * 2) = 2 * b := by rw [IntKind.wrap_i64]; omega
          clear HN1
          go_wp2_with fail
          go_roundw
          case rel => exact ⟨j + 1, 2 * b, 0, false, by omega, by first | rfl | go_num, rfl, rfl, Lib.hid H1.out, HN2, HIT2, HBL2.out⟩
          case measure => rw [HIP2.out, HIP.out]; omega
      · have hr1 : ((r : Int) == 63) = false := by rw [beq_eq_false_iff_ne]; omega
        have hr2 : ((r : Int) == 59) = false := by rw [beq_eq_false_iff_ne]; omega
        have hw1 : IntKind.i64.wrap (10 * t) = 10 * t := by rw [IntKind.wrap_i64]; omega
        have hw2 : IntKind.i32.wrap ((r : Int) - 48) = (r : Int) - 48 := by rw [IntKind.wrap_i32]; omega
        have hw3 : IntKind.i64.wrap ((r : Int) - 48) = (r : Int) - 48 := by rw [IntKind.wrap_i64]; omega
        have hw4 : IntKind.i64.wrap (10 * t + ((r : Int) - 48)) = 10 * t + ((r : Int) - 48) := by rw [IntKind.wrap_i64]; omega
        have HE : Hid (flagAt (j + 1) = (b, 10 * t + ((r : Int) - 48), sg)) := Lib.hid (by rw [H1.out]; unfold flagStep; rw [if_neg (by omega), if_neg (by omega)])
        have HN2 := Lib.hid (HN1.out (.inl (by omega)))
        clear HN1 H1 H5
        go_wp2_with fail
        go_roundw
        case rel => exact ⟨j + 1, b, 10 * t + ((r : Int) - 48), sg, by omega, rfl, by go_num, rfl, HE, HN2, HIT2, HBL2.out⟩
        case measure => rw [HIP2.out, HIP.out]; omega
    · have hnx : ∀ ty, (Instr.next (.pointer (some ⟨w.heap.size, 0, none⟩)) true ty).run Tryz.prog wr = _ := fun ty => Lib.run_next_end_at wr w.heap.size flagsB j ty HI.out (by rw [show j = 40 by omega, flags_size]; decide)
      have HE := Lib.hid (flag_none (p := p) (n := n) (fun i hi => HN.out i (by omega)))
      go_wp2_with fail
      go_ret
      exact ⟨by rw [HE.out]; rfl, hbl⟩
abbrev deedMV : MDeed → Value
  | .flag b => .iface 117 (.int .i64 b)
  | .origin => .iface 111 (.agg #[])
  | .swap k b => .iface 114 (.agg #[.bool k, .bool b])
set_option maxHeartbeats 1600000 in
theorem deedM_any (p : Bool) (n : Int) (w : World) : Calls Tryz.prog 56 #[.bool p, .int .i64 n] w fun e w' => e = .returned (deedMV (deedM p n)) ∧ Below w.heap.size w w' := by
  have HF := Lib.hid (flag_any p n w)
  by_cases hp : p = true
  · subst hp
    by_cases h1 : n = 6
    · subst h1
      have HE : Hid (deedM true 6 = .origin) := Lib.hid rfl
      rw [HE.out]
      clear HF
      go_enter Tryz.func56, Tryz.ntmps56
      go_wp2_with fail
      go_ret
      exact ⟨rfl, Below.refl _ _⟩
    by_cases h2 : n = 47
    · subst h2
      have HE : Hid (deedM true 47 = .swap false false) := Lib.hid rfl
      rw [HE.out]
      clear HF
      go_enter Tryz.func56, Tryz.ntmps56
      go_wp2_with fail
      go_ret
      exact ⟨rfl, Below.refl _ _⟩
    by_cases h3 : n = 1047
    · subst h3
      have HE : Hid (deedM true 1047 = .swap false true) := Lib.hid rfl
      rw [HE.out]
      clear HF
      go_enter Tryz.func56, Tryz.ntmps56
      go_wp2_with fail
      go_ret
      exact ⟨rfl, Below.refl _ _⟩
    by_cases h4 : n = 1049
    · subst h4
      have HE : Hid (deedM true 1049 = .swap true true) := Lib.hid rfl
      rw [HE.out]
      clear HF
      go_enter Tryz.func56, Tryz.ntmps56
      go_wp2_with fail
      go_ret
      exact ⟨rfl, Below.refl _ _⟩
    have HE : Hid (deedM true n = .flag (bitOf true n)) := Lib.hid (by unfold deedM; rw [if_neg (by simp [h1]), if_neg (by simp [h2]), if_neg (by simp [h3]), if_neg (by simp [h4])])
    rw [HE.out]
    have k1 : (n == 6) = false := by rw [beq_eq_false_iff_ne]; exact h1
    have k2 : (n == 47) = false := by rw [beq_eq_false_iff_ne]; exact h2
    have k3 : (n == 1047) = false := by rw [beq_eq_false_iff_ne]; exact h3
    have k4 : (n == 1049) = false := by rw [beq_eq_false_iff_ne]; exact h4
    generalize bitOf true n = b at HF ⊢
    go_enter Tryz.func56, Tryz.ntmps56
    go_wp2_with fail
    refine HF.out.mono ?_; rintro e w1 ⟨rfl, hb⟩
    go_wp2_with fail
    go_ret
    exact ⟨rfl, hb⟩
  · obtain rfl : p = false := by simpa using hp
    have HE : Hid (deedM false n = .flag (bitOf false n)) := Lib.hid (by unfold deedM; simp)
    rw [HE.out]
    generalize bitOf false n = b at HF ⊢
    go_enter Tryz.func56, Tryz.ntmps56
    go_wp2_with fail
    refine HF.out.mono ?_; rintro e w1 ⟨rfl, hb⟩
    go_wp2_with fail
    go_ret
    exact ⟨rfl, hb⟩
theorem Pn.modes {w : World} {b base : Nat} {s : S} {x y z : Value} (h : Pn w b base s x y z) (m : Int) : Pn (w.setCell ⟨b, 40, none⟩ (.int .i64 m)) b base (withM s m) x y z :=
  ⟨Blk.set h.box 40 _, (h.own.set h.lt 40 _).as _ rfl rfl rfl, h.lt, by rw [size_set]; exact h.up⟩
set_option maxHeartbeats 1600000 in
theorem putM_any (s : S) (x y z : Value) (b base : Nat) (m : Int) (on : Bool) (w : World) (h : Pn w b base s x y z) :
    Calls Tryz.prog 107 #[.pointer (some ⟨b, 0, none⟩), .int .i64 m, .bool on] w fun e w' => e = .returned (.tuple #[]) ∧ Pn w' b base (putM s m on) x y z ∧ Near b base w w' := by
  have c40 : w.cell? ⟨b, 40, none⟩ = some (.int .i64 s.modes) := h.box.cell 40
  have f40 : w.frozen? ⟨b, 40, none⟩ = false := h.box.free 40
  cases on with
  | true =>
    have HE : Hid (putM s m true = withM s (bits .or .i64 s.modes m)) := Lib.hid (by unfold putM modeM; rw [if_neg (by simp), if_pos rfl])
    have HP := Lib.hid (And.intro (h.modes (bits .or .i64 s.modes m)) (near_set (b := b) (base := base) w 40 (.int .i64 (bits .or .i64 s.modes m))))
    rw [HE.out]
    clear h
    go_enter Tryz.func107, Tryz.ntmps107
    go_wp2_with fail
    go_returns
    exact ⟨rfl, HP.out.1, HP.out.2⟩
  | false =>
    have HP := Lib.hid (And.intro (h.modes (bits .andNot .i64 s.modes m)) (near_set (b := b) (base := base) w 40 (.int .i64 (bits .andNot .i64 s.modes m))))
    by_cases hm : m = 1
    · subst hm
      have HE : Hid (putM s 1 false = noWrap (withM s (bits .andNot .i64 s.modes 1))) := Lib.hid (by unfold putM modeM; rw [if_pos ⟨rfl, rfl⟩, if_neg (by simp)])
      rw [HE.out]
      clear h
      go_enter Tryz.func107, Tryz.ntmps107
      go_upto_region 3 with (fail)
      change Code.wp _ _ _ _ (w.setCell ⟨b, 40, none⟩ (.int .i64 (bits .andNot .i64 s.modes 1)))
      generalize w.setCell ⟨b, 40, none⟩ (.int .i64 (bits .andNot .i64 s.modes 1)) = w1 at HP ⊢
      clear c40 f40
      have c9 : w1.cell? ⟨b, 9, none⟩ = some (.bool s.cur.wrap) := HP.out.1.box.cell 9
      have f9 : w1.frozen? ⟨b, 9, none⟩ = false := HP.out.1.box.free 9
      have HP2 := Lib.hid (And.intro HP.out.1.wrap (HP.out.2.trans (near_set (b := b) (base := base) w1 9 (.bool false))))
      clear HP
      go_wp2_with fail
      go_end0
      exact ⟨rfl, HP2.out.1, HP2.out.2⟩
    · have hmb : (m == 1) = false := by rw [beq_eq_false_iff_ne]; exact hm
      have HE : Hid (putM s m false = withM s (bits .andNot .i64 s.modes m)) := Lib.hid (by unfold putM modeM; rw [if_neg (by simp [hm]), if_neg (by simp)])
      rw [HE.out]
      clear h
      go_enter Tryz.func107, Tryz.ntmps107
      go_wp2_with fail
      go_end0
      exact ⟨rfl, HP.out.1, HP.out.2⟩
theorem plainM_any (w : World) : Calls Tryz.prog 77 #[] w fun e w' => e = .returned (.agg #[.int .i64 plain.fg, .int .i64 plain.bg, .int .i64 plain.flags]) ∧ Below w.heap.size w w' := by
  go_enter Tryz.func77, Tryz.ntmps77
  go_wp2_with fail
  go_returns
  exact ⟨rfl, by repeat (first | exact Below.refl _ _ | refine Below.alloc ?_ (Nat.le_refl _) _ | refine Below.alloc ?_ (by simp) _ | refine Below.setCell ?_ (by simp) _)⟩
theorem isCountM_any (n : Int) (w : World) : Calls Tryz.prog 52 #[.int .i64 n] w fun e w' => e = .returned (.bool (numB n)) ∧ w = w' := by
  by_cases h : -1 ≤ n
  · by_cases k : n ≤ 9999
    · have H : Hid (numB n = true) := Lib.hid (by unfold numB; rw [decide_eq_true h, decide_eq_true k]; rfl)
      go_enter Tryz.func52, Tryz.ntmps52
      go_wp2_with fail
      go_ret
      exact ⟨ret_bool H.out.symm, rfl⟩
    · have H : Hid (numB n = false) := Lib.hid (by unfold numB; rw [decide_eq_false k, Bool.and_false])
      have hd : decide (n ≤ 9999) = false := decide_eq_false k
      go_enter Tryz.func52, Tryz.ntmps52
      go_wp2_with fail
      go_ret
      exact ⟨ret_bool H.out.symm, rfl⟩
  · have H : Hid (numB n = false) := Lib.hid (by unfold numB; rw [decide_eq_false h, Bool.false_and])
    have hd : decide (-1 ≤ n) = false := decide_eq_false h
    go_enter Tryz.func52, Tryz.ntmps52
    go_wp2_with fail
    go_ret
    exact ⟨ret_bool H.out.symm, rfl⟩
end Scr
end
section
open Go.RowKit
namespace Scr
open Go.Proofs.YtceaoadlhdgnmaaGreatDoor.Row Wid
theorem Pb.put {w0 w w' : World} {B : Nat} {s X : S} {x y z x' y' z' : Value} (h : Pb w0 s x y z w) (ho : Own w B X x' y' z') (hB : w0.heap.size + 2 ≤ B) (hs : Sto w w0.heap.size (sarr X x' y' z') w') : Pb w0 X x' y' z' w' ∧ Only w0.heap.size w w' :=
  have hon : Only w0.heap.size w w' := ⟨Nat.le_of_eq hs.size.symm, fun g o hg e => (hs.other g hg).trans e⟩
  ⟨h.only ⟨hs.box, Own.low (hs.own2 h.pn.box ho) hB, h.pn.lt, by rw [hs.size]; exact h.pn.up⟩ (hs.below _ _ (Nat.le_refl _) (Below.refl _ _)) hon, hon⟩
def aput (w : World) (b : Nat) (a : Look) : World := ((w.setCell ⟨b, 10, none⟩ (.int .i64 a.fg)).setCell ⟨b, 11, none⟩ (.int .i64 a.bg)).setCell ⟨b, 12, none⟩ (.int .i64 a.flags)
theorem aput_only (w : World) (b : Nat) (a : Look) : Below b w (aput w b a) ∧ Only b w (aput w b a) :=
  ⟨(((Below.refl b w).setCell (Nat.le_refl b) _).setCell (Nat.le_refl b) _).setCell (Nat.le_refl b) _, (((Only.refl b w).set 10 _).set 11 _).set 12 _⟩
theorem SBox.aput {w : World} {b : Nat} {s : S} {x y z : Value} (h : SBox w b s x y z) (a : Look) : SBox (aput w b a) b { s with cur := { s.cur with a := a } } x y z := by
  have h4 : SBox _ b { s with cur := { s.cur with a := { s.cur.a with fg := a.fg } } } x y z := Blk.set h 10 _
  have h5 : SBox _ b { s with cur := { s.cur with a := { s.cur.a with fg := a.fg, bg := a.bg } } } x y z := Blk.set h4 11 _
  have h6 : SBox _ b { s with cur := { s.cur with a := { s.cur.a with fg := a.fg, bg := a.bg, flags := a.flags } } } x y z := Blk.set h5 12 _
  exact h6
theorem Pb.plainC {w0 w : World} {s : S} {x y z : Value} (h : Pb w0 s x y z w) : Pb w0 (plainC s) x y z (Scr.aput w w0.heap.size plain) :=
  h.only ⟨SBox.aput h.pn.box plain, (own_onlyS h.pn.own h.pn.box (aput_only w _ plain).2).as _ rfl rfl rfl, h.pn.lt, Nat.le_trans h.pn.up (aput_only w _ plain).2.1⟩ (aput_only w _ plain).1 (aput_only w _ plain).2
theorem Pb.cell {w0 w : World} {s s' : S} {x y z : Value} (h : Pb w0 s x y z w) (j : Nat) (v : Value) (hb : SBox (w.setCell ⟨w0.heap.size, j, none⟩ v) w0.heap.size s' x y z) (hm : s'.main.cells = s.main.cells) (ho : s'.other.cells = s.other.cells) (ht : s'.tabs = s.tabs) :
    Pb w0 s' x y z (w.setCell ⟨w0.heap.size, j, none⟩ v) :=
  h.only ⟨hb, (h.pn.own.set h.pn.lt j _).as _ hm ho ht, h.pn.lt, by rw [size_set]; exact h.pn.up⟩ ((Below.refl w0.heap.size w).setCell (Nat.le_refl _) _) ((Only.refl w0.heap.size w).set _ _)
theorem Pb.origin {w0 w : World} {s : S} {x y z : Value} (h : Pb w0 s x y z w) (on : Bool) : Pb w0 (originS s on) x y z (w.setCell ⟨w0.heap.size, 16, none⟩ (.bool on)) := h.cell 16 _ (Blk.set h.pn.box 16 _) rfl rfl rfl
theorem Pb.swap {w0 w : World} {s : S} {x y z : Value} (h : Pb w0 s x y z w) (on : Bool) : Pb w0 (swapS s on) x y z (w.setCell ⟨w0.heap.size, 6, none⟩ (.bool on)) := h.cell 6 _ (Blk.set h.pn.box 6 _) rfl rfl rfl
abbrev curbx (k : Cur) : Obj := .cells #[.int .i64 k.row, .int .i64 k.col, .bool k.wrap, .int .i64 k.a.fg, .int .i64 k.a.bg, .int .i64 k.a.flags, .int .i64 k.g0, .int .i64 k.g1, .int .i64 k.shift, .bool k.origin] 33 (0, 0)
theorem curbx_cells {w : World} {b : Nat} {k : Cur} (h : w.heap[b]? = some (curbx k)) : w.cell? ⟨b, 0, none⟩ = some (.int .i64 k.row) ∧ w.cell? ⟨b, 1, none⟩ = some (.int .i64 k.col) ∧ w.cell? ⟨b, 2, none⟩ = some (.bool k.wrap) ∧ w.cell? ⟨b, 3, none⟩ = some (.int .i64 k.a.fg) ∧ w.cell? ⟨b, 4, none⟩ = some (.int .i64 k.a.bg) ∧
    w.cell? ⟨b, 5, none⟩ = some (.int .i64 k.a.flags) ∧ w.cell? ⟨b, 6, none⟩ = some (.int .i64 k.g0) ∧ w.cell? ⟨b, 7, none⟩ = some (.int .i64 k.g1) ∧ w.cell? ⟨b, 8, none⟩ = some (.int .i64 k.shift) ∧ w.cell? ⟨b, 9, none⟩ = some (.bool k.origin) :=
  ⟨Blk.cell h 0, Blk.cell h 1, Blk.cell h 2, Blk.cell h 3, Blk.cell h 4, Blk.cell h 5, Blk.cell h 6, Blk.cell h 7, Blk.cell h 8, Blk.cell h 9⟩
structure Kb (w0 : World) (c : Nat) (o : Obj) (s : S) (x y z : Value) (w : World) : Prop where
  pb : Pb w0 s x y z w
  kb : w.heap[c]? = some o
  ne : c ≠ w0.heap.size
theorem Kb.kept {w0 w w' : World} {c : Nat} {o : Obj} {s : S} {x y z : Value} (h : Kb w0 c o s x y z w) (hb : Below w.heap.size w w') : Kb w0 c o s x y z w' := ⟨h.pb.kept hb, Blk.kept h.kb hb, h.ne⟩
theorem Kb.only {w0 w w' : World} {c : Nat} {o : Obj} {s s' : S} {x y z x' y' z' : Value} (h : Kb w0 c o s x y z w) (hp : Pb w0 s' x' y' z' w') (hb : Only w0.heap.size w w') : Kb w0 c o s' x' y' z' w' := ⟨hp, hb.2 _ _ h.ne h.kb, h.ne⟩
theorem Kb.put {w0 w w' : World} {B c : Nat} {o : Obj} {s X : S} {x y z x' y' z' : Value} (h : Kb w0 c o s x y z w) (ho : Own w B X x' y' z') (hB : w0.heap.size + 2 ≤ B) (hs : Sto w w0.heap.size (sarr X x' y' z') w') : Kb w0 c o X x' y' z' w' :=
  h.only (h.pb.put ho hB hs).1 (h.pb.put ho hB hs).2
theorem Kb.up {w0 w : World} {c : Nat} {o : Obj} {s : S} {x y z : Value} (h : Kb w0 c o s x y z w) : w0.heap.size + 2 ≤ w.heap.size := h.pb.pn.up
set_option maxHeartbeats 3200000 in
theorem blankM_any (w0 : World) (s : S) (x y z : Value) (w : World) (h : Pb w0 s x y z w) (hok : Ok s) (hT : Tabs w0) :
    Calls Tryz.prog 144 #[.pointer (some ⟨w0.heap.size, 0, none⟩)] w fun e w' => e = .returned (.tuple #[]) ∧ ∃ x' y' z', Pb w0 (withC (editS (plainC s) 74 2) s.cur) x' y' z' w' ∧ Only w0.heap.size w w' := by
  have HED : Hid (∀ W, In W (plainC s) x y z → Tabs W → _) := Lib.hid (fun W hI hT => editD (plainC s) x y z 74 2 W hI (plainC_ok hok).holds hT)
  have HMY : Hid (mayE (plainC s) 74 2 = true) := Lib.hid (mayE_iff.2 ⟨(ok_iff _).2 (plainC_ok hok), rfl, rfl⟩)
  have HT := Lib.hid hT
  have c0 : ∀ j, w.cell? ⟨w0.heap.size, j, none⟩ = (sarr s x y z)[j]? := h.pn.box.cell
  have H1 : Hid (Kb w0 w.heap.size (curbx s.cur) s x y z (w.alloc (curbx s.cur))) := Lib.hid ⟨h.kept (bel_alloc w _), heap_alloc_new _ _, by have := h.pn.up; omega⟩
  have HO1 : Hid (Only w0.heap.size w (w.alloc (curbx s.cur))) := Lib.hid (Only.bel (Only.refl _ _) (bel_alloc w _))
  generalize editS (plainC s) 74 2 = ES at HED ⊢
  clear h hok hT
  go_enter Tryz.func144, Tryz.ntmps144
  go_upto_region 1 with (fail)
  change Code.wp _ _ _ _ (w.alloc (curbx s.cur))
  clear c0
  generalize w.alloc (curbx s.cur) = w1 at H1 HO1 ⊢
  generalize w.heap.size = c at H1 ⊢
  go_wp2_with fail
  refine (plainM_any w1).mono ?_; rintro e w2 ⟨rfl, hb⟩
  have H2 := Lib.hid (H1.out.kept hb)
  have HO2 := Lib.hid (Only.bel HO1.out hb)
  clear hb H1 HO1
  have c2 : ∀ j, w2.cell? ⟨w0.heap.size, j, none⟩ = (sarr s x y z)[j]? := H2.out.pb.pn.box.cell
  have f2 : ∀ j, w2.frozen? ⟨w0.heap.size, j, none⟩ = false := H2.out.pb.pn.box.free
  go_upto_region 2 with (fail)
  change Code.wp _ _ _ _ (aput w2 w0.heap.size plain)
  have H3 := Lib.hid (H2.out.only H2.out.pb.plainC (aput_only w2 _ plain).2)
  have HO3 := Lib.hid (Only.trans HO2.out (aput_only w2 _ plain).2)
  clear c2 f2 H2 HO2
  generalize aput w2 w0.heap.size plain = w3 at H3 HO3 ⊢
  go_wp2_with (refine wp_loadS (b := w0.heap.size) (s := plainC s) rfl rfl rfl H3.out.pb.pn.box ?_)
  refine (HED.out w3 H3.out.pb.pn.own.in_ (HT.out.kept H3.out.pb.bel)).mono ?_; rintro e w4 ⟨X, x4, y4, z4, code, rfl, hans⟩
  obtain rfl := hans.yes HMY.out
  have H4 := Lib.hid (H3.out.kept hans.bel)
  have HO4 := Lib.hid (Only.bel HO3.out hans.bel)
  have HW4 := Lib.hid hans.own
  have HU := Lib.hid H3.out.up
  clear hans H3 HO3
  go_upto_region 3 with (refine wp_storeS (b := w0.heap.size) (A := sarr X x4 y4 z4) rfl rfl rfl rfl rfl HW4.out.in_.one H4.out.pb.pn.box rfl ?_; intro w5 h5)
  go_simp
  change Code.wp _ _ _ _ w5
  have H5 := Lib.hid (H4.out.put HW4.out HU.out h5)
  have HO5 := Lib.hid (Only.trans HO4.out (H4.out.pb.put HW4.out HU.out h5).2)
  clear h5 H4 HO4 HW4
  have c5 : ∀ j, w5.cell? ⟨w0.heap.size, j, none⟩ = (sarr X x4 y4 z4)[j]? := H5.out.pb.pn.box.cell
  have f5 : ∀ j, w5.frozen? ⟨w0.heap.size, j, none⟩ = false := H5.out.pb.pn.box.free
  obtain ⟨d0, d1, d2, d3, d4, d5, d6, d7, d8, d9⟩ := curbx_cells H5.out.kb
  go_wp2_with fail
  go_end0
  change _ ∧ ∃ x' y' z', Pb w0 (withC X s.cur) x' y' z' (cput w5 w0.heap.size s.cur) ∧ Only w0.heap.size w (cput w5 w0.heap.size s.cur)
  exact ⟨rfl, _, _, _, H5.out.pb.cput s.cur, Only.trans HO5.out (cput_only _ _ _)⟩
end Scr
end
end Go.Proofs.YtceaoadlhdgnmaaGreatDoor
