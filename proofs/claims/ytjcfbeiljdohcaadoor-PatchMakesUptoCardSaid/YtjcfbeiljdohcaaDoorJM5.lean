/- Joined texts: Blk, Wid, WidRef. -/
import Derived.Test.YtjcfbeiljdohcaaDoorJM4
import Derived.OneCell
import Derived.Deep.Slices
namespace Go.Proofs.YtjcfbeiljdohcaaDoor
set_option maxRecDepth 100000
section
open Go.RowKit
namespace Blk
theorem lt {w : World} {b : Nat} {o : Obj} (h : w.heap[b]? = some o) : b < w.heap.size := (Array.getElem?_eq_some_iff.1 h).1
theorem cell {w : World} {b : Nat} {cs : Array Value} {t : TypeId} (h : w.heap[b]? = some (.cells cs t (0, 0))) (j : Nat) : w.cell? ⟨b, j, none⟩ = cs[j]? := cell_of_row w b j cs t _ h
theorem free {w : World} {b : Nat} {cs : Array Value} {t : TypeId} (h : w.heap[b]? = some (.cells cs t (0, 0))) (j : Nat) : w.frozen? ⟨b, j, none⟩ = false := frozen_of_row w b j cs t h
theorem set {w : World} {b : Nat} {cs : Array Value} {t : TypeId} (h : w.heap[b]? = some (.cells cs t (0, 0))) (j : Nat) (u : Value) : (w.setCell ⟨b, j, none⟩ u).heap[b]? = some (.cells (cs.setIfInBounds j u) t (0, 0)) := heap_setCell_same w b j cs t u h
theorem other {w : World} {b g : Nat} {o : Obj} (h : w.heap[b]? = some o) (hn : b ≠ g) (j : Nat) (u : Value) : (w.setCell ⟨g, j, none⟩ u).heap[b]? = some o := by
  rw [heap_setCell_other w ⟨g, j, none⟩ b u hn]; exact h
theorem kept {w w' : World} {b : Nat} {o : Obj} (h : w.heap[b]? = some o) (hb : Below w.heap.size w w') : w'.heap[b]? = some o := (hb.block b (lt h)).trans h
theorem low {w : World} {base b2 e C n : Nat} {v : Value} {xs : List Value} (h : w.ownsRow base e C v n xs) (hb : b2 ≤ base) : w.ownsRow b2 e C v n xs := by
  refine ⟨h.1, ?_⟩
  rcases h.2 with h0 | ⟨g, cap, cur, h1, h2, rest⟩
  · exact .inl h0
  · exact .inr ⟨g, cap, cur, h1, Nat.le_trans hb h2, rest⟩
end Blk
structure Sl (w : World) (x : Value) (l : List Int) : Prop where
  src : Src w x l.length (ints l)
  room : ∃ A c, x = .slice A l.length c ∧ l.length ≤ c
theorem Sl.kept {w w' : World} {x : Value} {l : List Int} (h : Sl w x l) (hb : Below w.heap.size w w') : Sl w' x l := ⟨h.src.kept hb, h.room⟩
theorem Sl.drewN {w : World} {x : Value} {l : List Int} (h : Sl w x l) (q : Nat) : Sl (w.drewN q) x l := ⟨h.src.drewN q, h.room⟩
theorem Sl.nil (w : World) : Sl w (.slice none 0 0) [] := ⟨⟨rfl, .inl ⟨rfl, rfl⟩⟩, none, 0, rfl, by simp⟩
theorem Sl.made (w : World) (xs : List Int) (e : TypeId) : Sl (w.alloc (.cells (ints xs).toArray e)) (.slice (some ⟨w.heap.size, 0, none⟩) xs.length xs.length) xs :=
  ⟨Src.made w (ints xs) e xs.length xs.length (ints_length _), _, _, rfl, Nat.le_refl _⟩
theorem Sl.own {w : World} {base : Nat} {e : TypeId} {v : Value} {xs : List Int} (h : w.ownsRow base e 1 v xs.length (ints xs)) : Sl w v xs := by
  refine ⟨Src.own h, ?_⟩
  rcases h.2 with ⟨rfl, h0⟩ | ⟨g, cap, cur, rfl, _, _, hc, _⟩
  · exact ⟨none, 0, by rw [h0], by omega⟩
  · exact ⟨_, _, rfl, hc⟩
theorem Sl.get {w : World} {A : Option Addr} {n c : Nat} {l : List Int} (h : Sl w (.slice A n c) l) : ∀ k, k < l.length → ∃ ad, A = some ad ∧ w.cell? (ad.add k) = some (.int .i64 (l.getD k 0)) := by
  intro k hk
  obtain ⟨A', c', e, hf⟩ := h.src.form
  injection e with e1 e2 e3
  subst e1
  obtain ⟨ad, rfl, hc⟩ := hf k hk
  exact ⟨ad, rfl, by rw [hc, ints_get hk]⟩
theorem ints_drop (l : List Int) (k : Nat) : (ints l).drop k = ints (l.drop k) := by unfold ints; rw [List.map_drop]
def Clear (g : Nat) (v : Value) : Prop := ∀ ad n c, v = .slice (some ad) n c → ad.block ≠ g
theorem Clear.nil (g : Nat) : Clear g (.slice none 0 0) := fun _ _ _ e => by cases e
theorem Sl.set {w : World} {x : Value} {l : List Int} {g : Nat} (h : Sl w x l) (hc : Clear g x) (j : Nat) (u : Value) : Sl (w.setCell ⟨g, j, none⟩ u) x l := by
  refine ⟨⟨h.src.1, ?_⟩, h.room⟩
  rcases h.src.2 with h0 | ⟨ad, c, rfl, hf⟩
  · exact .inl h0
  · refine .inr ⟨ad, c, rfl, fun k v hv => ?_⟩
    have hb := hc ad _ c rfl
    rw [World.cell?_setCell_other _ _ _ _ (fun e => hb (by rw [← add_block ad k, ← e]))]
    exact hf k v hv
theorem Sl.tail {w : World} {A : Option Addr} {n c : Nat} {l : List Int} (h : Sl w (.slice A n c) l) (k : Nat) (hk : k ≤ l.length) (i : Int) (hi : i = k) :
    ∃ V, (∀ w' : World, (Instr.slice 33 (.slice A n c) (some (.int .i64 i)) none none).run Tryd.prog w' = .ok V w') ∧ Sl w V (l.drop k) ∧ ∀ g, Clear g (.slice A n c) → Clear g V := by
  obtain ⟨A', c', e, hc⟩ := h.room
  injection e with e1 e2 e3
  subst e1; subst e2; subst e3; subst hi
  have hu : Tryd.prog.underlying 33 = some (.slice (Tryd.prog.elem 33)) := by kernel_rfl
  refine ⟨.slice (if c = k then A else A.map (·.add k)) (l.length - k) (c - k), fun w' => ?_, ⟨⟨by rw [ints_length], ?_⟩, ?_⟩, ?_⟩
  · rw [run_slice_l w' 33 A l.length c hu .i64 k (by omega) (by omega)]
    have hs : (sizeOf (Tryd.prog.elem 33)).run Tryd.prog w' = .ok 1 w' := by kernel_rfl
    rw [hs]
    simp [Result.andThen, sliced]
  · rw [List.length_drop]
    rcases h.src.2 with ⟨e, h0⟩ | ⟨ad, c2, e, hcell⟩
    · injection e with e1 e2 e3
      subst e1; subst e3
      left
      refine ⟨?_, by omega⟩
      have : k = 0 := by omega
      subst this
      simp [h0]
    · injection e with e1 e2 e3
      subst e1; subst e3
      right
      by_cases hck : c = k
      · rw [if_pos hck]
        refine ⟨ad, c - k, rfl, fun j u hu => ?_⟩
        have : l.drop k = [] := List.drop_eq_nil_of_le (by omega)
        rw [this] at hu
        simp [ints] at hu
      · rw [if_neg hck]
        refine ⟨ad.add k, c - k, rfl, fun j u hu => ?_⟩
        rw [Go.Deep.add_add]
        refine hcell (k + j) u ?_
        rw [← ints_drop, List.getElem?_drop] at hu
        exact hu
  · exact ⟨_, _, by rw [List.length_drop], by rw [List.length_drop]; omega⟩
  · intro g hg ad n' c' e
    injection e with e1 e2 e3
    split at e1
    · subst e1; exact hg ad _ c rfl
    · cases A with
      | none => cases e1
      | some a =>
        have : ad = a.add k := by simpa using e1.symm
        rw [this, add_block]; exact hg a _ c rfl
end
section
open Go.RowKit
namespace Wid
theorem within_yes {r lo hi : Int} (h : lo ≤ r) (k : r ≤ hi) : within r lo hi = true := by unfold within; rw [decide_eq_true h, decide_eq_true k]; rfl
theorem within_low {r lo hi : Int} (h : ¬ lo ≤ r) : within r lo hi = false := by unfold within; rw [decide_eq_false h]; rfl
theorem within_high {r lo hi : Int} (h : ¬ r ≤ hi) : within r lo hi = false := by unfold within; rw [decide_eq_false h]; cases decide (lo ≤ r) <;> rfl
theorem in_any (r lo hi : Int) (w : World) : Calls Tryd.prog 97 #[.int .i64 r, .int .i64 lo, .int .i64 hi] w fun e w' => e = .returned (.bool (within r lo hi)) ∧ w = w' := by
  by_cases h : lo ≤ r
  · by_cases k : r ≤ hi
    · have H := Lib.hid (within_yes h k)
      go_enter Tryd.func97, Tryd.ntmps97
      go_wp2_with fail
      go_ret
      exact ⟨ret_bool H.out.symm, rfl⟩
    · have H := Lib.hid (within_high (lo := lo) k)
      have hd : decide (r ≤ hi) = false := decide_eq_false k
      go_enter Tryd.func97, Tryd.ntmps97
      go_wp2_with fail
      go_ret
      exact ⟨ret_bool H.out.symm, rfl⟩
  · have H := Lib.hid (within_low (hi := hi) h)
    have hd : decide (lo ≤ r) = false := decide_eq_false h
    go_enter Tryd.func97, Tryd.ntmps97
    go_wp2_with fail
    go_ret
    exact ⟨ret_bool H.out.symm, rfl⟩
def kindOf (r : Int) : Value := bif isNone r then .iface 173 (.agg #[]) else bif isMark r then .iface 175 (.agg #[]) else bif isWide r then .iface 177 (.int .i64 2) else .iface 177 (.int .i64 1)
theorem ret_val {a b : Value} (h : a = b) : Ending.returned a = .returned b := by rw [h]
set_option maxRecDepth 100000 in
theorem look_0 (r : Int) (w : World) (h0 : decide (r < 32) = true) : Calls Tryd.prog 96 #[.int .i64 r] w fun e w' => e = .returned (kindOf r) ∧ w = w' := by
  have HK : Hid (.iface 173 (.agg #[]) = kindOf r) := Lib.hid (by unfold kindOf isNone; (rw [h0]) <;> rfl)
  go_enter Tryd.func96, Tryd.ntmps96
  go_wp2_with (go_at_call 97; refine (in_any _ _ _ _).mono ?_; rintro e w' ⟨rfl, rfl⟩)
  go_ret
  exact ⟨ret_val HK.out, rfl⟩
set_option maxRecDepth 100000 in
theorem look_1 (r : Int) (w : World) (h0 : decide (r < 32) = false) (h1 : within r 127 159 = true) : Calls Tryd.prog 96 #[.int .i64 r] w fun e w' => e = .returned (kindOf r) ∧ w = w' := by
  have HK : Hid (.iface 173 (.agg #[]) = kindOf r) := Lib.hid (by unfold kindOf isNone; (rw [h0, h1]) <;> rfl)
  go_enter Tryd.func96, Tryd.ntmps96
  go_wp2_with (go_at_call 97; refine (in_any _ _ _ _).mono ?_; rintro e w' ⟨rfl, rfl⟩)
  go_ret
  exact ⟨ret_val HK.out, rfl⟩
set_option maxRecDepth 100000 in
theorem look_2 (r : Int) (w : World) (h0 : decide (r < 32) = false) (h1 : within r 127 159 = false) (h2 : within r 55296 57343 = true) : Calls Tryd.prog 96 #[.int .i64 r] w fun e w' => e = .returned (kindOf r) ∧ w = w' := by
  have HK : Hid (.iface 173 (.agg #[]) = kindOf r) := Lib.hid (by unfold kindOf isNone; (rw [h0, h1, h2]) <;> rfl)
  go_enter Tryd.func96, Tryd.ntmps96
  go_wp2_with (go_at_call 97; refine (in_any _ _ _ _).mono ?_; rintro e w' ⟨rfl, rfl⟩)
  go_ret
  exact ⟨ret_val HK.out, rfl⟩
set_option maxRecDepth 100000 in
theorem look_3 (r : Int) (w : World) (h0 : decide (r < 32) = false) (h1 : within r 127 159 = false) (h2 : within r 55296 57343 = false) (h3 : decide (1114111 < r) = true) : Calls Tryd.prog 96 #[.int .i64 r] w fun e w' => e = .returned (kindOf r) ∧ w = w' := by
  have HK : Hid (.iface 173 (.agg #[]) = kindOf r) := Lib.hid (by unfold kindOf isNone; (rw [h0, h1, h2, h3]) <;> rfl)
  go_enter Tryd.func96, Tryd.ntmps96
  go_wp2_with (go_at_call 97; refine (in_any _ _ _ _).mono ?_; rintro e w' ⟨rfl, rfl⟩)
  go_ret
  exact ⟨ret_val HK.out, rfl⟩
set_option maxRecDepth 100000 in
theorem look_4 (r : Int) (w : World) (h0 : decide (r < 32) = false) (h1 : within r 127 159 = false) (h2 : within r 55296 57343 = false) (h3 : decide (1114111 < r) = false) (h4 : within r 768 879 = true) : Calls Tryd.prog 96 #[.int .i64 r] w fun e w' => e = .returned (kindOf r) ∧ w = w' := by
  have HK : Hid (.iface 175 (.agg #[]) = kindOf r) := Lib.hid (by unfold kindOf isNone isMark; (rw [h0, h1, h2, h3, h4]) <;> rfl)
  go_enter Tryd.func96, Tryd.ntmps96
  go_wp2_with (go_at_call 97; refine (in_any _ _ _ _).mono ?_; rintro e w' ⟨rfl, rfl⟩)
  go_ret
  exact ⟨ret_val HK.out, rfl⟩
set_option maxRecDepth 100000 in
theorem look_5 (r : Int) (w : World) (h0 : decide (r < 32) = false) (h1 : within r 127 159 = false) (h2 : within r 55296 57343 = false) (h3 : decide (1114111 < r) = false) (h4 : within r 768 879 = false) (h5 : within r 6832 6911 = true) : Calls Tryd.prog 96 #[.int .i64 r] w fun e w' => e = .returned (kindOf r) ∧ w = w' := by
  have HK : Hid (.iface 175 (.agg #[]) = kindOf r) := Lib.hid (by unfold kindOf isNone isMark; (rw [h0, h1, h2, h3, h4, h5]) <;> rfl)
  go_enter Tryd.func96, Tryd.ntmps96
  go_wp2_with (go_at_call 97; refine (in_any _ _ _ _).mono ?_; rintro e w' ⟨rfl, rfl⟩)
  go_ret
  exact ⟨ret_val HK.out, rfl⟩
set_option maxRecDepth 100000 in
theorem look_6 (r : Int) (w : World) (h0 : decide (r < 32) = false) (h1 : within r 127 159 = false) (h2 : within r 55296 57343 = false) (h3 : decide (1114111 < r) = false) (h4 : within r 768 879 = false) (h5 : within r 6832 6911 = false) (h6 : within r 8203 8207 = true) : Calls Tryd.prog 96 #[.int .i64 r] w fun e w' => e = .returned (kindOf r) ∧ w = w' := by
  have HK : Hid (.iface 175 (.agg #[]) = kindOf r) := Lib.hid (by unfold kindOf isNone isMark; (rw [h0, h1, h2, h3, h4, h5, h6]) <;> rfl)
  go_enter Tryd.func96, Tryd.ntmps96
  go_wp2_with (go_at_call 97; refine (in_any _ _ _ _).mono ?_; rintro e w' ⟨rfl, rfl⟩)
  go_ret
  exact ⟨ret_val HK.out, rfl⟩
set_option maxRecDepth 100000 in
theorem look_7 (r : Int) (w : World) (h0 : decide (r < 32) = false) (h1 : within r 127 159 = false) (h2 : within r 55296 57343 = false) (h3 : decide (1114111 < r) = false) (h4 : within r 768 879 = false) (h5 : within r 6832 6911 = false) (h6 : within r 8203 8207 = false) (h7 : within r 8400 8447 = true) : Calls Tryd.prog 96 #[.int .i64 r] w fun e w' => e = .returned (kindOf r) ∧ w = w' := by
  have HK : Hid (.iface 175 (.agg #[]) = kindOf r) := Lib.hid (by unfold kindOf isNone isMark; (rw [h0, h1, h2, h3, h4, h5, h6, h7]) <;> rfl)
  go_enter Tryd.func96, Tryd.ntmps96
  go_wp2_with (go_at_call 97; refine (in_any _ _ _ _).mono ?_; rintro e w' ⟨rfl, rfl⟩)
  go_ret
  exact ⟨ret_val HK.out, rfl⟩
set_option maxRecDepth 100000 in
theorem look_8 (r : Int) (w : World) (h0 : decide (r < 32) = false) (h1 : within r 127 159 = false) (h2 : within r 55296 57343 = false) (h3 : decide (1114111 < r) = false) (h4 : within r 768 879 = false) (h5 : within r 6832 6911 = false) (h6 : within r 8203 8207 = false) (h7 : within r 8400 8447 = false) (h8 : within r 65024 65039 = true) : Calls Tryd.prog 96 #[.int .i64 r] w fun e w' => e = .returned (kindOf r) ∧ w = w' := by
  have HK : Hid (.iface 175 (.agg #[]) = kindOf r) := Lib.hid (by unfold kindOf isNone isMark; (rw [h0, h1, h2, h3, h4, h5, h6, h7, h8]) <;> rfl)
  go_enter Tryd.func96, Tryd.ntmps96
  go_wp2_with (go_at_call 97; refine (in_any _ _ _ _).mono ?_; rintro e w' ⟨rfl, rfl⟩)
  go_ret
  exact ⟨ret_val HK.out, rfl⟩
set_option maxRecDepth 100000 in
theorem look_9 (r : Int) (w : World) (h0 : decide (r < 32) = false) (h1 : within r 127 159 = false) (h2 : within r 55296 57343 = false) (h3 : decide (1114111 < r) = false) (h4 : within r 768 879 = false) (h5 : within r 6832 6911 = false) (h6 : within r 8203 8207 = false) (h7 : within r 8400 8447 = false) (h8 : within r 65024 65039 = false) (h9 : within r 65056 65071 = true) : Calls Tryd.prog 96 #[.int .i64 r] w fun e w' => e = .returned (kindOf r) ∧ w = w' := by
  have HK : Hid (.iface 175 (.agg #[]) = kindOf r) := Lib.hid (by unfold kindOf isNone isMark; (rw [h0, h1, h2, h3, h4, h5, h6, h7, h8, h9]) <;> rfl)
  go_enter Tryd.func96, Tryd.ntmps96
  go_wp2_with (go_at_call 97; refine (in_any _ _ _ _).mono ?_; rintro e w' ⟨rfl, rfl⟩)
  go_ret
  exact ⟨ret_val HK.out, rfl⟩
set_option maxRecDepth 100000 in
theorem look_10 (r : Int) (w : World) (h0 : decide (r < 32) = false) (h1 : within r 127 159 = false) (h2 : within r 55296 57343 = false) (h3 : decide (1114111 < r) = false) (h4 : within r 768 879 = false) (h5 : within r 6832 6911 = false) (h6 : within r 8203 8207 = false) (h7 : within r 8400 8447 = false) (h8 : within r 65024 65039 = false) (h9 : within r 65056 65071 = false) (h10 : within r 4352 4447 = true) : Calls Tryd.prog 96 #[.int .i64 r] w fun e w' => e = .returned (kindOf r) ∧ w = w' := by
  have HK : Hid (.iface 177 (.int .i64 2) = kindOf r) := Lib.hid (by unfold kindOf isNone isMark isWide; (rw [h0, h1, h2, h3, h4, h5, h6, h7, h8, h9, h10]) <;> rfl)
  go_enter Tryd.func96, Tryd.ntmps96
  go_wp2_with (go_at_call 97; refine (in_any _ _ _ _).mono ?_; rintro e w' ⟨rfl, rfl⟩)
  go_ret
  exact ⟨ret_val HK.out, rfl⟩
set_option maxRecDepth 100000 in
theorem look_11 (r : Int) (w : World) (h0 : decide (r < 32) = false) (h1 : within r 127 159 = false) (h2 : within r 55296 57343 = false) (h3 : decide (1114111 < r) = false) (h4 : within r 768 879 = false) (h5 : within r 6832 6911 = false) (h6 : within r 8203 8207 = false) (h7 : within r 8400 8447 = false) (h8 : within r 65024 65039 = false) (h9 : within r 65056 65071 = false) (h10 : within r 4352 4447 = false) (h11 : within r 11904 12350 = true) : Calls Tryd.prog 96 #[.int .i64 r] w fun e w' => e = .returned (kindOf r) ∧ w = w' := by
  have HK : Hid (.iface 177 (.int .i64 2) = kindOf r) := Lib.hid (by unfold kindOf isNone isMark isWide; (rw [h0, h1, h2, h3, h4, h5, h6, h7, h8, h9, h10, h11]) <;> rfl)
  go_enter Tryd.func96, Tryd.ntmps96
  go_wp2_with (go_at_call 97; refine (in_any _ _ _ _).mono ?_; rintro e w' ⟨rfl, rfl⟩)
  go_ret
  exact ⟨ret_val HK.out, rfl⟩
set_option maxRecDepth 100000 in
theorem look_12 (r : Int) (w : World) (h0 : decide (r < 32) = false) (h1 : within r 127 159 = false) (h2 : within r 55296 57343 = false) (h3 : decide (1114111 < r) = false) (h4 : within r 768 879 = false) (h5 : within r 6832 6911 = false) (h6 : within r 8203 8207 = false) (h7 : within r 8400 8447 = false) (h8 : within r 65024 65039 = false) (h9 : within r 65056 65071 = false) (h10 : within r 4352 4447 = false) (h11 : within r 11904 12350 = false) (h12 : within r 12353 42191 = true) : Calls Tryd.prog 96 #[.int .i64 r] w fun e w' => e = .returned (kindOf r) ∧ w = w' := by
  have HK : Hid (.iface 177 (.int .i64 2) = kindOf r) := Lib.hid (by unfold kindOf isNone isMark isWide; (rw [h0, h1, h2, h3, h4, h5, h6, h7, h8, h9, h10, h11, h12]) <;> rfl)
  go_enter Tryd.func96, Tryd.ntmps96
  go_wp2_with (go_at_call 97; refine (in_any _ _ _ _).mono ?_; rintro e w' ⟨rfl, rfl⟩)
  go_ret
  exact ⟨ret_val HK.out, rfl⟩
set_option maxRecDepth 100000 in
theorem look_13 (r : Int) (w : World) (h0 : decide (r < 32) = false) (h1 : within r 127 159 = false) (h2 : within r 55296 57343 = false) (h3 : decide (1114111 < r) = false) (h4 : within r 768 879 = false) (h5 : within r 6832 6911 = false) (h6 : within r 8203 8207 = false) (h7 : within r 8400 8447 = false) (h8 : within r 65024 65039 = false) (h9 : within r 65056 65071 = false) (h10 : within r 4352 4447 = false) (h11 : within r 11904 12350 = false) (h12 : within r 12353 42191 = false) (h13 : within r 44032 55203 = true) : Calls Tryd.prog 96 #[.int .i64 r] w fun e w' => e = .returned (kindOf r) ∧ w = w' := by
  have HK : Hid (.iface 177 (.int .i64 2) = kindOf r) := Lib.hid (by unfold kindOf isNone isMark isWide; (rw [h0, h1, h2, h3, h4, h5, h6, h7, h8, h9, h10, h11, h12, h13]) <;> rfl)
  go_enter Tryd.func96, Tryd.ntmps96
  go_wp2_with (go_at_call 97; refine (in_any _ _ _ _).mono ?_; rintro e w' ⟨rfl, rfl⟩)
  go_ret
  exact ⟨ret_val HK.out, rfl⟩
set_option maxRecDepth 100000 in
theorem look_14 (r : Int) (w : World) (h0 : decide (r < 32) = false) (h1 : within r 127 159 = false) (h2 : within r 55296 57343 = false) (h3 : decide (1114111 < r) = false) (h4 : within r 768 879 = false) (h5 : within r 6832 6911 = false) (h6 : within r 8203 8207 = false) (h7 : within r 8400 8447 = false) (h8 : within r 65024 65039 = false) (h9 : within r 65056 65071 = false) (h10 : within r 4352 4447 = false) (h11 : within r 11904 12350 = false) (h12 : within r 12353 42191 = false) (h13 : within r 44032 55203 = false) (h14 : within r 63744 64255 = true) : Calls Tryd.prog 96 #[.int .i64 r] w fun e w' => e = .returned (kindOf r) ∧ w = w' := by
  have HK : Hid (.iface 177 (.int .i64 2) = kindOf r) := Lib.hid (by unfold kindOf isNone isMark isWide; (rw [h0, h1, h2, h3, h4, h5, h6, h7, h8, h9, h10, h11, h12, h13, h14]) <;> rfl)
  go_enter Tryd.func96, Tryd.ntmps96
  go_wp2_with (go_at_call 97; refine (in_any _ _ _ _).mono ?_; rintro e w' ⟨rfl, rfl⟩)
  go_ret
  exact ⟨ret_val HK.out, rfl⟩
set_option maxRecDepth 100000 in
theorem look_15 (r : Int) (w : World) (h0 : decide (r < 32) = false) (h1 : within r 127 159 = false) (h2 : within r 55296 57343 = false) (h3 : decide (1114111 < r) = false) (h4 : within r 768 879 = false) (h5 : within r 6832 6911 = false) (h6 : within r 8203 8207 = false) (h7 : within r 8400 8447 = false) (h8 : within r 65024 65039 = false) (h9 : within r 65056 65071 = false) (h10 : within r 4352 4447 = false) (h11 : within r 11904 12350 = false) (h12 : within r 12353 42191 = false) (h13 : within r 44032 55203 = false) (h14 : within r 63744 64255 = false) (h15 : within r 65072 65135 = true) : Calls Tryd.prog 96 #[.int .i64 r] w fun e w' => e = .returned (kindOf r) ∧ w = w' := by
  have HK : Hid (.iface 177 (.int .i64 2) = kindOf r) := Lib.hid (by unfold kindOf isNone isMark isWide; (rw [h0, h1, h2, h3, h4, h5, h6, h7, h8, h9, h10, h11, h12, h13, h14, h15]) <;> rfl)
  go_enter Tryd.func96, Tryd.ntmps96
  go_wp2_with (go_at_call 97; refine (in_any _ _ _ _).mono ?_; rintro e w' ⟨rfl, rfl⟩)
  go_ret
  exact ⟨ret_val HK.out, rfl⟩
set_option maxRecDepth 100000 in
theorem look_16 (r : Int) (w : World) (h0 : decide (r < 32) = false) (h1 : within r 127 159 = false) (h2 : within r 55296 57343 = false) (h3 : decide (1114111 < r) = false) (h4 : within r 768 879 = false) (h5 : within r 6832 6911 = false) (h6 : within r 8203 8207 = false) (h7 : within r 8400 8447 = false) (h8 : within r 65024 65039 = false) (h9 : within r 65056 65071 = false) (h10 : within r 4352 4447 = false) (h11 : within r 11904 12350 = false) (h12 : within r 12353 42191 = false) (h13 : within r 44032 55203 = false) (h14 : within r 63744 64255 = false) (h15 : within r 65072 65135 = false) (h16 : within r 65280 65376 = true) : Calls Tryd.prog 96 #[.int .i64 r] w fun e w' => e = .returned (kindOf r) ∧ w = w' := by
  have HK : Hid (.iface 177 (.int .i64 2) = kindOf r) := Lib.hid (by unfold kindOf isNone isMark isWide; (rw [h0, h1, h2, h3, h4, h5, h6, h7, h8, h9, h10, h11, h12, h13, h14, h15, h16]) <;> rfl)
  go_enter Tryd.func96, Tryd.ntmps96
  go_wp2_with (go_at_call 97; refine (in_any _ _ _ _).mono ?_; rintro e w' ⟨rfl, rfl⟩)
  go_ret
  exact ⟨ret_val HK.out, rfl⟩
set_option maxRecDepth 100000 in
theorem look_17 (r : Int) (w : World) (h0 : decide (r < 32) = false) (h1 : within r 127 159 = false) (h2 : within r 55296 57343 = false) (h3 : decide (1114111 < r) = false) (h4 : within r 768 879 = false) (h5 : within r 6832 6911 = false) (h6 : within r 8203 8207 = false) (h7 : within r 8400 8447 = false) (h8 : within r 65024 65039 = false) (h9 : within r 65056 65071 = false) (h10 : within r 4352 4447 = false) (h11 : within r 11904 12350 = false) (h12 : within r 12353 42191 = false) (h13 : within r 44032 55203 = false) (h14 : within r 63744 64255 = false) (h15 : within r 65072 65135 = false) (h16 : within r 65280 65376 = false) (h17 : within r 65504 65510 = true) : Calls Tryd.prog 96 #[.int .i64 r] w fun e w' => e = .returned (kindOf r) ∧ w = w' := by
  have HK : Hid (.iface 177 (.int .i64 2) = kindOf r) := Lib.hid (by unfold kindOf isNone isMark isWide; (rw [h0, h1, h2, h3, h4, h5, h6, h7, h8, h9, h10, h11, h12, h13, h14, h15, h16, h17]) <;> rfl)
  go_enter Tryd.func96, Tryd.ntmps96
  go_wp2_with (go_at_call 97; refine (in_any _ _ _ _).mono ?_; rintro e w' ⟨rfl, rfl⟩)
  go_ret
  exact ⟨ret_val HK.out, rfl⟩
set_option maxRecDepth 100000 in
theorem look_18 (r : Int) (w : World) (h0 : decide (r < 32) = false) (h1 : within r 127 159 = false) (h2 : within r 55296 57343 = false) (h3 : decide (1114111 < r) = false) (h4 : within r 768 879 = false) (h5 : within r 6832 6911 = false) (h6 : within r 8203 8207 = false) (h7 : within r 8400 8447 = false) (h8 : within r 65024 65039 = false) (h9 : within r 65056 65071 = false) (h10 : within r 4352 4447 = false) (h11 : within r 11904 12350 = false) (h12 : within r 12353 42191 = false) (h13 : within r 44032 55203 = false) (h14 : within r 63744 64255 = false) (h15 : within r 65072 65135 = false) (h16 : within r 65280 65376 = false) (h17 : within r 65504 65510 = false) (h18 : within r 127744 128591 = true) : Calls Tryd.prog 96 #[.int .i64 r] w fun e w' => e = .returned (kindOf r) ∧ w = w' := by
  have HK : Hid (.iface 177 (.int .i64 2) = kindOf r) := Lib.hid (by unfold kindOf isNone isMark isWide; (rw [h0, h1, h2, h3, h4, h5, h6, h7, h8, h9, h10, h11, h12, h13, h14, h15, h16, h17, h18]) <;> rfl)
  go_enter Tryd.func96, Tryd.ntmps96
  go_wp2_with (go_at_call 97; refine (in_any _ _ _ _).mono ?_; rintro e w' ⟨rfl, rfl⟩)
  go_ret
  exact ⟨ret_val HK.out, rfl⟩
set_option maxRecDepth 100000 in
theorem look_19 (r : Int) (w : World) (h0 : decide (r < 32) = false) (h1 : within r 127 159 = false) (h2 : within r 55296 57343 = false) (h3 : decide (1114111 < r) = false) (h4 : within r 768 879 = false) (h5 : within r 6832 6911 = false) (h6 : within r 8203 8207 = false) (h7 : within r 8400 8447 = false) (h8 : within r 65024 65039 = false) (h9 : within r 65056 65071 = false) (h10 : within r 4352 4447 = false) (h11 : within r 11904 12350 = false) (h12 : within r 12353 42191 = false) (h13 : within r 44032 55203 = false) (h14 : within r 63744 64255 = false) (h15 : within r 65072 65135 = false) (h16 : within r 65280 65376 = false) (h17 : within r 65504 65510 = false) (h18 : within r 127744 128591 = false) (h19 : within r 129280 129535 = true) : Calls Tryd.prog 96 #[.int .i64 r] w fun e w' => e = .returned (kindOf r) ∧ w = w' := by
  have HK : Hid (.iface 177 (.int .i64 2) = kindOf r) := Lib.hid (by unfold kindOf isNone isMark isWide; (rw [h0, h1, h2, h3, h4, h5, h6, h7, h8, h9, h10, h11, h12, h13, h14, h15, h16, h17, h18, h19]) <;> rfl)
  go_enter Tryd.func96, Tryd.ntmps96
  go_wp2_with (go_at_call 97; refine (in_any _ _ _ _).mono ?_; rintro e w' ⟨rfl, rfl⟩)
  go_ret
  exact ⟨ret_val HK.out, rfl⟩
set_option maxRecDepth 100000 in
theorem look_20 (r : Int) (w : World) (h0 : decide (r < 32) = false) (h1 : within r 127 159 = false) (h2 : within r 55296 57343 = false) (h3 : decide (1114111 < r) = false) (h4 : within r 768 879 = false) (h5 : within r 6832 6911 = false) (h6 : within r 8203 8207 = false) (h7 : within r 8400 8447 = false) (h8 : within r 65024 65039 = false) (h9 : within r 65056 65071 = false) (h10 : within r 4352 4447 = false) (h11 : within r 11904 12350 = false) (h12 : within r 12353 42191 = false) (h13 : within r 44032 55203 = false) (h14 : within r 63744 64255 = false) (h15 : within r 65072 65135 = false) (h16 : within r 65280 65376 = false) (h17 : within r 65504 65510 = false) (h18 : within r 127744 128591 = false) (h19 : within r 129280 129535 = false) (h20 : within r 131072 262141 = true) : Calls Tryd.prog 96 #[.int .i64 r] w fun e w' => e = .returned (kindOf r) ∧ w = w' := by
  have HK : Hid (.iface 177 (.int .i64 2) = kindOf r) := Lib.hid (by unfold kindOf isNone isMark isWide; (rw [h0, h1, h2, h3, h4, h5, h6, h7, h8, h9, h10, h11, h12, h13, h14, h15, h16, h17, h18, h19, h20]) <;> rfl)
  go_enter Tryd.func96, Tryd.ntmps96
  go_wp2_with (go_at_call 97; refine (in_any _ _ _ _).mono ?_; rintro e w' ⟨rfl, rfl⟩)
  go_ret
  exact ⟨ret_val HK.out, rfl⟩
set_option maxRecDepth 100000 in
theorem look_21 (r : Int) (w : World) (h0 : decide (r < 32) = false) (h1 : within r 127 159 = false) (h2 : within r 55296 57343 = false) (h3 : decide (1114111 < r) = false) (h4 : within r 768 879 = false) (h5 : within r 6832 6911 = false) (h6 : within r 8203 8207 = false) (h7 : within r 8400 8447 = false) (h8 : within r 65024 65039 = false) (h9 : within r 65056 65071 = false) (h10 : within r 4352 4447 = false) (h11 : within r 11904 12350 = false) (h12 : within r 12353 42191 = false) (h13 : within r 44032 55203 = false) (h14 : within r 63744 64255 = false) (h15 : within r 65072 65135 = false) (h16 : within r 65280 65376 = false) (h17 : within r 65504 65510 = false) (h18 : within r 127744 128591 = false) (h19 : within r 129280 129535 = false) (h20 : within r 131072 262141 = false) : Calls Tryd.prog 96 #[.int .i64 r] w fun e w' => e = .returned (kindOf r) ∧ w = w' := by
  have HK : Hid (.iface 177 (.int .i64 1) = kindOf r) := Lib.hid (by unfold kindOf isNone isMark isWide; (rw [h0, h1, h2, h3, h4, h5, h6, h7, h8, h9, h10, h11, h12, h13, h14, h15, h16, h17, h18, h19, h20]) <;> rfl)
  go_enter Tryd.func96, Tryd.ntmps96
  go_wp2_with (go_at_call 97; refine (in_any _ _ _ _).mono ?_; rintro e w' ⟨rfl, rfl⟩)
  go_ret
  exact ⟨ret_val HK.out, rfl⟩
theorem look_any (r : Int) (w : World) : Calls Tryd.prog 96 #[.int .i64 r] w fun e w' => e = .returned (kindOf r) ∧ w = w' := by
  cases h0 : decide (r < 32)
  case true => exact look_0 r w h0
  cases h1 : within r 127 159
  case true => exact look_1 r w h0 h1
  cases h2 : within r 55296 57343
  case true => exact look_2 r w h0 h1 h2
  cases h3 : decide (1114111 < r)
  case true => exact look_3 r w h0 h1 h2 h3
  cases h4 : within r 768 879
  case true => exact look_4 r w h0 h1 h2 h3 h4
  cases h5 : within r 6832 6911
  case true => exact look_5 r w h0 h1 h2 h3 h4 h5
  cases h6 : within r 8203 8207
  case true => exact look_6 r w h0 h1 h2 h3 h4 h5 h6
  cases h7 : within r 8400 8447
  case true => exact look_7 r w h0 h1 h2 h3 h4 h5 h6 h7
  cases h8 : within r 65024 65039
  case true => exact look_8 r w h0 h1 h2 h3 h4 h5 h6 h7 h8
  cases h9 : within r 65056 65071
  case true => exact look_9 r w h0 h1 h2 h3 h4 h5 h6 h7 h8 h9
  cases h10 : within r 4352 4447
  case true => exact look_10 r w h0 h1 h2 h3 h4 h5 h6 h7 h8 h9 h10
  cases h11 : within r 11904 12350
  case true => exact look_11 r w h0 h1 h2 h3 h4 h5 h6 h7 h8 h9 h10 h11
  cases h12 : within r 12353 42191
  case true => exact look_12 r w h0 h1 h2 h3 h4 h5 h6 h7 h8 h9 h10 h11 h12
  cases h13 : within r 44032 55203
  case true => exact look_13 r w h0 h1 h2 h3 h4 h5 h6 h7 h8 h9 h10 h11 h12 h13
  cases h14 : within r 63744 64255
  case true => exact look_14 r w h0 h1 h2 h3 h4 h5 h6 h7 h8 h9 h10 h11 h12 h13 h14
  cases h15 : within r 65072 65135
  case true => exact look_15 r w h0 h1 h2 h3 h4 h5 h6 h7 h8 h9 h10 h11 h12 h13 h14 h15
  cases h16 : within r 65280 65376
  case true => exact look_16 r w h0 h1 h2 h3 h4 h5 h6 h7 h8 h9 h10 h11 h12 h13 h14 h15 h16
  cases h17 : within r 65504 65510
  case true => exact look_17 r w h0 h1 h2 h3 h4 h5 h6 h7 h8 h9 h10 h11 h12 h13 h14 h15 h16 h17
  cases h18 : within r 127744 128591
  case true => exact look_18 r w h0 h1 h2 h3 h4 h5 h6 h7 h8 h9 h10 h11 h12 h13 h14 h15 h16 h17 h18
  cases h19 : within r 129280 129535
  case true => exact look_19 r w h0 h1 h2 h3 h4 h5 h6 h7 h8 h9 h10 h11 h12 h13 h14 h15 h16 h17 h18 h19
  cases h20 : within r 131072 262141
  case true => exact look_20 r w h0 h1 h2 h3 h4 h5 h6 h7 h8 h9 h10 h11 h12 h13 h14 h15 h16 h17 h18 h19 h20
  exact look_21 r w h0 h1 h2 h3 h4 h5 h6 h7 h8 h9 h10 h11 h12 h13 h14 h15 h16 h17 h18 h19 h20
end Wid
end
section
open Go.RowKit
namespace Wid
theorem pairs_step (r a b : Int) (l : List Int) : pairs r (a :: b :: l) = (within r a b || pairs r l) := rfl
theorem drop_two {l : List Int} {k : Nat} (h : k + 1 < l.length) : l.drop k = l.getD k 0 :: l.getD (k + 1) 0 :: l.drop (k + 2) := by
  rw [List.drop_eq_getElem_cons (by omega), List.drop_eq_getElem_cons (by omega)]
  simp [List.getD, show k < l.length by omega, h]
theorem pairs_short {r : Int} {l : List Int} (h : l.length ≤ 1) : pairs r l = false := by
  match l, h with
  | [], _ => rfl
  | [_], _ => rfl
set_option maxHeartbeats 800000 in
theorem between_any {x : Value} (r : Int) (n : Nat) (l : List Int) (w : World) (hx : Src w x n (ints l)) (hn : n ≤ 1000) :
    Calls Tryd.prog 63 #[.int .i64 r, x] w fun e w' => e = .returned (.bool (pairs r l)) ∧ w = w' := by
  have ln : l.length = n := by have := hx.len; rwa [ints_length] at this
  obtain ⟨A, c, rfl, ha⟩ := hx.form
  have ha' := Lib.hid ha
  have ln' := Lib.hid ln
  clear ha hx ln
  go_enter Tryd.func63, Tryd.ntmps63
  go_wp2_with fail
  go_loop [5] (fun i => ∃ k : Nat, k ≤ n + 1 ∧ i = .int .i64 k ∧ Hid (pairs r (l.drop k) = pairs r l)) (fun i => n + 2 - (intOf i).toNat)
  case atStart => exact ⟨0, by omega, rfl, Lib.hid rfl⟩
  case round =>
    obtain ⟨k, hk, rfl, HP⟩ := hrel
    by_cases hlt : k + 1 < n
    · obtain ⟨ad, rfl, h1⟩ := ha'.out k (by omega)
      obtain ⟨ad', e, h2⟩ := ha'.out (k + 1) hlt
      injection e with e; subst e
      rw [ints_get (by rw [ln'.out]; omega)] at h1
      rw [ints_get (by rw [ln'.out]; omega), show ad.add (k + 1) = { block := ad.block, off := ad.off + (k + 1) } from by simp [Addr.add]] at h2
      have HD : Hid (pairs r l = (within r (l.getD k 0) (l.getD (k + 1) 0) || pairs r (l.drop (k + 2)))) := Lib.hid (by
        rw [← HP.out, drop_two (by rw [ln'.out]; exact hlt), pairs_step])
      generalize l.getD k 0 = a at h1 HD
      generalize l.getD (k + 1) 0 = b at h2 HD
      have hc : decide ((k : Int) + 1 < (n : Int)) = true := decide_eq_true (by omega)
      by_cases g1 : a ≤ r
      · by_cases g2 : r ≤ b
        · have HR : Hid (pairs r l = true) := Lib.hid (by
            rw [HD.out]; unfold within; rw [decide_eq_true g1, decide_eq_true g2]; rfl)
          go_wp2_with fail
          go_ret
          exact ⟨ret_bool HR.out.symm, rfl⟩
        · have HR : Hid (pairs r (l.drop (k + 2)) = pairs r l) := Lib.hid (by
            rw [HD.out]; unfold within; rw [decide_eq_false g2, Bool.and_false, Bool.false_or])
          have hg2 : decide (r ≤ b) = false := decide_eq_false g2
          clear g2
          go_wp2_with fail
          go_round
          case rel => exact ⟨k + 2, by omega, by go_num, HR⟩
          case measure => simp [intOf]; omega
      · have HR : Hid (pairs r (l.drop (k + 2)) = pairs r l) := Lib.hid (by
          rw [HD.out]; unfold within; rw [decide_eq_false g1, Bool.false_and, Bool.false_or])
        have hg1 : decide (a ≤ r) = false := decide_eq_false g1
        clear g1
        go_wp2_with fail
        go_round
        case rel => exact ⟨k + 2, by omega, by go_num, HR⟩
        case measure => simp [intOf]; omega
    · have HR : Hid (pairs r l = false) := Lib.hid (by rw [← HP.out, pairs_short (by rw [List.length_drop, ln'.out]; omega)])
      have hc : decide ((k : Int) + 1 < (n : Int)) = false := decide_eq_false (by omega)
      clear hlt
      go_wp2_with fail
      go_ret
      exact ⟨ret_bool HR.out.symm, rfl⟩
def noneL : List Int := [127, 159, 55296, 57343]
def markL : List Int := [768, 879, 6832, 6911, 8203, 8207, 8400, 8447, 65024, 65039, 65056, 65071]
def wideL : List Int := [4352, 4447, 11904, 12350, 12353, 42191, 44032, 55203, 63744, 64255, 65072, 65135, 65280, 65376, 65504, 65510, 127744, 128591, 129280, 129535, 131072, 262141]
theorem none_pairs (r : Int) (h : decide (r < 32) = false) (k : decide (1114111 < r) = false) : isNone r = pairs r noneL := by
  unfold isNone; rw [h, k]; simp [noneL, pairs]
theorem mark_pairs (r : Int) : isMark r = pairs r markL := by simp [isMark, markL, pairs]
theorem wide_pairs (r : Int) : isWide r = pairs r wideL := by simp [isWide, wideL, pairs]
theorem between_at {x : Value} (r : Int) (n : Nat) (l : List Int) (b : Bool) (hb : pairs r l = b) (w : World) (hx : Src w x n (ints l)) (hn : n ≤ 1000) :
    Calls Tryd.prog 63 #[.int .i64 r, x] w fun e w' => e = .returned (.bool b) ∧ w = w' := by subst hb; exact between_any r n l w hx hn
set_option maxRecDepth 100000 in
set_option maxHeartbeats 1600000 in
theorem width_any (r : Int) (w : World) : Calls Tryd.prog 53 #[.int .i64 r] w fun e w' => e = .returned (.int .i64 (wid r)) ∧ Below w.heap.size w w' := by
  by_cases h1 : r < 32
  · have HW : Hid (wid r = -1) := Lib.hid (by unfold wid isNone; rw [decide_eq_true h1]; rfl)
    go_enter Tryd.func53, Tryd.ntmps53
    go_wp2_with fail
    go_ret
    exact ⟨ret_int HW.out.symm, Below.refl _ _⟩
  · by_cases h2 : 1114111 < r
    · have HW : Hid (wid r = -1) := Lib.hid (by unfold wid isNone; rw [decide_eq_true h2, Bool.or_true, Bool.or_true, Bool.or_true]; rfl)
      have hd1 : decide (r < 32) = false := decide_eq_false h1
      go_enter Tryd.func53, Tryd.ntmps53
      go_wp2_with fail
      go_ret
      exact ⟨ret_int HW.out.symm, Below.refl _ _⟩
    · have hd1 : decide (r < 32) = false := decide_eq_false h1
      have hd2 : decide (1114111 < r) = false := decide_eq_false h2
      have hN := none_pairs r hd1 hd2
      have hM := mark_pairs r
      have hI := wide_pairs r
      have hw : wid r = bif pairs r noneL then -1 else bif pairs r markL then 0 else bif pairs r wideL then 2 else 1 := by
        unfold wid; rw [hN, hM, hI]
      clear hN hM hI h1 h2
      cases p1 : pairs r noneL
      case true =>
        have HW : Hid (wid r = -1) := Lib.hid (by rw [hw, p1]; rfl)
        have P1 := Lib.hid p1
        clear hw p1
        go_enter Tryd.func53, Tryd.ntmps53
        go_wp2_with fail
        refine (between_at r 4 noneL _ P1.out _ (Src.made_at _ _ _ _ _ _ _ rfl rfl rfl) (by decide)).mono ?_; rintro e w' ⟨rfl, rfl⟩
        go_wp2_with fail
        go_ret
        exact ⟨ret_int HW.out.symm, (Below.refl _ _).alloc (Nat.le_refl _) _⟩
      case false =>
        have P1 := Lib.hid p1
        cases p2 : pairs r markL
        case true =>
          have HW : Hid (wid r = 0) := Lib.hid (by rw [hw, p1, p2]; rfl)
          have P2 := Lib.hid p2
          clear hw p1 p2
          go_enter Tryd.func53, Tryd.ntmps53
          go_wp2_with fail
          refine (between_at r 4 noneL _ P1.out _ (Src.made_at _ _ _ _ _ _ _ rfl rfl rfl) (by decide)).mono ?_; rintro e w' ⟨rfl, rfl⟩
          go_wp2_with fail
          refine (between_at r 12 markL _ P2.out _ (Src.made_at _ _ _ _ _ _ _ (by simp) rfl rfl) (by decide)).mono ?_; rintro e w' ⟨rfl, rfl⟩
          go_wp2_with fail
          go_ret
          exact ⟨ret_int HW.out.symm, ((Below.refl _ _).alloc (Nat.le_refl _) _).alloc (by simp) _⟩
        case false =>
          have P2 := Lib.hid p2
          cases p3 : pairs r wideL
          all_goals
            have HW : Hid (wid r = _) := Lib.hid (by rw [hw, p1, p2, p3])
            have P3 := Lib.hid p3
            clear hw p1 p2 p3
            go_enter Tryd.func53, Tryd.ntmps53
            go_wp2_with fail
            refine (between_at r 4 noneL _ P1.out _ (Src.made_at _ _ _ _ _ _ _ rfl rfl rfl) (by decide)).mono ?_; rintro e w' ⟨rfl, rfl⟩
            go_wp2_with fail
            refine (between_at r 12 markL _ P2.out _ (Src.made_at _ _ _ _ _ _ _ (by simp) rfl rfl) (by decide)).mono ?_; rintro e w' ⟨rfl, rfl⟩
            go_wp2_with fail
            refine (between_at r 22 wideL _ P3.out _ (Src.made_at _ _ _ _ _ _ _ (by simp) rfl rfl) (by decide)).mono ?_; rintro e w' ⟨rfl, rfl⟩
            go_wp2_with fail
            go_ret
            exact ⟨ret_int HW.out.symm, (((Below.refl _ _).alloc (Nat.le_refl _) _).alloc (by simp) _).alloc (by simp; omega) _⟩
end Wid
end
end Go.Proofs.YtjcfbeiljdohcaaDoor
