/- Joined texts: TabPlain, TabMem, TabHelp, TabRef, TabLib, TabNew, TabSet. -/
import Derived.Test.YtgjpojaegjdjcabDoorJ1
import Derived.Lib.Walk
import Derived.Shelf.Strings.BuilderRune
import Derived.Shelf.Strings.BuilderF
import Derived.Lib.SliceRun
import Derived.Laws.CopyRow
import Derived.Laws.CopyOwn
section
/- Stops as plain lists of truths: the n-th one, how many, the next one and the one ahead; the ruler's bytes. -/
namespace Go.Proofs.YtgjpojaegjdjcabDoor
open Go.RowKit
namespace Tab

def bools (l : List Bool) : List Value := l.map Value.bool
theorem bools_length (l : List Bool) : (bools l).length = l.length := List.length_map _
theorem bools_append (a b : List Bool) : bools (a ++ b) = bools a ++ bools b := List.map_append
theorem bools_get {l : List Bool} {k : Nat} (h : k < l.length) : (bools l)[k]? = some (.bool (l.getD k false)) := by unfold bools; simp [h]
theorem bools_cells (l : List Bool) : ∀ u ∈ bools l, u.oneCell' = true := by
  intro u hu
  obtain ⟨_, _, rfl⟩ := List.mem_map.1 hu
  rfl
theorem take_succ_bool {l : List Bool} {k : Nat} (h : k < l.length) : l.take (k + 1) = l.take k ++ [l.getD k false] := by
  rw [List.take_succ_eq_append_getElem h]; simp [h]
theorem drop_bool {l : List Bool} {k : Nat} (h : k < l.length) : l.drop k = l.getD k false :: l.drop (k + 1) := by
  rw [List.drop_eq_getElem_cons h]; simp [h]
theorem eq_of_bools : ∀ {a b : List Bool}, a.length = b.length → (∀ k, k < a.length → a.getD k false = b.getD k false) → a = b
  | [], [], _, _ => rfl
  | x :: a, y :: b, hl, h => by
    have h0 : x = y := by simpa using h 0 (by simp)
    have : a = b := eq_of_bools (by simpa using hl) fun k hk => by simpa using h (k + 1) (by simpa using hk)
    rw [h0, this]

/-- The column of the n-th stop, n from 1 on. -/
def nth : List Bool → Nat → Option Nat
  | [], _ => none
  | b :: r, n => if b then (if n = 1 then some 0 else (nth r (n - 1)).map (· + 1)) else (nth r n).map (· + 1)
/-- How many stops. -/
def cnt : List Bool → Nat
  | [] => 0
  | b :: r => (if b then 1 else 0) + cnt r
/-- How far the n-th stop is, or the end. -/
def far : List Bool → Nat → Nat
  | [], _ => 0
  | _ :: _, 0 => 0
  | b :: r, n + 1 => 1 + far r (if b then n else n + 1)
def nextOf (l : List Bool) (at_ n : Nat) : Nat := at_ + far (l.drop (at_ + 1)) n
/-- The n-th stop ahead, or 0. -/
def backOf (l : List Bool) : Nat → Nat → Nat
  | 0, _ => 0
  | a + 1, 0 => a + 1
  | a + 1, n + 1 => backOf l a (if l.getD a false then n else n + 1)

theorem cnt_le : ∀ l : List Bool, cnt l ≤ l.length
  | [] => Nat.le_refl _
  | b :: r => by have := cnt_le r; simp only [cnt, List.length_cons]; split <;> omega
theorem cnt_snoc : ∀ (l : List Bool) (b : Bool), cnt (l ++ [b]) = cnt l + (if b then 1 else 0)
  | [], b => by simp [cnt]
  | x :: l, b => by rw [List.cons_append, cnt, cnt, cnt_snoc l b]; omega
theorem nth_none : ∀ (l : List Bool) (n : Nat), cnt l < n → nth l n = none
  | [], _, _ => rfl
  | b :: r, n, h => by
    simp only [cnt] at h
    cases b
    · simp only [nth]; rw [if_neg (by decide), nth_none r n (by simpa using h)]; rfl
    · simp only [nth]; simp only [if_true] at h ⊢; rw [if_neg (by omega), nth_none r (n - 1) (by omega)]; rfl
theorem nth_some : ∀ (l : List Bool) (n : Nat), 1 ≤ n → n ≤ cnt l → ∃ i, nth l n = some i ∧ i < l.length
  | [], n, h1, h2 => by simp only [cnt] at h2; omega
  | b :: r, n, h1, h2 => by
    simp only [cnt] at h2
    cases b
    · obtain ⟨i, hi, hl⟩ := nth_some r n h1 (by simpa using h2)
      exact ⟨i + 1, by simp only [nth]; rw [if_neg (by decide), hi]; rfl, by simp only [List.length_cons]; omega⟩
    · by_cases h : n = 1
      · exact ⟨0, by simp [nth, h], by simp⟩
      · simp only [if_true] at h2
        obtain ⟨i, hi, hl⟩ := nth_some r (n - 1) (by omega) (by omega)
        exact ⟨i + 1, by simp only [nth]; rw [if_pos trivial, if_neg h, hi]; rfl, by simp only [List.length_cons]; omega⟩
/-- By the n-th stop: how far. -/
theorem far_nth : ∀ (l : List Bool) (n : Nat), 1 ≤ n → far l n = match nth l n with | some i => i + 1 | none => l.length
  | [], n, h => by simp [far, nth]
  | b :: r, n + 1, h => by
    simp only [far]
    cases b
    · rw [if_neg (by decide), far_nth r (n + 1) (by omega)]
      simp only [nth]
      rw [if_neg (by decide)]
      cases nth r (n + 1) with
      | none => show 1 + r.length = r.length + 1; omega
      | some i => show 1 + (i + 1) = i + 1 + 1; omega
    · rw [if_pos rfl]
      simp only [nth]
      rw [if_pos trivial]
      by_cases hn : n = 0
      · subst hn
        cases r <;> simp [far]
      · rw [if_neg (by omega), Nat.add_sub_cancel, far_nth r n (by omega)]
        cases nth r n with
        | none => show 1 + r.length = r.length + 1; omega
        | some i => show 1 + (i + 1) = i + 1 + 1; omega
theorem far_le : ∀ (l : List Bool) (n : Nat), far l n ≤ l.length
  | [], _ => Nat.le_refl _
  | _ :: _, 0 => Nat.zero_le _
  | b :: r, n + 1 => by have := far_le r (if b then n else n + 1); simp only [far, List.length_cons]; omega
theorem nth_snoc : ∀ (l : List Bool) (b : Bool) (n : Nat), 1 ≤ n → nth (l ++ [b]) n = match nth l n with | some i => some i | none => if b = true ∧ cnt l + 1 = n then some l.length else none
  | [], b, n, h => by
    cases b
    · simp [nth]
    · by_cases hn : n = 1
      · simp [nth, cnt, hn]
      · have : ¬ (0 + 1 = n) := by omega
        simp [nth, cnt, hn]; omega
  | x :: l, b, n, h => by
    rw [List.cons_append]
    simp only [nth, cnt]
    cases x
    · rw [if_neg (by decide), if_neg (by decide), nth_snoc l b n h]
      cases nth l n with
      | some i => rfl
      | none => simp only [Option.map_none, if_neg (show ¬ (false = true) by decide), Nat.zero_add]; split <;> simp
    · simp only [if_true]
      by_cases hn : n = 1
      · simp [hn]
      · rw [if_neg hn, if_neg hn, nth_snoc l b (n - 1) (by omega)]
        cases nth l (n - 1) with
        | some i => rfl
        | none =>
          simp only [Option.map_none]
          by_cases hb : b = true ∧ cnt l + 1 = n - 1
          · rw [if_pos hb, if_pos ⟨hb.1, by omega⟩]; simp
          · rw [if_neg hb, if_neg (fun e => hb ⟨e.1, by omega⟩)]; rfl
/-- By the n-th stop from the other side: the one ahead. -/
theorem backOf_nth (l : List Bool) : ∀ (a n : Nat), a ≤ l.length → 1 ≤ n → backOf l a n = if cnt (l.take a) < n then 0 else match nth (l.take a) (cnt (l.take a) + 1 - n) with | some i => i | none => 0
  | 0, n, ha, hn => by simp [backOf, cnt, show 0 < n from hn]
  | a + 1, n + 1, ha, hn => by
    rw [take_succ_bool (l := l) (k := a) (by omega), cnt_snoc]
    simp only [backOf]
    cases hb : l.getD a false
    · simp only [if_neg (show ¬ (false = true) by decide), Nat.add_zero]
      rw [backOf_nth l a (n + 1) (by omega) (by omega)]
      by_cases hc : cnt (l.take a) < n + 1
      · rw [if_pos hc, if_pos hc]
      · rw [if_neg hc, if_neg hc, nth_snoc _ _ _ (by omega)]
        obtain ⟨i, hi, _⟩ := nth_some (l.take a) (cnt (l.take a) + 1 - (n + 1)) (by omega) (by omega)
        rw [hi]
    · simp only [if_true]
      by_cases hn0 : n = 0
      · subst hn0
        rw [if_neg (by omega), nth_snoc _ _ _ (by omega), nth_none _ _ (by omega)]
        have hl : (l.take a).length = a := by rw [List.length_take]; omega
        simp only [Nat.zero_add, Nat.add_sub_cancel, and_self, if_true, hl]
        cases a <;> rfl
      · rw [backOf_nth l a n (by omega) (by omega)]
        by_cases hc : cnt (l.take a) < n
        · rw [if_pos hc, if_pos (by omega)]
        · rw [if_neg hc, if_neg (by omega), nth_snoc _ _ _ (by omega), show cnt (l.take a) + 1 + 1 - (n + 1) = cnt (l.take a) + 1 - n from by omega]
          obtain ⟨i, hi, _⟩ := nth_some (l.take a) (cnt (l.take a) + 1 - n) (by omega) (by omega)
          rw [hi]
theorem backOf_zero (l : List Bool) (a : Nat) : backOf l a 0 = a := by cases a <;> rfl
theorem far_zero (l : List Bool) : far l 0 = 0 := by cases l <;> rfl
theorem nextOf_zero (l : List Bool) (a : Nat) : nextOf l a 0 = a := by unfold nextOf; rw [far_zero]; omega
theorem nextOf_le {l : List Bool} {a n : Nat} (h : a < l.length) : nextOf l a n < l.length := by
  unfold nextOf
  have := far_le (l.drop (a + 1)) n
  rw [List.length_drop] at this; omega
theorem backOf_le (l : List Bool) : ∀ a n : Nat, backOf l a n ≤ a
  | 0, _ => Nat.le_refl _
  | a + 1, 0 => Nat.le_refl _
  | a + 1, n + 1 => by have := backOf_le l a (if l.getD a false then n else n + 1); simp only [backOf]; omega

/-! ### what is seen of the next one -/
theorem nextOf_one_last {l : List Bool} {a : Nat} (h : a + 1 = l.length) : nextOf l a 1 = a := by
  unfold nextOf; rw [List.drop_of_length_le (by omega)]; rfl
theorem far_one : ∀ r : List Bool, r ≠ [] → 1 ≤ far r 1
  | [], h => absurd rfl h
  | b :: r, _ => by simp only [far]; omega
theorem far_one_free : ∀ (r : List Bool) (k : Nat), k + 1 < far r 1 → r.getD k false = false
  | [], k, h => by simp
  | b :: r, k, h => by
    simp only [far, Nat.zero_add] at h
    cases b
    · cases k with
      | zero => rfl
      | succ k =>
        have h' : k + 1 < far r 1 := by simp at h; omega
        simpa using far_one_free r k h'
    · simp only [if_true, far_zero] at h; omega
theorem far_one_stop : ∀ (r : List Bool), far r 1 < r.length → r.getD (far r 1 - 1) false = true
  | [], h => by simp [far] at h
  | b :: r, h => by
    simp only [far, Nat.zero_add, List.length_cons] at h ⊢
    cases b
    · rw [if_neg (by decide)] at h ⊢
      have h1 := far_one_stop r (by omega)
      have hr : r ≠ [] := by rintro rfl; simp [far] at h
      have := far_one r hr
      rw [show 1 + far r 1 - 1 = far r 1 - 1 + 1 from by omega]
      simpa using h1
    · simp [far_zero]

/-! ### new stops -/
/-- As many columns as wanted: the old ones first, stops at 8, 16, .. behind them. -/
def stopAt (i : Nat) : Bool := decide (0 < i) && decide (i % 8 = 0)
def grownOf (l : List Bool) (n : Nat) : List Bool := l.take n ++ (List.range' l.length (n - l.length)).map stopAt
theorem grownOf_length (l : List Bool) (n : Nat) : (grownOf l n).length = n := by
  unfold grownOf; rw [List.length_append, List.length_take, List.length_map, List.length_range']; omega

/-! ### a ruler -/
def mark (b : Bool) : UInt8 := if b then 124 else 46
def rul (l : List Bool) : List UInt8 := l.map mark
theorem rul_length (l : List Bool) : (rul l).length = l.length := List.length_map _
theorem rul_append (a b : List Bool) : rul (a ++ b) = rul a ++ rul b := List.map_append
end Tab
end Go.Proofs.YtgjpojaegjdjcabDoor
end
section
/- Slices of truths in memory: read within their room; their tail and their front; appended; held against each other, copied, turned. -/
namespace Go.Proofs.YtgjpojaegjdjcabDoor
set_option maxRecDepth 100000
open Go.RowKit
namespace Tab

/-- A slice that reads as these truths, within its room. -/
structure Bl (w : World) (x : Value) (l : List Bool) : Prop where
  src : Src w x l.length (bools l)
  room : ∃ A c, x = .slice A l.length c ∧ l.length ≤ c
theorem Bl.kept {w w' : World} {x : Value} {l : List Bool} (h : Bl w x l) (hb : Below w.heap.size w w') : Bl w' x l := ⟨h.src.kept hb, h.room⟩
theorem Bl.nil (w : World) : Bl w (.slice none 0 0) [] := ⟨⟨rfl, .inl ⟨rfl, rfl⟩⟩, none, 0, rfl, by simp⟩
/-- The call's own. -/
def OwnB (w : World) (base : Nat) (x : Value) (l : List Bool) : Prop := w.ownsRow base 4 1 x l.length (bools l)
theorem OwnB.nil (w : World) (base : Nat) : OwnB w base (.slice none 0 0) [] := World.ownsRow_nil _ _ _ _
theorem OwnB.kept {w w' : World} {base : Nat} {x : Value} {l : List Bool} (h : OwnB w base x l) (hb : Below w.heap.size w w') : OwnB w' base x l := own_kept h hb
theorem OwnB.low {w : World} {base b2 : Nat} {x : Value} {l : List Bool} (h : OwnB w base x l) (hb : b2 ≤ base) : OwnB w b2 x l := Blk.low h hb
theorem OwnB.bl {w : World} {base : Nat} {x : Value} {l : List Bool} (h : OwnB w base x l) : Bl w x l := by
  refine ⟨Src.own h, ?_⟩
  rcases h.2 with ⟨rfl, h0⟩ | ⟨g, cap, cur, rfl, _, _, hc, _⟩
  · exact ⟨none, 0, by rw [h0], by omega⟩
  · exact ⟨_, _, rfl, hc⟩
/-- By its cells. -/
theorem Bl.get {w : World} {A : Option Addr} {n c : Nat} {l : List Bool} (h : Bl w (.slice A n c) l) : ∀ k, k < l.length → ∃ ad, A = some ad ∧ w.cell? (ad.add k) = some (.bool (l.getD k false)) := by
  intro k hk
  obtain ⟨A', c', e, hf⟩ := h.src.form
  injection e with e1 e2 e3
  subst e1
  obtain ⟨ad, rfl, hc⟩ := hf k hk
  exact ⟨ad, rfl, by rw [hc, bools_get hk]⟩
theorem Bl.shape {w : World} {x : Value} {l : List Bool} (h : Bl w x l) : ∃ A c, x = .slice A l.length c := by
  obtain ⟨A, c, e, _⟩ := h.room
  exact ⟨A, c, e⟩
theorem bools_drop (l : List Bool) (k : Nat) : (bools l).drop k = bools (l.drop k) := by unfold bools; rw [List.map_drop]
theorem bools_take (l : List Bool) (k : Nat) : (bools l).take k = bools (l.take k) := by unfold bools; rw [List.map_take]
/-- Its tail: the value is one, whatever world it is cut in. -/
theorem Bl.tail {w : World} {A : Option Addr} {n c : Nat} {l : List Bool} (h : Bl w (.slice A n c) l) (k : Nat) (hk : k ≤ l.length) (i : Int) (hi : i = k) :
    ∃ V, (∀ w' : World, (Instr.slice 35 (.slice A n c) (some (.int .i64 i)) none none).run Tryd.prog w' = .ok V w') ∧ Bl w V (l.drop k) := by
  obtain ⟨A', c', e, hc⟩ := h.room
  injection e with e1 e2 e3
  subst e1; subst e2; subst e3; subst hi
  have hu : Tryd.prog.underlying 35 = some (.slice (Tryd.prog.elem 35)) := by kernel_rfl
  refine ⟨.slice (if c = k then A else A.map (·.add k)) (l.length - k) (c - k), fun w' => ?_, ⟨⟨by rw [bools_length], ?_⟩, ?_⟩⟩
  · rw [run_slice_l w' 35 A l.length c hu .i64 k (by omega) (by omega)]
    have hs : (sizeOf (Tryd.prog.elem 35)).run Tryd.prog w' = .ok 1 w' := by kernel_rfl
    rw [hs]
    simp [Result.andThen, sliced]
  · rw [List.length_drop]
    rcases h.src.2 with ⟨e, h0⟩ | ⟨ad, c2, e, hcell⟩
    · injection e with e1 e2 e3
      subst e1; subst e3
      left
      refine ⟨?_, by omega⟩
      have : k = 0 := by omega
      subst this
      simp [h0]
    · injection e with e1 e2 e3
      subst e1; subst e3
      right
      by_cases hck : c = k
      · rw [if_pos hck]
        refine ⟨ad, c - k, rfl, fun j u hu => ?_⟩
        have : l.drop k = [] := List.drop_eq_nil_of_le (by omega)
        rw [this] at hu
        simp [bools] at hu
      · rw [if_neg hck]
        refine ⟨ad.add k, c - k, rfl, fun j u hu => ?_⟩
        rw [Go.Deep.add_add]
        refine hcell (k + j) u ?_
        rw [← bools_drop, List.getElem?_drop] at hu
        exact hu
  · exact ⟨_, _, by rw [List.length_drop], by rw [List.length_drop]; omega⟩
/-- Its front. -/
theorem Bl.front {w : World} {A : Option Addr} {n c : Nat} {l : List Bool} (h : Bl w (.slice A n c) l) (k : Nat) (hk : k ≤ l.length) (i : Int) (hi : i = k) :
    ∃ V, (∀ w' : World, (Instr.slice 35 (.slice A n c) none (some (.int .i64 i)) none).run Tryd.prog w' = .ok V w') ∧ Bl w V (l.take k) := by
  obtain ⟨A', c', e, hc⟩ := h.room
  injection e with e1 e2 e3
  subst e1; subst e2; subst e3; subst hi
  have hu : Tryd.prog.underlying 35 = some (.slice (Tryd.prog.elem 35)) := by kernel_rfl
  have hlk : (l.take k).length = k := by rw [List.length_take]; omega
  refine ⟨.slice A k c, fun w' => ?_, ⟨⟨by rw [bools_length], ?_⟩, ?_⟩⟩
  · rw [run_slice_h w' 35 A l.length c hu .i64 k (by omega) (by omega)]
    have hs : (sizeOf (Tryd.prog.elem 35)).run Tryd.prog w' = .ok 1 w' := by kernel_rfl
    rw [hs]
    simp [Result.andThen, sliced]
    intro _
    cases A <;> simp [Addr.add]
  · rw [hlk]
    rcases h.src.2 with ⟨e, h0⟩ | ⟨ad, c2, e, hcell⟩
    · injection e with e1 e2 e3
      subst e1; subst e3
      left
      refine ⟨?_, by omega⟩
      have : k = 0 := by omega
      subst this
      rfl
    · injection e with e1 e2 e3
      subst e1; subst e3
      right
      refine ⟨ad, c, rfl, fun j u hu => hcell j u ?_⟩
      rw [← bools_take] at hu
      have hj : j < ((bools l).take k).length := (List.getElem?_eq_some_iff.1 hu).1
      rw [List.length_take] at hj
      rw [List.getElem?_take_of_lt (by omega)] at hu
      exact hu
  · exact ⟨_, _, by rw [hlk], by rw [hlk]; omega⟩

theorem Tryd.bool_info : (Tryd.prog.info? 4).map (fun i => (i.zero, i.size, i.bytes)) = some (some (.bool false), 1, 1) := by kernel_rfl
theorem Tryd.bool_row : ∃ i : TypeInfo, Tryd.prog.info? 4 = some i ∧ i.zero = some (.bool false) ∧ i.size = 1 ∧ i.bytes = 1 := by
  obtain ⟨i, h, h1, h2, h3⟩ := info_parts Tryd.bool_info
  exact ⟨i, h, h1, h2, h3⟩
/-- append of truths to truths of the call's own. -/
theorem wp_append_bools {w : World} {ops : Array Oper} {rest : List Oper} {o : Oper} {a : Act} {Q : Exit → Act → World → Prop} {s x : Operand} (hgd : o.guard = none)
    (ho : o.op = .call { callee := .builtin .append, args := #[s, x], argTypes := #[35, 35] }) (base : Nat) (v : Value) (xs : List Bool) (hs : a.eval s = v) (hown : OwnB w base v xs)
    (y : Value) (news : List Bool) (hy : a.eval x = y) (hx : Src w y news.length (bools news)) (hb : xs.length + news.length ≤ 1000000000) (hbase : base ≤ w.heap.size)
    (h : ∀ v' w', OwnB w' base v' (xs ++ news) → w.grownBy w' v.ownBlock → (v'.ownBlock = v.ownBlock ∨ v'.ownBlock = some w.heap.size) → wpList Tryd.prog ops Q rest (a.put o.dst v') w') :
    wpList Tryd.prog ops Q (o :: rest) a w := by
  obtain ⟨i, hi, hz, h1, h8⟩ := Tryd.bool_row
  refine wpList_append_src hgd ho base 4 i _ 1 Tryd.underlying35 hi hz h1 h8 rfl v xs.length (bools xs) hs hown y news.length (bools news) hy hx (bools_cells _) (by simp only [maxLen]; omega) (by omega) hbase fun v' w' h2 h3 h4 => ?_
  exact h v' w' (by unfold OwnB; rw [bools_append, List.length_append]; exact h2) h3 h4

set_option maxHeartbeats 400000 in
theorem eqBools_any {u v : Value} (xs ys : List Bool) (w : World) (hx : Bl w u xs) (hy : Bl w v ys) (hn : xs.length ≤ 1000000000) :
    Calls Tryd.prog 37 #[u, v] w fun e w' => e = .returned (.bool (decide (xs = ys))) ∧ Below w.heap.size w w' := by
  obtain ⟨A, c, rfl⟩ := hx.shape
  obtain ⟨A', c', rfl⟩ := hy.shape
  by_cases hnm : xs.length = ys.length
  · have ha' := Lib.hid hx.get
    have hb' := Lib.hid hy.get
    have HL := Lib.hid hnm
    obtain ⟨n, hl⟩ : ∃ n, xs.length = n := ⟨_, rfl⟩
    have hl2 : ys.length = n := by omega
    have HX := Lib.hid hl
    have HY := Lib.hid hl2
    rw [hl] at hn
    clear hx hy hnm
    rw [hl, hl2]
    clear hl hl2
    go_enter Tryd.func37, Tryd.ntmps37
    go_wp2_with fail
    go_loopw [5] (fun i wr => ∃ k q : Nat, k ≤ n ∧ i = .int .i64 k ∧ Hid (∀ j, j < k → xs.getD j false = ys.getD j false) ∧ wr = w.drewN q) (fun i _ => n - (intOf i).toNat)
    case atStart => exact ⟨0, 0, by omega, rfl, Lib.hid fun j h => by omega, rfl⟩
    case round =>
      obtain ⟨k, q, hk, rfl, hal, rfl⟩ := hrel
      by_cases hlt : k < n
      · obtain ⟨ad, rfl, h1⟩ := ha'.out k (by rw [HX.out]; exact hlt)
        obtain ⟨ad', rfl, h2⟩ := hb'.out k (by rw [HY.out]; exact hlt)
        by_cases he : xs.getD k false = ys.getD k false
        · have HA : Hid (∀ j, j < k + 1 → xs.getD j false = ys.getD j false) := Lib.hid fun j hj => by
            by_cases hjk : j = k
            · rw [hjk]; exact he
            · exact hal.out j (by omega)
          rw [← he] at h2
          clear he
          generalize xs.getD k false = p at h1 h2
          have hb1 : (p != p) = false := by simp
          go_wp2_with fail
          go_quiet (fail)
          go_wp2_with fail
          go_roundw
          case rel => exact ⟨k + 1, _, by omega, by go_num, HA, rfl⟩
          case measure => simp [intOf]; omega
        · have HF : Hid (decide (xs = ys) = false) := Lib.hid (decide_eq_false fun e => he (by rw [e]))
          have hb1 : (xs.getD k false != ys.getD k false) = true := by rw [bne_iff_ne]; exact he
          clear he
          generalize xs.getD k false = p at h1 hb1
          generalize ys.getD k false = p' at h2 hb1
          have hpp : (p = true ∧ p' = false) ∨ (p = false ∧ p' = true) := by revert hb1; cases p <;> cases p' <;> decide
          clear hb1
          rcases hpp with ⟨rfl, rfl⟩ | ⟨rfl, rfl⟩
          all_goals
            go_wp2_with fail
            go_quiet (fail)
            go_wp2_with fail
            go_ret
            exact ⟨ret_bool HF.out.symm, by rw [World.drewN_drewN]; exact below_drewN (Below.refl _ _) _⟩
      · have HF : Hid (decide (xs = ys) = true) := Lib.hid (decide_eq_true (eq_of_bools HL.out fun j hj => hal.out j (by have := HX.out; omega)))
        go_wp2_with fail
        go_ret
        exact ⟨ret_bool HF.out.symm, below_drewN (Below.refl _ _) _⟩
  · have hb1 : ((xs.length : Int) != (ys.length : Int)) = true := by rw [bne_iff_ne]; omega
    have HF : Hid (decide (xs = ys) = false) := Lib.hid (decide_eq_false fun e => hnm (by rw [e]))
    clear hx hy hnm
    clear hn
    generalize xs.length = n at hb1 ⊢
    generalize ys.length = m at hb1 ⊢
    go_enter Tryd.func37, Tryd.ntmps37
    go_wp2_with fail
    go_ret
    exact ⟨ret_bool HF.out.symm, Below.refl _ _⟩
theorem eqBools_same {u v : Value} (xs ys : List Bool) (w : World) (hx : Bl w u xs) (hy : Bl w v ys) (he : xs = ys) (hn : xs.length ≤ 1000000000) :
    Calls Tryd.prog 37 #[u, v] w fun e w' => e = .returned (.bool true) ∧ Below w.heap.size w w' :=
  (eqBools_any xs ys w hx hy hn).mono fun e w' h => ⟨by rw [h.1]; simp [he], h.2⟩

set_option maxHeartbeats 400000 in
theorem copyBools_any {u : Value} (xs : List Bool) (w : World) (hx : Bl w u xs) (hn : xs.length ≤ 1000000) :
    Calls Tryd.prog 40 #[u] w fun e w' => ∃ v, e = .returned v ∧ OwnB w' w.heap.size v xs ∧ Below w.heap.size w w' := by
  obtain ⟨A, c, rfl⟩ := hx.shape
  have ha' := Lib.hid hx.get
  obtain ⟨n, hl⟩ : ∃ n, xs.length = n := ⟨_, rfl⟩
  have HL := Lib.hid hl
  rw [hl] at hn ⊢
  clear hx hl
  go_enter Tryd.func40, Tryd.ntmps40
  go_wp2_with fail
  go_loopw [3, 4] (fun v i wr => ∃ k : Nat, k ≤ n ∧ i = .int .i64 k ∧ Hid (OwnB wr w.heap.size v (xs.take k)) ∧ Below w.heap.size w wr) (fun _ i _ => n - (intOf i).toNat)
  case atStart => exact ⟨0, by omega, rfl, Lib.hid (OwnB.nil _ _), Below.refl _ _⟩
  case round =>
    obtain ⟨k, hk, rfl, hown, hbl⟩ := hrel
    by_cases hlt : k < n
    · obtain ⟨ad, rfl, h1⟩ := ha'.out k (by rw [HL.out]; exact hlt)
      have h1 := cell_kept hbl h1
      have HT := Lib.hid (take_succ_bool (l := xs) (k := k) (by rw [HL.out]; exact hlt))
      have hlk : (xs.take k).length = k := by rw [List.length_take, HL.out]; omega
      have HK := Lib.hid hlk
      clear hlk
      generalize xs.getD k false = p at h1 HT
      go_wp2_with (at_builtin; refine wp_append_bools rfl rfl w.heap.size _ (xs.take k) rfl (hown.out.alloc _) _ [p] rfl (Src.one wr _ _ _) (by rw [HK.out]; simp; omega) (by simp; have := hbl.size; omega) ?_; intro v1 w1 ho1 hg1 hat1)
      go_roundw
      case rel => exact ⟨k + 1, by omega, by go_num, Lib.hid (by rw [HT.out]; exact ho1), below_own (hbl.alloc hbl.size _) hg1 (by simp; have := hbl.size; omega) (hown.out.alloc _)⟩
      case measure => simp [intOf]; omega
    · have hkn : k = n := by omega
      subst hkn
      have HE : Hid (xs.take k = xs) := Lib.hid (List.take_of_length_le (by have := HL.out; omega))
      go_wp2_with fail
      go_ret
      have ho := hown.out
      rw [HE.out] at ho
      exact ⟨_, rfl, ho, hbl⟩

set_option maxHeartbeats 400000 in
/-- Turned, each: nothing below has. -/
theorem boolsOver_any {u : Value} {base : Nat} (l : List Bool) (w : World) (hx : OwnB w base u l) (hn : l.length ≤ 1000000) :
    Calls Tryd.prog 62 #[u] w fun e w' => e = .returned (.tuple #[]) ∧ Below base w w' := by
  have hv : u = .slice none 0 0 ∧ l.length = 0 ∨ ∃ g cap, u = .slice (some ⟨g, 0, none⟩) l.length cap ∧ base ≤ g := by
    rcases hx.2 with h0 | ⟨g, cap, cur, h0, hb, _⟩
    · exact .inl h0
    · exact .inr ⟨g, cap, h0, hb⟩
  rcases hv with ⟨rfl, h0⟩ | ⟨g, cap, rfl, hbase⟩
  · clear hx
    go_enter Tryd.func62, Tryd.ntmps62
    go_wp2_with fail
    go_rounds 1
    go_end0
    exact ⟨rfl, Below.refl _ _⟩
  · unfold OwnB at hx
    have hbl : ∀ k, k < l.length → ∃ b, (bools l)[k]? = some (.bool b) := fun k hk => ⟨_, bools_get hk⟩
    generalize bools l = xs0 at hx hbl
    have HB0 := Lib.hid hbl
    clear hbl
    generalize l.length = n at hx hn HB0 ⊢
    go_enter Tryd.func62, Tryd.ntmps62
    go_wp2_with fail
    go_loopw [2] (fun i wr => ∃ (k : Nat) (ys : List Value), k ≤ n ∧ i = .int .i64 k ∧ wr.ownsRow base 4 1 (.slice (some ⟨g, 0, none⟩) n cap) n ys ∧ Hid (∀ j, j < n → ∃ b, ys[j]? = some (.bool b)) ∧ Below base w wr) (fun i _ => n - (intOf i).toNat)
    case atStart => exact ⟨0, xs0, by omega, rfl, hx, HB0, Below.refl _ _⟩
    case round =>
      obtain ⟨k, ys, hk, rfl, hown, HB, hbl⟩ := hrel
      by_cases hlt : k < n
      · obtain ⟨b, hys⟩ := HB.out k hlt
        have hc := hown.cellAt k (by omega)
        rw [hys] at hc
        have hf := hown.frozenAt k
        have hst := hown.stored k (.bool !b)
        have HB2 : Hid (∀ j, j < n → ∃ b', (ys.set k (.bool !b))[j]? = some (.bool b')) := Lib.hid fun j hj => by
          by_cases hjk : k = j
          · subst hjk; exact ⟨!b, by rw [List.getElem?_set_self (by have := hown.1; omega)]⟩
          · obtain ⟨b', h'⟩ := HB.out j hj
            exact ⟨b', by rw [List.getElem?_set_ne hjk]; exact h'⟩
        clear hys
        go_wp2_with fail
        go_roundw
        case rel => exact ⟨k + 1, _, by omega, by go_num, hst.1, HB2, hbl.setCell hbase _⟩
        case measure => simp [intOf]; omega
      · go_wp2_with fail
        go_end0
        exact ⟨rfl, hbl⟩
end Tab
end Go.Proofs.YtgjpojaegjdjcabDoor
end
section
/- Small contracts that stops stand on: numbers within bounds, how many columns may be, whether one may go from a place. -/
namespace Go.Proofs.YtgjpojaegjdjcabDoor
set_option maxRecDepth 100000
open Go.RowKit
namespace Tab

def rng (n lo hi : Int) : Bool := decide (lo ≤ n) && decide (n ≤ hi)
theorem rng_yes {n lo hi : Int} : rng n lo hi = true ↔ lo ≤ n ∧ n ≤ hi := by unfold rng; rw [Bool.and_eq_true, decide_eq_true_eq, decide_eq_true_eq]
theorem between_any (n lo hi : Int) (w : World) : Calls Tryd.prog 42 #[.int .i64 n, .int .i64 lo, .int .i64 hi] w fun e w' => e = .returned (.bool (rng n lo hi)) ∧ w = w' := by
  by_cases h : lo ≤ n
  · by_cases k : n ≤ hi
    · have H : Hid (rng n lo hi = true) := Lib.hid (by unfold rng; rw [decide_eq_true h, decide_eq_true k]; rfl)
      go_enter Tryd.func42, Tryd.ntmps42
      go_wp2_with fail
      go_ret
      exact ⟨ret_bool H.out.symm, rfl⟩
    · have H : Hid (rng n lo hi = false) := Lib.hid (by unfold rng; rw [decide_eq_false k, Bool.and_false])
      have hd : decide (n ≤ hi) = false := decide_eq_false k
      go_enter Tryd.func42, Tryd.ntmps42
      go_wp2_with fail
      go_ret
      exact ⟨ret_bool H.out.symm, rfl⟩
  · have H : Hid (rng n lo hi = false) := Lib.hid (by unfold rng; rw [decide_eq_false h, Bool.false_and])
    have hd : decide (lo ≤ n) = false := decide_eq_false h
    go_enter Tryd.func42, Tryd.ntmps42
    go_wp2_with fail
    go_ret
    exact ⟨ret_bool H.out.symm, rfl⟩
theorem num_any (n hi : Int) (w : World) : Calls Tryd.prog 18 #[.int .i64 n, .int .i64 hi] w fun e w' => e = .returned (.bool (rng n 0 hi)) ∧ w = w' := by
  by_cases h : 0 ≤ n
  · by_cases k : n ≤ hi
    · have H : Hid (rng n 0 hi = true) := Lib.hid (by unfold rng; rw [decide_eq_true h, decide_eq_true k]; rfl)
      go_enter Tryd.func18, Tryd.ntmps18
      go_wp2_with fail
      go_ret
      exact ⟨ret_bool H.out.symm, rfl⟩
    · have H : Hid (rng n 0 hi = false) := Lib.hid (by unfold rng; rw [decide_eq_false k, Bool.and_false])
      have hd : decide (n ≤ hi) = false := decide_eq_false k
      go_enter Tryd.func18, Tryd.ntmps18
      go_wp2_with fail
      go_ret
      exact ⟨ret_bool H.out.symm, rfl⟩
  · have H : Hid (rng n 0 hi = false) := Lib.hid (by unfold rng; rw [decide_eq_false h, Bool.false_and])
    have hd : decide (0 ≤ n) = false := decide_eq_false h
    go_enter Tryd.func18, Tryd.ntmps18
    go_wp2_with fail
    go_ret
    exact ⟨ret_bool H.out.symm, rfl⟩
theorem in_any (n lo hi : Int) (w : World) : Calls Tryd.prog 91 #[.int .i64 n, .int .i64 lo, .int .i64 hi] w fun e w' => e = .returned (.bool (rng n lo hi)) ∧ w = w' := by
  by_cases h : lo ≤ n
  · by_cases k : n ≤ hi
    · have H : Hid (rng n lo hi = true) := Lib.hid (by unfold rng; rw [decide_eq_true h, decide_eq_true k]; rfl)
      go_enter Tryd.func91, Tryd.ntmps91
      go_wp2_with fail
      go_ret
      exact ⟨ret_bool H.out.symm, rfl⟩
    · have H : Hid (rng n lo hi = false) := Lib.hid (by unfold rng; rw [decide_eq_false k, Bool.and_false])
      have hd : decide (n ≤ hi) = false := decide_eq_false k
      go_enter Tryd.func91, Tryd.ntmps91
      go_wp2_with fail
      go_ret
      exact ⟨ret_bool H.out.symm, rfl⟩
  · have H : Hid (rng n lo hi = false) := Lib.hid (by unfold rng; rw [decide_eq_false h, Bool.false_and])
    have hd : decide (lo ≤ n) = false := decide_eq_false h
    go_enter Tryd.func91, Tryd.ntmps91
    go_wp2_with fail
    go_ret
    exact ⟨ret_bool H.out.symm, rfl⟩
theorem columns_any (n : Int) (w : World) : Calls Tryd.prog 90 #[.int .i64 n] w fun e w' => e = .returned (.bool (rng n 1 40)) ∧ w = w' := by
  go_enter Tryd.func90, Tryd.ntmps90
  go_wp2_with fail
  refine (in_any _ _ _ _).mono ?_; rintro e w' ⟨rfl, rfl⟩
  go_wp2_with fail
  go_ret
  exact ⟨rfl, rfl⟩
/-- Whether they may be. -/
def okB (l : List Bool) : Bool := rng l.length 1 40
theorem okB_yes {l : List Bool} : okB l = true ↔ 1 ≤ l.length ∧ l.length ≤ 40 := by unfold okB; rw [rng_yes]; omega
def codeOf (b : Bool) : Int := if b then 0 else 1
theorem check_any (l : List Bool) (x : Value) (w : World) (hx : Bl w x l) : Calls Tryd.prog 77 #[x] w fun e w' => e = .returned (.int .i64 (codeOf (okB l))) ∧ w = w' := by
  obtain ⟨A, c, rfl⟩ := hx.shape
  unfold okB
  clear hx
  obtain ⟨b, hb⟩ : ∃ b, rng l.length 1 40 = b := ⟨_, rfl⟩
  rw [hb]
  have HB : Hid (∀ w', Calls Tryd.prog 90 #[.int .i64 l.length] w' fun e w'' => e = .returned (.bool b) ∧ w' = w'') := Lib.hid fun w' => by rw [← hb]; exact columns_any _ _
  clear hb
  generalize l.length = n at HB
  cases b
  all_goals
    go_enter Tryd.func77, Tryd.ntmps77
    go_wp2_with fail
    refine (HB.out _).mono ?_; rintro e w' ⟨rfl, rfl⟩
    go_wp2_with fail
    go_ret
    exact ⟨rfl, rfl⟩
/-- Whether one may go n stops from a place. -/
def goes (l : List Bool) (a n : Int) : Bool := okB l && (rng a 0 (l.length - 1) && rng n 0 9999)
theorem goes_yes {l : List Bool} {a n : Int} : goes l a n = true ↔ (1 ≤ l.length ∧ l.length ≤ 40) ∧ (0 ≤ a ∧ a < l.length) ∧ 0 ≤ n ∧ n ≤ 9999 := by
  unfold goes
  rw [Bool.and_eq_true, Bool.and_eq_true, okB_yes, rng_yes, rng_yes]; omega
theorem steps_any (l : List Bool) (a n : Int) (x : Value) (w : World) (hx : Bl w x l) (hl : l.length ≤ 1000000) : Calls Tryd.prog 81 #[x, .int .i64 a, .int .i64 n] w fun e w' => e = .returned (.bool (goes l a n)) ∧ w = w' := by
  obtain ⟨A, c, rfl⟩ := hx.shape
  have HC := Lib.hid (fun w' (k : Bl w' _ l) => check_any l (.slice A l.length c) w' k)
  have HX := Lib.hid hx
  have hw : IntKind.i64.wrap ((l.length : Int) - 1) = (l.length : Int) - 1 := by rw [IntKind.wrap_i64]; omega
  clear hx
  obtain ⟨p, hp⟩ : ∃ p, okB l = p := ⟨_, rfl⟩
  obtain ⟨q, hq⟩ : ∃ q, rng a 0 (l.length - 1) = q := ⟨_, rfl⟩
  obtain ⟨r, hr⟩ : ∃ r, rng n 0 9999 = r := ⟨_, rfl⟩
  have HG : Hid (goes l a n = (p && (q && r))) := Lib.hid (by unfold goes; rw [hp, hq, hr])
  have HQ : Hid (∀ w', Calls Tryd.prog 91 #[.int .i64 a, .int .i64 0, .int .i64 (l.length - 1)] w' fun e w'' => e = .returned (.bool q) ∧ w' = w'') := Lib.hid fun w' => by rw [← hq]; exact in_any _ _ _ _
  have HR : Hid (∀ w', Calls Tryd.prog 91 #[.int .i64 n, .int .i64 0, .int .i64 9999] w' fun e w'' => e = .returned (.bool r) ∧ w' = w'') := Lib.hid fun w' => by rw [← hr]; exact in_any _ _ _ _
  rw [hp] at HC
  clear hp hq hr hl
  cases p
  · go_enter Tryd.func81, Tryd.ntmps81
    go_wp2_with fail
    refine (HC.out _ HX.out).mono ?_; rintro e w' ⟨rfl, rfl⟩
    unfold codeOf
    go_wp2_with fail
    go_ret
    exact ⟨ret_bool HG.out.symm, rfl⟩
  · cases q
    · go_enter Tryd.func81, Tryd.ntmps81
      go_wp2_with fail
      refine (HC.out _ HX.out).mono ?_; rintro e w' ⟨rfl, rfl⟩
      unfold codeOf
      go_wp2_with fail
      refine (HQ.out _).mono ?_; rintro e w' ⟨rfl, rfl⟩
      go_wp2_with fail
      go_ret
      exact ⟨ret_bool HG.out.symm, rfl⟩
    · go_enter Tryd.func81, Tryd.ntmps81
      go_wp2_with fail
      refine (HC.out _ HX.out).mono ?_; rintro e w' ⟨rfl, rfl⟩
      unfold codeOf
      go_wp2_with fail
      refine (HQ.out _).mono ?_; rintro e w' ⟨rfl, rfl⟩
      go_wp2_with fail
      refine (HR.out _).mono ?_; rintro e w' ⟨rfl, rfl⟩
      go_wp2_with fail
      go_ret
      exact ⟨ret_bool HG.out.symm, rfl⟩
/-- A number brought within bounds. -/
def wi (i : Int) (n : Nat) : Nat := (i % 18446744073709551616).toNat % n
theorem wi_lt (i : Int) {n : Nat} (h : 0 < n) : wi i n < n := Nat.mod_lt _ h
theorem lawWithin_any (i : Int) (n : Nat) (h0 : 0 < n) (hn : n ≤ 1000000) (w : World) : Calls Tryd.prog 16 #[.int .i64 i, .int .i64 n] w fun e w' => e = .returned (.int .i64 (wi i n)) ∧ w = w' := by
  have h1 : IntKind.u64.wrap i = i % 18446744073709551616 := by rw [IntKind.wrap_u64]
  have h2 : IntKind.u64.wrap (n : Int) = (n : Int) := by rw [IntKind.wrap_u64]; omega
  have hb : 0 ≤ i % 18446744073709551616 := Int.emod_nonneg _ (by decide)
  have hlt : (wi i n) < n := Nat.mod_lt _ h0
  obtain ⟨q, hq⟩ : ∃ q : Nat, i % 18446744073709551616 = (q : Int) := ⟨(i % 18446744073709551616).toNat, by omega⟩
  have h3 : (q : Int) % (n : Int) = ((wi i n : Nat) : Int) := by unfold wi; rw [hq]; simp
  rw [hq] at h1
  have hne : ((n : Int) == 0) = false := by rw [beq_eq_false_iff_ne]; omega
  generalize wi i n = k at h3 hlt ⊢
  clear hb hq
  go_enter Tryd.func16, Tryd.ntmps16
  go_wp2_with fail
  go_ret
  exact ⟨rfl, rfl⟩
end Tab
end Go.Proofs.YtgjpojaegjdjcabDoor
end
section
/- The page's next stop, the one ahead, and new stops. -/
namespace Go.Proofs.YtgjpojaegjdjcabDoor
set_option maxRecDepth 100000
open Go.RowKit
namespace Tab

theorem nextOf_step {l : List Bool} {a n : Nat} (h : a + 1 < l.length) : nextOf l a (n + 1) = nextOf l (a + 1) (if l.getD (a + 1) false then n else n + 1) := by
  unfold nextOf
  rw [drop_bool h]
  simp only [far]
  omega
set_option maxHeartbeats 400000 in
theorem refNext_any (l : List Bool) (a n : Nat) (x : Value) (w : World) (hx : Bl w x l) (ha : a < l.length) (hl : l.length ≤ 1000000) (hn : n ≤ 9999) :
    Calls Tryd.prog 43 #[x, .int .i64 a, .int .i64 n] w fun e w' => e = .returned (.int .i64 (nextOf l a n)) ∧ Below w.heap.size w w' := by
  obtain ⟨A, c, rfl⟩ := hx.shape
  have HG := Lib.hid hx.get
  obtain ⟨m, hm⟩ : ∃ m, l.length = m := ⟨_, rfl⟩
  have HM := Lib.hid hm
  obtain ⟨r, hr⟩ : ∃ r, nextOf l a n = r := ⟨_, rfl⟩
  have HR := Lib.hid hr
  rw [hm] at hl ha ⊢
  rw [hr]
  clear hx hm hr
  have hw : IntKind.i64.wrap ((m : Int) - 1) = (m : Int) - 1 := by rw [IntKind.wrap_i64]; omega
  go_enter Tryd.func43, Tryd.ntmps43
  go_wp2_with fail
  go_loopw [1, 2] (fun i j wr => ∃ p q : Nat, p < m ∧ i = .int .i64 p ∧ j = .int .i64 q ∧ q ≤ 9999 ∧ Hid (nextOf l p q = r) ∧ Below w.heap.size w wr) (fun i _ _ => m - (intOf i).toNat)
  case atStart => exact ⟨a, n, ha, rfl, rfl, hn, HR, Below.refl _ _⟩
  case round =>
    obtain ⟨p, q, hp, rfl, rfl, hq, HP, hb⟩ := hrel
    by_cases h0 : 0 < q
    · by_cases h1 : p + 1 < m
      · obtain ⟨q, rfl⟩ : ∃ q', q = q' + 1 := ⟨q - 1, by omega⟩
        have hs := nextOf_step (l := l) (a := p) (n := q) (by rw [HM.out]; exact h1)
        rw [HP.out] at hs
        obtain ⟨ad, rfl, g⟩ := HG.out (p + 1) (by rw [HM.out]; exact h1)
        have g := cell_kept hb g
        have g : wr.cell? ⟨ad.block, ad.off + (p + 1), none⟩ = some (.bool (l.getD (p + 1) false)) := by simpa [Addr.add] using g
        obtain ⟨t, ht⟩ : ∃ t, l.getD (p + 1) false = t := ⟨_, rfl⟩
        rw [ht] at hs g
        clear ht
        have HS := Lib.hid hs
        clear hs
        cases t
        all_goals
          go_wp2_with fail
          go_roundw
          case rel => exact ⟨p + 1, _, h1, by go_num, by go_num, by split <;> omega, Lib.hid HS.out.symm, hb⟩
          case measure => simp [intOf]; omega
      · have HE : Hid (p = r) := Lib.hid (by
          have := HP.out
          unfold nextOf at this
          rw [List.drop_of_length_le (by rw [HM.out]; omega)] at this
          cases q <;> simpa [far] using this)
        have h1 : ¬ ((p : Int) < (m : Int) - 1) := by omega
        go_wp2_with fail
        go_ret
        exact ⟨ret_int (by rw [HE.out]), hb⟩
    · obtain rfl : q = 0 := by omega
      have HE : Hid (p = r) := Lib.hid (by rw [← HP.out, nextOf_zero])
      go_wp2_with fail
      go_ret
      exact ⟨ret_int (by rw [HE.out]), hb⟩
set_option maxHeartbeats 400000 in
theorem refBack_any (l : List Bool) (a n : Nat) (x : Value) (w : World) (hx : Bl w x l) (ha : a < l.length) (hl : l.length ≤ 1000000) (hn : n ≤ 9999) :
    Calls Tryd.prog 44 #[x, .int .i64 a, .int .i64 n] w fun e w' => e = .returned (.int .i64 (backOf l a n)) ∧ Below w.heap.size w w' := by
  obtain ⟨A, c, rfl⟩ := hx.shape
  have HG := Lib.hid hx.get
  obtain ⟨m, hm⟩ : ∃ m, l.length = m := ⟨_, rfl⟩
  have HM := Lib.hid hm
  obtain ⟨r, hr⟩ : ∃ r, backOf l a n = r := ⟨_, rfl⟩
  have HR := Lib.hid hr
  rw [hm] at hl ha ⊢
  rw [hr]
  clear hx hm hr
  go_enter Tryd.func44, Tryd.ntmps44
  go_wp2_with fail
  go_loopw [1, 2] (fun i j wr => ∃ p q : Nat, p < m ∧ i = .int .i64 p ∧ j = .int .i64 q ∧ q ≤ 9999 ∧ Hid (backOf l p q = r) ∧ Below w.heap.size w wr) (fun i _ _ => (intOf i).toNat)
  case atStart => exact ⟨a, n, ha, rfl, rfl, hn, HR, Below.refl _ _⟩
  case round =>
    obtain ⟨p, q, hp, rfl, rfl, hq, HP, hb⟩ := hrel
    by_cases h0 : 0 < q
    · by_cases h1 : 0 < p
      · obtain ⟨q, rfl⟩ : ∃ q', q = q' + 1 := ⟨q - 1, by omega⟩
        obtain ⟨p, rfl⟩ : ∃ p', p = p' + 1 := ⟨p - 1, by omega⟩
        have hs := HP.out
        simp only [backOf] at hs
        obtain ⟨ad, rfl, g⟩ := HG.out p (by rw [HM.out]; omega)
        have g := cell_kept hb g
        obtain ⟨t, ht⟩ : ∃ t, l.getD p false = t := ⟨_, rfl⟩
        rw [ht] at hs g
        clear ht
        have HS := Lib.hid hs
        have hpw : IntKind.i64.wrap (((p + 1 : Nat) : Int) - 1) = (p : Int) := by rw [IntKind.wrap_i64]; omega
        clear hs
        cases t
        all_goals
          go_wp2_with fail
          go_roundw
          case rel => exact ⟨p, _, by omega, rfl, by go_num, by split <;> omega, HS, hb⟩
          case measure => simp [intOf]
      · obtain rfl : p = 0 := by omega
        have HE : Hid (0 = r) := Lib.hid (by rw [← HP.out]; rfl)
        go_wp2_with fail
        go_ret
        exact ⟨ret_int (by rw [← HE.out]), hb⟩
    · obtain rfl : q = 0 := by omega
      have HE : Hid (p = r) := Lib.hid (by rw [← HP.out, backOf_zero])
      go_wp2_with fail
      go_ret
      exact ⟨ret_int (by rw [HE.out]), hb⟩

theorem grownOf_get {l : List Bool} {n k : Nat} (h : l.length ≤ k) (hk : k < n) : (grownOf l n).getD k false = stopAt k := by
  unfold grownOf
  rw [List.take_of_length_le (by omega), List.getD_eq_getElem?_getD, List.getElem?_append_right h, List.getElem?_map, List.getElem?_range' (by omega)]
  simp only [Option.map_some, Option.getD_some]
  congr 1
  omega
theorem grownOf_take (l : List Bool) (n k : Nat) (h : k ≤ l.length) (hn : k ≤ n) : (grownOf l n).take k = l.take k := by
  unfold grownOf
  rw [List.take_append_of_le_length (by rw [List.length_take]; omega), List.take_take, Nat.min_eq_left hn]
def lenOf : Value → Nat
  | .slice _ n _ => n
  | _ => 0
theorem OwnB.lenOf_ {w : World} {base : Nat} {x : Value} {l : List Bool} (h : OwnB w base x l) : lenOf x = l.length := by
  obtain ⟨A, c, rfl⟩ := h.bl.shape; rfl
set_option maxHeartbeats 400000 in
theorem stops_any (l : List Bool) (n : Nat) (x : Value) (w : World) (hx : Bl w x l) (hl : l.length ≤ 1000000) (hn : n ≤ 1000000) :
    Calls Tryd.prog 59 #[x, .int .i64 n] w fun e w' => ∃ v, e = .returned v ∧ OwnB w' w.heap.size v (grownOf l n) ∧ Below w.heap.size w w' := by
  obtain ⟨A, c, rfl⟩ := hx.shape
  obtain ⟨k, hk⟩ : ∃ k : Nat, min n l.length = k := ⟨_, rfl⟩
  have hmin : min (n : Int) (l.length : Int) = (k : Int) := by omega
  obtain ⟨V, hV, hb⟩ := hx.front k (by omega) k rfl
  have HC := Lib.hid (copyBools_any (l.take k) w hb (by rw [List.length_take]; omega))
  have HGL : Hid ((grownOf l n).length = n) := Lib.hid (grownOf_length l n)
  have HT : Hid (l.take k = (grownOf l n).take k) := Lib.hid (grownOf_take l n k (by omega) (by omega)).symm
  have HG : Hid (∀ j, k ≤ j → j < n → (grownOf l n).getD j false = stopAt j) := Lib.hid fun j h1 h2 => grownOf_get (by omega) h2
  have hkn : k ≤ n := by omega
  rw [HT.out] at HC
  clear hx hb hk HT
  generalize grownOf l n = ys at HC HGL HG ⊢
  have HW := Lib.hid hV
  clear hV
  have hV := HW.out w
  generalize l.length = m at hl hmin hV HW
  go_enter Tryd.func59, Tryd.ntmps59
  go_wp2_with fail
  refine HC.out.mono ?_; rintro e w1 ⟨v1, rfl, ho1, hb1⟩
  have HO1 := Lib.hid ho1
  clear ho1
  go_wp2_with fail
  go_loopw [5] (fun v wr => ∃ j : Nat, k ≤ j ∧ j ≤ n ∧ Hid (OwnB wr w.heap.size v (ys.take j)) ∧ Below w.heap.size w wr) (fun v _ => n - (lenOf v))
  case atStart => exact ⟨k, Nat.le_refl _, hkn, HO1, hb1⟩
  case round =>
    obtain ⟨j, hkj, hjn, HO, hb⟩ := hrel
    have hlj : (ys.take j).length = j := by rw [List.length_take, HGL.out]; omega
    obtain ⟨Aj, cj, rfl⟩ := HO.out.bl.shape
    have HO2 := Lib.hid HO.out
    rw [hlj] at HO HO2 ⊢
    by_cases hlt : j < n
    · have HT := Lib.hid (take_succ_bool (l := ys) (k := j) (by rw [HGL.out]; exact hlt))
      rw [HG.out j hkj hlt] at HT
      have HLJ := Lib.hid hlj
      have hbs := hb.size
      clear hlj
      obtain ⟨b1, h1⟩ : ∃ b1, decide (j % 8 = 0) = b1 := ⟨_, rfl⟩
      have hsj : stopAt j = (decide (0 < j) && b1) := by unfold stopAt; rw [h1]
      rw [hsj] at HT
      have g1 : (((j : Int) % 8) == 0) = b1 := by rw [← h1]; rw [Bool.eq_iff_iff, beq_iff_eq, decide_eq_true_eq]; omega
      clear h1 hsj
      cases b1
      · rw [Bool.and_false] at HT
        go_wp2_with (at_builtin; refine wp_append_bools rfl rfl w.heap.size _ (ys.take j) rfl (HO.out.alloc _) _ [false] rfl (Src.one wr _ _ _) (by rw [HLJ.out]; simp; omega) (by simp; omega) ?_; intro v1 w1 ho1 hg1 hat1)
        go_roundw
        case rel => exact ⟨j + 1, by omega, by omega, Lib.hid (by rw [HT.out]; exact ho1), below_own (hb.alloc hb.size _) hg1 (by simp; omega) (HO.out.alloc _)⟩
        case measure => rw [OwnB.lenOf_ ho1, List.length_append, HLJ.out]; simp [lenOf]; omega
      · rw [Bool.and_true] at HT
        by_cases h2 : 0 < j
        · rw [decide_eq_true h2] at HT
          go_wp2_with (at_builtin; refine wp_append_bools rfl rfl w.heap.size _ (ys.take j) rfl (HO.out.alloc _) _ [true] rfl (Src.one wr _ _ _) (by rw [HLJ.out]; simp; omega) (by simp; omega) ?_; intro v1 w1 ho1 hg1 hat1)
          go_roundw
          case rel => exact ⟨j + 1, by omega, by omega, Lib.hid (by rw [HT.out]; exact ho1), below_own (hb.alloc hb.size _) hg1 (by simp; omega) (HO.out.alloc _)⟩
          case measure => rw [OwnB.lenOf_ ho1, List.length_append, HLJ.out]; simp [lenOf]; omega
        · rw [decide_eq_false h2] at HT
          go_wp2_with (at_builtin; refine wp_append_bools rfl rfl w.heap.size _ (ys.take j) rfl (HO.out.alloc _) _ [false] rfl (Src.one wr _ _ _) (by rw [HLJ.out]; simp; omega) (by simp; omega) ?_; intro v1 w1 ho1 hg1 hat1)
          go_roundw
          case rel => exact ⟨j + 1, by omega, by omega, Lib.hid (by rw [HT.out]; exact ho1), below_own (hb.alloc hb.size _) hg1 (by simp; omega) (HO.out.alloc _)⟩
          case measure => rw [OwnB.lenOf_ ho1, List.length_append, HLJ.out]; simp [lenOf]; omega
    · have hjn' : j = n := by omega
      subst hjn'
      have HE : Hid (ys.take j = ys) := Lib.hid (List.take_of_length_le (by rw [HGL.out]; exact Nat.le_refl _))
      go_wp2_with fail
      go_ret
      have ho := HO2.out
      rw [HE.out] at ho
      exact ⟨_, rfl, ho, hb⟩
end Tab
end Go.Proofs.YtgjpojaegjdjcabDoor
end
section
/- The library's strings.Builder (WriteRune, String), laid at this program; its Clone of truths. -/
namespace Go.Proofs.YtgjpojaegjdjcabDoor
set_option maxRecDepth 100000
open Go.RowKit
namespace Tab

def layW : Go.Shelf.Ren := ⟨fun | 168 => 92 | 169 => 93 | 240 => 98 | 242 => 99 | 276 => 102 | 278 => 103 | n => n,
  fun | 0 => 0 | 3 => 3 | 4 => 4 | 5 => 5 | 9 => 9 | 20 => 20 | 21 => 21 | 37 => 139 | 46 => 64 | 51 => 162 | 70 => 138 | 72 => 141 | 75 => 143 | 80 => 146 | 127 => 149 | 164 => 160 | n => n,
  fun n => n⟩
theorem laidW168 : Lays.n168 Tryd.prog layW := {
  mixed := by kernel_rfl
  f168 := Tryd.func92.trans (congrArg some (by kernel_rfl))
  f240 := Tryd.func98.trans (congrArg some (by kernel_rfl))
  f242 := Tryd.func99.trans (congrArg some (by kernel_rfl))
  f276 := Tryd.func102.trans (congrArg some (by kernel_rfl))
  f278 := Tryd.func103.trans (congrArg some (by kernel_rfl))
  t0 := Tryd.underlying0
  a0 := Tryd.isAgg0
  z0 := Tryd.sizeOf0
  v0 := Tryd.zeroValue0
  t3 := Tryd.underlying3
  a3 := Tryd.isAgg3
  z3 := Tryd.sizeOf3
  v3 := Tryd.zeroValue3
  t4 := Tryd.underlying4
  a4 := Tryd.isAgg4
  z4 := Tryd.sizeOf4
  v4 := Tryd.zeroValue4
  t5 := Tryd.underlying5
  a5 := Tryd.isAgg5
  z5 := Tryd.sizeOf5
  v5 := Tryd.zeroValue5
  t9 := Tryd.underlying9
  a9 := Tryd.isAgg9
  z9 := Tryd.sizeOf9
  v9 := Tryd.zeroValue9
  t20 := Tryd.underlying20
  a20 := Tryd.isAgg20
  z20 := Tryd.sizeOf20
  v20 := Tryd.zeroValue20
  t21 := Tryd.underlying21
  a21 := Tryd.isAgg21
  z21 := Tryd.sizeOf21
  v21 := Tryd.zeroValue21
  t37 := Tryd.underlying139
  a37 := Tryd.isAgg139
  z37 := Tryd.sizeOf139
  v37 := Tryd.zeroValue139
  t46 := Tryd.underlying64
  a46 := Tryd.isAgg64
  z46 := Tryd.sizeOf64
  v46 := Tryd.zeroValue64
  t51 := Tryd.underlying162
  a51 := Tryd.isAgg162
  z51 := Tryd.sizeOf162
  v51 := Tryd.zeroValue162
  t70 := Tryd.underlying138
  a70 := Tryd.isAgg138
  z70 := Tryd.sizeOf138
  v70 := Tryd.zeroValue138
  t72 := Tryd.underlying141
  a72 := Tryd.isAgg141
  z72 := Tryd.sizeOf141
  v72 := Tryd.zeroValue141
  t75 := Tryd.underlying143
  a75 := Tryd.isAgg143
  z75 := Tryd.sizeOf143
  v75 := Tryd.zeroValue143
  t164 := Tryd.underlying160
  a164 := Tryd.isAgg160
  z164 := Tryd.sizeOf160
  v164 := Tryd.zeroValue160
}
theorem laidW169 : Lays.n169 Tryd.prog layW := {
  mixed := by kernel_rfl
  f169 := Tryd.func93.trans (congrArg some (by kernel_rfl))
  t0 := Tryd.underlying0
  a0 := Tryd.isAgg0
  z0 := Tryd.sizeOf0
  v0 := Tryd.zeroValue0
  t3 := Tryd.underlying3
  a3 := Tryd.isAgg3
  z3 := Tryd.sizeOf3
  v3 := Tryd.zeroValue3
  t9 := Tryd.underlying9
  a9 := Tryd.isAgg9
  z9 := Tryd.sizeOf9
  v9 := Tryd.zeroValue9
  t37 := Tryd.underlying139
  a37 := Tryd.isAgg139
  z37 := Tryd.sizeOf139
  v37 := Tryd.zeroValue139
  t70 := Tryd.underlying138
  a70 := Tryd.isAgg138
  z70 := Tryd.sizeOf138
  v70 := Tryd.zeroValue138
  t72 := Tryd.underlying141
  a72 := Tryd.isAgg141
  z72 := Tryd.sizeOf141
  v72 := Tryd.zeroValue141
  t127 := Tryd.underlying149
  a127 := Tryd.isAgg149
  z127 := Tryd.sizeOf149
  v127 := Tryd.zeroValue149
}
theorem extraW : Builder.Extra Tryd.prog layW := {
  sizeBuilder := by kernel_rfl
  liesBuilder := by kernel_rfl
  t5 := Tryd.underlying5
  a5 := Tryd.isAgg5
  z5 := Tryd.sizeOf5
  v5 := Tryd.zeroValue5
  infoByte := by kernel_rfl
  cellsByte := by kernel_rfl
  sizeByte := by kernel_rfl
  neB5 := by decide }
/-- A builder of the call's own that holds these bytes. -/
def Bd (w : World) (B b : Nat) (l : List UInt8) : Prop := Lib.IsBuilderF 141 5 B b (Lib.byteCells l) w
theorem rune_byte (t : Bool) : Lib.runeCells (if t then 124 else 46) = Lib.byteCells [mark t] := by cases t <;> rfl
theorem write_any (B b : Nat) (l : List UInt8) (t : Bool) (w : World) (h : Bd w B b l) (hl : l.length ≤ 1000000) (hB : B ≤ w.heap.size) :
    Calls Tryd.prog 92 #[.pointer (some ⟨b, 0, none⟩), .int .i32 (if t then 124 else 46)] w fun e w' => (∃ v, e = .returned v) ∧ Bd w' B b (l ++ [mark t]) ∧ Below B w w' := by
  refine (Any.Builder_WriteRune_k laidW168 extraW B b (Lib.byteCells l) (if t then 124 else 46) (by cases t <;> decide) (by cases t <;> decide) w h (by rw [Lib.byteCells_length]; omega) hB).mono ?_
  rintro e w' ⟨h1, h2, h3, _⟩
  refine ⟨⟨_, h1⟩, ?_, h3⟩
  unfold Bd
  rw [Lib.byteCells_append, ← rune_byte]
  exact .inr h2
theorem string_any (B b : Nat) (l : List UInt8) (w : World) (h : Bd w B b l) (hB : B ≤ w.heap.size) :
    Calls Tryd.prog 93 #[.pointer (some ⟨b, 0, none⟩)] w fun e w' => e = .returned (.string ⟨l.toArray⟩) ∧ Below B w w' :=
  (Any.Builder_String_any_f laidW169 extraW B b l w h hB).mono fun _ _ k => ⟨k.1, k.2.2⟩

@[go_sem] theorem eql_nil (w : World) (a : Option Addr) (n c n' c' : Nat) : (binOp .eql 35 (.slice a n c) (.slice none n' c')).run Tryd.prog w = .ok (.bool a.isNone) w := Lib.run_eql_slice_nil w _ _ a n c n' c' Tryd.underlying35
set_option maxHeartbeats 800000 in
theorem clone_any (l : List Bool) (x : Value) (w : World) (hx : Bl w x l) (hn : l.length ≤ 1000000) :
    Calls Tryd.prog 53 #[x] w fun e w' => ∃ v, e = .returned v ∧ OwnB w' w.heap.size v l ∧ Below w.heap.size w w' := by
  rcases hx.src.2 with ⟨rfl, h0⟩ | ⟨ad, c, rfl, _⟩
  · have hl : l = [] := List.eq_nil_of_length_eq_zero h0
    subst hl
    go_enter Tryd.func53, Tryd.ntmps53
    go_wp2_with fail
    go_ret
    exact ⟨_, rfl, OwnB.nil _ _, Below.refl _ _⟩
  · have HX := Lib.hid hx.src
    clear hx
    go_enter Tryd.func53, Tryd.ntmps53
    go_wp2_with (at_builtin; refine wp_append_bools rfl rfl w.heap.size _ [] rfl (World.ownsRow_made w #[] 0 (Nat.le_refl _) (Nat.zero_le _) rfl) _ l rfl (HX.out.kept ((Below.refl _ _).alloc (Nat.le_refl _) _)) (by simp; omega) (by simp) ?_; intro v1 w1 ho1 hg1 hat1)
    go_ret
    refine ⟨_, rfl, ho1, ?_⟩
    exact ((Below.refl _ w).alloc (Nat.le_refl _) _).grown hg1 (by simp) (by intro k hk; have hk : some w.heap.size = some k := hk; injection hk with hk; omega)
end Tab
end Go.Proofs.YtgjpojaegjdjcabDoor
end
section
/- New stops: grown, New, Resize, Set. -/
namespace Go.Proofs.YtgjpojaegjdjcabDoor
set_option maxRecDepth 100000
open Go.RowKit
namespace Tab

/-- Block b holds these truths and nothing else. -/
def Whole (w : World) (b : Nat) (l : List Bool) : Prop := w.heap[b]? = some (.cells (bools l).toArray 4 (0, 0))
theorem Whole.own {w : World} {b : Nat} {l : List Bool} (h : Whole w b l) {base : Nat} (hb : base ≤ b) (hl : l.length ≤ 1000000) : OwnB w base (.slice (some ⟨b, 0, none⟩) l.length l.length) l := by
  refine ⟨by rw [bools_length, Nat.mul_one], .inr ⟨b, l.length, _, rfl, hb, h, Nat.le_refl _, by simp only [maxLen]; omega, ?_, ?_⟩⟩
  · simp [bools_length]
  · rw [Nat.mul_one, ← bools_length l]; simp
theorem Whole.of {w : World} {base b : Nat} {l : List Bool} (h : w.ownsRow base 4 1 (.slice (some ⟨b, 0, none⟩) l.length l.length) l.length (bools l)) : Whole w b l := by
  rcases h.2 with ⟨e, _⟩ | ⟨b', cap, cur, e, _, hg, _, _, hs, ht⟩
  · injection e with e; cases e
  · injection e with e1 e2 e3
    injection e1 with e1
    injection e1 with e1
    subst e1
    subst e3
    unfold Whole
    rw [hg]
    have : cur.toList = bools l := by
      rw [← ht, List.take_of_length_le (by rw [Array.length_toList, hs]; exact Nat.le_refl _)]
    rw [← this]
theorem made_false (n : Nat) : (madeCells (Value.bool false).cells (n * 1)).toList = bools (List.replicate n false) := by
  apply List.ext_getElem?
  intro j
  simp only [madeCells, Value.cells, Nat.mul_one]
  rw [Array.getElem?_toList, Array.getElem?_map]
  unfold bools
  rw [List.getElem?_map]
  by_cases hj : j < n
  · simp [hj, Nat.mod_one]
  · simp [hj]
theorem run_copy_bools {w : World} {ty : TypeId} {b n : Nat} {x : Value} {l : List Bool} (h : Whole w b (List.replicate n false)) (hx : Bl w x l) (hl : l.length ≤ n) :
    ∃ w', (Builtin.copy_ #[35, 35] ty #[.slice (some ⟨b, 0, none⟩) n n, x]).run Tryd.prog w = .ok (goInt l.length) w' ∧ Whole w' b (l ++ List.replicate (n - l.length) false) ∧ ∀ B w0, Below B w0 w → B ≤ b → Below B w0 w' := by
  obtain ⟨i, hi, hz, h1, h8⟩ := Tryd.bool_row
  rcases hx.src.2 with ⟨rfl, h0⟩ | ⟨ad, c, rfl, hc⟩
  · have hl0 : l = [] := List.eq_nil_of_length_eq_zero h0
    subst hl0
    exact ⟨w, run_copy_nil Tryd.prog w 35 35 ty 4 _ n n Tryd.underlying35 (by rw [hi]; rfl), by simpa using h, fun _ _ hb _ => hb⟩
  · have hrun := run_copy_row (P := Tryd.prog) w 35 35 ty 4 b 0 n n ad l.length c _ _ (bools l) Tryd.underlying35 (by rw [hi]; simp [h1]) h
      (by rw [bools_length]; exact (Nat.min_eq_left hl).symm) hc (by simp [bools_length]; exact hl) (bools_cells l)
    rw [bools_length] at hrun
    refine ⟨_, hrun, ?_, fun B w0 hb hB => below_setRow hb hB _⟩
    have hrow := setRow_heap w b _ ((bools (List.replicate n false)).toArray.toList.take 0 ++ bools l ++ (bools (List.replicate n false)).toArray.toList.drop (0 + l.length)).toArray _ _ h
    unfold Whole
    rw [hrow, List.take_zero, List.nil_append, Nat.zero_add, bools_drop, List.drop_replicate, bools_append]
theorem wp_copy_bools {w : World} {ops : Array Oper} {rest : List Oper} {o : Oper} {a : Act} {Q : Exit → Act → World → Prop} {d s : Operand} (hgd : o.guard = none)
    (ho : o.op = .call { callee := .builtin .copy, args := #[d, s], argTypes := #[35, 35] }) (b n : Nat) (x : Value) (l : List Bool)
    (hd : a.eval d = .slice (some ⟨b, 0, none⟩) n n) (hs : a.eval s = x) (h : Whole w b (List.replicate n false)) (hx : Bl w x l) (hl : l.length ≤ n)
    (hK : ∀ w', Whole w' b (l ++ List.replicate (n - l.length) false) → (∀ B w0, Below B w0 w → B ≤ b → Below B w0 w') → wpList Tryd.prog ops Q rest (a.put o.dst (goInt l.length)) w') : wpList Tryd.prog ops Q (o :: rest) a w := by
  refine wpList_plain hgd fun K hK' => ?_
  obtain ⟨w', hrun, h1, h2⟩ := run_copy_bools (ty := o.type) h hx hl
  unfold Oper.wp execOp
  simp only [ho, resolve, invoke, builtin, Sem.run_bind, Sem.run_pure, Result.andThen_ok, List.map_toArray, List.map_cons, List.map_nil, hs, hd, hrun]
  exact hK' _ _ (hK w' h1 h2)
/-- So far laid: the columns behind are bare. -/
def laidTo (l : List Bool) (n k : Nat) : List Bool := (grownOf l n).take k ++ List.replicate (n - k) false
theorem laidTo_length (l : List Bool) {n k : Nat} (h : k ≤ n) : (laidTo l n k).length = n := by
  unfold laidTo
  rw [List.length_append, List.length_take, grownOf_length, List.length_replicate]; omega
theorem laidTo_set (l : List Bool) {n k : Nat} (h : k < n) (hl : l.length ≤ k) : (laidTo l n k).set k (stopAt k) = laidTo l n (k + 1) := by
  unfold laidTo
  have hk : ((grownOf l n).take k).length = k := by rw [List.length_take, grownOf_length]; omega
  rw [take_succ_bool (l := grownOf l n) (k := k) (by rw [grownOf_length]; exact h), grownOf_get hl h, List.set_append_right _ _ (by omega), hk, Nat.sub_self, show n - k = (n - (k + 1)) + 1 from by omega, List.replicate_succ, List.set_cons_zero, List.append_assoc]
  rfl
theorem laidTo_start (l : List Bool) {n : Nat} (h : l.length ≤ n) : laidTo l n l.length = l ++ List.replicate (n - l.length) false := by
  unfold laidTo
  rw [grownOf_take l n l.length (Nat.le_refl _) h, List.take_length]
theorem laidTo_full (l : List Bool) (n : Nat) : laidTo l n n = grownOf l n := by
  unfold laidTo
  rw [List.take_of_length_le (by rw [grownOf_length]; exact Nat.le_refl _)]; simp
theorem Whole.set {w : World} {b : Nat} {l : List Bool} (h : Whole w b l) (k : Nat) (t : Bool) : Whole (w.setCell ⟨b, k, none⟩ (.bool t)) b (l.set k t) := by
  have := Blk.set h k (.bool t)
  unfold Whole
  rw [this]
  congr 2
  simp [bools, List.map_set]
theorem stop_rem (k : Nat) : (((k : Int) % 8) == 0) = decide (k % 8 = 0) := by rw [Bool.eq_iff_iff, beq_iff_eq, decide_eq_true_eq]; omega
end Tab
end Go.Proofs.YtgjpojaegjdjcabDoor
end
section
/- Stops anew, cut or made longer, and one set. -/
namespace Go.Proofs.YtgjpojaegjdjcabDoor
set_option maxRecDepth 100000
open Go.RowKit
namespace Tab

def anewOf (n : Int) : List Bool := if rng n 1 40 then grownOf [] n.toNat else []
theorem grownOf_cut (l : List Bool) (n : Nat) : grownOf (l.take (min n l.length)) n = grownOf l n := by
  unfold grownOf
  rw [List.take_take, List.length_take, Nat.min_assoc, Nat.min_self]
  rcases Nat.le_total n l.length with h | h
  · rw [Nat.min_eq_left h, Nat.min_self, Nat.sub_self, show n - l.length = 0 from by omega]; rfl
  · rw [Nat.min_eq_right h, Nat.min_eq_right h, List.take_of_length_le (Nat.le_refl _), List.take_of_length_le h]
def cutOk (l : List Bool) (n : Int) : Bool := okB l && rng n 1 40
def cutOf (l : List Bool) (n : Int) : List Bool := if cutOk l n then grownOf l n.toNat else []
def setOk (l : List Bool) (a : Int) : Bool := okB l && rng a 0 (l.length - 1)
def setOf (l : List Bool) (a : Int) (t : Bool) : List Bool := if setOk l a then l.set a.toNat t else []
theorem setOf_same {l : List Bool} {a : Int} (h : setOk l a = true) (t : Bool) : (setOf l a t).length = l.length := by unfold setOf; rw [if_pos h, List.length_set]
end Tab
end Go.Proofs.YtgjpojaegjdjcabDoor
end
