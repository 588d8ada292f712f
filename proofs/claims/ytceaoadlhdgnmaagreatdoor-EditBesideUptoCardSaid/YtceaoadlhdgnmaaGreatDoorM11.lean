/- Joined texts: TabPlain, TabMem, TabHelp, TabRef. -/
import Derived.Test.YtceaoadlhdgnmaaGreatDoorM1
import Derived.Lib.Walk
namespace Go.Proofs.YtceaoadlhdgnmaaGreatDoor
set_option maxRecDepth 100000
section
open Go.RowKit
namespace Tab
def bools (l : List Bool) : List Value := l.map Value.bool
theorem bools_length (l : List Bool) : (bools l).length = l.length := List.length_map _
theorem bools_append (a b : List Bool) : bools (a ++ b) = bools a ++ bools b := List.map_append
theorem bools_get {l : List Bool} {k : Nat} (h : k < l.length) : (bools l)[k]? = some (.bool (l.getD k false)) := by unfold bools; simp [h]
theorem bools_cells (l : List Bool) : ∀ u ∈ bools l, u.oneCell' = true := by
  intro u hu
  obtain ⟨_, _, rfl⟩ := List.mem_map.1 hu
  rfl
theorem take_succ_bool {l : List Bool} {k : Nat} (h : k < l.length) : l.take (k + 1) = l.take k ++ [l.getD k false] := by
  rw [List.take_succ_eq_append_getElem h]; simp [h]
theorem drop_bool {l : List Bool} {k : Nat} (h : k < l.length) : l.drop k = l.getD k false :: l.drop (k + 1) := by
  rw [List.drop_eq_getElem_cons h]; simp [h]
theorem eq_of_bools : ∀ {a b : List Bool}, a.length = b.length → (∀ k, k < a.length → a.getD k false = b.getD k false) → a = b
  | [], [], _, _ => rfl
  | x :: a, y :: b, hl, h => by
    have h0 : x = y := by simpa using h 0 (by simp)
    have : a = b := eq_of_bools (by simpa using hl) fun k hk => by simpa using h (k + 1) (by simpa using hk)
    rw [h0, this]
def nth : List Bool → Nat → Option Nat
  | [], _ => none
  | b :: r, n => if b then (if n = 1 then some 0 else (nth r (n - 1)).map (· + 1)) else (nth r n).map (· + 1)
def cnt : List Bool → Nat
  | [] => 0
  | b :: r => (if b then 1 else 0) + cnt r
def far : List Bool → Nat → Nat
  | [], _ => 0
  | _ :: _, 0 => 0
  | b :: r, n + 1 => 1 + far r (if b then n else n + 1)
def nextOf (l : List Bool) (at_ n : Nat) : Nat := at_ + far (l.drop (at_ + 1)) n
def backOf (l : List Bool) : Nat → Nat → Nat
  | 0, _ => 0
  | a + 1, 0 => a + 1
  | a + 1, n + 1 => backOf l a (if l.getD a false then n else n + 1)
theorem cnt_le : ∀ l : List Bool, cnt l ≤ l.length
  | [] => Nat.le_refl _
  | b :: r => by have := cnt_le r; simp only [cnt, List.length_cons]; split <;> omega
theorem cnt_snoc : ∀ (l : List Bool) (b : Bool), cnt (l ++ [b]) = cnt l + (if b then 1 else 0)
  | [], b => by simp [cnt]
  | x :: l, b => by rw [List.cons_append, cnt, cnt, cnt_snoc l b]; omega
theorem nth_none : ∀ (l : List Bool) (n : Nat), cnt l < n → nth l n = none
  | [], _, _ => rfl
  | b :: r, n, h => by
    simp only [cnt] at h
    cases b
    · simp only [nth]; rw [if_neg (by decide), nth_none r n (by simpa using h)]; rfl
    · simp only [nth]; simp only [if_true] at h ⊢; rw [if_neg (by omega), nth_none r (n - 1) (by omega)]; rfl
theorem nth_some : ∀ (l : List Bool) (n : Nat), 1 ≤ n → n ≤ cnt l → ∃ i, nth l n = some i ∧ i < l.length
  | [], n, h1, h2 => by simp only [cnt] at h2; omega
  | b :: r, n, h1, h2 => by
    simp only [cnt] at h2
    cases b
    · obtain ⟨i, hi, hl⟩ := nth_some r n h1 (by simpa using h2)
      exact ⟨i + 1, by simp only [nth]; rw [if_neg (by decide), hi]; rfl, by simp only [List.length_cons]; omega⟩
    · by_cases h : n = 1
      · exact ⟨0, by simp [nth, h], by simp⟩
      · simp only [if_true] at h2
        obtain ⟨i, hi, hl⟩ := nth_some r (n - 1) (by omega) (by omega)
        exact ⟨i + 1, by simp only [nth]; rw [if_pos trivial, if_neg h, hi]; rfl, by simp only [List.length_cons]; omega⟩
theorem far_nth : ∀ (l : List Bool) (n : Nat), 1 ≤ n → far l n = match nth l n with | some i => i + 1 | none => l.length
  | [], n, h => by simp [far, nth]
  | b :: r, n + 1, h => by
    simp only [far]
    cases b
    · rw [if_neg (by decide), far_nth r (n + 1) (by omega)]
      simp only [nth]
      rw [if_neg (by decide)]
      cases nth r (n + 1) with
      | none => show 1 + r.length = r.length + 1; omega
      | some i => show 1 + (i + 1) = i + 1 + 1; omega
    · rw [if_pos rfl]
      simp only [nth]
      rw [if_pos trivial]
      by_cases hn : n = 0
      · subst hn
        cases r <;> simp [far]
      · rw [if_neg (by omega), Nat.add_sub_cancel, far_nth r n (by omega)]
        cases nth r n with
        | none => show 1 + r.length = r.length + 1; omega
        | some i => show 1 + (i + 1) = i + 1 + 1; omega
theorem far_le : ∀ (l : List Bool) (n : Nat), far l n ≤ l.length
  | [], _ => Nat.le_refl _
  | _ :: _, 0 => Nat.zero_le _
  | b :: r, n + 1 => by have := far_le r (if b then n else n + 1); simp only [far, List.length_cons]; omega
theorem nth_snoc : ∀ (l : List Bool) (b : Bool) (n : Nat), 1 ≤ n → nth (l ++ [b]) n = match nth l n with | some i => some i | none => if b = true ∧ cnt l + 1 = n then some l.length else none
  | [], b, n, h => by
    cases b
    · simp [nth]
    · by_cases hn : n = 1
      · simp [nth, cnt, hn]
      · have : ¬ (0 + 1 = n) := by omega
        simp [nth, cnt, hn]; omega
  | x :: l, b, n, h => by
    rw [List.cons_append]
    simp only [nth, cnt]
    cases x
    · rw [if_neg (by decide), if_neg (by decide), nth_snoc l b n h]
      cases nth l n with
      | some i => rfl
      | none => simp only [Option.map_none, if_neg (show ¬ (false = true) by decide), Nat.zero_add]; split <;> simp
    · simp only [if_true]
      by_cases hn : n = 1
      · simp [hn]
      · rw [if_neg hn, if_neg hn, nth_snoc l b (n - 1) (by omega)]
        cases nth l (n - 1) with
        | some i => rfl
        | none =>
          simp only [Option.map_none]
          by_cases hb : b = true ∧ cnt l + 1 = n - 1
          · rw [if_pos hb, if_pos ⟨hb.1, by omega⟩]; simp
          · rw [if_neg hb, if_neg (fun e => hb ⟨e.1, by omega⟩)]; rfl
theorem backOf_nth (l : List Bool) : ∀ (a n : Nat), a ≤ l.length → 1 ≤ n → backOf l a n = if cnt (l.take a) < n then 0 else match nth (l.take a) (cnt (l.take a) + 1 - n) with | some i => i | none => 0
  | 0, n, ha, hn => by simp [backOf, cnt, show 0 < n from hn]
  | a + 1, n + 1, ha, hn => by
    rw [take_succ_bool (l := l) (k := a) (by omega), cnt_snoc]
    simp only [backOf]
    cases hb : l.getD a false
    · simp only [if_neg (show ¬ (false = true) by decide), Nat.add_zero]
      rw [backOf_nth l a (n + 1) (by omega) (by omega)]
      by_cases hc : cnt (l.take a) < n + 1
      · rw [if_pos hc, if_pos hc]
      · rw [if_neg hc, if_neg hc, nth_snoc _ _ _ (by omega)]
        obtain ⟨i, hi, _⟩ := nth_some (l.take a) (cnt (l.take a) + 1 - (n + 1)) (by omega) (by omega)
        rw [hi]
    · simp only [if_true]
      by_cases hn0 : n = 0
      · subst hn0
        rw [if_neg (by omega), nth_snoc _ _ _ (by omega), nth_none _ _ (by omega)]
        have hl : (l.take a).length = a := by rw [List.length_take]; omega
        simp only [Nat.zero_add, Nat.add_sub_cancel, and_self, if_true, hl]
        cases a <;> rfl
      · rw [backOf_nth l a n (by omega) (by omega)]
        by_cases hc : cnt (l.take a) < n
        · rw [if_pos hc, if_pos (by omega)]
        · rw [if_neg hc, if_neg (by omega), nth_snoc _ _ _ (by omega), show cnt (l.take a) + 1 + 1 - (n + 1) = cnt (l.take a) + 1 - n from by omega]
          obtain ⟨i, hi, _⟩ := nth_some (l.take a) (cnt (l.take a) + 1 - n) (by omega) (by omega)
          rw [hi]
theorem backOf_zero (l : List Bool) (a : Nat) : backOf l a 0 = a := by cases a <;> rfl
theorem far_zero (l : List Bool) : far l 0 = 0 := by cases l <;> rfl
theorem nextOf_zero (l : List Bool) (a : Nat) : nextOf l a 0 = a := by unfold nextOf; rw [far_zero]; omega
theorem nextOf_le {l : List Bool} {a n : Nat} (h : a < l.length) : nextOf l a n < l.length := by
  unfold nextOf
  have := far_le (l.drop (a + 1)) n
  rw [List.length_drop] at this; omega
theorem backOf_le (l : List Bool) : ∀ a n : Nat, backOf l a n ≤ a
  | 0, _ => Nat.le_refl _
  | a + 1, 0 => Nat.le_refl _
  | a + 1, n + 1 => by have := backOf_le l a (if l.getD a false then n else n + 1); simp only [backOf]; omega
def stopAt (i : Nat) : Bool := decide (0 < i) && decide (i % 8 = 0)
def grownOf (l : List Bool) (n : Nat) : List Bool := l.take n ++ (List.range' l.length (n - l.length)).map stopAt
theorem grownOf_length (l : List Bool) (n : Nat) : (grownOf l n).length = n := by
  unfold grownOf; rw [List.length_append, List.length_take, List.length_map, List.length_range']; omega
def mark (b : Bool) : UInt8 := if b then 124 else 46
def rul (l : List Bool) : List UInt8 := l.map mark
theorem rul_length (l : List Bool) : (rul l).length = l.length := List.length_map _
theorem rul_append (a b : List Bool) : rul (a ++ b) = rul a ++ rul b := List.map_append
end Tab
end
section
open Go.RowKit
namespace Tab
structure Bl (w : World) (x : Value) (l : List Bool) : Prop where
  src : Src w x l.length (bools l)
  room : ∃ A c, x = .slice A l.length c ∧ l.length ≤ c
theorem Bl.kept {w w' : World} {x : Value} {l : List Bool} (h : Bl w x l) (hb : Below w.heap.size w w') : Bl w' x l := ⟨h.src.kept hb, h.room⟩
theorem Bl.nil (w : World) : Bl w (.slice none 0 0) [] := ⟨⟨rfl, .inl ⟨rfl, rfl⟩⟩, none, 0, rfl, by simp⟩
def OwnB (w : World) (base : Nat) (x : Value) (l : List Bool) : Prop := w.ownsRow base 4 1 x l.length (bools l)
theorem OwnB.nil (w : World) (base : Nat) : OwnB w base (.slice none 0 0) [] := World.ownsRow_nil _ _ _ _
theorem OwnB.kept {w w' : World} {base : Nat} {x : Value} {l : List Bool} (h : OwnB w base x l) (hb : Below w.heap.size w w') : OwnB w' base x l := own_kept h hb
theorem OwnB.low {w : World} {base b2 : Nat} {x : Value} {l : List Bool} (h : OwnB w base x l) (hb : b2 ≤ base) : OwnB w b2 x l := Blk.low h hb
theorem OwnB.bl {w : World} {base : Nat} {x : Value} {l : List Bool} (h : OwnB w base x l) : Bl w x l := by
  refine ⟨Src.own h, ?_⟩
  rcases h.2 with ⟨rfl, h0⟩ | ⟨g, cap, cur, rfl, _, _, hc, _⟩
  · exact ⟨none, 0, by rw [h0], by omega⟩
  · exact ⟨_, _, rfl, hc⟩
theorem Bl.get {w : World} {A : Option Addr} {n c : Nat} {l : List Bool} (h : Bl w (.slice A n c) l) : ∀ k, k < l.length → ∃ ad, A = some ad ∧ w.cell? (ad.add k) = some (.bool (l.getD k false)) := by
  intro k hk
  obtain ⟨A', c', e, hf⟩ := h.src.form
  injection e with e1 e2 e3
  subst e1
  obtain ⟨ad, rfl, hc⟩ := hf k hk
  exact ⟨ad, rfl, by rw [hc, bools_get hk]⟩
theorem Bl.shape {w : World} {x : Value} {l : List Bool} (h : Bl w x l) : ∃ A c, x = .slice A l.length c := by
  obtain ⟨A, c, e, _⟩ := h.room
  exact ⟨A, c, e⟩
theorem bools_drop (l : List Bool) (k : Nat) : (bools l).drop k = bools (l.drop k) := by unfold bools; rw [List.map_drop]
theorem bools_take (l : List Bool) (k : Nat) : (bools l).take k = bools (l.take k) := by unfold bools; rw [List.map_take]
theorem Bl.tail {w : World} {A : Option Addr} {n c : Nat} {l : List Bool} (h : Bl w (.slice A n c) l) (k : Nat) (hk : k ≤ l.length) (i : Int) (hi : i = k) :
    ∃ V, (∀ w' : World, (Instr.slice 34 (.slice A n c) (some (.int .i64 i)) none none).run Tryz.prog w' = .ok V w') ∧ Bl w V (l.drop k) := by
  obtain ⟨A', c', e, hc⟩ := h.room
  injection e with e1 e2 e3
  subst e1; subst e2; subst e3; subst hi
  have hu : Tryz.prog.underlying 34 = some (.slice (Tryz.prog.elem 34)) := by kernel_rfl
  refine ⟨.slice (if c = k then A else A.map (·.add k)) (l.length - k) (c - k), fun w' => ?_, ⟨⟨by rw [bools_length], ?_⟩, ?_⟩⟩
  · rw [run_slice_l w' 34 A l.length c hu .i64 k (by omega) (by omega)]
    have hs : (sizeOf (Tryz.prog.elem 34)).run Tryz.prog w' = .ok 1 w' := by kernel_rfl
    rw [hs]
    simp [Result.andThen, sliced]
  · rw [List.length_drop]
    rcases h.src.2 with ⟨e, h0⟩ | ⟨ad, c2, e, hcell⟩
    · injection e with e1 e2 e3
      subst e1; subst e3
      left
      refine ⟨?_, by omega⟩
      have : k = 0 := by omega
      subst this
      simp [h0]
    · injection e with e1 e2 e3
      subst e1; subst e3
      right
      by_cases hck : c = k
      · rw [if_pos hck]
        refine ⟨ad, c - k, rfl, fun j u hu => ?_⟩
        have : l.drop k = [] := List.drop_eq_nil_of_le (by omega)
        rw [this] at hu
        simp [bools] at hu
      · rw [if_neg hck]
        refine ⟨ad.add k, c - k, rfl, fun j u hu => ?_⟩
        rw [Go.Deep.add_add]
        refine hcell (k + j) u ?_
        rw [← bools_drop, List.getElem?_drop] at hu
        exact hu
  · exact ⟨_, _, by rw [List.length_drop], by rw [List.length_drop]; omega⟩
theorem Bl.front {w : World} {A : Option Addr} {n c : Nat} {l : List Bool} (h : Bl w (.slice A n c) l) (k : Nat) (hk : k ≤ l.length) (i : Int) (hi : i = k) :
    ∃ V, (∀ w' : World, (Instr.slice 34 (.slice A n c) none (some (.int .i64 i)) none).run Tryz.prog w' = .ok V w') ∧ Bl w V (l.take k) := by
  obtain ⟨A', c', e, hc⟩ := h.room
  injection e with e1 e2 e3
  subst e1; subst e2; subst e3; subst hi
  have hu : Tryz.prog.underlying 34 = some (.slice (Tryz.prog.elem 34)) := by kernel_rfl
  have hlk : (l.take k).length = k := by rw [List.length_take]; omega
  refine ⟨.slice A k c, fun w' => ?_, ⟨⟨by rw [bools_length], ?_⟩, ?_⟩⟩
  · rw [run_slice_h w' 34 A l.length c hu .i64 k (by omega) (by omega)]
    have hs : (sizeOf (Tryz.prog.elem 34)).run Tryz.prog w' = .ok 1 w' := by kernel_rfl
    rw [hs]
    simp [Result.andThen, sliced]
    intro _
    cases A <;> simp [Addr.add]
  · rw [hlk]
    rcases h.src.2 with ⟨e, h0⟩ | ⟨ad, c2, e, hcell⟩
    · injection e with e1 e2 e3
      subst e1; subst e3
      left
      refine ⟨?_, by omega⟩
      have : k = 0 := by omega
      subst this
      rfl
    · injection e with e1 e2 e3
      subst e1; subst e3
      right
      refine ⟨ad, c, rfl, fun j u hu => hcell j u ?_⟩
      rw [← bools_take] at hu
      have hj : j < ((bools l).take k).length := (List.getElem?_eq_some_iff.1 hu).1
      rw [List.length_take] at hj
      rw [List.getElem?_take_of_lt (by omega)] at hu
      exact hu
  · exact ⟨_, _, by rw [hlk], by rw [hlk]; omega⟩
theorem Tryz.bool_info : (Tryz.prog.info? 4).map (fun i => (i.zero, i.size, i.bytes)) = some (some (.bool false), 1, 1) := by kernel_rfl
theorem Tryz.bool_row : ∃ i : TypeInfo, Tryz.prog.info? 4 = some i ∧ i.zero = some (.bool false) ∧ i.size = 1 ∧ i.bytes = 1 := by
  obtain ⟨i, h, h1, h2, h3⟩ := info_parts Tryz.bool_info
  exact ⟨i, h, h1, h2, h3⟩
theorem wp_append_bools {w : World} {ops : Array Oper} {rest : List Oper} {o : Oper} {a : Act} {Q : Exit → Act → World → Prop} {s x : Operand} (hgd : o.guard = none)
    (ho : o.op = .call { callee := .builtin .append, args := #[s, x], argTypes := #[34, 34] }) (base : Nat) (v : Value) (xs : List Bool) (hs : a.eval s = v) (hown : OwnB w base v xs)
    (y : Value) (news : List Bool) (hy : a.eval x = y) (hx : Src w y news.length (bools news)) (hb : xs.length + news.length ≤ 1000000000) (hbase : base ≤ w.heap.size)
    (h : ∀ v' w', OwnB w' base v' (xs ++ news) → w.grownBy w' v.ownBlock → (v'.ownBlock = v.ownBlock ∨ v'.ownBlock = some w.heap.size) → wpList Tryz.prog ops Q rest (a.put o.dst v') w') :
    wpList Tryz.prog ops Q (o :: rest) a w := by
  obtain ⟨i, hi, hz, h1, h8⟩ := Tryz.bool_row
  refine wpList_append_src hgd ho base 4 i _ 1 Tryz.underlying34 hi hz h1 h8 rfl v xs.length (bools xs) hs hown y news.length (bools news) hy hx (bools_cells _) (by simp only [maxLen]; omega) (by omega) hbase fun v' w' h2 h3 h4 => ?_
  exact h v' w' (by unfold OwnB; rw [bools_append, List.length_append]; exact h2) h3 h4
set_option maxHeartbeats 400000 in
theorem eqBools_any {u v : Value} (xs ys : List Bool) (w : World) (hx : Bl w u xs) (hy : Bl w v ys) (hn : xs.length ≤ 1000000000) :
    Calls Tryz.prog 114 #[u, v] w fun e w' => e = .returned (.bool (decide (xs = ys))) ∧ Below w.heap.size w w' := by
  obtain ⟨A, c, rfl⟩ := hx.shape
  obtain ⟨A', c', rfl⟩ := hy.shape
  by_cases hnm : xs.length = ys.length
  · have ha' := Lib.hid hx.get
    have hb' := Lib.hid hy.get
    have HL := Lib.hid hnm
    obtain ⟨n, hl⟩ : ∃ n, xs.length = n := ⟨_, rfl⟩
    have hl2 : ys.length = n := by omega
    have HX := Lib.hid hl
    have HY := Lib.hid hl2
    rw [hl] at hn
    clear hx hy hnm
    rw [hl, hl2]
    clear hl hl2
    go_enter Tryz.func114, Tryz.ntmps114
    go_wp2_with fail
    go_loopw [5] (fun i wr => ∃ k q : Nat, k ≤ n ∧ i = .int .i64 k ∧ Hid (∀ j, j < k → xs.getD j false = ys.getD j false) ∧ wr = w.drewN q) (fun i _ => n - (intOf i).toNat)
    case atStart => exact ⟨0, 0, by omega, rfl, Lib.hid fun j h => by omega, rfl⟩
    case round =>
      obtain ⟨k, q, hk, rfl, hal, rfl⟩ := hrel
      by_cases hlt : k < n
      · obtain ⟨ad, rfl, h1⟩ := ha'.out k (by rw [HX.out]; exact hlt)
        obtain ⟨ad', rfl, h2⟩ := hb'.out k (by rw [HY.out]; exact hlt)
        by_cases he : xs.getD k false = ys.getD k false
        · have HA : Hid (∀ j, j < k + 1 → xs.getD j false = ys.getD j false) := Lib.hid fun j hj => by
            by_cases hjk : j = k
            · rw [hjk]; exact he
            · exact hal.out j (by omega)
          rw [← he] at h2
          clear he
          generalize xs.getD k false = p at h1 h2
          have hb1 : (p != p) = false := by simp
          go_wp2_with fail
          go_quiet (fail)
          go_wp2_with fail
          go_roundw
          case rel => exact ⟨k + 1, _, by omega, by go_num, HA, rfl⟩
          case measure => simp [intOf]; omega
        · have HF : Hid (decide (xs = ys) = false) := Lib.hid (decide_eq_false fun e => he (by rw [e]))
          have hb1 : (xs.getD k false != ys.getD k false) = true := by rw [bne_iff_ne]; exact he
          clear he
          generalize xs.getD k false = p at h1 hb1
          generalize ys.getD k false = p' at h2 hb1
          have hpp : (p = true ∧ p' = false) ∨ (p = false ∧ p' = true) := by revert hb1; cases p <;> cases p' <;> decide
          clear hb1
          rcases hpp with ⟨rfl, rfl⟩ | ⟨rfl, rfl⟩
          all_goals
            go_wp2_with fail
            go_quiet (fail)
            go_wp2_with fail
            go_ret
            exact ⟨ret_bool HF.out.symm, by rw [World.drewN_drewN]; exact below_drewN (Below.refl _ _) _⟩
      · have HF : Hid (decide (xs = ys) = true) := Lib.hid (decide_eq_true (eq_of_bools HL.out fun j hj => hal.out j (by have := HX.out; omega)))
        go_wp2_with fail
        go_ret
        exact ⟨ret_bool HF.out.symm, below_drewN (Below.refl _ _) _⟩
  · have hb1 : ((xs.length : Int) != (ys.length : Int)) = true := by rw [bne_iff_ne]; omega
    have HF : Hid (decide (xs = ys) = false) := Lib.hid (decide_eq_false fun e => hnm (by rw [e]))
    clear hx hy hnm
    clear hn
    generalize xs.length = n at hb1 ⊢
    generalize ys.length = m at hb1 ⊢
    go_enter Tryz.func114, Tryz.ntmps114
    go_wp2_with fail
    go_ret
    exact ⟨ret_bool HF.out.symm, Below.refl _ _⟩
theorem eqBools_same {u v : Value} (xs ys : List Bool) (w : World) (hx : Bl w u xs) (hy : Bl w v ys) (he : xs = ys) (hn : xs.length ≤ 1000000000) :
    Calls Tryz.prog 114 #[u, v] w fun e w' => e = .returned (.bool true) ∧ Below w.heap.size w w' :=
  (eqBools_any xs ys w hx hy hn).mono fun e w' h => ⟨by rw [h.1]; simp [he], h.2⟩
set_option maxHeartbeats 400000 in
theorem copyBools_any {u : Value} (xs : List Bool) (w : World) (hx : Bl w u xs) (hn : xs.length ≤ 1000000) :
    Calls Tryz.prog 51 #[u] w fun e w' => ∃ v, e = .returned v ∧ OwnB w' w.heap.size v xs ∧ Below w.heap.size w w' := by
  obtain ⟨A, c, rfl⟩ := hx.shape
  have ha' := Lib.hid hx.get
  obtain ⟨n, hl⟩ : ∃ n, xs.length = n := ⟨_, rfl⟩
  have HL := Lib.hid hl
  rw [hl] at hn ⊢
  clear hx hl
  go_enter Tryz.func51, Tryz.ntmps51
  go_wp2_with fail
  go_loopw [3, 4] (fun v i wr => ∃ k : Nat, k ≤ n ∧ i = .int .i64 k ∧ Hid (OwnB wr w.heap.size v (xs.take k)) ∧ Below w.heap.size w wr) (fun _ i _ => n - (intOf i).toNat)
  case atStart => exact ⟨0, by omega, rfl, Lib.hid (OwnB.nil _ _), Below.refl _ _⟩
  case round =>
    obtain ⟨k, hk, rfl, hown, hbl⟩ := hrel
    by_cases hlt : k < n
    · obtain ⟨ad, rfl, h1⟩ := ha'.out k (by rw [HL.out]; exact hlt)
      have h1 := cell_kept hbl h1
      have HT := Lib.hid (take_succ_bool (l := xs) (k := k) (by rw [HL.out]; exact hlt))
      have hlk : (xs.take k).length = k := by rw [List.length_take, HL.out]; omega
      have HK := Lib.hid hlk
      clear hlk
      generalize xs.getD k false = p at h1 HT
      go_wp2_with (at_builtin; refine wp_append_bools rfl rfl w.heap.size _ (xs.take k) rfl (hown.out.alloc _) _ [p] rfl (Src.one wr _ _ _) (by rw [HK.out]; simp; omega) (by simp; have := hbl.size; omega) ?_; intro v1 w1 ho1 hg1 hat1)
      go_roundw
      case rel => exact ⟨k + 1, by omega, by go_num, Lib.hid (by rw [HT.out]; exact ho1), below_own (hbl.alloc hbl.size _) hg1 (by simp; have := hbl.size; omega) (hown.out.alloc _)⟩
      case measure => simp [intOf]; omega
    · have hkn : k = n := by omega
      subst hkn
      have HE : Hid (xs.take k = xs) := Lib.hid (List.take_of_length_le (by have := HL.out; omega))
      go_wp2_with fail
      go_ret
      have ho := hown.out
      rw [HE.out] at ho
      exact ⟨_, rfl, ho, hbl⟩
end Tab
end
section
open Go.RowKit
namespace Tab
def rng (n lo hi : Int) : Bool := decide (lo ≤ n) && decide (n ≤ hi)
theorem rng_yes {n lo hi : Int} : rng n lo hi = true ↔ lo ≤ n ∧ n ≤ hi := by unfold rng; rw [Bool.and_eq_true, decide_eq_true_eq, decide_eq_true_eq]
theorem between_any (n lo hi : Int) (w : World) : Calls Tryz.prog 61 #[.int .i64 n, .int .i64 lo, .int .i64 hi] w fun e w' => e = .returned (.bool (rng n lo hi)) ∧ w = w' := by
  by_cases h : lo ≤ n
  · by_cases k : n ≤ hi
    · have H : Hid (rng n lo hi = true) := Lib.hid (by unfold rng; rw [decide_eq_true h, decide_eq_true k]; rfl)
      go_enter Tryz.func61, Tryz.ntmps61
      go_wp2_with fail
      go_ret
      exact ⟨ret_bool H.out.symm, rfl⟩
    · have H : Hid (rng n lo hi = false) := Lib.hid (by unfold rng; rw [decide_eq_false k, Bool.and_false])
      have hd : decide (n ≤ hi) = false := decide_eq_false k
      go_enter Tryz.func61, Tryz.ntmps61
      go_wp2_with fail
      go_ret
      exact ⟨ret_bool H.out.symm, rfl⟩
  · have H : Hid (rng n lo hi = false) := Lib.hid (by unfold rng; rw [decide_eq_false h, Bool.false_and])
    have hd : decide (lo ≤ n) = false := decide_eq_false h
    go_enter Tryz.func61, Tryz.ntmps61
    go_wp2_with fail
    go_ret
    exact ⟨ret_bool H.out.symm, rfl⟩
theorem num_any (n hi : Int) (w : World) : Calls Tryz.prog 59 #[.int .i64 n, .int .i64 hi] w fun e w' => e = .returned (.bool (rng n 0 hi)) ∧ w = w' := by
  by_cases h : 0 ≤ n
  · by_cases k : n ≤ hi
    · have H : Hid (rng n 0 hi = true) := Lib.hid (by unfold rng; rw [decide_eq_true h, decide_eq_true k]; rfl)
      go_enter Tryz.func59, Tryz.ntmps59
      go_wp2_with fail
      go_ret
      exact ⟨ret_bool H.out.symm, rfl⟩
    · have H : Hid (rng n 0 hi = false) := Lib.hid (by unfold rng; rw [decide_eq_false k, Bool.and_false])
      have hd : decide (n ≤ hi) = false := decide_eq_false k
      go_enter Tryz.func59, Tryz.ntmps59
      go_wp2_with fail
      go_ret
      exact ⟨ret_bool H.out.symm, rfl⟩
  · have H : Hid (rng n 0 hi = false) := Lib.hid (by unfold rng; rw [decide_eq_false h, Bool.false_and])
    have hd : decide (0 ≤ n) = false := decide_eq_false h
    go_enter Tryz.func59, Tryz.ntmps59
    go_wp2_with fail
    go_ret
    exact ⟨ret_bool H.out.symm, rfl⟩
theorem in_any (n lo hi : Int) (w : World) : Calls Tryz.prog 181 #[.int .i64 n, .int .i64 lo, .int .i64 hi] w fun e w' => e = .returned (.bool (rng n lo hi)) ∧ w = w' := by
  by_cases h : lo ≤ n
  · by_cases k : n ≤ hi
    · have H : Hid (rng n lo hi = true) := Lib.hid (by unfold rng; rw [decide_eq_true h, decide_eq_true k]; rfl)
      go_enter Tryz.func181, Tryz.ntmps181
      go_wp2_with fail
      go_ret
      exact ⟨ret_bool H.out.symm, rfl⟩
    · have H : Hid (rng n lo hi = false) := Lib.hid (by unfold rng; rw [decide_eq_false k, Bool.and_false])
      have hd : decide (n ≤ hi) = false := decide_eq_false k
      go_enter Tryz.func181, Tryz.ntmps181
      go_wp2_with fail
      go_ret
      exact ⟨ret_bool H.out.symm, rfl⟩
  · have H : Hid (rng n lo hi = false) := Lib.hid (by unfold rng; rw [decide_eq_false h, Bool.false_and])
    have hd : decide (lo ≤ n) = false := decide_eq_false h
    go_enter Tryz.func181, Tryz.ntmps181
    go_wp2_with fail
    go_ret
    exact ⟨ret_bool H.out.symm, rfl⟩
theorem columns_any (n : Int) (w : World) : Calls Tryz.prog 153 #[.int .i64 n] w fun e w' => e = .returned (.bool (rng n 1 40)) ∧ w = w' := by
  go_enter Tryz.func153, Tryz.ntmps153
  go_wp2_with fail
  refine (in_any _ _ _ _).mono ?_; rintro e w' ⟨rfl, rfl⟩
  go_wp2_with fail
  go_ret
  exact ⟨rfl, rfl⟩
def okB (l : List Bool) : Bool := rng l.length 1 40
theorem okB_yes {l : List Bool} : okB l = true ↔ 1 ≤ l.length ∧ l.length ≤ 40 := by unfold okB; rw [rng_yes]; omega
def codeOf (b : Bool) : Int := if b then 0 else 1
theorem check_any (l : List Bool) (x : Value) (w : World) (hx : Bl w x l) : Calls Tryz.prog 158 #[x] w fun e w' => e = .returned (.int .i64 (codeOf (okB l))) ∧ w = w' := by
  obtain ⟨A, c, rfl⟩ := hx.shape
  unfold okB
  clear hx
  obtain ⟨b, hb⟩ : ∃ b, rng l.length 1 40 = b := ⟨_, rfl⟩
  rw [hb]
  have HB : Hid (∀ w', Calls Tryz.prog 153 #[.int .i64 l.length] w' fun e w'' => e = .returned (.bool b) ∧ w' = w'') := Lib.hid fun w' => by rw [← hb]; exact columns_any _ _
  clear hb
  generalize l.length = n at HB
  cases b
  all_goals
    go_enter Tryz.func158, Tryz.ntmps158
    go_wp2_with fail
    refine (HB.out _).mono ?_; rintro e w' ⟨rfl, rfl⟩
    go_wp2_with fail
    go_ret
    exact ⟨rfl, rfl⟩
def goes (l : List Bool) (a n : Int) : Bool := okB l && (rng a 0 (l.length - 1) && rng n 0 9999)
theorem goes_yes {l : List Bool} {a n : Int} : goes l a n = true ↔ (1 ≤ l.length ∧ l.length ≤ 40) ∧ (0 ≤ a ∧ a < l.length) ∧ 0 ≤ n ∧ n ≤ 9999 := by
  unfold goes
  rw [Bool.and_eq_true, Bool.and_eq_true, okB_yes, rng_yes, rng_yes]; omega
theorem steps_any (l : List Bool) (a n : Int) (x : Value) (w : World) (hx : Bl w x l) (hl : l.length ≤ 1000000) : Calls Tryz.prog 212 #[x, .int .i64 a, .int .i64 n] w fun e w' => e = .returned (.bool (goes l a n)) ∧ w = w' := by
  obtain ⟨A, c, rfl⟩ := hx.shape
  have HC := Lib.hid (fun w' (k : Bl w' _ l) => check_any l (.slice A l.length c) w' k)
  have HX := Lib.hid hx
  have hw : IntKind.i64.wrap ((l.length : Int) - 1) = (l.length : Int) - 1 := by rw [IntKind.wrap_i64]; omega
  clear hx
  obtain ⟨p, hp⟩ : ∃ p, okB l = p := ⟨_, rfl⟩
  obtain ⟨q, hq⟩ : ∃ q, rng a 0 (l.length - 1) = q := ⟨_, rfl⟩
  obtain ⟨r, hr⟩ : ∃ r, rng n 0 9999 = r := ⟨_, rfl⟩
  have HG : Hid (goes l a n = (p && (q && r))) := Lib.hid (by unfold goes; rw [hp, hq, hr])
  have HQ : Hid (∀ w', Calls Tryz.prog 181 #[.int .i64 a, .int .i64 0, .int .i64 (l.length - 1)] w' fun e w'' => e = .returned (.bool q) ∧ w' = w'') := Lib.hid fun w' => by rw [← hq]; exact in_any _ _ _ _
  have HR : Hid (∀ w', Calls Tryz.prog 181 #[.int .i64 n, .int .i64 0, .int .i64 9999] w' fun e w'' => e = .returned (.bool r) ∧ w' = w'') := Lib.hid fun w' => by rw [← hr]; exact in_any _ _ _ _
  rw [hp] at HC
  clear hp hq hr hl
  cases p
  · go_enter Tryz.func212, Tryz.ntmps212
    go_wp2_with fail
    refine (HC.out _ HX.out).mono ?_; rintro e w' ⟨rfl, rfl⟩
    unfold codeOf
    go_wp2_with fail
    go_ret
    exact ⟨ret_bool HG.out.symm, rfl⟩
  · cases q
    · go_enter Tryz.func212, Tryz.ntmps212
      go_wp2_with fail
      refine (HC.out _ HX.out).mono ?_; rintro e w' ⟨rfl, rfl⟩
      unfold codeOf
      go_wp2_with fail
      refine (HQ.out _).mono ?_; rintro e w' ⟨rfl, rfl⟩
      go_wp2_with fail
      go_ret
      exact ⟨ret_bool HG.out.symm, rfl⟩
    · go_enter Tryz.func212, Tryz.ntmps212
      go_wp2_with fail
      refine (HC.out _ HX.out).mono ?_; rintro e w' ⟨rfl, rfl⟩
      unfold codeOf
      go_wp2_with fail
      refine (HQ.out _).mono ?_; rintro e w' ⟨rfl, rfl⟩
      go_wp2_with fail
      refine (HR.out _).mono ?_; rintro e w' ⟨rfl, rfl⟩
      go_wp2_with fail
      go_ret
      exact ⟨ret_bool HG.out.symm, rfl⟩
def wi (i : Int) (n : Nat) : Nat := (i % 18446744073709551616).toNat % n
end Tab
end
section
open Go.RowKit
namespace Tab
theorem grownOf_get {l : List Bool} {n k : Nat} (h : l.length ≤ k) (hk : k < n) : (grownOf l n).getD k false = stopAt k := by
  unfold grownOf
  rw [List.take_of_length_le (by omega), List.getD_eq_getElem?_getD, List.getElem?_append_right h, List.getElem?_map, List.getElem?_range' (by omega)]
  simp only [Option.map_some, Option.getD_some]
  congr 1
  omega
theorem grownOf_take (l : List Bool) (n k : Nat) (h : k ≤ l.length) (hn : k ≤ n) : (grownOf l n).take k = l.take k := by
  unfold grownOf
  rw [List.take_append_of_le_length (by rw [List.length_take]; omega), List.take_take, Nat.min_eq_left hn]
def lenOf : Value → Nat
  | .slice _ n _ => n
  | _ => 0
theorem OwnB.lenOf_ {w : World} {base : Nat} {x : Value} {l : List Bool} (h : OwnB w base x l) : lenOf x = l.length := by
  obtain ⟨A, c, rfl⟩ := h.bl.shape; rfl
set_option maxHeartbeats 400000 in
theorem stops_any (l : List Bool) (n : Nat) (x : Value) (w : World) (hx : Bl w x l) (hl : l.length ≤ 1000000) (hn : n ≤ 1000000) :
    Calls Tryz.prog 117 #[x, .int .i64 n] w fun e w' => ∃ v, e = .returned v ∧ OwnB w' w.heap.size v (grownOf l n) ∧ Below w.heap.size w w' := by
  obtain ⟨A, c, rfl⟩ := hx.shape
  obtain ⟨k, hk⟩ : ∃ k : Nat, min n l.length = k := ⟨_, rfl⟩
  have hmin : min (n : Int) (l.length : Int) = (k : Int) := by omega
  obtain ⟨V, hV, hb⟩ := hx.front k (by omega) k rfl
  have HC := Lib.hid (copyBools_any (l.take k) w hb (by rw [List.length_take]; omega))
  have HGL : Hid ((grownOf l n).length = n) := Lib.hid (grownOf_length l n)
  have HT : Hid (l.take k = (grownOf l n).take k) := Lib.hid (grownOf_take l n k (by omega) (by omega)).symm
  have HG : Hid (∀ j, k ≤ j → j < n → (grownOf l n).getD j false = stopAt j) := Lib.hid fun j h1 h2 => grownOf_get (by omega) h2
  have hkn : k ≤ n := by omega
  rw [HT.out] at HC
  clear hx hb hk HT
  generalize grownOf l n = ys at HC HGL HG ⊢
  have HW := Lib.hid hV
  clear hV
  have hV := HW.out w
  generalize l.length = m at hl hmin hV HW
  go_enter Tryz.func117, Tryz.ntmps117
  go_wp2_with fail
  refine HC.out.mono ?_; rintro e w1 ⟨v1, rfl, ho1, hb1⟩
  have HO1 := Lib.hid ho1
  clear ho1
  go_wp2_with fail
  go_loopw [5] (fun v wr => ∃ j : Nat, k ≤ j ∧ j ≤ n ∧ Hid (OwnB wr w.heap.size v (ys.take j)) ∧ Below w.heap.size w wr) (fun v _ => n - (lenOf v))
  case atStart => exact ⟨k, Nat.le_refl _, hkn, HO1, hb1⟩
  case round =>
    obtain ⟨j, hkj, hjn, HO, hb⟩ := hrel
    have hlj : (ys.take j).length = j := by rw [List.length_take, HGL.out]; omega
    obtain ⟨Aj, cj, rfl⟩ := HO.out.bl.shape
    have HO2 := Lib.hid HO.out
    rw [hlj] at HO HO2 ⊢
    by_cases hlt : j < n
    · have HT := Lib.hid (take_succ_bool (l := ys) (k := j) (by rw [HGL.out]; exact hlt))
      rw [HG.out j hkj hlt] at HT
      have HLJ := Lib.hid hlj
      have hbs := hb.size
      clear hlj
      obtain ⟨b1, h1⟩ : ∃ b1, decide (j % 8 = 0) = b1 := ⟨_, rfl⟩
      have hsj : stopAt j = (decide (0 < j) && b1) := by unfold stopAt; rw [h1]
      rw [hsj] at HT
      have g1 : (((j : Int) % 8) == 0) = b1 := by rw [← h1]; rw [Bool.eq_iff_iff, beq_iff_eq, decide_eq_true_eq]; omega
      clear h1 hsj
      cases b1
      · rw [Bool.and_false] at HT
        go_wp2_with (at_builtin; refine wp_append_bools rfl rfl w.heap.size _ (ys.take j) rfl (HO.out.alloc _) _ [false] rfl (Src.one wr _ _ _) (by rw [HLJ.out]; simp; omega) (by simp; omega) ?_; intro v1 w1 ho1 hg1 hat1)
        go_roundw
        case rel => exact ⟨j + 1, by omega, by omega, Lib.hid (by rw [HT.out]; exact ho1), below_own (hb.alloc hb.size _) hg1 (by simp; omega) (HO.out.alloc _)⟩
        case measure => rw [OwnB.lenOf_ ho1, List.length_append, HLJ.out]; simp [lenOf]; omega
      · rw [Bool.and_true] at HT
        by_cases h2 : 0 < j
        · rw [decide_eq_true h2] at HT
          go_wp2_with (at_builtin; refine wp_append_bools rfl rfl w.heap.size _ (ys.take j) rfl (HO.out.alloc _) _ [true] rfl (Src.one wr _ _ _) (by rw [HLJ.out]; simp; omega) (by simp; omega) ?_; intro v1 w1 ho1 hg1 hat1)
          go_roundw
          case rel => exact ⟨j + 1, by omega, by omega, Lib.hid (by rw [HT.out]; exact ho1), below_own (hb.alloc hb.size _) hg1 (by simp; omega) (HO.out.alloc _)⟩
          case measure => rw [OwnB.lenOf_ ho1, List.length_append, HLJ.out]; simp [lenOf]; omega
        · rw [decide_eq_false h2] at HT
          go_wp2_with (at_builtin; refine wp_append_bools rfl rfl w.heap.size _ (ys.take j) rfl (HO.out.alloc _) _ [false] rfl (Src.one wr _ _ _) (by rw [HLJ.out]; simp; omega) (by simp; omega) ?_; intro v1 w1 ho1 hg1 hat1)
          go_roundw
          case rel => exact ⟨j + 1, by omega, by omega, Lib.hid (by rw [HT.out]; exact ho1), below_own (hb.alloc hb.size _) hg1 (by simp; omega) (HO.out.alloc _)⟩
          case measure => rw [OwnB.lenOf_ ho1, List.length_append, HLJ.out]; simp [lenOf]; omega
    · have hjn' : j = n := by omega
      subst hjn'
      have HE : Hid (ys.take j = ys) := Lib.hid (List.take_of_length_le (by rw [HGL.out]; exact Nat.le_refl _))
      go_wp2_with fail
      go_ret
      have ho := HO2.out
      rw [HE.out] at ho
      exact ⟨_, rfl, ho, hb⟩
end Tab
end
end Go.Proofs.YtceaoadlhdgnmaaGreatDoor
