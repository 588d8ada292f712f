/- Joined texts: Base, TabPlain, Runes, ScrPlain, PatPlain. -/
import Derived.Test.YtjcfbeiljdohcaaDoorJM2
import Derived.Test.YtjcfbeiljdohcaaDoorRows
import Derived.WalkKit
import Derived.Outline
import Derived.BigQuiet
import Derived.Deep.QuietTactic
import Derived.WalkSpells
import Derived.WalkLawsBesides
import Derived.Below
import Derived.OwnWalk
import Derived.Laws.OwnMore
import Derived.Deep.AppendLies
import Derived.Deep.Draws
import Derived.Maps.AppendAt
import Derived.RegionTactic
import Derived.Lib.Hide
import Derived.Handy
import Derived.Laws.BitsLemmas
import Derived.Laws.BytesString
import Derived.Laws.IdiomStrings
import Derived.Laws.RangeAny
import Derived.Laws.Runes
import Derived.LoopTactic
import Derived.Lib.OthersKept
import Derived.Lib.ValidU
namespace Go.Proofs.YtjcfbeiljdohcaaDoor
set_option maxRecDepth 100000
section
open Go.RowKit
theorem ret_int {k : IntKind} {a b : Int} (h : a = b) : Ending.returned (.int k a) = .returned (.int k b) := by rw [h]
theorem ret_bool {a b : Bool} (h : a = b) : Ending.returned (.bool a) = .returned (.bool b) := by rw [h]
theorem below_drewN {B : Nat} {u w : World} (hb : Below B u w) (q : Nat) : Below B u (w.drewN q) :=
  hb.trans ⟨rfl, rfl, rfl, Nat.le_refl _, fun _ _ => rfl⟩
theorem quiet_left {P : Program} {f : FuncId} {xs : Array Value} {w : World} {q : Nat} {u : Value} (h : Calls P f xs (w.drewN q) fun e w' => e = .returned u ∧ w.drewN q = w') :
    Calls P f xs (w.drewN q) fun e w' => e = .returned u ∧ ∃ m, w' = w.drewN m := by
  refine Calls.mono h ?_
  rintro e w' ⟨rfl, rfl⟩
  exact ⟨rfl, q, rfl⟩
theorem run_convert_byte1 {P : Program} (w : World) (src dst e : TypeId) (a : Addr) (cap : Nat) (b : UInt8) (hs : P.underlying src = some (.slice e)) (he : P.underlying e = some (.int .u8)) (hd : P.underlying dst = some .string)
    (hc : w.cell? a = some (.int .u8 (b.toNat : Int))) : (convert src dst (.slice (some a) 1 cap)).run P w = .ok (.string ⟨#[b]⟩) w :=
  run_convert_bytes_back w src dst e a cap [b] hs he hd (fun j hj => by
    obtain rfl : j = 0 := by simpa using hj
    have ha : a.add 0 = a := by simp [Addr.add]
    rw [ha]; simpa using hc)
theorem wraps_i64 (n : Int) (h₀ : 0 ≤ n) (h₁ : n < 2 ^ 62) : IntKind.i64.wrap n = n := by rw [IntKind.wrap_i64]; omega
theorem i64_and63 (x : Int) (h₀ : 0 ≤ x) (h₁ : x < 2 ^ 62) : bits .and .i64 x 63 = x % 64 := bits_mask .i64 62 (by decide) wraps_i64 6 (by decide) x h₀ h₁
theorem i64_and31 (x : Int) (h₀ : 0 ≤ x) (h₁ : x < 2 ^ 62) : bits .and .i64 x 31 = x % 32 := bits_mask .i64 62 (by decide) wraps_i64 5 (by decide) x h₀ h₁
theorem i64_and15 (x : Int) (h₀ : 0 ≤ x) (h₁ : x < 2 ^ 62) : bits .and .i64 x 15 = x % 16 := bits_mask .i64 62 (by decide) wraps_i64 4 (by decide) x h₀ h₁
theorem i64_and7 (x : Int) (h₀ : 0 ≤ x) (h₁ : x < 2 ^ 62) : bits .and .i64 x 7 = x % 8 := bits_mask .i64 62 (by decide) wraps_i64 3 (by decide) x h₀ h₁
theorem i64_or6 (x y : Int) (hx₀ : 0 ≤ x) (hx : x % 64 = 0) (hx₁ : x < 2 ^ 62) (h₀ : 0 ≤ y) (h₁ : y < 64) : bits .or .i64 x y = x + y :=
  bits_join .i64 62 (by decide) wraps_i64 6 x y hx₀ hx hx₁ h₀ h₁ (by omega)
def ints (l : List Int) : List Value := l.map (Value.int .i64)
theorem ints_nil : ints [] = [] := rfl
theorem ints_one (n : Int) : ints [n] = [.int .i64 n] := rfl
theorem ints_append (a b : List Int) : ints (a ++ b) = ints a ++ ints b := List.map_append
theorem ints_length (l : List Int) : (ints l).length = l.length := List.length_map _
theorem ints_cells (l : List Int) : ∀ u ∈ ints l, u.oneCell' = true := by
  intro u hu
  obtain ⟨_, _, rfl⟩ := List.mem_map.1 hu
  rfl
theorem owns_one (base : Nat) (W : World) (e : TypeId) (u : Value) (h : base ≤ W.heap.size) : (W.alloc (.cells #[u] e)).ownsRow base e 1 (.slice (some ⟨W.heap.size, 0, none⟩) 1 1) 1 [u] :=
  ⟨rfl, .inr ⟨W.heap.size, 1, #[u], rfl, h, heap_alloc_new W _, Nat.le_refl _, by simp [maxLen], rfl, rfl⟩⟩
def Src (w : World) (x : Value) (m : Nat) (news : List Value) : Prop :=
  news.length = m ∧ ((x = .slice none 0 0 ∧ m = 0) ∨ ∃ ad c, x = .slice (some ad) m c ∧ ∀ j u, news[j]? = some u → w.cell? (ad.add j) = some u)
theorem Src.own {w : World} {base : Nat} {e : TypeId} {v : Value} {n : Nat} {xs : List Value} (h : w.ownsRow base e 1 v n xs) : Src w v n xs := by
  refine ⟨by simpa using h.1, ?_⟩
  rcases h.2 with ⟨rfl, h0⟩ | ⟨g, cap, cur, rfl, _⟩
  · exact .inl ⟨rfl, h0⟩
  · exact .inr ⟨_, _, rfl, h.cells (g := g) rfl⟩
theorem Src.one (W : World) (u : Value) (e : TypeId) (c : Nat) : Src (W.alloc (.cells #[u] e)) (.slice (some ⟨W.heap.size, 0, none⟩) 1 c) 1 [u] :=
  ⟨rfl, .inr ⟨_, _, rfl, cell_one_new W u e⟩⟩
theorem run_append_src {P : Program} (w : World) (base : Nat) (t ty e : TypeId) (i : TypeInfo) (z : Value) (bytes : Nat) (ht : P.underlying t = some (.slice e)) (hi : P.info? e = some i) (hz : i.zero = some z)
    (hsize : i.size = 1) (hby : i.bytes = bytes) (hzs : z.cells.size = 1) (v : Value) (n : Nat) (xs : List Value) (hown : w.ownsRow base e 1 v n xs)
    (x : Value) (m : Nat) (news : List Value) (hx : Src w x m news) (h1 : ∀ u ∈ news, u.oneCell' = true) (h63 : n + m ≤ maxLen) (hbytes : (n + m) * bytes ≤ 140737488355328) (hbase : base ≤ w.heap.size) :
    ∃ v' w', (Builtin.append_ #[t, t] ty #[v, x]).run P w = .ok v' w' ∧ w'.ownsRow base e 1 v' (n + m) (xs ++ news) ∧ w.grownBy w' v.ownBlock ∧ (v'.ownBlock = v.ownBlock ∨ v'.ownBlock = some w.heap.size) := by
  rcases hx with ⟨hl, ⟨rfl, h0⟩ | ⟨ad, c, rfl, hc⟩⟩
  · have hn : news = [] := List.eq_nil_of_length_eq_zero (by omega)
    subst hn
    subst h0
    exact ⟨v, w, run_append_owned_none (P := P) (w := w) base t ty e i 1 ht hi v n xs hown, by simpa using hown, World.grownBy.refl w _, .inl rfl⟩
  · obtain ⟨v', w', hr, h2, h3, _, h5⟩ := run_append_own_at (P := P) w base t ty e i z 1 bytes ht hi hz hsize hby hzs (by omega) v n xs hown ad m c news (by simpa using hl) hc h1 h63 hbytes hbase
    exact ⟨v', w', hr, h2, h3, h5⟩
theorem wpList_append_src {P : Program} {w : World} {ops : Array Oper} {rest : List Oper} {o : Oper} {a : Act} {Q : Exit → Act → World → Prop} {s x : Operand} {t : TypeId} (hgd : o.guard = none)
    (ho : o.op = .call { callee := .builtin .append, args := #[s, x], argTypes := #[t, t] }) (base : Nat) (e : TypeId) (i : TypeInfo) (z : Value) (bytes : Nat) (ht : P.underlying t = some (.slice e)) (hi : P.info? e = some i) (hz : i.zero = some z)
    (hsize : i.size = 1) (hby : i.bytes = bytes) (hzs : z.cells.size = 1) (v : Value) (n : Nat) (xs : List Value) (hs : a.eval s = v) (hown : w.ownsRow base e 1 v n xs)
    (y : Value) (m : Nat) (news : List Value) (hy : a.eval x = y) (hx : Src w y m news) (h1 : ∀ u ∈ news, u.oneCell' = true) (h63 : n + m ≤ maxLen) (hbytes : (n + m) * bytes ≤ 140737488355328) (hbase : base ≤ w.heap.size)
    (h : ∀ v' w', w'.ownsRow base e 1 v' (n + m) (xs ++ news) → w.grownBy w' v.ownBlock → (v'.ownBlock = v.ownBlock ∨ v'.ownBlock = some w.heap.size) → wpList P ops Q rest (a.put o.dst v') w') :
    wpList P ops Q (o :: rest) a w := by
  refine wpList_plain hgd fun K hK => ?_
  obtain ⟨v', w', hr, h2, h3, h4⟩ := run_append_src (P := P) w base t o.type e i z bytes ht hi hz hsize hby hzs v n xs hown y m news hx h1 h63 hbytes hbase
  unfold Oper.wp execOp
  simp only [ho, resolve, invoke, builtin, Sem.run_bind, Sem.run_pure, Result.andThen_ok, List.map_toArray, List.map_cons, List.map_nil, hs, hy, hr]
  exact hK _ _ (h v' w' h2 h3 h4)
theorem Tryd.int_info : (Tryd.prog.info? 3).map (fun i => (i.zero, i.size, i.bytes)) = some (some (.int .i64 0), 1, 8) := by kernel_rfl
theorem Tryd.int_row : ∃ i : TypeInfo, Tryd.prog.info? 3 = some i ∧ i.zero = some (.int .i64 0) ∧ i.size = 1 ∧ i.bytes = 8 := by
  obtain ⟨i, h, h1, h2, h3⟩ := info_parts Tryd.int_info
  exact ⟨i, h, h1, h2, h3⟩
theorem wp_append_ints {w : World} {ops : Array Oper} {rest : List Oper} {o : Oper} {a : Act} {Q : Exit → Act → World → Prop} {s x : Operand} (hgd : o.guard = none)
    (ho : o.op = .call { callee := .builtin .append, args := #[s, x], argTypes := #[33, 33] }) (base : Nat) (v : Value) (n : Nat) (xs : List Int) (hs : a.eval s = v) (hown : w.ownsRow base 3 1 v n (ints xs))
    (y : Value) (m : Nat) (news : List Int) (hy : a.eval x = y) (hx : Src w y m (ints news)) (hb : n + m ≤ 1000000000) (hbase : base ≤ w.heap.size)
    (h : ∀ v' w', w'.ownsRow base 3 1 v' (n + m) (ints (xs ++ news)) → w.grownBy w' v.ownBlock → (v'.ownBlock = v.ownBlock ∨ v'.ownBlock = some w.heap.size) → wpList Tryd.prog ops Q rest (a.put o.dst v') w') :
    wpList Tryd.prog ops Q (o :: rest) a w := by
  obtain ⟨i, hi, hz, h1, h8⟩ := Tryd.int_row
  refine wpList_append_src hgd ho base 3 i _ 8 Tryd.underlying33 hi hz h1 h8 rfl v n (ints xs) hs hown y m (ints news) hy hx (ints_cells _) (by simp only [maxLen]; omega) (by omega) hbase fun v' w' h2 h3 h4 => ?_
  exact h v' w' (by rw [ints_append]; exact h2) h3 h4
theorem own_kept {w w' : World} {B : Nat} {v : Value} {n : Nat} {e : TypeId} {xs : List Value} (ho : w.ownsRow B e 1 v n xs) (hb : Below w.heap.size w w') : w'.ownsRow B e 1 v n xs :=
  ho.kept (row := none) ⟨hb.os, hb.tape, hb.output, hb.size, fun k hk _ => hb.block k hk⟩ (by cases v.ownBlock <;> simp)
theorem below_own {B : Nat} {a w w' : World} {v : Value} {n : Nat} {e : TypeId} {xs : List Value} (h : Below B a w) (hg : w.grownBy w' v.ownBlock) (hB : B ≤ w.heap.size) (ho : w.ownsRow B e 1 v n xs) : Below B a w' :=
  h.grown hg hB fun k hk => (ho.lt k hk).1
end
section
open Go.RowKit
namespace Tab
def bools (l : List Bool) : List Value := l.map Value.bool
theorem bools_length (l : List Bool) : (bools l).length = l.length := List.length_map _
theorem bools_append (a b : List Bool) : bools (a ++ b) = bools a ++ bools b := List.map_append
theorem bools_get {l : List Bool} {k : Nat} (h : k < l.length) : (bools l)[k]? = some (.bool (l.getD k false)) := by unfold bools; simp [h]
theorem bools_cells (l : List Bool) : ∀ u ∈ bools l, u.oneCell' = true := by
  intro u hu
  obtain ⟨_, _, rfl⟩ := List.mem_map.1 hu
  rfl
theorem take_succ_bool {l : List Bool} {k : Nat} (h : k < l.length) : l.take (k + 1) = l.take k ++ [l.getD k false] := by
  rw [List.take_succ_eq_append_getElem h]; simp [h]
theorem drop_bool {l : List Bool} {k : Nat} (h : k < l.length) : l.drop k = l.getD k false :: l.drop (k + 1) := by
  rw [List.drop_eq_getElem_cons h]; simp [h]
theorem eq_of_bools : ∀ {a b : List Bool}, a.length = b.length → (∀ k, k < a.length → a.getD k false = b.getD k false) → a = b
  | [], [], _, _ => rfl
  | x :: a, y :: b, hl, h => by
    have h0 : x = y := by simpa using h 0 (by simp)
    have : a = b := eq_of_bools (by simpa using hl) fun k hk => by simpa using h (k + 1) (by simpa using hk)
    rw [h0, this]
def nth : List Bool → Nat → Option Nat
  | [], _ => none
  | b :: r, n => if b then (if n = 1 then some 0 else (nth r (n - 1)).map (· + 1)) else (nth r n).map (· + 1)
def cnt : List Bool → Nat
  | [] => 0
  | b :: r => (if b then 1 else 0) + cnt r
def far : List Bool → Nat → Nat
  | [], _ => 0
  | _ :: _, 0 => 0
  | b :: r, n + 1 => 1 + far r (if b then n else n + 1)
def nextOf (l : List Bool) (at_ n : Nat) : Nat := at_ + far (l.drop (at_ + 1)) n
def backOf (l : List Bool) : Nat → Nat → Nat
  | 0, _ => 0
  | a + 1, 0 => a + 1
  | a + 1, n + 1 => backOf l a (if l.getD a false then n else n + 1)
theorem cnt_le : ∀ l : List Bool, cnt l ≤ l.length
  | [] => Nat.le_refl _
  | b :: r => by have := cnt_le r; simp only [cnt, List.length_cons]; split <;> omega
theorem cnt_snoc : ∀ (l : List Bool) (b : Bool), cnt (l ++ [b]) = cnt l + (if b then 1 else 0)
  | [], b => by simp [cnt]
  | x :: l, b => by rw [List.cons_append, cnt, cnt, cnt_snoc l b]; omega
theorem nth_none : ∀ (l : List Bool) (n : Nat), cnt l < n → nth l n = none
  | [], _, _ => rfl
  | b :: r, n, h => by
    simp only [cnt] at h
    cases b
    · simp only [nth]; rw [if_neg (by decide), nth_none r n (by simpa using h)]; rfl
    · simp only [nth]; simp only [if_true] at h ⊢; rw [if_neg (by omega), nth_none r (n - 1) (by omega)]; rfl
theorem nth_some : ∀ (l : List Bool) (n : Nat), 1 ≤ n → n ≤ cnt l → ∃ i, nth l n = some i ∧ i < l.length
  | [], n, h1, h2 => by simp only [cnt] at h2; omega
  | b :: r, n, h1, h2 => by
    simp only [cnt] at h2
    cases b
    · obtain ⟨i, hi, hl⟩ := nth_some r n h1 (by simpa using h2)
      exact ⟨i + 1, by simp only [nth]; rw [if_neg (by decide), hi]; rfl, by simp only [List.length_cons]; omega⟩
    · by_cases h : n = 1
      · exact ⟨0, by simp [nth, h], by simp⟩
      · simp only [if_true] at h2
        obtain ⟨i, hi, hl⟩ := nth_some r (n - 1) (by omega) (by omega)
        exact ⟨i + 1, by simp only [nth]; rw [if_pos trivial, if_neg h, hi]; rfl, by simp only [List.length_cons]; omega⟩
theorem far_nth : ∀ (l : List Bool) (n : Nat), 1 ≤ n → far l n = match nth l n with | some i => i + 1 | none => l.length
  | [], n, h => by simp [far, nth]
  | b :: r, n + 1, h => by
    simp only [far]
    cases b
    · rw [if_neg (by decide), far_nth r (n + 1) (by omega)]
      simp only [nth]
      rw [if_neg (by decide)]
      cases nth r (n + 1) with
      | none => show 1 + r.length = r.length + 1; omega
      | some i => show 1 + (i + 1) = i + 1 + 1; omega
    · rw [if_pos rfl]
      simp only [nth]
      rw [if_pos trivial]
      by_cases hn : n = 0
      · subst hn
        cases r <;> simp [far]
      · rw [if_neg (by omega), Nat.add_sub_cancel, far_nth r n (by omega)]
        cases nth r n with
        | none => show 1 + r.length = r.length + 1; omega
        | some i => show 1 + (i + 1) = i + 1 + 1; omega
theorem far_le : ∀ (l : List Bool) (n : Nat), far l n ≤ l.length
  | [], _ => Nat.le_refl _
  | _ :: _, 0 => Nat.zero_le _
  | b :: r, n + 1 => by have := far_le r (if b then n else n + 1); simp only [far, List.length_cons]; omega
theorem nth_snoc : ∀ (l : List Bool) (b : Bool) (n : Nat), 1 ≤ n → nth (l ++ [b]) n = match nth l n with | some i => some i | none => if b = true ∧ cnt l + 1 = n then some l.length else none
  | [], b, n, h => by
    cases b
    · simp [nth]
    · by_cases hn : n = 1
      · simp [nth, cnt, hn]
      · have : ¬ (0 + 1 = n) := by omega
        simp [nth, cnt, hn]; omega
  | x :: l, b, n, h => by
    rw [List.cons_append]
    simp only [nth, cnt]
    cases x
    · rw [if_neg (by decide), if_neg (by decide), nth_snoc l b n h]
      cases nth l n with
      | some i => rfl
      | none => simp only [Option.map_none, if_neg (show ¬ (false = true) by decide), Nat.zero_add]; split <;> simp
    · simp only [if_true]
      by_cases hn : n = 1
      · simp [hn]
      · rw [if_neg hn, if_neg hn, nth_snoc l b (n - 1) (by omega)]
        cases nth l (n - 1) with
        | some i => rfl
        | none =>
          simp only [Option.map_none]
          by_cases hb : b = true ∧ cnt l + 1 = n - 1
          · rw [if_pos hb, if_pos ⟨hb.1, by omega⟩]; simp
          · rw [if_neg hb, if_neg (fun e => hb ⟨e.1, by omega⟩)]; rfl
theorem backOf_nth (l : List Bool) : ∀ (a n : Nat), a ≤ l.length → 1 ≤ n → backOf l a n = if cnt (l.take a) < n then 0 else match nth (l.take a) (cnt (l.take a) + 1 - n) with | some i => i | none => 0
  | 0, n, ha, hn => by simp [backOf, cnt, show 0 < n from hn]
  | a + 1, n + 1, ha, hn => by
    rw [take_succ_bool (l := l) (k := a) (by omega), cnt_snoc]
    simp only [backOf]
    cases hb : l.getD a false
    · simp only [if_neg (show ¬ (false = true) by decide), Nat.add_zero]
      rw [backOf_nth l a (n + 1) (by omega) (by omega)]
      by_cases hc : cnt (l.take a) < n + 1
      · rw [if_pos hc, if_pos hc]
      · rw [if_neg hc, if_neg hc, nth_snoc _ _ _ (by omega)]
        obtain ⟨i, hi, _⟩ := nth_some (l.take a) (cnt (l.take a) + 1 - (n + 1)) (by omega) (by omega)
        rw [hi]
    · simp only [if_true]
      by_cases hn0 : n = 0
      · subst hn0
        rw [if_neg (by omega), nth_snoc _ _ _ (by omega), nth_none _ _ (by omega)]
        have hl : (l.take a).length = a := by rw [List.length_take]; omega
        simp only [Nat.zero_add, Nat.add_sub_cancel, and_self, if_true, hl]
        cases a <;> rfl
      · rw [backOf_nth l a n (by omega) (by omega)]
        by_cases hc : cnt (l.take a) < n
        · rw [if_pos hc, if_pos (by omega)]
        · rw [if_neg hc, if_neg (by omega), nth_snoc _ _ _ (by omega), show cnt (l.take a) + 1 + 1 - (n + 1) = cnt (l.take a) + 1 - n from by omega]
          obtain ⟨i, hi, _⟩ := nth_some (l.take a) (cnt (l.take a) + 1 - n) (by omega) (by omega)
          rw [hi]
theorem backOf_zero (l : List Bool) (a : Nat) : backOf l a 0 = a := by cases a <;> rfl
theorem far_zero (l : List Bool) : far l 0 = 0 := by cases l <;> rfl
theorem nextOf_zero (l : List Bool) (a : Nat) : nextOf l a 0 = a := by unfold nextOf; rw [far_zero]; omega
theorem nextOf_le {l : List Bool} {a n : Nat} (h : a < l.length) : nextOf l a n < l.length := by
  unfold nextOf
  have := far_le (l.drop (a + 1)) n
  rw [List.length_drop] at this; omega
theorem backOf_le (l : List Bool) : ∀ a n : Nat, backOf l a n ≤ a
  | 0, _ => Nat.le_refl _
  | a + 1, 0 => Nat.le_refl _
  | a + 1, n + 1 => by have := backOf_le l a (if l.getD a false then n else n + 1); simp only [backOf]; omega
theorem nextOf_one_last {l : List Bool} {a : Nat} (h : a + 1 = l.length) : nextOf l a 1 = a := by
  unfold nextOf; rw [List.drop_of_length_le (by omega)]; rfl
theorem far_one : ∀ r : List Bool, r ≠ [] → 1 ≤ far r 1
  | [], h => absurd rfl h
  | b :: r, _ => by simp only [far]; omega
theorem far_one_free : ∀ (r : List Bool) (k : Nat), k + 1 < far r 1 → r.getD k false = false
  | [], k, h => by simp
  | b :: r, k, h => by
    simp only [far, Nat.zero_add] at h
    cases b
    · cases k with
      | zero => rfl
      | succ k =>
        have h' : k + 1 < far r 1 := by simp at h; omega
        simpa using far_one_free r k h'
    · simp only [if_true, far_zero] at h; omega
theorem far_one_stop : ∀ (r : List Bool), far r 1 < r.length → r.getD (far r 1 - 1) false = true
  | [], h => by simp [far] at h
  | b :: r, h => by
    simp only [far, Nat.zero_add, List.length_cons] at h ⊢
    cases b
    · rw [if_neg (by decide)] at h ⊢
      have h1 := far_one_stop r (by omega)
      have hr : r ≠ [] := by rintro rfl; simp [far] at h
      have := far_one r hr
      rw [show 1 + far r 1 - 1 = far r 1 - 1 + 1 from by omega]
      simpa using h1
    · simp [far_zero]
def stopAt (i : Nat) : Bool := decide (0 < i) && decide (i % 8 = 0)
def grownOf (l : List Bool) (n : Nat) : List Bool := l.take n ++ (List.range' l.length (n - l.length)).map stopAt
theorem grownOf_length (l : List Bool) (n : Nat) : (grownOf l n).length = n := by
  unfold grownOf; rw [List.length_append, List.length_take, List.length_map, List.length_range']; omega
def mark (b : Bool) : UInt8 := if b then 124 else 46
def rul (l : List Bool) : List UInt8 := l.map mark
theorem rul_length (l : List Bool) : (rul l).length = l.length := List.length_map _
theorem rul_append (a b : List Bool) : rul (a ++ b) = rul a ++ rul b := List.map_append
end Tab
end
section
open Go.RowKit
namespace Utf
theorem dec_at (s : ByteArray) (pos : Nat) : Utf8.decode s pos = dec (s.data.toList.drop pos) := by
  rw [← Lib.decodeL_drop, Lib.decodeL_N]; rfl
theorem drop_ne {s : ByteArray} {pos : Nat} (h : pos < s.size) : s.data.toList.drop pos ≠ [] := by
  intro e
  have : (s.data.toList.drop pos).length = 0 := by rw [e]; rfl
  rw [List.length_drop] at this
  have : s.data.toList.length = s.size := rfl
  omega
theorem below_iter {B : Nat} {a w : World} (h : Below B a w) (hB : B ≤ w.heap.size) (s : ByteArray) (pos : Nat) : Below B a (w.iter s pos) := h.alloc hB _
theorem extract_list (s : ByteArray) (i j : Nat) : (s.extract i j).data.toList = (s.data.toList.take j).drop i := by
  rw [ByteArray.data_extract, Array.toList_extract]; simp [List.drop_take]
theorem own_moved {w : World} {B e n : Nat} {v : Value} {xs : List Value} {k : Nat} {s : ByteArray} {pos : Nat} (h : w.ownsRow B e 1 v n xs) (hk : w.heap[k]? = some (.stringIter s pos)) (q : Nat) : (w.iterAt k s q).ownsRow B e 1 v n xs := by
  refine ⟨h.1, ?_⟩
  rcases h.2 with h0 | ⟨g, cap, cur, hv, hb, hg, rest⟩
  · exact .inl h0
  · refine .inr ⟨g, cap, cur, hv, hb, ?_, rest⟩
    have hne : g ≠ k := by rintro rfl; rw [hk] at hg; cases hg
    rw [Lib.iterAt_other w k g s q hne]; exact hg
theorem take_more (l : List UInt8) (a b : Nat) : l.take (a + b) = l.take a ++ (l.drop a).take b := List.take_add
theorem own_len {l : List UInt8} (h : own l = true) : 3 ≤ l.length := by
  match l with
  | [] => simp [own] at h
  | [_] => simp [own] at h
  | [_, _] => simp [own] at h
  | _ :: _ :: _ :: _ => simp
theorem own_take {l : List UInt8} (h : 3 ≤ l.length) : own l = (l.take 3 == [239, 191, 189]) := by
  match l, h with
  | a :: b :: c :: r, _ =>
    show (a == 239 && (b == 191 && c == 189)) = ([a, b, c] == [239, 191, 189])
    simp
theorem dec_small (l : List UInt8) : (dec l).1 ≤ 1114111 := by
  rcases decodeN_cases l.length (l.getD 0 0).toNat (l.getD 1 0).toNat (l.getD 2 0).toNat (l.getD 3 0).toNat (byte_lt _) (byte_lt _) (byte_lt _) (byte_lt _) with e | ⟨h1, e⟩ | ⟨hn, h1, h2, e⟩ | ⟨hn, h1, h2, h3, e⟩ | ⟨hn, h1, h2, h3, h4, e⟩
  · unfold dec; rw [e]; decide
  · unfold dec; rw [e]; show _ ≤ _; simp only; omega
  · unfold dec; rw [e]; simp only; omega
  · unfold dec; rw [e]; simp only; omega
  · unfold dec; rw [e]; simp only
    have q := follows_iff.1 h2
    unfold more at h1
    unfold low high at q
    simp only [if_true] at q
    repeat' split at h1
    all_goals (repeat' split at q)
    all_goals omega
end Utf
end
section
namespace Scr
open Go.Proofs.YtjcfbeiljdohcaaDoor.Row Utf Wid
structure Cur where
  row : Int
  col : Int
  wrap : Bool
  a : Look
  g0 : Int
  g1 : Int
  shift : Int
  origin : Bool
structure S where
  main : Gr
  other : Gr
  swapped : Bool
  cur : Cur
  saved : Cur
  too : Cur
  top : Int
  bottom : Int
  tabs : List Bool
  modes : Int
  title : List UInt8
  last : Int
noncomputable def gridB (G : Gr) : Bool := @decide (GridOk G) (Classical.propDecidable _)
theorem gridB_iff (G : Gr) : gridB G = true ↔ GridOk G := by unfold gridB; exact @decide_eq_true_iff _ (Classical.propDecidable _)
def cursorB (c : Cur) (m n : Int) : Bool :=
  rng c.row 0 m && (rng c.col 0 n && ((!c.wrap || c.col == n) && (attrOk c.a && (rng c.g0 0 1 && (rng c.g1 0 1 && rng c.shift 0 1)))))
def titleB (t : List UInt8) : Bool := decide (t.length ≤ 64) && (Lib.validD t && t.all fun b => decide (32 ≤ b.toNat))
def marginsB (top bottom rows : Int) : Bool := if rows = 1 then top == 0 && bottom == 0 else decide (0 ≤ top) && (decide (top < bottom) && decide (bottom < rows))
def lastB (r : Int) : Bool := r == 0 || (wid r == 1 || wid r == 2)
noncomputable def okB (s : S) : Bool :=
  gridB s.main && (gridB s.other && (s.other.rows == s.main.rows && (s.other.cols == s.main.cols && (cursorB s.cur (s.main.rows - 1) (s.main.cols - 1) && (cursorB s.saved (s.main.rows - 1) (s.main.cols - 1) &&
    (cursorB s.too (s.main.rows - 1) (s.main.cols - 1) && (marginsB s.top s.bottom s.main.rows && ((s.tabs.length : Int) == s.main.cols && (rng s.modes 0 1023 && (titleB s.title && lastB s.last))))))))))
def plainN : Nat → List UInt8 → Bool
  | 0, _ => true
  | n + 1, l => if l = [] then true else decide (32 ≤ (dec l).1) && plainN n (l.drop (dec l).2)
theorem dec_plain {l : List UInt8} (h : l ≠ []) : (l.take (dec l).2).all (fun b => decide (32 ≤ b.toNat)) = decide (32 ≤ (dec l).1) := by
  rcases decodeN_cases l.length (l.getD 0 0).toNat (l.getD 1 0).toNat (l.getD 2 0).toNat (l.getD 3 0).toNat (byte_lt _) (byte_lt _) (byte_lt _) (byte_lt _) with e | ⟨h1, e⟩ | ⟨hn, h1, h2, e⟩ | ⟨hn, h1, h2, h3, e⟩ | ⟨hn, h1, h2, h3, h4, e⟩
  all_goals have e' : dec l = _ := e
  · match l, h with
    | a :: r, _ =>
      have ha : 128 ≤ a.toNat := by
        rcases Nat.lt_or_ge a.toNat 128 with q | q
        · exfalso
          have e2 : dec (a :: r) = (a.toNat, 1) := by
            unfold dec Lib.decodeN
            rw [if_pos (show ((a :: r).getD 0 0).toNat < 128 from q)]; rfl
          rw [e'] at e2
          have := congrArg Prod.fst e2
          simp only at this
          omega
        · exact q
      rw [e']
      simp only [List.take_succ_cons, List.take_zero, List.all_cons, List.all_nil, Bool.and_true]
      rw [decide_eq_true (show 32 ≤ a.toNat by omega)]; rfl
  · match l, h with
    | a :: r, _ =>
      rw [e']
      simp only [List.take_succ_cons, List.take_zero, List.all_cons, List.all_nil, Bool.and_true]
      rfl
  · match l, hn with
    | a :: b :: r, _ =>
      have q1 : 194 ≤ a.toNat ∧ a.toNat ≤ 244 := more_pos (b := a.toNat) (by have : more a.toNat = 1 := h1; omega)
      have q2 : 128 ≤ b.toNat ∧ b.toNat ≤ 191 := follows_pos h2
      have q3 : 194 ≤ a.toNat ∧ a.toNat ≤ 223 := by
        have hh : more a.toNat = 1 := h1
        unfold more at hh; repeat' split at hh
        all_goals omega
      rw [e']
      simp only [List.take_succ_cons, List.take_zero, List.all_cons, List.all_nil, Bool.and_true]
      rw [decide_eq_true (show 32 ≤ a.toNat by omega), decide_eq_true (show 32 ≤ b.toNat by omega)]
      symm
      show decide (32 ≤ a.toNat % 32 * 64 + b.toNat % 64) = true
      exact decide_eq_true (by omega)
  · match l, hn with
    | a :: b :: c :: r, _ =>
      have q2 : 128 ≤ b.toNat ∧ b.toNat ≤ 191 := follows_pos h2
      have q4 : 128 ≤ c.toNat ∧ c.toNat ≤ 191 := follows_pos h3
      have q3 : 224 ≤ a.toNat ∧ a.toNat ≤ 239 := by
        have hh : more a.toNat = 2 := h1
        unfold more at hh; repeat' split at hh
        all_goals omega
      have q5 : a.toNat = 224 → 160 ≤ b.toNat := by
        intro ea
        have := (follows_iff.1 h2).1
        unfold low at this
        rw [if_pos rfl, if_pos (show ((a :: b :: c :: r).getD 0 0).toNat = 224 from ea)] at this
        exact this
      rw [e']
      simp only [List.take_succ_cons, List.take_zero, List.all_cons, List.all_nil, Bool.and_true]
      rw [decide_eq_true (show 32 ≤ a.toNat by omega), decide_eq_true (show 32 ≤ b.toNat by omega), decide_eq_true (show 32 ≤ c.toNat by omega)]
      symm
      show decide (32 ≤ (a.toNat % 16 * 64 + b.toNat % 64) * 64 + c.toNat % 64) = true
      exact decide_eq_true (by omega)
  · match l, hn with
    | a :: b :: c :: d :: r, _ =>
      have q2 : 128 ≤ b.toNat ∧ b.toNat ≤ 191 := follows_pos h2
      have q4 : 128 ≤ c.toNat ∧ c.toNat ≤ 191 := follows_pos h3
      have q6 : 128 ≤ d.toNat ∧ d.toNat ≤ 191 := follows_pos h4
      have q3 : 240 ≤ a.toNat ∧ a.toNat ≤ 244 := by
        have hh : more a.toNat = 3 := h1
        unfold more at hh; repeat' split at hh
        all_goals omega
      have q5 : a.toNat = 240 → 144 ≤ b.toNat := by
        intro ea
        have := (follows_iff.1 h2).1
        unfold low at this
        rw [if_pos rfl, if_neg (show ¬ ((a :: b :: c :: d :: r).getD 0 0).toNat = 224 from fun q => by have : a.toNat = 224 := q; omega), if_pos (show ((a :: b :: c :: d :: r).getD 0 0).toNat = 240 from ea)] at this
        exact this
      rw [e']
      simp only [List.take_succ_cons, List.take_zero, List.all_cons, List.all_nil, Bool.and_true]
      rw [decide_eq_true (show 32 ≤ a.toNat by omega), decide_eq_true (show 32 ≤ b.toNat by omega), decide_eq_true (show 32 ≤ c.toNat by omega), decide_eq_true (show 32 ≤ d.toNat by omega)]
      symm
      show decide (32 ≤ ((a.toNat % 8 * 64 + b.toNat % 64) * 64 + c.toNat % 64) * 64 + d.toNat % 64) = true
      exact decide_eq_true (by omega)
theorem plain_iff : ∀ (n : Nat) (l : List UInt8), l.length ≤ n → plainN n l = l.all fun b => decide (32 ≤ b.toNat)
  | 0, l, h => by
    have : l = [] := List.eq_nil_of_length_eq_zero (by omega)
    subst this; rfl
  | n + 1, l, h => by
    by_cases hl : l = []
    · subst hl; rfl
    · have h1 := dec_pos hl
      simp only [plainN, if_neg hl]
      rw [plain_iff n _ (by rw [List.length_drop]; omega), ← dec_plain hl, ← List.all_append, List.take_append_drop]
def plain : Look := ⟨-1, -1, 0⟩
theorem plain_ok : attrOk plain = true := rfl
def first : Cur := ⟨0, 0, false, plain, 0, 0, 0, false⟩
def sizeB (r c : Int) : Bool := rng r 1 40 && rng c 1 40
theorem rng_iff {n lo hi : Int} : rng n lo hi = true ↔ lo ≤ n ∧ n ≤ hi := by unfold rng; rw [Bool.and_eq_true, decide_eq_true_eq, decide_eq_true_eq]
theorem sizeB_iff {r c : Int} : sizeB r c = true ↔ (1 ≤ r ∧ r ≤ 40) ∧ (1 ≤ c ∧ c ≤ 40) := by unfold sizeB; rw [Bool.and_eq_true, rng_iff, rng_iff]
def newG (r c : Nat) : Gr := ⟨r, c, (news r c plain).flatten⟩
def newS (r c : Nat) : S := ⟨newG r c, newG r c, false, first, first, first, 0, (r : Int) - 1, Tab.grownOf [] c, 9, [], 0⟩
def fitG (G : Gr) (r c : Nat) : Gr := ⟨r, c, (fitted (rowsOf G.cols.toNat G.rows.toNat G.cells) r c plain).flatten⟩
def fitC (k : Cur) (r c : Nat) : Cur := { k with row := min k.row ((r : Int) - 1), col := min k.col ((c : Int) - 1), wrap := false }
def resized (s : S) (r c : Nat) : S :=
  { s with main := fitG s.main r c, other := fitG s.other r c, cur := fitC s.cur r c, saved := fitC s.saved r c, too := fitC s.too r c, top := 0, bottom := (r : Int) - 1, tabs := Tab.grownOf s.tabs c }
def seenG (s : S) : Gr := if s.swapped then s.other else s.main
def noG : Gr := ⟨0, 0, []⟩
def noC : Cur := ⟨0, 0, false, ⟨0, 0, 0⟩, 0, 0, 0, false⟩
def noS : S := ⟨noG, noG, false, noC, noC, noC, 0, 0, [], 0, [], 0⟩
end Scr
end
section
namespace Pat
open Go.Proofs.YtjcfbeiljdohcaaDoor.Row Go.Proofs.YtjcfbeiljdohcaaDoor.Scr
structure Vw where
  g : Gr
  row : Int
  col : Int
  modes : Int
  title : List UInt8
structure Pt where
  rows : Int
  cols : Int
  all : Bool
  at_ : List Int
  cells : List Cl
  row : Int
  col : Int
  modes : Int
  title : List UInt8
noncomputable def viewB (v : Vw) : Bool := gridB v.g && (rng v.row 0 (v.g.rows - 1) && (rng v.col 0 (v.g.cols - 1) && (rng v.modes 0 1023 && titleB v.title)))
def riseB (R : Int) : Int → List Int → Bool
  | _, [] => true
  | lo, i :: l => decide (lo ≤ i) && (decide (i < R) && riseB R (i + 1) l)
noncomputable def rowB (l : List Cl) : Bool := @decide (RowOk l) (Classical.propDecidable _)
def hasR (p : Pt) : Int := if p.all then p.rows else p.at_.length
noncomputable def patchB (p : Pt) : Bool :=
  (rng p.rows 1 40 && rng p.cols 1 40) && (rng p.row 0 (p.rows - 1) && (rng p.col 0 (p.cols - 1) && (rng p.modes 0 1023 && (titleB p.title && ((!p.all || decide (p.at_.length = 0)) && (decide (hasR p ≤ p.rows) && (decide ((p.cells.length : Int) = hasR p * p.cols) &&
    (riseB p.rows 0 p.at_ && (List.range (hasR p).toNat).all fun i => rowB (Row.rowAt p.cells p.cols.toNat i)))))))))
def putR (rs : List (List Cl)) : List Nat → List (List Cl) → List (List Cl)
  | i :: l, r :: xs => putR (rs.set i r) l xs
  | _, _ => rs
theorem putR_length : ∀ (l : List Nat) (xs rs : List (List Cl)), (putR rs l xs).length = rs.length
  | [], _, _ => by simp [putR]
  | _ :: _, [], _ => by simp [putR]
  | i :: l, r :: xs, rs => by unfold putR; rw [putR_length l xs, List.length_set]
theorem putR_get (f : Nat → List Cl) : ∀ (l : List Nat) (rs : List (List Cl)) (_ : ∀ i ∈ l, i < rs.length) (j : Nat), rowOf (putR rs l (l.map f)) j = if j ∈ l then f j else rowOf rs j
  | [], rs, _, j => by simp [putR]
  | i :: l, rs, h, j => by
    have h1 : i < rs.length := h i (List.mem_cons_self ..)
    show rowOf (putR (rs.set i (f i)) l (l.map f)) j = _
    rw [putR_get f l (rs.set i (f i)) (fun k hk => by rw [List.length_set]; exact h k (List.mem_cons_of_mem _ hk)) j]
    by_cases e : j ∈ l
    · rw [if_pos e, if_pos (List.mem_cons_of_mem _ e)]
    · rw [if_neg e]
      by_cases e2 : j = i
      · subst e2
        rw [if_pos (List.mem_cons_self ..), rowOf_set_same h1]
      · rw [if_neg (by rw [List.mem_cons]; rintro (q | q); exact e2 q; exact e q), rowOf_set_ne (fun q => e2 q.symm)]
noncomputable def diff (a b : List (List Cl)) : List Nat := (List.range b.length).filter fun i => @decide (rowOf a i ≠ rowOf b i) (Classical.propDecidable _)
theorem diff_mem (a b : List (List Cl)) (i : Nat) : i ∈ diff a b ↔ i < b.length ∧ rowOf a i ≠ rowOf b i := by
  unfold diff
  rw [List.mem_filter, List.mem_range, @decide_eq_true_iff _ (Classical.propDecidable _)]
theorem put_diff {a b : List (List Cl)} (h : a.length = b.length) : putR a (diff a b) ((diff a b).map (rowOf b)) = b := by
  have hm : ∀ i ∈ diff a b, i < a.length := fun i hi => by rw [h]; exact ((diff_mem a b i).1 hi).1
  refine rows_ext (by rw [putR_length, h]) fun j hj => ?_
  rw [putR_length] at hj
  rw [putR_get (rowOf b) _ a hm j]
  split
  · rfl
  · rename_i e
    rw [diff_mem] at e
    by_cases q : rowOf a j = rowOf b j
    · exact q
    · exact absurd ⟨by omega, q⟩ e
def joined (R : Nat) (l m : List Nat) : List Nat := (List.range R).filter fun i => decide (i ∈ l ∨ i ∈ m)
theorem joined_mem (R : Nat) (l m : List Nat) (i : Nat) : i ∈ joined R l m ↔ i < R ∧ (i ∈ l ∨ i ∈ m) := by
  unfold joined; rw [List.mem_filter, List.mem_range, decide_eq_true_eq]
theorem put_joined (f h : Nat → List Cl) {rs : List (List Cl)} {l m : List Nat} (hl : ∀ i ∈ l, i < rs.length) (hm : ∀ i ∈ m, i < rs.length) :
    putR rs (joined rs.length l m) ((joined rs.length l m).map fun i => if i ∈ m then h i else f i) = putR (putR rs l (l.map f)) m (m.map h) := by
  have hj : ∀ i ∈ joined rs.length l m, i < rs.length := fun i hi => ((joined_mem _ l m i).1 hi).1
  refine rows_ext (by rw [putR_length, putR_length, putR_length]) fun j hlt => ?_
  rw [putR_length] at hlt
  rw [putR_get _ _ rs hj j, putR_get h m _ (fun i hi => by rw [putR_length]; exact hm i hi) j, putR_get f l rs hl j]
  have hj2 := joined_mem rs.length l m j
  by_cases e : j ∈ m
  · simp [hj2, e, hlt]
  · by_cases e2 : j ∈ l
    · simp [hj2, e, e2, hlt]
    · simp [hj2, e, e2]
end Pat
end
end Go.Proofs.YtjcfbeiljdohcaaDoor
