/- Slices that read as a list of values; appends behind a guard; what is read is read where only new blocks came. -/
import Derived.Test.YtkkpdfjbgiijlaaDoorBase
namespace Go.Proofs.YtkkpdfjbgiijlaaDoor
open Go.RowKit

/-- A slice that reads as a list, by its parts: nil let in. -/
theorem Src.form {w : World} {x : Value} {m : Nat} {news : List Value} (h : Src w x m news) : ∃ A c, x = .slice A m c ∧ ∀ k, k < m → ∃ ad, A = some ad ∧ w.cell? (ad.add k) = news[k]? := by
  rcases h with ⟨hl, ⟨rfl, h0⟩ | ⟨ad, c, rfl, hc⟩⟩
  · subst h0
    exact ⟨none, 0, rfl, fun k hk => absurd hk (by omega)⟩
  · refine ⟨some ad, c, rfl, fun k hk => ⟨ad, rfl, ?_⟩⟩
    have : news[k]? = some (news[k]'(by omega)) := List.getElem?_eq_getElem (by omega)
    rw [this]; exact hc k _ this
theorem Src.len {w : World} {x : Value} {m : Nat} {news : List Value} (h : Src w x m news) : news.length = m := h.1
theorem ints_get {l : List Int} {k : Nat} (h : k < l.length) : (ints l)[k]? = some (.int .i64 (l.getD k 0)) := by
  unfold ints; simp [h]
theorem eq_of_getD : ∀ {a b : List Int}, a.length = b.length → (∀ k, k < a.length → a.getD k 0 = b.getD k 0) → a = b
  | [], [], _, _ => rfl
  | x :: a, y :: b, hl, h => by
    have h0 : x = y := by simpa using h 0 (by simp)
    have : a = b := eq_of_getD (by simpa using hl) fun k hk => by simpa using h (k + 1) (by simpa using hk)
    rw [h0, this]
/-- Alike up to k. -/
def Alike (a b : List Int) (k : Nat) : Prop := ∀ j, j < k → a.getD j 0 = b.getD j 0

theorem Alike.succ {a b : List Int} {k : Nat} (h : Alike a b k) (e : a.getD k 0 = b.getD k 0) : Alike a b (k + 1) := by
  intro j hj
  by_cases hjk : j = k
  · subst hjk; exact e
  · exact h j (by omega)
theorem drewN_drewN (w : World) (a b : Nat) : (w.drewN a).drewN b = w.drewN (a + b) := World.drewN_drewN w a b

/-- append of numbers to numbers of the call's own, behind a guard that lets it by. -/
theorem wp_append_ints_if {w : World} {ops : Array Oper} {rest : List Oper} {o : Oper} {a : Act} {Q : Exit → Act → World → Prop} {s x : Operand} (hgd : Region.wanted o (yielded ops a.tmps) = true)
    (ho : o.op = .call { callee := .builtin .append, args := #[s, x], argTypes := #[27, 27] }) (base : Nat) (v : Value) (n : Nat) (xs : List Int) (hs : a.eval s = v) (hown : w.ownsRow base 3 1 v n (ints xs))
    (y : Value) (m : Nat) (news : List Int) (hy : a.eval x = y) (hx : Src w y m (ints news)) (hb : n + m ≤ 1000000000) (hbase : base ≤ w.heap.size)
    (h : ∀ v' w', w'.ownsRow base 3 1 v' (n + m) (ints (xs ++ news)) → w.grownBy w' v.ownBlock → (v'.ownBlock = v.ownBlock ∨ v'.ownBlock = some w.heap.size) → wpList Tryd.prog ops Q rest (a.put o.dst v') w') :
    wpList Tryd.prog ops Q (o :: rest) a w := by
  obtain ⟨i, hi, hz, h1, h8⟩ := Tryd.int_row
  refine wpList_step fun K hK => ?_
  rw [if_pos hgd]
  obtain ⟨v', w', hr, h2, h3, h4⟩ := run_append_src (P := Tryd.prog) w base 27 o.type 3 i _ 8 Tryd.underlying27 hi hz h1 h8 rfl v n (ints xs) hown y m (ints news) hx (ints_cells _) (by simp only [maxLen]; omega) (by omega) hbase
  unfold Oper.wp execOp
  simp only [ho, resolve, invoke, builtin, Sem.run_bind, Sem.run_pure, Result.andThen_ok, List.map_toArray, List.map_cons, List.map_nil, hs, hy, hr]
  exact hK _ _ (h v' w' (by rw [ints_append]; exact h2) h3 h4)
theorem own_drewN {w : World} {B e n : Nat} {v : Value} {xs : List Value} (h : w.ownsRow B e 1 v n xs) (q : Nat) : (w.drewN q).ownsRow B e 1 v n xs := h
theorem Src.drewN {w : World} {x : Value} {m : Nat} {news : List Value} (h : Src w x m news) (q : Nat) : Src (w.drewN q) x m news := h
theorem add_block (ad : Addr) (k : Nat) : (ad.add k).block = ad.block := by unfold Addr.add; split <;> rfl
/-- What was read is read, where only new blocks came. -/
theorem cell_kept {w w' : World} {p : Addr} {u : Value} (hb : Below w.heap.size w w') (h : w.cell? p = some u) : w'.cell? p = some u := by
  rw [hb.cell (World.block_lt_of_cell? w p h)]; exact h
theorem Src.kept {w w' : World} {x : Value} {m : Nat} {news : List Value} (h : Src w x m news) (hb : Below w.heap.size w w') : Src w' x m news := by
  refine ⟨h.1, ?_⟩
  rcases h.2 with h0 | ⟨ad, c, rfl, hc⟩
  · exact .inl h0
  · exact .inr ⟨ad, c, rfl, fun j u hu => cell_kept hb (hc j u hu)⟩
theorem take_succ_getD {l : List Int} {k : Nat} (h : k < l.length) : l.take (k + 1) = l.take k ++ [l.getD k 0] := by
  rw [List.take_succ_eq_append_getElem h]; simp [h]
/-- A slice literal just made. -/
theorem Src.made (w : World) (xs : List Value) (e : TypeId) (n c : Nat) (h : xs.length = n) : Src (w.alloc (.cells xs.toArray e)) (.slice (some ⟨w.heap.size, 0, none⟩) n c) n xs :=
  ⟨h, .inr ⟨_, _, rfl, fun j u hu => by
    have hb : (w.alloc (.cells xs.toArray e)).heap[w.heap.size]? = some (.cells xs.toArray e) := by
      show (w.heap.push _)[w.heap.size]? = _
      simp
    have ha : (⟨w.heap.size, 0, none⟩ : Addr).add j = ⟨w.heap.size, j, none⟩ := by
      unfold Addr.add
      by_cases h0 : j = 0
      · subst h0; rfl
      · simp [h0]
    rw [ha]
    simp only [World.cell?, hb]
    simpa using hu⟩⟩
theorem Src.made_at (w : World) (b : Nat) (xs : List Value) (cs : Array Value) (e : TypeId) (n c : Nat) (hb : b = w.heap.size) (hc : xs.toArray = cs) (h : xs.length = n) : Src (w.alloc (.cells cs e)) (.slice (some ⟨b, 0, none⟩) n c) n xs := by
  subst hb; subst hc; exact Src.made w xs e n c h
end Go.Proofs.YtkkpdfjbgiijlaaDoor
