/- Contracts of what the statements share on slices of numbers: equal, copied. -/
import Derived.Test.YthoakfnilacmnaaDoorBase
namespace Go.Proofs.YthoakfnilacmnaaDoor
open Go.RowKit

/-- A slice that reads as a list, by its parts: nil let in. -/
theorem Src.form {w : World} {x : Value} {m : Nat} {news : List Value} (h : Src w x m news) : ∃ A c, x = .slice A m c ∧ ∀ k, k < m → ∃ ad, A = some ad ∧ w.cell? (ad.add k) = news[k]? := by
  rcases h with ⟨hl, ⟨rfl, h0⟩ | ⟨ad, c, rfl, hc⟩⟩
  · subst h0
    exact ⟨none, 0, rfl, fun k hk => absurd hk (by omega)⟩
  · refine ⟨some ad, c, rfl, fun k hk => ⟨ad, rfl, ?_⟩⟩
    have : news[k]? = some (news[k]'(by omega)) := List.getElem?_eq_getElem (by omega)
    rw [this]; exact hc k _ this
theorem Src.len {w : World} {x : Value} {m : Nat} {news : List Value} (h : Src w x m news) : news.length = m := h.1
theorem ints_get {l : List Int} {k : Nat} (h : k < l.length) : (ints l)[k]? = some (.int .i64 (l.getD k 0)) := by
  unfold ints; simp [h]
theorem eq_of_getD : ∀ {a b : List Int}, a.length = b.length → (∀ k, k < a.length → a.getD k 0 = b.getD k 0) → a = b
  | [], [], _, _ => rfl
  | x :: a, y :: b, hl, h => by
    have h0 : x = y := by simpa using h 0 (by simp)
    have : a = b := eq_of_getD (by simpa using hl) fun k hk => by simpa using h (k + 1) (by simpa using hk)
    rw [h0, this]
/-- Alike up to k. -/
def Alike (a b : List Int) (k : Nat) : Prop := ∀ j, j < k → a.getD j 0 = b.getD j 0

theorem Alike.succ {a b : List Int} {k : Nat} (h : Alike a b k) (e : a.getD k 0 = b.getD k 0) : Alike a b (k + 1) := by
  intro j hj
  by_cases hjk : j = k
  · subst hjk; exact e
  · exact h j (by omega)
theorem drewN_drewN (w : World) (a b : Nat) : (w.drewN a).drewN b = w.drewN (a + b) := World.drewN_drewN w a b

set_option maxHeartbeats 400000 in
theorem eqNumbers_any {u v : Value} (n m : Nat) (xs ys : List Int) (w : World) (hx : Src w u n (ints xs)) (hy : Src w v m (ints ys)) (hn : n ≤ 1000000000) (hm : m ≤ 1000000000) :
    Calls Tryd.prog 12 #[u, v] w fun e w' => e = .returned (.bool (decide (xs = ys))) ∧ ∃ q, w' = w.drewN q := by
  have lx : xs.length = n := by have := hx.len; rwa [ints_length] at this
  have ly : ys.length = m := by have := hy.len; rwa [ints_length] at this
  obtain ⟨A, c, rfl, ha⟩ := hx.form
  obtain ⟨A', c', rfl, hb⟩ := hy.form
  by_cases hnm : n = m
  · subst hnm
    have ha' := Lib.hid ha
    have hb' := Lib.hid hb
    have lx' := Lib.hid lx
    have ly' := Lib.hid ly
    clear ha hb hx hy lx ly
    go_enter Tryd.func12, Tryd.ntmps12
    go_wp2_with fail
    go_loopw [5] (fun i wr => ∃ k q : Nat, k ≤ n ∧ i = .int .i64 k ∧ Alike xs ys k ∧ wr = w.drewN q) (fun i _ => n - (intOf i).toNat)
    case atStart => exact ⟨0, 0, by omega, rfl, fun j h => by omega, rfl⟩
    case round =>
      obtain ⟨k, q, hk, rfl, hal, rfl⟩ := hrel
      by_cases hlt : k < n
      · obtain ⟨ad, rfl, h1⟩ := ha'.out k hlt
        obtain ⟨ad', rfl, h2⟩ := hb'.out k hlt
        rw [ints_get (by rw [lx'.out]; exact hlt)] at h1
        rw [ints_get (by rw [ly'.out]; exact hlt)] at h2
        by_cases he : xs.getD k 0 = ys.getD k 0
        · have HA := Lib.hid (hal.succ he)
          rw [← he] at h2
          clear he
          generalize xs.getD k 0 = p at h1 h2
          go_wp2_with fail
          go_quiet (fail)
          go_wp2_with fail
          go_roundw
          case rel => exact ⟨k + 1, _, by omega, by go_num, HA.out, rfl⟩
          case measure => simp [intOf]; omega
        · have HF : Hid (decide (xs = ys) = false) := Lib.hid (decide_eq_false fun e => he (by rw [e]))
          have hb1 : (xs.getD k 0 != ys.getD k 0) = true := by rw [bne_iff_ne]; exact he
          clear he
          generalize xs.getD k 0 = p at h1 hb1
          generalize ys.getD k 0 = p' at h2 hb1
          go_wp2_with fail
          go_quiet (fail)
          go_wp2_with fail
          go_ret
          exact ⟨ret_bool HF.out.symm, _, World.drewN_drewN _ _ _⟩
      · have HF : Hid (decide (xs = ys) = true) := Lib.hid (decide_eq_true (eq_of_getD (by rw [lx'.out, ly'.out]) fun j hj => hal j (by have := lx'.out; omega)))
        go_wp2_with fail
        go_ret
        exact ⟨ret_bool HF.out.symm, _, rfl⟩
  · have hb1 : ((n : Int) != (m : Int)) = true := by rw [bne_iff_ne]; omega
    have HF : Hid (decide (xs = ys) = false) := Lib.hid (decide_eq_false fun e => by subst e; omega)
    clear ha hb hx hy lx ly hnm
    go_enter Tryd.func12, Tryd.ntmps12
    go_wp2_with fail
    go_ret
    exact ⟨ret_bool HF.out.symm, 0, rfl⟩

theorem eqNumbers_same {u v : Value} (n m : Nat) (xs ys : List Int) (w : World) (hx : Src w u n (ints xs)) (hy : Src w v m (ints ys)) (he : xs = ys) (hn : n ≤ 1000000000) :
    Calls Tryd.prog 12 #[u, v] w fun e w' => e = .returned (.bool true) ∧ ∃ q, w' = w.drewN q := by
  have hm : m ≤ 1000000000 := by
    have h1 := hx.1; have h2 := hy.1
    rw [ints_length] at h1 h2
    subst he; omega
  refine (eqNumbers_any n m xs ys w hx hy hn hm).mono fun e w' h => ⟨by rw [h.1]; simp [he], h.2⟩

/-- append of numbers to numbers of the call's own, behind a guard that lets it by. -/
theorem wp_append_ints_if {w : World} {ops : Array Oper} {rest : List Oper} {o : Oper} {a : Act} {Q : Exit → Act → World → Prop} {s x : Operand} (hgd : Region.wanted o (yielded ops a.tmps) = true)
    (ho : o.op = .call { callee := .builtin .append, args := #[s, x], argTypes := #[27, 27] }) (base : Nat) (v : Value) (n : Nat) (xs : List Int) (hs : a.eval s = v) (hown : w.ownsRow base 3 1 v n (ints xs))
    (y : Value) (m : Nat) (news : List Int) (hy : a.eval x = y) (hx : Src w y m (ints news)) (hb : n + m ≤ 1000000000) (hbase : base ≤ w.heap.size)
    (h : ∀ v' w', w'.ownsRow base 3 1 v' (n + m) (ints (xs ++ news)) → w.grownBy w' v.ownBlock → (v'.ownBlock = v.ownBlock ∨ v'.ownBlock = some w.heap.size) → wpList Tryd.prog ops Q rest (a.put o.dst v') w') :
    wpList Tryd.prog ops Q (o :: rest) a w := by
  obtain ⟨i, hi, hz, h1, h8⟩ := Tryd.int_row
  refine wpList_step fun K hK => ?_
  rw [if_pos hgd]
  obtain ⟨v', w', hr, h2, h3, h4⟩ := run_append_src (P := Tryd.prog) w base 27 o.type 3 i _ 8 Tryd.underlying27 hi hz h1 h8 rfl v n (ints xs) hown y m (ints news) hx (ints_cells _) (by simp only [maxLen]; omega) (by omega) hbase
  unfold Oper.wp execOp
  simp only [ho, resolve, invoke, builtin, Sem.run_bind, Sem.run_pure, Result.andThen_ok, List.map_toArray, List.map_cons, List.map_nil, hs, hy, hr]
  exact hK _ _ (h v' w' (by rw [ints_append]; exact h2) h3 h4)
theorem own_drewN {w : World} {B e n : Nat} {v : Value} {xs : List Value} (h : w.ownsRow B e 1 v n xs) (q : Nat) : (w.drewN q).ownsRow B e 1 v n xs := h
theorem Src.drewN {w : World} {x : Value} {m : Nat} {news : List Value} (h : Src w x m news) (q : Nat) : Src (w.drewN q) x m news := h
theorem add_block (ad : Addr) (k : Nat) : (ad.add k).block = ad.block := by unfold Addr.add; split <;> rfl
/-- What was read is read, where only new blocks came. -/
theorem cell_kept {w w' : World} {p : Addr} {u : Value} (hb : Below w.heap.size w w') (h : w.cell? p = some u) : w'.cell? p = some u := by
  rw [hb.cell (World.block_lt_of_cell? w p h)]; exact h
theorem Src.kept {w w' : World} {x : Value} {m : Nat} {news : List Value} (h : Src w x m news) (hb : Below w.heap.size w w') : Src w' x m news := by
  refine ⟨h.1, ?_⟩
  rcases h.2 with h0 | ⟨ad, c, rfl, hc⟩
  · exact .inl h0
  · exact .inr ⟨ad, c, rfl, fun j u hu => cell_kept hb (hc j u hu)⟩
theorem take_succ_getD {l : List Int} {k : Nat} (h : k < l.length) : l.take (k + 1) = l.take k ++ [l.getD k 0] := by
  rw [List.take_succ_eq_append_getElem h]; simp [h]

set_option maxHeartbeats 400000 in
theorem copyNumbers_any {u : Value} (n : Nat) (xs : List Int) (w : World) (hx : Src w u n (ints xs)) (hn : n ≤ 1000000000) :
    Calls Tryd.prog 19 #[u] w fun e w' => ∃ v, e = .returned v ∧ w'.ownsRow w.heap.size 3 1 v n (ints xs) ∧ Below w.heap.size w w' := by
  have lx : xs.length = n := by have := hx.len; rwa [ints_length] at this
  obtain ⟨A, c, rfl, ha⟩ := hx.form
  have ha' := Lib.hid ha
  have lx' := Lib.hid lx
  clear ha hx lx
  go_enter Tryd.func19, Tryd.ntmps19
  go_wp2_with fail
  go_loopw [3, 4] (fun v i wr => ∃ k : Nat, k ≤ n ∧ i = .int .i64 k ∧ wr.ownsRow w.heap.size 3 1 v k (ints (xs.take k)) ∧ Below w.heap.size w wr) (fun _ i _ => n - (intOf i).toNat)
  case atStart => exact ⟨0, by omega, rfl, World.ownsRow_nil _ _ _ _, Below.refl _ _⟩
  case round =>
    obtain ⟨k, hk, rfl, hown, hbl⟩ := hrel
    by_cases hlt : k < n
    · obtain ⟨ad, rfl, h1⟩ := ha'.out k hlt
      rw [ints_get (by rw [lx'.out]; exact hlt)] at h1
      have h1 := cell_kept hbl h1
      have HT := Lib.hid (take_succ_getD (l := xs) (k := k) (by rw [lx'.out]; exact hlt))
      generalize xs.getD k 0 = p at h1 HT
      go_wp2_with (at_builtin; refine wp_append_ints rfl rfl w.heap.size _ k (xs.take k) rfl (hown.alloc _) _ 1 [p] rfl (Src.one wr _ _ _) (by omega) (by simp; have := hbl.size; omega) ?_; intro v1 w1 ho1 hg1 hat1)
      go_roundw
      case rel => exact ⟨k + 1, by omega, by go_num, by rw [HT.out]; exact ho1, below_own (hbl.alloc hbl.size _) hg1 (by simp; have := hbl.size; omega) (hown.alloc _)⟩
      case measure => simp [intOf]; omega
    · have hkn : k = n := by omega
      subst hkn
      have HE : Hid (xs.take k = xs) := Lib.hid (List.take_of_length_le (by have := lx'.out; omega))
      go_wp2_with fail
      go_ret
      rw [HE.out] at hown
      exact ⟨_, rfl, hown, hbl⟩

set_option maxHeartbeats 400000 in
/-- Written over. -/
theorem numbers_any {u : Value} {base : Nat} (n : Nat) (xs : List Value) (w : World) (hx : w.ownsRow base 3 1 u n xs) (hn : n ≤ 1000000000) :
    Calls Tryd.prog 18 #[u] w fun e w' => e = .returned (.tuple #[]) ∧ Below base w w' := by
  have hv : u = .slice none 0 0 ∧ n = 0 ∨ ∃ g cap, u = .slice (some ⟨g, 0, none⟩) n cap ∧ base ≤ g := by
    rcases hx.2 with h0 | ⟨g, cap, cur, h0, hb, _⟩
    · exact .inl h0
    · exact .inr ⟨g, cap, h0, hb⟩
  rcases hv with ⟨rfl, h0⟩ | ⟨g, cap, rfl, hbase⟩
  · subst h0
    clear hx
    go_enter Tryd.func18, Tryd.ntmps18
    go_wp2_with fail
    go_rounds 1
    go_end0
    exact ⟨rfl, Below.refl _ _⟩
  · go_enter Tryd.func18, Tryd.ntmps18
    go_wp2_with fail
    go_loopw [2] (fun i wr => ∃ (k : Nat) (ys : List Value), k ≤ n ∧ i = .int .i64 k ∧ wr.ownsRow base 3 1 (.slice (some ⟨g, 0, none⟩) n cap) n ys ∧ Below base w wr) (fun i _ => n - (intOf i).toNat)
    case atStart => exact ⟨0, xs, by omega, rfl, hx, Below.refl _ _⟩
    case round =>
      obtain ⟨k, ys, hk, rfl, hown, hbl⟩ := hrel
      by_cases hlt : k < n
      · have hys : ys[k]? = some (ys[k]'(by have := hown.1; omega)) := List.getElem?_eq_getElem (by have := hown.1; omega)
        have hc := hown.cellAt k (by omega)
        rw [hys] at hc
        have hf := hown.frozenAt k
        have hst := hown.stored k (.int .i64 (-99))
        clear hys
        generalize ys[k]'(by have := hown.1; omega) = u0 at hc
        go_wp2_with fail
        go_roundw
        case rel => exact ⟨k + 1, _, by omega, by go_num, hst.1, hbl.setCell hbase _⟩
        case measure => simp [intOf]; omega
      · go_wp2_with fail
        go_end0
        exact ⟨rfl, hbl⟩
end Go.Proofs.YthoakfnilacmnaaDoor
