/- Contracts of what the statements share on slices of numbers: equal, copied, written over. -/
import Derived.Test.YtabplmhmanbmjaaSrc
namespace Go.Proofs.Ytabplmhmanbmjaa
set_option maxRecDepth 100000
open Go.RowKit

set_option maxHeartbeats 400000 in
theorem eqNumbers_any {u v : Value} (n m : Nat) (xs ys : List Int) (w : World) (hx : Src w u n (ints xs)) (hy : Src w v m (ints ys)) (hn : n ≤ 1000000000) (hm : m ≤ 1000000000) :
    Calls Try.prog 12 #[u, v] w fun e w' => e = .returned (.bool (decide (xs = ys))) ∧ ∃ q, w' = w.drewN q := by
  have lx : xs.length = n := by have := hx.len; rwa [ints_length] at this
  have ly : ys.length = m := by have := hy.len; rwa [ints_length] at this
  obtain ⟨A, c, rfl, ha⟩ := hx.form
  obtain ⟨A', c', rfl, hb⟩ := hy.form
  by_cases hnm : n = m
  · subst hnm
    have ha' := Lib.hid ha
    have hb' := Lib.hid hb
    have lx' := Lib.hid lx
    have ly' := Lib.hid ly
    clear ha hb hx hy lx ly
    go_enter Try.func12, Try.ntmps12
    go_wp2_with fail
    go_loopw [5] (fun i wr => ∃ k q : Nat, k ≤ n ∧ i = .int .i64 k ∧ Alike xs ys k ∧ wr = w.drewN q) (fun i _ => n - (intOf i).toNat)
    case atStart => exact ⟨0, 0, by omega, rfl, fun j h => by omega, rfl⟩
    case round =>
      obtain ⟨k, q, hk, rfl, hal, rfl⟩ := hrel
      by_cases hlt : k < n
      · obtain ⟨ad, rfl, h1⟩ := ha'.out k hlt
        obtain ⟨ad', rfl, h2⟩ := hb'.out k hlt
        rw [ints_get (by rw [lx'.out]; exact hlt)] at h1
        rw [ints_get (by rw [ly'.out]; exact hlt)] at h2
        by_cases he : xs.getD k 0 = ys.getD k 0
        · have HA := Lib.hid (hal.succ he)
          rw [← he] at h2
          clear he
          generalize xs.getD k 0 = p at h1 h2
          go_wp2_with fail
          go_quiet (fail)
          go_wp2_with fail
          go_roundw
          case rel => exact ⟨k + 1, _, by omega, by go_num, HA.out, rfl⟩
          case measure => simp [intOf]; omega
        · have HF : Hid (decide (xs = ys) = false) := Lib.hid (decide_eq_false fun e => he (by rw [e]))
          have hb1 : (xs.getD k 0 != ys.getD k 0) = true := by rw [bne_iff_ne]; exact he
          clear he
          generalize xs.getD k 0 = p at h1 hb1
          generalize ys.getD k 0 = p' at h2 hb1
          go_wp2_with fail
          go_quiet (fail)
          go_wp2_with fail
          go_ret
          exact ⟨ret_bool HF.out.symm, _, World.drewN_drewN _ _ _⟩
      · have HF : Hid (decide (xs = ys) = true) := Lib.hid (decide_eq_true (eq_of_getD (by rw [lx'.out, ly'.out]) fun j hj => hal j (by have := lx'.out; omega)))
        go_wp2_with fail
        go_ret
        exact ⟨ret_bool HF.out.symm, _, rfl⟩
  · have hb1 : ((n : Int) != (m : Int)) = true := by rw [bne_iff_ne]; omega
    have HF : Hid (decide (xs = ys) = false) := Lib.hid (decide_eq_false fun e => by subst e; omega)
    clear ha hb hx hy lx ly hnm
    go_enter Try.func12, Try.ntmps12
    go_wp2_with fail
    go_ret
    exact ⟨ret_bool HF.out.symm, 0, rfl⟩

theorem eqNumbers_same {u v : Value} (n m : Nat) (xs ys : List Int) (w : World) (hx : Src w u n (ints xs)) (hy : Src w v m (ints ys)) (he : xs = ys) (hn : n ≤ 1000000000) :
    Calls Try.prog 12 #[u, v] w fun e w' => e = .returned (.bool true) ∧ ∃ q, w' = w.drewN q := by
  have hm : m ≤ 1000000000 := by
    have h1 := hx.1; have h2 := hy.1
    rw [ints_length] at h1 h2
    subst he; omega
  refine (eqNumbers_any n m xs ys w hx hy hn hm).mono fun e w' h => ⟨by rw [h.1]; simp [he], h.2⟩

set_option maxHeartbeats 400000 in
theorem copyNumbers_any {u : Value} (n : Nat) (xs : List Int) (w : World) (hx : Src w u n (ints xs)) (hn : n ≤ 1000000000) :
    Calls Try.prog 14 #[u] w fun e w' => ∃ v, e = .returned v ∧ w'.ownsRow w.heap.size 3 1 v n (ints xs) ∧ Below w.heap.size w w' := by
  have lx : xs.length = n := by have := hx.len; rwa [ints_length] at this
  obtain ⟨A, c, rfl, ha⟩ := hx.form
  have ha' := Lib.hid ha
  have lx' := Lib.hid lx
  clear ha hx lx
  go_enter Try.func14, Try.ntmps14
  go_wp2_with fail
  go_loopw [3, 4] (fun v i wr => ∃ k : Nat, k ≤ n ∧ i = .int .i64 k ∧ wr.ownsRow w.heap.size 3 1 v k (ints (xs.take k)) ∧ Below w.heap.size w wr) (fun _ i _ => n - (intOf i).toNat)
  case atStart => exact ⟨0, by omega, rfl, World.ownsRow_nil _ _ _ _, Below.refl _ _⟩
  case round =>
    obtain ⟨k, hk, rfl, hown, hbl⟩ := hrel
    by_cases hlt : k < n
    · obtain ⟨ad, rfl, h1⟩ := ha'.out k hlt
      rw [ints_get (by rw [lx'.out]; exact hlt)] at h1
      have h1 := cell_kept hbl h1
      have HT := Lib.hid (take_succ_getD (l := xs) (k := k) (by rw [lx'.out]; exact hlt))
      generalize xs.getD k 0 = p at h1 HT
      go_wp2_with (at_builtin; refine wp_append_ints rfl rfl w.heap.size _ k (xs.take k) rfl (hown.alloc _) _ 1 [p] rfl (Src.one wr _ _ _) (by omega) (by simp; have := hbl.size; omega) ?_; intro v1 w1 ho1 hg1 hat1)
      go_roundw
      case rel => exact ⟨k + 1, by omega, by go_num, by rw [HT.out]; exact ho1, below_own (hbl.alloc hbl.size _) hg1 (by simp; have := hbl.size; omega) (hown.alloc _)⟩
      case measure => simp [intOf]; omega
    · have hkn : k = n := by omega
      subst hkn
      have HE : Hid (xs.take k = xs) := Lib.hid (List.take_of_length_le (by have := lx'.out; omega))
      go_wp2_with fail
      go_ret
      rw [HE.out] at hown
      exact ⟨_, rfl, hown, hbl⟩

/-- Blocks keep their shapes: whatever was written, a row of cells is one of as many. -/
def Shapes (w w' : World) : Prop := ∀ (k : Nat) (cs : Array Value) (t : TypeId) (fr : Nat × Nat), w.heap[k]? = some (.cells cs t fr) → ∃ cs', w'.heap[k]? = some (.cells cs' t fr) ∧ cs'.size = cs.size
theorem Shapes.refl (w : World) : Shapes w w := fun _ cs _ _ h => ⟨cs, h, rfl⟩
theorem Shapes.trans {a b c : World} (h : Shapes a b) (k : Shapes b c) : Shapes a c := fun i cs t fr e => by
  obtain ⟨cs', e', h'⟩ := h i cs t fr e
  obtain ⟨cs'', e'', h''⟩ := k i cs' t fr e'
  exact ⟨cs'', e'', h''.trans h'⟩
theorem Shapes.drewN {a b : World} (h : Shapes a b) (q : Nat) : Shapes a (b.drewN q) := h
theorem Shapes.setCell {a b : World} (h : Shapes a b) (p : Addr) (u : Value) : Shapes a (b.setCell p u) := h.trans fun k cs t fr e => by
  by_cases hk : k = p.block
  · subst hk
    refine ⟨if p.spot.isSome = true then cs else cs.setIfInBounds p.off u, ?_, by split <;> simp⟩
    simp [World.setCell, Array.getElem?_modify, e]
  · exact ⟨cs, by rw [Below.heap_setCell b p u k hk]; exact e, rfl⟩
theorem Shapes.owned {w w' : World} (h : Shapes w w') {base C : Nat} {e : TypeId} {v : Value} {n : Nat} {xs : List Value} (ho : w.ownsRow base e C v n xs) : ∃ ys, w'.ownsRow base e C v n ys := by
  rcases ho.2 with ⟨rfl, h0⟩ | ⟨g, cap, cur, rfl, hb, hg, hc, hm, hs, ht⟩
  · exact ⟨[], by simp [h0], .inl ⟨rfl, h0⟩⟩
  · obtain ⟨cs', e', hs'⟩ := h g cur e (0, 0) hg
    refine ⟨cs'.toList.take (n * C), ?_, .inr ⟨g, cap, cs', rfl, hb, e', hc, hm, by rw [hs', hs], rfl⟩⟩
    rw [List.length_take, Array.length_toList, hs', hs]
    exact Nat.min_eq_left (Nat.mul_le_mul_right _ hc)

set_option maxHeartbeats 400000 in
/-- Written over: nothing but their own block has turned, and each block has the shape that it had. -/
theorem numbers_over {u : Value} {base : Nat} (n : Nat) (xs : List Value) (w : World) (hx : w.ownsRow base 3 1 u n xs) (hn : n ≤ 1000000000) :
    Calls Try.prog 13 #[u] w fun e w' => e = .returned (.tuple #[]) ∧ w.grownBy w' u.ownBlock ∧ Shapes w w' := by
  have hv : u = .slice none 0 0 ∧ n = 0 ∨ ∃ g cap, u = .slice (some ⟨g, 0, none⟩) n cap ∧ base ≤ g := by
    rcases hx.2 with h0 | ⟨g, cap, cur, h0, hb, _⟩
    · exact .inl h0
    · exact .inr ⟨g, cap, h0, hb⟩
  rcases hv with ⟨rfl, h0⟩ | ⟨g, cap, rfl, hbase⟩
  · subst h0
    clear hx
    go_enter Try.func13, Try.ntmps13
    go_wp2_with fail
    go_rounds 1
    go_end0
    exact ⟨rfl, World.grownBy.refl _ _, Shapes.refl _⟩
  · go_enter Try.func13, Try.ntmps13
    go_wp2_with fail
    go_loopw [2] (fun i wr => ∃ (k : Nat) (ys : List Value), k ≤ n ∧ i = .int .i64 k ∧ wr.ownsRow base 3 1 (.slice (some ⟨g, 0, none⟩) n cap) n ys ∧ w.grownBy wr (some g) ∧ Shapes w wr) (fun i _ => n - (intOf i).toNat)
    case atStart => exact ⟨0, xs, by omega, rfl, hx, World.grownBy.refl _ _, Shapes.refl _⟩
    case round =>
      obtain ⟨k, ys, hk, rfl, hown, hgr, hsh⟩ := hrel
      by_cases hlt : k < n
      · have hys : ys[k]? = some (ys[k]'(by have := hown.1; omega)) := List.getElem?_eq_getElem (by have := hown.1; omega)
        have hc := hown.cellAt k (by omega)
        rw [hys] at hc
        have hf := hown.frozenAt k
        have hst := hown.stored k (.int .i64 (-99))
        clear hys
        generalize ys[k]'(by have := hown.1; omega) = u0 at hc
        go_wp2_with fail
        go_roundw
        case rel => exact ⟨k + 1, _, by omega, by go_num, hst.1, hgr.trans hst.2, hsh.setCell _ _⟩
        case measure => simp [intOf]; omega
      · go_wp2_with fail
        go_end0
        exact ⟨rfl, hgr, hsh⟩
set_option maxHeartbeats 400000 in
/-- Written over. -/
theorem numbers_any {u : Value} {base : Nat} (n : Nat) (xs : List Value) (w : World) (hx : w.ownsRow base 3 1 u n xs) (hn : n ≤ 1000000000) :
    Calls Try.prog 13 #[u] w fun e w' => e = .returned (.tuple #[]) ∧ Below base w w' := by
  have hv : u = .slice none 0 0 ∧ n = 0 ∨ ∃ g cap, u = .slice (some ⟨g, 0, none⟩) n cap ∧ base ≤ g := by
    rcases hx.2 with h0 | ⟨g, cap, cur, h0, hb, _⟩
    · exact .inl h0
    · exact .inr ⟨g, cap, h0, hb⟩
  rcases hv with ⟨rfl, h0⟩ | ⟨g, cap, rfl, hbase⟩
  · subst h0
    clear hx
    go_enter Try.func13, Try.ntmps13
    go_wp2_with fail
    go_rounds 1
    go_end0
    exact ⟨rfl, Below.refl _ _⟩
  · go_enter Try.func13, Try.ntmps13
    go_wp2_with fail
    go_loopw [2] (fun i wr => ∃ (k : Nat) (ys : List Value), k ≤ n ∧ i = .int .i64 k ∧ wr.ownsRow base 3 1 (.slice (some ⟨g, 0, none⟩) n cap) n ys ∧ Below base w wr) (fun i _ => n - (intOf i).toNat)
    case atStart => exact ⟨0, xs, by omega, rfl, hx, Below.refl _ _⟩
    case round =>
      obtain ⟨k, ys, hk, rfl, hown, hbl⟩ := hrel
      by_cases hlt : k < n
      · have hys : ys[k]? = some (ys[k]'(by have := hown.1; omega)) := List.getElem?_eq_getElem (by have := hown.1; omega)
        have hc := hown.cellAt k (by omega)
        rw [hys] at hc
        have hf := hown.frozenAt k
        have hst := hown.stored k (.int .i64 (-99))
        clear hys
        generalize ys[k]'(by have := hown.1; omega) = u0 at hc
        go_wp2_with fail
        go_roundw
        case rel => exact ⟨k + 1, _, by omega, by go_num, hst.1, hbl.setCell hbase _⟩
        case measure => simp [intOf]; omega
      · go_wp2_with fail
        go_end0
        exact ⟨rfl, hbl⟩
end Go.Proofs.Ytabplmhmanbmjaa
