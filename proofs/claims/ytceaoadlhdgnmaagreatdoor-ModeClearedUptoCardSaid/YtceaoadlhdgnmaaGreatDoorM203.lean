/- Joined texts: CurTake. -/
import Derived.Test.YtceaoadlhdgnmaaGreatDoorM202
import Derived.BigQuiet
namespace Go.Proofs.YtceaoadlhdgnmaaGreatDoor
set_option maxRecDepth 100000
section
open Go.RowKit
namespace Scr
open Go.Proofs.YtceaoadlhdgnmaaGreatDoor.Row
@[go_sem] theorem is_line_line (v : Value) (w : World) : (Instr.typeAssert (.iface 201 v) 199 201 true).run Tryz.prog w = .ok (.tuple #[v, .bool true]) w := by kernel_rfl
@[go_sem] theorem is_line_column (v : Value) (w : World) : (Instr.typeAssert (.iface 203 v) 199 201 true).run Tryz.prog w = .ok (.tuple #[.int .i64 0, .bool false]) w := by kernel_rfl
@[go_sem] theorem must_column (v : Value) (w : World) : (Instr.typeAssert (.iface 203 v) 199 203 false).run Tryz.prog w = .ok v w := by kernel_rfl
theorem Pn.atRow' {w : World} {b base : Nat} {s : S} {x y z : Value} (h : Pn w b base s x y z) (n : Int) : Pn (w.setCell ⟨b, 7, none⟩ (.int .i64 n)) b base (atPlace s n s.cur.col) x y z := h.row n
theorem Pn.atCol' {w : World} {b base : Nat} {s : S} {x y z : Value} (h : Pn w b base s x y z) (n : Int) : Pn (w.setCell ⟨b, 8, none⟩ (.int .i64 n)) b base (atPlace s s.cur.row n) x y z :=
  ⟨Blk.set h.box 8 _, (h.own.set h.lt 8 _).as _ rfl rfl rfl, h.lt, by rw [size_set]; exact h.up⟩
theorem bo_set {b : Nat} {w w1 : World} (h : Below b w w1 ∧ Only b w w1) (j : Nat) (u : Value) : Below b w (w1.setCell ⟨b, j, none⟩ u) ∧ Only b w (w1.setCell ⟨b, j, none⟩ u) := ⟨h.1.setCell (Nat.le_refl b) _, h.2.set _ _⟩
theorem bo_bel {b : Nat} {w w1 w2 : World} (h : Below b w w1 ∧ Only b w w1) (hb : b ≤ w1.heap.size) (h2 : Below w1.heap.size w1 w2) : Below b w w2 ∧ Only b w w2 := ⟨h.1.trans (h2.mono hb), Only.bel h.2 h2⟩
theorem bo_refl (b : Nat) (w : World) : Below b w w ∧ Only b w w := ⟨Below.refl _ _, Only.refl _ _⟩
theorem Pn.le {w : World} {b base : Nat} {s : S} {x y z : Value} (h : Pn w b base s x y z) : b ≤ w.heap.size := by have := h.lt; have := h.up; omega
set_option maxHeartbeats 3200000 in
theorem take_any (s : S) (x y z : Value) (k n : Int) (b base : Nat) (w : World) (h : Pn w b base s x y z) (hF : Fc s) (hk : plainKey k) (h1 : -1 ≤ n) (h2 : n ≤ 9999) :
    Calls Tryz.prog 136 #[.pointer (some ⟨b, 0, none⟩), .agg #[.int .i32 k, .int .i64 n]] w fun e w' => e = .returned (.tuple #[]) ∧ Pn w' b base (stepS s (k, n)) x y z ∧ Below b w w' ∧ Only b w w' := by
  have HG := Lib.hid (fun W (hI : In W s x y z) => goal_any s x y z k (max n 1) W hF hk (by omega) (by omega) hI)
  have HS : Hid (stepS s (k, n) = goTo s k (max n 1)) := Lib.hid rfl
  rw [HS.out]
  obtain ⟨r, v, hgv⟩ : ∃ r v, goal s k (max n 1) = (r, v) := ⟨_, _, rfl⟩
  have HT : Hid (goTo s k (max n 1) = if r then atPlace s v s.cur.col else atPlace s s.cur.row v) := Lib.hid (by unfold goTo; rw [hgv])
  rw [hgv] at HG
  rw [HT.out]
  have H1 : Hid (Pn (w.alloc (.cells #[.int .i32 k, .int .i64 n] 145)) b base s x y z) := Lib.hid (h.kept (bel_alloc w _))
  have HB1 : Hid (Below b w (w.alloc (.cells #[.int .i32 k, .int .i64 n] 145)) ∧ Only b w (w.alloc (.cells #[.int .i32 k, .int .i64 n] 145))) := Lib.hid (bo_bel (bo_refl b w) h.le (bel_alloc w _))
  have d0 : (w.alloc (.cells #[.int .i32 k, .int .i64 n] 145)).cell? ⟨w.heap.size, 0, none⟩ = some (.int .i32 k) := Blk.cell (heap_alloc_new w _) 0
  have d1 : (w.alloc (.cells #[.int .i32 k, .int .i64 n] 145)).cell? ⟨w.heap.size, 1, none⟩ = some (.int .i64 n) := Blk.cell (heap_alloc_new w _) 1
  clear h hF hk h1 h2 hgv HS HT
  go_enter Tryz.func136, Tryz.ntmps136
  go_upto_region 1 with (fail)
  change Code.wp _ _ _ _ (w.alloc (.cells #[.int .i32 k, .int .i64 n] 145))
  generalize (w.alloc (.cells #[.int .i32 k, .int .i64 n] 145)) = w1 at H1 HB1 d0 d1 ⊢
  have H1 := Lib.hid (H1.out.kept (Below.refl _ _).drew)
  have HB1 : Hid (Below b w w1.drew ∧ Only b w w1.drew) := Lib.hid (bo_bel HB1.out (Nat.le_trans H1.out.le (Nat.le_refl _)) (Below.refl _ _).drew)
  refine wp_region_still_tail 8 (by kernel_rfl) (by kernel_rfl) ?_
  simp only [List.take_succ_cons, List.take_zero, List.drop_succ_cons, List.drop_zero]
  still_step
  still_step
  refine still_loadS (p := ⟨b, 0, none⟩) (s := s) (x0 := x) (y0 := y) (z0 := z) rfl rfl rfl H1.out.box.at ?_
  repeat still_step
  refine wpStill_nil ?_
  change wpList _ _ _ _ _ w1.drew
  clear d0 d1
  generalize w1.drew = w1 at H1 HB1 ⊢
  go_wp2_with fail
  refine (HG.out w1 H1.out.own.in_).mono ?_; rintro e w2 ⟨rfl, hb⟩
  have H2 := Lib.hid (H1.out.kept hb)
  have HB2 := Lib.hid (bo_bel HB1.out H1.out.le hb)
  clear hb H1 HB1 HG
  have f2 : ∀ j, w2.frozen? ⟨b, j, none⟩ = false := H2.out.box.free
  have c2 : ∀ j, w2.cell? ⟨b, j, none⟩ = (sarr s x y z)[j]? := H2.out.box.cell
  cases r
  · unfold goalV
    simp only [Bool.false_eq_true, if_false]
    go_wp2_with fail
    go_end0
    exact ⟨rfl, H2.out.atCol' v, bo_set HB2.out 8 _⟩
  · unfold goalV
    simp only [if_true]
    go_wp2_with fail
    go_returns
    exact ⟨rfl, H2.out.atRow' v, bo_set HB2.out 7 _⟩
def Sts (w : World) (v : Value) (l : List (Int × Int)) : Prop :=
  (l = [] ∧ v = .slice none 0 0) ∨ ∃ b c A t, v = .slice (some ⟨b, 0, none⟩) l.length c ∧ l.length ≤ c ∧ w.heap[b]? = some (.cells A t (0, 0)) ∧ t ≠ 36 ∧ ∀ k, k < l.length → A[k * 2]? = some (.int .i32 (l.getD k (0, 0)).1) ∧ A[k * 2 + 1]? = some (.int .i64 (l.getD k (0, 0)).2)
theorem Sts.kept {w w' : World} {v : Value} {l : List (Int × Int)} (h : Sts w v l) (hb : Below w.heap.size w w') : Sts w' v l := by
  rcases h with h | ⟨b, c, A, t, h1, h2, h3, h4, h5⟩
  · exact .inl h
  · exact .inr ⟨b, c, A, t, h1, h2, Blk.kept h3 hb, h4, h5⟩
theorem Sts.only {w w' : World} {v : Value} {l : List (Int × Int)} {b : Nat} {B : Array Value} (h : Sts w v l) (hb : w.heap[b]? = some (.cells B 36 (0, 0))) (ho : Only b w w') : Sts w' v l := by
  rcases h with h | ⟨q, c, A, t, h1, h2, h3, h4, h5⟩
  · exact .inl h
  · refine .inr ⟨q, c, A, t, h1, h2, ho.2 q _ (fun e => ?_) h3, h4, h5⟩
    subst e
    rw [hb] at h3
    injection h3 with h3
    injection h3 with _ h3 _
    exact h4 h3.symm
theorem sts_two (w : World) (a b c d : Int) (t : TypeId) (ht : t ≠ 36) : Sts (w.alloc (.cells #[.int .i32 a, .int .i64 b, .int .i32 c, .int .i64 d] t)) (.slice (some ⟨w.heap.size, 0, none⟩) 2 2) [(a, b), (c, d)] := by
  refine .inr ⟨w.heap.size, 2, _, t, rfl, Nat.le_refl _, heap_alloc_new _ _, ht, fun k hk => ?_⟩
  have hk2 : k = 0 ∨ k = 1 := by simp at hk; omega
  rcases hk2 with rfl | rfl
  · exact ⟨rfl, rfl⟩
  · exact ⟨rfl, rfl⟩
theorem sts_one (w : World) (a b : Int) (t : TypeId) (ht : t ≠ 36) : Sts (w.alloc (.cells #[.int .i32 a, .int .i64 b] t)) (.slice (some ⟨w.heap.size, 0, none⟩) 1 1) [(a, b)] := by
  refine .inr ⟨w.heap.size, 1, _, t, rfl, Nat.le_refl _, heap_alloc_new _ _, ht, fun k hk => ?_⟩
  obtain rfl : k = 0 := by simp at hk; omega
  exact ⟨rfl, rfl⟩
def plainB : ByteArray := ⟨#[65, 66, 67, 68, 71, 100, 73, 90]⟩
def plainL : List Nat := [65, 66, 67, 68, 71, 100, 73, 90]
theorem plain_step : ∀ j : Fin 8, Utf.dec (plainB.data.toList.drop j.val) = (plainL.getD j.val 0, 1) := of_decide_eq_true (by kernel_rfl)
theorem plain_size : plainB.size = 8 := by kernel_rfl
theorem plain_mem : ∀ j : Fin 8, plainKey (plainL.getD j.val 0 : Nat) ∧ plainL.getD j.val 0 < 128 := by unfold plainKey; decide
theorem plain_all {key : Int} (h : ∀ j, j < 8 → (plainL.getD j 0 : Int) ≠ key) : ¬ plainKey key := by
  have h0 := h 0 (by decide); have h1 := h 1 (by decide); have h2 := h 2 (by decide); have h3 := h 3 (by decide)
  have h4 := h 4 (by decide); have h5 := h 5 (by decide); have h6 := h 6 (by decide); have h7 := h 7 (by decide)
  simp [plainL] at h0 h1 h2 h3 h4 h5 h6 h7
  unfold plainKey
  omega
theorem stL_key {key n m : Int} (h : plainKey key) : stL key n m = [(key, n)] := by
  have h' := h
  unfold plainKey at h'
  unfold stL
  rw [if_neg (by omega), if_neg (by omega), if_neg (by omega)]
  exact if_pos h
theorem stL_none {key n m : Int} (h : ¬ plainKey key) (h1 : key ≠ 69) (h2 : key ≠ 70) (h3 : key ≠ 72) : stL key n m = [] := by
  unfold stL
  rw [if_neg h1, if_neg h2, if_neg h3]
  exact if_neg h
set_option maxHeartbeats 1600000 in
theorem steps_any (key n m : Int) (w : World) : Calls Tryz.prog 133 #[.int .i64 key, .int .i64 n, .int .i64 m] w fun e w' => ∃ v, e = .returned v ∧ Sts w' v (stL key n m) ∧ Below w.heap.size w w' := by
  by_cases hE : key = 69
  · subst hE
    go_enter Tryz.func133, Tryz.ntmps133
    go_wp2_with fail
    go_ret
    exact ⟨_, rfl, sts_two w 66 n 71 1 _ (by decide), bel_alloc w _⟩
  by_cases hF : key = 70
  · subst hF
    go_enter Tryz.func133, Tryz.ntmps133
    go_wp2_with fail
    go_ret
    exact ⟨_, rfl, sts_two w 65 n 71 1 _ (by decide), bel_alloc w _⟩
  by_cases hH : key = 72
  · subst hH
    go_enter Tryz.func133, Tryz.ntmps133
    go_wp2_with fail
    go_ret
    exact ⟨_, rfl, sts_two w 100 n 71 m _ (by decide), bel_alloc w _⟩
  have HY : Hid (∀ j, j < 8 → (plainL.getD j 0 : Int) = key → stL key n m = [(((plainL.getD j 0 : Nat) : Int), n)]) := Lib.hid fun j hj e => by
    have hp := (plain_mem ⟨j, hj⟩).1
    rw [e]
    exact stL_key (by rw [← e]; exact hp)
  have HN : Hid ((∀ j, j < 8 → (plainL.getD j 0 : Int) ≠ key) → stL key n m = []) := Lib.hid fun h => stL_none (plain_all h) hE hF hH
  have e1 : (key == 69) = false := by rw [beq_eq_false_iff_ne]; exact hE
  have e2 : (key == 70) = false := by rw [beq_eq_false_iff_ne]; exact hF
  have e3 : (key == 72) = false := by rw [beq_eq_false_iff_ne]; exact hH
  clear hE hF hH
  go_enter Tryz.func133, Tryz.ntmps133
  go_wp2_with fail
  go_loopw [] (fun wr => ∃ j : Nat, j ≤ 8 ∧ Hid (∀ i, i < j → (plainL.getD i 0 : Int) ≠ key) ∧ Hid (wr.heap[w.heap.size]? = some (.stringIter plainB j)) ∧ Below w.heap.size w wr) (fun wr => 8 - wr.iterPos w.heap.size)
  case atStart => exact ⟨0, by omega, Lib.hid (fun i hi => absurd hi (by omega)), Lib.hid (World.iter_heap _ _ _), Utf.below_iter (Below.refl _ _) (Nat.le_refl _) _ _⟩
  case round =>
    obtain ⟨j, hj, HA, HI, hbl⟩ := hrel
    have HIP : Hid (wr.iterPos w.heap.size = j) := Lib.hid (by simp [World.iterPos, HI.out])
    by_cases hp : j < 8
    · have hd := plain_step ⟨j, hp⟩
      simp only at hd
      have hnx : ∀ ty, (Instr.next (.pointer (some ⟨w.heap.size, 0, none⟩)) true ty).run Tryz.prog wr = _ := fun ty => Lib.run_next_any_at wr w.heap.size plainB j ty HI.out (by rw [plain_size]; exact hp)
      rw [Utf.dec_at] at hnx
      have hsm := Utf.dec_small (plainB.data.toList.drop j)
      rw [hd] at hnx hsm
      simp only at hnx hsm
      have HYJ := Lib.hid (HY.out j hp)
      have HPL := Lib.hid (plain_mem ⟨j, hp⟩).2
      have hit2 := Lib.iterAt_heap wr w.heap.size plainB j (j + 1) HI.out
      have HIT2 := Lib.hid hit2
      have HIP2 : Hid ((wr.iterAt w.heap.size plainB (j + 1)).iterPos w.heap.size = j + 1) := Lib.hid (by simp [World.iterPos, hit2])
      have HBL2 : Hid (Below w.heap.size w (wr.iterAt w.heap.size plainB (j + 1))) := Lib.hid (Lib.below_iterAt hbl (Nat.le_refl _) _ _)
      have HAJ : Hid ((plainL.getD j 0 : Int) ≠ key → ∀ i, i < j + 1 → (plainL.getD i 0 : Int) ≠ key) := Lib.hid fun q i hi => by
        by_cases e : i = j
        · subst e; exact q
        · exact HA.out i (by omega)
      clear hit2 hbl hd HA
      obtain ⟨r, hr⟩ : ∃ r, plainL.getD j 0 = r := ⟨_, rfl⟩
      simp only [hr] at hnx hsm HYJ HPL HAJ
      have hwr : IntKind.i64.wrap (r : Int) = (r : Int) := by rw [IntKind.wrap_i64]; have := HPL.out; omega
      by_cases he : (r : Int) = key
      · have HE := Lib.hid (HYJ.out he)
        have hq : ((r : Int) == key) = true := by rw [beq_iff_eq]; exact he
        clear HYJ HAJ he
        go_wp2_with fail
        go_ret
        refine ⟨_, rfl, ?_, ?_⟩
        · rw [HE.out]; exact sts_one _ _ _ _ (by decide)
        · exact HBL2.out.trans ((bel_alloc _ _).mono HBL2.out.size)
      · have HE := Lib.hid (HAJ.out he)
        have hq : ((r : Int) == key) = false := by rw [beq_eq_false_iff_ne]; exact he
        clear HYJ HAJ he
        go_wp2_with fail
        go_roundw
        case rel => exact ⟨j + 1, by omega, HE, HIT2, HBL2.out⟩
        case measure => rw [HIP2.out, HIP.out]; omega
    · have hnx : ∀ ty, (Instr.next (.pointer (some ⟨w.heap.size, 0, none⟩)) true ty).run Tryz.prog wr = _ := fun ty => Lib.run_next_end_at wr w.heap.size plainB j ty HI.out (by rw [show j = 8 by omega, plain_size]; decide)
      have HE := Lib.hid (HN.out (fun i hi => HA.out i (by omega)))
      go_wp2_with fail
      go_ret
      exact ⟨_, rfl, .inl ⟨HE.out, rfl⟩, hbl⟩
end Scr
end
end Go.Proofs.YtceaoadlhdgnmaaGreatDoor
