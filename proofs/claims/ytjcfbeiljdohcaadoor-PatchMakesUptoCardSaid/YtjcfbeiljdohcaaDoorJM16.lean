/- Joined texts: PdSmall, ScrCur, ScrParts. -/
import Derived.Test.YtjcfbeiljdohcaaDoorJM15
namespace Go.Proofs.YtjcfbeiljdohcaaDoor
set_option maxRecDepth 100000
section
open Go.RowKit
namespace Pat
open Go.Proofs.YtjcfbeiljdohcaaDoor.Row Go.Proofs.YtjcfbeiljdohcaaDoor.Scr Agb
theorem patIn_at (n lo hi : Int) (b : Bool) (hb : Row.rng n lo hi = b) (w : World) : Calls Tryd.prog 43 #[.int .i64 n, .int .i64 lo, .int .i64 hi] w fun e w' => e = .returned (.bool b) ∧ w = w' := by
  subst hb
  by_cases h : lo ≤ n
  · by_cases k : n ≤ hi
    · have H : Hid (Row.rng n lo hi = true) := Lib.hid (by unfold Row.rng; rw [decide_eq_true h, decide_eq_true k]; rfl)
      go_enter Tryd.func43, Tryd.ntmps43
      go_wp2_with fail
      go_ret
      exact ⟨ret_bool H.out.symm, rfl⟩
    · have H : Hid (Row.rng n lo hi = false) := Lib.hid (by unfold Row.rng; rw [decide_eq_false k, Bool.and_false])
      have hd : decide (n ≤ hi) = false := decide_eq_false k
      go_enter Tryd.func43, Tryd.ntmps43
      go_wp2_with fail
      go_ret
      exact ⟨ret_bool H.out.symm, rfl⟩
  · have H : Hid (Row.rng n lo hi = false) := Lib.hid (by unfold Row.rng; rw [decide_eq_false h, Bool.false_and])
    have hd : decide (lo ≤ n) = false := decide_eq_false h
    go_enter Tryd.func43, Tryd.ntmps43
    go_wp2_with fail
    go_ret
    exact ⟨ret_bool H.out.symm, rfl⟩
theorem sized_t (R C p q m : Int) (f : Bool) (T : ByteArray) (u x : Value) (w : World) :
    Calls Tryd.prog 31 #[.agg #[.int .i64 R, .int .i64 C, .bool f, u, x, .int .i64 p, .int .i64 q, .int .i64 m, .string T]] w fun e w' => e = .returned (.bool (Row.rng R 1 40 && Row.rng C 1 40)) ∧ Below w.heap.size w w' := by
  have HB := Lib.hid ((Below.refl w.heap.size w).alloc (Nat.le_refl _) (.cells #[.int .i64 R, .int .i64 C, .bool f, u, x, .int .i64 p, .int .i64 q, .int .i64 m, .string T] 35))
  have H1 := Lib.hid (fun W => patIn_at R 1 40 _ rfl W)
  have H2 := Lib.hid (fun W => patIn_at C 1 40 _ rfl W)
  generalize Row.rng R 1 40 = a at H1 ⊢
  generalize Row.rng C 1 40 = b at H2 ⊢
  cases a with
  | false =>
    go_enter Tryd.func31, Tryd.ntmps31
    go_wp2_with fail
    refine (H1.out _).mono ?_; rintro e w' ⟨rfl, rfl⟩
    go_wp2_with fail
    go_ret
    exact ⟨rfl, HB.out⟩
  | true =>
    go_enter Tryd.func31, Tryd.ntmps31
    go_wp2_with fail
    refine (H1.out _).mono ?_; rintro e w' ⟨rfl, rfl⟩
    go_wp2_with fail
    refine (H2.out _).mono ?_; rintro e w' ⟨rfl, rfl⟩
    go_wp2_with fail
    go_ret
    exact ⟨ret_bool2 (by simp), HB.out⟩
theorem alike_t (R C p q m R2 C2 p2 q2 m2 : Int) (f f2 : Bool) (T T2 : ByteArray) (u x v y : Value) (w : World) :
    Calls Tryd.prog 19 #[.agg #[.int .i64 R, .int .i64 C, .bool f, u, x, .int .i64 p, .int .i64 q, .int .i64 m, .string T], .agg #[.int .i64 R2, .int .i64 C2, .bool f2, v, y, .int .i64 p2, .int .i64 q2, .int .i64 m2, .string T2]] w fun e w' => e = .returned (.bool (R == R2 && C == C2)) ∧ Below w.heap.size w w' := by
  have HB := Lib.hid (((Below.refl w.heap.size w).alloc (Nat.le_refl _) (.cells #[.int .i64 R, .int .i64 C, .bool f, u, x, .int .i64 p, .int .i64 q, .int .i64 m, .string T] 35)).alloc (by simp) (.cells #[.int .i64 R2, .int .i64 C2, .bool f2, v, y, .int .i64 p2, .int .i64 q2, .int .i64 m2, .string T2] 35))
  cases h1 : (R == R2) <;> cases h2 : (C == C2)
  all_goals
    go_enter Tryd.func19, Tryd.ntmps19
    go_wp2_with fail
    go_ret
    exact ⟨rfl, HB.out⟩
theorem rise_step (R lo x : Int) (l : List Int) : riseB R lo (x :: l) = (Row.rng x lo (R - 1) && riseB R (x + 1) l) := by
  unfold Row.rng
  show (decide (lo ≤ x) && (decide (x < R) && riseB R (x + 1) l)) = _
  rw [Bool.and_assoc, show decide (x < R) = decide (x ≤ R - 1) from decide_eq_decide.2 (by omega)]
set_option maxHeartbeats 1600000 in
theorem rising_any (R : Nat) (l : List Int) (u : Value) (w : World) (hu : Sl w u l) (hR : R ≤ 40) (hn : l.length ≤ 1000000) :
    Calls Tryd.prog 47 #[u, .int .i64 R] w fun e w' => e = .returned (.bool (riseB R 0 l)) ∧ w = w' := by
  obtain ⟨A, c, rfl, _⟩ := id hu.room
  have HU := Lib.hid hu
  have HIN := Lib.hid (fun n lo W => patIn_at n lo ((R : Int) - 1) _ rfl W)
  obtain ⟨b, HBB⟩ : ∃ b, Hid (riseB R 0 l = b) := ⟨_, Lib.hid rfl⟩
  rw [HBB.out]
  clear hu
  go_enter Tryd.func47, Tryd.ntmps47
  go_wp2_with fail
  go_loopw [5, 10] (fun lo i wr => ∃ (k : Nat) (n : Int), k ≤ l.length ∧ 0 ≤ n ∧ n ≤ 40 ∧ i = .int .i64 k ∧ lo = .int .i64 n ∧ Hid (riseB R n (l.drop k) = b) ∧ wr = w) (fun _ i _ => l.length - (intOf i).toNat)
  case atStart => exact ⟨0, 0, by omega, by omega, by omega, rfl, rfl, HBB, rfl⟩
  case round =>
    obtain ⟨k, n, hk, hn0, hn1, rfl, rfl, HJ, rfl⟩ := hrel
    by_cases hlt : k < l.length
    · obtain ⟨an, rfl, hE⟩ := HU.out.get k hlt
      have HJ2 : Hid ((Row.rng (l.getD k 0) n ((R : Int) - 1) && riseB R (l.getD k 0 + 1) (l.drop (k + 1))) = b) := Lib.hid (by
        rw [← rise_step, ← HJ.out]
        have : l.drop k = l.getD k 0 :: l.drop (k + 1) := by rw [List.drop_eq_getElem_cons hlt]; simp [hlt]
        rw [this])
      clear HJ
      generalize l.getD k 0 = z at hE HJ2
      cases hr : Row.rng z n ((R : Int) - 1) with
      | false =>
        have HF : Hid (b = false) := Lib.hid (by rw [← HJ2.out, hr]; rfl)
        have HI := Lib.hid (fun W => by have := HIN.out z n W; rw [hr] at this; exact this)
        clear hr HJ2 HIN
        go_wp2_with fail
        refine (HI.out _).mono ?_; rintro e w' ⟨rfl, rfl⟩
        go_wp2_with fail
        go_ret
        exact ⟨ret_bool2 HF.out.symm, rfl⟩
      | true =>
        have HF : Hid (riseB R (z + 1) (l.drop (k + 1)) = b) := Lib.hid (by rw [← HJ2.out, hr, Bool.true_and])
        have HI := Lib.hid (fun W => by have := HIN.out z n W; rw [hr] at this; exact this)
        have hz := rng_yes.1 hr
        clear hr HJ2 HIN
        go_wp2_with fail
        refine (HI.out _).mono ?_; rintro e w' ⟨rfl, rfl⟩
        go_wp2_with fail
        go_roundw
        case rel => exact ⟨k + 1, z + 1, by omega, by omega, by omega, by go_num, by go_num, HF, by first | rfl | trivial⟩
        case measure => simp [intOf]; omega
    · have HF : Hid (b = true) := Lib.hid (by
        have h := HJ.out
        rw [List.drop_of_length_le (by omega)] at h
        exact h.symm)
      clear HJ
      go_wp2_with fail
      go_ret
      exact ⟨ret_bool2 HF.out.symm, rfl⟩
set_option maxHeartbeats 1600000 in
theorem all_t (R C p q m : Int) (T : ByteArray) (A : Option Addr) (n c : Nat) (w : World) :
    Calls Tryd.prog 16 #[.agg #[.int .i64 R, .int .i64 C, .slice A n c, .int .i64 p, .int .i64 q, .int .i64 m, .string T]] w fun e w' => e = .returned (.agg #[.int .i64 R, .int .i64 C, .bool true, .slice none 0 0, .slice A n c, .int .i64 p, .int .i64 q, .int .i64 m, .string T]) ∧ Below w.heap.size w w' := by
  have KB : Hid (Below w.heap.size w (((w.alloc (.cells #[.int .i64 R, .int .i64 C, .slice A n c, .int .i64 p, .int .i64 q, .int .i64 m, .string T] 32 (0, 0))).alloc (.cells #[.int .i64 0, .int .i64 0, .bool false, .slice none 0 0, .slice none 0 0, .int .i64 0, .int .i64 0, .int .i64 0, .string ⟨#[]⟩] 35 (0, 0))).alloc (.cells #[.int .i64 R, .int .i64 C, .slice A n c] 30 (0, 0)))) := Lib.hid ((((Below.refl w.heap.size w).alloc (Nat.le_refl _) _).alloc (by simp) _).alloc (by simp; omega) _)
  have K0 : Hid ((((w.alloc (.cells #[.int .i64 R, .int .i64 C, .slice A n c, .int .i64 p, .int .i64 q, .int .i64 m, .string T] 32 (0, 0))).alloc (.cells #[.int .i64 0, .int .i64 0, .bool false, .slice none 0 0, .slice none 0 0, .int .i64 0, .int .i64 0, .int .i64 0, .string ⟨#[]⟩] 35 (0, 0))).alloc (.cells #[.int .i64 R, .int .i64 C, .slice A n c] 30 (0, 0))).heap[w.heap.size]? = some (.cells #[.int .i64 R, .int .i64 C, .slice A n c, .int .i64 p, .int .i64 q, .int .i64 m, .string T] 32 (0, 0))) := Lib.hid (old_alloc (old_alloc (new_alloc _ _ _ rfl) _) _)
  have K1 : Hid ((((w.alloc (.cells #[.int .i64 R, .int .i64 C, .slice A n c, .int .i64 p, .int .i64 q, .int .i64 m, .string T] 32 (0, 0))).alloc (.cells #[.int .i64 0, .int .i64 0, .bool false, .slice none 0 0, .slice none 0 0, .int .i64 0, .int .i64 0, .int .i64 0, .string ⟨#[]⟩] 35 (0, 0))).alloc (.cells #[.int .i64 R, .int .i64 C, .slice A n c] 30 (0, 0))).heap[w.heap.size + 1]? = some (.cells #[.int .i64 0, .int .i64 0, .bool false, .slice none 0 0, .slice none 0 0, .int .i64 0, .int .i64 0, .int .i64 0, .string ⟨#[]⟩] 35 (0, 0))) := Lib.hid (old_alloc (new_alloc _ _ _ (by simp)) _)
  have K2 : Hid ((((w.alloc (.cells #[.int .i64 R, .int .i64 C, .slice A n c, .int .i64 p, .int .i64 q, .int .i64 m, .string T] 32 (0, 0))).alloc (.cells #[.int .i64 0, .int .i64 0, .bool false, .slice none 0 0, .slice none 0 0, .int .i64 0, .int .i64 0, .int .i64 0, .string ⟨#[]⟩] 35 (0, 0))).alloc (.cells #[.int .i64 R, .int .i64 C, .slice A n c] 30 (0, 0))).heap[w.heap.size + 1 + 1]? = some (.cells #[.int .i64 R, .int .i64 C, .slice A n c] 30 (0, 0))) := Lib.hid (new_alloc _ _ _ (by simp))
  go_enter Tryd.func16, Tryd.ntmps16
  go_upto_region 2 with (fail)
  generalize ((w.alloc (.cells #[.int .i64 R, .int .i64 C, .slice A n c, .int .i64 p, .int .i64 q, .int .i64 m, .string T] 32 (0, 0))).alloc (.cells #[.int .i64 0, .int .i64 0, .bool false, .slice none 0 0, .slice none 0 0, .int .i64 0, .int .i64 0, .int .i64 0, .string ⟨#[]⟩] 35 (0, 0))).alloc (.cells #[.int .i64 R, .int .i64 C, .slice A n c] 30 (0, 0)) = w2 at K0 K1 K2 KB ⊢
  have c3 : w2.cell? ⟨w.heap.size, 3, none⟩ = some (.int .i64 p) := Blk.cell K0.out 3
  have c4 : w2.cell? ⟨w.heap.size, 4, none⟩ = some (.int .i64 q) := Blk.cell K0.out 4
  have c5 : w2.cell? ⟨w.heap.size, 5, none⟩ = some (.int .i64 m) := Blk.cell K0.out 5
  have c6 : w2.cell? ⟨w.heap.size, 6, none⟩ = some (.string T) := Blk.cell K0.out 6
  have d0 : w2.cell? ⟨w.heap.size + 1 + 1, 0, none⟩ = some (.int .i64 R) := Blk.cell K2.out 0
  have d1 : w2.cell? ⟨w.heap.size + 1 + 1, 1, none⟩ = some (.int .i64 C) := Blk.cell K2.out 1
  have d2 : w2.cell? ⟨w.heap.size + 1 + 1, 2, none⟩ = some (.slice A n c) := Blk.cell K2.out 2
  go_wp2_with (refine wp_storeP (T := fun w' => w'.heap[w.heap.size + 1]? = some (.cells #[.int .i64 R, .int .i64 C, .bool true, .slice none 0 0, .slice A n c, .int .i64 p, .int .i64 q, .int .i64 m, .string T] 35 (0, 0)) ∧ Below w.heap.size w w') rfl rfl rfl rfl rfl K1.out (fun w' h => ⟨h.box, h.below _ _ (by omega) KB.out⟩) ?_; intro wF HF)
  exact bodyPost_ret (v := .agg #[.int .i64 R, .int .i64 C, .bool true, .slice none 0 0, .slice A n c, .int .i64 p, .int .i64 q, .int .i64 m, .string T]) (ret1A aggPatch Tryd.results16 rfl HF.out.1 rfl) rfl ⟨rfl, HF.out.2⟩
theorem all_any (v : Vw) (x : Value) (w : World) (hx : Rm w x v.g.cells) :
    Calls Tryd.prog 16 #[vagg v x] w fun e w' => e = .returned (pagg (whole v) nilS x) ∧ Below w.heap.size w w' := by
  obtain ⟨A, c, rfl, _⟩ := id hx.2
  exact all_t v.g.rows v.g.cols v.row v.col v.modes ⟨v.title.toArray⟩ A _ c w
set_option maxHeartbeats 1600000 in
theorem made_t (R C p q m : Int) (f : Bool) (T : ByteArray) (u : Value) (A : Option Addr) (n c : Nat) (w : World) :
    Calls Tryd.prog 22 #[.agg #[.int .i64 R, .int .i64 C, .bool f, u, .slice A n c, .int .i64 p, .int .i64 q, .int .i64 m, .string T]] w fun e w' => e = .returned (.agg #[.int .i64 R, .int .i64 C, .slice A n c, .int .i64 p, .int .i64 q, .int .i64 m, .string T]) ∧ Below w.heap.size w w' := by
  have KB : Hid (Below w.heap.size w (((w.alloc (.cells #[.int .i64 R, .int .i64 C, .bool f, u, .slice A n c, .int .i64 p, .int .i64 q, .int .i64 m, .string T] 35 (0, 0))).alloc (.cells #[.int .i64 0, .int .i64 0, .slice none 0 0, .int .i64 0, .int .i64 0, .int .i64 0, .string ⟨#[]⟩] 32 (0, 0))).alloc (.cells #[.int .i64 R, .int .i64 C, .slice A n c] 30 (0, 0)))) := Lib.hid ((((Below.refl w.heap.size w).alloc (Nat.le_refl _) _).alloc (by simp) _).alloc (by simp; omega) _)
  have K0 : Hid ((((w.alloc (.cells #[.int .i64 R, .int .i64 C, .bool f, u, .slice A n c, .int .i64 p, .int .i64 q, .int .i64 m, .string T] 35 (0, 0))).alloc (.cells #[.int .i64 0, .int .i64 0, .slice none 0 0, .int .i64 0, .int .i64 0, .int .i64 0, .string ⟨#[]⟩] 32 (0, 0))).alloc (.cells #[.int .i64 R, .int .i64 C, .slice A n c] 30 (0, 0))).heap[w.heap.size]? = some (.cells #[.int .i64 R, .int .i64 C, .bool f, u, .slice A n c, .int .i64 p, .int .i64 q, .int .i64 m, .string T] 35 (0, 0))) := Lib.hid (old_alloc (old_alloc (new_alloc _ _ _ rfl) _) _)
  have K1 : Hid ((((w.alloc (.cells #[.int .i64 R, .int .i64 C, .bool f, u, .slice A n c, .int .i64 p, .int .i64 q, .int .i64 m, .string T] 35 (0, 0))).alloc (.cells #[.int .i64 0, .int .i64 0, .slice none 0 0, .int .i64 0, .int .i64 0, .int .i64 0, .string ⟨#[]⟩] 32 (0, 0))).alloc (.cells #[.int .i64 R, .int .i64 C, .slice A n c] 30 (0, 0))).heap[w.heap.size + 1]? = some (.cells #[.int .i64 0, .int .i64 0, .slice none 0 0, .int .i64 0, .int .i64 0, .int .i64 0, .string ⟨#[]⟩] 32 (0, 0))) := Lib.hid (old_alloc (new_alloc _ _ _ (by simp)) _)
  have K2 : Hid ((((w.alloc (.cells #[.int .i64 R, .int .i64 C, .bool f, u, .slice A n c, .int .i64 p, .int .i64 q, .int .i64 m, .string T] 35 (0, 0))).alloc (.cells #[.int .i64 0, .int .i64 0, .slice none 0 0, .int .i64 0, .int .i64 0, .int .i64 0, .string ⟨#[]⟩] 32 (0, 0))).alloc (.cells #[.int .i64 R, .int .i64 C, .slice A n c] 30 (0, 0))).heap[w.heap.size + 1 + 1]? = some (.cells #[.int .i64 R, .int .i64 C, .slice A n c] 30 (0, 0))) := Lib.hid (new_alloc _ _ _ (by simp))
  go_enter Tryd.func22, Tryd.ntmps22
  go_upto_region 2 with (fail)
  generalize ((w.alloc (.cells #[.int .i64 R, .int .i64 C, .bool f, u, .slice A n c, .int .i64 p, .int .i64 q, .int .i64 m, .string T] 35 (0, 0))).alloc (.cells #[.int .i64 0, .int .i64 0, .slice none 0 0, .int .i64 0, .int .i64 0, .int .i64 0, .string ⟨#[]⟩] 32 (0, 0))).alloc (.cells #[.int .i64 R, .int .i64 C, .slice A n c] 30 (0, 0)) = w2 at K0 K1 K2 KB ⊢
  have c5 : w2.cell? ⟨w.heap.size, 5, none⟩ = some (.int .i64 p) := Blk.cell K0.out 5
  have c6 : w2.cell? ⟨w.heap.size, 6, none⟩ = some (.int .i64 q) := Blk.cell K0.out 6
  have c7 : w2.cell? ⟨w.heap.size, 7, none⟩ = some (.int .i64 m) := Blk.cell K0.out 7
  have c8 : w2.cell? ⟨w.heap.size, 8, none⟩ = some (.string T) := Blk.cell K0.out 8
  have d0 : w2.cell? ⟨w.heap.size + 1 + 1, 0, none⟩ = some (.int .i64 R) := Blk.cell K2.out 0
  have d1 : w2.cell? ⟨w.heap.size + 1 + 1, 1, none⟩ = some (.int .i64 C) := Blk.cell K2.out 1
  have d2 : w2.cell? ⟨w.heap.size + 1 + 1, 2, none⟩ = some (.slice A n c) := Blk.cell K2.out 2
  go_wp2_with (refine wp_storeV (T := fun w' => w'.heap[w.heap.size + 1]? = some (.cells #[.int .i64 R, .int .i64 C, .slice A n c, .int .i64 p, .int .i64 q, .int .i64 m, .string T] 32 (0, 0)) ∧ Below w.heap.size w w') rfl rfl rfl rfl rfl K1.out (fun w' h => ⟨h.box, h.below _ _ (by omega) KB.out⟩) ?_; intro wF HF)
  exact bodyPost_ret (v := .agg #[.int .i64 R, .int .i64 C, .slice A n c, .int .i64 p, .int .i64 q, .int .i64 m, .string T]) (ret1A aggView Tryd.results22 rfl HF.out.1 rfl) rfl ⟨rfl, HF.out.2⟩
end Pat
end
section
open Go.RowKit
namespace Scr
open Go.Proofs.YtjcfbeiljdohcaaDoor.Row Wid
theorem pureT {f : FuncId} {args : Array Value} {w : World} {v : Value} {Q : Ending → World → Prop} (h : Calls Tryd.prog f args w fun e w' => e = .returned v ∧ w = w') (hQ : Q (.returned v) w) : Calls Tryd.prog f args w Q :=
  h.mono (by rintro e w' ⟨rfl, rfl⟩; exact hQ)
theorem bel_alloc (w : World) (o : Obj) : Below w.heap.size w (w.alloc o) := (Below.refl _ _).alloc (Nat.le_refl _) _
theorem in_is {n lo hi : Int} {b : Bool} (h : rng n lo hi = b) (w : World) : Calls Tryd.prog 73 #[.int .i64 n, .int .i64 lo, .int .i64 hi] w fun e w' => e = .returned (.bool b) ∧ w = w' := by subst h; exact in_any n lo hi w
theorem set_is {n : Int} {b : Bool} (h : rng n 0 1 = b) (w : World) : Calls Tryd.prog 82 #[.int .i64 n] w fun e w' => e = .returned (.bool b) ∧ w = w' := by subst h; exact isSet_any n w
theorem num_is {n hi : Int} {b : Bool} (h : rng n 0 hi = b) (w : World) : Calls Tryd.prog 14 #[.int .i64 n, .int .i64 hi] w fun e w' => e = .returned (.bool b) ∧ w = w' := by subst h; exact num_any n hi w
theorem lookFits (a : Look) (b : Bool) (hb : attrOk a = b) (W : World) (N : Nat) (hN : W.heap.size = N) : Calls Tryd.prog 83 #[.slice (some ⟨N, 0, none⟩) 1 1] (W.alloc (.cells #[.int .i64 32, .string ⟨#[]⟩, .int .i64 0, .int .i64 a.fg, .int .i64 a.bg, .int .i64 a.flags] 63))
    fun e w' => e = .returned (.bool b) ∧ Below (N + 1) (W.alloc (.cells #[.int .i64 32, .string ⟨#[]⟩, .int .i64 0, .int .i64 a.fg, .int .i64 a.bg, .int .i64 a.flags] 63)) w' := by
  subst hN
  have h := rowFits_any [⟨32, [], 0, a⟩] b (.slice (some ⟨W.heap.size, 0, none⟩) 1 1) (W.alloc (.cells #[.int .i64 32, .string ⟨#[]⟩, .int .i64 0, .int .i64 a.fg, .int .i64 a.bg, .int .i64 a.flags] 63))
    ⟨Cs.one W ⟨32, [], 0, a⟩ _ 1 _ rfl, _, _, rfl, Nat.le_refl _⟩ (held_one rfl) (by rw [← hb, gridOk_one, kind_look])
  refine h.mono ?_
  rintro e w' ⟨rfl, hb⟩
  exact ⟨rfl, by simpa using hb⟩
set_option maxHeartbeats 12000000 in
theorem cursorFits_any (k : Cur) (R C m n : Int) (hm : IntKind.i64.wrap (R - 1) = m) (hn : IntKind.i64.wrap (C - 1) = n) (w : World) : Calls Tryd.prog 70 #[curV k, .int .i64 R, .int .i64 C] w fun e w' => e = .returned (.bool (cursorB k m n)) ∧ Below w.heap.size w w' := by
  obtain ⟨row, col, wrap, ⟨fg, bg, fl⟩, g0, g1, sh, org⟩ := k
  show Calls Tryd.prog _ #[.agg #[.int .i64 row, .int .i64 col, .bool wrap, .int .i64 fg, .int .i64 bg, .int .i64 fl, .int .i64 g0, .int .i64 g1, .int .i64 sh, .bool org], _, _] w _
  have HB := Lib.hid (bel_alloc w (.cells #[.int .i64 row, .int .i64 col, .bool wrap, .int .i64 fg, .int .i64 bg, .int .i64 fl, .int .i64 g0, .int .i64 g1, .int .i64 sh, .bool org] 91))
  cases hrow : rng row 0 m
  · have Hrow := Lib.hid hrow
    have HE : Hid (cursorB ⟨row, col, wrap, ⟨fg, bg, fl⟩, g0, g1, sh, org⟩ m n = false) := Lib.hid (by simp [cursorB, hrow])
    go_enter Tryd.func70, Tryd.ntmps70
    go_wp2_with fail
    refine pureT (in_is Hrow.out _) ?_
    go_wp2_with fail
    go_ret
    exact ⟨ret_bool HE.out.symm, HB.out⟩
  · have Hrow := Lib.hid hrow
    cases hcol : rng col 0 n
    · have Hcol := Lib.hid hcol
      have HE : Hid (cursorB ⟨row, col, wrap, ⟨fg, bg, fl⟩, g0, g1, sh, org⟩ m n = false) := Lib.hid (by simp [cursorB, hrow, hcol])
      go_enter Tryd.func70, Tryd.ntmps70
      go_wp2_with fail
      refine pureT (in_is Hrow.out _) ?_
      go_wp2_with fail
      refine pureT (in_is Hcol.out _) ?_
      go_wp2_with fail
      go_ret
      exact ⟨ret_bool HE.out.symm, HB.out⟩
    · have Hcol := Lib.hid hcol
      cases wrap
      · skip
        cases hg0 : rng g0 0 1
        · have Hg0 := Lib.hid hg0
          have HE : Hid (cursorB ⟨row, col, false, ⟨fg, bg, fl⟩, g0, g1, sh, org⟩ m n = false) := Lib.hid (by simp [cursorB, hrow, hcol, hg0])
          go_enter Tryd.func70, Tryd.ntmps70
          go_wp2_with fail
          refine pureT (in_is Hrow.out _) ?_
          go_wp2_with fail
          refine pureT (in_is Hcol.out _) ?_
          go_wp2_with fail
          refine pureT (set_is Hg0.out _) ?_
          go_wp2_with fail
          go_ret
          exact ⟨ret_bool HE.out.symm, HB.out⟩
        · have Hg0 := Lib.hid hg0
          cases hg1 : rng g1 0 1
          · have Hg1 := Lib.hid hg1
            have HE : Hid (cursorB ⟨row, col, false, ⟨fg, bg, fl⟩, g0, g1, sh, org⟩ m n = false) := Lib.hid (by simp [cursorB, hrow, hcol, hg0, hg1])
            go_enter Tryd.func70, Tryd.ntmps70
            go_wp2_with fail
            refine pureT (in_is Hrow.out _) ?_
            go_wp2_with fail
            refine pureT (in_is Hcol.out _) ?_
            go_wp2_with fail
            refine pureT (set_is Hg0.out _) ?_
            go_wp2_with fail
            refine pureT (set_is Hg1.out _) ?_
            go_wp2_with fail
            go_ret
            exact ⟨ret_bool HE.out.symm, HB.out⟩
          · have Hg1 := Lib.hid hg1
            cases hsh : rng sh 0 1
            · have Hsh := Lib.hid hsh
              have HE : Hid (cursorB ⟨row, col, false, ⟨fg, bg, fl⟩, g0, g1, sh, org⟩ m n = false) := Lib.hid (by simp [cursorB, hrow, hcol, hg0, hg1, hsh])
              go_enter Tryd.func70, Tryd.ntmps70
              go_wp2_with fail
              refine pureT (in_is Hrow.out _) ?_
              go_wp2_with fail
              refine pureT (in_is Hcol.out _) ?_
              go_wp2_with fail
              refine pureT (set_is Hg0.out _) ?_
              go_wp2_with fail
              refine pureT (set_is Hg1.out _) ?_
              go_wp2_with fail
              refine pureT (in_is Hsh.out _) ?_
              go_wp2_with fail
              go_ret
              exact ⟨ret_bool HE.out.symm, HB.out⟩
            · have Hsh := Lib.hid hsh
              cases hattr : attrOk ⟨fg, bg, fl⟩
              · have Hattr := Lib.hid hattr
                have HE : Hid (cursorB ⟨row, col, false, ⟨fg, bg, fl⟩, g0, g1, sh, org⟩ m n = false) := Lib.hid (by simp [cursorB, hrow, hcol, hg0, hg1, hsh, hattr])
                go_enter Tryd.func70, Tryd.ntmps70
                go_wp2_with fail
                refine pureT (in_is Hrow.out _) ?_
                go_wp2_with fail
                refine pureT (in_is Hcol.out _) ?_
                go_wp2_with fail
                refine pureT (set_is Hg0.out _) ?_
                go_wp2_with fail
                refine pureT (set_is Hg1.out _) ?_
                go_wp2_with fail
                refine pureT (in_is Hsh.out _) ?_
                go_wp2_with fail
                refine (lookFits ⟨fg, bg, fl⟩ _ Hattr.out (w.alloc (.cells #[.int .i64 row, .int .i64 col, .bool false, .int .i64 fg, .int .i64 bg, .int .i64 fl, .int .i64 g0, .int .i64 g1, .int .i64 sh, .bool org] 91)) (w.heap.size + 1) (by simp)).mono ?_; rintro e w1 ⟨rfl, hb1⟩
                have HB1 : Hid (Below w.heap.size w w1) := Lib.hid ((HB.out.alloc HB.out.size _).trans (hb1.mono (by omega)))
                clear hb1
                go_wp2_with fail
                go_ret
                exact ⟨ret_bool HE.out.symm, HB1.out⟩
              · have Hattr := Lib.hid hattr
                have HE : Hid (cursorB ⟨row, col, false, ⟨fg, bg, fl⟩, g0, g1, sh, org⟩ m n = true) := Lib.hid (by simp [cursorB, hrow, hcol, hg0, hg1, hsh, hattr])
                go_enter Tryd.func70, Tryd.ntmps70
                go_wp2_with fail
                refine pureT (in_is Hrow.out _) ?_
                go_wp2_with fail
                refine pureT (in_is Hcol.out _) ?_
                go_wp2_with fail
                refine pureT (set_is Hg0.out _) ?_
                go_wp2_with fail
                refine pureT (set_is Hg1.out _) ?_
                go_wp2_with fail
                refine pureT (in_is Hsh.out _) ?_
                go_wp2_with fail
                refine (lookFits ⟨fg, bg, fl⟩ _ Hattr.out (w.alloc (.cells #[.int .i64 row, .int .i64 col, .bool false, .int .i64 fg, .int .i64 bg, .int .i64 fl, .int .i64 g0, .int .i64 g1, .int .i64 sh, .bool org] 91)) (w.heap.size + 1) (by simp)).mono ?_; rintro e w1 ⟨rfl, hb1⟩
                have HB1 : Hid (Below w.heap.size w w1) := Lib.hid ((HB.out.alloc HB.out.size _).trans (hb1.mono (by omega)))
                clear hb1
                go_wp2_with fail
                go_ret
                exact ⟨ret_bool HE.out.symm, HB1.out⟩
      · cases hw : (col == n)
        · have HE : Hid (cursorB ⟨row, col, true, ⟨fg, bg, fl⟩, g0, g1, sh, org⟩ m n = false) := Lib.hid (by simp [cursorB, hrow, hcol, hw])
          go_enter Tryd.func70, Tryd.ntmps70
          go_wp2_with fail
          refine pureT (in_is Hrow.out _) ?_
          go_wp2_with fail
          refine pureT (in_is Hcol.out _) ?_
          go_wp2_with fail
          go_ret
          exact ⟨ret_bool HE.out.symm, HB.out⟩
        · skip
          cases hg0 : rng g0 0 1
          · have Hg0 := Lib.hid hg0
            have HE : Hid (cursorB ⟨row, col, true, ⟨fg, bg, fl⟩, g0, g1, sh, org⟩ m n = false) := Lib.hid (by simp [cursorB, hrow, hcol, hw, hg0])
            go_enter Tryd.func70, Tryd.ntmps70
            go_wp2_with fail
            refine pureT (in_is Hrow.out _) ?_
            go_wp2_with fail
            refine pureT (in_is Hcol.out _) ?_
            go_wp2_with fail
            refine pureT (set_is Hg0.out _) ?_
            go_wp2_with fail
            go_ret
            exact ⟨ret_bool HE.out.symm, HB.out⟩
          · have Hg0 := Lib.hid hg0
            cases hg1 : rng g1 0 1
            · have Hg1 := Lib.hid hg1
              have HE : Hid (cursorB ⟨row, col, true, ⟨fg, bg, fl⟩, g0, g1, sh, org⟩ m n = false) := Lib.hid (by simp [cursorB, hrow, hcol, hw, hg0, hg1])
              go_enter Tryd.func70, Tryd.ntmps70
              go_wp2_with fail
              refine pureT (in_is Hrow.out _) ?_
              go_wp2_with fail
              refine pureT (in_is Hcol.out _) ?_
              go_wp2_with fail
              refine pureT (set_is Hg0.out _) ?_
              go_wp2_with fail
              refine pureT (set_is Hg1.out _) ?_
              go_wp2_with fail
              go_ret
              exact ⟨ret_bool HE.out.symm, HB.out⟩
            · have Hg1 := Lib.hid hg1
              cases hsh : rng sh 0 1
              · have Hsh := Lib.hid hsh
                have HE : Hid (cursorB ⟨row, col, true, ⟨fg, bg, fl⟩, g0, g1, sh, org⟩ m n = false) := Lib.hid (by simp [cursorB, hrow, hcol, hw, hg0, hg1, hsh])
                go_enter Tryd.func70, Tryd.ntmps70
                go_wp2_with fail
                refine pureT (in_is Hrow.out _) ?_
                go_wp2_with fail
                refine pureT (in_is Hcol.out _) ?_
                go_wp2_with fail
                refine pureT (set_is Hg0.out _) ?_
                go_wp2_with fail
                refine pureT (set_is Hg1.out _) ?_
                go_wp2_with fail
                refine pureT (in_is Hsh.out _) ?_
                go_wp2_with fail
                go_ret
                exact ⟨ret_bool HE.out.symm, HB.out⟩
              · have Hsh := Lib.hid hsh
                cases hattr : attrOk ⟨fg, bg, fl⟩
                · have Hattr := Lib.hid hattr
                  have HE : Hid (cursorB ⟨row, col, true, ⟨fg, bg, fl⟩, g0, g1, sh, org⟩ m n = false) := Lib.hid (by simp [cursorB, hrow, hcol, hw, hg0, hg1, hsh, hattr])
                  go_enter Tryd.func70, Tryd.ntmps70
                  go_wp2_with fail
                  refine pureT (in_is Hrow.out _) ?_
                  go_wp2_with fail
                  refine pureT (in_is Hcol.out _) ?_
                  go_wp2_with fail
                  refine pureT (set_is Hg0.out _) ?_
                  go_wp2_with fail
                  refine pureT (set_is Hg1.out _) ?_
                  go_wp2_with fail
                  refine pureT (in_is Hsh.out _) ?_
                  go_wp2_with fail
                  refine (lookFits ⟨fg, bg, fl⟩ _ Hattr.out (w.alloc (.cells #[.int .i64 row, .int .i64 col, .bool true, .int .i64 fg, .int .i64 bg, .int .i64 fl, .int .i64 g0, .int .i64 g1, .int .i64 sh, .bool org] 91)) (w.heap.size + 1) (by simp)).mono ?_; rintro e w1 ⟨rfl, hb1⟩
                  have HB1 : Hid (Below w.heap.size w w1) := Lib.hid ((HB.out.alloc HB.out.size _).trans (hb1.mono (by omega)))
                  clear hb1
                  go_wp2_with fail
                  go_ret
                  exact ⟨ret_bool HE.out.symm, HB1.out⟩
                · have Hattr := Lib.hid hattr
                  have HE : Hid (cursorB ⟨row, col, true, ⟨fg, bg, fl⟩, g0, g1, sh, org⟩ m n = true) := Lib.hid (by simp [cursorB, hrow, hcol, hw, hg0, hg1, hsh, hattr])
                  go_enter Tryd.func70, Tryd.ntmps70
                  go_wp2_with fail
                  refine pureT (in_is Hrow.out _) ?_
                  go_wp2_with fail
                  refine pureT (in_is Hcol.out _) ?_
                  go_wp2_with fail
                  refine pureT (set_is Hg0.out _) ?_
                  go_wp2_with fail
                  refine pureT (set_is Hg1.out _) ?_
                  go_wp2_with fail
                  refine pureT (in_is Hsh.out _) ?_
                  go_wp2_with fail
                  refine (lookFits ⟨fg, bg, fl⟩ _ Hattr.out (w.alloc (.cells #[.int .i64 row, .int .i64 col, .bool true, .int .i64 fg, .int .i64 bg, .int .i64 fl, .int .i64 g0, .int .i64 g1, .int .i64 sh, .bool org] 91)) (w.heap.size + 1) (by simp)).mono ?_; rintro e w1 ⟨rfl, hb1⟩
                  have HB1 : Hid (Below w.heap.size w w1) := Lib.hid ((HB.out.alloc HB.out.size _).trans (hb1.mono (by omega)))
                  clear hb1
                  go_wp2_with fail
                  go_ret
                  exact ⟨ret_bool HE.out.symm, HB1.out⟩
end Scr
end
section
open Go.RowKit
namespace Scr
open Go.Proofs.YtjcfbeiljdohcaaDoor.Row
def partVals (s : S) (x y z : Value) : Array Value :=
  #[.iface 30 (gridV s.main x), .iface 30 (gridV s.other y), .iface 91 (curV s.cur), .iface 91 (curV s.saved), .iface 91 (curV s.too),
    .iface 130 (.agg #[.int .i64 s.top, .int .i64 s.bottom]), .iface 131 z, .iface 132 (.int .i64 s.modes), .iface 133 (.string ⟨s.title.toArray⟩), .iface 134 (.int .i64 s.last)]
set_option maxHeartbeats 1600000 in
theorem parts_any (s : S) (x y z : Value) (w : World) :
    Calls Tryd.prog 57 #[sv s x y z] w fun e w' => ∃ g, e = .returned (.slice (some ⟨g, 0, none⟩) 10 10) ∧ w'.heap[g]? = some (.cells (partVals s x y z) 115 (0, 0)) ∧ Below w.heap.size w w' := by
  have HB : Hid (Below w.heap.size w ((w.alloc (.cells (sarr s x y z) 94)).alloc (.cells (partVals s x y z) 115))) := Lib.hid (((Below.refl _ _).alloc (Nat.le_refl _) _).alloc (by simp) _)
  have HH : Hid (((w.alloc (.cells (sarr s x y z) 94)).alloc (.cells (partVals s x y z) 115)).heap[w.heap.size + 1]? = some (.cells (partVals s x y z) 115 (0, 0))) := Lib.hid (heap_alloc2_new _ _ _)
  go_enter Tryd.func57, Tryd.ntmps57
  go_wp2_with fail
  go_ret
  exact ⟨_, rfl, HH.out, HB.out⟩
@[go_sem] theorem s_Grid_Grid (v : Value) (w : World) : (Instr.typeAssert (.iface 30 v) 115 30 true).run Tryd.prog w = .ok (.tuple #[v, .bool true]) w := by kernel_rfl
@[go_sem] theorem s_Cursor_Grid (v : Value) (w : World) : (Instr.typeAssert (.iface 91 v) 115 30 true).run Tryd.prog w = .ok (.tuple #[.agg #[.int .i64 0, .int .i64 0, .slice none 0 0], .bool false]) w := by kernel_rfl
@[go_sem] theorem s_Cursor_Cursor (v : Value) (w : World) : (Instr.typeAssert (.iface 91 v) 115 91 true).run Tryd.prog w = .ok (.tuple #[v, .bool true]) w := by kernel_rfl
@[go_sem] theorem s_margins_Grid (v : Value) (w : World) : (Instr.typeAssert (.iface 130 v) 115 30 true).run Tryd.prog w = .ok (.tuple #[.agg #[.int .i64 0, .int .i64 0, .slice none 0 0], .bool false]) w := by kernel_rfl
@[go_sem] theorem s_margins_Cursor (v : Value) (w : World) : (Instr.typeAssert (.iface 130 v) 115 91 true).run Tryd.prog w = .ok (.tuple #[.agg #[.int .i64 0, .int .i64 0, .bool false, .int .i64 0, .int .i64 0, .int .i64 0, .int .i64 0, .int .i64 0, .int .i64 0, .bool false], .bool false]) w := by kernel_rfl
@[go_sem] theorem s_margins_margins (v : Value) (w : World) : (Instr.typeAssert (.iface 130 v) 115 130 true).run Tryd.prog w = .ok (.tuple #[v, .bool true]) w := by kernel_rfl
@[go_sem] theorem s_stops_Grid (v : Value) (w : World) : (Instr.typeAssert (.iface 131 v) 115 30 true).run Tryd.prog w = .ok (.tuple #[.agg #[.int .i64 0, .int .i64 0, .slice none 0 0], .bool false]) w := by kernel_rfl
@[go_sem] theorem s_stops_Cursor (v : Value) (w : World) : (Instr.typeAssert (.iface 131 v) 115 91 true).run Tryd.prog w = .ok (.tuple #[.agg #[.int .i64 0, .int .i64 0, .bool false, .int .i64 0, .int .i64 0, .int .i64 0, .int .i64 0, .int .i64 0, .int .i64 0, .bool false], .bool false]) w := by kernel_rfl
@[go_sem] theorem s_stops_margins (v : Value) (w : World) : (Instr.typeAssert (.iface 131 v) 115 130 true).run Tryd.prog w = .ok (.tuple #[.agg #[.int .i64 0, .int .i64 0], .bool false]) w := by kernel_rfl
@[go_sem] theorem s_stops_stops (v : Value) (w : World) : (Instr.typeAssert (.iface 131 v) 115 131 true).run Tryd.prog w = .ok (.tuple #[v, .bool true]) w := by kernel_rfl
@[go_sem] theorem s_modes_Grid (v : Value) (w : World) : (Instr.typeAssert (.iface 132 v) 115 30 true).run Tryd.prog w = .ok (.tuple #[.agg #[.int .i64 0, .int .i64 0, .slice none 0 0], .bool false]) w := by kernel_rfl
@[go_sem] theorem s_modes_Cursor (v : Value) (w : World) : (Instr.typeAssert (.iface 132 v) 115 91 true).run Tryd.prog w = .ok (.tuple #[.agg #[.int .i64 0, .int .i64 0, .bool false, .int .i64 0, .int .i64 0, .int .i64 0, .int .i64 0, .int .i64 0, .int .i64 0, .bool false], .bool false]) w := by kernel_rfl
@[go_sem] theorem s_modes_margins (v : Value) (w : World) : (Instr.typeAssert (.iface 132 v) 115 130 true).run Tryd.prog w = .ok (.tuple #[.agg #[.int .i64 0, .int .i64 0], .bool false]) w := by kernel_rfl
@[go_sem] theorem s_modes_stops (v : Value) (w : World) : (Instr.typeAssert (.iface 132 v) 115 131 true).run Tryd.prog w = .ok (.tuple #[.slice none 0 0, .bool false]) w := by kernel_rfl
@[go_sem] theorem s_modes_modes (v : Value) (w : World) : (Instr.typeAssert (.iface 132 v) 115 132 true).run Tryd.prog w = .ok (.tuple #[v, .bool true]) w := by kernel_rfl
@[go_sem] theorem s_title_Grid (v : Value) (w : World) : (Instr.typeAssert (.iface 133 v) 115 30 true).run Tryd.prog w = .ok (.tuple #[.agg #[.int .i64 0, .int .i64 0, .slice none 0 0], .bool false]) w := by kernel_rfl
@[go_sem] theorem s_title_Cursor (v : Value) (w : World) : (Instr.typeAssert (.iface 133 v) 115 91 true).run Tryd.prog w = .ok (.tuple #[.agg #[.int .i64 0, .int .i64 0, .bool false, .int .i64 0, .int .i64 0, .int .i64 0, .int .i64 0, .int .i64 0, .int .i64 0, .bool false], .bool false]) w := by kernel_rfl
@[go_sem] theorem s_title_margins (v : Value) (w : World) : (Instr.typeAssert (.iface 133 v) 115 130 true).run Tryd.prog w = .ok (.tuple #[.agg #[.int .i64 0, .int .i64 0], .bool false]) w := by kernel_rfl
@[go_sem] theorem s_title_stops (v : Value) (w : World) : (Instr.typeAssert (.iface 133 v) 115 131 true).run Tryd.prog w = .ok (.tuple #[.slice none 0 0, .bool false]) w := by kernel_rfl
@[go_sem] theorem s_title_modes (v : Value) (w : World) : (Instr.typeAssert (.iface 133 v) 115 132 true).run Tryd.prog w = .ok (.tuple #[.int .i64 0, .bool false]) w := by kernel_rfl
@[go_sem] theorem s_title_title (v : Value) (w : World) : (Instr.typeAssert (.iface 133 v) 115 133 true).run Tryd.prog w = .ok (.tuple #[v, .bool true]) w := by kernel_rfl
@[go_sem] theorem s_last_Grid (v : Value) (w : World) : (Instr.typeAssert (.iface 134 v) 115 30 true).run Tryd.prog w = .ok (.tuple #[.agg #[.int .i64 0, .int .i64 0, .slice none 0 0], .bool false]) w := by kernel_rfl
@[go_sem] theorem s_last_Cursor (v : Value) (w : World) : (Instr.typeAssert (.iface 134 v) 115 91 true).run Tryd.prog w = .ok (.tuple #[.agg #[.int .i64 0, .int .i64 0, .bool false, .int .i64 0, .int .i64 0, .int .i64 0, .int .i64 0, .int .i64 0, .int .i64 0, .bool false], .bool false]) w := by kernel_rfl
@[go_sem] theorem s_last_margins (v : Value) (w : World) : (Instr.typeAssert (.iface 134 v) 115 130 true).run Tryd.prog w = .ok (.tuple #[.agg #[.int .i64 0, .int .i64 0], .bool false]) w := by kernel_rfl
@[go_sem] theorem s_last_stops (v : Value) (w : World) : (Instr.typeAssert (.iface 134 v) 115 131 true).run Tryd.prog w = .ok (.tuple #[.slice none 0 0, .bool false]) w := by kernel_rfl
@[go_sem] theorem s_last_modes (v : Value) (w : World) : (Instr.typeAssert (.iface 134 v) 115 132 true).run Tryd.prog w = .ok (.tuple #[.int .i64 0, .bool false]) w := by kernel_rfl
@[go_sem] theorem s_last_title (v : Value) (w : World) : (Instr.typeAssert (.iface 134 v) 115 133 true).run Tryd.prog w = .ok (.tuple #[.string ⟨#[]⟩, .bool false]) w := by kernel_rfl
@[go_sem] theorem s_must (v : Value) (w : World) : (Instr.typeAssert (.iface 134 v) 115 134 false).run Tryd.prog w = .ok v w := by kernel_rfl
end Scr
end
end Go.Proofs.YtjcfbeiljdohcaaDoor
