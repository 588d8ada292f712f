/- The law on grids wakes. -/
import Derived.Test.YthkfcfmnccfbnaaGrdNew
namespace Go.Proofs.Ythkfcfmnccfbnaa
set_option maxRecDepth 100000
open Go.RowKit
namespace Row

def w2A : Look := ⟨-1, 2, 0⟩
def w5A : Look := ⟨-1, 5, 0⟩
theorem held_blanks (n : Nat) (a : Look) : Held (List.replicate n (blank a)) := fun i hi => by
  rw [g_eq hi, List.getElem_replicate]; exact Nat.zero_le _
theorem woken : (moved (news 2 1 w2A) 0 1 ((1 : Nat) : Int) 1 w5A).flatten = [blank w2A, blank w5A] := by rfl
theorem fresh2 : (news 2 1 w2A).flatten = List.replicate 2 (blank w2A) := by rfl
set_option maxHeartbeats 4000000 in
theorem wakes_any (w : World) : Calls Try.prog 11 #[] w fun e w' => e = .returned (.bool true) ∧ Below w.heap.size w w' := by
  have HN : Hid (∀ w', Calls Try.prog 23 #[.int .i64 2, .int .i64 1, .agg #[.int .i64 (-1), .int .i64 2, .int .i64 0]] w' fun e w'' =>
      ∃ v, e = .returned (.tuple #[.agg #[.int .i64 2, .int .i64 1, v], .int .i64 0]) ∧ OwnCs w'' w'.heap.size v (List.replicate 2 (blank w2A)) ∧ Below w'.heap.size w' w'') := Lib.hid fun w' => by
    have h := new_fits 2 1 w2A w' (by decide) (by omega) (by omega) (by omega) (by omega)
    rw [fresh2] at h
    exact h
  have HU : Hid (∀ x w', Rm w' x (List.replicate 2 (blank w2A)) → Calls Try.prog 7 #[.agg #[.int .i64 2, .int .i64 1, x], .int .i64 0, .int .i64 1, .int .i64 1, .agg #[.int .i64 (-1), .int .i64 5, .int .i64 0]] w' fun e w'' =>
      ∃ v, e = .returned (.tuple #[.agg #[.int .i64 2, .int .i64 1, v], .int .i64 0]) ∧ OwnCs w'' w'.heap.size v [blank w2A, blank w5A] ∧ Below w'.heap.size w' w'') := Lib.hid fun x w' hx => by
    have h := up_fits 2 1 (news 2 1 w2A) w5A 0 1 1 x w' (news_rws (by omega) (by omega) (by omega) (by omega) (by decide)) (by rw [fresh2]; exact hx) (by rw [fresh2]; exact held_blanks 2 w2A) (by decide) (by omega) (by omega) (by omega)
    rw [woken] at h
    exact h
  go_enter Try.func11, Try.ntmps11
  go_wp2_with fail
  refine (HN.out _).mono ?_; rintro e w1 ⟨v1, rfl, ho1, hb1⟩
  have HB1 := Lib.hid hb1
  have HR1 : Hid (Rm (w1.alloc (gbox 2 1 v1)) v1 (List.replicate 2 (blank w2A))) := Lib.hid (ho1.rm.kept ((Below.refl _ _).alloc (Nat.le_refl _) _))
  obtain ⟨A1, c1, rfl⟩ := own_shape ho1
  rw [List.length_replicate] at HR1 ⊢
  clear ho1 hb1
  go_wp2_with fail
  refine (HU.out _ _ HR1.out).mono ?_; rintro e w2 ⟨v2, rfl, ho2, hb2⟩
  have HB2 : Hid (Below w.heap.size w w2) := Lib.hid ((HB1.out.alloc HB1.out.size _).trans (hb2.mono (by have := HB1.out.size; simp; omega)))
  rcases ho2.shape with ⟨_, e⟩ | ⟨b, cap, rfl, _, _⟩
  · cases e
  · have k1 : w2.cell? ⟨b, 4, none⟩ = some (.int .i64 2) := ho2.cell (k := 0) (j := 4) (by simp) (by decide)
    have k2 : w2.cell? ⟨b, 10, none⟩ = some (.int .i64 5) := ho2.cell (k := 1) (j := 4) (by simp) (by decide)
    have zb := World.block_lt_of_cell? w2 _ k1
    clear ho2 hb2
    go_wp2_with fail
    refine (num_eq _ _).mono ?_; rintro e w' ⟨rfl, rfl⟩
    go_wp2_with fail
    refine (num_eq _ _).mono ?_; rintro e w' ⟨rfl, rfl⟩
    go_wp2_with fail
    go_ret
    exact ⟨rfl, HB2.out.alloc HB2.out.size _⟩
end Row
end Go.Proofs.Ythkfcfmnccfbnaa
