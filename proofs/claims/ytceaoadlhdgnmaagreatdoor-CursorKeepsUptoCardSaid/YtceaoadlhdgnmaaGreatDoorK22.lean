/- Joined texts: RowRefBl. -/
import Derived.Test.YtceaoadlhdgnmaaGreatDoorK2
section
/- The page's blanks, many. -/
namespace Go.Proofs.YtceaoadlhdgnmaaGreatDoor
set_option maxRecDepth 100000
open Go.RowKit
namespace Row

set_option maxHeartbeats 800000 in
theorem refBlank_big (n : Nat) (a : Look) (w : World) (hn : n ≤ 1000000) :
    Calls Tryz.prog 113 #[.int .i64 n, .agg #[.int .i64 a.fg, .int .i64 a.bg, .int .i64 a.flags]] w fun e w' => ∃ v, e = .returned v ∧ OwnCs w' w.heap.size v (List.replicate n (blank a)) ∧ Below w.heap.size w w' := by
  have HB : Hid (∀ w', Calls Tryz.prog 148 #[.agg #[.int .i64 a.fg, .int .i64 a.bg, .int .i64 a.flags]] w' fun e w'' => e = .returned (.agg #[.int .i64 32, .string ⟨#[]⟩, .int .i64 0, .int .i64 (-1), .int .i64 a.bg, .int .i64 0]) ∧ Below w'.heap.size w' w'') := Lib.hid (fun w' => refblank_any a w')
  have HO : Hid (∀ w' : World, Cs (w'.alloc (.cells #[.int .i64 32, .string ⟨#[]⟩, .int .i64 0, .int .i64 (-1), .int .i64 a.bg, .int .i64 0] 57)) (.slice (some ⟨w'.heap.size, 0, none⟩) 1 1) [blank a]) := Lib.hid fun w' => Cs.one w' (blank a) _ 1 _ rfl
  have hb0 : Below w.heap.size w (w.alloc (.cells #[.int .i64 a.fg, .int .i64 a.bg, .int .i64 a.flags] 31)) := (Below.refl _ _).alloc (Nat.le_refl _) _
  have hk0 : (w.alloc (.cells #[.int .i64 a.fg, .int .i64 a.bg, .int .i64 a.flags] 31)).heap[w.heap.size]? = some (.cells #[.int .i64 a.fg, .int .i64 a.bg, .int .i64 a.flags] 31 (0, 0)) := heap_alloc_new _ _
  have HB0 := Lib.hid hb0
  have HK0 := Lib.hid hk0
  clear hb0 hk0
  go_enter Tryz.func113, Tryz.ntmps113
  go_wp2_with fail
  go_loopw [5, 6] (fun v i wr => ∃ k : Nat, k ≤ n ∧ i = .int .i64 k ∧ OwnCs wr (w.heap.size + 1) v (List.replicate k (blank a)) ∧ Below (w.heap.size + 1) (w.alloc (.cells #[.int .i64 a.fg, .int .i64 a.bg, .int .i64 a.flags] 31)) wr) (fun _ i _ => n - (intOf i).toNat)
  case atStart => exact ⟨0, by omega, rfl, OwnCs.nil _ _, Below.refl _ _⟩
  case round =>
    obtain ⟨k, hk, rfl, hown, hbl⟩ := hrel
    have HOW := Lib.hid hown
    have HBL := Lib.hid hbl
    have hsz : w.heap.size + 1 ≤ wr.heap.size := by have := hbl.size; simpa using this
    by_cases hlt : k < n
    · have hkk := hbl.block w.heap.size (by omega)
      rw [HK0.out] at hkk
      obtain ⟨k0, k1, k2⟩ := box_cells hkk
      have HR : Hid (List.replicate (k + 1) (blank a) = List.replicate k (blank a) ++ [blank a]) := Lib.hid (by rw [← List.replicate_append_replicate]; rfl)
      clear hkk hown hbl
      go_wp2_with fail
      refine (HB.out _).mono ?_; rintro e w1 ⟨rfl, hb1⟩
      have HB1 : Hid (Below (w.heap.size + 1) (w.alloc (.cells #[.int .i64 a.fg, .int .i64 a.bg, .int .i64 a.flags] 31)) w1) := Lib.hid (HBL.out.trans (hb1.mono hsz))
      have HO1 := Lib.hid (HOW.out.kept hb1)
      have hsz1 : w.heap.size + 1 ≤ w1.heap.size := Nat.le_trans hsz hb1.size
      clear hb1 k0 k1 k2
      go_wp2_with (at_builtin; refine wp_append_cs rfl rfl (w.heap.size + 1) _ _ (List.replicate k (blank a)) [blank a] rfl (HO1.out.kept ((Below.refl _ _).alloc (Nat.le_refl _) _)) rfl (HO.out w1) (by rw [List.length_replicate]; simp; omega) (by simp; omega) ?_; intro v2 w2 ho2 hg2 hat2; have HO2 := Lib.hid ho2; have HB2 : Hid (Below (w.heap.size + 1) (w.alloc (.cells #[.int .i64 a.fg, .int .i64 a.bg, .int .i64 a.flags] 31)) w2) := Lib.hid (below_cs (HB1.out.alloc hsz1 _) hg2 (by simp; omega) (HO1.out.kept ((Below.refl _ _).alloc (Nat.le_refl _) _))); clear ho2 hg2 hat2)
      go_roundw
      case rel => exact ⟨k + 1, by omega, by go_num, by rw [HR.out]; exact HO2.out, HB2.out⟩
      case measure => simp [intOf]; omega
    · have hkn : k = n := by omega
      subst hkn
      clear hown hbl
      go_wp2_with fail
      go_ret
      exact ⟨_, rfl, HOW.out.low (Nat.le_succ _), HB0.out.trans (HBL.out.mono (Nat.le_succ _))⟩

end Row
end Go.Proofs.YtceaoadlhdgnmaaGreatDoor
end
