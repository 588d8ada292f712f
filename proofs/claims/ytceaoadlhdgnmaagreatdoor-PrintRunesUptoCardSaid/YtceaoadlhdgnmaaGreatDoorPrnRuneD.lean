/- The developers' Rune, of whatever screen and rune: printed, or refused. -/
import Derived.Test.YtceaoadlhdgnmaaGreatDoorMRestS
import Derived.Test.YtceaoadlhdgnmaaGreatDoorM405
import Derived.Test.YtceaoadlhdgnmaaGreatDoorM118
namespace Go.Proofs.YtceaoadlhdgnmaaGreatDoor
set_option maxRecDepth 100000
open Go.RowKit
namespace Scr
open Go.Proofs.YtceaoadlhdgnmaaGreatDoor.Row Wid

theorem look_nobody (r : Int) (h : wid r = -1) (w : World) : Calls Tryz.prog 80 #[.int .i64 r] w fun e w' => e = .returned (.iface 88 (.agg #[])) ∧ Below w.heap.size w w' := by
  have HO := Lib.hid (Row.of_any r w)
  rw [h] at HO
  clear h
  go_enter Tryz.func80, Tryz.ntmps80
  go_wp2_with fail
  refine HO.out.mono ?_; rintro e w1 ⟨rfl, hb⟩
  have HB := Lib.hid hb
  clear hb HO
  go_wp2_with fail
  go_ret
  exact ⟨rfl, HB.out⟩
set_option maxHeartbeats 3200000 in
theorem rune_none (s : S) (x y z : Value) (r : Int) (w : World) (hr : wid r = -1) :
    Calls Tryz.prog 33 #[sv s x y z, .int .i64 r] w fun e w' => e = .returned (.tuple #[sv noS nilS nilS nilS, .int .i64 1]) ∧ Below w.heap.size w w' := by
  have H0 := Lib.hid (Rz.start w s x y z)
  have HLK := Lib.hid (fun W => look_nobody r hr W)
  clear hr
  go_enter Tryz.func33, Tryz.ntmps33
  go_wp2_with (refine wp_allocS1 (w := w) rfl rfl ?_)
  refine (HLK.out _).mono ?_; rintro e w1 ⟨rfl, hb⟩
  have H1 := Lib.hid (H0.out.kept hb)
  clear hb H0 HLK
  have H2 : Hid (∀ o, Rz w s x y z (w1.alloc o)) := Lib.hid fun o => H1.out.kept (bel_alloc w1 o)
  go_wp2_with (refine wp_storeS (b := w.heap.size + 1) (A := zarr) rfl rfl rfl rfl rfl (sarr_one rfl rfl rfl) (H2.out _).b1 rfl ?_; intro w7 h7)
  refine bodyPost_ret (ret2S (s := noS) (x := nilS) (y := nilS) (z := nilS) rfl rfl h7.box rfl) rfl ?_
  exact ⟨rfl, h7.below _ _ (by omega) (H2.out _).bel⟩
set_option maxHeartbeats 3200000 in
theorem rune_nobody (s : S) (x y z : Value) (r : Int) (n : Nat) (w : World) (h : In w s x y z) (hh : Holds s) (hT : Tabs w) (hok : okB s = false) (hr : wid r = n) (hn : n = 1 ∨ n = 2) :
    Calls Tryz.prog 33 #[sv s x y z, .int .i64 r] w fun e w' => e = .returned (.tuple #[sv noS nilS nilS nilS, .int .i64 1]) ∧ Below w.heap.size w w' := by
  have H0 := Lib.hid (Rz.start w s x y z)
  have HCK : Hid (∀ W, Below w.heap.size w W → Calls Tryz.prog 74 #[sv s x y z] W fun e w' => e = .returned (.int .i64 1) ∧ Below W.heap.size W w') := Lib.hid fun W hb => by
    have k := check_any s x y z W (h.kept hb) hh (hT.kept hb)
    rw [hok] at k
    exact k
  have HLK := Lib.hid (fun W => look_body r n hr hn W)
  clear h hh hT hok hr hn
  go_enter Tryz.func33, Tryz.ntmps33
  go_wp2_with (refine wp_allocS1 (w := w) rfl rfl ?_)
  refine (HLK.out _).mono ?_; rintro e w1 ⟨rfl, hb⟩
  have H1 := Lib.hid (H0.out.kept hb)
  clear hb H0 HLK
  have H2 : Hid (∀ o, Rz w s x y z (w1.alloc o)) := Lib.hid fun o => H1.out.kept (bel_alloc w1 o)
  go_wp2_with (refine wp_loadS (b := w.heap.size) (s := s) rfl rfl rfl (H2.out _).b0 ?_)
  refine (HCK.out _ (H2.out _).bel).mono ?_; rintro e w3 ⟨rfl, hb⟩
  have H3 := Lib.hid ((H2.out _).kept hb)
  clear hb H1 H2 HCK
  go_wp2_with (refine wp_storeS (b := w.heap.size + 1) (A := zarr) rfl rfl rfl rfl rfl (sarr_one rfl rfl rfl) H3.out.b1 rfl ?_; intro w7 h7)
  refine bodyPost_ret (ret2S (s := noS) (x := nilS) (y := nilS) (z := nilS) rfl rfl h7.box rfl) rfl ?_
  exact ⟨rfl, h7.below _ _ (by omega) H3.out.bel⟩
set_option maxHeartbeats 3200000 in
theorem rune_nomark (s : S) (x y z : Value) (r : Int) (w : World) (h : In w s x y z) (hh : Holds s) (hT : Tabs w) (hok : okB s = false) (hr : wid r = 0) :
    Calls Tryz.prog 33 #[sv s x y z, .int .i64 r] w fun e w' => e = .returned (.tuple #[sv noS nilS nilS nilS, .int .i64 1]) ∧ Below w.heap.size w w' := by
  have H0 := Lib.hid (Rz.start w s x y z)
  have HCK : Hid (∀ W, Below w.heap.size w W → Calls Tryz.prog 74 #[sv s x y z] W fun e w' => e = .returned (.int .i64 1) ∧ Below W.heap.size W w') := Lib.hid fun W hb => by
    have k := check_any s x y z W (h.kept hb) hh (hT.kept hb)
    rw [hok] at k
    exact k
  have HLK := Lib.hid (fun W => look_mark r hr W)
  clear h hh hT hok hr
  go_enter Tryz.func33, Tryz.ntmps33
  go_wp2_with (refine wp_allocS1 (w := w) rfl rfl ?_)
  refine (HLK.out _).mono ?_; rintro e w1 ⟨rfl, hb⟩
  have H1 := Lib.hid (H0.out.kept hb)
  clear hb H0 HLK
  have H2 : Hid (∀ o, Rz w s x y z (w1.alloc o)) := Lib.hid fun o => H1.out.kept (bel_alloc w1 o)
  go_wp2_with (refine wp_loadS (b := w.heap.size) (s := s) rfl rfl rfl (H2.out _).b0 ?_)
  refine (HCK.out _ (H2.out _).bel).mono ?_; rintro e w3 ⟨rfl, hb⟩
  have H3 := Lib.hid ((H2.out _).kept hb)
  clear hb H1 H2 HCK
  go_wp2_with (refine wp_storeS (b := w.heap.size + 1) (A := zarr) rfl rfl rfl rfl rfl (sarr_one rfl rfl rfl) H3.out.b1 rfl ?_; intro w7 h7)
  refine bodyPost_ret (ret2S (s := noS) (x := nilS) (y := nilS) (z := nilS) rfl rfl h7.box rfl) rfl ?_
  exact ⟨rfl, h7.below _ _ (by omega) H3.out.bel⟩
/-- A rune printed, whatever comes: what comes back, its code. -/
theorem runeD (s : S) (x y z : Value) (r : Int) (w : World) (h : In w s x y z) (hh : Holds s) (hT : Tabs w) :
    Calls Tryz.prog 33 #[sv s x y z, .int .i64 r] w fun e w' => ∃ X x' y' z' code, e = .returned (.tuple #[sv X x' y' z', .int .i64 code]) ∧ Ans w w' (okB s && decide (0 ≤ wid r)) (printS s r) X x' y' z' code := by
  have hno : ∀ (_ : (okB s && decide (0 ≤ wid r)) = false), Calls Tryz.prog 33 #[sv s x y z, .int .i64 r] w (fun e w' => e = .returned (.tuple #[sv noS nilS nilS nilS, .int .i64 1]) ∧ Below w.heap.size w w') → Calls Tryz.prog 33 #[sv s x y z, .int .i64 r] w fun e w' => ∃ X x' y' z' code, e = .returned (.tuple #[sv X x' y' z', .int .i64 code]) ∧ Ans w w' (okB s && decide (0 ≤ wid r)) (printS s r) X x' y' z' code := fun hm k => by
    refine k.mono ?_
    rintro e w' ⟨rfl, hb⟩
    exact ⟨_, _, _, _, _, rfl, ans_no hm hb⟩
  rcases wid_cases r with e | e | e | e
  · exact hno (by rw [decide_eq_false (by omega), Bool.and_false]) (rune_none s x y z r w e)
  all_goals
    cases ho : okB s
    · first
        | exact ho ▸ hno (by rw [ho]; rfl) (rune_nomark s x y z r w h hh hT ho e)
        | exact ho ▸ hno (by rw [ho]; rfl) (rune_nobody s x y z r 1 w h hh hT ho e (.inl rfl))
        | exact ho ▸ hno (by rw [ho]; rfl) (rune_nobody s x y z r 2 w h hh hT ho e (.inr rfl))
    · refine (rune_any s x y z r w h hh hT ho (by omega)).mono ?_
      rintro e' w' ⟨x', y', z', rfl, ho', hb⟩
      rw [decide_eq_true (by omega), Bool.and_true]
      exact ⟨_, _, _, _, _, rfl, hb, ho', rfl, fun _ => rfl, fun q => by cases q⟩
end Scr
end Go.Proofs.YtceaoadlhdgnmaaGreatDoor
