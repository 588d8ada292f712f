/- Stops anew, cut or made longer, and one set. -/
import Derived.Test.YtenhgkhonaglaaaTabNew
namespace Go.Proofs.Ytenhgkhonaglaaa
set_option maxRecDepth 100000
open Go.RowKit
namespace Tab

def anewOf (n : Int) : List Bool := if rng n 1 40 then grownOf [] n.toNat else []
set_option maxHeartbeats 800000 in
theorem new_any (n : Int) (w : World) :
    Calls Try.prog 24 #[.int .i64 n] w fun e w' => ∃ v, e = .returned (.tuple #[v, .int .i64 (codeOf (rng n 1 40))]) ∧ OwnB w' w.heap.size v (anewOf n) ∧ Below w.heap.size w w' := by
  have HC := Lib.hid (columns_any n w)
  by_cases h : rng n 1 40 = true
  · have hr := rng_yes.1 h
    obtain ⟨n, rfl⟩ := Int.eq_ofNat_of_zero_le (show 0 ≤ n by omega)
    have HA : Hid (anewOf n = grownOf [] n) := Lib.hid (by unfold anewOf; rw [h]; rfl)
    have HG := Lib.hid (grown_any [] n (.slice none 0 0) w (Bl.nil w) (Nat.zero_le _) (by omega))
    rw [h] at HC ⊢
    rw [HA.out]
    clear h hr HA
    go_enter Try.func24, Try.ntmps24
    go_wp2_with fail
    refine HC.out.mono ?_; rintro e w' ⟨rfl, rfl⟩
    go_wp2_with fail
    refine HG.out.mono ?_; rintro e w1 ⟨v, rfl, ho, hb⟩
    go_wp2_with fail
    go_ret2
    exact ⟨v, rfl, ho, hb⟩
  · have h : rng n 1 40 = false := by simpa using h
    have HA : Hid (anewOf n = []) := Lib.hid (by unfold anewOf; rw [h]; rfl)
    rw [h] at HC ⊢
    rw [HA.out]
    clear h HA
    go_enter Try.func24, Try.ntmps24
    go_wp2_with fail
    refine HC.out.mono ?_; rintro e w' ⟨rfl, rfl⟩
    go_wp2_with fail
    go_ret2
    exact ⟨_, rfl, OwnB.nil _ _, Below.refl _ _⟩

theorem grownOf_cut (l : List Bool) (n : Nat) : grownOf (l.take (min n l.length)) n = grownOf l n := by
  unfold grownOf
  rw [List.take_take, List.length_take, Nat.min_assoc, Nat.min_self]
  rcases Nat.le_total n l.length with h | h
  · rw [Nat.min_eq_left h, Nat.min_self, Nat.sub_self, show n - l.length = 0 from by omega]; rfl
  · rw [Nat.min_eq_right h, Nat.min_eq_right h, List.take_of_length_le (Nat.le_refl _), List.take_of_length_le h]
def cutOk (l : List Bool) (n : Int) : Bool := okB l && rng n 1 40
def cutOf (l : List Bool) (n : Int) : List Bool := if cutOk l n then grownOf l n.toNat else []
set_option maxHeartbeats 800000 in
theorem resize_any (l : List Bool) (n : Int) (x : Value) (w : World) (hx : Bl w x l) :
    Calls Try.prog 23 #[x, .int .i64 n] w fun e w' => ∃ v, e = .returned (.tuple #[v, .int .i64 (codeOf (cutOk l n))]) ∧ OwnB w' w.heap.size v (cutOf l n) ∧ Below w.heap.size w w' := by
  have HK := Lib.hid (check_any l x w hx)
  have HC := Lib.hid (columns_any n w)
  obtain ⟨p, hp⟩ : ∃ p, okB l = p := ⟨_, rfl⟩
  obtain ⟨q, hq⟩ : ∃ q, rng n 1 40 = q := ⟨_, rfl⟩
  have hpq : cutOk l n = (p && q) := by unfold cutOk; rw [hp, hq]
  unfold cutOf
  rw [hpq]
  rw [hp] at HK
  rw [hq] at HC
  clear hpq
  cases p
  · obtain ⟨A, c, rfl⟩ := hx.shape
    clear hx hp hq
    unfold codeOf at HK ⊢
    generalize l.length = m at HK
    go_enter Try.func23, Try.ntmps23
    go_wp2_with fail
    refine HK.out.mono ?_; rintro e w' ⟨rfl, rfl⟩
    go_wp2_with fail
    go_ret2
    exact ⟨_, rfl, OwnB.nil _ _, Below.refl _ _⟩
  · cases q
    · obtain ⟨A, c, rfl⟩ := hx.shape
      clear hx hp hq
      unfold codeOf at HK ⊢
      generalize l.length = m at HK
      go_enter Try.func23, Try.ntmps23
      go_wp2_with fail
      refine HK.out.mono ?_; rintro e w' ⟨rfl, rfl⟩
      go_wp2_with fail
      refine HC.out.mono ?_; rintro e w' ⟨rfl, rfl⟩
      go_wp2_with fail
      go_ret2
      exact ⟨_, rfl, OwnB.nil _ _, Below.refl _ _⟩
    · have hr := rng_yes.1 hq
      have ho := okB_yes.1 hp
      obtain ⟨n, rfl⟩ := Int.eq_ofNat_of_zero_le (show 0 ≤ n by omega)
      obtain ⟨A, c, rfl⟩ := hx.shape
      obtain ⟨k, hk⟩ : ∃ k : Nat, min n l.length = k := ⟨_, rfl⟩
      have hmin : min (n : Int) (l.length : Int) = (k : Int) := by omega
      obtain ⟨V, hV, hb⟩ := hx.front k (by omega) k rfl
      have hV := hV w
      have HG := Lib.hid (grown_any (l.take k) n V w hb (by rw [List.length_take]; omega) (by omega))
      rw [← hk, grownOf_cut] at HG
      have HE : Hid ((if (true && true) = true then grownOf l (n : Int).toNat else []) = grownOf l n) := Lib.hid rfl
      rw [HE.out]
      clear hx hb hp hq hr ho hk HE
      unfold codeOf at HK ⊢
      generalize grownOf l n = ys at HG ⊢
      generalize l.length = m at *
      go_enter Try.func23, Try.ntmps23
      go_wp2_with fail
      refine HK.out.mono ?_; rintro e w' ⟨rfl, rfl⟩
      go_wp2_with fail
      refine HC.out.mono ?_; rintro e w' ⟨rfl, rfl⟩
      go_wp2_with fail
      refine HG.out.mono ?_; rintro e w1 ⟨v, rfl, ho, hb⟩
      go_wp2_with fail
      go_ret2
      exact ⟨v, rfl, ho, hb⟩

def setOk (l : List Bool) (a : Int) : Bool := okB l && rng a 0 (l.length - 1)
def setOf (l : List Bool) (a : Int) (t : Bool) : List Bool := if setOk l a then l.set a.toNat t else []
theorem setOf_same {l : List Bool} {a : Int} (h : setOk l a = true) (t : Bool) : (setOf l a t).length = l.length := by unfold setOf; rw [if_pos h, List.length_set]
set_option maxHeartbeats 800000 in
theorem set_any (l : List Bool) (a : Int) (t : Bool) (x : Value) (w : World) (hx : Bl w x l) (hl : l.length ≤ 1000000) :
    Calls Try.prog 29 #[x, .int .i64 a, .bool t] w fun e w' => ∃ v, e = .returned (.tuple #[v, .int .i64 (codeOf (setOk l a))]) ∧ OwnB w' w.heap.size v (setOf l a t) ∧ Below w.heap.size w w' := by
  have HK := Lib.hid (check_any l x w hx)
  have HC := Lib.hid (in_any a 0 ((l.length : Int) - 1) w)
  have hw : IntKind.i64.wrap ((l.length : Int) - 1) = (l.length : Int) - 1 := by rw [IntKind.wrap_i64]; omega
  obtain ⟨p, hp⟩ : ∃ p, okB l = p := ⟨_, rfl⟩
  obtain ⟨q, hq⟩ : ∃ q, rng a 0 (l.length - 1) = q := ⟨_, rfl⟩
  have hpq : setOk l a = (p && q) := by unfold setOk; rw [hp, hq]
  unfold setOf
  rw [hpq]
  rw [hp] at HK
  rw [hq] at HC
  clear hpq
  cases p
  · obtain ⟨A, c, rfl⟩ := hx.shape
    clear hx hp hq
    unfold codeOf at HK ⊢
    generalize l.length = m at *
    go_enter Try.func29, Try.ntmps29
    go_wp2_with fail
    refine HK.out.mono ?_; rintro e w' ⟨rfl, rfl⟩
    go_wp2_with fail
    go_ret2
    exact ⟨_, rfl, OwnB.nil _ _, Below.refl _ _⟩
  · cases q
    · obtain ⟨A, c, rfl⟩ := hx.shape
      clear hx hp hq
      unfold codeOf at HK ⊢
      generalize l.length = m at *
      go_enter Try.func29, Try.ntmps29
      go_wp2_with fail
      refine HK.out.mono ?_; rintro e w' ⟨rfl, rfl⟩
      go_wp2_with fail
      refine HC.out.mono ?_; rintro e w' ⟨rfl, rfl⟩
      go_wp2_with fail
      go_ret2
      exact ⟨_, rfl, OwnB.nil _ _, Below.refl _ _⟩
    · have hr := rng_yes.1 hq
      have ho := okB_yes.1 hp
      obtain ⟨a, rfl⟩ := Int.eq_ofNat_of_zero_le hr.1
      have hal : a < l.length := by omega
      have HCL := Lib.hid (clone_any l x w hx hl)
      have HE : Hid ((if (true && true) = true then l.set (a : Int).toNat t else []) = l.set a t) := Lib.hid rfl
      rw [HE.out]
      obtain ⟨A, c, rfl⟩ := hx.shape
      clear hx hp hq hr ho HE
      unfold codeOf at HK ⊢
      have HLL := Lib.hid hal
      obtain ⟨m, hm⟩ : ∃ m, l.length = m := ⟨_, rfl⟩
      have HM := Lib.hid hm
      rw [hm] at HK HC HCL hal hw hl ⊢
      clear hm
      go_enter Try.func29, Try.ntmps29
      go_wp2_with fail
      refine HK.out.mono ?_; rintro e w' ⟨rfl, rfl⟩
      go_wp2_with fail
      refine HC.out.mono ?_; rintro e w' ⟨rfl, rfl⟩
      go_wp2_with fail
      refine HCL.out.mono ?_; rintro e w1 ⟨v, rfl, ho, hb⟩
      have hv : ∃ g cap, v = .slice (some ⟨g, 0, none⟩) m cap ∧ w.heap.size ≤ g := by
        rcases ho.2 with ⟨_, h0⟩ | ⟨g, cap, cur, h0, hb, _⟩
        · have := HM.out; omega
        · exact ⟨g, cap, by rw [h0, HM.out], hb⟩
      obtain ⟨g, cap, rfl, hg⟩ := hv
      have hown : w1.ownsRow w.heap.size 4 1 (.slice (some ⟨g, 0, none⟩) m cap) m (bools l) := by have := ho; unfold OwnB at this; rwa [HM.out] at this
      have hc := hown.cellAt a (by omega)
      rw [bools_get HLL.out] at hc
      have hf := hown.frozenAt a
      have hst := hown.stored a (.bool t)
      have HO : Hid (OwnB (w1.setCell ⟨g, a, none⟩ (.bool t)) w.heap.size (.slice (some ⟨g, 0, none⟩) m cap) (l.set a t)) := Lib.hid (by
        have := hst.1
        unfold OwnB
        rw [List.length_set, HM.out]
        have e : bools (l.set a t) = (bools l).set a (.bool t) := by simp [bools, List.map_set]
        rw [e]; exact this)
      have HB := Lib.hid (hb.setCell (p := ⟨g, a, none⟩) hg (.bool t))
      clear ho hown hst hb
      generalize l.getD a false = old at hc
      go_wp2_with fail
      go_ret2
      exact ⟨_, rfl, HO.out, HB.out⟩
end Tab
end Go.Proofs.Ytenhgkhonaglaaa
