/- Next and Back. -/
import Derived.Test.YtenhgkhonaglaaaTabRul
namespace Go.Proofs.Ytenhgkhonaglaaa
set_option maxRecDepth 100000
open Go.RowKit
namespace Tab

@[go_sem] theorem is_place_place (v : Value) (w : World) : (Instr.typeAssert (.iface 82 v) 84 82 true).run Try.prog w = .ok (.tuple #[v, .bool true]) w := by kernel_rfl
@[go_sem] theorem is_place_fewer (v : Value) (w : World) : (Instr.typeAssert (.iface 87 v) 84 82 true).run Try.prog w = .ok (.tuple #[.int .i64 0, .bool false]) w := by kernel_rfl
@[go_sem] theorem must_place (v : Value) (w : World) : (Instr.typeAssert (.iface 82 v) 84 82 false).run Try.prog w = .ok v w := by kernel_rfl
@[go_sem] theorem must_fewer (v : Value) (w : World) : (Instr.typeAssert (.iface 87 v) 84 87 false).run Try.prog w = .ok v w := by kernel_rfl

def nxOf (l : List Bool) (a n : Int) : Int := if goes l a n then nextOf l a.toNat n.toNat else 0
def bkOf (l : List Bool) (a n : Int) : Int := if goes l a n then backOf l a.toNat n.toNat else 0
theorem nextOf_nth {l : List Bool} {a n : Nat} (ha : a < l.length) (hn : 1 ≤ n) : (nextOf l a n : Int) = match nth (l.drop (a + 1)) n with | some i => (a : Int) + 1 + i | none => (l.length : Int) - 1 := by
  unfold nextOf
  rw [far_nth _ _ hn, List.length_drop]
  cases nth (l.drop (a + 1)) n with
  | none => simp only; omega
  | some i => simp only; omega
set_option maxHeartbeats 800000 in
theorem next_any (l : List Bool) (a n : Int) (x : Value) (w : World) (hx : Bl w x l) (hl : l.length ≤ 1000000) :
    Calls Try.prog 17 #[x, .int .i64 a, .int .i64 n] w fun e w' => e = .returned (.tuple #[.int .i64 (nxOf l a n), .int .i64 (codeOf (goes l a n))]) ∧ Below w.heap.size w w' := by
  have HST := Lib.hid (steps_any l a n x w hx hl)
  by_cases hg : goes l a n = true
  · obtain ⟨⟨h1, h2⟩, ⟨h3, h4⟩, h5, h6⟩ := goes_yes.1 hg
    obtain ⟨a, rfl⟩ := Int.eq_ofNat_of_zero_le h3
    obtain ⟨n, rfl⟩ := Int.eq_ofNat_of_zero_le h5
    have ha : a < l.length := by omega
    have HR : Hid (nxOf l a n = nextOf l a n) := Lib.hid (by unfold nxOf; rw [hg]; simp)
    rw [hg] at HST ⊢
    rw [HR.out]
    clear hg HR h3 h4 h5
    obtain ⟨A, c, rfl⟩ := hx.shape
    by_cases h0 : n = 0
    · subst h0
      have HZ := Lib.hid (nextOf_zero l a)
      clear hx
      generalize l.length = m at HST ha h1 h2
      go_enter Try.func17, Try.ntmps17
      go_wp2_with fail
      refine HST.out.mono ?_; rintro e w' ⟨rfl, rfl⟩
      go_wp2_with fail
      go_ret2
      exact ⟨by rw [HZ.out]; rfl, Below.refl _ _⟩
    · obtain ⟨V, hV, hb⟩ := hx.tail (a + 1) (by omega) ((a : Int) + 1) (by omega)
      have hV := hV w
      have HRU := Lib.hid (ruler_any (l.drop (a + 1)) V w hb (by rw [List.length_drop]; omega))
      have HSK := Lib.hid (fun w' => seek_any (l.drop (a + 1)) n ⟨(rul (l.drop (a + 1))).toArray⟩ rfl w' (by rw [List.length_drop]; omega) (by omega) (by omega))
      have HN := Lib.hid (nextOf_nth ha (show 1 ≤ n by omega))
      have hw : IntKind.i64.wrap ((l.length : Int) - 1) = (l.length : Int) - 1 := by rw [IntKind.wrap_i64]; omega
      have hi : ∀ i, nth (l.drop (a + 1)) n = some i → i < 40 := fun i e => by
        rcases Nat.lt_or_ge (cnt (l.drop (a + 1))) n with h | h
        · rw [nth_none _ _ h] at e; cases e
        · obtain ⟨j, hj, hlt⟩ := nth_some _ n (by omega) h
          rw [e] at hj
          injection hj with hj
          rw [List.length_drop] at hlt; omega
      clear hx hb
      generalize rul (l.drop (a + 1)) = tx at HRU HSK
      generalize nextOf l a n = r at HN ⊢
      have HNT : Hid (((nth (l.drop (a + 1)) n) = nth (l.drop (a + 1)) n)) := Lib.hid rfl
      clear HNT
      generalize nth (l.drop (a + 1)) n = o at HSK HN hi
      generalize cnt (l.drop (a + 1)) = cn at HSK
      cases o with
      | none =>
        have HSK : Hid (∀ w', Calls Try.prog 45 #[.string ⟨tx.toArray⟩, .int .i64 n] w' fun e w'' => e = .returned (.iface 87 (.int .i64 cn)) ∧ Below w'.heap.size w' w'') := HSK
        have HN : Hid ((r : Int) = (l.length : Int) - 1) := HN
        clear hi
        generalize l.length = m at *
        go_enter Try.func17, Try.ntmps17
        go_wp2_with fail
        refine HST.out.mono ?_; rintro e w' ⟨rfl, rfl⟩
        go_wp2_with fail
        refine HRU.out.mono ?_; rintro e w1 ⟨rfl, hb1⟩
        go_wp2_with fail
        refine (HSK.out w1).mono ?_; rintro e w2 ⟨rfl, hb2⟩
        have hbw := hb1.trans (hb2.mono hb1.size)
        clear hb1 hb2
        go_wp2_with fail
        go_ret2
        exact ⟨by rw [HN.out]; rfl, hbw⟩
      | some i =>
        have HSK : Hid (∀ w', Calls Try.prog 45 #[.string ⟨tx.toArray⟩, .int .i64 n] w' fun e w'' => e = .returned (.iface 82 (.int .i64 i)) ∧ Below w'.heap.size w' w'') := HSK
        have HN : Hid ((r : Int) = (a : Int) + 1 + i) := HN
        have hi := hi i rfl
        generalize l.length = m at *
        go_enter Try.func17, Try.ntmps17
        go_wp2_with fail
        refine HST.out.mono ?_; rintro e w' ⟨rfl, rfl⟩
        go_wp2_with fail
        refine HRU.out.mono ?_; rintro e w1 ⟨rfl, hb1⟩
        go_wp2_with fail
        refine (HSK.out w1).mono ?_; rintro e w2 ⟨rfl, hb2⟩
        have hbw := hb1.trans (hb2.mono hb1.size)
        clear hb1 hb2
        go_wp2_with fail
        go_ret2
        exact ⟨by rw [HN.out]; rfl, hbw⟩
  · have hg : goes l a n = false := by simpa using hg
    have HR : Hid (nxOf l a n = 0) := Lib.hid (by unfold nxOf; rw [hg]; rfl)
    rw [hg] at HST ⊢
    rw [HR.out]
    obtain ⟨A, c, rfl⟩ := hx.shape
    clear hx hg HR
    generalize l.length = m at HST
    go_enter Try.func17, Try.ntmps17
    go_wp2_with fail
    refine HST.out.mono ?_; rintro e w' ⟨rfl, rfl⟩
    go_wp2_with fail
    go_ret2
    exact ⟨rfl, Below.refl _ _⟩
set_option maxHeartbeats 800000 in
theorem back_any (l : List Bool) (a n : Int) (x : Value) (w : World) (hx : Bl w x l) (hl : l.length ≤ 1000000) :
    Calls Try.prog 18 #[x, .int .i64 a, .int .i64 n] w fun e w' => e = .returned (.tuple #[.int .i64 (bkOf l a n), .int .i64 (codeOf (goes l a n))]) ∧ Below w.heap.size w w' := by
  have HST := Lib.hid (steps_any l a n x w hx hl)
  by_cases hg : goes l a n = true
  · obtain ⟨⟨h1, h2⟩, ⟨h3, h4⟩, h5, h6⟩ := goes_yes.1 hg
    obtain ⟨a, rfl⟩ := Int.eq_ofNat_of_zero_le h3
    obtain ⟨n, rfl⟩ := Int.eq_ofNat_of_zero_le h5
    have ha : a < l.length := by omega
    have HR : Hid (bkOf l a n = backOf l a n) := Lib.hid (by unfold bkOf; rw [hg]; simp)
    rw [hg] at HST ⊢
    rw [HR.out]
    clear hg HR h3 h4 h5
    obtain ⟨A, c, rfl⟩ := hx.shape
    by_cases h0 : n = 0
    · subst h0
      have HZ := Lib.hid (backOf_zero l a)
      clear hx
      generalize l.length = m at HST ha h1 h2
      go_enter Try.func18, Try.ntmps18
      go_wp2_with fail
      refine HST.out.mono ?_; rintro e w' ⟨rfl, rfl⟩
      go_wp2_with fail
      go_ret2
      exact ⟨by rw [HZ.out]; rfl, Below.refl _ _⟩
    · obtain ⟨V, hV, hb⟩ := hx.front a (by omega) (a : Int) rfl
      have hV := hV w
      have hlt : (l.take a).length = a := by rw [List.length_take]; omega
      have hcl : cnt (l.take a) ≤ a := by have := cnt_le (l.take a); omega
      have HRU := Lib.hid (ruler_any (l.take a) V w hb (by omega))
      have HSK := Lib.hid (fun (k : Nat) (h1 : 1 ≤ k) (h2 : k ≤ 1000000) w' => seek_any (l.take a) k ⟨(rul (l.take a)).toArray⟩ rfl w' (by omega) h1 h2)
      have HA : Hid (∀ w', Calls Try.prog 45 #[.string ⟨(rul (l.take a)).toArray⟩, .int .i64 l.length] w' fun e w'' => e = .returned (.iface 87 (.int .i64 (cnt (l.take a)))) ∧ Below w'.heap.size w' w'') := Lib.hid fun w' => by
        have := HSK.out l.length (by omega) (by omega) w'
        rw [nth_none _ _ (by omega)] at this
        exact this
      have HN := Lib.hid (backOf_nth l a n (by omega) (by omega))
      have HO : Hid (n ≤ cnt (l.take a) → ∃ i, nth (l.take a) (cnt (l.take a) + 1 - n) = some i) := Lib.hid fun h => by
        obtain ⟨i, hi, _⟩ := nth_some (l.take a) (cnt (l.take a) + 1 - n) (by omega) (by omega)
        exact ⟨i, hi⟩
      clear hx hb hlt
      generalize rul (l.take a) = tx at HRU HSK HA
      generalize backOf l a n = r at HN ⊢
      generalize nth (l.take a) = ot at HSK HN HO
      generalize cnt (l.take a) = cn at HSK HN hcl HA HO
      by_cases hc : cn < n
      · have HN : Hid (r = 0) := Lib.hid (by have := HN.out; rwa [if_pos hc] at this)
        clear HSK HO
        generalize l.length = m at *
        go_enter Try.func18, Try.ntmps18
        go_wp2_with fail
        refine HST.out.mono ?_; rintro e w' ⟨rfl, rfl⟩
        go_wp2_with fail
        refine HRU.out.mono ?_; rintro e w1 ⟨rfl, hb1⟩
        go_wp2_with fail
        refine (HA.out w1).mono ?_; rintro e w2 ⟨rfl, hb2⟩
        have hbw := hb1.trans (hb2.mono hb1.size)
        clear hb1 hb2
        go_wp2_with fail
        go_ret2
        exact ⟨by rw [HN.out]; rfl, hbw⟩
      · obtain ⟨i, hi⟩ := HO.out (by omega)
        have HN : Hid (r = i) := Lib.hid (by have := HN.out; rwa [if_neg hc, hi] at this)
        have HSK : Hid (∀ w', Calls Try.prog 45 #[.string ⟨tx.toArray⟩, .int .i64 ((cn : Int) + 1 - n)] w' fun e w'' => e = .returned (.iface 82 (.int .i64 i)) ∧ Below w'.heap.size w' w'') := Lib.hid fun w' => by
          have := HSK.out (cn + 1 - n) (by omega) (by omega) w'
          rw [hi, show ((cn + 1 - n : Nat) : Int) = (cn : Int) + 1 - n from by omega] at this
          exact this
        have hw : IntKind.i64.wrap ((cn : Int) + 1 - n) = (cn : Int) + 1 - n := by rw [IntKind.wrap_i64]; omega
        clear HO hi
        generalize l.length = m at *
        go_enter Try.func18, Try.ntmps18
        go_wp2_with fail
        refine HST.out.mono ?_; rintro e w' ⟨rfl, rfl⟩
        go_wp2_with fail
        refine HRU.out.mono ?_; rintro e w1 ⟨rfl, hb1⟩
        go_wp2_with fail
        refine (HA.out w1).mono ?_; rintro e w2 ⟨rfl, hb2⟩
        have hbw := hb1.trans (hb2.mono hb1.size)
        clear hb1 hb2
        go_wp2_with fail
        refine (HSK.out w2).mono ?_; rintro e w3 ⟨rfl, hb3⟩
        have hbw2 := hbw.trans (hb3.mono hbw.size)
        clear hbw hb3
        go_wp2_with fail
        go_ret2
        exact ⟨by rw [HN.out]; rfl, hbw2⟩
  · have hg : goes l a n = false := by simpa using hg
    have HR : Hid (bkOf l a n = 0) := Lib.hid (by unfold bkOf; rw [hg]; rfl)
    rw [hg] at HST ⊢
    rw [HR.out]
    obtain ⟨A, c, rfl⟩ := hx.shape
    clear hx hg HR
    generalize l.length = m at HST
    go_enter Try.func18, Try.ntmps18
    go_wp2_with fail
    refine HST.out.mono ?_; rintro e w' ⟨rfl, rfl⟩
    go_wp2_with fail
    go_ret2
    exact ⟨rfl, Below.refl _ _⟩
end Tab
end Go.Proofs.Ytenhgkhonaglaaa
