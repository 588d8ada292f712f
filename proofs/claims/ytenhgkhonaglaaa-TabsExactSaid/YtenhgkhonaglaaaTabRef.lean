/- The page's next stop, the one ahead, and new stops. -/
import Derived.Test.YtenhgkhonaglaaaTabHelp
namespace Go.Proofs.Ytenhgkhonaglaaa
set_option maxRecDepth 100000
open Go.RowKit
namespace Tab

theorem nextOf_step {l : List Bool} {a n : Nat} (h : a + 1 < l.length) : nextOf l a (n + 1) = nextOf l (a + 1) (if l.getD (a + 1) false then n else n + 1) := by
  unfold nextOf
  rw [drop_bool h]
  simp only [far]
  omega
set_option maxHeartbeats 400000 in
theorem refNext_any (l : List Bool) (a n : Nat) (x : Value) (w : World) (hx : Bl w x l) (ha : a < l.length) (hl : l.length ≤ 1000000) (hn : n ≤ 9999) :
    Calls Try.prog 20 #[x, .int .i64 a, .int .i64 n] w fun e w' => e = .returned (.int .i64 (nextOf l a n)) ∧ Below w.heap.size w w' := by
  obtain ⟨A, c, rfl⟩ := hx.shape
  have HG := Lib.hid hx.get
  obtain ⟨m, hm⟩ : ∃ m, l.length = m := ⟨_, rfl⟩
  have HM := Lib.hid hm
  obtain ⟨r, hr⟩ : ∃ r, nextOf l a n = r := ⟨_, rfl⟩
  have HR := Lib.hid hr
  rw [hm] at hl ha ⊢
  rw [hr]
  clear hx hm hr
  have hw : IntKind.i64.wrap ((m : Int) - 1) = (m : Int) - 1 := by rw [IntKind.wrap_i64]; omega
  go_enter Try.func20, Try.ntmps20
  go_wp2_with fail
  go_loopw [1, 2] (fun i j wr => ∃ p q : Nat, p < m ∧ i = .int .i64 p ∧ j = .int .i64 q ∧ q ≤ 9999 ∧ Hid (nextOf l p q = r) ∧ Below w.heap.size w wr) (fun i _ _ => m - (intOf i).toNat)
  case atStart => exact ⟨a, n, ha, rfl, rfl, hn, HR, Below.refl _ _⟩
  case round =>
    obtain ⟨p, q, hp, rfl, rfl, hq, HP, hb⟩ := hrel
    by_cases h0 : 0 < q
    · by_cases h1 : p + 1 < m
      · obtain ⟨q, rfl⟩ : ∃ q', q = q' + 1 := ⟨q - 1, by omega⟩
        have hs := nextOf_step (l := l) (a := p) (n := q) (by rw [HM.out]; exact h1)
        rw [HP.out] at hs
        obtain ⟨ad, rfl, g⟩ := HG.out (p + 1) (by rw [HM.out]; exact h1)
        have g := cell_kept hb g
        have g : wr.cell? ⟨ad.block, ad.off + (p + 1), none⟩ = some (.bool (l.getD (p + 1) false)) := by simpa [Addr.add] using g
        obtain ⟨t, ht⟩ : ∃ t, l.getD (p + 1) false = t := ⟨_, rfl⟩
        rw [ht] at hs g
        clear ht
        have HS := Lib.hid hs
        clear hs
        cases t
        all_goals
          go_wp2_with fail
          go_roundw
          case rel => exact ⟨p + 1, _, h1, by go_num, by go_num, by split <;> omega, Lib.hid HS.out.symm, hb⟩
          case measure => simp [intOf]; omega
      · have HE : Hid (p = r) := Lib.hid (by
          have := HP.out
          unfold nextOf at this
          rw [List.drop_of_length_le (by rw [HM.out]; omega)] at this
          cases q <;> simpa [far] using this)
        have h1 : ¬ ((p : Int) < (m : Int) - 1) := by omega
        go_wp2_with fail
        go_ret
        exact ⟨ret_int (by rw [HE.out]), hb⟩
    · obtain rfl : q = 0 := by omega
      have HE : Hid (p = r) := Lib.hid (by rw [← HP.out, nextOf_zero])
      go_wp2_with fail
      go_ret
      exact ⟨ret_int (by rw [HE.out]), hb⟩
set_option maxHeartbeats 400000 in
theorem refBack_any (l : List Bool) (a n : Nat) (x : Value) (w : World) (hx : Bl w x l) (ha : a < l.length) (hl : l.length ≤ 1000000) (hn : n ≤ 9999) :
    Calls Try.prog 21 #[x, .int .i64 a, .int .i64 n] w fun e w' => e = .returned (.int .i64 (backOf l a n)) ∧ Below w.heap.size w w' := by
  obtain ⟨A, c, rfl⟩ := hx.shape
  have HG := Lib.hid hx.get
  obtain ⟨m, hm⟩ : ∃ m, l.length = m := ⟨_, rfl⟩
  have HM := Lib.hid hm
  obtain ⟨r, hr⟩ : ∃ r, backOf l a n = r := ⟨_, rfl⟩
  have HR := Lib.hid hr
  rw [hm] at hl ha ⊢
  rw [hr]
  clear hx hm hr
  go_enter Try.func21, Try.ntmps21
  go_wp2_with fail
  go_loopw [1, 2] (fun i j wr => ∃ p q : Nat, p < m ∧ i = .int .i64 p ∧ j = .int .i64 q ∧ q ≤ 9999 ∧ Hid (backOf l p q = r) ∧ Below w.heap.size w wr) (fun i _ _ => (intOf i).toNat)
  case atStart => exact ⟨a, n, ha, rfl, rfl, hn, HR, Below.refl _ _⟩
  case round =>
    obtain ⟨p, q, hp, rfl, rfl, hq, HP, hb⟩ := hrel
    by_cases h0 : 0 < q
    · by_cases h1 : 0 < p
      · obtain ⟨q, rfl⟩ : ∃ q', q = q' + 1 := ⟨q - 1, by omega⟩
        obtain ⟨p, rfl⟩ : ∃ p', p = p' + 1 := ⟨p - 1, by omega⟩
        have hs := HP.out
        simp only [backOf] at hs
        obtain ⟨ad, rfl, g⟩ := HG.out p (by rw [HM.out]; omega)
        have g := cell_kept hb g
        obtain ⟨t, ht⟩ : ∃ t, l.getD p false = t := ⟨_, rfl⟩
        rw [ht] at hs g
        clear ht
        have HS := Lib.hid hs
        have hpw : IntKind.i64.wrap (((p + 1 : Nat) : Int) - 1) = (p : Int) := by rw [IntKind.wrap_i64]; omega
        clear hs
        cases t
        all_goals
          go_wp2_with fail
          go_roundw
          case rel => exact ⟨p, _, by omega, rfl, by go_num, by split <;> omega, HS, hb⟩
          case measure => simp [intOf]
      · obtain rfl : p = 0 := by omega
        have HE : Hid (0 = r) := Lib.hid (by rw [← HP.out]; rfl)
        go_wp2_with fail
        go_ret
        exact ⟨ret_int (by rw [← HE.out]), hb⟩
    · obtain rfl : q = 0 := by omega
      have HE : Hid (p = r) := Lib.hid (by rw [← HP.out, backOf_zero])
      go_wp2_with fail
      go_ret
      exact ⟨ret_int (by rw [HE.out]), hb⟩

theorem grownOf_get {l : List Bool} {n k : Nat} (h : l.length ≤ k) (hk : k < n) : (grownOf l n).getD k false = stopAt k := by
  unfold grownOf
  rw [List.take_of_length_le (by omega), List.getD_eq_getElem?_getD, List.getElem?_append_right h, List.getElem?_map, List.getElem?_range' (by omega)]
  simp only [Option.map_some, Option.getD_some]
  congr 1
  omega
theorem grownOf_take (l : List Bool) (n k : Nat) (h : k ≤ l.length) (hn : k ≤ n) : (grownOf l n).take k = l.take k := by
  unfold grownOf
  rw [List.take_append_of_le_length (by rw [List.length_take]; omega), List.take_take, Nat.min_eq_left hn]
def lenOf : Value → Nat
  | .slice _ n _ => n
  | _ => 0
theorem OwnB.lenOf_ {w : World} {base : Nat} {x : Value} {l : List Bool} (h : OwnB w base x l) : lenOf x = l.length := by
  obtain ⟨A, c, rfl⟩ := h.bl.shape; rfl
set_option maxHeartbeats 400000 in
theorem stops_any (l : List Bool) (n : Nat) (x : Value) (w : World) (hx : Bl w x l) (hl : l.length ≤ 1000000) (hn : n ≤ 1000000) :
    Calls Try.prog 26 #[x, .int .i64 n] w fun e w' => ∃ v, e = .returned v ∧ OwnB w' w.heap.size v (grownOf l n) ∧ Below w.heap.size w w' := by
  obtain ⟨A, c, rfl⟩ := hx.shape
  obtain ⟨k, hk⟩ : ∃ k : Nat, min n l.length = k := ⟨_, rfl⟩
  have hmin : min (n : Int) (l.length : Int) = (k : Int) := by omega
  obtain ⟨V, hV, hb⟩ := hx.front k (by omega) k rfl
  have HC := Lib.hid (copyBools_any (l.take k) w hb (by rw [List.length_take]; omega))
  have HGL : Hid ((grownOf l n).length = n) := Lib.hid (grownOf_length l n)
  have HT : Hid (l.take k = (grownOf l n).take k) := Lib.hid (grownOf_take l n k (by omega) (by omega)).symm
  have HG : Hid (∀ j, k ≤ j → j < n → (grownOf l n).getD j false = stopAt j) := Lib.hid fun j h1 h2 => grownOf_get (by omega) h2
  have hkn : k ≤ n := by omega
  rw [HT.out] at HC
  clear hx hb hk HT
  generalize grownOf l n = ys at HC HGL HG ⊢
  have HW := Lib.hid hV
  clear hV
  have hV := HW.out w
  generalize l.length = m at hl hmin hV HW
  go_enter Try.func26, Try.ntmps26
  go_wp2_with fail
  refine HC.out.mono ?_; rintro e w1 ⟨v1, rfl, ho1, hb1⟩
  have HO1 := Lib.hid ho1
  clear ho1
  go_wp2_with fail
  go_loopw [5] (fun v wr => ∃ j : Nat, k ≤ j ∧ j ≤ n ∧ Hid (OwnB wr w.heap.size v (ys.take j)) ∧ Below w.heap.size w wr) (fun v _ => n - (lenOf v))
  case atStart => exact ⟨k, Nat.le_refl _, hkn, HO1, hb1⟩
  case round =>
    obtain ⟨j, hkj, hjn, HO, hb⟩ := hrel
    have hlj : (ys.take j).length = j := by rw [List.length_take, HGL.out]; omega
    obtain ⟨Aj, cj, rfl⟩ := HO.out.bl.shape
    have HO2 := Lib.hid HO.out
    rw [hlj] at HO HO2 ⊢
    by_cases hlt : j < n
    · have HT := Lib.hid (take_succ_bool (l := ys) (k := j) (by rw [HGL.out]; exact hlt))
      rw [HG.out j hkj hlt] at HT
      have HLJ := Lib.hid hlj
      have hbs := hb.size
      clear hlj
      obtain ⟨b1, h1⟩ : ∃ b1, decide (j % 8 = 0) = b1 := ⟨_, rfl⟩
      have hsj : stopAt j = (decide (0 < j) && b1) := by unfold stopAt; rw [h1]
      rw [hsj] at HT
      have g1 : (((j : Int) % 8) == 0) = b1 := by rw [← h1]; rw [Bool.eq_iff_iff, beq_iff_eq, decide_eq_true_eq]; omega
      clear h1 hsj
      cases b1
      · rw [Bool.and_false] at HT
        go_wp2_with (at_builtin; refine wp_append_bools rfl rfl w.heap.size _ (ys.take j) rfl (HO.out.alloc _) _ [false] rfl (Src.one wr _ _ _) (by rw [HLJ.out]; simp; omega) (by simp; omega) ?_; intro v1 w1 ho1 hg1 hat1)
        go_roundw
        case rel => exact ⟨j + 1, by omega, by omega, Lib.hid (by rw [HT.out]; exact ho1), below_own (hb.alloc hb.size _) hg1 (by simp; omega) (HO.out.alloc _)⟩
        case measure => rw [OwnB.lenOf_ ho1, List.length_append, HLJ.out]; simp [lenOf]; omega
      · rw [Bool.and_true] at HT
        by_cases h2 : 0 < j
        · rw [decide_eq_true h2] at HT
          go_wp2_with (at_builtin; refine wp_append_bools rfl rfl w.heap.size _ (ys.take j) rfl (HO.out.alloc _) _ [true] rfl (Src.one wr _ _ _) (by rw [HLJ.out]; simp; omega) (by simp; omega) ?_; intro v1 w1 ho1 hg1 hat1)
          go_roundw
          case rel => exact ⟨j + 1, by omega, by omega, Lib.hid (by rw [HT.out]; exact ho1), below_own (hb.alloc hb.size _) hg1 (by simp; omega) (HO.out.alloc _)⟩
          case measure => rw [OwnB.lenOf_ ho1, List.length_append, HLJ.out]; simp [lenOf]; omega
        · rw [decide_eq_false h2] at HT
          go_wp2_with (at_builtin; refine wp_append_bools rfl rfl w.heap.size _ (ys.take j) rfl (HO.out.alloc _) _ [false] rfl (Src.one wr _ _ _) (by rw [HLJ.out]; simp; omega) (by simp; omega) ?_; intro v1 w1 ho1 hg1 hat1)
          go_roundw
          case rel => exact ⟨j + 1, by omega, by omega, Lib.hid (by rw [HT.out]; exact ho1), below_own (hb.alloc hb.size _) hg1 (by simp; omega) (HO.out.alloc _)⟩
          case measure => rw [OwnB.lenOf_ ho1, List.length_append, HLJ.out]; simp [lenOf]; omega
    · have hjn' : j = n := by omega
      subst hjn'
      have HE : Hid (ys.take j = ys) := Lib.hid (List.take_of_length_le (by rw [HGL.out]; exact Nat.le_refl _))
      go_wp2_with fail
      go_ret
      have ho := HO2.out
      rw [HE.out] at ho
      exact ⟨_, rfl, ho, hb⟩
end Tab
end Go.Proofs.Ytenhgkhonaglaaa
