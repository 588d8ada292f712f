/- The law on the next stop: walked. -/
import Derived.Test.YtenhgkhonaglaaaTabAsk
namespace Go.Proofs.Ytenhgkhonaglaaa
set_option maxRecDepth 100000
open Go.RowKit
namespace Tab

theorem getD_drop {l : List Bool} (a j : Nat) : (l.drop a).getD j false = l.getD (a + j) false := by
  rw [List.getD_eq_getElem?_getD, List.getD_eq_getElem?_getD, List.getElem?_drop]
theorem next_gt {l : List Bool} {a : Nat} (h : a + 1 < l.length) : a + 1 ≤ nextOf l a 1 := by
  unfold nextOf
  have := far_one (l.drop (a + 1)) (fun e => by have := congrArg List.length e; rw [List.length_drop] at this; simp at this; omega)
  omega
theorem next_free {l : List Bool} {a j : Nat} (h1 : a < j) (h2 : j < nextOf l a 1) : l.getD j false = false := by
  unfold nextOf at h2
  have := far_one_free (l.drop (a + 1)) (j - (a + 1)) (by omega)
  rw [getD_drop] at this
  rwa [show a + 1 + (j - (a + 1)) = j from by omega] at this
theorem next_stop {l : List Bool} {a : Nat} (h : nextOf l a 1 + 1 < l.length) : l.getD (nextOf l a 1) false = true := by
  have hg := next_gt (l := l) (a := a) (by unfold nextOf at h; omega)
  unfold nextOf at h hg ⊢
  have := far_one_stop (l.drop (a + 1)) (by rw [List.length_drop]; omega)
  rw [getD_drop] at this
  rwa [show a + 1 + (far (l.drop (a + 1)) 1 - 1) = a + far (l.drop (a + 1)) 1 from by omega] at this
theorem back_near (l : List Bool) (k : Nat) : ∀ a : Nat, (∀ j, k < j → j < a → l.getD j false = false) → backOf l a 1 ≤ k
  | 0, _ => Nat.zero_le _
  | a + 1, h => by
    simp only [backOf]
    rcases Nat.lt_trichotomy a k with hk | hk | hk
    · exact Nat.le_trans (backOf_le l a _) (by omega)
    · subst hk; exact backOf_le l a _
    · rw [h a hk (by omega), if_neg (by decide)]
      exact back_near l k a fun j h1 h2 => h j h1 (by omega)
theorem back_next (l : List Bool) (a : Nat) : backOf l (nextOf l a 1) 1 ≤ a := back_near l a _ fun _ h1 h2 => next_free h1 h2
theorem nx_one {l : List Bool} {a : Nat} (h : okB l = true) (ha : a < l.length) : nxOf l a 1 = (nextOf l a 1 : Int) ∧ goes l a 1 = true := by
  have hg : goes l a 1 = true := goes_yes.2 ⟨okB_yes.1 h, ⟨by omega, by omega⟩, by omega, by omega⟩
  exact ⟨by unfold nxOf; rw [if_pos hg]; rfl, hg⟩
theorem bk_one {l : List Bool} {a : Nat} (h : okB l = true) (ha : a < l.length) : bkOf l a 1 = (backOf l a 1 : Int) ∧ goes l a 1 = true := by
  have hg : goes l a 1 = true := goes_yes.2 ⟨okB_yes.1 h, ⟨by omega, by omega⟩, by omega, by omega⟩
  exact ⟨by unfold bkOf; rw [if_pos hg]; rfl, hg⟩

set_option maxHeartbeats 3200000 in
theorem lawNext_any (x y : Value) (l : List Bool) (w : World) (hx : Bl w x l) (hn : l.length ≤ 1000000000000000) :
    Calls Try.prog 5 #[.agg #[x, y]] w fun e w' => e = .returned (.bool true) ∧ Below w.heap.size w w' := by
  have HX := Lib.hid hx
  have HW := Lib.hid (fun w' => wakes_any w')
  have HA0 := Lib.hid (Asks.start w x y)
  obtain ⟨A, c, rfl⟩ := hx.shape
  by_cases h200 : 200 < l.length
  · clear hx
    generalize l.length = m at *
    go_enter Try.func5, Try.ntmps5
    go_wp2_with fail
    go_ret
    exact ⟨rfl, HA0.out.bel⟩
  have HCK := Lib.hid (fun w' (h : Bl w' (.slice A l.length c) l) => check_any l _ w' h)
  obtain ⟨ok, hok⟩ : ∃ ok, okB l = ok := ⟨_, rfl⟩
  rw [hok] at HCK
  cases ok
  · clear hx hok
    unfold codeOf at HCK
    have HX1 := Lib.hid (HX.out.kept HA0.out.bel)
    have HC := Lib.hid (HCK.out _ HX1.out)
    clear HCK
    generalize l.length = m at *
    go_enter Try.func5, Try.ntmps5
    go_wp2_with fail
    refine HC.out.mono ?_; rintro e wn ⟨rfl, rfl⟩
    go_wp2_with fail
    refine (num_eq _ _).mono ?_; rintro e wn ⟨rfl, rfl⟩
    go_wp2_with fail
    go_ret
    exact ⟨rfl, HA0.out.bel⟩
  have hl := okB_yes.1 hok
  obtain ⟨ad, rfl, _⟩ := hx.get 0 (by omega)
  have HG : Hid (∀ q, q < l.length → w.cell? (ad.add q) = some (.bool (l.getD q false))) := Lib.hid fun q hq => by
    obtain ⟨ad', e, g⟩ := hx.get q hq
    injection e with e
    rw [e]; exact g
  have HNX := Lib.hid (fun a (ha : a < l.length) w' (h : Bl w' (.slice (some ad) l.length c) l) => next_any l a 1 _ w' h (by omega))
  have HBK := Lib.hid (fun a (ha : a < l.length) w' (h : Bl w' (.slice (some ad) l.length c) l) => back_any l a 1 _ w' h (by omega))
  have HN1 := Lib.hid (fun a (ha : a < l.length) => nx_one hok ha)
  have HB1 := Lib.hid (fun a (ha : a < l.length) => bk_one hok ha)
  have HLT := Lib.hid (fun a (ha : a < l.length) => nextOf_le (n := 1) ha)
  have HGT := Lib.hid (fun a (ha : a + 1 < l.length) => next_gt ha)
  have HFR := Lib.hid (fun a j (h1 : a < j) (h2 : j < nextOf l a 1) => next_free h1 h2)
  have HSP := Lib.hid (fun a (h : nextOf l a 1 + 1 < l.length) => next_stop h)
  have HBN := Lib.hid (fun a => back_next l a)
  have HLA := Lib.hid (fun a (h : a + 1 = l.length) => nextOf_one_last h)
  unfold codeOf at HCK
  obtain ⟨m, hm⟩ : ∃ m, l.length = m := ⟨_, rfl⟩
  have HM := Lib.hid hm
  simp only [hm] at hl HG HNX HBK HN1 HB1 HLT HGT HSP HLA HA0 HX HCK ⊢
  clear hx hok hm h200 hn
  have hw : IntKind.i64.wrap ((m : Int) - 1) = (m : Int) - 1 := by rw [IntKind.wrap_i64]; omega
  have HX1 := Lib.hid (HX.out.kept HA0.out.bel)
  have HC := Lib.hid (HCK.out _ HX1.out)
  clear HCK HX1
  have hne : ((m : Int) == 0) = false := by rw [beq_eq_false_iff_ne]; omega
  go_enter Try.func5, Try.ntmps5
  go_wp2_with fail
  refine HC.out.mono ?_; rintro e wn ⟨rfl, rfl⟩
  go_wp2_with fail
  refine (num_eq _ _).mono ?_; rintro e wn ⟨rfl, rfl⟩
  go_wp2_with fail
  clear HC
  generalize w.alloc (sbox (.slice (some ad) m c) y) = wa at HA0 ⊢
  go_loopw [4] (fun i wr => ∃ k : Nat, k ≤ m ∧ i = .int .i64 k ∧ Hid (Asks w wr (.slice (some ad) m c) y)) (fun i _ => m - (intOf i).toNat)
  case atStart => exact ⟨0, by omega, rfl, HA0⟩
  case round =>
    obtain ⟨k, hk, rfl, HS⟩ := hrel
    have b0 : wr.cell? ⟨w.heap.size, 0, none⟩ = some (.slice (some ad) m c) := Blk.cell HS.out.box 0
    by_cases hlt : k < m
    · have HN := Lib.hid (HNX.out k hlt wr (HX.out.kept HS.out.bel))
      rw [(HN1.out k hlt).1, (HN1.out k hlt).2] at HN
      have hX := HLT.out k hlt
      have HBQ := Lib.hid (fun w' (h : Bl w' (.slice (some ad) m c) l) => HBK.out (nextOf l k 1) hX w' h)
      rw [(HB1.out _ hX).1, (HB1.out _ hX).2] at HBQ
      have hY := HBN.out k
      have HFK := Lib.hid (fun j => HFR.out k j)
      have hge : k ≤ nextOf l k 1 := by unfold nextOf; omega
      have hgt : k + 1 < m → k + 1 ≤ nextOf l k 1 := HGT.out k
      have hst : nextOf l k 1 + 1 < m → l.getD (nextOf l k 1) false = true := HSP.out k
      have hla : k + 1 = m → nextOf l k 1 = k := HLA.out k
      generalize nextOf l k 1 = X at *
      generalize backOf l X 1 = Y at *
      unfold codeOf at HN HBQ
      go_wp2_with fail
      refine HN.out.mono ?_; rintro e w1 ⟨rfl, hb1⟩
      have HS1 := Lib.hid (HS.out.kept hb1)
      have HC1 := Lib.hid (HBQ.out w1 (HX.out.kept HS1.out.bel))
      clear hb1 b0 HN HBQ
      have b0 : w1.cell? ⟨w.heap.size, 0, none⟩ = some (.slice (some ad) m c) := Blk.cell HS1.out.box 0
      go_wp2_with fail
      refine HC1.out.mono ?_; rintro e w2 ⟨rfl, hb2⟩
      have HS2 := Lib.hid (HS1.out.kept hb2)
      clear hb2 b0 HC1
      have b0 : w2.cell? ⟨w.heap.size, 0, none⟩ = some (.slice (some ad) m c) := Blk.cell HS2.out.box 0
      go_wp2_with fail
      refine (num_eq _ _).mono ?_; rintro e wn ⟨rfl, rfl⟩
      go_wp2_with fail
      refine (num_eq _ _).mono ?_; rintro e wn ⟨rfl, rfl⟩
      by_cases h1 : k + 1 = m
      · have hXk : X = k := hla h1
        clear hla hgt hst
        go_wp2_with fail
        go_loopw [9] (fun j wr2 => ∃ q : Nat, k + 1 ≤ q ∧ (q ≤ X ∨ q = k + 1) ∧ j = .int .i64 q ∧ Hid (Asks w wr2 (.slice (some ad) m c) y)) (fun j _ => X - (intOf j).toNat)
        case atStart => exact ⟨k + 1, by omega, by omega, by go_num, HS2⟩
        case round =>
          obtain ⟨q, hq, hq2, rfl, HSq⟩ := hrel
          have b0 : wr.cell? ⟨w.heap.size, 0, none⟩ = some (.slice (some ad) m c) := Blk.cell HSq.out.box 0
          have hqx : ¬ q < X := by omega
          go_wp2_with fail
          go_roundw
          case rel => exact ⟨k + 1, by omega, by go_num, HSq⟩
          case measure => simp [intOf]; omega
      · have hgt := hgt (by omega)
        have hne2 : ((X : Int) == (k : Int)) = false := by rw [beq_eq_false_iff_ne]; omega
        clear hla
        by_cases h2 : X + 1 < m
        · have hst := hst h2
          have g := HG.out X (by omega)
          have g := cell_kept HS2.out.bel g
          rw [hst] at g
          clear hst
          go_wp2_with fail
          go_loopw [9] (fun j wr2 => ∃ q : Nat, k + 1 ≤ q ∧ (q ≤ X ∨ q = k + 1) ∧ j = .int .i64 q ∧ Hid (Asks w wr2 (.slice (some ad) m c) y)) (fun j _ => X - (intOf j).toNat)
          case atStart => exact ⟨k + 1, by omega, by omega, by go_num, HS2⟩
          case round =>
            obtain ⟨q, hq, hq2, rfl, HSq⟩ := hrel
            have b0 : wr.cell? ⟨w.heap.size, 0, none⟩ = some (.slice (some ad) m c) := Blk.cell HSq.out.box 0
            by_cases hqx : q < X
            · have g := HG.out q (by omega)
              have g := cell_kept HSq.out.bel g
              rw [HFK.out q (by omega) hqx] at g
              go_wp2_with fail
              go_roundw
              case rel => exact ⟨q + 1, by omega, by omega, by go_num, HSq⟩
              case measure => simp [intOf]; omega
            · go_wp2_with fail
              go_roundw
              case rel => exact ⟨k + 1, by omega, by go_num, HSq⟩
              case measure => simp [intOf]; omega

        · have h2' : X + 1 = m := by omega
          clear hst
          go_wp2_with fail
          go_loopw [9] (fun j wr2 => ∃ q : Nat, k + 1 ≤ q ∧ (q ≤ X ∨ q = k + 1) ∧ j = .int .i64 q ∧ Hid (Asks w wr2 (.slice (some ad) m c) y)) (fun j _ => X - (intOf j).toNat)
          case atStart => exact ⟨k + 1, by omega, by omega, by go_num, HS2⟩
          case round =>
            obtain ⟨q, hq, hq2, rfl, HSq⟩ := hrel
            have b0 : wr.cell? ⟨w.heap.size, 0, none⟩ = some (.slice (some ad) m c) := Blk.cell HSq.out.box 0
            by_cases hqx : q < X
            · have g := HG.out q (by omega)
              have g := cell_kept HSq.out.bel g
              rw [HFK.out q (by omega) hqx] at g
              go_wp2_with fail
              go_roundw
              case rel => exact ⟨q + 1, by omega, by omega, by go_num, HSq⟩
              case measure => simp [intOf]; omega
            · go_wp2_with fail
              go_roundw
              case rel => exact ⟨k + 1, by omega, by go_num, HSq⟩
              case measure => simp [intOf]; omega

    · have HWK := Lib.hid (HW.out wr)
      go_wp2_with fail
      refine HWK.out.mono ?_; rintro e w1 ⟨rfl, hb1⟩
      have hbw := HS.out.bel.trans (hb1.mono HS.out.bel.size)
      clear hb1
      go_wp2_with fail
      go_ret
      exact ⟨rfl, hbw⟩
end Tab
end Go.Proofs.Ytenhgkhonaglaaa
