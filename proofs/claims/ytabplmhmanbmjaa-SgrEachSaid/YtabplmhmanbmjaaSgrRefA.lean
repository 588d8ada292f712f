/- How cells look, the reference's side: what numbers make of an attribute. -/
import Derived.Test.YtabplmhmanbmjaaSgrRefL
import Derived.RegionTactic
namespace Go.Proofs.Ytabplmhmanbmjaa
set_option maxRecDepth 100000
open Go.RowKit
namespace Sgr
theorem idx_digit_all : ∀ k : Fin 8, idx [1, 2, 3, 4, 5, 7, 8, 9] (digit k.val) = k.val := by decide +kernel
theorem idx_digit (k : Nat) (h : k < 8) : idx [1, 2, 3, 4, 5, 7, 8, 9] (digit k) = k := idx_digit_all ⟨k, h⟩
theorem flag_digit_all : ∀ k : Fin 8, flagOf (digit k.val) = 2 ^ k.val := by decide +kernel
theorem flag_digit (k : Nat) (h : k < 8) : flagOf (digit k) = 2 ^ k := flag_digit_all ⟨k, h⟩
theorem idx_no (n : Int) (h : n < 1 ∨ 9 < n ∨ n = 6) : idx [1, 2, 3, 4, 5, 7, 8, 9] n = -1 := by
  refine idx_none fun j hj => ?_
  have hj' : j < 8 := hj
  have : j = 0 ∨ j = 1 ∨ j = 2 ∨ j = 3 ∨ j = 4 ∨ j = 5 ∨ j = 6 ∨ j = 7 := by omega
  rcases this with rfl | rfl | rfl | rfl | rfl | rfl | rfl | rfl <;> simp [List.getD] <;> omega
theorem digit_of (n : Int) (h : 1 ≤ n ∧ n ≤ 9 ∧ n ≠ 6) : ∃ k, k < 8 ∧ n = digit k := by
  have : n = 1 ∨ n = 2 ∨ n = 3 ∨ n = 4 ∨ n = 5 ∨ n = 7 ∨ n = 8 ∨ n = 9 := by omega
  rcases this with h | h | h | h | h | h | h | h
  · exact ⟨0, by decide, h⟩
  · exact ⟨1, by decide, h⟩
  · exact ⟨2, by decide, h⟩
  · exact ⟨3, by decide, h⟩
  · exact ⟨4, by decide, h⟩
  · exact ⟨5, by decide, h⟩
  · exact ⟨6, by decide, h⟩
  · exact ⟨7, by decide, h⟩
theorem wrap_pow_all : ∀ k : Fin 8, wrap64 ((2 : Int) ^ k.val) = 2 ^ k.val := by decide +kernel
theorem wrap_pow (k : Nat) (h : k < 8) : wrap64 ((2 : Int) ^ k) = 2 ^ k := wrap_pow_all ⟨k, h⟩
/-- The blocks of one run: what it makes, what it hands back, the numbers of flags. -/
structure Held (w : World) (g : Nat) (X : Look) (wr : World) : Prop where
  look : wr.heap[g]? = some (.cells #[.int .i64 X.fg, .int .i64 X.bg, .int .i64 X.flags] 29 (0, 0))
  back : wr.heap[g + 1]? = some (.cells #[.int .i64 0, .int .i64 0, .int .i64 0] 29 (0, 0))
  sets : wr.heap[g + 1 + 1]? = some (.cells (ints [1, 2, 3, 4, 5, 7, 8, 9]).toArray 3 (0, 0))
  below : Below g w wr
  size : w.heap.size = g
theorem Held.upd {w : World} {g : Nat} {X : Look} {wr : World} (h : Held w g X wr) (j : Nat) (v : Value) (Y : Look) (hY : (#[.int .i64 X.fg, .int .i64 X.bg, .int .i64 X.flags] : Array Value).setIfInBounds j v = #[.int .i64 Y.fg, .int .i64 Y.bg, .int .i64 Y.flags]) : Held w g Y (wr.setCell ⟨g, j, none⟩ v) :=
  ⟨by rw [Blk.set h.look, hY], Blk.other h.back (by omega) _ _, Blk.other h.sets (by omega) _ _, h.below.setCell (Nat.le_refl _) _, h.size⟩
theorem Held.drew {w : World} {g : Nat} {X : Look} {wr : World} (h : Held w g X wr) : Held w g X wr.drew := ⟨h.look, h.back, h.sets, h.below.drew, h.size⟩
theorem Held.kept {w : World} {g : Nat} {X : Look} {wr w' : World} (h : Held w g X wr) (hb : Below wr.heap.size wr w') : Held w g X w' :=
  ⟨Blk.kept h.look hb, Blk.kept h.back hb, Blk.kept h.sets hb, h.below.trans (hb.mono (by have := h.below.size; have := h.size; omega)), h.size⟩
theorem Held.src {w : World} {g : Nat} {X : Look} {wr : World} (h : Held w g X wr) : Src wr (.slice (some ⟨g + 1 + 1, 0, none⟩) 8 8) 8 (ints [1, 2, 3, 4, 5, 7, 8, 9]) :=
  ⟨rfl, .inr ⟨_, _, rfl, fun j u hu => by
    rw [show (⟨g + 1 + 1, 0, none⟩ : Addr).add j = ⟨g + 1 + 1, j, none⟩ by unfold Addr.add; split <;> simp_all]
    rw [Blk.cell h.sets j, List.getElem?_toArray]; exact hu⟩⟩
/-- What is handed back. -/
theorem Held.handed {w : World} {g : Nat} {X : Look} {wr : World} (h : Held w g X wr) :
    ((((wr.setCell ⟨g + 1, 0, none⟩ (.int .i64 X.fg)).setCell ⟨g + 1, 1, none⟩ (.int .i64 X.bg)).setCell ⟨g + 1, 2, none⟩ (.int .i64 X.flags)).heap[g + 1]? = some (.cells #[.int .i64 X.fg, .int .i64 X.bg, .int .i64 X.flags] 29 (0, 0))) ∧
    Below g w (((wr.setCell ⟨g + 1, 0, none⟩ (.int .i64 X.fg)).setCell ⟨g + 1, 1, none⟩ (.int .i64 X.bg)).setCell ⟨g + 1, 2, none⟩ (.int .i64 X.flags)) :=
  ⟨Blk.set (Blk.set (Blk.set h.back 0 _) 1 _) 2 _, ((h.below.setCell (by simp) _).setCell (by simp) _).setCell (by simp) _⟩
set_option maxHeartbeats 400000 in
/-- No number: plain. -/
theorem refApply_none (a : Look) (A : Option Addr) (c : Nat) (w : World) :
    Calls Try.prog 17 #[.agg #[.int .i64 a.fg, .int .i64 a.bg, .int .i64 a.flags], .slice A 0 c] w fun e w' => e = .returned (.agg #[.int .i64 (-1), .int .i64 (-1), .int .i64 0]) ∧ Below w.heap.size w w' := by
  go_enter Try.func17, Try.ntmps17
  go_wp2_with fail
  refine (plain_any _).mono ?_
  rintro e w2 ⟨rfl, hb2⟩
  have hR : w2.heap[w.heap.size + 1]? = some (.cells #[.int .i64 0, .int .i64 0, .int .i64 0] 29 (0, 0)) := Blk.kept (new_alloc _ _ _ (by simp)) hb2
  have c0 : w2.cell? ⟨w.heap.size + 1, 0, none⟩ = some (.int .i64 0) := Blk.cell hR 0
  have c1 : w2.cell? ⟨w.heap.size + 1, 1, none⟩ = some (.int .i64 0) := Blk.cell hR 1
  have c2 : w2.cell? ⟨w.heap.size + 1, 2, none⟩ = some (.int .i64 0) := Blk.cell hR 2
  have f0 := Blk.free hR 0
  have f1 := Blk.free hR 1
  have f2 := Blk.free hR 2
  have HB : Hid (Below w.heap.size w w2) := Lib.hid ((((Below.refl _ _).alloc (Nat.le_refl _) _).alloc (by simp) _).trans (hb2.mono (by simp; omega)))
  have hF := Blk.set (Blk.set (Blk.set hR 0 (.int .i64 (-1))) 1 (.int .i64 (-1))) 2 (.int .i64 0)
  have hBF := ((HB.out.setCell (p := ⟨w.heap.size + 1, 0, none⟩) (by simp) (.int .i64 (-1))).setCell (p := ⟨w.heap.size + 1, 1, none⟩) (by simp) (.int .i64 (-1))).setCell (p := ⟨w.heap.size + 1, 2, none⟩) (by simp) (.int .i64 0)
  have HF := Lib.hid hF
  have HBF := Lib.hid hBF
  clear hR hb2 hF hBF
  go_wp2_with fail
  clear c0 c1 c2 f0 f1 f2
  generalize ((w2.setCell ⟨w.heap.size + 1, 0, none⟩ (.int .i64 (-1))).setCell ⟨w.heap.size + 1, 1, none⟩ (.int .i64 (-1))).setCell ⟨w.heap.size + 1, 2, none⟩ (.int .i64 0) = wF at HF HBF ⊢
  have c0 : wF.cell? ⟨w.heap.size + 1, 0, none⟩ = some (.int .i64 (-1)) := Blk.cell HF.out 0
  have c1 : wF.cell? ⟨w.heap.size + 1, 1, none⟩ = some (.int .i64 (-1)) := Blk.cell HF.out 1
  have c2 : wF.cell? ⟨w.heap.size + 1, 2, none⟩ = some (.int .i64 0) := Blk.cell HF.out 2
  refine bodyPost_ret (v := .agg #[.int .i64 (-1), .int .i64 (-1), .int .i64 0]) (by simp [results, Try.results17, go_sem, c0, c1, c2]) rfl ⟨rfl, HBF.out⟩
set_option maxHeartbeats 6400000 in
theorem refApply_some (a : Look) (l : List Int) (x : Value) (w : World) (ha : Byt a.flags) (hx : Sl w x l) (hl : l.length ≤ 32) (hr : ∀ k, k < l.length → -1 ≤ l.getD k 0 ∧ l.getD k 0 ≤ 9999) (h0 : 0 < l.length) :
    Calls Try.prog 17 #[.agg #[.int .i64 a.fg, .int .i64 a.bg, .int .i64 a.flags], x] w fun e w' => e = .returned (.agg #[.int .i64 (applyOf a l).fg, .int .i64 (applyOf a l).bg, .int .i64 (applyOf a l).flags]) ∧ Below w.heap.size w w' := by
  obtain ⟨A, c, rfl, hc⟩ := hx.room
  have HX := Lib.hid hx
  have HR := Lib.hid hr
  have HG := Lib.hid hx.get
  have HAP : Hid (runs a (l.drop 0) = applyOf a l) := Lib.hid (by rw [List.drop_zero]; unfold applyOf; rw [if_neg (fun e => by subst e; simp at h0)])
  have hl0 : ((l.length : Int) == 0) = false := by rw [beq_eq_false_iff_ne]; omega
  clear hx hr hc
  go_enter Try.func17, Try.ntmps17
  go_wp2_with fail
  have HS : Hid (Held w w.heap.size a (((w.alloc (.cells #[.int .i64 a.fg, .int .i64 a.bg, .int .i64 a.flags] 29)).alloc (.cells #[.int .i64 0, .int .i64 0, .int .i64 0] 29)).alloc (.cells #[.int .i64 1, .int .i64 2, .int .i64 3, .int .i64 4, .int .i64 5, .int .i64 7, .int .i64 8, .int .i64 9] 3))) :=
    Lib.hid ⟨old_alloc (old_alloc (heap_alloc_new _ _) _) _, old_alloc (new_alloc _ _ _ (by simp)) _, new_alloc _ _ _ (by simp), (((Below.refl _ _).alloc (Nat.le_refl _) _).alloc (by simp) _).alloc (by simp; omega) _, rfl⟩
  generalize ((w.alloc (.cells #[.int .i64 a.fg, .int .i64 a.bg, .int .i64 a.flags] 29)).alloc (.cells #[.int .i64 0, .int .i64 0, .int .i64 0] 29)).alloc (.cells #[.int .i64 1, .int .i64 2, .int .i64 3, .int .i64 4, .int .i64 5, .int .i64 7, .int .i64 8, .int .i64 9] 3) = w1 at HS ⊢
  obtain ⟨g, hg⟩ : ∃ g, w.heap.size = g := ⟨_, rfl⟩
  rw [hg] at HS ⊢
  have HGG := Lib.hid hg
  clear hg
  go_loopw [6] (fun i wr => ∃ (k : Nat) (X : Look), k ≤ l.length ∧ i = .int .i64 k ∧ Hid (runs X (l.drop k) = applyOf a l) ∧ Byt X.flags ∧ Hid (Held w g X wr)) (fun i _ => l.length - (intOf i).toNat)
  case atStart => exact ⟨0, a, by omega, rfl, HAP, ha, HS⟩
  case round =>
    obtain ⟨k, X, hk, rfl, HP, hby, HH⟩ := hrel
    have HBY := Lib.hid hby
    clear hby
    by_cases hlt : k < l.length
    · obtain ⟨ad, rfl, hE⟩ := HG.out k hlt
      have hE := cell_kept (by rw [HGG.out]; exact HH.out.below) hE
      obtain ⟨hr1, hr2⟩ := HR.out k hlt
      have HD : Hid (l.drop k = l.getD k 0 :: l.drop (k + 1)) := Lib.hid (by rw [List.drop_eq_getElem_cons hlt]; simp [List.getD, hlt])
      generalize l.getD k 0 = x at hE hr1 hr2 HD
      have q0 : wr.cell? ⟨g, 0, none⟩ = some (.int .i64 X.fg) := Blk.cell HH.out.look 0
      have q1 : wr.cell? ⟨g, 1, none⟩ = some (.int .i64 X.bg) := Blk.cell HH.out.look 1
      have q2 : wr.cell? ⟨g, 2, none⟩ = some (.int .i64 X.flags) := Blk.cell HH.out.look 2
      have g0 := Blk.free HH.out.look 0
      have g1 := Blk.free HH.out.look 1
      have g2 := Blk.free HH.out.look 2
      by_cases hp : 0 < x
      case neg =>
        have hm : max 0 x = 0 := by omega
        have HI : Hid (idx [1, 2, 3, 4, 5, 7, 8, 9] 0 = -1) := Lib.hid rfl
        have HJ : Hid (idx [1, 2, 3, 4, 5, 7, 8, 9] (-20) = -1) := Lib.hid rfl
        have HM := Lib.hid hm
        clear hm
        go_wp2_with fail
        refine (in_any [1, 2, 3, 4, 5, 7, 8, 9] _ 0 _ HH.out.src (by decide)).mono ?_; rw [HI.out]; rintro e w' ⟨rfl, rfl⟩
        go_wp2_with fail
        refine (in_any [1, 2, 3, 4, 5, 7, 8, 9] _ (-20) _ HH.out.src (by decide)).mono ?_; rw [HJ.out]; rintro e w' ⟨rfl, rfl⟩
        go_wp2_with fail
        refine (plain_any _).mono ?_
        rintro e w2 ⟨rfl, hb2⟩
        have HH2 := Lib.hid (HH.out.kept hb2)
        clear hb2 q0 q1 q2 g0 g1 g2 hE
        have q0 : w2.cell? ⟨g, 0, none⟩ = some (.int .i64 X.fg) := Blk.cell HH2.out.look 0
        have q1 : w2.cell? ⟨g, 1, none⟩ = some (.int .i64 X.bg) := Blk.cell HH2.out.look 1
        have q2 : w2.cell? ⟨g, 2, none⟩ = some (.int .i64 X.flags) := Blk.cell HH2.out.look 2
        have g0 := Blk.free HH2.out.look 0
        have g1 := Blk.free HH2.out.look 1
        have g2 := Blk.free HH2.out.look 2
        go_wp2_with fail
        go_roundw
        case rel => exact ⟨k + 1, bare, by omega, by go_num, Lib.hid (by rw [← HP.out, HD.out, runs_one _ _ _ (by rw [HM.out]; decide), HM.out]; rfl), ⟨by decide, by decide⟩, Lib.hid (((HH2.out.upd 0 _ ⟨-1, X.bg, X.flags⟩ rfl).upd 1 _ ⟨-1, -1, X.flags⟩ rfl).upd 2 _ bare rfl)⟩
        case measure => simp [intOf]; omega
      have hm : max 0 x = x := by omega
      have HM := Lib.hid hm
      have hn0 : (x == 0) = false := by rw [beq_eq_false_iff_ne]; omega
      clear hm
      by_cases hB : x ≤ 9 ∧ x ≠ 6
      · obtain ⟨j, hj, hd⟩ := digit_of x ⟨by omega, hB.1, hB.2⟩
        have HI : Hid (idx [1, 2, 3, 4, 5, 7, 8, 9] x = j) := Lib.hid (by rw [hd]; exact idx_digit j hj)
        have HF : Hid (flagOf x = 2 ^ j) := Lib.hid (by rw [hd]; exact flag_digit j hj)
        have HJ : Hid (idx [1, 2, 3, 4, 5, 7, 8, 9] (x - 20) = -1) := Lib.hid (idx_no _ (by omega))
        have hj0 : (0 : Int) ≤ j := by omega
        have HW : Hid (wrap64 ((2 : Int) ^ j) = 2 ^ j) := Lib.hid (wrap_pow j hj)
        have HO : Hid (one X (max 0 x) = ⟨X.fg, X.bg, addFlag X.flags (2 ^ j)⟩) := Lib.hid (by rw [HM.out]; unfold one; rw [if_neg (by omega), if_pos hB.1, HF.out])
        have HK : Hid (¬(max 0 x = 38 ∨ max 0 x = 48)) := Lib.hid (by rw [HM.out]; omega)
        clear hB hd
        go_wp2_with fail
        refine (in_any [1, 2, 3, 4, 5, 7, 8, 9] _ x _ HH.out.src (by decide)).mono ?_; rw [HI.out]; rintro e w' ⟨rfl, rfl⟩
        go_wp2_with fail
        refine (in_any [1, 2, 3, 4, 5, 7, 8, 9] _ (x - 20) _ HH.out.src (by decide)).mono ?_; rw [HJ.out]; rintro e w' ⟨rfl, rfl⟩
        go_wp2_with fail
        go_region
        go_wp2_with fail
        go_roundw
        case rel => exact ⟨k + 1, ⟨X.fg, X.bg, addFlag X.flags (2 ^ j)⟩, by omega, by go_num, Lib.hid (by rw [← HP.out, HD.out, runs_one _ _ _ HK.out, HO.out]), by have := one_byt HBY.out (max 0 x); rw [HO.out] at this; exact this, Lib.hid (by rw [HW.out]; first | exact HH.out.upd 2 _ ⟨X.fg, X.bg, addFlag X.flags (2 ^ j)⟩ rfl | exact (HH.out.upd 2 _ ⟨X.fg, X.bg, addFlag X.flags (2 ^ j)⟩ rfl).drew | exact HH.out.drew.upd 2 _ ⟨X.fg, X.bg, addFlag X.flags (2 ^ j)⟩ rfl)⟩
        case measure => simp [intOf]; omega
      have HI : Hid (idx [1, 2, 3, 4, 5, 7, 8, 9] x = -1) := Lib.hid (idx_no _ (by omega))
      by_cases hC : x = 22
      · have HO : Hid (one X (max 0 x) = ⟨X.fg, X.bg, subFlag X.flags 3⟩) := Lib.hid (by rw [HM.out]; unfold one; rw [if_neg (by omega), if_neg (by omega), if_pos hC])
        have HK : Hid (¬(max 0 x = 38 ∨ max 0 x = 48)) := Lib.hid (by rw [HM.out]; omega)
        have HJ : Hid (idx [1, 2, 3, 4, 5, 7, 8, 9] (x - 20) = 1) := Lib.hid (by rw [hC]; exact idx_digit 1 (by decide))
        have b22 : (x == 22) = true := by rw [beq_iff_eq]; omega
        clear hC
        go_wp2_with fail
        refine (in_any [1, 2, 3, 4, 5, 7, 8, 9] _ x _ HH.out.src (by decide)).mono ?_; rw [HI.out]; rintro e w' ⟨rfl, rfl⟩
        go_wp2_with fail
        refine (in_any [1, 2, 3, 4, 5, 7, 8, 9] _ (x - 20) _ HH.out.src (by decide)).mono ?_; rw [HJ.out]; rintro e w' ⟨rfl, rfl⟩
        go_wp2_with fail
        go_roundw
        case rel => exact ⟨k + 1, ⟨X.fg, X.bg, subFlag X.flags 3⟩, by omega, by go_num, Lib.hid (by rw [← HP.out, HD.out, runs_one _ _ _ HK.out, HO.out]), by have := one_byt HBY.out (max 0 x); rw [HO.out] at this; exact this, Lib.hid (by first | exact HH.out.upd 2 _ ⟨X.fg, X.bg, subFlag X.flags 3⟩ rfl | exact (HH.out.upd 2 _ ⟨X.fg, X.bg, subFlag X.flags 3⟩ rfl).drew | exact HH.out.drew.upd 2 _ ⟨X.fg, X.bg, subFlag X.flags 3⟩ rfl)⟩
        case measure => simp [intOf]; omega
      by_cases hD : 23 ≤ x ∧ x ≤ 29 ∧ x ≠ 26
      · obtain ⟨j, hj, hd⟩ := digit_of (x - 20) ⟨by omega, by omega, by omega⟩
        have HJ : Hid (idx [1, 2, 3, 4, 5, 7, 8, 9] (x - 20) = j) := Lib.hid (by rw [hd]; exact idx_digit j hj)
        have HF : Hid (flagOf (x - 20) = 2 ^ j) := Lib.hid (by rw [hd]; exact flag_digit j hj)
        have hj0 : (0 : Int) ≤ j := by omega
        have HW : Hid (wrap64 ((2 : Int) ^ j) = 2 ^ j) := Lib.hid (wrap_pow j hj)
        have h22 : 22 < x := by omega
        have b22 : (x == 22) = false := by rw [beq_eq_false_iff_ne]; omega
        have HO : Hid (one X (max 0 x) = ⟨X.fg, X.bg, subFlag X.flags (2 ^ j)⟩) := Lib.hid (by rw [HM.out]; unfold one; rw [if_neg (by omega), if_neg (by omega), if_neg (by omega), if_pos (by omega), HF.out])
        have HK : Hid (¬(max 0 x = 38 ∨ max 0 x = 48)) := Lib.hid (by rw [HM.out]; omega)
        clear hD hd
        go_wp2_with fail
        refine (in_any [1, 2, 3, 4, 5, 7, 8, 9] _ x _ HH.out.src (by decide)).mono ?_; rw [HI.out]; rintro e w' ⟨rfl, rfl⟩
        go_wp2_with fail
        refine (in_any [1, 2, 3, 4, 5, 7, 8, 9] _ (x - 20) _ HH.out.src (by decide)).mono ?_; rw [HJ.out]; rintro e w' ⟨rfl, rfl⟩
        go_wp2_with fail
        go_region
        go_wp2_with fail
        go_roundw
        case rel => exact ⟨k + 1, ⟨X.fg, X.bg, subFlag X.flags (2 ^ j)⟩, by omega, by go_num, Lib.hid (by rw [← HP.out, HD.out, runs_one _ _ _ HK.out, HO.out]), by have := one_byt HBY.out (max 0 x); rw [HO.out] at this; exact this, Lib.hid (by rw [HW.out]; first | exact HH.out.upd 2 _ ⟨X.fg, X.bg, subFlag X.flags (2 ^ j)⟩ rfl | exact (HH.out.upd 2 _ ⟨X.fg, X.bg, subFlag X.flags (2 ^ j)⟩ rfl).drew | exact HH.out.drew.upd 2 _ ⟨X.fg, X.bg, subFlag X.flags (2 ^ j)⟩ rfl)⟩
        case measure => simp [intOf]; omega
      by_cases hE : 30 ≤ x ∧ x ≤ 37
      · have HO : Hid (one X (max 0 x) = ⟨x - 30, X.bg, X.flags⟩) := Lib.hid (by rw [HM.out]; unfold one; rw [if_neg (by omega), if_neg (by omega), if_neg (by omega), if_neg (by omega), if_pos (by omega)])
        have HK : Hid (¬(max 0 x = 38 ∨ max 0 x = 48)) := Lib.hid (by rw [HM.out]; omega)
        have HJ : Hid (idx [1, 2, 3, 4, 5, 7, 8, 9] (x - 20) = -1) := Lib.hid (idx_no _ (by omega))
        have h22 : 22 < x := by omega
        have b22 : (x == 22) = false := by rw [beq_eq_false_iff_ne]; omega
        have R30 : Hid (rng x 30 37 = true) := Lib.hid (rng_yes (by omega))
        clear hE
        go_wp2_with fail
        refine (in_any [1, 2, 3, 4, 5, 7, 8, 9] _ x _ HH.out.src (by decide)).mono ?_; rw [HI.out]; rintro e w' ⟨rfl, rfl⟩
        go_wp2_with fail
        refine (in_any [1, 2, 3, 4, 5, 7, 8, 9] _ (x - 20) _ HH.out.src (by decide)).mono ?_; rw [HJ.out]; rintro e w' ⟨rfl, rfl⟩
        go_wp2_with fail
        refine (between_any x 30 37 _).mono ?_; rw [R30.out]; rintro e w' ⟨rfl, rfl⟩
        go_wp2_with fail
        go_roundw
        case rel => exact ⟨k + 1, ⟨x - 30, X.bg, X.flags⟩, by omega, by go_num, Lib.hid (by rw [← HP.out, HD.out, runs_one _ _ _ HK.out, HO.out]), by have := one_byt HBY.out (max 0 x); rw [HO.out] at this; exact this, Lib.hid (by first | exact HH.out.upd 0 _ ⟨x - 30, X.bg, X.flags⟩ rfl | exact (HH.out.upd 0 _ ⟨x - 30, X.bg, X.flags⟩ rfl).drew | exact HH.out.drew.upd 0 _ ⟨x - 30, X.bg, X.flags⟩ rfl)⟩
        case measure => simp [intOf]; omega
      by_cases hF : 90 ≤ x ∧ x ≤ 97
      · have HO : Hid (one X (max 0 x) = ⟨x - 82, X.bg, X.flags⟩) := Lib.hid (by rw [HM.out]; unfold one; rw [if_neg (by omega), if_neg (by omega), if_neg (by omega), if_neg (by omega), if_neg (by omega), if_pos (by omega)])
        have HK : Hid (¬(max 0 x = 38 ∨ max 0 x = 48)) := Lib.hid (by rw [HM.out]; omega)
        have HJ : Hid (idx [1, 2, 3, 4, 5, 7, 8, 9] (x - 20) = -1) := Lib.hid (idx_no _ (by omega))
        have h22 : 22 < x := by omega
        have b22 : (x == 22) = false := by rw [beq_eq_false_iff_ne]; omega
        have R30 : Hid (rng x 30 37 = false) := Lib.hid (rng_no (by omega))
        have R90 : Hid (rng x 90 97 = true) := Lib.hid (rng_yes (by omega))
        clear hF
        go_wp2_with fail
        refine (in_any [1, 2, 3, 4, 5, 7, 8, 9] _ x _ HH.out.src (by decide)).mono ?_; rw [HI.out]; rintro e w' ⟨rfl, rfl⟩
        go_wp2_with fail
        refine (in_any [1, 2, 3, 4, 5, 7, 8, 9] _ (x - 20) _ HH.out.src (by decide)).mono ?_; rw [HJ.out]; rintro e w' ⟨rfl, rfl⟩
        go_wp2_with fail
        refine (between_any x 30 37 _).mono ?_; rw [R30.out]; rintro e w' ⟨rfl, rfl⟩
        go_wp2_with fail
        refine (between_any x 90 97 _).mono ?_; rw [R90.out]; rintro e w' ⟨rfl, rfl⟩
        go_wp2_with fail
        go_roundw
        case rel => exact ⟨k + 1, ⟨x - 82, X.bg, X.flags⟩, by omega, by go_num, Lib.hid (by rw [← HP.out, HD.out, runs_one _ _ _ HK.out, HO.out]), by have := one_byt HBY.out (max 0 x); rw [HO.out] at this; exact this, Lib.hid (by first | exact HH.out.upd 0 _ ⟨x - 82, X.bg, X.flags⟩ rfl | exact (HH.out.upd 0 _ ⟨x - 82, X.bg, X.flags⟩ rfl).drew | exact HH.out.drew.upd 0 _ ⟨x - 82, X.bg, X.flags⟩ rfl)⟩
        case measure => simp [intOf]; omega
      by_cases hG : 40 ≤ x ∧ x ≤ 47
      · have HO : Hid (one X (max 0 x) = ⟨X.fg, x - 40, X.flags⟩) := Lib.hid (by rw [HM.out]; unfold one; rw [if_neg (by omega), if_neg (by omega), if_neg (by omega), if_neg (by omega), if_neg (by omega), if_neg (by omega), if_pos (by omega)])
        have HK : Hid (¬(max 0 x = 38 ∨ max 0 x = 48)) := Lib.hid (by rw [HM.out]; omega)
        have HJ : Hid (idx [1, 2, 3, 4, 5, 7, 8, 9] (x - 20) = -1) := Lib.hid (idx_no _ (by omega))
        have h22 : 22 < x := by omega
        have b22 : (x == 22) = false := by rw [beq_eq_false_iff_ne]; omega
        have R30 : Hid (rng x 30 37 = false) := Lib.hid (rng_no (by omega))
        have R90 : Hid (rng x 90 97 = false) := Lib.hid (rng_no (by omega))
        have R40 : Hid (rng x 40 47 = true) := Lib.hid (rng_yes (by omega))
        clear hG
        go_wp2_with fail
        refine (in_any [1, 2, 3, 4, 5, 7, 8, 9] _ x _ HH.out.src (by decide)).mono ?_; rw [HI.out]; rintro e w' ⟨rfl, rfl⟩
        go_wp2_with fail
        refine (in_any [1, 2, 3, 4, 5, 7, 8, 9] _ (x - 20) _ HH.out.src (by decide)).mono ?_; rw [HJ.out]; rintro e w' ⟨rfl, rfl⟩
        go_wp2_with fail
        refine (between_any x 30 37 _).mono ?_; rw [R30.out]; rintro e w' ⟨rfl, rfl⟩
        go_wp2_with fail
        refine (between_any x 90 97 _).mono ?_; rw [R90.out]; rintro e w' ⟨rfl, rfl⟩
        go_wp2_with fail
        refine (between_any x 40 47 _).mono ?_; rw [R40.out]; rintro e w' ⟨rfl, rfl⟩
        go_wp2_with fail
        go_roundw
        case rel => exact ⟨k + 1, ⟨X.fg, x - 40, X.flags⟩, by omega, by go_num, Lib.hid (by rw [← HP.out, HD.out, runs_one _ _ _ HK.out, HO.out]), by have := one_byt HBY.out (max 0 x); rw [HO.out] at this; exact this, Lib.hid (by first | exact HH.out.upd 1 _ ⟨X.fg, x - 40, X.flags⟩ rfl | exact (HH.out.upd 1 _ ⟨X.fg, x - 40, X.flags⟩ rfl).drew | exact HH.out.drew.upd 1 _ ⟨X.fg, x - 40, X.flags⟩ rfl)⟩
        case measure => simp [intOf]; omega
      by_cases hH : 100 ≤ x ∧ x ≤ 107
      · have HO : Hid (one X (max 0 x) = ⟨X.fg, x - 92, X.flags⟩) := Lib.hid (by rw [HM.out]; unfold one; rw [if_neg (by omega), if_neg (by omega), if_neg (by omega), if_neg (by omega), if_neg (by omega), if_neg (by omega), if_neg (by omega), if_pos (by omega)])
        have HK : Hid (¬(max 0 x = 38 ∨ max 0 x = 48)) := Lib.hid (by rw [HM.out]; omega)
        have HJ : Hid (idx [1, 2, 3, 4, 5, 7, 8, 9] (x - 20) = -1) := Lib.hid (idx_no _ (by omega))
        have h22 : 22 < x := by omega
        have b22 : (x == 22) = false := by rw [beq_eq_false_iff_ne]; omega
        have R30 : Hid (rng x 30 37 = false) := Lib.hid (rng_no (by omega))
        have R90 : Hid (rng x 90 97 = false) := Lib.hid (rng_no (by omega))
        have R40 : Hid (rng x 40 47 = false) := Lib.hid (rng_no (by omega))
        have R100 : Hid (rng x 100 107 = true) := Lib.hid (rng_yes (by omega))
        clear hH
        go_wp2_with fail
        refine (in_any [1, 2, 3, 4, 5, 7, 8, 9] _ x _ HH.out.src (by decide)).mono ?_; rw [HI.out]; rintro e w' ⟨rfl, rfl⟩
        go_wp2_with fail
        refine (in_any [1, 2, 3, 4, 5, 7, 8, 9] _ (x - 20) _ HH.out.src (by decide)).mono ?_; rw [HJ.out]; rintro e w' ⟨rfl, rfl⟩
        go_wp2_with fail
        refine (between_any x 30 37 _).mono ?_; rw [R30.out]; rintro e w' ⟨rfl, rfl⟩
        go_wp2_with fail
        refine (between_any x 90 97 _).mono ?_; rw [R90.out]; rintro e w' ⟨rfl, rfl⟩
        go_wp2_with fail
        refine (between_any x 40 47 _).mono ?_; rw [R40.out]; rintro e w' ⟨rfl, rfl⟩
        go_wp2_with fail
        refine (between_any x 100 107 _).mono ?_; rw [R100.out]; rintro e w' ⟨rfl, rfl⟩
        go_wp2_with fail
        go_roundw
        case rel => exact ⟨k + 1, ⟨X.fg, x - 92, X.flags⟩, by omega, by go_num, Lib.hid (by rw [← HP.out, HD.out, runs_one _ _ _ HK.out, HO.out]), by have := one_byt HBY.out (max 0 x); rw [HO.out] at this; exact this, Lib.hid (by first | exact HH.out.upd 1 _ ⟨X.fg, x - 92, X.flags⟩ rfl | exact (HH.out.upd 1 _ ⟨X.fg, x - 92, X.flags⟩ rfl).drew | exact HH.out.drew.upd 1 _ ⟨X.fg, x - 92, X.flags⟩ rfl)⟩
        case measure => simp [intOf]; omega
      by_cases hI : x = 39
      · have HO : Hid (one X (max 0 x) = ⟨-1, X.bg, X.flags⟩) := Lib.hid (by rw [HM.out]; unfold one; rw [if_neg (by omega), if_neg (by omega), if_neg (by omega), if_neg (by omega), if_neg (by omega), if_neg (by omega), if_neg (by omega), if_neg (by omega), if_pos (by omega)])
        have HK : Hid (¬(max 0 x = 38 ∨ max 0 x = 48)) := Lib.hid (by rw [HM.out]; omega)
        have HJ : Hid (idx [1, 2, 3, 4, 5, 7, 8, 9] (x - 20) = -1) := Lib.hid (idx_no _ (by omega))
        have h22 : 22 < x := by omega
        have b22 : (x == 22) = false := by rw [beq_eq_false_iff_ne]; omega
        have b39 : (x == 39) = true := by rw [beq_iff_eq]; omega
        have R30 : Hid (rng x 30 37 = false) := Lib.hid (rng_no (by omega))
        have R90 : Hid (rng x 90 97 = false) := Lib.hid (rng_no (by omega))
        have R40 : Hid (rng x 40 47 = false) := Lib.hid (rng_no (by omega))
        have R100 : Hid (rng x 100 107 = false) := Lib.hid (rng_no (by omega))
        clear hI
        go_wp2_with fail
        refine (in_any [1, 2, 3, 4, 5, 7, 8, 9] _ x _ HH.out.src (by decide)).mono ?_; rw [HI.out]; rintro e w' ⟨rfl, rfl⟩
        go_wp2_with fail
        refine (in_any [1, 2, 3, 4, 5, 7, 8, 9] _ (x - 20) _ HH.out.src (by decide)).mono ?_; rw [HJ.out]; rintro e w' ⟨rfl, rfl⟩
        go_wp2_with fail
        refine (between_any x 30 37 _).mono ?_; rw [R30.out]; rintro e w' ⟨rfl, rfl⟩
        go_wp2_with fail
        refine (between_any x 90 97 _).mono ?_; rw [R90.out]; rintro e w' ⟨rfl, rfl⟩
        go_wp2_with fail
        refine (between_any x 40 47 _).mono ?_; rw [R40.out]; rintro e w' ⟨rfl, rfl⟩
        go_wp2_with fail
        refine (between_any x 100 107 _).mono ?_; rw [R100.out]; rintro e w' ⟨rfl, rfl⟩
        go_wp2_with fail
        go_roundw
        case rel => exact ⟨k + 1, ⟨-1, X.bg, X.flags⟩, by omega, by go_num, Lib.hid (by rw [← HP.out, HD.out, runs_one _ _ _ HK.out, HO.out]), by have := one_byt HBY.out (max 0 x); rw [HO.out] at this; exact this, Lib.hid (by first | exact HH.out.upd 0 _ ⟨-1, X.bg, X.flags⟩ rfl | exact (HH.out.upd 0 _ ⟨-1, X.bg, X.flags⟩ rfl).drew | exact HH.out.drew.upd 0 _ ⟨-1, X.bg, X.flags⟩ rfl)⟩
        case measure => simp [intOf]; omega
      by_cases hJ : x = 49
      · have HO : Hid (one X (max 0 x) = ⟨X.fg, -1, X.flags⟩) := Lib.hid (by rw [HM.out]; unfold one; rw [if_neg (by omega), if_neg (by omega), if_neg (by omega), if_neg (by omega), if_neg (by omega), if_neg (by omega), if_neg (by omega), if_neg (by omega), if_neg (by omega), if_pos (by omega)])
        have HK : Hid (¬(max 0 x = 38 ∨ max 0 x = 48)) := Lib.hid (by rw [HM.out]; omega)
        have HJ : Hid (idx [1, 2, 3, 4, 5, 7, 8, 9] (x - 20) = -1) := Lib.hid (idx_no _ (by omega))
        have h22 : 22 < x := by omega
        have b22 : (x == 22) = false := by rw [beq_eq_false_iff_ne]; omega
        have b39 : (x == 39) = false := by rw [beq_eq_false_iff_ne]; omega
        have b49 : (x == 49) = true := by rw [beq_iff_eq]; omega
        have R30 : Hid (rng x 30 37 = false) := Lib.hid (rng_no (by omega))
        have R90 : Hid (rng x 90 97 = false) := Lib.hid (rng_no (by omega))
        have R40 : Hid (rng x 40 47 = false) := Lib.hid (rng_no (by omega))
        have R100 : Hid (rng x 100 107 = false) := Lib.hid (rng_no (by omega))
        clear hJ
        go_wp2_with fail
        refine (in_any [1, 2, 3, 4, 5, 7, 8, 9] _ x _ HH.out.src (by decide)).mono ?_; rw [HI.out]; rintro e w' ⟨rfl, rfl⟩
        go_wp2_with fail
        refine (in_any [1, 2, 3, 4, 5, 7, 8, 9] _ (x - 20) _ HH.out.src (by decide)).mono ?_; rw [HJ.out]; rintro e w' ⟨rfl, rfl⟩
        go_wp2_with fail
        refine (between_any x 30 37 _).mono ?_; rw [R30.out]; rintro e w' ⟨rfl, rfl⟩
        go_wp2_with fail
        refine (between_any x 90 97 _).mono ?_; rw [R90.out]; rintro e w' ⟨rfl, rfl⟩
        go_wp2_with fail
        refine (between_any x 40 47 _).mono ?_; rw [R40.out]; rintro e w' ⟨rfl, rfl⟩
        go_wp2_with fail
        refine (between_any x 100 107 _).mono ?_; rw [R100.out]; rintro e w' ⟨rfl, rfl⟩
        go_wp2_with fail
        go_roundw
        case rel => exact ⟨k + 1, ⟨X.fg, -1, X.flags⟩, by omega, by go_num, Lib.hid (by rw [← HP.out, HD.out, runs_one _ _ _ HK.out, HO.out]), by have := one_byt HBY.out (max 0 x); rw [HO.out] at this; exact this, Lib.hid (by first | exact HH.out.upd 1 _ ⟨X.fg, -1, X.flags⟩ rfl | exact (HH.out.upd 1 _ ⟨X.fg, -1, X.flags⟩ rfl).drew | exact HH.out.drew.upd 1 _ ⟨X.fg, -1, X.flags⟩ rfl)⟩
        case measure => simp [intOf]; omega
      by_cases hL : x ≤ 21
      · have HO : Hid (one X (max 0 x) = X) := Lib.hid (by rw [HM.out]; unfold one; rw [if_neg (by omega)]; by_cases h6 : x ≤ 9 <;> first | (obtain rfl : x = 6 := (by omega); rw [if_pos h6]; show (⟨X.fg, X.bg, addFlag X.flags 0⟩ : Look) = X; rw [add_none0 HBY.out]) | (rw [if_neg h6, if_neg (by omega), if_neg (by omega), if_neg (by omega), if_neg (by omega), if_neg (by omega), if_neg (by omega), if_neg (by omega), if_neg (by omega)]))
        have HK : Hid (¬(max 0 x = 38 ∨ max 0 x = 48)) := Lib.hid (by rw [HM.out]; omega)
        obtain ⟨m, HJ⟩ : ∃ m, Hid (idx [1, 2, 3, 4, 5, 7, 8, 9] (x - 20) = m) := ⟨_, Lib.hid rfl⟩
        have h22 : decide (22 < x) = false := decide_eq_false (by omega)
        have b22 : (x == 22) = false := by rw [beq_eq_false_iff_ne]; omega
        have b39 : (x == 39) = false := by rw [beq_eq_false_iff_ne]; omega
        have b49 : (x == 49) = false := by rw [beq_eq_false_iff_ne]; omega
        have b38 : (x == 38) = false := by rw [beq_eq_false_iff_ne]; omega
        have b48 : (x == 48) = false := by rw [beq_eq_false_iff_ne]; omega
        have R30 : Hid (rng x 30 37 = false) := Lib.hid (rng_no (by omega))
        have R90 : Hid (rng x 90 97 = false) := Lib.hid (rng_no (by omega))
        have R40 : Hid (rng x 40 47 = false) := Lib.hid (rng_no (by omega))
        have R100 : Hid (rng x 100 107 = false) := Lib.hid (rng_no (by omega))
        clear hL
        go_wp2_with fail
        refine (in_any [1, 2, 3, 4, 5, 7, 8, 9] _ x _ HH.out.src (by decide)).mono ?_; rw [HI.out]; rintro e w' ⟨rfl, rfl⟩
        go_wp2_with fail
        refine (in_any [1, 2, 3, 4, 5, 7, 8, 9] _ (x - 20) _ HH.out.src (by decide)).mono ?_; rw [HJ.out]; rintro e w' ⟨rfl, rfl⟩
        go_wp2_with fail
        refine (between_any x 30 37 _).mono ?_; rw [R30.out]; rintro e w' ⟨rfl, rfl⟩
        go_wp2_with fail
        refine (between_any x 90 97 _).mono ?_; rw [R90.out]; rintro e w' ⟨rfl, rfl⟩
        go_wp2_with fail
        refine (between_any x 40 47 _).mono ?_; rw [R40.out]; rintro e w' ⟨rfl, rfl⟩
        go_wp2_with fail
        refine (between_any x 100 107 _).mono ?_; rw [R100.out]; rintro e w' ⟨rfl, rfl⟩
        go_wp2_with fail
        go_roundw
        case rel => exact ⟨k + 1, X, by omega, by go_num, Lib.hid (by rw [← HP.out, HD.out, runs_one _ _ _ HK.out, HO.out]), by have := one_byt HBY.out (max 0 x); rw [HO.out] at this; exact this, Lib.hid HH.out⟩
        case measure => simp [intOf]; omega
      by_cases hN : x ≠ 38 ∧ x ≠ 48
      · have HO : Hid (one X (max 0 x) = X) := Lib.hid (by rw [HM.out]; unfold one; rw [if_neg (by omega), if_neg (by omega), if_neg (by omega)]; by_cases h6 : x = 26 <;> first | (subst h6; rw [if_pos (by omega)]; show (⟨X.fg, X.bg, subFlag X.flags 0⟩ : Look) = X; rw [sub_none0 HBY.out]) | (rw [if_neg (by omega), if_neg (by omega), if_neg (by omega), if_neg (by omega), if_neg (by omega), if_neg (by omega), if_neg (by omega)]))
        have HK : Hid (¬(max 0 x = 38 ∨ max 0 x = 48)) := Lib.hid (by rw [HM.out]; omega)
        have HJ : Hid (idx [1, 2, 3, 4, 5, 7, 8, 9] (x - 20) = -1) := Lib.hid (idx_no _ (by omega))
        have h22 : 22 < x := by omega
        have b22 : (x == 22) = false := by rw [beq_eq_false_iff_ne]; omega
        have b39 : (x == 39) = false := by rw [beq_eq_false_iff_ne]; omega
        have b49 : (x == 49) = false := by rw [beq_eq_false_iff_ne]; omega
        have b38 : (x == 38) = false := by rw [beq_eq_false_iff_ne]; omega
        have b48 : (x == 48) = false := by rw [beq_eq_false_iff_ne]; omega
        have R30 : Hid (rng x 30 37 = false) := Lib.hid (rng_no (by omega))
        have R90 : Hid (rng x 90 97 = false) := Lib.hid (rng_no (by omega))
        have R40 : Hid (rng x 40 47 = false) := Lib.hid (rng_no (by omega))
        have R100 : Hid (rng x 100 107 = false) := Lib.hid (rng_no (by omega))
        clear hN
        go_wp2_with fail
        refine (in_any [1, 2, 3, 4, 5, 7, 8, 9] _ x _ HH.out.src (by decide)).mono ?_; rw [HI.out]; rintro e w' ⟨rfl, rfl⟩
        go_wp2_with fail
        refine (in_any [1, 2, 3, 4, 5, 7, 8, 9] _ (x - 20) _ HH.out.src (by decide)).mono ?_; rw [HJ.out]; rintro e w' ⟨rfl, rfl⟩
        go_wp2_with fail
        refine (between_any x 30 37 _).mono ?_; rw [R30.out]; rintro e w' ⟨rfl, rfl⟩
        go_wp2_with fail
        refine (between_any x 90 97 _).mono ?_; rw [R90.out]; rintro e w' ⟨rfl, rfl⟩
        go_wp2_with fail
        refine (between_any x 40 47 _).mono ?_; rw [R40.out]; rintro e w' ⟨rfl, rfl⟩
        go_wp2_with fail
        refine (between_any x 100 107 _).mono ?_; rw [R100.out]; rintro e w' ⟨rfl, rfl⟩
        go_wp2_with fail
        go_roundw
        case rel => exact ⟨k + 1, X, by omega, by go_num, Lib.hid (by rw [← HP.out, HD.out, runs_one _ _ _ HK.out, HO.out]), by have := one_byt HBY.out (max 0 x); rw [HO.out] at this; exact this, Lib.hid HH.out⟩
        case measure => simp [intOf]; omega
      have hK : x = 38 ∨ x = 48 := by omega
      obtain ⟨V, hV, hT, _⟩ := HX.out.tail (k + 1) (by omega) ((k : Int) + 1) (by omega)
      have HT : Hid (Sl wr V (l.drop (k + 1))) := Lib.hid (hT.kept (by rw [HGG.out]; exact HH.out.below))
      have HRT : Hid (∀ j, j < (l.drop (k + 1)).length → -1 ≤ (l.drop (k + 1)).getD j 0 ∧ (l.drop (k + 1)).getD j 0 ≤ 9999) := Lib.hid fun j hj => by
        rw [List.length_drop] at hj
        have := HR.out (k + 1 + j) (by omega)
        simpa [List.getD] using this
      have HN : Hid ((l.drop (k + 1)).length ≤ 1000000000) := Lib.hid (by rw [List.length_drop]; omega)
      have hU := colour_used (l.drop (k + 1))
      rw [List.length_drop] at hU
      have HDD : Hid (∀ m, (l.drop (k + 1)).drop m = l.drop (k + 1 + m)) := Lib.hid fun m => by rw [List.drop_drop]
      obtain ⟨C, U, hq⟩ : ∃ C U, colourOf (l.drop (k + 1)) = (C, U) := ⟨_, _, rfl⟩
      rw [hq] at hU
      have HQ := Lib.hid hq
      simp only [] at hU
      clear hB hC hD hF hG hH hI hJ hL hN hp hn0 hT hq hr1 hr2
      rcases hK with rfl | rfl
      · rcases hU with hu | ⟨hu, hz⟩ | ⟨hu, hz⟩
        · have hu' : U = 0 := hu
          have HE : Hid (applyOf a l = X) := Lib.hid (by rw [← HP.out, HD.out, runs_none _ _ _ (by decide) (by rw [HQ.out]; exact hu)])
          subst hu'
          clear hu
          have r0 : wr.cell? ⟨g + 1, 0, none⟩ = some (.int .i64 0) := Blk.cell HH.out.back 0
          have r1 : wr.cell? ⟨g + 1, 1, none⟩ = some (.int .i64 0) := Blk.cell HH.out.back 1
          have r2 : wr.cell? ⟨g + 1, 2, none⟩ = some (.int .i64 0) := Blk.cell HH.out.back 2
          have s0 := Blk.free HH.out.back 0
          have s1 := Blk.free HH.out.back 1
          have s2 := Blk.free HH.out.back 2
          have HI : Hid (idx [1, 2, 3, 4, 5, 7, 8, 9] 38 = -1) := Lib.hid (idx_no _ (by omega))
          have HJ : Hid (idx [1, 2, 3, 4, 5, 7, 8, 9] 18 = -1) := Lib.hid (idx_no _ (by omega))
          go_wp2_with fail
          refine (in_any [1, 2, 3, 4, 5, 7, 8, 9] _ 38 _ HH.out.src (by decide)).mono ?_; rw [HI.out]; rintro e w' ⟨rfl, rfl⟩
          go_wp2_with fail
          refine (in_any [1, 2, 3, 4, 5, 7, 8, 9] _ 18 _ HH.out.src (by decide)).mono ?_; rw [HJ.out]; rintro e w' ⟨rfl, rfl⟩
          go_wp2_with fail
          refine (between_any 38 30 37 _).mono ?_; rw [show rng 38 30 37 = false from rng_no (by omega)]; rintro e w' ⟨rfl, rfl⟩
          go_wp2_with fail
          refine (between_any 38 90 97 _).mono ?_; rw [show rng 38 90 97 = false from rng_no (by omega)]; rintro e w' ⟨rfl, rfl⟩
          go_wp2_with fail
          refine (between_any 38 40 47 _).mono ?_; rw [show rng 38 40 47 = false from rng_no (by omega)]; rintro e w' ⟨rfl, rfl⟩
          go_wp2_with fail
          refine (between_any 38 100 107 _).mono ?_; rw [show rng 38 100 107 = false from rng_no (by omega)]; rintro e w' ⟨rfl, rfl⟩
          go_wp2_with fail
          refine (colour_any (l.drop (k + 1)) V _ HT.out.src HN.out HRT.out).mono ?_; rw [HQ.out]; rintro e w' ⟨rfl, rfl⟩
          go_wp2_with fail
          have hF := HH.out.handed
          clear q0 q1 q2 g0 g1 g2 r0 r1 r2 s0 s1 s2 hE
          generalize ((wr.setCell ⟨g + 1, 0, none⟩ (.int .i64 X.fg)).setCell ⟨g + 1, 1, none⟩ (.int .i64 X.bg)).setCell ⟨g + 1, 2, none⟩ (.int .i64 X.flags) = wF at hF ⊢
          obtain ⟨hF, hBF⟩ := hF
          have c0 : wF.cell? ⟨g + 1, 0, none⟩ = some (.int .i64 X.fg) := Blk.cell hF 0
          have c1 : wF.cell? ⟨g + 1, 1, none⟩ = some (.int .i64 X.bg) := Blk.cell hF 1
          have c2 : wF.cell? ⟨g + 1, 2, none⟩ = some (.int .i64 X.flags) := Blk.cell hF 2
          have HBF := Lib.hid hBF
          clear hF hBF
          refine bodyPost_ret (v := .agg #[.int .i64 X.fg, .int .i64 X.bg, .int .i64 X.flags]) (by simp [results, Try.results17, go_sem, c0, c1, c2]) rfl ⟨by rw [HE.out], by rw [HGG.out]; exact HBF.out⟩
        · by_cases hc : C < 0
          · have hu' : U = 2 := hu
            have HO : Hid (setc X (max 0 38) C = X) := Lib.hid (by unfold setc; rw [if_pos hc])
            have hc' : decide (0 ≤ C) = false := decide_eq_false (by omega)
            have HS2 : Hid (runs (setc X (max 0 38) C) (l.drop (k + 1 + 2)) = applyOf a l) := Lib.hid (by rw [← HP.out, HD.out, runs_set _ _ _ (by decide) (by rw [HQ.out]; show U ≠ 0; omega), HQ.out, hu, ← HDD.out]; rfl)
            subst hu'
            clear hu hc
            have HI : Hid (idx [1, 2, 3, 4, 5, 7, 8, 9] 38 = -1) := Lib.hid (idx_no _ (by omega))
            have HJ : Hid (idx [1, 2, 3, 4, 5, 7, 8, 9] 18 = -1) := Lib.hid (idx_no _ (by omega))
            go_wp2_with fail
            refine (in_any [1, 2, 3, 4, 5, 7, 8, 9] _ 38 _ HH.out.src (by decide)).mono ?_; rw [HI.out]; rintro e w' ⟨rfl, rfl⟩
            go_wp2_with fail
            refine (in_any [1, 2, 3, 4, 5, 7, 8, 9] _ 18 _ HH.out.src (by decide)).mono ?_; rw [HJ.out]; rintro e w' ⟨rfl, rfl⟩
            go_wp2_with fail
            refine (between_any 38 30 37 _).mono ?_; rw [show rng 38 30 37 = false from rng_no (by omega)]; rintro e w' ⟨rfl, rfl⟩
            go_wp2_with fail
            refine (between_any 38 90 97 _).mono ?_; rw [show rng 38 90 97 = false from rng_no (by omega)]; rintro e w' ⟨rfl, rfl⟩
            go_wp2_with fail
            refine (between_any 38 40 47 _).mono ?_; rw [show rng 38 40 47 = false from rng_no (by omega)]; rintro e w' ⟨rfl, rfl⟩
            go_wp2_with fail
            refine (between_any 38 100 107 _).mono ?_; rw [show rng 38 100 107 = false from rng_no (by omega)]; rintro e w' ⟨rfl, rfl⟩
            go_wp2_with fail
            refine (colour_any (l.drop (k + 1)) V _ HT.out.src HN.out HRT.out).mono ?_; rw [HQ.out]; rintro e w' ⟨rfl, rfl⟩
            go_wp2_with fail
            go_roundw
            case rel => exact ⟨k + 1 + 2, X, by omega, by go_num, by rw [← HO.out]; exact HS2, by have := setc_byt HBY.out (max 0 38) C; rw [HO.out] at this; exact this, Lib.hid HH.out⟩
            case measure => simp [intOf]; omega
          · have hu' : U = 2 := hu
            have HO : Hid (setc X (max 0 38) C = ⟨C, X.bg, X.flags⟩) := Lib.hid (by unfold setc; rw [if_neg hc, if_pos (by decide)])
            have hc' : decide (0 ≤ C) = true := decide_eq_true (by omega)
            have HS2 : Hid (runs (setc X (max 0 38) C) (l.drop (k + 1 + 2)) = applyOf a l) := Lib.hid (by rw [← HP.out, HD.out, runs_set _ _ _ (by decide) (by rw [HQ.out]; show U ≠ 0; omega), HQ.out, hu, ← HDD.out]; rfl)
            subst hu'
            clear hu hc
            have HI : Hid (idx [1, 2, 3, 4, 5, 7, 8, 9] 38 = -1) := Lib.hid (idx_no _ (by omega))
            have HJ : Hid (idx [1, 2, 3, 4, 5, 7, 8, 9] 18 = -1) := Lib.hid (idx_no _ (by omega))
            go_wp2_with fail
            refine (in_any [1, 2, 3, 4, 5, 7, 8, 9] _ 38 _ HH.out.src (by decide)).mono ?_; rw [HI.out]; rintro e w' ⟨rfl, rfl⟩
            go_wp2_with fail
            refine (in_any [1, 2, 3, 4, 5, 7, 8, 9] _ 18 _ HH.out.src (by decide)).mono ?_; rw [HJ.out]; rintro e w' ⟨rfl, rfl⟩
            go_wp2_with fail
            refine (between_any 38 30 37 _).mono ?_; rw [show rng 38 30 37 = false from rng_no (by omega)]; rintro e w' ⟨rfl, rfl⟩
            go_wp2_with fail
            refine (between_any 38 90 97 _).mono ?_; rw [show rng 38 90 97 = false from rng_no (by omega)]; rintro e w' ⟨rfl, rfl⟩
            go_wp2_with fail
            refine (between_any 38 40 47 _).mono ?_; rw [show rng 38 40 47 = false from rng_no (by omega)]; rintro e w' ⟨rfl, rfl⟩
            go_wp2_with fail
            refine (between_any 38 100 107 _).mono ?_; rw [show rng 38 100 107 = false from rng_no (by omega)]; rintro e w' ⟨rfl, rfl⟩
            go_wp2_with fail
            refine (colour_any (l.drop (k + 1)) V _ HT.out.src HN.out HRT.out).mono ?_; rw [HQ.out]; rintro e w' ⟨rfl, rfl⟩
            go_wp2_with fail
            go_roundw
            case rel => exact ⟨k + 1 + 2, ⟨C, X.bg, X.flags⟩, by omega, by go_num, by rw [← HO.out]; exact HS2, by have := setc_byt HBY.out (max 0 38) C; rw [HO.out] at this; exact this, Lib.hid (by first | exact HH.out.upd 0 _ ⟨C, X.bg, X.flags⟩ rfl | exact (HH.out.upd 0 _ ⟨C, X.bg, X.flags⟩ rfl).drew | exact HH.out.drew.upd 0 _ ⟨C, X.bg, X.flags⟩ rfl)⟩
            case measure => simp [intOf]; omega
        · by_cases hc : C < 0
          · have hu' : U = 4 := hu
            have HO : Hid (setc X (max 0 38) C = X) := Lib.hid (by unfold setc; rw [if_pos hc])
            have hc' : decide (0 ≤ C) = false := decide_eq_false (by omega)
            have HS2 : Hid (runs (setc X (max 0 38) C) (l.drop (k + 1 + 4)) = applyOf a l) := Lib.hid (by rw [← HP.out, HD.out, runs_set _ _ _ (by decide) (by rw [HQ.out]; show U ≠ 0; omega), HQ.out, hu, ← HDD.out]; rfl)
            subst hu'
            clear hu hc
            have HI : Hid (idx [1, 2, 3, 4, 5, 7, 8, 9] 38 = -1) := Lib.hid (idx_no _ (by omega))
            have HJ : Hid (idx [1, 2, 3, 4, 5, 7, 8, 9] 18 = -1) := Lib.hid (idx_no _ (by omega))
            go_wp2_with fail
            refine (in_any [1, 2, 3, 4, 5, 7, 8, 9] _ 38 _ HH.out.src (by decide)).mono ?_; rw [HI.out]; rintro e w' ⟨rfl, rfl⟩
            go_wp2_with fail
            refine (in_any [1, 2, 3, 4, 5, 7, 8, 9] _ 18 _ HH.out.src (by decide)).mono ?_; rw [HJ.out]; rintro e w' ⟨rfl, rfl⟩
            go_wp2_with fail
            refine (between_any 38 30 37 _).mono ?_; rw [show rng 38 30 37 = false from rng_no (by omega)]; rintro e w' ⟨rfl, rfl⟩
            go_wp2_with fail
            refine (between_any 38 90 97 _).mono ?_; rw [show rng 38 90 97 = false from rng_no (by omega)]; rintro e w' ⟨rfl, rfl⟩
            go_wp2_with fail
            refine (between_any 38 40 47 _).mono ?_; rw [show rng 38 40 47 = false from rng_no (by omega)]; rintro e w' ⟨rfl, rfl⟩
            go_wp2_with fail
            refine (between_any 38 100 107 _).mono ?_; rw [show rng 38 100 107 = false from rng_no (by omega)]; rintro e w' ⟨rfl, rfl⟩
            go_wp2_with fail
            refine (colour_any (l.drop (k + 1)) V _ HT.out.src HN.out HRT.out).mono ?_; rw [HQ.out]; rintro e w' ⟨rfl, rfl⟩
            go_wp2_with fail
            go_roundw
            case rel => exact ⟨k + 1 + 4, X, by omega, by go_num, by rw [← HO.out]; exact HS2, by have := setc_byt HBY.out (max 0 38) C; rw [HO.out] at this; exact this, Lib.hid HH.out⟩
            case measure => simp [intOf]; omega
          · have hu' : U = 4 := hu
            have HO : Hid (setc X (max 0 38) C = ⟨C, X.bg, X.flags⟩) := Lib.hid (by unfold setc; rw [if_neg hc, if_pos (by decide)])
            have hc' : decide (0 ≤ C) = true := decide_eq_true (by omega)
            have HS2 : Hid (runs (setc X (max 0 38) C) (l.drop (k + 1 + 4)) = applyOf a l) := Lib.hid (by rw [← HP.out, HD.out, runs_set _ _ _ (by decide) (by rw [HQ.out]; show U ≠ 0; omega), HQ.out, hu, ← HDD.out]; rfl)
            subst hu'
            clear hu hc
            have HI : Hid (idx [1, 2, 3, 4, 5, 7, 8, 9] 38 = -1) := Lib.hid (idx_no _ (by omega))
            have HJ : Hid (idx [1, 2, 3, 4, 5, 7, 8, 9] 18 = -1) := Lib.hid (idx_no _ (by omega))
            go_wp2_with fail
            refine (in_any [1, 2, 3, 4, 5, 7, 8, 9] _ 38 _ HH.out.src (by decide)).mono ?_; rw [HI.out]; rintro e w' ⟨rfl, rfl⟩
            go_wp2_with fail
            refine (in_any [1, 2, 3, 4, 5, 7, 8, 9] _ 18 _ HH.out.src (by decide)).mono ?_; rw [HJ.out]; rintro e w' ⟨rfl, rfl⟩
            go_wp2_with fail
            refine (between_any 38 30 37 _).mono ?_; rw [show rng 38 30 37 = false from rng_no (by omega)]; rintro e w' ⟨rfl, rfl⟩
            go_wp2_with fail
            refine (between_any 38 90 97 _).mono ?_; rw [show rng 38 90 97 = false from rng_no (by omega)]; rintro e w' ⟨rfl, rfl⟩
            go_wp2_with fail
            refine (between_any 38 40 47 _).mono ?_; rw [show rng 38 40 47 = false from rng_no (by omega)]; rintro e w' ⟨rfl, rfl⟩
            go_wp2_with fail
            refine (between_any 38 100 107 _).mono ?_; rw [show rng 38 100 107 = false from rng_no (by omega)]; rintro e w' ⟨rfl, rfl⟩
            go_wp2_with fail
            refine (colour_any (l.drop (k + 1)) V _ HT.out.src HN.out HRT.out).mono ?_; rw [HQ.out]; rintro e w' ⟨rfl, rfl⟩
            go_wp2_with fail
            go_roundw
            case rel => exact ⟨k + 1 + 4, ⟨C, X.bg, X.flags⟩, by omega, by go_num, by rw [← HO.out]; exact HS2, by have := setc_byt HBY.out (max 0 38) C; rw [HO.out] at this; exact this, Lib.hid (by first | exact HH.out.upd 0 _ ⟨C, X.bg, X.flags⟩ rfl | exact (HH.out.upd 0 _ ⟨C, X.bg, X.flags⟩ rfl).drew | exact HH.out.drew.upd 0 _ ⟨C, X.bg, X.flags⟩ rfl)⟩
            case measure => simp [intOf]; omega
      · rcases hU with hu | ⟨hu, hz⟩ | ⟨hu, hz⟩
        · have hu' : U = 0 := hu
          have HE : Hid (applyOf a l = X) := Lib.hid (by rw [← HP.out, HD.out, runs_none _ _ _ (by decide) (by rw [HQ.out]; exact hu)])
          subst hu'
          clear hu
          have r0 : wr.cell? ⟨g + 1, 0, none⟩ = some (.int .i64 0) := Blk.cell HH.out.back 0
          have r1 : wr.cell? ⟨g + 1, 1, none⟩ = some (.int .i64 0) := Blk.cell HH.out.back 1
          have r2 : wr.cell? ⟨g + 1, 2, none⟩ = some (.int .i64 0) := Blk.cell HH.out.back 2
          have s0 := Blk.free HH.out.back 0
          have s1 := Blk.free HH.out.back 1
          have s2 := Blk.free HH.out.back 2
          have HI : Hid (idx [1, 2, 3, 4, 5, 7, 8, 9] 48 = -1) := Lib.hid (idx_no _ (by omega))
          have HJ : Hid (idx [1, 2, 3, 4, 5, 7, 8, 9] 28 = -1) := Lib.hid (idx_no _ (by omega))
          go_wp2_with fail
          refine (in_any [1, 2, 3, 4, 5, 7, 8, 9] _ 48 _ HH.out.src (by decide)).mono ?_; rw [HI.out]; rintro e w' ⟨rfl, rfl⟩
          go_wp2_with fail
          refine (in_any [1, 2, 3, 4, 5, 7, 8, 9] _ 28 _ HH.out.src (by decide)).mono ?_; rw [HJ.out]; rintro e w' ⟨rfl, rfl⟩
          go_wp2_with fail
          refine (between_any 48 30 37 _).mono ?_; rw [show rng 48 30 37 = false from rng_no (by omega)]; rintro e w' ⟨rfl, rfl⟩
          go_wp2_with fail
          refine (between_any 48 90 97 _).mono ?_; rw [show rng 48 90 97 = false from rng_no (by omega)]; rintro e w' ⟨rfl, rfl⟩
          go_wp2_with fail
          refine (between_any 48 40 47 _).mono ?_; rw [show rng 48 40 47 = false from rng_no (by omega)]; rintro e w' ⟨rfl, rfl⟩
          go_wp2_with fail
          refine (between_any 48 100 107 _).mono ?_; rw [show rng 48 100 107 = false from rng_no (by omega)]; rintro e w' ⟨rfl, rfl⟩
          go_wp2_with fail
          refine (colour_any (l.drop (k + 1)) V _ HT.out.src HN.out HRT.out).mono ?_; rw [HQ.out]; rintro e w' ⟨rfl, rfl⟩
          go_wp2_with fail
          have hF := HH.out.handed
          clear q0 q1 q2 g0 g1 g2 r0 r1 r2 s0 s1 s2 hE
          generalize ((wr.setCell ⟨g + 1, 0, none⟩ (.int .i64 X.fg)).setCell ⟨g + 1, 1, none⟩ (.int .i64 X.bg)).setCell ⟨g + 1, 2, none⟩ (.int .i64 X.flags) = wF at hF ⊢
          obtain ⟨hF, hBF⟩ := hF
          have c0 : wF.cell? ⟨g + 1, 0, none⟩ = some (.int .i64 X.fg) := Blk.cell hF 0
          have c1 : wF.cell? ⟨g + 1, 1, none⟩ = some (.int .i64 X.bg) := Blk.cell hF 1
          have c2 : wF.cell? ⟨g + 1, 2, none⟩ = some (.int .i64 X.flags) := Blk.cell hF 2
          have HBF := Lib.hid hBF
          clear hF hBF
          refine bodyPost_ret (v := .agg #[.int .i64 X.fg, .int .i64 X.bg, .int .i64 X.flags]) (by simp [results, Try.results17, go_sem, c0, c1, c2]) rfl ⟨by rw [HE.out], by rw [HGG.out]; exact HBF.out⟩
        · by_cases hc : C < 0
          · have hu' : U = 2 := hu
            have HO : Hid (setc X (max 0 48) C = X) := Lib.hid (by unfold setc; rw [if_pos hc])
            have hc' : decide (0 ≤ C) = false := decide_eq_false (by omega)
            have HS2 : Hid (runs (setc X (max 0 48) C) (l.drop (k + 1 + 2)) = applyOf a l) := Lib.hid (by rw [← HP.out, HD.out, runs_set _ _ _ (by decide) (by rw [HQ.out]; show U ≠ 0; omega), HQ.out, hu, ← HDD.out]; rfl)
            subst hu'
            clear hu hc
            have HI : Hid (idx [1, 2, 3, 4, 5, 7, 8, 9] 48 = -1) := Lib.hid (idx_no _ (by omega))
            have HJ : Hid (idx [1, 2, 3, 4, 5, 7, 8, 9] 28 = -1) := Lib.hid (idx_no _ (by omega))
            go_wp2_with fail
            refine (in_any [1, 2, 3, 4, 5, 7, 8, 9] _ 48 _ HH.out.src (by decide)).mono ?_; rw [HI.out]; rintro e w' ⟨rfl, rfl⟩
            go_wp2_with fail
            refine (in_any [1, 2, 3, 4, 5, 7, 8, 9] _ 28 _ HH.out.src (by decide)).mono ?_; rw [HJ.out]; rintro e w' ⟨rfl, rfl⟩
            go_wp2_with fail
            refine (between_any 48 30 37 _).mono ?_; rw [show rng 48 30 37 = false from rng_no (by omega)]; rintro e w' ⟨rfl, rfl⟩
            go_wp2_with fail
            refine (between_any 48 90 97 _).mono ?_; rw [show rng 48 90 97 = false from rng_no (by omega)]; rintro e w' ⟨rfl, rfl⟩
            go_wp2_with fail
            refine (between_any 48 40 47 _).mono ?_; rw [show rng 48 40 47 = false from rng_no (by omega)]; rintro e w' ⟨rfl, rfl⟩
            go_wp2_with fail
            refine (between_any 48 100 107 _).mono ?_; rw [show rng 48 100 107 = false from rng_no (by omega)]; rintro e w' ⟨rfl, rfl⟩
            go_wp2_with fail
            refine (colour_any (l.drop (k + 1)) V _ HT.out.src HN.out HRT.out).mono ?_; rw [HQ.out]; rintro e w' ⟨rfl, rfl⟩
            go_wp2_with fail
            go_roundw
            case rel => exact ⟨k + 1 + 2, X, by omega, by go_num, by rw [← HO.out]; exact HS2, by have := setc_byt HBY.out (max 0 48) C; rw [HO.out] at this; exact this, Lib.hid HH.out⟩
            case measure => simp [intOf]; omega
          · have hu' : U = 2 := hu
            have HO : Hid (setc X (max 0 48) C = ⟨X.fg, C, X.flags⟩) := Lib.hid (by unfold setc; rw [if_neg hc, if_neg (by decide)])
            have hc' : decide (0 ≤ C) = true := decide_eq_true (by omega)
            have HS2 : Hid (runs (setc X (max 0 48) C) (l.drop (k + 1 + 2)) = applyOf a l) := Lib.hid (by rw [← HP.out, HD.out, runs_set _ _ _ (by decide) (by rw [HQ.out]; show U ≠ 0; omega), HQ.out, hu, ← HDD.out]; rfl)
            subst hu'
            clear hu hc
            have HI : Hid (idx [1, 2, 3, 4, 5, 7, 8, 9] 48 = -1) := Lib.hid (idx_no _ (by omega))
            have HJ : Hid (idx [1, 2, 3, 4, 5, 7, 8, 9] 28 = -1) := Lib.hid (idx_no _ (by omega))
            go_wp2_with fail
            refine (in_any [1, 2, 3, 4, 5, 7, 8, 9] _ 48 _ HH.out.src (by decide)).mono ?_; rw [HI.out]; rintro e w' ⟨rfl, rfl⟩
            go_wp2_with fail
            refine (in_any [1, 2, 3, 4, 5, 7, 8, 9] _ 28 _ HH.out.src (by decide)).mono ?_; rw [HJ.out]; rintro e w' ⟨rfl, rfl⟩
            go_wp2_with fail
            refine (between_any 48 30 37 _).mono ?_; rw [show rng 48 30 37 = false from rng_no (by omega)]; rintro e w' ⟨rfl, rfl⟩
            go_wp2_with fail
            refine (between_any 48 90 97 _).mono ?_; rw [show rng 48 90 97 = false from rng_no (by omega)]; rintro e w' ⟨rfl, rfl⟩
            go_wp2_with fail
            refine (between_any 48 40 47 _).mono ?_; rw [show rng 48 40 47 = false from rng_no (by omega)]; rintro e w' ⟨rfl, rfl⟩
            go_wp2_with fail
            refine (between_any 48 100 107 _).mono ?_; rw [show rng 48 100 107 = false from rng_no (by omega)]; rintro e w' ⟨rfl, rfl⟩
            go_wp2_with fail
            refine (colour_any (l.drop (k + 1)) V _ HT.out.src HN.out HRT.out).mono ?_; rw [HQ.out]; rintro e w' ⟨rfl, rfl⟩
            go_wp2_with fail
            go_roundw
            case rel => exact ⟨k + 1 + 2, ⟨X.fg, C, X.flags⟩, by omega, by go_num, by rw [← HO.out]; exact HS2, by have := setc_byt HBY.out (max 0 48) C; rw [HO.out] at this; exact this, Lib.hid (by first | exact HH.out.upd 1 _ ⟨X.fg, C, X.flags⟩ rfl | exact (HH.out.upd 1 _ ⟨X.fg, C, X.flags⟩ rfl).drew | exact HH.out.drew.upd 1 _ ⟨X.fg, C, X.flags⟩ rfl)⟩
            case measure => simp [intOf]; omega
        · by_cases hc : C < 0
          · have hu' : U = 4 := hu
            have HO : Hid (setc X (max 0 48) C = X) := Lib.hid (by unfold setc; rw [if_pos hc])
            have hc' : decide (0 ≤ C) = false := decide_eq_false (by omega)
            have HS2 : Hid (runs (setc X (max 0 48) C) (l.drop (k + 1 + 4)) = applyOf a l) := Lib.hid (by rw [← HP.out, HD.out, runs_set _ _ _ (by decide) (by rw [HQ.out]; show U ≠ 0; omega), HQ.out, hu, ← HDD.out]; rfl)
            subst hu'
            clear hu hc
            have HI : Hid (idx [1, 2, 3, 4, 5, 7, 8, 9] 48 = -1) := Lib.hid (idx_no _ (by omega))
            have HJ : Hid (idx [1, 2, 3, 4, 5, 7, 8, 9] 28 = -1) := Lib.hid (idx_no _ (by omega))
            go_wp2_with fail
            refine (in_any [1, 2, 3, 4, 5, 7, 8, 9] _ 48 _ HH.out.src (by decide)).mono ?_; rw [HI.out]; rintro e w' ⟨rfl, rfl⟩
            go_wp2_with fail
            refine (in_any [1, 2, 3, 4, 5, 7, 8, 9] _ 28 _ HH.out.src (by decide)).mono ?_; rw [HJ.out]; rintro e w' ⟨rfl, rfl⟩
            go_wp2_with fail
            refine (between_any 48 30 37 _).mono ?_; rw [show rng 48 30 37 = false from rng_no (by omega)]; rintro e w' ⟨rfl, rfl⟩
            go_wp2_with fail
            refine (between_any 48 90 97 _).mono ?_; rw [show rng 48 90 97 = false from rng_no (by omega)]; rintro e w' ⟨rfl, rfl⟩
            go_wp2_with fail
            refine (between_any 48 40 47 _).mono ?_; rw [show rng 48 40 47 = false from rng_no (by omega)]; rintro e w' ⟨rfl, rfl⟩
            go_wp2_with fail
            refine (between_any 48 100 107 _).mono ?_; rw [show rng 48 100 107 = false from rng_no (by omega)]; rintro e w' ⟨rfl, rfl⟩
            go_wp2_with fail
            refine (colour_any (l.drop (k + 1)) V _ HT.out.src HN.out HRT.out).mono ?_; rw [HQ.out]; rintro e w' ⟨rfl, rfl⟩
            go_wp2_with fail
            go_roundw
            case rel => exact ⟨k + 1 + 4, X, by omega, by go_num, by rw [← HO.out]; exact HS2, by have := setc_byt HBY.out (max 0 48) C; rw [HO.out] at this; exact this, Lib.hid HH.out⟩
            case measure => simp [intOf]; omega
          · have hu' : U = 4 := hu
            have HO : Hid (setc X (max 0 48) C = ⟨X.fg, C, X.flags⟩) := Lib.hid (by unfold setc; rw [if_neg hc, if_neg (by decide)])
            have hc' : decide (0 ≤ C) = true := decide_eq_true (by omega)
            have HS2 : Hid (runs (setc X (max 0 48) C) (l.drop (k + 1 + 4)) = applyOf a l) := Lib.hid (by rw [← HP.out, HD.out, runs_set _ _ _ (by decide) (by rw [HQ.out]; show U ≠ 0; omega), HQ.out, hu, ← HDD.out]; rfl)
            subst hu'
            clear hu hc
            have HI : Hid (idx [1, 2, 3, 4, 5, 7, 8, 9] 48 = -1) := Lib.hid (idx_no _ (by omega))
            have HJ : Hid (idx [1, 2, 3, 4, 5, 7, 8, 9] 28 = -1) := Lib.hid (idx_no _ (by omega))
            go_wp2_with fail
            refine (in_any [1, 2, 3, 4, 5, 7, 8, 9] _ 48 _ HH.out.src (by decide)).mono ?_; rw [HI.out]; rintro e w' ⟨rfl, rfl⟩
            go_wp2_with fail
            refine (in_any [1, 2, 3, 4, 5, 7, 8, 9] _ 28 _ HH.out.src (by decide)).mono ?_; rw [HJ.out]; rintro e w' ⟨rfl, rfl⟩
            go_wp2_with fail
            refine (between_any 48 30 37 _).mono ?_; rw [show rng 48 30 37 = false from rng_no (by omega)]; rintro e w' ⟨rfl, rfl⟩
            go_wp2_with fail
            refine (between_any 48 90 97 _).mono ?_; rw [show rng 48 90 97 = false from rng_no (by omega)]; rintro e w' ⟨rfl, rfl⟩
            go_wp2_with fail
            refine (between_any 48 40 47 _).mono ?_; rw [show rng 48 40 47 = false from rng_no (by omega)]; rintro e w' ⟨rfl, rfl⟩
            go_wp2_with fail
            refine (between_any 48 100 107 _).mono ?_; rw [show rng 48 100 107 = false from rng_no (by omega)]; rintro e w' ⟨rfl, rfl⟩
            go_wp2_with fail
            refine (colour_any (l.drop (k + 1)) V _ HT.out.src HN.out HRT.out).mono ?_; rw [HQ.out]; rintro e w' ⟨rfl, rfl⟩
            go_wp2_with fail
            go_roundw
            case rel => exact ⟨k + 1 + 4, ⟨X.fg, C, X.flags⟩, by omega, by go_num, by rw [← HO.out]; exact HS2, by have := setc_byt HBY.out (max 0 48) C; rw [HO.out] at this; exact this, Lib.hid (by first | exact HH.out.upd 1 _ ⟨X.fg, C, X.flags⟩ rfl | exact (HH.out.upd 1 _ ⟨X.fg, C, X.flags⟩ rfl).drew | exact HH.out.drew.upd 1 _ ⟨X.fg, C, X.flags⟩ rfl)⟩
            case measure => simp [intOf]; omega
    · have hk' : k = l.length := by omega
      have hd : decide ((k : Int) < l.length) = false := decide_eq_false (by omega)
      have HE : Hid (applyOf a l = X) := Lib.hid (by rw [← HP.out, List.drop_eq_nil_of_le (by omega), runs_nil])
      have q0 : wr.cell? ⟨g, 0, none⟩ = some (.int .i64 X.fg) := Blk.cell HH.out.look 0
      have q1 : wr.cell? ⟨g, 1, none⟩ = some (.int .i64 X.bg) := Blk.cell HH.out.look 1
      have q2 : wr.cell? ⟨g, 2, none⟩ = some (.int .i64 X.flags) := Blk.cell HH.out.look 2
      have g0 := Blk.free HH.out.look 0
      have g1 := Blk.free HH.out.look 1
      have g2 := Blk.free HH.out.look 2
      have r0 : wr.cell? ⟨g + 1, 0, none⟩ = some (.int .i64 0) := Blk.cell HH.out.back 0
      have r1 : wr.cell? ⟨g + 1, 1, none⟩ = some (.int .i64 0) := Blk.cell HH.out.back 1
      have r2 : wr.cell? ⟨g + 1, 2, none⟩ = some (.int .i64 0) := Blk.cell HH.out.back 2
      have s0 := Blk.free HH.out.back 0
      have s1 := Blk.free HH.out.back 1
      have s2 := Blk.free HH.out.back 2
      have hd2 : decide (k < l.length) = false := decide_eq_false (by omega)
      clear hk' hlt
      go_wp2_with fail
      have hF := HH.out.handed
      clear q0 q1 q2 g0 g1 g2 r0 r1 r2 s0 s1 s2 
      generalize ((wr.setCell ⟨g + 1, 0, none⟩ (.int .i64 X.fg)).setCell ⟨g + 1, 1, none⟩ (.int .i64 X.bg)).setCell ⟨g + 1, 2, none⟩ (.int .i64 X.flags) = wF at hF ⊢
      obtain ⟨hF, hBF⟩ := hF
      have c0 : wF.cell? ⟨g + 1, 0, none⟩ = some (.int .i64 X.fg) := Blk.cell hF 0
      have c1 : wF.cell? ⟨g + 1, 1, none⟩ = some (.int .i64 X.bg) := Blk.cell hF 1
      have c2 : wF.cell? ⟨g + 1, 2, none⟩ = some (.int .i64 X.flags) := Blk.cell hF 2
      have HBF := Lib.hid hBF
      clear hF hBF
      refine bodyPost_ret (v := .agg #[.int .i64 X.fg, .int .i64 X.bg, .int .i64 X.flags]) (by simp [results, Try.results17, go_sem, c0, c1, c2]) rfl ⟨by rw [HE.out], by rw [HGG.out]; exact HBF.out⟩
theorem refApply_any (a : Look) (l : List Int) (x : Value) (w : World) (ha : Byt a.flags) (hx : Sl w x l) (hl : l.length ≤ 32) (hr : ∀ k, k < l.length → -1 ≤ l.getD k 0 ∧ l.getD k 0 ≤ 9999) :
    Calls Try.prog 17 #[.agg #[.int .i64 a.fg, .int .i64 a.bg, .int .i64 a.flags], x] w fun e w' => e = .returned (.agg #[.int .i64 (applyOf a l).fg, .int .i64 (applyOf a l).bg, .int .i64 (applyOf a l).flags]) ∧ Below w.heap.size w w' := by
  by_cases h0 : 0 < l.length
  · exact refApply_some a l x w ha hx hl hr h0
  · have e : l = [] := List.eq_nil_of_length_eq_zero (by omega)
    subst e
    obtain ⟨A, c, rfl, _⟩ := hx.room
    exact refApply_none a A c w
end Sgr
end Go.Proofs.Ytabplmhmanbmjaa
