/- Joined texts: MdRef. -/
import Derived.Test.YtceaoadlhdgnmaaGreatDoorK301
section
/- A mode's bit, and a mode put: the page's. -/
namespace Go.Proofs.YtceaoadlhdgnmaaGreatDoor
set_option maxRecDepth 100000
open Go.RowKit
namespace Scr
open Go.Proofs.YtceaoadlhdgnmaaGreatDoor.Row Wid

set_option maxHeartbeats 800000 in
theorem refInAt_any (l : List Int) (b c : Nat) (n : Int) (w : World) (h : Kv w b l) (hl : l.length ≤ 1000) :
    Calls Tryz.prog 112 #[.slice (some ⟨b, 0, none⟩) l.length c, .int .i64 n] w fun e w' => ∃ r, e = .returned (.int .i64 r) ∧ ((r = -1 ∧ ∀ i, i < l.length → l.getD i 0 ≠ n) ∨ ∃ k : Nat, k < l.length ∧ r = (k : Int) ∧ l.getD k 0 = n) ∧ w' = w := by
  have HA := Lib.hid h
  obtain ⟨m, hm⟩ : ∃ m, l.length = m := ⟨_, rfl⟩
  have HM := Lib.hid hm
  rw [hm] at hl ⊢
  clear hm h
  go_enter Tryz.func112, Tryz.ntmps112
  go_wp2_with fail
  go_loopw [5] (fun i wr => ∃ k : Nat, k ≤ m ∧ i = .int .i64 k ∧ wr = w ∧ Hid (∀ j, j < k → l.getD j 0 ≠ n)) (fun i _ => m - (intOf i).toNat)
  case atStart => exact ⟨0, by omega, rfl, rfl, Lib.hid (fun j hj => absurd hj (by omega))⟩
  case round =>
    obtain ⟨k, hk, rfl, rfl, HB⟩ := hrel
    by_cases hlt : k < m
    · have hE := HA.out k (by rw [HM.out]; exact hlt)
      by_cases he : l.getD k 0 = n
      · have HI : Hid (∃ q : Nat, q < m ∧ (k : Int) = (q : Int) ∧ l.getD q 0 = n) := Lib.hid ⟨k, hlt, rfl, he⟩
        rw [he] at hE
        clear he
        go_wp2_with fail
        go_ret
        exact ⟨_, rfl, .inr HI.out, rfl⟩
      · have HN : Hid (∀ j, j < k + 1 → l.getD j 0 ≠ n) := Lib.hid fun j hj => by
          by_cases e : j = k
          · subst e; exact he
          · exact HB.out j (by omega)
        have hne : (l.getD k 0 == n) = false := by rw [beq_eq_false_iff_ne]; exact he
        generalize l.getD k 0 = y at hE hne
        clear he
        go_wp2_with fail
        go_roundw
        case rel => exact ⟨k + 1, by omega, by go_num, by trivial, HN⟩
        case measure => simp [intOf]; omega
    · have HI : Hid (∀ i, i < m → l.getD i 0 ≠ n) := Lib.hid fun i hi => HB.out i (by omega)
      have hd : decide (k < m) = false := decide_eq_false hlt
      clear hlt
      go_wp2_with fail
      go_ret
      exact ⟨_, rfl, .inl ⟨rfl, HI.out⟩, rfl⟩
def bitsF : List Int := [1, 5, 7, 25, 66, 1000, 1004, 2004]
def bitsT : List Int := [16, 64, 1, 8, 32, 256, 512, 128]
theorem kv_eight (w : World) (a b c d e f g i : Int) (t : TypeId) : Kv (w.alloc (.cells #[.int .i64 a, .int .i64 b, .int .i64 c, .int .i64 d, .int .i64 e, .int .i64 f, .int .i64 g, .int .i64 i] t)) w.heap.size [a, b, c, d, e, f, g, i] := by
  have hx : (w.alloc (.cells #[.int .i64 a, .int .i64 b, .int .i64 c, .int .i64 d, .int .i64 e, .int .i64 f, .int .i64 g, .int .i64 i] t)).heap[w.heap.size]? = some (.cells #[.int .i64 a, .int .i64 b, .int .i64 c, .int .i64 d, .int .i64 e, .int .i64 f, .int .i64 g, .int .i64 i] t (0, 0)) := heap_alloc_new _ _
  intro j hj
  have h8 : j = 0 ∨ j = 1 ∨ j = 2 ∨ j = 3 ∨ j = 4 ∨ j = 5 ∨ j = 6 ∨ j = 7 := by simp at hj; omega
  rcases h8 with rfl | rfl | rfl | rfl | rfl | rfl | rfl | rfl
  · exact Blk.cell hx 0
  · exact Blk.cell hx 1
  · exact Blk.cell hx 2
  · exact Blk.cell hx 3
  · exact Blk.cell hx 4
  · exact Blk.cell hx 5
  · exact Blk.cell hx 6
  · exact Blk.cell hx 7
theorem bits_found : ∀ k : Fin 8, bitOf true (bitsF.getD k.val 0) = bitsT.getD k.val 0 := of_decide_eq_true (by kernel_rfl)
theorem bits_none {n : Int} (h : ∀ i, i < 8 → bitsF.getD i 0 ≠ n) : bitOf true n = 0 := by
  have h0 : (1 : Int) ≠ n := h 0 (by decide)
  have h1 : (5 : Int) ≠ n := h 1 (by decide)
  have h2 : (7 : Int) ≠ n := h 2 (by decide)
  have h3 : (25 : Int) ≠ n := h 3 (by decide)
  have h4 : (66 : Int) ≠ n := h 4 (by decide)
  have h5 : (1000 : Int) ≠ n := h 5 (by decide)
  have h6 : (1004 : Int) ≠ n := h 6 (by decide)
  have h7 : (2004 : Int) ≠ n := h 7 (by decide)
  unfold bitOf
  rw [if_pos rfl, if_neg h2.symm, if_neg h3.symm, if_neg h0.symm, if_neg h4.symm, if_neg h1.symm, if_neg h7.symm, if_neg h5.symm, if_neg h6.symm]
set_option maxHeartbeats 1600000 in
theorem refBit_any (p : Bool) (n : Int) (w : World) : Calls Tryz.prog 62 #[.bool p, .int .i64 n] w fun e w' => e = .returned (.int .i64 (bitOf p n)) ∧ Below w.heap.size w w' := by
  cases p with
  | false =>
    by_cases h4 : n = 4
    · subst h4
      have HE : Hid (bitOf false 4 = 2) := Lib.hid rfl
      rw [HE.out]
      go_enter Tryz.func62, Tryz.ntmps62
      go_wp2_with fail
      go_ret
      exact ⟨rfl, Below.refl _ _⟩
    by_cases h20 : n = 20
    · subst h20
      have HE : Hid (bitOf false 20 = 4) := Lib.hid rfl
      rw [HE.out]
      go_enter Tryz.func62, Tryz.ntmps62
      go_wp2_with fail
      go_ret
      exact ⟨rfl, Below.refl _ _⟩
    have HE : Hid (bitOf false n = 0) := Lib.hid (by unfold bitOf; rw [if_neg (by simp), if_neg h4, if_neg h20])
    rw [HE.out]
    have k4 : (n == 4) = false := by rw [beq_eq_false_iff_ne]; exact h4
    have k20 : (n == 20) = false := by rw [beq_eq_false_iff_ne]; exact h20
    go_enter Tryz.func62, Tryz.ntmps62
    go_wp2_with fail
    go_ret
    exact ⟨rfl, Below.refl _ _⟩
  | true =>
    have HB1 := Lib.hid (bel_alloc w (.cells #[.int .i64 1, .int .i64 5, .int .i64 7, .int .i64 25, .int .i64 66, .int .i64 1000, .int .i64 1004, .int .i64 2004] 3))
    have HK1 : Hid (Kv (w.alloc (.cells #[.int .i64 1, .int .i64 5, .int .i64 7, .int .i64 25, .int .i64 66, .int .i64 1000, .int .i64 1004, .int .i64 2004] 3)) w.heap.size bitsF) := Lib.hid (kv_eight w 1 5 7 25 66 1000 1004 2004 _)
    have HB2 := Lib.hid (bel_alloc (w.alloc (.cells #[.int .i64 1, .int .i64 5, .int .i64 7, .int .i64 25, .int .i64 66, .int .i64 1000, .int .i64 1004, .int .i64 2004] 3)) (.cells #[.int .i64 16, .int .i64 64, .int .i64 1, .int .i64 8, .int .i64 32, .int .i64 256, .int .i64 512, .int .i64 128] 3))
    have HK2 : Hid (Kv ((w.alloc (.cells #[.int .i64 1, .int .i64 5, .int .i64 7, .int .i64 25, .int .i64 66, .int .i64 1000, .int .i64 1004, .int .i64 2004] 3)).alloc (.cells #[.int .i64 16, .int .i64 64, .int .i64 1, .int .i64 8, .int .i64 32, .int .i64 256, .int .i64 512, .int .i64 128] 3)) (w.heap.size + 1) bitsT) := Lib.hid (by
      have k := kv_eight (w.alloc (.cells #[.int .i64 1, .int .i64 5, .int .i64 7, .int .i64 25, .int .i64 66, .int .i64 1000, .int .i64 1004, .int .i64 2004] 3)) 16 64 1 8 32 256 512 128 3
      rw [show (w.alloc (.cells #[.int .i64 1, .int .i64 5, .int .i64 7, .int .i64 25, .int .i64 66, .int .i64 1000, .int .i64 1004, .int .i64 2004] 3)).heap.size = w.heap.size + 1 by simp] at k
      exact k)
    have HIN := Lib.hid (refInAt_any bitsF w.heap.size 8 n _ (HK1.out.kept HB2.out) (by decide))
    have HBB : Hid (Below w.heap.size w ((w.alloc (.cells #[.int .i64 1, .int .i64 5, .int .i64 7, .int .i64 25, .int .i64 66, .int .i64 1000, .int .i64 1004, .int .i64 2004] 3)).alloc (.cells #[.int .i64 16, .int .i64 64, .int .i64 1, .int .i64 8, .int .i64 32, .int .i64 256, .int .i64 512, .int .i64 128] 3))) := Lib.hid (HB1.out.trans (HB2.out.mono (by simp)))
    have HLF : Hid (bitsF.length = 8) := Lib.hid rfl
    rw [HLF.out] at HIN
    obtain ⟨vb, hvb⟩ : ∃ v, bitOf true n = v := ⟨_, rfl⟩
    rw [hvb]
    have HVB := Lib.hid hvb
    clear hvb
    clear HK1 HB1 HB2
    go_enter Tryz.func62, Tryz.ntmps62
    go_wp2_with fail
    refine HIN.out.mono ?_; rintro e w2 ⟨r, rfl, hr, hw2⟩
    rw [hw2]
    clear hw2 w2 HIN
    rcases hr with ⟨rfl, hn⟩ | ⟨k, hk, rfl, hn⟩
    · have HE : Hid (vb = 0) := Lib.hid (by rw [← HVB.out]; exact bits_none hn)
      clear hn
      go_wp2_with fail
      go_ret
      exact ⟨by rw [HE.out]; rfl, HBB.out⟩
    · have HE : Hid (vb = bitsT.getD k 0) := Lib.hid (by rw [← HVB.out, ← hn]; exact bits_found ⟨k, hk⟩)
      have hc := HK2.out k hk
      generalize bitsT.getD k 0 = v at hc HE
      clear hn
      go_wp2_with fail
      go_ret
      exact ⟨by rw [HE.out]; rfl, HBB.out⟩
def putP (s : S) (b : Int) (on : Bool) : S := withM s (modeM s.modes b on)
theorem Pb.modes {w0 w : World} {s : S} {x y z : Value} (h : Pb w0 s x y z w) (m : Int) : Pb w0 (withM s m) x y z (w.setCell ⟨w0.heap.size, 40, none⟩ (.int .i64 m)) := h.cell 40 _ (Blk.set h.pn.box 40 _) rfl rfl rfl
set_option maxHeartbeats 1600000 in
theorem refPut_bit (w0 : World) (s : S) (x y z : Value) (b : Int) (on : Bool) (w : World) (h : Pb w0 s x y z w) :
    Calls Tryz.prog 63 #[.pointer (some ⟨w0.heap.size, 0, none⟩), .int .i64 b, .bool on] w fun e w' => e = .returned (.tuple #[]) ∧ Pb w0 (putP s b on) x y z w' := by
  have c40 : w.cell? ⟨w0.heap.size, 40, none⟩ = some (.int .i64 s.modes) := h.pn.box.cell 40
  have f40 : w.frozen? ⟨w0.heap.size, 40, none⟩ = false := h.pn.box.free 40
  have H1 := Lib.hid (h.modes (bits .andNot .i64 s.modes b))
  clear h
  cases on with
  | false =>
    have HE : Hid (putP s b false = withM s (bits .andNot .i64 s.modes b)) := Lib.hid rfl
    rw [HE.out]
    go_enter Tryz.func63, Tryz.ntmps63
    go_wp2_with fail
    go_end0
    exact ⟨rfl, H1.out⟩
  | true =>
    have HE : Hid (putP s b true = withM (withM s (bits .andNot .i64 s.modes b)) (bits .or .i64 (bits .andNot .i64 s.modes b) b)) := Lib.hid (by rw [or_andNot]; rfl)
    rw [HE.out]
    go_enter Tryz.func63, Tryz.ntmps63
    go_upto_region 2 with (fail)
    change Code.wp _ _ _ _ (w.setCell ⟨w0.heap.size, 40, none⟩ (.int .i64 (bits .andNot .i64 s.modes b)))
    clear c40 f40
    generalize w.setCell ⟨w0.heap.size, 40, none⟩ (.int .i64 (bits .andNot .i64 s.modes b)) = w1 at H1 ⊢
    have c40 : w1.cell? ⟨w0.heap.size, 40, none⟩ = some (.int .i64 (bits .andNot .i64 s.modes b)) := H1.out.pn.box.cell 40
    have f40 : w1.frozen? ⟨w0.heap.size, 40, none⟩ = false := H1.out.pn.box.free 40
    have H2 := Lib.hid (H1.out.modes (bits .or .i64 (bits .andNot .i64 s.modes b) b))
    clear H1
    go_wp2_with fail
    go_end0
    exact ⟨rfl, H2.out⟩
theorem Pb.other {w0 w : World} {s : S} {x y z v : Value} (h : Pb w0 s x y z w) (hs : s.swapped = true) {G : Gr} (hv : OwnCs w (w0.heap.size + 2) v G.cells) : Pb w0 { s with other := G } (putX s x v) (putY s y v) z (pput w w0.heap.size 3 G.rows G.cols v) := by
  have e1 : putG s G = { s with other := G } := by unfold putG; rw [hs]; rfl
  have e2 : seatO s = 3 := by unfold seatO; rw [hs]; rfl
  have k := h.pn.seen (G := G) hv
  rw [e1, e2] at k
  exact h.only k (pput_below (Below.refl _ _) (Nat.le_refl _) _ _ _) (pput_only (Only.refl _ _) _ _ _)
end Scr
end Go.Proofs.YtceaoadlhdgnmaaGreatDoor
end
