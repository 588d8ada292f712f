/- The developers' Check: whether a parser's state may be. -/
import Derived.Test.YtjodbmfjdpbbnaaDoorVtState
import Derived.Test.YtjodbmfjdpbbnaaDoorUtfPart
namespace Go.Proofs.YtjodbmfjdpbbnaaDoor
set_option maxRecDepth 100000
open Go.RowKit
namespace Vd
open Vt

/-! ### by runes it is as by bytes -/
theorem dec_low {a : UInt8} {r : List UInt8} (h : a.toNat < 128) : Utf.dec (a :: r) = (a.toNat, 1) := by
  unfold Utf.dec Lib.decodeN
  rw [if_pos (by simpa using h)]; simp
theorem dec_high {a : UInt8} {r : List UInt8} (h : 128 ≤ a.toNat) : 128 ≤ (Utf.dec (a :: r)).1 ∧ 1 ≤ (Utf.dec (a :: r)).2 ∧ (Utf.dec (a :: r)).2 ≤ (a :: r).length ∧ ∀ x ∈ (a :: r).take (Utf.dec (a :: r)).2, 128 ≤ x.toNat := by
  rcases Utf.decodeN_cases (a :: r).length ((a :: r).getD 0 0).toNat ((a :: r).getD 1 0).toNat ((a :: r).getD 2 0).toNat ((a :: r).getD 3 0).toNat (Utf.byte_lt _) (Utf.byte_lt _) (Utf.byte_lt _) (Utf.byte_lt _) with e | ⟨h1, e⟩ | ⟨hn, h1, h2, e⟩ | ⟨hn, h1, h2, h3, e⟩ | ⟨hn, h1, h2, h3, h4, e⟩
  · have e' : Utf.dec (a :: r) = _ := e
    rw [e']
    refine ⟨by decide, by decide, by simp, ?_⟩
    intro x hx
    simp at hx
    subst hx; exact h
  · simp at h1; omega
  · have e' : Utf.dec (a :: r) = _ := e
    rw [e']
    match r, hn with
    | b :: r, _ =>
      have q := Utf.follows_pos h2
      have m1 := Utf.more_is (n := 0) h1
      simp at q m1 ⊢
      refine ⟨by omega, ?_⟩
      omega
  · have e' : Utf.dec (a :: r) = _ := e
    rw [e']
    match r, hn with
    | b :: c :: r, _ =>
      have q := Utf.follows_pos h2
      have q1 := Utf.follows_1_of h2
      have q2 := Utf.follows_pos h3
      have m1 := Utf.more_is (n := 1) h1
      simp at q q1 q2 m1 ⊢
      refine ⟨by omega, ?_⟩
      omega
  · have e' : Utf.dec (a :: r) = _ := e
    rw [e']
    match r, hn with
    | b :: c :: d :: r, _ =>
      have q := Utf.follows_pos h2
      have q1 := Utf.follows_1_of h2
      have q2 := Utf.follows_pos h3
      have q3 := Utf.follows_pos h4
      have m1 := Utf.more_is (n := 2) h1
      simp at q q1 q2 q3 m1 ⊢
      refine ⟨by omega, ?_⟩
      omega
theorem textOk_step {l : List UInt8} (h : l ≠ []) : textOk l = (decide (32 ≤ (Utf.dec l).1) && textOk (l.drop (Utf.dec l).2)) := by
  match l, h with
  | a :: r, _ =>
    by_cases ha : a.toNat < 128
    · rw [dec_low ha]; rfl
    · obtain ⟨h1, h2, h3, h4⟩ := dec_high (r := r) (Nat.le_of_not_lt ha)
      rw [decide_eq_true (show 32 ≤ (Utf.dec (a :: r)).1 by omega), Bool.true_and]
      have : textOk ((a :: r).take (Utf.dec (a :: r)).2) = true := by
        unfold textOk
        rw [List.all_eq_true]
        intro x hx
        have := h4 x hx
        exact decide_eq_true (by omega)
      have hs : textOk (a :: r) = (textOk ((a :: r).take (Utf.dec (a :: r)).2) && textOk ((a :: r).drop (Utf.dec (a :: r)).2)) := by
        unfold textOk
        rw [← List.all_append, List.take_append_drop]
      rw [hs, this, Bool.true_and]
theorem dec_step {l : List UInt8} (h : l ≠ []) : 1 ≤ (Utf.dec l).2 ∧ (Utf.dec l).2 ≤ l.length := by
  match l, h with
  | a :: r, _ =>
    by_cases ha : a.toNat < 128
    · rw [dec_low ha]; simp
    · obtain ⟨_, h2, h3, _⟩ := dec_high (r := r) (Nat.le_of_not_lt ha)
      exact ⟨h2, h3⟩
/-- What a rune among the bytes between may be. -/
def runeOk (csi : Bool) (i r : Nat) : Bool := (csi && decide (i = 0) && decide (60 ≤ r) && decide (r ≤ 63)) || (decide (32 ≤ r) && decide (r ≤ 47))
theorem intersOk_step {csi : Bool} {i : Nat} {l : List UInt8} (h : l ≠ []) : intersOk csi i l = (runeOk csi i (Utf.dec l).1 && intersOk csi (i + (Utf.dec l).2) (l.drop (Utf.dec l).2)) := by
  match l, h with
  | a :: r, _ =>
    by_cases ha : a.toNat < 128
    · rw [dec_low ha]
      show (interOk csi i a && _) = _
      have : interOk csi i a = runeOk csi i a.toNat := by
        unfold interOk runeOk
        cases csi <;> simp
      rw [this]; rfl
    · obtain ⟨h1, h2, h3, h4⟩ := dec_high (r := r) (Nat.le_of_not_lt ha)
      have e1 : runeOk csi i (Utf.dec (a :: r)).1 = false := by
        unfold runeOk
        rw [decide_eq_false (show ¬ (Utf.dec (a :: r)).1 ≤ 63 by omega), decide_eq_false (show ¬ (Utf.dec (a :: r)).1 ≤ 47 by omega)]
        simp
      have e2 : interOk csi i a = false := by
        unfold interOk
        rw [decide_eq_false (show ¬ a.toNat ≤ 63 by omega), decide_eq_false (show ¬ a.toNat ≤ 47 by omega)]
        simp
      rw [e1, Bool.false_and]
      show (interOk csi i a && _) = _
      rw [e2, Bool.false_and]

/-! ### the four parts of Check -/
def pf (p : Ps) : Bool := decide (p.part = []) || (decide (p.state = 0) && Utf.isPart p.part)
def nf (p : Ps) : Bool := if p.state ≠ 3 then decide (p.params.length = 0) else decide (p.params.length ≤ 16) && p.params.all paramOk
def xf (p : Ps) : Bool := if p.state ≠ 3 ∧ p.state ≠ 2 then decide (p.inter = []) else decide (p.inter.length ≤ 3) && !(decide (p.state = 2) && decide (p.inter = [])) && intersOk (decide (p.state = 3)) 0 p.inter
def tf (p : Ps) : Bool := if p.state ≠ 5 ∧ p.state ≠ 7 then decide (p.text = []) else decide (p.text.length ≤ 64) && textOk p.text
def okD (p : Ps) : Bool := rng p.state 0 8 && pf p && nf p && xf p && tf p
theorem okD_ok (p : Ps) : okD p = true ↔ Ok p := by
  constructor
  · intro h
    unfold okD at h
    simp only [Bool.and_eq_true] at h
    obtain ⟨⟨⟨⟨h1, h2⟩, h3⟩, h4⟩, h5⟩ := h
    obtain ⟨s0, s8⟩ := rng_yes h1
    unfold pf at h2
    simp only [Bool.or_eq_true, Bool.and_eq_true, decide_eq_true_eq] at h2
    have hn : (p.state ≠ 3 → p.params = []) ∧ p.params.length ≤ 16 ∧ ∀ n ∈ p.params, -1 ≤ n ∧ n ≤ 9999 := by
      unfold nf at h3
      split at h3
      · have := List.eq_nil_of_length_eq_zero (of_decide_eq_true h3)
        exact ⟨fun _ => this, by rw [this]; simp, by rw [this]; simp⟩
      · rename_i hs
        simp only [Bool.and_eq_true, decide_eq_true_eq, List.all_eq_true, paramOk] at h3
        exact ⟨fun e => absurd e hs, h3.1, h3.2⟩
    have hi : p.inter.length ≤ 3 ∧ intersOk (decide (p.state = 3)) 0 p.inter = true ∧ (p.state = 2 → p.inter ≠ []) ∧ (p.state ≠ 2 → p.state ≠ 3 → p.inter = []) := by
      unfold xf at h4
      split at h4
      · rename_i hs
        have := of_decide_eq_true h4
        exact ⟨by rw [this]; simp, by rw [this]; rfl, fun e => absurd e hs.2, fun _ _ => this⟩
      · rename_i hs
        simp only [Bool.and_eq_true, decide_eq_true_eq, Bool.not_eq_true', Bool.and_eq_false_iff, decide_eq_false_iff_not] at h4
        refine ⟨h4.1.1, h4.2, fun e => ?_, fun a b => absurd ⟨b, a⟩ hs⟩
        rcases h4.1.2 with h | h
        · exact absurd e h
        · exact h
    have ht : p.text.length ≤ 64 ∧ textOk p.text = true ∧ (p.state ≠ 5 → p.state ≠ 7 → p.text = []) := by
      unfold tf at h5
      split at h5
      · have := of_decide_eq_true h5
        exact ⟨by rw [this]; simp, by rw [this]; rfl, fun _ _ => this⟩
      · rename_i hs
        simp only [Bool.and_eq_true, decide_eq_true_eq] at h5
        exact ⟨h5.1, h5.2, fun a b => absurd ⟨a, b⟩ hs⟩
    refine ⟨s0, s8, ?_, fun hs => ?_, hn.2.1, hn.1, hi.1, ht.1, hn.2.2, hi.2.1, hi.2.2.1, hi.2.2.2, ht.2.1, ht.2.2⟩
    · rcases h2 with h | h
      · rw [h]; rfl
      · exact Utf.fits_part h.2
    · rcases h2 with h | h
      · exact h
      · exact absurd h.1 hs
  · intro h
    unfold okD
    simp only [Bool.and_eq_true]
    refine ⟨⟨⟨⟨?_, ?_⟩, ?_⟩, ?_⟩, ?_⟩
    · unfold rng; rw [decide_eq_true h.s0, decide_eq_true h.s8]; rfl
    · unfold pf
      rcases Utf.fits_cases h.fit with e | e
      · rw [decide_eq_true e]; rfl
      · have : p.state = 0 := Classical.byContradiction fun hs => by have := h.part hs; rw [this] at e; cases e
        rw [decide_eq_true this, e]; simp
    · unfold nf
      split
      · rename_i hs
        rw [h.csi hs]; rfl
      · simp only [Bool.and_eq_true, decide_eq_true_eq, List.all_eq_true, paramOk]
        exact ⟨h.n16, h.par⟩
    · unfold xf
      split
      · rename_i hs
        exact decide_eq_true (h.non hs.2 hs.1)
      · simp only [Bool.and_eq_true, decide_eq_true_eq, Bool.not_eq_true', Bool.and_eq_false_iff, decide_eq_false_iff_not]
        exact ⟨⟨h.i3, (Classical.em (p.state = 2)).elim (fun e => .inr (h.two e)) .inl⟩, h.int_⟩
    · unfold tf
      split
      · rename_i hs
        exact decide_eq_true (h.osc hs.1 hs.2)
      · simp only [Bool.and_eq_true, decide_eq_true_eq]
        exact ⟨h.t64, h.txt⟩
theorem okD_eq (p : Ps) : okD p = okB p := by
  cases h : okB p with
  | true => exact (okD_ok p).2 ((ok_iff p).1 h)
  | false =>
    cases h' : okD p with
    | false => rfl
    | true => rw [(ok_iff p).2 ((okD_ok p).1 h')] at h; cases h

set_option maxHeartbeats 800000 in
theorem partFits_any (p : Ps) (A : Option Addr) (c : Nat) (w : World) (hs : p.part.length ≤ 1000000) (ht : Utf.Tabs w) :
    Calls Tryd.prog 20 #[.agg #[.int .i64 p.state, .string ⟨p.part.toArray⟩, .slice A p.params.length c, .string ⟨p.inter.toArray⟩, .string ⟨p.text.toArray⟩]] w fun e w' => e = .returned (.bool (pf p)) ∧ Below w.heap.size w w' := by
  have hb0 : Below w.heap.size w (w.alloc (.cells #[.int .i64 p.state, .string ⟨p.part.toArray⟩, .slice A p.params.length c, .string ⟨p.inter.toArray⟩, .string ⟨p.text.toArray⟩] 31)) := (Below.refl _ _).alloc (Nat.le_refl _) _
  have HB0 := Lib.hid hb0
  have HT := Lib.hid (ht.kept hb0)
  clear hb0 ht
  obtain ⟨s, a, n, i, t⟩ := p
  simp only at HB0 HT hs ⊢
  by_cases h0 : a = []
  · subst h0
    have HE : Hid (pf ⟨s, [], n, i, t⟩ = true) := Lib.hid (by unfold pf; simp)
    go_enter Tryd.func20, Tryd.ntmps20
    go_wp2_with fail
    go_ret
    exact ⟨ret_bool HE.out.symm, HB0.out⟩
  · have hpe := strE a
    have hpe2 := emp_no h0
    rw [hpe2] at hpe
    by_cases hs0 : s = 0
    · subst hs0
      have HE : Hid (pf ⟨0, a, n, i, t⟩ = Utf.isPart a) := Lib.hid (by unfold pf; rw [decide_eq_false h0, decide_eq_true rfl]; simp)
      go_enter Tryd.func20, Tryd.ntmps20
      go_wp2_with fail
      refine (Utf.utfPart_any ⟨a.toArray⟩ _ hs HT.out).mono ?_
      rintro e w1 ⟨rfl, hb1⟩
      go_wp2_with fail
      all_goals
        go_ret
        exact ⟨ret_bool HE.out.symm, HB0.out.trans (hb1.mono HB0.out.size)⟩
    · have HE : Hid (pf ⟨s, a, n, i, t⟩ = false) := Lib.hid (by unfold pf; rw [decide_eq_false h0, decide_eq_false hs0]; simp)
      have e0 : (s == 0) = false := beq_no hs0
      go_enter Tryd.func20, Tryd.ntmps20
      go_wp2_with fail
      go_ret
      exact ⟨ret_bool HE.out.symm, HB0.out⟩
end Vd
end Go.Proofs.YtjodbmfjdpbbnaaDoor
