/- The developers' fitted: a row cut, or made longer. -/
import Derived.Test.YthkfcfmnccfbnaaGrdLaid
namespace Go.Proofs.Ythkfcfmnccfbnaa
set_option maxRecDepth 100000
open Go.RowKit
namespace Row

theorem cutL_end {l : List Cl} {p : Nat} (h : l.length ≤ p) : cutL l p = l := by unfold cutL; rw [if_neg (by omega)]
theorem fit_same {l : List Cl} (a : Look) : fitRow l l.length a = l := by
  unfold fitRow; rw [if_neg (Nat.lt_irrefl _), Nat.sub_self]; simp
theorem fit_long {l : List Cl} {n : Nat} (h : l.length < n) (a : Look) : fitRow l n a = l ++ List.replicate (n - l.length) (blank a) := by
  unfold fitRow; rw [if_neg (by omega)]
/-- Erased from there on, and cut there, a row is cut and mended. -/
theorem fit_cut {l : List Cl} (hg : Good l) {n : Nat} (h1 : 1 ≤ n) (h : n ≤ l.length) (a : Look) : (repl l n l.length (List.replicate (l.length - n) (blank a))).take n = fitRow l n a := by
  rcases Nat.lt_or_ge n l.length with hn | hn
  · have hr : repl l n l.length (List.replicate (l.length - n) (blank a)) = mid l n l.length (List.replicate (l.length - n) (blank a)) := by
      unfold repl; rw [if_neg (by omega)]
    rw [hr]
    unfold mid
    rw [cutL_end (l := cutL l n) (by rw [cutL_length]; exact Nat.le_refl _)]
    have ht : ((cutL l n).take n).length = n := by rw [List.length_take, cutL_length]; omega
    rw [List.take_left' ht]
    unfold fitRow
    rw [if_pos hn, Nat.sub_eq_zero_of_le (by omega), List.replicate_zero, List.append_nil]
    have hlen : (l.take n).length = n := by rw [List.length_take]; omega
    have hlast : g (l.take n) (n - 1) = g l (n - 1) := g_take (by omega)
    refine ext_g (by rw [ht, mendEnd_length, hlen]) fun i hi => ?_
    rw [ht] at hi
    rw [g_take hi, cutL_g]
    unfold mendEnd
    rw [hlen, hlast]
    have hwide : (g l n).wide = 2 ↔ (g l (n - 1)).wide = 1 := by
      constructor
      · intro hw
        obtain ⟨_, h2, _⟩ := good_ahead hg hn (kind_of_wide2 (okAt_kind (hg n hn)) hw)
        exact kind_2 h2
      · intro hw
        have hk := kind_of_wide1 (okAt_kind (hg (n - 1) (by omega))) hw
        rcases hg (n - 1) (by omega) with e | ⟨_, _, e⟩ | ⟨e, _⟩
        · omega
        · rw [show n - 1 + 1 = n from by omega] at e; rw [e]; rfl
        · omega
    by_cases hw : (g l n).wide = 2
    · rw [if_pos (c := _ ∧ _) ⟨by intro e; rw [e] at hlen; simp at hlen; omega, hwide.1 hw⟩]
      by_cases e : i = n - 1
      · subst e
        rw [if_pos ⟨by omega, hn, hw, .inr rfl⟩, g_set_same (by omega)]
      · rw [if_neg (by omega), g_set_ne (by omega), g_take hi]
    · rw [if_neg (fun h => hw h.2.2.1), if_neg (fun h => hw (hwide.2 h.2)), g_take hi]
  · have e : n = l.length := by omega
    subst e
    rw [fit_same, Nat.sub_self]
    unfold repl
    rw [if_pos ⟨rfl, rfl⟩, List.take_of_length_le (Nat.le_refl _)]
theorem two_of {w : World} {a b : Value} {p q : List Cl} (h1 : Cs w a p) (h2 : Cs w b q) : ∀ k, k < [p, q].length → Cs w ([a, b].getD k undef) ([p, q].getD k []) := by
  intro k hk
  have hk : k < 2 := hk
  rcases (by omega : k = 0 ∨ k = 1) with rfl | rfl
  · exact h1
  · exact h2
/-- It lies in no block g. -/
def Off (g : Nat) (v : Value) : Prop := ∀ ad n c, v = .slice (some ad) n c → ad.block ≠ g
theorem OwnCs.off {w : World} {base g : Nat} {v : Value} {l : List Cl} (h : OwnCs w base v l) (hg : g < base) : Off g v := by
  rcases h.shape with ⟨rfl, _⟩ | ⟨b, cap, rfl, hb, _⟩
  · intro ad n c e; cases e
  · intro ad n c e
    injection e with e1 _ _
    injection e1 with e1
    rw [← e1]
    show b ≠ g
    omega
theorem off_same {g : Nat} {A : Option Addr} {n c : Nat} (h : Off g (.slice A n c)) (n' c' : Nat) : Off g (.slice A n' c') := by
  intro ad n2 c2 e
  injection e with e1 _ _
  subst e1
  exact h ad n c rfl
set_option maxHeartbeats 1600000 in
theorem fitted_any (r : List Cl) (n : Nat) (a : Look) (x : Value) (w : World) (hx : Rm w x r) (hr : RowOk r) (hs : Held r) (h1 : 1 ≤ n) (h2 : n ≤ 40) (ha : attrOk a = true) :
    Calls Try.prog 21 #[x, .int .i64 n, .agg #[.int .i64 a.fg, .int .i64 a.bg, .int .i64 a.flags]] w fun e w' => ∃ v, e = .returned v ∧ Rm w' v (fitRow r n a) ∧ (∀ g, g < w.heap.size → Off g v) ∧ Below w.heap.size w w' := by
  have hb0 : Below w.heap.size w (w.alloc (.cells #[.int .i64 a.fg, .int .i64 a.bg, .int .i64 a.flags] 33)) := (Below.refl _ _).alloc (Nat.le_refl _) _
  have HB0 := Lib.hid hb0
  have HX := Lib.hid (hx.cs.kept hb0)
  have hl40 := hr.2.1
  have hl1 := hr.1
  obtain ⟨_, A, c, rfl, hc⟩ := hx
  by_cases hn : r.length < n
  · have HE : Hid (fitRow r n a = [r, blankRow (n - r.length) a].flatten) := Lib.hid (by rw [fit_long hn]; simp [blankRow])
    have HBK := Lib.hid (fun w' => gridBlanks_any (n - r.length) a w' (by omega) (by omega) ha)
    have HLL : Hid ([r, blankRow (n - r.length) a].flatten.length ≤ 1000000) := Lib.hid (by simp [blankRow_length]; omega)
    have HCC := Lib.hid (fun (xs : List Value) x w' hxl hxx hcc => concatK_any [r, blankRow (n - r.length) a] xs x w' hxl hxx hcc HLL.out (by simp))
    have hwrap : IntKind.i64.wrap ((n : Int) - (r.length : Int)) = ((n - r.length : Nat) : Int) := by rw [IntKind.wrap_i64]; omega
    clear hb0 hr hs ha
    go_enter Try.func21, Try.ntmps21
    go_wp2_with fail
    refine (HBK.out _).mono ?_; rintro e w2 ⟨v2, rfl, ho2, hb2⟩
    have HB2 : Hid (Below w.heap.size w w2) := Lib.hid (HB0.out.trans (hb2.mono (by simp)))
    obtain ⟨A2, c2, rfl⟩ := own_shape ho2
    have HO2 : Hid (Cs w2 (.slice A2 (blankRow (n - r.length) a).length c2) (blankRow (n - r.length) a)) := Lib.hid ho2.cs
    obtain ⟨bl, hbl⟩ : ∃ q, (blankRow (n - r.length) a).length = q := ⟨_, rfl⟩
    rw [hbl] at HO2 ⊢
    have HX2 := Lib.hid (HX.out.kept hb2)
    clear ho2 hb2
    go_wp2_with fail
    have hba : Below w2.heap.size w2 (w2.alloc (.cells #[.slice A r.length c, .slice A2 bl c2] 57)) := (Below.refl _ _).alloc (Nat.le_refl _) _
    refine (HCC.out [.slice A r.length c, .slice A2 bl c2] _ _ rfl (Src.made w2 _ _ 2 2 rfl) (two_of (HX2.out.kept hba) (HO2.out.kept hba))).mono ?_
    rintro e w3 ⟨v3, rfl, ho3, hb3⟩
    have HB3 : Hid (Below w.heap.size w w3) := Lib.hid ((HB2.out.alloc HB2.out.size _).trans (hb3.mono (by have := HB2.out.size; simp; omega)))
    have HO3 := Lib.hid ho3
    clear ho3 hb3 hba
    go_wp2_with fail
    go_ret
    exact ⟨v3, rfl, by rw [HE.out]; exact HO3.out.rm, fun g hg => HO3.out.off (by have := HB2.out.size; simp; omega), HB3.out⟩
  · have HE : Hid ((repl r n r.length (List.replicate (r.length - n) (blank a))).take n = fitRow r n a) := Lib.hid (fit_cut hr.2.2 h1 (by omega) a)
    have HER := Lib.hid (fun w' (h : Cs w' (.slice A r.length c) r) => erase_fits r a n r.length (.slice A r.length c) w' h hs (by omega) hr ha (by omega) (Nat.le_refl _))
    have hlr : (repl r n r.length (List.replicate (r.length - n) (blank a))).length = r.length := by
      have := repl_length (l := r) (low := n) (high := r.length) (by omega) (Nat.le_refl _) (List.replicate (r.length - n) (blank a))
      rw [List.length_replicate] at this; omega
    have hd : decide ((r.length : Int) < (n : Int)) = false := decide_eq_false (by omega)
    generalize repl r n r.length (List.replicate (r.length - n) (blank a)) = res at HE HER hlr
    clear hb0 hr hs ha
    go_enter Try.func21, Try.ntmps21
    go_wp2_with fail
    refine (HER.out _ HX.out).mono ?_; rintro e w2 ⟨v2, rfl, ho2, hb2⟩
    have HB2 : Hid (Below w.heap.size w w2) := Lib.hid (HB0.out.trans (hb2.mono (by simp)))
    obtain ⟨A2, c2, rfl⟩ := own_shape ho2
    have hup := ho2.cs.upto (OwnCs.room ho2) n (by omega)
    have hrm : n ≤ c2 := by have := OwnCs.room ho2; omega
    have hrun := hup.1
    have HC2 : Hid (Rm w2 (.slice A2 n c2) (res.take n)) := Lib.hid ⟨hup.2, _, _, by rw [List.length_take, Nat.min_eq_left (by omega)], by rw [List.length_take]; omega⟩
    have HOF : Hid (∀ g, g < w.heap.size → Off g (.slice A2 n c2)) := Lib.hid fun g hg => off_same (ho2.off (g := g) (by simp; omega)) _ _
    clear ho2 hb2 hup
    go_wp2_with fail
    go_ret
    exact ⟨_, rfl, by rw [← HE.out]; exact HC2.out, HOF.out, HB2.out⟩
end Row
end Go.Proofs.Ythkfcfmnccfbnaa
