/- The developers' rows: blanks, the cells of a rune, what is replaced in a row. -/
import Derived.Test.YthkfcfmnccfbnaaRowCut
import Derived.Test.YthkfcfmnccfbnaaRowRep
import Derived.Deep.RegionHeld3
namespace Go.Proofs.Ythkfcfmnccfbnaa
set_option maxRecDepth 100000
open Go.RowKit
namespace Row
open Utf Wid

theorem held_cut {l : List Cl} (h : Held l) (p : Nat) : Held (cutL l p) := by
  intro i hi
  rw [cutL_length] at hi
  rw [cutL_g]
  split
  · exact Nat.zero_le _
  · exact h i hi
/-- Its beginning. -/
theorem Cs.upto {w : World} {A : Option Addr} {n c : Nat} {l : List Cl} (h : Cs w (.slice A n c) l) (hc : n ≤ c) (k : Nat) (hk : k ≤ l.length) :
    (∀ w' : World, (Instr.slice 22 (.slice A n c) none (some (.int .i64 k)) none).run Try.prog w' = .ok (.slice A k c) w') ∧ Cs w (.slice A k c) (l.take k) := by
  obtain ⟨A', c', e, hf⟩ := h.form
  injection e with e1 e2 e3
  subst e1; subst e2; subst e3
  have hu : Try.prog.underlying 22 = some (.slice (Try.prog.elem 22)) := by kernel_rfl
  refine ⟨fun w' => ?_, ?_⟩
  · rw [run_slice_h w' 22 A l.length c hu .i64 k (by omega) (by omega)]
    have hs : (sizeOf (Try.prog.elem 22)).run Try.prog w' = .ok 6 w' := by kernel_rfl
    rw [hs]
    simp [Result.andThen, sliced]
    intro _
    cases A <;> simp [Addr.add]
  · have hl : (l.take k).length = k := by rw [List.length_take]; omega
    rcases h.2.2 with ⟨e, h0⟩ | ⟨ad, c2, e, hcell⟩
    · injection e with e1 e2 e3
      subst e1; subst e3
      have : k = 0 := by omega
      subst this
      exact Cs.nil w
    · injection e with e1 e2 e3
      subst e1; subst e3
      have := Cs.of (w := w) (ad := ad) (c := c) (l := l.take k) fun j u hu => by
        refine h.flat.2 j u ?_
        have hj : j < (Row.flat (l.take k)).length := (List.getElem?_eq_some_iff.1 hu).1
        have hs : Row.flat l = Row.flat (l.take k) ++ Row.flat (l.drop k) := by rw [← flat_append, List.take_append_drop]
        rw [hs, List.getElem?_append_left hj]; exact hu
      rwa [hl] at this
/-- Its end. -/
theorem Cs.from {w : World} {A : Option Addr} {n c : Nat} {l : List Cl} (h : Cs w (.slice A n c) l) (hc : n ≤ c) (k : Nat) (hk : k ≤ l.length) :
    Cs w (.slice (if c = k then A else A.map (fun x => x.add (k * 6))) (n - k) (c - k)) (l.drop k) := by
  obtain ⟨A', c', e, hf⟩ := h.form
  injection e with e1 e2 e3
  subst e1; subst e2; subst e3
  have hl : (l.drop k).length = l.length - k := List.length_drop
  rcases h.2.2 with ⟨e, h0⟩ | ⟨ad, c2, e, hcell⟩
  · injection e with e1 e2 e3
    subst e1; subst e3
    have h0 : l.length = 0 := h0
    have hl0 : l = [] := List.eq_nil_of_length_eq_zero h0
    subst hl0
    have hk0 : k = 0 := by simpa using hk
    subst hk0
    simp only [List.length_nil] at h0 ⊢
    exact Cs.nil w
  · injection e with e1 e2 e3
    subst e1; subst e3
    by_cases hck : c = k
    · rw [if_pos hck]
      have hd : l.drop k = [] := List.drop_eq_nil_of_le (by omega)
      have := Cs.of (w := w) (ad := ad) (c := c - k) (l := l.drop k) fun j u hu => by rw [hd] at hu; simp [Row.flat] at hu
      rwa [hl] at this
    · rw [if_neg hck]
      have := Cs.of (w := w) (ad := ad.add (k * 6)) (c := c - k) (l := l.drop k) fun j u hu => by
        rw [Go.Deep.add_add]
        refine h.flat.2 (k * 6 + j) u ?_
        have hlt : (Row.flat (l.take k)).length = k * 6 := by rw [flat_length, List.length_take, Nat.min_eq_left hk]
        have hs : Row.flat l = Row.flat (l.take k) ++ Row.flat (l.drop k) := by rw [← flat_append, List.take_append_drop]
        rw [hs, List.getElem?_append_right (by omega), hlt, show k * 6 + j - k * 6 = j from by omega]
        exact hu
      rwa [hl] at this
theorem OwnCs.room {w : World} {base n c : Nat} {A : Option Addr} {l : List Cl} (h : OwnCs w base (.slice A n c) l) : n ≤ c := by
  rcases h.shape with ⟨e, _⟩ | ⟨b, cap, e, _, hc⟩
  · injection e with e1 e2 e3; omega
  · injection e with e1 e2 e3; omega

set_option maxHeartbeats 800000 in
theorem blanks_any (n : Nat) (a : Look) (w : World) (hn : n ≤ 1000) :
    Calls Try.prog 39 #[.int .i64 n, .agg #[.int .i64 a.fg, .int .i64 a.bg, .int .i64 a.flags]] w fun e w' => ∃ v, e = .returned v ∧ OwnCs w' w.heap.size v (List.replicate n (blank a)) ∧ Below w.heap.size w w' := by
  have HB : Hid (∀ w', Calls Try.prog 49 #[.agg #[.int .i64 a.fg, .int .i64 a.bg, .int .i64 a.flags]] w' fun e w'' => e = .returned (.agg #[.int .i64 32, .string ⟨#[]⟩, .int .i64 0, .int .i64 (-1), .int .i64 a.bg, .int .i64 0]) ∧ Below w'.heap.size w' w'') := Lib.hid (fun w' => blank_any a w')
  have HR := Lib.hid (fun x w' (h : Cs w' x [blank a]) => repeat_any (blank a) x n w' h (by omega))
  have HO : Hid (∀ w' : World, Cs (w'.alloc (.cells #[.int .i64 32, .string ⟨#[]⟩, .int .i64 0, .int .i64 (-1), .int .i64 a.bg, .int .i64 0] 39)) (.slice (some ⟨w'.heap.size, 0, none⟩) 1 1) [blank a]) := Lib.hid fun w' => Cs.one w' (blank a) _ 1 _ rfl
  go_enter Try.func39, Try.ntmps39
  go_wp2_with fail
  refine (HB.out _).mono ?_; rintro e w1 ⟨rfl, hb1⟩
  have HB1 : Hid (Below w.heap.size w w1) := Lib.hid (((Below.refl _ _).alloc (Nat.le_refl _) _).trans (hb1.mono (by simp)))
  clear hb1
  go_wp2_with fail
  refine (HR.out _ _ (HO.out w1)).mono ?_; rintro e w2 ⟨v, rfl, ho2, hb2⟩
  have HO2 : Hid (OwnCs w2 w.heap.size v (List.replicate n (blank a))) := Lib.hid (ho2.low (by have := HB1.out.size; simp; omega))
  have HB2 : Hid (Below w.heap.size w w2) := Lib.hid ((HB1.out.alloc HB1.out.size _).trans (hb2.mono (by have := HB1.out.size; simp; omega)))
  clear ho2 hb2
  go_wp2_with fail
  go_ret
  exact ⟨v, rfl, HO2.out, HB2.out⟩

set_option maxHeartbeats 800000 in
theorem fit_any (l : List Cl) (a : Look) (b : Bool) (x : Value) (w : World) (hx : Cs w x l) (hs : Held l) (hl : l.length ≤ 1000000) (hb : b = true ↔ RowOk l ∧ attrOk a = true) :
    Calls Try.prog 41 #[x, .agg #[.int .i64 a.fg, .int .i64 a.bg, .int .i64 a.flags]] w fun e w' => e = .returned (.bool b) ∧ Below w.heap.size w w' := by
  have hb0 : Below w.heap.size w (w.alloc (.cells #[.int .i64 a.fg, .int .i64 a.bg, .int .i64 a.flags] 33)) := (Below.refl _ _).alloc (Nat.le_refl _) _
  have HB0 := Lib.hid hb0
  have hblk : (w.alloc (.cells #[.int .i64 a.fg, .int .i64 a.bg, .int .i64 a.flags] 33)).heap[w.heap.size]? = some (.cells #[.int .i64 a.fg, .int .i64 a.bg, .int .i64 a.flags] 33 (0, 0)) := heap_alloc_new _ _
  have HK := Lib.hid hblk
  have HX := Lib.hid (hx.kept hb0)
  by_cases hr : RowOk l
  · have HC := Lib.hid (fun w' (h : Cs w' x l) => rowCheck_any l true x w' h hs hl ⟨fun _ => hr, fun _ => rfl⟩)
    have HCK := Lib.hid (fun w' => check_any a (attrOk a) rfl w')
    have hbb : b = attrOk a := by
      cases b
      · cases h : attrOk a
        · rfl
        · exact absurd (hb.2 ⟨hr, h⟩) (by decide)
      · exact ((hb.1 rfl).2).symm
    subst hbb
    clear hb hx hs hr hb0 hblk
    generalize attrOk a = q at HCK ⊢
    cases q
    all_goals
      go_enter Try.func41, Try.ntmps41
      go_wp2_with fail
      refine (HC.out _ HX.out).mono ?_; rintro e w1 ⟨rfl, hb1⟩
      have HB1 : Hid (Below w.heap.size w w1) := Lib.hid (HB0.out.trans (hb1.mono (by simp)))
      have hk1 := Blk.kept HK.out hb1
      have k0 := Blk.cell hk1 0
      have k1 := Blk.cell hk1 1
      have k2 := Blk.cell hk1 2
      simp only [List.getElem?_toArray, List.getElem?_cons_zero, List.getElem?_cons_succ] at k0 k1 k2
      clear hb1 hk1
      go_wp2_with fail
      refine (HCK.out _).mono ?_; rintro e w2 ⟨rfl, hb2⟩
      have HB2 : Hid (Below w.heap.size w w2) := Lib.hid (HB1.out.trans (hb2.mono HB1.out.size))
      clear hb2
      go_wp2_with fail
      go_ret
      exact ⟨rfl, HB2.out⟩
  · have HC := Lib.hid (fun w' (h : Cs w' x l) => rowCheck_any l false x w' h hs hl ⟨(fun h => by cases h), fun h => absurd h hr⟩)
    have hbf : b = false := by
      cases b
      · rfl
      · exact absurd (hb.1 rfl).1 hr
    subst hbf
    clear hb hx hs hr hb0 hblk
    go_enter Try.func41, Try.ntmps41
    go_wp2_with fail
    refine (HC.out _ HX.out).mono ?_; rintro e w1 ⟨rfl, hb1⟩
    have HB1 : Hid (Below w.heap.size w w1) := Lib.hid (HB0.out.trans (hb1.mono (by simp)))
    clear hb1
    go_wp2_with fail
    go_ret
    exact ⟨rfl, HB1.out⟩

end Row
end Go.Proofs.Ythkfcfmnccfbnaa
