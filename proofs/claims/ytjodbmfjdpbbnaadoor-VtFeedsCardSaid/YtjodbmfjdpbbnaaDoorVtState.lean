/- Contract of the reference's State: whether a parser's state may be. -/
import Derived.Test.YtjodbmfjdpbbnaaDoorVtHelp
import Derived.Test.YtjodbmfjdpbbnaaDoorUtfRefB
namespace Go.Proofs.YtjodbmfjdpbbnaaDoor
set_option maxRecDepth 100000
open Go.RowKit
namespace Vt

def rng (n lo hi : Int) : Bool := decide (lo ≤ n) && decide (n ≤ hi)
theorem between0_any (n lo hi : Int) (w : World) : Calls Tryd.prog 24 #[.int .i64 n, .int .i64 lo, .int .i64 hi] w fun e w' => e = .returned (.bool (rng n lo hi)) ∧ w = w' := by
  by_cases h : lo ≤ n
  · by_cases k : n ≤ hi
    · have H : Hid (rng n lo hi = true) := Lib.hid (by unfold rng; rw [decide_eq_true h, decide_eq_true k]; rfl)
      go_enter Tryd.func24, Tryd.ntmps24
      go_wp2_with fail
      go_ret
      exact ⟨ret_bool H.out.symm, rfl⟩
    · have H : Hid (rng n lo hi = false) := Lib.hid (by unfold rng; rw [decide_eq_false k, Bool.and_false])
      have hd : decide (n ≤ hi) = false := decide_eq_false k
      go_enter Tryd.func24, Tryd.ntmps24
      go_wp2_with fail
      go_ret
      exact ⟨ret_bool H.out.symm, rfl⟩
  · have H : Hid (rng n lo hi = false) := Lib.hid (by unfold rng; rw [decide_eq_false h, Bool.false_and])
    have hd : decide (lo ≤ n) = false := decide_eq_false h
    go_enter Tryd.func24, Tryd.ntmps24
    go_wp2_with fail
    go_ret
    exact ⟨ret_bool H.out.symm, rfl⟩
theorem between0_at (n lo hi : Int) (v : Bool) (hv : rng n lo hi = v) (w : World) : Calls Tryd.prog 24 #[.int .i64 n, .int .i64 lo, .int .i64 hi] w fun e w' => e = .returned (.bool v) ∧ w = w' := by subst hv; exact between0_any n lo hi w
theorem may_at (s : ByteArray) (v : Bool) (hv : Utf.fits s.data.toList = v) (w : World) (hs : s.size ≤ 1000000) : Calls Tryd.prog 25 #[.string s] w fun e w' => e = .returned (.bool v) ∧ Below w.heap.size w w' := by subst hv; exact Utf.may_any s w hs
theorem strE (l : List UInt8) : ((⟨l.toArray⟩ : ByteArray).toList.isEmpty) = l.isEmpty := by rw [Lib.toList_data]
theorem emp_no {l : List UInt8} (h : l ≠ []) : l.isEmpty = false := by cases l; exact absurd rfl h; rfl
theorem bne_no {a b : Int} (h : a = b) : (a != b) = false := by rw [bne, beq_iff_eq.2 h]; rfl
theorem bne_yes {a b : Int} (h : a ≠ b) : (a != b) = true := by rw [bne_iff_ne]; exact h
theorem beq_no {a b : Int} (h : a ≠ b) : (a == b) = false := beq_eq_false_iff_ne.2 h
theorem not_ok {p : Ps} (h : ¬ Ok p) : okB p = false := by
  cases hk : okB p
  · rfl
  · exact absurd ((ok_iff p).1 hk) h
/-- The first line's facts, one behind the other. -/
structure Head (p : Ps) : Prop where
  s : rng p.state 0 8 = true
  fit : Utf.fits p.part = true
  part : p.part = [] ∨ p.state = 0
  n16 : p.params.length ≤ 16
  csi : p.params.length = 0 ∨ p.state = 3
  i3 : p.inter.length ≤ 3
  t64 : p.text.length ≤ 64
theorem rng_yes {n lo hi : Int} (h : rng n lo hi = true) : lo ≤ n ∧ n ≤ hi := by
  unfold rng at h; simp only [Bool.and_eq_true, decide_eq_true_eq] at h; exact h
theorem rng_no {n lo hi : Int} (h : rng n lo hi = false) : ¬ (lo ≤ n ∧ n ≤ hi) := by
  intro ⟨a, b⟩; unfold rng at h; rw [decide_eq_true a, decide_eq_true b] at h; cases h
theorem Ok.head {p : Ps} (h : Ok p) : Head p :=
  ⟨by unfold rng; rw [decide_eq_true h.s0, decide_eq_true h.s8]; rfl, h.fit, (Classical.em (p.state = 0)).elim .inr (fun e => .inl (h.part e)), h.n16, (Classical.em (p.state = 3)).elim .inr (fun e => .inl (by rw [h.csi e]; rfl)), h.i3, h.t64⟩

set_option maxRecDepth 100000 in
set_option maxHeartbeats 3200000 in
theorem state_head (p : Ps) (u : Value) (w : World) (hu : Src w u p.params.length (ints p.params)) (hp : p.part.length ≤ 1000000) (hh : ¬ Head p) :
    Calls Tryd.prog 9 #[.agg #[.int .i64 p.state, .string ⟨p.part.toArray⟩, u, .string ⟨p.inter.toArray⟩, .string ⟨p.text.toArray⟩]] w fun e w' => e = .returned (.bool false) ∧ Below w.heap.size w w' := by
  obtain ⟨A, c, rfl, _⟩ := hu.form
  have hpe := strE p.part
  clear hu
  have hb0 : Below w.heap.size w (w.alloc (.cells #[.int .i64 p.state, .string ⟨p.part.toArray⟩, .slice A p.params.length c, .string ⟨p.inter.toArray⟩, .string ⟨p.text.toArray⟩] 31)) := (Below.refl _ _).alloc (Nat.le_refl _) _
  have HB0 := Lib.hid hb0
  clear hb0
  cases h1 : rng p.state 0 8
  · have H1 := Lib.hid h1
    clear h1 hpe hh
    go_enter Tryd.func9, Tryd.ntmps9
    go_wp2_with fail
    refine (between0_at p.state 0 8 _ H1.out _).mono ?_; rintro e w' ⟨rfl, rfl⟩
    go_wp2_with fail
    go_ret
    exact ⟨rfl, HB0.out⟩
  have H1 := Lib.hid h1
  cases h2 : Utf.fits p.part
  · have H2 := Lib.hid h2
    clear h1 h2 hpe hh
    go_enter Tryd.func9, Tryd.ntmps9
    go_wp2_with fail
    refine (between0_at p.state 0 8 _ H1.out _).mono ?_; rintro e w' ⟨rfl, rfl⟩
    go_wp2_with fail
    refine (may_at ⟨p.part.toArray⟩ _ H2.out _ hp).mono ?_; rintro e w1 ⟨rfl, hb1⟩
    go_wp2_with fail
    all_goals
      go_ret
      exact ⟨rfl, HB0.out.trans (hb1.mono HB0.out.size)⟩
  have H2 := Lib.hid h2
  clear h1 h2
  by_cases h3 : p.part ≠ [] ∧ p.state ≠ 0
  · rw [emp_no h3.1] at hpe
    have f3 := bne_yes h3.2
    have f3b := beq_no h3.2
    have f3c := h3.1
    clear h3 hh
    go_enter Tryd.func9, Tryd.ntmps9
    go_wp2_with fail
    refine (between0_at p.state 0 8 _ H1.out _).mono ?_; rintro e w' ⟨rfl, rfl⟩
    go_wp2_with fail
    refine (may_at ⟨p.part.toArray⟩ _ H2.out _ hp).mono ?_; rintro e w1 ⟨rfl, hb1⟩
    obtain ⟨hcl, hfz⟩ := bcell hb1
    go_wp2_with fail
    all_goals
      go_ret
      exact ⟨rfl, HB0.out.trans (hb1.mono HB0.out.size)⟩
  have hv3 : (p.part.isEmpty = true) ∨ (p.part.isEmpty = false ∧ p.state = 0) := by
    by_cases e : p.part = []
    · left; rw [e]; rfl
    · right; exact ⟨emp_no e, Classical.not_not.1 fun h => h3 ⟨e, h⟩⟩
  by_cases h4 : 16 < p.params.length
  · have f4 : decide (16 < (p.params.length : Int)) = true := decide_eq_true (by omega)
    clear h3 h4 hh
    rcases hv3 with e | ⟨e, e0⟩
    · rw [e] at hpe
      clear e
      go_enter Tryd.func9, Tryd.ntmps9
      go_wp2_with fail
      refine (between0_at p.state 0 8 _ H1.out _).mono ?_; rintro e w' ⟨rfl, rfl⟩
      go_wp2_with fail
      refine (may_at ⟨p.part.toArray⟩ _ H2.out _ hp).mono ?_; rintro e w1 ⟨rfl, hb1⟩
      obtain ⟨hcl, hfz⟩ := bcell hb1
      go_wp2_with fail
      all_goals
        go_ret
        exact ⟨rfl, HB0.out.trans (hb1.mono HB0.out.size)⟩
    · rw [e] at hpe
      have f3 := bne_no e0
      have f3c : p.part ≠ [] := by intro h; rw [h] at e; cases e
      clear e e0
      go_enter Tryd.func9, Tryd.ntmps9
      go_wp2_with fail
      refine (between0_at p.state 0 8 _ H1.out _).mono ?_; rintro e w' ⟨rfl, rfl⟩
      go_wp2_with fail
      refine (may_at ⟨p.part.toArray⟩ _ H2.out _ hp).mono ?_; rintro e w1 ⟨rfl, hb1⟩
      obtain ⟨hcl, hfz⟩ := bcell hb1
      go_wp2_with fail
      all_goals
        go_ret
        exact ⟨rfl, HB0.out.trans (hb1.mono HB0.out.size)⟩
  have f4 : decide (16 < (p.params.length : Int)) = false := decide_eq_false (by omega)
  by_cases h5 : 0 < p.params.length ∧ p.state ≠ 3
  · have f5 : decide (0 < p.params.length) = true := decide_eq_true h5.1
    have f5s := bne_yes h5.2
    clear h3 h4 h5 hh
    rcases hv3 with e | ⟨e, e0⟩
    · rw [e] at hpe
      clear e
      go_enter Tryd.func9, Tryd.ntmps9
      go_wp2_with fail
      refine (between0_at p.state 0 8 _ H1.out _).mono ?_; rintro e w' ⟨rfl, rfl⟩
      go_wp2_with fail
      refine (may_at ⟨p.part.toArray⟩ _ H2.out _ hp).mono ?_; rintro e w1 ⟨rfl, hb1⟩
      obtain ⟨hcl, hfz⟩ := bcell hb1
      go_wp2_with fail
      all_goals
        go_ret
        exact ⟨rfl, HB0.out.trans (hb1.mono HB0.out.size)⟩
    · rw [e] at hpe
      have f3 := bne_no e0
      have f3c : p.part ≠ [] := by intro h; rw [h] at e; cases e
      clear e e0
      go_enter Tryd.func9, Tryd.ntmps9
      go_wp2_with fail
      refine (between0_at p.state 0 8 _ H1.out _).mono ?_; rintro e w' ⟨rfl, rfl⟩
      go_wp2_with fail
      refine (may_at ⟨p.part.toArray⟩ _ H2.out _ hp).mono ?_; rintro e w1 ⟨rfl, hb1⟩
      obtain ⟨hcl, hfz⟩ := bcell hb1
      go_wp2_with fail
      all_goals
        go_ret
        exact ⟨rfl, HB0.out.trans (hb1.mono HB0.out.size)⟩
  have hv5 : decide (0 < p.params.length) = false ∨ (decide (0 < p.params.length) = true ∧ p.state = 3) := by
    by_cases e : 0 < p.params.length
    · right; exact ⟨decide_eq_true e, Classical.not_not.1 fun h => h5 ⟨e, h⟩⟩
    · left; exact decide_eq_false e
  have hlast : 3 < p.inter.length ∨ (p.inter.length ≤ 3 ∧ 64 < p.text.length) := by
    by_cases e : 3 < p.inter.length
    · exact .inl e
    · right
      refine ⟨by omega, ?_⟩
      by_cases e2 : 64 < p.text.length
      · exact e2
      · exfalso
        refine hh ⟨H1.out, H2.out, ?_, by omega, ?_, by omega, by omega⟩
        · by_cases e3 : p.part = []
          · exact .inl e3
          · exact .inr (Classical.not_not.1 fun h => h3 ⟨e3, h⟩)
        · by_cases e3 : 0 < p.params.length
          · exact .inr (Classical.not_not.1 fun h => h5 ⟨e3, h⟩)
          · exact .inl (by omega)
  clear h3 h4 h5 hh
  rcases hv3 with e | ⟨e, e0⟩
  all_goals rw [e] at hpe
  all_goals rcases hv5 with g | ⟨g, g3⟩
  all_goals rcases hlast with l3 | ⟨l3, l64⟩
  · have f6 : decide (3 < (p.inter.length : Int)) = true := decide_eq_true (by omega)
    clear e l3
    go_enter Tryd.func9, Tryd.ntmps9
    go_wp2_with fail
    refine (between0_at p.state 0 8 _ H1.out _).mono ?_; rintro e w' ⟨rfl, rfl⟩
    go_wp2_with fail
    refine (may_at ⟨p.part.toArray⟩ _ H2.out _ hp).mono ?_; rintro e w1 ⟨rfl, hb1⟩
    obtain ⟨hcl, hfz⟩ := bcell hb1
    go_wp2_with fail
    all_goals
      go_ret
      exact ⟨rfl, HB0.out.trans (hb1.mono HB0.out.size)⟩
  · have f6 : decide (3 < (p.inter.length : Int)) = false := decide_eq_false (by omega)
    have f7 : decide (64 < (p.text.length : Int)) = true := decide_eq_true (by omega)
    clear e l3 l64
    go_enter Tryd.func9, Tryd.ntmps9
    go_wp2_with fail
    refine (between0_at p.state 0 8 _ H1.out _).mono ?_; rintro e w' ⟨rfl, rfl⟩
    go_wp2_with fail
    refine (may_at ⟨p.part.toArray⟩ _ H2.out _ hp).mono ?_; rintro e w1 ⟨rfl, hb1⟩
    obtain ⟨hcl, hfz⟩ := bcell hb1
    go_wp2_with fail
    all_goals
      go_ret
      exact ⟨rfl, HB0.out.trans (hb1.mono HB0.out.size)⟩
  · have f5s := bne_no g3
    have f6 : decide (3 < (p.inter.length : Int)) = true := decide_eq_true (by omega)
    clear e g3 l3
    go_enter Tryd.func9, Tryd.ntmps9
    go_wp2_with fail
    refine (between0_at p.state 0 8 _ H1.out _).mono ?_; rintro e w' ⟨rfl, rfl⟩
    go_wp2_with fail
    refine (may_at ⟨p.part.toArray⟩ _ H2.out _ hp).mono ?_; rintro e w1 ⟨rfl, hb1⟩
    obtain ⟨hcl, hfz⟩ := bcell hb1
    go_wp2_with fail
    all_goals
      go_ret
      exact ⟨rfl, HB0.out.trans (hb1.mono HB0.out.size)⟩
  · have f5s := bne_no g3
    have f6 : decide (3 < (p.inter.length : Int)) = false := decide_eq_false (by omega)
    have f7 : decide (64 < (p.text.length : Int)) = true := decide_eq_true (by omega)
    clear e g3 l3 l64
    go_enter Tryd.func9, Tryd.ntmps9
    go_wp2_with fail
    refine (between0_at p.state 0 8 _ H1.out _).mono ?_; rintro e w' ⟨rfl, rfl⟩
    go_wp2_with fail
    refine (may_at ⟨p.part.toArray⟩ _ H2.out _ hp).mono ?_; rintro e w1 ⟨rfl, hb1⟩
    obtain ⟨hcl, hfz⟩ := bcell hb1
    go_wp2_with fail
    all_goals
      go_ret
      exact ⟨rfl, HB0.out.trans (hb1.mono HB0.out.size)⟩
  · have f3 := bne_no e0
    have f3c : p.part ≠ [] := by intro h; rw [h] at e; cases e
    have f6 : decide (3 < (p.inter.length : Int)) = true := decide_eq_true (by omega)
    clear e e0 l3
    go_enter Tryd.func9, Tryd.ntmps9
    go_wp2_with fail
    refine (between0_at p.state 0 8 _ H1.out _).mono ?_; rintro e w' ⟨rfl, rfl⟩
    go_wp2_with fail
    refine (may_at ⟨p.part.toArray⟩ _ H2.out _ hp).mono ?_; rintro e w1 ⟨rfl, hb1⟩
    obtain ⟨hcl, hfz⟩ := bcell hb1
    go_wp2_with fail
    all_goals
      go_ret
      exact ⟨rfl, HB0.out.trans (hb1.mono HB0.out.size)⟩
  · have f3 := bne_no e0
    have f3c : p.part ≠ [] := by intro h; rw [h] at e; cases e
    have f6 : decide (3 < (p.inter.length : Int)) = false := decide_eq_false (by omega)
    have f7 : decide (64 < (p.text.length : Int)) = true := decide_eq_true (by omega)
    clear e e0 l3 l64
    go_enter Tryd.func9, Tryd.ntmps9
    go_wp2_with fail
    refine (between0_at p.state 0 8 _ H1.out _).mono ?_; rintro e w' ⟨rfl, rfl⟩
    go_wp2_with fail
    refine (may_at ⟨p.part.toArray⟩ _ H2.out _ hp).mono ?_; rintro e w1 ⟨rfl, hb1⟩
    obtain ⟨hcl, hfz⟩ := bcell hb1
    go_wp2_with fail
    all_goals
      go_ret
      exact ⟨rfl, HB0.out.trans (hb1.mono HB0.out.size)⟩
  · omega
  · omega
theorem take_snocI {α : Type} (l : List α) (k : Nat) (d : α) (h : k < l.length) : l.take (k + 1) = l.take k ++ [l.getD k d] := by
  rw [List.take_succ_eq_append_getElem h]; simp [List.getD, h]
theorem inters_at (c : Bool) : ∀ (l : List UInt8) (i : Nat), intersOk c i l = true → ∀ k, k < l.length → interOk c (i + k) (l.getD k 0) = true
  | [], _, _, k, hk => absurd hk (by simp)
  | b :: l, i, h, 0, _ => by
    simp only [intersOk, Bool.and_eq_true] at h
    simpa [List.getD] using h.1
  | b :: l, i, h, k + 1, hk => by
    simp only [intersOk, Bool.and_eq_true] at h
    have := inters_at c l (i + 1) h.2 k (by simpa using hk)
    rw [show i + 1 + k = i + (k + 1) from by omega] at this
    simpa [List.getD] using this
/-- What the three loops find, one behind the other. -/
structure Upto (p : Ps) (a b c : Nat) : Prop where
  par : ∀ k, k < a → paramOk (p.params.getD k 0) = true
  int_ : intersOk (decide (p.state = 3)) 0 (p.inter.take b) = true
  txt : ∀ k, k < c → 32 ≤ (p.text.getD k 0).toNat
theorem par_no {p : Ps} {k : Nat} (hk : k < p.params.length) (h : paramOk (p.params.getD k 0) = false) : okB p = false := not_ok fun ok => by
  have := ok.par (p.params.getD k 0) (by simp [List.getD, hk])
  unfold paramOk at h
  rw [decide_eq_true this.1, decide_eq_true this.2] at h
  cases h
theorem int_no {p : Ps} {k : Nat} (hk : k < p.inter.length) (h : interOk (decide (p.state = 3)) k (p.inter.getD k 0) = false) : okB p = false := not_ok fun ok => by
  have := inters_at _ _ _ ok.int_ k hk
  rw [Nat.zero_add, h] at this
  cases this
theorem txt_no {p : Ps} {k : Nat} (hk : k < p.text.length) (h : (p.text.getD k 0).toNat < 32) : okB p = false := not_ok fun ok => by
  have := ok.txt
  unfold textOk at this
  have := of_decide_eq_true (List.all_eq_true.1 this (p.text.getD k 0) (by simp [List.getD, hk]))
  omega
theorem int_yes {p : Ps} {k : Nat} (hk : k < p.inter.length) (h0 : intersOk (decide (p.state = 3)) 0 (p.inter.take k) = true) (h : interOk (decide (p.state = 3)) k (p.inter.getD k 0) = true) : intersOk (decide (p.state = 3)) 0 (p.inter.take (k + 1)) = true := by
  rw [take_snocI _ _ 0 hk, intersOk_snoc, h0, Nat.zero_add, List.length_take, Nat.min_eq_left (by omega), h]
  rfl
theorem str_at (l : List UInt8) (k : Nat) (h : k < l.length) : ∀ q, (⟨l.toArray⟩ : ByteArray)[k]'q = l.getD k 0 := fun q => by
  have e : (⟨l.toArray⟩ : ByteArray)[k]'q = l[k]'h := rfl
  rw [e]; simp [List.getD, h]
theorem block_cell0 {w : World} {b : Nat} {cs : Array Value} {t : TypeId} {fr : Nat × Nat} (h : w.heap[b]? = some (.cells cs t fr)) (j : Nat) : w.cell? ⟨b, j, none⟩ = cs[j]? := cell_of_row w b j cs t _ h
theorem ok_fin {p : Ps} (hh : Head p) (hpar : p.params.all paramOk = true) (hint : intersOk (decide (p.state = 3)) 0 p.inter = true) (hr : restOk p = true) (ht : ∀ j, j < p.text.length → 32 ≤ (p.text.getD j 0).toNat) :
    okB p = (p.text.isEmpty || ((p.state == 5) || (p.state == 7))) := by
  have htx : textOk p.text = true := by
    unfold textOk
    refine List.all_eq_true.2 fun b hb => decide_eq_true ?_
    obtain ⟨j, hj, rfl⟩ := List.getElem_of_mem hb
    have := ht j hj
    simpa [List.getD, hj] using this
  have hs := rng_yes hh.s
  have h1 : headOk p = true := by
    unfold headOk
    rw [decide_eq_true hs.1, decide_eq_true hs.2, hh.fit, decide_eq_true hh.n16, decide_eq_true hh.i3, decide_eq_true hh.t64]
    have a : (decide (p.part ≠ []) && decide (p.state ≠ 0)) = false := by
      rcases hh.part with e | e
      · rw [decide_eq_false (fun h => h e)]; rfl
      · rw [show decide (p.state ≠ 0) = false from decide_eq_false (fun h => h e), Bool.and_false]
    have b : (decide (0 < p.params.length) && decide (p.state ≠ 3)) = false := by
      rcases hh.csi with e | e
      · rw [decide_eq_false (by omega)]; rfl
      · rw [show decide (p.state ≠ 3) = false from decide_eq_false (fun h => h e), Bool.and_false]
    rw [a, b]; rfl
  unfold okB
  rw [h1, hpar, hint, hr, htx]
  have e1 : decide (p.text = []) = p.text.isEmpty := by cases p.text <;> rfl
  have e5 : decide (p.state = 5) = (p.state == 5) := by rw [Bool.eq_iff_iff]; simp
  have e7 : decide (p.state = 7) = (p.state == 7) := by rw [Bool.eq_iff_iff]; simp
  rw [e1, e5, e7]
  simp [Bool.or_assoc]
end Vt
end Go.Proofs.YtjodbmfjdpbbnaaDoor
