/- The developers' Check of a row. -/
import Derived.Test.YthkfcfmnccfbnaaRowDev
namespace Go.Proofs.Ythkfcfmnccfbnaa
set_option maxRecDepth 100000
open Go.RowKit
namespace Row
open Utf Wid

theorem partV_1 (p : Addr) : partV 1 p = .iface 83 (.agg #[.pointer (some p)]) := rfl
theorem partV_2 (p : Addr) : partV 2 p = .iface 78 (.agg #[.pointer (some p)]) := rfl
theorem partV_3 (p : Addr) : partV 3 p = .iface 81 (.agg #[.pointer (some p)]) := rfl
theorem partV_0 (p : Addr) : partV 0 p = .iface 97 (.agg #[]) := rfl
def secOf (d : Cl) (a : Look) : Bool := decide (d.rune = 0) && (decide (d.comb = []) && (decide (d.wide = 2) && (decide (d.a.fg = a.fg) && (decide (d.a.bg = a.bg) && decide (d.a.flags = a.flags)))))
theorem secOf_iff (d : Cl) (a : Look) : secOf d a = true ↔ d = sec a := by
  obtain ⟨r, m, x, ⟨f1, f2, f3⟩⟩ := d
  obtain ⟨g1, g2, g3⟩ := a
  simp [secOf, sec]
theorem eql_secOf (d : Cl) (a : Look) (w : World) : (binOp .eql 39 (cagg d) (cagg (sec a))).run Try.prog w = .ok (.bool (secOf d a)) w := by
  obtain ⟨r, cb, x, ⟨f1, f2, f3⟩⟩ := d
  obtain ⟨g1, g2, g3⟩ := a
  have hs : secOf ⟨r, cb, x, ⟨f1, f2, f3⟩⟩ ⟨g1, g2, g3⟩ = (decide (r = 0) && (decide (cb = []) && (decide (x = 2) && (decide (f1 = g1) && (decide (f2 = g2) && decide (f3 = g3)))))) := rfl
  rw [hs]
  by_cases h1 : r = 0
  · by_cases h2 : cb = []
    · by_cases h3 : x = 2
      · by_cases h4 : f1 = g1
        · by_cases h5 : f2 = g2
          · by_cases h6 : f3 = g3
            · simp [cagg, sec, go_sem, h1, h2, h3, h4, h5, h6]
            · simp [cagg, sec, go_sem, h1, h2, h3, h4, h5, h6]
          · simp [cagg, sec, go_sem, h1, h2, h3, h4, h5]
        · simp [cagg, sec, go_sem, h1, h2, h3, h4]
      · simp [cagg, sec, go_sem, h1, h2, h3]
    · simp [cagg, sec, go_sem, h1, h2]
  · simp [cagg, sec, go_sem, h1]
/-- Texts of cells that a machine can hold. -/
def Held (l : List Cl) : Prop := ∀ i, i < l.length → (g l i).comb.length ≤ 1152921504606846976

set_option maxHeartbeats 1600000 in
theorem stands_0 (l : List Cl) (k : Nat) (b : Bool) (x : Value) (w : World) (hk : k < l.length) (hx : Cs w x l) (hs : Held l) (hb : b = true ↔ okAt l k) (e : kind (g l k) = 0) :
    Calls Try.prog 27 #[x, .int .i64 k] w fun e w' => e = .returned (.bool b) ∧ Below w.heap.size w w' := by
  obtain ⟨A, c, rfl, ha⟩ := hx.form
  obtain ⟨ad, rfl, hat⟩ := ha k hk
  have HLK := Lib.hid (fun w' (h : At w' (ad.add (k * 6)) (cvals (g l k))) => look_any (g l k) (ad.add (k * 6)) w' h (hs k hk))
  have HAT := Lib.hid hat
  have hbf : b = false := by
    cases b
    · rfl
    · exact absurd e (okAt_kind (hb.1 rfl))
  subst hbf
  rw [e, partV_0] at HLK
  clear hb hs ha hx hat e
  go_enter Try.func27, Try.ntmps27
  go_wp2_with fail
  refine (HLK.out _ HAT.out).mono ?_; rintro e w1 ⟨rfl, hb1⟩
  have HB1 := Lib.hid hb1
  clear hb1
  go_wp2_with fail
  go_ret
  exact ⟨rfl, by have h1 := HB1.out; have h2 := h1.size; repeat (first | exact h1 | refine Below.alloc ?_ (by first | exact h2 | (simp; omega)) _)⟩
set_option maxHeartbeats 1600000 in
theorem stands_1 (l : List Cl) (k : Nat) (b : Bool) (x : Value) (w : World) (hk : k < l.length) (hx : Cs w x l) (hs : Held l) (hb : b = true ↔ okAt l k) (e : kind (g l k) = 1) :
    Calls Try.prog 27 #[x, .int .i64 k] w fun e w' => e = .returned (.bool b) ∧ Below w.heap.size w w' := by
  obtain ⟨A, c, rfl, ha⟩ := hx.form
  obtain ⟨ad, rfl, hat⟩ := ha k hk
  have HLK := Lib.hid (fun w' (h : At w' (ad.add (k * 6)) (cvals (g l k))) => look_any (g l k) (ad.add (k * 6)) w' h (hs k hk))
  have HAT := Lib.hid hat
  have hbt : b = true := hb.2 (.inl e)
  subst hbt
  rw [e, partV_1] at HLK
  clear hb hs ha hx hat e
  go_enter Try.func27, Try.ntmps27
  go_wp2_with fail
  refine (HLK.out _ HAT.out).mono ?_; rintro e w1 ⟨rfl, hb1⟩
  have HB1 := Lib.hid hb1
  clear hb1
  go_wp2_with fail
  go_ret
  exact ⟨rfl, by have h1 := HB1.out; have h2 := h1.size; repeat (first | exact h1 | refine Below.alloc ?_ (by first | exact h2 | (simp; omega)) _)⟩
set_option maxHeartbeats 1600000 in
theorem stands_2 (l : List Cl) (k : Nat) (b : Bool) (x : Value) (w : World) (hk : k < l.length) (hx : Cs w x l) (hs : Held l) (hl : l.length ≤ 1000000) (hb : b = true ↔ okAt l k) (e : kind (g l k) = 2) :
    Calls Try.prog 27 #[x, .int .i64 k] w fun e w' => e = .returned (.bool b) ∧ Below w.heap.size w w' := by
  obtain ⟨A, c, rfl, ha⟩ := hx.form
  obtain ⟨ad, rfl, hat⟩ := ha k hk
  have HLK := Lib.hid (fun w' (h : At w' (ad.add (k * 6)) (cvals (g l k))) => look_any (g l k) (ad.add (k * 6)) w' h (hs k hk))
  have HAT := Lib.hid hat
  by_cases hk1 : k + 1 < l.length
  · have hbb : b = secOf (g l (k + 1)) (g l k).a := by
      have : b = true ↔ secOf (g l (k + 1)) (g l k).a = true := by
        rw [hb, secOf_iff]
        constructor
        · rintro (h | ⟨_, _, h⟩ | ⟨h, _⟩)
          · omega
          · exact h
          · omega
        · intro h; exact .inr (.inl ⟨e, hk1, h⟩)
      cases b <;> cases hq : secOf (g l (k + 1)) (g l k).a <;> simp_all
    have heq := eql_secOf (g l (k + 1)) (g l k).a
    have HSC := Lib.hid (fun w' => sec_any (g l k).a w')
    obtain ⟨k1, hk1e⟩ : ∃ k1, k1 = k + 1 := ⟨_, rfl⟩
    rw [← hk1e] at hk1 hbb heq
    obtain ⟨ad', e2, hat2⟩ := ha k1 hk1
    injection e2 with e2
    subst e2
    have HAT2 := Lib.hid hat2
    rw [← hbb] at heq
    rw [e, partV_2] at HLK
    clear hb hs ha hx hat hat2 e hbb
    generalize g l k1 = d at heq HAT2
    generalize g l k = f at heq HAT HLK HSC
    obtain ⟨dr, dc, dw, ⟨d1, d2, d3⟩⟩ := d
    obtain ⟨fr, fc, fw, ⟨f1, f2, f3⟩⟩ := f
    simp only [cagg, sec] at heq
    have hwrap : IntKind.i64.wrap ((k : Int) + 1) = (k1 : Int) := by rw [IntKind.wrap_i64]; omega
    clear hk1e
    go_enter Try.func27, Try.ntmps27
    go_wp2_with fail
    refine (HLK.out _ HAT.out).mono ?_; rintro e w1 ⟨rfl, hb1⟩
    have HB1 := Lib.hid hb1
    clear hb1
    go_wp2_with fail
    have hb2 : Below w.heap.size w (w1.alloc (.cells #[.pointer (some (ad.add (k * 6)))] 78)) := HB1.out.alloc HB1.out.size _
    have hA := HAT.out.kept hb2
    have hD := HAT2.out.kept hb2
    have p0 : (w1.alloc (.cells #[.pointer (some (ad.add (k * 6)))] 78)).cell? ⟨w1.heap.size, 0, none⟩ = some (.pointer (some (ad.add (k * 6)))) := Blk.cell (heap_alloc_new _ _) 0
    have y0 := cell_regrown p0
    have y3 := cell_regrown (hA.next 2 rfl)
    have y4 := cell_regrown (hA.next 3 rfl)
    have y5 := cell_regrown (hA.next 4 rfl)
    have z0 := cell_regrown hD.head
    have z1 := cell_regrown (hD.next 0 rfl)
    have z2 := cell_regrown (hD.next 1 rfl)
    have z3 := cell_regrown (hD.next 2 rfl)
    have z4 := cell_regrown (hD.next 3 rfl)
    have z5 := cell_regrown (hD.next 4 rfl)
    clear hA hD p0
    have BC : Hid (∀ d os, Below w.heap.size w (Go.Sort.grow (redrawn (w1.alloc (.cells #[.pointer (some (ad.add (k * 6)))] 78)) d) os)) := Lib.hid fun d os => hb2.trans ((below_regrown _ d os).mono hb2.size)
    clear hb2
    have cS : ∀ d os, Calls Try.prog 36 #[.agg #[.int .i64 f1, .int .i64 f2, .int .i64 f3]] (Go.Sort.grow (redrawn (w1.alloc (.cells #[.pointer (some (ad.add (k * 6)))] 78)) d) os) fun e w'' => e = .returned (.agg #[.int .i64 0, .string ⟨#[]⟩, .int .i64 2, .int .i64 f1, .int .i64 f2, .int .i64 f3]) ∧ ∃ p : Regrown, w'' = Go.Sort.grow (redrawn (w1.alloc (.cells #[.pointer (some (ad.add (k * 6)))] 78)) p.d) p.os := fun d os => Calls.regrown_of (HSC.out _)
    generalize w1.alloc (.cells #[.pointer (some (ad.add (k * 6)))] 78) = wa at y0 y3 y4 y5 z0 z1 z2 z3 z4 z5 BC cS ⊢
    refine wp_region_quiet_below (by kernel_rfl) (by kernel_rfl) ?_
    repeat (quiet_step (exact cS _ _))
    refine wpQuiet_nil ?_
    intro _ hw'
    obtain ⟨⟨dq, osq⟩, hw''⟩ := hw'
    subst hw''
    have HB4 := Lib.hid (BC.out dq osq)
    clear heq y0 y3 y4 y5 z0 z1 z2 z3 z4 z5 cS BC
    generalize Go.Sort.grow (redrawn wa dq) osq = w4 at HB4 ⊢
    go_wp2_with fail
    go_ret
    exact ⟨rfl, HB4.out⟩
  · have hbf : b = false := by
      cases b
      · rfl
      · rcases hb.1 rfl with h | ⟨_, h, _⟩ | ⟨h, _⟩
        · omega
        · exact absurd h hk1
        · omega
    subst hbf
    obtain ⟨k1, hk1e⟩ : ∃ k1, k1 = k + 1 := ⟨_, rfl⟩
    have hd : decide (k1 < l.length) = false := decide_eq_false (by omega)
    rw [e, partV_2] at HLK
    have hwrap : IntKind.i64.wrap ((k : Int) + 1) = (k1 : Int) := by rw [IntKind.wrap_i64]; omega
    clear hb hs ha hx hat e hk1 hk1e
    go_enter Try.func27, Try.ntmps27
    go_wp2_with fail
    refine (HLK.out _ HAT.out).mono ?_; rintro e w1 ⟨rfl, hb1⟩
    have HB1 := Lib.hid hb1
    clear hb1
    go_wp2_with fail
    go_quiet (fail)
    go_wp2_with fail
    go_ret
    exact ⟨rfl, by have h1 := HB1.out; have h2 := h1.size; refine below_drewN ?_ _; repeat (first | exact h1 | refine Below.alloc ?_ (by first | exact h2 | (simp; omega)) _)⟩
set_option maxHeartbeats 1600000 in
theorem stands_3 (l : List Cl) (k : Nat) (b : Bool) (x : Value) (w : World) (hk : k < l.length) (hx : Cs w x l) (hs : Held l) (hl : l.length ≤ 1000000) (hb : b = true ↔ okAt l k) (e : kind (g l k) = 3) :
    Calls Try.prog 27 #[x, .int .i64 k] w fun e w' => e = .returned (.bool b) ∧ Below w.heap.size w w' := by
  obtain ⟨A, c, rfl, ha⟩ := hx.form
  obtain ⟨ad, rfl, hat⟩ := ha k hk
  have HLK := Lib.hid (fun w' (h : At w' (ad.add (k * 6)) (cvals (g l k))) => look_any (g l k) (ad.add (k * 6)) w' h (hs k hk))
  have HAT := Lib.hid hat
  by_cases hk1 : 0 < k
  · obtain ⟨j, hj⟩ : ∃ j, j = k - 1 := ⟨_, rfl⟩
    have hbb : b = decide ((g l j).wide = 1) := by
      have : b = true ↔ (g l j).wide = 1 := by
        rw [hb, hj]
        constructor
        · rintro (h | ⟨h, _⟩ | ⟨_, _, h⟩)
          · omega
          · omega
          · exact h
        · intro h; exact .inr (.inr ⟨e, hk1, h⟩)
      cases b
      · exact (decide_eq_false fun h => by have := this.2 h; cases this).symm
      · exact (decide_eq_true (this.1 rfl)).symm
    obtain ⟨ad', e2, hat2⟩ := ha j (by omega)
    injection e2 with e2
    subst e2
    have HAT2 := Lib.hid hat2
    have hbb2 : ((g l j).wide == 1) = b := by rw [hbb]; exact Bool.beq_eq_decide_eq _ _
    rw [e, partV_3] at HLK
    clear hb hs ha hx hat hat2 e hbb
    generalize g l j = d at hbb2 HAT2
    obtain ⟨dr, dc, dw, ⟨d1, d2, d3⟩⟩ := d
    have hwrap : IntKind.i64.wrap ((k : Int) - 1) = (j : Int) := by rw [IntKind.wrap_i64]; omega
    have hjl : j < l.length := by omega
    clear hj
    go_enter Try.func27, Try.ntmps27
    go_wp2_with fail
    refine (HLK.out _ HAT.out).mono ?_; rintro e w1 ⟨rfl, hb1⟩
    have HB1 := Lib.hid hb1
    have hD := HAT2.out.kept hb1
    have z2 := hD.next 1 rfl
    have zlt := World.block_lt_of_cell? w1 _ z2
    clear hb1 hD
    go_wp2_with fail
    go_ret
    exact ⟨rfl, by have h1 := HB1.out; have h2 := h1.size; repeat (first | exact h1 | refine Below.alloc ?_ (by first | exact h2 | (simp; omega)) _)⟩
  · have h0 : k = 0 := by omega
    subst h0
    have hbf : b = false := by
      cases b
      · rfl
      · rcases hb.1 rfl with h | ⟨h, _⟩ | ⟨_, h, _⟩ <;> omega
    subst hbf
    rw [e, partV_3] at HLK
    clear hb hs ha hx hat e hk1
    go_enter Try.func27, Try.ntmps27
    go_wp2_with fail
    refine (HLK.out _ HAT.out).mono ?_; rintro e w1 ⟨rfl, hb1⟩
    have HB1 := Lib.hid hb1
    clear hb1
    go_wp2_with fail
    go_ret
    exact ⟨rfl, by have h1 := HB1.out; have h2 := h1.size; repeat (first | exact h1 | refine Below.alloc ?_ (by first | exact h2 | (simp; omega)) _)⟩
theorem stands_any (l : List Cl) (k : Nat) (b : Bool) (x : Value) (w : World) (hk : k < l.length) (hx : Cs w x l) (hs : Held l) (hl : l.length ≤ 1000000) (hb : b = true ↔ okAt l k) :
    Calls Try.prog 27 #[x, .int .i64 k] w fun e w' => e = .returned (.bool b) ∧ Below w.heap.size w w' := by
  have hkl := kind_le (g l k)
  rcases (by omega : kind (g l k) = 0 ∨ kind (g l k) = 1 ∨ kind (g l k) = 2 ∨ kind (g l k) = 3) with e | e | e | e
  · exact stands_0 l k b x w hk hx hs hb e
  · exact stands_1 l k b x w hk hx hs hb e
  · exact stands_2 l k b x w hk hx hs hl hb e
  · exact stands_3 l k b x w hk hx hs hl hb e

theorem rowIn_at (n lo hi : Int) (b : Bool) (hb : rng n lo hi = b) (w : World) : Calls Try.prog 26 #[.int .i64 n, .int .i64 lo, .int .i64 hi] w fun e w' => e = .returned (.bool b) ∧ w = w' := by
  subst hb; exact rowIn_any n lo hi w
set_option maxHeartbeats 1600000 in
/-- Check: no error of a row that may be, the other of what may not. -/
theorem rowCheck_any (l : List Cl) (b : Bool) (x : Value) (w : World) (hx : Cs w x l) (hs : Held l) (hl : l.length ≤ 1000000) (hb : b = true ↔ RowOk l) :
    Calls Try.prog 14 #[x] w fun e w' => e = .returned (.int .i64 (bif b then 0 else 1)) ∧ Below w.heap.size w w' := by
  have HX := Lib.hid hx
  obtain ⟨A, c, rfl, ha⟩ := hx.form
  clear ha
  by_cases hr : 1 ≤ l.length ∧ l.length ≤ 40
  · have H1 : Hid (rng (l.length : Int) 1 40 = true) := Lib.hid (by unfold rng; rw [decide_eq_true (show (1 : Int) ≤ (l.length : Int) by omega), decide_eq_true (show (l.length : Int) ≤ 40 by omega)]; rfl)
    have HS := Lib.hid hs
    have HB := Lib.hid hb
    clear hx hs hb
    go_enter Try.func14, Try.ntmps14
    go_wp2_with fail
    refine (rowIn_at _ _ _ _ H1.out _).mono ?_; rintro e w' ⟨rfl, rfl⟩
    go_wp2_with fail
    go_loopw [10] (fun i wr => ∃ k : Nat, k ≤ l.length ∧ i = .int .i64 k ∧ Hid (∀ j, j < k → okAt l j) ∧ Below w.heap.size w wr) (fun i _ => l.length - (intOf i).toNat)
    case atStart => exact ⟨0, by omega, rfl, Lib.hid fun j hj => absurd hj (by omega), Below.refl _ _⟩
    case round =>
      obtain ⟨k, hk, rfl, HG, hbl⟩ := hrel
      by_cases hlt : k < l.length
      · by_cases hok : okAt l k
        · have HOK : Hid (∀ j, j < k + 1 → okAt l j) := Lib.hid fun j hj => by
            by_cases hjk : j < k
            · exact HG.out j hjk
            · obtain rfl : j = k := by omega
              exact hok
          have HST := Lib.hid (stands_any l k true (.slice A l.length c) wr hlt (HX.out.kept hbl) HS.out hl ⟨fun _ => hok, fun _ => rfl⟩)
          clear hok
          go_wp2_with fail
          refine HST.out.mono ?_; rintro e w1 ⟨rfl, hb1⟩
          have HB1 : Hid (Below w.heap.size w w1) := Lib.hid (hbl.trans (hb1.mono hbl.size))
          clear hb1
          go_wp2_with fail
          go_roundw
          case rel => exact ⟨k + 1, by omega, by go_num, HOK, HB1.out⟩
          case measure => simp [intOf]; omega
        · have HST := Lib.hid (stands_any l k false (.slice A l.length c) wr hlt (HX.out.kept hbl) HS.out hl ⟨(fun h => by cases h), fun h => absurd h hok⟩)
          have hbf : b = false := by
            cases b
            · rfl
            · exact absurd ((HB.out.1 rfl).2.2 k hlt) hok
          subst hbf
          clear hok
          go_wp2_with fail
          refine HST.out.mono ?_; rintro e w1 ⟨rfl, hb1⟩
          have HB1 : Hid (Below w.heap.size w w1) := Lib.hid (hbl.trans (hb1.mono hbl.size))
          clear hb1
          go_wp2_with fail
          go_ret
          exact ⟨rfl, HB1.out⟩
      · have hkn : k = l.length := by omega
        subst hkn
        have hbt : b = true := HB.out.2 ⟨hr.1, hr.2, HG.out⟩
        subst hbt
        go_wp2_with fail
        go_ret
        exact ⟨rfl, hbl⟩
  · have H1 : Hid (rng (l.length : Int) 1 40 = false) := Lib.hid (by
      unfold rng
      rw [Bool.and_eq_false_iff]
      by_cases h : 1 ≤ l.length
      · exact .inr (decide_eq_false (by omega))
      · exact .inl (decide_eq_false (by omega)))
    have hbf : b = false := by
      cases b
      · rfl
      · have := hb.1 rfl; exact absurd ⟨this.1, this.2.1⟩ hr
    subst hbf
    clear hx hs hb hr
    go_enter Try.func14, Try.ntmps14
    go_wp2_with fail
    refine (rowIn_at _ _ _ _ H1.out _).mono ?_; rintro e w' ⟨rfl, rfl⟩
    go_wp2_with fail
    go_ret
    exact ⟨rfl, Below.refl _ _⟩
end Row
end Go.Proofs.Ythkfcfmnccfbnaa
