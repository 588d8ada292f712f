/- Joined texts: RowCheck, RowCut, RowLib, RowLib2. -/
import Derived.Test.YtjcfbeiljdohcaaDoorJM7
import Derived.Deep.RegionHeld
import Derived.Lib.AppendZerosOnto
import Derived.Lib.SliceRun
import Derived.Lib.Walk
import Derived.Lib.Mul64
import Derived.Laws.BitsAllLaws
import Derived.Laws.CopyOwn
namespace Go.Proofs.YtjcfbeiljdohcaaDoor
set_option maxRecDepth 100000
section
open Go.RowKit
namespace Row
open Utf Wid
theorem partV_1 (p : Addr) : partV 1 p = .iface 165 (.agg #[.pointer (some p)]) := rfl
theorem partV_2 (p : Addr) : partV 2 p = .iface 161 (.agg #[.pointer (some p)]) := rfl
theorem partV_3 (p : Addr) : partV 3 p = .iface 163 (.agg #[.pointer (some p)]) := rfl
theorem partV_0 (p : Addr) : partV 0 p = .iface 170 (.agg #[]) := rfl
def secOf (d : Cl) (a : Look) : Bool := decide (d.rune = 0) && (decide (d.comb = []) && (decide (d.wide = 2) && (decide (d.a.fg = a.fg) && (decide (d.a.bg = a.bg) && decide (d.a.flags = a.flags)))))
theorem secOf_iff (d : Cl) (a : Look) : secOf d a = true ↔ d = sec a := by
  obtain ⟨r, m, x, ⟨f1, f2, f3⟩⟩ := d
  obtain ⟨g1, g2, g3⟩ := a
  simp [secOf, sec]
theorem eql_secOf (d : Cl) (a : Look) (w : World) : (binOp .eql 63 (cagg d) (cagg (sec a))).run Tryd.prog w = .ok (.bool (secOf d a)) w := by
  obtain ⟨r, cb, x, ⟨f1, f2, f3⟩⟩ := d
  obtain ⟨g1, g2, g3⟩ := a
  have hs : secOf ⟨r, cb, x, ⟨f1, f2, f3⟩⟩ ⟨g1, g2, g3⟩ = (decide (r = 0) && (decide (cb = []) && (decide (x = 2) && (decide (f1 = g1) && (decide (f2 = g2) && decide (f3 = g3)))))) := rfl
  rw [hs]
  by_cases h1 : r = 0
  · by_cases h2 : cb = []
    · by_cases h3 : x = 2
      · by_cases h4 : f1 = g1
        · by_cases h5 : f2 = g2
          · by_cases h6 : f3 = g3
            · simp [cagg, sec, go_sem, h1, h2, h3, h4, h5, h6]
            · simp [cagg, sec, go_sem, h1, h2, h3, h4, h5, h6]
          · simp [cagg, sec, go_sem, h1, h2, h3, h4, h5]
        · simp [cagg, sec, go_sem, h1, h2, h3, h4]
      · simp [cagg, sec, go_sem, h1, h2, h3]
    · simp [cagg, sec, go_sem, h1, h2]
  · simp [cagg, sec, go_sem, h1]
def Held (l : List Cl) : Prop := ∀ i, i < l.length → (g l i).comb.length ≤ 1152921504606846976
set_option maxHeartbeats 1600000 in
theorem stands_0 (l : List Cl) (k : Nat) (b : Bool) (x : Value) (w : World) (hk : k < l.length) (hx : Cs w x l) (hs : Held l) (hb : b = true ↔ okAt l k) (e : kind (g l k) = 0) :
    Calls Tryd.prog 85 #[x, .int .i64 k] w fun e w' => e = .returned (.bool b) ∧ Below w.heap.size w w' := by
  obtain ⟨A, c, rfl, ha⟩ := hx.form
  obtain ⟨ad, rfl, hat⟩ := ha k hk
  have HLK := Lib.hid (fun w' (h : At w' (ad.add (k * 6)) (cvals (g l k))) => look_any (g l k) (ad.add (k * 6)) w' h (hs k hk))
  have HAT := Lib.hid hat
  have hbf : b = false := by
    cases b
    · rfl
    · exact absurd e (okAt_kind (hb.1 rfl))
  subst hbf
  rw [e, partV_0] at HLK
  clear hb hs ha hx hat e
  go_enter Tryd.func85, Tryd.ntmps85
  go_wp2_with fail
  refine (HLK.out _ HAT.out).mono ?_; rintro e w1 ⟨rfl, hb1⟩
  have HB1 := Lib.hid hb1
  clear hb1
  go_wp2_with fail
  go_ret
  exact ⟨rfl, by have h1 := HB1.out; have h2 := h1.size; repeat (first | exact h1 | refine Below.alloc ?_ (by first | exact h2 | (simp; omega)) _)⟩
set_option maxHeartbeats 1600000 in
theorem stands_1 (l : List Cl) (k : Nat) (b : Bool) (x : Value) (w : World) (hk : k < l.length) (hx : Cs w x l) (hs : Held l) (hb : b = true ↔ okAt l k) (e : kind (g l k) = 1) :
    Calls Tryd.prog 85 #[x, .int .i64 k] w fun e w' => e = .returned (.bool b) ∧ Below w.heap.size w w' := by
  obtain ⟨A, c, rfl, ha⟩ := hx.form
  obtain ⟨ad, rfl, hat⟩ := ha k hk
  have HLK := Lib.hid (fun w' (h : At w' (ad.add (k * 6)) (cvals (g l k))) => look_any (g l k) (ad.add (k * 6)) w' h (hs k hk))
  have HAT := Lib.hid hat
  have hbt : b = true := hb.2 (.inl e)
  subst hbt
  rw [e, partV_1] at HLK
  clear hb hs ha hx hat e
  go_enter Tryd.func85, Tryd.ntmps85
  go_wp2_with fail
  refine (HLK.out _ HAT.out).mono ?_; rintro e w1 ⟨rfl, hb1⟩
  have HB1 := Lib.hid hb1
  clear hb1
  go_wp2_with fail
  go_ret
  exact ⟨rfl, by have h1 := HB1.out; have h2 := h1.size; repeat (first | exact h1 | refine Below.alloc ?_ (by first | exact h2 | (simp; omega)) _)⟩
set_option maxHeartbeats 1600000 in
theorem stands_2 (l : List Cl) (k : Nat) (b : Bool) (x : Value) (w : World) (hk : k < l.length) (hx : Cs w x l) (hs : Held l) (hl : l.length ≤ 1000000) (hb : b = true ↔ okAt l k) (e : kind (g l k) = 2) :
    Calls Tryd.prog 85 #[x, .int .i64 k] w fun e w' => e = .returned (.bool b) ∧ Below w.heap.size w w' := by
  obtain ⟨A, c, rfl, ha⟩ := hx.form
  obtain ⟨ad, rfl, hat⟩ := ha k hk
  have HLK := Lib.hid (fun w' (h : At w' (ad.add (k * 6)) (cvals (g l k))) => look_any (g l k) (ad.add (k * 6)) w' h (hs k hk))
  have HAT := Lib.hid hat
  by_cases hk1 : k + 1 < l.length
  · have hbb : b = secOf (g l (k + 1)) (g l k).a := by
      have : b = true ↔ secOf (g l (k + 1)) (g l k).a = true := by
        rw [hb, secOf_iff]
        constructor
        · rintro (h | ⟨_, _, h⟩ | ⟨h, _⟩)
          · omega
          · exact h
          · omega
        · intro h; exact .inr (.inl ⟨e, hk1, h⟩)
      cases b <;> cases hq : secOf (g l (k + 1)) (g l k).a <;> simp_all
    have heq := eql_secOf (g l (k + 1)) (g l k).a
    have HSC := Lib.hid (fun w' => sec_any (g l k).a w')
    obtain ⟨k1, hk1e⟩ : ∃ k1, k1 = k + 1 := ⟨_, rfl⟩
    rw [← hk1e] at hk1 hbb heq
    obtain ⟨ad', e2, hat2⟩ := ha k1 hk1
    injection e2 with e2
    subst e2
    have HAT2 := Lib.hid hat2
    rw [← hbb] at heq
    rw [e, partV_2] at HLK
    clear hb hs ha hx hat hat2 e hbb
    generalize g l k1 = d at heq HAT2
    generalize g l k = f at heq HAT HLK HSC
    obtain ⟨dr, dc, dw, ⟨d1, d2, d3⟩⟩ := d
    obtain ⟨fr, fc, fw, ⟨f1, f2, f3⟩⟩ := f
    simp only [cagg, sec] at heq
    have hwrap : IntKind.i64.wrap ((k : Int) + 1) = (k1 : Int) := by rw [IntKind.wrap_i64]; omega
    clear hk1e
    go_enter Tryd.func85, Tryd.ntmps85
    go_wp2_with fail
    refine (HLK.out _ HAT.out).mono ?_; rintro e w1 ⟨rfl, hb1⟩
    have HB1 := Lib.hid hb1
    clear hb1
    go_wp2_with fail
    have hb2 : Below w.heap.size w (w1.alloc (.cells #[.pointer (some (ad.add (k * 6)))] 161)) := HB1.out.alloc HB1.out.size _
    have hA := HAT.out.kept hb2
    have hD := HAT2.out.kept hb2
    have p0 : (w1.alloc (.cells #[.pointer (some (ad.add (k * 6)))] 161)).cell? ⟨w1.heap.size, 0, none⟩ = some (.pointer (some (ad.add (k * 6)))) := Blk.cell (heap_alloc_new _ _) 0
    have y0 := cell_regrown p0
    have y3 := cell_regrown (hA.next 2 rfl)
    have y4 := cell_regrown (hA.next 3 rfl)
    have y5 := cell_regrown (hA.next 4 rfl)
    have z0 := cell_regrown hD.head
    have z1 := cell_regrown (hD.next 0 rfl)
    have z2 := cell_regrown (hD.next 1 rfl)
    have z3 := cell_regrown (hD.next 2 rfl)
    have z4 := cell_regrown (hD.next 3 rfl)
    have z5 := cell_regrown (hD.next 4 rfl)
    clear hA hD p0
    have BC : Hid (∀ d os, Below w.heap.size w (Go.Sort.grow (redrawn (w1.alloc (.cells #[.pointer (some (ad.add (k * 6)))] 161)) d) os)) := Lib.hid fun d os => hb2.trans ((below_regrown _ d os).mono hb2.size)
    clear hb2
    have cS : ∀ d os, Calls Tryd.prog 90 #[.agg #[.int .i64 f1, .int .i64 f2, .int .i64 f3]] (Go.Sort.grow (redrawn (w1.alloc (.cells #[.pointer (some (ad.add (k * 6)))] 161)) d) os) fun e w'' => e = .returned (.agg #[.int .i64 0, .string ⟨#[]⟩, .int .i64 2, .int .i64 f1, .int .i64 f2, .int .i64 f3]) ∧ ∃ p : Regrown, w'' = Go.Sort.grow (redrawn (w1.alloc (.cells #[.pointer (some (ad.add (k * 6)))] 161)) p.d) p.os := fun d os => Calls.regrown_of (HSC.out _)
    generalize w1.alloc (.cells #[.pointer (some (ad.add (k * 6)))] 161) = wa at y0 y3 y4 y5 z0 z1 z2 z3 z4 z5 BC cS ⊢
    refine wp_region_quiet_below (by kernel_rfl) (by kernel_rfl) ?_
    repeat (quiet_step (exact cS _ _))
    refine wpQuiet_nil ?_
    intro _ hw'
    obtain ⟨⟨dq, osq⟩, hw''⟩ := hw'
    subst hw''
    have HB4 := Lib.hid (BC.out dq osq)
    clear heq y0 y3 y4 y5 z0 z1 z2 z3 z4 z5 cS BC
    generalize Go.Sort.grow (redrawn wa dq) osq = w4 at HB4 ⊢
    go_wp2_with fail
    go_ret
    exact ⟨rfl, HB4.out⟩
  · have hbf : b = false := by
      cases b
      · rfl
      · rcases hb.1 rfl with h | ⟨_, h, _⟩ | ⟨h, _⟩
        · omega
        · exact absurd h hk1
        · omega
    subst hbf
    obtain ⟨k1, hk1e⟩ : ∃ k1, k1 = k + 1 := ⟨_, rfl⟩
    have hd : decide (k1 < l.length) = false := decide_eq_false (by omega)
    rw [e, partV_2] at HLK
    have hwrap : IntKind.i64.wrap ((k : Int) + 1) = (k1 : Int) := by rw [IntKind.wrap_i64]; omega
    clear hb hs ha hx hat e hk1 hk1e
    go_enter Tryd.func85, Tryd.ntmps85
    go_wp2_with fail
    refine (HLK.out _ HAT.out).mono ?_; rintro e w1 ⟨rfl, hb1⟩
    have HB1 := Lib.hid hb1
    clear hb1
    go_wp2_with fail
    go_quiet (fail)
    go_wp2_with fail
    go_ret
    exact ⟨rfl, by have h1 := HB1.out; have h2 := h1.size; refine below_drewN ?_ _; repeat (first | exact h1 | refine Below.alloc ?_ (by first | exact h2 | (simp; omega)) _)⟩
set_option maxHeartbeats 1600000 in
theorem stands_3 (l : List Cl) (k : Nat) (b : Bool) (x : Value) (w : World) (hk : k < l.length) (hx : Cs w x l) (hs : Held l) (hl : l.length ≤ 1000000) (hb : b = true ↔ okAt l k) (e : kind (g l k) = 3) :
    Calls Tryd.prog 85 #[x, .int .i64 k] w fun e w' => e = .returned (.bool b) ∧ Below w.heap.size w w' := by
  obtain ⟨A, c, rfl, ha⟩ := hx.form
  obtain ⟨ad, rfl, hat⟩ := ha k hk
  have HLK := Lib.hid (fun w' (h : At w' (ad.add (k * 6)) (cvals (g l k))) => look_any (g l k) (ad.add (k * 6)) w' h (hs k hk))
  have HAT := Lib.hid hat
  by_cases hk1 : 0 < k
  · obtain ⟨j, hj⟩ : ∃ j, j = k - 1 := ⟨_, rfl⟩
    have hbb : b = decide ((g l j).wide = 1) := by
      have : b = true ↔ (g l j).wide = 1 := by
        rw [hb, hj]
        constructor
        · rintro (h | ⟨h, _⟩ | ⟨_, _, h⟩)
          · omega
          · omega
          · exact h
        · intro h; exact .inr (.inr ⟨e, hk1, h⟩)
      cases b
      · exact (decide_eq_false fun h => by have := this.2 h; cases this).symm
      · exact (decide_eq_true (this.1 rfl)).symm
    obtain ⟨ad', e2, hat2⟩ := ha j (by omega)
    injection e2 with e2
    subst e2
    have HAT2 := Lib.hid hat2
    have hbb2 : ((g l j).wide == 1) = b := by rw [hbb]; exact Bool.beq_eq_decide_eq _ _
    rw [e, partV_3] at HLK
    clear hb hs ha hx hat hat2 e hbb
    generalize g l j = d at hbb2 HAT2
    obtain ⟨dr, dc, dw, ⟨d1, d2, d3⟩⟩ := d
    have hwrap : IntKind.i64.wrap ((k : Int) - 1) = (j : Int) := by rw [IntKind.wrap_i64]; omega
    have hjl : j < l.length := by omega
    clear hj
    go_enter Tryd.func85, Tryd.ntmps85
    go_wp2_with fail
    refine (HLK.out _ HAT.out).mono ?_; rintro e w1 ⟨rfl, hb1⟩
    have HB1 := Lib.hid hb1
    have hD := HAT2.out.kept hb1
    have z2 := hD.next 1 rfl
    have zlt := World.block_lt_of_cell? w1 _ z2
    clear hb1 hD
    go_wp2_with fail
    go_ret
    exact ⟨rfl, by have h1 := HB1.out; have h2 := h1.size; repeat (first | exact h1 | refine Below.alloc ?_ (by first | exact h2 | (simp; omega)) _)⟩
  · have h0 : k = 0 := by omega
    subst h0
    have hbf : b = false := by
      cases b
      · rfl
      · rcases hb.1 rfl with h | ⟨h, _⟩ | ⟨_, h, _⟩ <;> omega
    subst hbf
    rw [e, partV_3] at HLK
    clear hb hs ha hx hat e hk1
    go_enter Tryd.func85, Tryd.ntmps85
    go_wp2_with fail
    refine (HLK.out _ HAT.out).mono ?_; rintro e w1 ⟨rfl, hb1⟩
    have HB1 := Lib.hid hb1
    clear hb1
    go_wp2_with fail
    go_ret
    exact ⟨rfl, by have h1 := HB1.out; have h2 := h1.size; repeat (first | exact h1 | refine Below.alloc ?_ (by first | exact h2 | (simp; omega)) _)⟩
theorem stands_any (l : List Cl) (k : Nat) (b : Bool) (x : Value) (w : World) (hk : k < l.length) (hx : Cs w x l) (hs : Held l) (hl : l.length ≤ 1000000) (hb : b = true ↔ okAt l k) :
    Calls Tryd.prog 85 #[x, .int .i64 k] w fun e w' => e = .returned (.bool b) ∧ Below w.heap.size w w' := by
  have hkl := kind_le (g l k)
  rcases (by omega : kind (g l k) = 0 ∨ kind (g l k) = 1 ∨ kind (g l k) = 2 ∨ kind (g l k) = 3) with e | e | e | e
  · exact stands_0 l k b x w hk hx hs hb e
  · exact stands_1 l k b x w hk hx hs hb e
  · exact stands_2 l k b x w hk hx hs hl hb e
  · exact stands_3 l k b x w hk hx hs hl hb e
theorem rowIn_at (n lo hi : Int) (b : Bool) (hb : rng n lo hi = b) (w : World) : Calls Tryd.prog 84 #[.int .i64 n, .int .i64 lo, .int .i64 hi] w fun e w' => e = .returned (.bool b) ∧ w = w' := by
  subst hb; exact rowIn_any n lo hi w
set_option maxHeartbeats 1600000 in
theorem rowCheck_any (l : List Cl) (b : Bool) (x : Value) (w : World) (hx : Cs w x l) (hs : Held l) (hl : l.length ≤ 1000000) (hb : b = true ↔ RowOk l) :
    Calls Tryd.prog 76 #[x] w fun e w' => e = .returned (.int .i64 (bif b then 0 else 1)) ∧ Below w.heap.size w w' := by
  have HX := Lib.hid hx
  obtain ⟨A, c, rfl, ha⟩ := hx.form
  clear ha
  by_cases hr : 1 ≤ l.length ∧ l.length ≤ 40
  · have H1 : Hid (rng (l.length : Int) 1 40 = true) := Lib.hid (by unfold rng; rw [decide_eq_true (show (1 : Int) ≤ (l.length : Int) by omega), decide_eq_true (show (l.length : Int) ≤ 40 by omega)]; rfl)
    have HS := Lib.hid hs
    have HB := Lib.hid hb
    clear hx hs hb
    go_enter Tryd.func76, Tryd.ntmps76
    go_wp2_with fail
    refine (rowIn_at _ _ _ _ H1.out _).mono ?_; rintro e w' ⟨rfl, rfl⟩
    go_wp2_with fail
    go_loopw [10] (fun i wr => ∃ k : Nat, k ≤ l.length ∧ i = .int .i64 k ∧ Hid (∀ j, j < k → okAt l j) ∧ Below w.heap.size w wr) (fun i _ => l.length - (intOf i).toNat)
    case atStart => exact ⟨0, by omega, rfl, Lib.hid fun j hj => absurd hj (by omega), Below.refl _ _⟩
    case round =>
      obtain ⟨k, hk, rfl, HG, hbl⟩ := hrel
      by_cases hlt : k < l.length
      · by_cases hok : okAt l k
        · have HOK : Hid (∀ j, j < k + 1 → okAt l j) := Lib.hid fun j hj => by
            by_cases hjk : j < k
            · exact HG.out j hjk
            · obtain rfl : j = k := by omega
              exact hok
          have HST := Lib.hid (stands_any l k true (.slice A l.length c) wr hlt (HX.out.kept hbl) HS.out hl ⟨fun _ => hok, fun _ => rfl⟩)
          clear hok
          go_wp2_with fail
          refine HST.out.mono ?_; rintro e w1 ⟨rfl, hb1⟩
          have HB1 : Hid (Below w.heap.size w w1) := Lib.hid (hbl.trans (hb1.mono hbl.size))
          clear hb1
          go_wp2_with fail
          go_roundw
          case rel => exact ⟨k + 1, by omega, by go_num, HOK, HB1.out⟩
          case measure => simp [intOf]; omega
        · have HST := Lib.hid (stands_any l k false (.slice A l.length c) wr hlt (HX.out.kept hbl) HS.out hl ⟨(fun h => by cases h), fun h => absurd h hok⟩)
          have hbf : b = false := by
            cases b
            · rfl
            · exact absurd ((HB.out.1 rfl).2.2 k hlt) hok
          subst hbf
          clear hok
          go_wp2_with fail
          refine HST.out.mono ?_; rintro e w1 ⟨rfl, hb1⟩
          have HB1 : Hid (Below w.heap.size w w1) := Lib.hid (hbl.trans (hb1.mono hbl.size))
          clear hb1
          go_wp2_with fail
          go_ret
          exact ⟨rfl, HB1.out⟩
      · have hkn : k = l.length := by omega
        subst hkn
        have hbt : b = true := HB.out.2 ⟨hr.1, hr.2, HG.out⟩
        subst hbt
        go_wp2_with fail
        go_ret
        exact ⟨rfl, hbl⟩
  · have H1 : Hid (rng (l.length : Int) 1 40 = false) := Lib.hid (by
      unfold rng
      rw [Bool.and_eq_false_iff]
      by_cases h : 1 ≤ l.length
      · exact .inr (decide_eq_false (by omega))
      · exact .inl (decide_eq_false (by omega)))
    have hbf : b = false := by
      cases b
      · rfl
      · have := hb.1 rfl; exact absurd ⟨this.1, this.2.1⟩ hr
    subst hbf
    clear hx hs hb hr
    go_enter Tryd.func76, Tryd.ntmps76
    go_wp2_with fail
    refine (rowIn_at _ _ _ _ H1.out _).mono ?_; rintro e w' ⟨rfl, rfl⟩
    go_wp2_with fail
    go_ret
    exact ⟨rfl, Below.refl _ _⟩
end Row
end
section
open Go.RowKit
namespace Row
open Utf Wid
theorem addr_at (b k : Nat) : ((⟨b, 0, none⟩ : Addr).add (k * 6)) = ⟨b, k * 6, none⟩ := by
  unfold Addr.add
  split
  · rename_i h; rw [h]
  · simp
theorem OwnCs.at {w : World} {base b n cap : Nat} {l : List Cl} (h : OwnCs w base (.slice (some ⟨b, 0, none⟩) n cap) l) {k : Nat} (hk : k < l.length) : At w ⟨b, k * 6, none⟩ (cvals (g l k)) := by
  intro j u hu
  have hj : j < 6 := (List.getElem?_eq_some_iff.1 hu).1
  have e : (⟨b, k * 6, none⟩ : Addr).add j = ⟨b, k * 6 + j, none⟩ := by
    unfold Addr.add
    split
    · rename_i h; rw [h]; rfl
    · rfl
  rw [e, h.cell hk hj]; exact hu
theorem first_facts {w : World} {base b n cap j : Nat} {l : List Cl} {r x a1 a2 a3 : Int} {c : List UInt8} (h : OwnCs w base (.slice (some ⟨b, 0, none⟩) n cap) l) (hj : j < l.length) (hg : g l j = ⟨r, c, x, ⟨a1, a2, a3⟩⟩) :
    w.cell? ⟨b, j * 6, none⟩ = some (.int .i64 r) ∧
    w.cell? ⟨b, j * 6 + 1, none⟩ = some (.string ⟨c.toArray⟩) ∧
    w.cell? ⟨b, j * 6 + 2, none⟩ = some (.int .i64 x) ∧
    w.cell? ⟨b, j * 6 + 3, none⟩ = some (.int .i64 a1) ∧
    w.cell? ⟨b, j * 6 + 4, none⟩ = some (.int .i64 a2) ∧
    w.cell? ⟨b, j * 6 + 5, none⟩ = some (.int .i64 a3) ∧
    w.frozen? ⟨b, j * 6, none⟩ = false ∧
    w.frozen? ⟨b, j * 6 + 1, none⟩ = false ∧
    w.frozen? ⟨b, j * 6 + 2, none⟩ = false ∧
    w.frozen? ⟨b, j * 6 + 3, none⟩ = false ∧
    w.frozen? ⟨b, j * 6 + 4, none⟩ = false ∧
    w.frozen? ⟨b, j * 6 + 5, none⟩ = false := by
  have e : ∀ i, i < 6 → w.cell? ⟨b, j * 6 + i, none⟩ = (cvals ⟨r, c, x, ⟨a1, a2, a3⟩⟩)[i]? := fun i hi => by rw [h.cell hj hi, hg]
  exact ⟨e 0 (by decide), e 1 (by decide), e 2 (by decide), e 3 (by decide), e 4 (by decide), e 5 (by decide), h.free _, h.free _, h.free _, h.free _, h.free _, h.free _⟩
theorem second_facts {w : World} {base b n cap j k : Nat} {l : List Cl} {jb r x a1 a2 a3 : Int} {c : List UInt8} (h : OwnCs (putCell w b j ⟨32, [], 0, ⟨-1, jb, 0⟩⟩) base (.slice (some ⟨b, 0, none⟩) n cap) l) (hk : k < l.length) (hg : g l k = ⟨r, c, x, ⟨a1, a2, a3⟩⟩) :
    ((((((w.setCell ⟨b, j * 6, none⟩ (.int .i64 32)).setCell ⟨b, j * 6 + 1, none⟩ (.string ⟨#[]⟩)).setCell ⟨b, j * 6 + 2, none⟩ (.int .i64 0)).setCell ⟨b, j * 6 + 3, none⟩ (.int .i64 (-1))).setCell ⟨b, j * 6 + 4, none⟩ (.int .i64 jb)).setCell ⟨b, j * 6 + 5, none⟩ (.int .i64 0)).cell? ⟨b, k * 6, none⟩ = some (.int .i64 r) ∧
    ((((((w.setCell ⟨b, j * 6, none⟩ (.int .i64 32)).setCell ⟨b, j * 6 + 1, none⟩ (.string ⟨#[]⟩)).setCell ⟨b, j * 6 + 2, none⟩ (.int .i64 0)).setCell ⟨b, j * 6 + 3, none⟩ (.int .i64 (-1))).setCell ⟨b, j * 6 + 4, none⟩ (.int .i64 jb)).setCell ⟨b, j * 6 + 5, none⟩ (.int .i64 0)).cell? ⟨b, k * 6 + 1, none⟩ = some (.string ⟨c.toArray⟩) ∧
    ((((((w.setCell ⟨b, j * 6, none⟩ (.int .i64 32)).setCell ⟨b, j * 6 + 1, none⟩ (.string ⟨#[]⟩)).setCell ⟨b, j * 6 + 2, none⟩ (.int .i64 0)).setCell ⟨b, j * 6 + 3, none⟩ (.int .i64 (-1))).setCell ⟨b, j * 6 + 4, none⟩ (.int .i64 jb)).setCell ⟨b, j * 6 + 5, none⟩ (.int .i64 0)).cell? ⟨b, k * 6 + 2, none⟩ = some (.int .i64 x) ∧
    ((((((w.setCell ⟨b, j * 6, none⟩ (.int .i64 32)).setCell ⟨b, j * 6 + 1, none⟩ (.string ⟨#[]⟩)).setCell ⟨b, j * 6 + 2, none⟩ (.int .i64 0)).setCell ⟨b, j * 6 + 3, none⟩ (.int .i64 (-1))).setCell ⟨b, j * 6 + 4, none⟩ (.int .i64 jb)).setCell ⟨b, j * 6 + 5, none⟩ (.int .i64 0)).cell? ⟨b, k * 6 + 3, none⟩ = some (.int .i64 a1) ∧
    ((((((w.setCell ⟨b, j * 6, none⟩ (.int .i64 32)).setCell ⟨b, j * 6 + 1, none⟩ (.string ⟨#[]⟩)).setCell ⟨b, j * 6 + 2, none⟩ (.int .i64 0)).setCell ⟨b, j * 6 + 3, none⟩ (.int .i64 (-1))).setCell ⟨b, j * 6 + 4, none⟩ (.int .i64 jb)).setCell ⟨b, j * 6 + 5, none⟩ (.int .i64 0)).cell? ⟨b, k * 6 + 4, none⟩ = some (.int .i64 a2) ∧
    ((((((w.setCell ⟨b, j * 6, none⟩ (.int .i64 32)).setCell ⟨b, j * 6 + 1, none⟩ (.string ⟨#[]⟩)).setCell ⟨b, j * 6 + 2, none⟩ (.int .i64 0)).setCell ⟨b, j * 6 + 3, none⟩ (.int .i64 (-1))).setCell ⟨b, j * 6 + 4, none⟩ (.int .i64 jb)).setCell ⟨b, j * 6 + 5, none⟩ (.int .i64 0)).cell? ⟨b, k * 6 + 5, none⟩ = some (.int .i64 a3) ∧
    ((((((w.setCell ⟨b, j * 6, none⟩ (.int .i64 32)).setCell ⟨b, j * 6 + 1, none⟩ (.string ⟨#[]⟩)).setCell ⟨b, j * 6 + 2, none⟩ (.int .i64 0)).setCell ⟨b, j * 6 + 3, none⟩ (.int .i64 (-1))).setCell ⟨b, j * 6 + 4, none⟩ (.int .i64 jb)).setCell ⟨b, j * 6 + 5, none⟩ (.int .i64 0)).frozen? ⟨b, k * 6, none⟩ = false ∧
    ((((((w.setCell ⟨b, j * 6, none⟩ (.int .i64 32)).setCell ⟨b, j * 6 + 1, none⟩ (.string ⟨#[]⟩)).setCell ⟨b, j * 6 + 2, none⟩ (.int .i64 0)).setCell ⟨b, j * 6 + 3, none⟩ (.int .i64 (-1))).setCell ⟨b, j * 6 + 4, none⟩ (.int .i64 jb)).setCell ⟨b, j * 6 + 5, none⟩ (.int .i64 0)).frozen? ⟨b, k * 6 + 1, none⟩ = false ∧
    ((((((w.setCell ⟨b, j * 6, none⟩ (.int .i64 32)).setCell ⟨b, j * 6 + 1, none⟩ (.string ⟨#[]⟩)).setCell ⟨b, j * 6 + 2, none⟩ (.int .i64 0)).setCell ⟨b, j * 6 + 3, none⟩ (.int .i64 (-1))).setCell ⟨b, j * 6 + 4, none⟩ (.int .i64 jb)).setCell ⟨b, j * 6 + 5, none⟩ (.int .i64 0)).frozen? ⟨b, k * 6 + 2, none⟩ = false ∧
    ((((((w.setCell ⟨b, j * 6, none⟩ (.int .i64 32)).setCell ⟨b, j * 6 + 1, none⟩ (.string ⟨#[]⟩)).setCell ⟨b, j * 6 + 2, none⟩ (.int .i64 0)).setCell ⟨b, j * 6 + 3, none⟩ (.int .i64 (-1))).setCell ⟨b, j * 6 + 4, none⟩ (.int .i64 jb)).setCell ⟨b, j * 6 + 5, none⟩ (.int .i64 0)).frozen? ⟨b, k * 6 + 3, none⟩ = false ∧
    ((((((w.setCell ⟨b, j * 6, none⟩ (.int .i64 32)).setCell ⟨b, j * 6 + 1, none⟩ (.string ⟨#[]⟩)).setCell ⟨b, j * 6 + 2, none⟩ (.int .i64 0)).setCell ⟨b, j * 6 + 3, none⟩ (.int .i64 (-1))).setCell ⟨b, j * 6 + 4, none⟩ (.int .i64 jb)).setCell ⟨b, j * 6 + 5, none⟩ (.int .i64 0)).frozen? ⟨b, k * 6 + 4, none⟩ = false ∧
    ((((((w.setCell ⟨b, j * 6, none⟩ (.int .i64 32)).setCell ⟨b, j * 6 + 1, none⟩ (.string ⟨#[]⟩)).setCell ⟨b, j * 6 + 2, none⟩ (.int .i64 0)).setCell ⟨b, j * 6 + 3, none⟩ (.int .i64 (-1))).setCell ⟨b, j * 6 + 4, none⟩ (.int .i64 jb)).setCell ⟨b, j * 6 + 5, none⟩ (.int .i64 0)).frozen? ⟨b, k * 6 + 5, none⟩ = false :=
  first_facts h hk hg
theorem put_far {w : World} {b p : Nat} (h : b ≠ p) (k : Nat) (c : Cl) (o : Nat) : (putCell w b k c).cell? ⟨p, o, none⟩ = w.cell? ⟨p, o, none⟩ := by
  unfold putCell
  rw [World.cell?_setCell_far _ _ _ _ h, World.cell?_setCell_far _ _ _ _ h, World.cell?_setCell_far _ _ _ _ h, World.cell?_setCell_far _ _ _ _ h, World.cell?_setCell_far _ _ _ _ h, World.cell?_setCell_far _ _ _ _ h]
theorem far_1 {w : World} {b p j o : Nat} {jb : Int} {v : Value} (h : b ≠ p) (hc : w.cell? ⟨p, o, none⟩ = some v) :
    ((((((w.setCell ⟨b, j * 6, none⟩ (.int .i64 32)).setCell ⟨b, j * 6 + 1, none⟩ (.string ⟨#[]⟩)).setCell ⟨b, j * 6 + 2, none⟩ (.int .i64 0)).setCell ⟨b, j * 6 + 3, none⟩ (.int .i64 (-1))).setCell ⟨b, j * 6 + 4, none⟩ (.int .i64 jb)).setCell ⟨b, j * 6 + 5, none⟩ (.int .i64 0)).cell? ⟨p, o, none⟩ = some v := (put_far h j ⟨32, [], 0, ⟨-1, jb, 0⟩⟩ o).trans hc
theorem far_2 {w : World} {b p j k o : Nat} {jb kb : Int} {v : Value} (h : b ≠ p) (hc : w.cell? ⟨p, o, none⟩ = some v) :
    ((((((((((((w.setCell ⟨b, j * 6, none⟩ (.int .i64 32)).setCell ⟨b, j * 6 + 1, none⟩ (.string ⟨#[]⟩)).setCell ⟨b, j * 6 + 2, none⟩ (.int .i64 0)).setCell ⟨b, j * 6 + 3, none⟩ (.int .i64 (-1))).setCell ⟨b, j * 6 + 4, none⟩ (.int .i64 jb)).setCell ⟨b, j * 6 + 5, none⟩ (.int .i64 0)).setCell ⟨b, k * 6, none⟩ (.int .i64 32)).setCell ⟨b, k * 6 + 1, none⟩ (.string ⟨#[]⟩)).setCell ⟨b, k * 6 + 2, none⟩ (.int .i64 0)).setCell ⟨b, k * 6 + 3, none⟩ (.int .i64 (-1))).setCell ⟨b, k * 6 + 4, none⟩ (.int .i64 kb)).setCell ⟨b, k * 6 + 5, none⟩ (.int .i64 0)).cell? ⟨p, o, none⟩ = some v := (put_far h k ⟨32, [], 0, ⟨-1, kb, 0⟩⟩ o).trans (far_1 h hc)
end Row
end
section
open Go.RowKit
namespace Row
@[go_sem] theorem eql_nil (w : World) (a : Option Addr) (n c n' c' : Nat) : (binOp .eql 28 (.slice a n c) (.slice none n' c')).run Tryd.prog w = .ok (.bool a.isNone) w := Lib.run_eql_slice_nil w _ _ a n c n' c' Tryd.underlying28
end Row
end
section
open Go.RowKit
namespace Row
set_option maxHeartbeats 1600000 in
theorem mul64_one (n : Nat) (hn : n ≤ 1000000) (w : World) :
    Calls Tryd.prog 61 #[.int .u64 1, .int .u64 n] w fun e w' => e = .returned (.tuple #[.int .u64 0, .int .u64 n]) ∧ w = w' := by
  have h1 : bits .and .u64 1 4294967295 = 1 := by decide
  have h0 : bits .and .u64 0 4294967295 = 0 := by decide
  have h2 : bits .and .u64 (n : Int) 4294967295 = n := by
    have := u64_and_nat n 4294967295 (by omega) (by omega)
    rw [show ((4294967295 : Nat) : Int) = 4294967295 from rfl] at this
    rw [this]
    congr 1
    rw [show (4294967295 : Nat) = 2 ^ 32 - 1 from rfl, Nat.and_two_pow_sub_one_eq_mod]
    exact Nat.mod_eq_of_lt (by omega)
  have hq : (n : Int) / 4294967296 = 0 := by omega
  go_enter Tryd.func61, Tryd.ntmps61
  go_wp2_with fail
  go_ret2
  exact ⟨rfl, rfl⟩
theorem mul_one (n : Nat) (hn : n ≤ 1000000) (w : World) :
    Calls Tryd.prog 48 #[.int .u64 1, .int .u64 n] w fun e w' => e = .returned (.tuple #[.int .u64 0, .int .u64 n]) ∧ w = w' := by
  go_enter Tryd.func48, Tryd.ntmps48
  go_wp2_with fail
  refine (mul64_one n hn _).mono ?_; rintro e w' ⟨rfl, rfl⟩
  go_wp2_with fail
  go_ret2
  exact ⟨rfl, rfl⟩
theorem run_copy_wide {P : Program} (w : World) (dT sT ty elem : TypeId) (g o dLen dCap : Nat) (a : Addr) (sLen sCap : Nat) (cur : Array Value) (t : TypeId) (cs : List Value) (sz m : Nat)
    (hu : P.underlying dT = some (.slice elem)) (hs : (P.info? elem).map (·.size) = some sz)
    (hg : w.heap[g]? = some (.cells cur t (0, 0))) (hm : m = Nat.min sLen dLen) (hn : cs.length = m * sz)
    (hsrc : ∀ j v, cs[j]? = some v → w.cell? (a.add j) = some v) (hfit : o + cs.length ≤ cur.size) (h1 : ∀ v ∈ cs, v.oneCell' = true) :
    (Builtin.copy_ #[dT, sT] ty #[.slice (some ⟨g, o, none⟩) dLen dCap, .slice (some a) sLen sCap]).run P w =
      .ok (goInt m) (w.setRow g (cur.toList.take o ++ cs ++ cur.toList.drop (o + cs.length)).toArray) := by
  have hl := run_loadCells_list (P := P) w a cs hsrc
  have hst := run_storeCells_at P g o t cs 0 cur w hg (by simpa using hfit) h1
  cases hq : P.info? elem with
  | none => simp [hq] at hs
  | some i =>
    have hi : i.size = sz := by simpa [hq] using hs
    simp [Builtin.copy_, run_underlying hu, Builtin.lenOf, Builtin.firstCells, sizeOf, typeInfo, hq, hi, ← hm, ← hn, hl, hst]
theorem run_grow {w : World} {n : Nat} {ty : TypeId} (h0 : 0 < n) (hn : n ≤ 1000000) :
    ∃ cap w', (Builtin.append_ #[28, 3] ty #[.slice none 0 0, .int .i64 n]).run Tryd.prog w = .ok (.slice (some ⟨w.heap.size, 0, none⟩) n cap) w' ∧ n ≤ cap ∧ OwnCs w' w.heap.size (.slice (some ⟨w.heap.size, 0, none⟩) 0 cap) [] ∧ Below w.heap.size w w' := by
  obtain ⟨i, hi, hz, h6, h56⟩ := cell_row
  have hr := Lib.run_append_nil_zeros (P := Tryd.prog) w 28 3 ty 63 i _ .i64 .i64 Tryd.underlying28 Tryd.underlying3 hi hz n h0 (by rw [h6]; decide) (by omega) (by rw [h56]; omega)
  refine ⟨_, _, hr, ?_, ?_, ?_⟩
  · have := grownCap_ge w n 0 63; omega
  · have hge := grownCap_ge w n 0 63
    have hle := grownCap_le_maxLen w n 0 63 (by simp only [maxLen]; omega)
    generalize grownCap w n 0 63 = cap at hge hle
    refine ⟨rfl, .inr ⟨w.heap.size, cap, _, rfl, Nat.le_refl _, heap_alloc_new w.drew _, Nat.zero_le _, hle, ?_, rfl⟩⟩
    simp only [Array.size_append, size_zeroCells]
    show n * 6 + (cap - n) * 6 = cap * 6
    omega
  · exact ((Below.refl _ _).drew).alloc (Nat.le_refl _) _
def lensTo (ls : List (List Cl)) (k : Nat) : Nat := (ls.take k).flatten.length
theorem take_succ_ls {ls : List (List Cl)} {k : Nat} (h : k < ls.length) : (ls.take (k + 1)).flatten = (ls.take k).flatten ++ ls.getD k [] := by
  rw [List.take_succ_eq_append_getElem h, List.flatten_append]; simp [List.getD, h]
theorem lensTo_le (ls : List (List Cl)) (k : Nat) : lensTo ls k ≤ ls.flatten.length := by
  unfold lensTo
  have h : ls.flatten = (ls.take k).flatten ++ (ls.drop k).flatten := by rw [← List.flatten_append, List.take_append_drop]
  rw [h, List.length_append]; omega
end Row
end
end Go.Proofs.YtjcfbeiljdohcaaDoor
