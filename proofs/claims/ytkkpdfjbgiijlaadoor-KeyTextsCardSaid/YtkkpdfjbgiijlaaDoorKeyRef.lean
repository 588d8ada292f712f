/- The page's keys: which may be, all of a list; their text. -/
import Derived.Test.YtkkpdfjbgiijlaaDoorKeyPlain
import Derived.Test.YtkkpdfjbgiijlaaDoorKeyMem
import Derived.Deep.DeepCutAuto
namespace Go.Proofs.YtkkpdfjbgiijlaaDoor
set_option maxRecDepth 100000
open Go.RowKit Tri KeyM
namespace Key

theorem num_any (n hi : Int) (w : World) : Calls Tryd.prog 9 #[.int .i64 n, .int .i64 hi] w fun e w' => e = .returned (.bool (rng n 0 hi)) ∧ w = w' := by
  by_cases h : 0 ≤ n
  · by_cases k : n ≤ hi
    · have H : Hid (rng n 0 hi = true) := Lib.hid (rng_yes.2 ⟨h, k⟩)
      go_enter Tryd.func9, Tryd.ntmps9
      go_wp2_with fail
      go_ret
      exact ⟨ret_bool H.out.symm, rfl⟩
    · have H : Hid (rng n 0 hi = false) := Lib.hid (rng_no.2 fun q => k q.2)
      have hd : decide (n ≤ hi) = false := decide_eq_false k
      go_enter Tryd.func9, Tryd.ntmps9
      go_wp2_with fail
      go_ret
      exact ⟨ret_bool H.out.symm, rfl⟩
  · have H : Hid (rng n 0 hi = false) := Lib.hid (rng_no.2 fun q => h q.1)
    have hd : decide (0 ≤ n) = false := decide_eq_false h
    go_enter Tryd.func9, Tryd.ntmps9
    go_wp2_with fail
    go_ret
    exact ⟨ret_bool H.out.symm, rfl⟩
theorem between_any (n lo hi : Int) (w : World) : Calls Tryd.prog 24 #[.int .i64 n, .int .i64 lo, .int .i64 hi] w fun e w' => e = .returned (.bool (rng n lo hi)) ∧ w = w' := by
  by_cases h : lo ≤ n
  · by_cases k : n ≤ hi
    · have H : Hid (rng n lo hi = true) := Lib.hid (rng_yes.2 ⟨h, k⟩)
      go_enter Tryd.func24, Tryd.ntmps24
      go_wp2_with fail
      go_ret
      exact ⟨ret_bool H.out.symm, rfl⟩
    · have H : Hid (rng n lo hi = false) := Lib.hid (rng_no.2 fun q => k q.2)
      have hd : decide (n ≤ hi) = false := decide_eq_false k
      go_enter Tryd.func24, Tryd.ntmps24
      go_wp2_with fail
      go_ret
      exact ⟨ret_bool H.out.symm, rfl⟩
  · have H : Hid (rng n lo hi = false) := Lib.hid (rng_no.2 fun q => h q.1)
    have hd : decide (lo ≤ n) = false := decide_eq_false h
    go_enter Tryd.func24, Tryd.ntmps24
    go_wp2_with fail
    go_ret
    exact ⟨ret_bool H.out.symm, rfl⟩
theorem add0 (ad : Addr) : ad.add 0 = ad := by simp [Addr.add]
/-- One key, in a box. -/
abbrev kbx (t : T3) : Obj := .cells #[.int .i64 t.a, .int .i64 t.b, .int .i64 t.c] 32 (0, 0)
/-- A callee that tells a truth and leaves the world alone. -/
def Tells (f : FuncId) (args : Array Value) (b : Bool) : Prop := ∀ W, Calls Tryd.prog f args W fun e w' => e = .returned (.bool b) ∧ W = w'
set_option maxHeartbeats 1600000 in
theorem refKey_any (k : T3) (w : World) : Calls Tryd.prog 8 #[tagg k] w fun e w' => e = .returned (.bool (keyB k)) ∧ Below w.heap.size w w' := by
  obtain ⟨a, b, c⟩ := k
  have HB : Hid (Below w.heap.size w (w.alloc (kbx ⟨a, b, c⟩))) := Lib.hid ((Below.refl _ _).alloc (Nat.le_refl _) _)
  have HN : Hid (Tells 9 #[.int .i64 c, .int .i64 7] (rng c 0 7)) := Lib.hid (num_any _ _)
  have HR1 : Hid (Tells 24 #[.int .i64 b, .int .i64 32, .int .i64 1114111] (rng b 32 1114111)) := Lib.hid (between_any _ _ _)
  have HR2 : Hid (Tells 24 #[.int .i64 b, .int .i64 55296, .int .i64 57343] (rng b 55296 57343)) := Lib.hid (between_any _ _ _)
  have HP : Hid (Tells 24 #[.int .i64 b, .int .i64 1, .int .i64 2] (rng b 1 2)) := Lib.hid (between_any _ _ _)
  have HK : Hid (Tells 24 #[.int .i64 a, .int .i64 2, .int .i64 11] (rng a 2 11)) := Lib.hid (between_any _ _ _)
  have HE : Hid (keyB ⟨a, b, c⟩ = (rng c 0 7 && (if a = 1 then (rng b 32 1114111 && (decide (b ≠ 127) && !rng b 55296 57343)) else if a = 12 then rng b 1 2 else rng a 2 11 && decide (b = 0)))) := Lib.hid rfl
  unfold tagg
  simp only
  obtain ⟨m, hm⟩ : ∃ m, keyB ⟨a, b, c⟩ = m := ⟨_, rfl⟩
  rw [hm] at HE ⊢
  clear hm
  generalize rng c 0 7 = m0 at HN HE
  generalize rng b 32 1114111 = m1 at HR1 HE
  generalize rng b 55296 57343 = m2 at HR2 HE
  generalize rng b 1 2 = m3 at HP HE
  generalize rng a 2 11 = m4 at HK HE
  cases m0 with
  | false =>
    have HE : Hid (m = false) := HE
    go_enter Tryd.func8, Tryd.ntmps8
    go_wp2_with fail
    refine (HN.out _).mono ?_; rintro e w' ⟨rfl, rfl⟩
    go_wp2_with fail
    go_ret
    exact ⟨ret_bool HE.out.symm, HB.out⟩
  | true =>
    by_cases h1 : a = 1
    · have he : (a == 1) = true := by rw [h1]; rfl
      have HE : Hid (m = (m1 && (decide (b ≠ 127) && !m2))) := Lib.hid (by rw [HE.out, if_pos h1]; rfl)
      clear h1
      cases m1 with
      | false =>
        have HE : Hid (m = false) := HE
        go_enter Tryd.func8, Tryd.ntmps8
        go_wp2_with fail
        refine (HN.out _).mono ?_; rintro e w' ⟨rfl, rfl⟩
        go_wp2_with fail
        refine (HR1.out _).mono ?_; rintro e w' ⟨rfl, rfl⟩
        go_wp2_with fail
        go_ret
        exact ⟨ret_bool HE.out.symm, HB.out⟩
      | true =>
        by_cases h127 : b = 127
        · have hb : (b != 127) = false := by rw [h127]; rfl
          have HE : Hid (m = false) := Lib.hid (by rw [HE.out, h127]; rfl)
          clear h127
          go_enter Tryd.func8, Tryd.ntmps8
          go_wp2_with fail
          refine (HN.out _).mono ?_; rintro e w' ⟨rfl, rfl⟩
          go_wp2_with fail
          refine (HR1.out _).mono ?_; rintro e w' ⟨rfl, rfl⟩
          go_wp2_with fail
          go_ret
          exact ⟨ret_bool HE.out.symm, HB.out⟩
        · have hb : (b != 127) = true := by rw [bne_iff_ne]; exact h127
          have HE : Hid (m = !m2) := Lib.hid (by rw [HE.out, decide_eq_true h127]; rfl)
          clear h127
          go_enter Tryd.func8, Tryd.ntmps8
          go_wp2_with fail
          refine (HN.out _).mono ?_; rintro e w' ⟨rfl, rfl⟩
          go_wp2_with fail
          refine (HR1.out _).mono ?_; rintro e w' ⟨rfl, rfl⟩
          go_wp2_with fail
          refine (HR2.out _).mono ?_; rintro e w' ⟨rfl, rfl⟩
          go_wp2_with fail
          go_ret
          exact ⟨ret_bool HE.out.symm, HB.out⟩
    · have he : (a == 1) = false := by rw [beq_eq_false_iff_ne]; exact h1
      by_cases h12 : a = 12
      · have he2 : (a == 12) = true := by rw [h12]; rfl
        have HE : Hid (m = m3) := Lib.hid (by rw [HE.out, if_neg h1, if_pos h12]; rfl)
        clear h1 h12
        go_enter Tryd.func8, Tryd.ntmps8
        go_wp2_with fail
        refine (HN.out _).mono ?_; rintro e w' ⟨rfl, rfl⟩
        go_wp2_with fail
        refine (HP.out _).mono ?_; rintro e w' ⟨rfl, rfl⟩
        go_wp2_with fail
        go_ret
        exact ⟨ret_bool HE.out.symm, HB.out⟩
      · have he2 : (a == 12) = false := by rw [beq_eq_false_iff_ne]; exact h12
        have HE : Hid (m = (m4 && decide (b = 0))) := Lib.hid (by rw [HE.out, if_neg h1, if_neg h12]; rfl)
        clear h1 h12
        cases m4 with
        | false =>
          have HE : Hid (m = false) := HE
          go_enter Tryd.func8, Tryd.ntmps8
          go_wp2_with fail
          refine (HN.out _).mono ?_; rintro e w' ⟨rfl, rfl⟩
          go_wp2_with fail
          refine (HK.out _).mono ?_; rintro e w' ⟨rfl, rfl⟩
          go_wp2_with fail
          go_ret
          exact ⟨ret_bool HE.out.symm, HB.out⟩
        | true =>
          have HE : Hid (m = (b == 0)) := Lib.hid (by rw [HE.out]; rfl)
          go_enter Tryd.func8, Tryd.ntmps8
          go_wp2_with fail
          refine (HN.out _).mono ?_; rintro e w' ⟨rfl, rfl⟩
          go_wp2_with fail
          refine (HK.out _).mono ?_; rintro e w' ⟨rfl, rfl⟩
          go_wp2_with fail
          go_ret
          exact ⟨ret_bool HE.out.symm, HB.out⟩
theorem keysB_iff {l : List T3} : keysB l = true ↔ ∀ i, i < l.length → keyB (g l i) = true := by
  unfold keysB
  rw [List.all_eq_true]
  constructor
  · intro h i hi
    rw [g_eq hi]; exact h _ (List.getElem_mem hi)
  · intro h x hx
    obtain ⟨i, hi, rfl⟩ := List.getElem_of_mem hx
    rw [← g_eq hi]; exact h i hi
set_option maxHeartbeats 800000 in
theorem refKeys_any (l : List T3) (x : Value) (w : World) (hx : Ts w x l) (hn : l.length ≤ 100000000) :
    Calls Tryd.prog 15 #[x] w fun e w' => e = .returned (.bool (keysB l)) ∧ Below w.heap.size w w' := by
  obtain ⟨A, c, rfl, _⟩ := hx.form
  have HX := Lib.hid hx
  clear hx
  go_enter Tryd.func15, Tryd.ntmps15
  go_wp2_with fail
  go_loopw [3] (fun i wr => ∃ k : Nat, k ≤ l.length ∧ i = .int .i64 k ∧ Hid (∀ j, j < k → keyB (g l j) = true) ∧ Below w.heap.size w wr) (fun i _ => l.length - (intOf i).toNat)
  case atStart => exact ⟨0, by omega, rfl, Lib.hid fun j h => by omega, Below.refl _ _⟩
  case round =>
    obtain ⟨k, hk, rfl, hal, hbl⟩ := hrel
    by_cases hlt : k < l.length
    · obtain ⟨A', c', eA, hf⟩ := (HX.out.kept hbl).form
      injection eA with eA1 eA2 eA3
      subst eA1
      obtain ⟨ad, rfl, K⟩ := hf k hlt
      have HK := Lib.hid (fun W => refKey_any (g l k) W)
      have HC : Hid (∀ b, keyB (g l k) = b → if b = true then (∀ j, j < k + 1 → keyB (g l j) = true) else keysB l = false) := Lib.hid fun b hb => by
        cases b
        · simp only [Bool.false_eq_true, if_false]
          cases q : keysB l
          · rfl
          · rw [keysB_iff.1 q k hlt] at hb; cases hb
        · simp only [if_true]
          intro j hj
          by_cases e : j = k
          · rw [e]; exact hb
          · exact hal.out j (by omega)
      clear hf eA3 eA2
      generalize g l k = t at K HK HC
      have h0 := K.head
      have h1 := K.next 0 rfl
      have h2 := K.next 1 rfl
      obtain ⟨p, q, r⟩ := t
      obtain ⟨b, hb⟩ : ∃ b, keyB ⟨p, q, r⟩ = b := ⟨_, rfl⟩
      have HC := Lib.hid (HC.out b hb)
      have HK : Hid (∀ W, Calls Tryd.prog 8 #[.agg #[.int .i64 p, .int .i64 q, .int .i64 r]] W fun e w' => e = .returned (.bool b) ∧ Below W.heap.size W w') := Lib.hid (by rw [← hb]; exact HK.out)
      clear hb K
      go_wp2_with fail
      refine (HK.out _).mono ?_; rintro e w2 ⟨rfl, hb2⟩
      have HB2 := Lib.hid (hbl.trans (hb2.mono hbl.size))
      clear hb2
      cases b with
      | false =>
        have HC : Hid (keysB l = false) := HC
        go_wp2_with fail
        go_ret
        exact ⟨ret_bool HC.out.symm, HB2.out⟩
      | true =>
        have HC : Hid (∀ j, j < k + 1 → keyB (g l j) = true) := HC
        go_wp2_with fail
        go_roundw
        case rel => exact ⟨k + 1, by omega, by go_num, HC, HB2.out⟩
        case measure => simp [intOf]; omega
    · have hkn : k = l.length := by omega
      have HE : Hid (keysB l = true) := Lib.hid (keysB_iff.2 fun i hi => hal.out i (by omega))
      go_wp2_with fail
      go_ret
      exact ⟨ret_bool HE.out.symm, hbl⟩
end Key
end Go.Proofs.YtkkpdfjbgiijlaaDoor
