/- What a key is, to the developers: at, in, signOf, bracketOf, namedOf, read, may. -/
import Derived.Test.YtkkpdfjbgiijlaaDoorKeyItoa
import Derived.Test.YtkkpdfjbgiijlaaDoorRunes
namespace Go.Proofs.YtkkpdfjbgiijlaaDoor
set_option maxRecDepth 100000
open Go.RowKit Tri KeyM
namespace Key

/-- A key, read. -/
inductive Pr | none | sign (r : Int) | arrow (r : Int) | single (r : Int) | bracket (r : Int)
def prV : Pr → Value
  | .none => .iface 52 (.agg #[])
  | .sign r => .iface 66 (.int .i32 r)
  | .arrow r => .iface 60 (.int .i32 r)
  | .single r => .iface 70 (.int .i32 r)
  | .bracket r => .iface 63 (.int .i32 r)
def Pr.no : Pr → Bool
  | .none => true
  | _ => false
theorem ret_pr {a b : Pr} (h : a = b) : Ending.returned (prV a) = .returned (prV b) := by rw [h]
def signP (r : Int) : Pr := if runeOk r = true then .sign r else .none
def bracketP (r : Int) : Pr := if r = 1 then .bracket 48 else if r = 2 then .bracket 49 else .none
def arrL : List Nat := [65, 66, 67, 68, 72, 70]
def sglL : List Nat := [13, 9, 127, 27]
def namedP (a : Int) : Pr := if 2 ≤ a ∧ a ≤ 7 then .arrow (arrL.getD (a - 2).toNat 0 : Nat) else if 8 ≤ a ∧ a ≤ 11 then .single (sglL.getD (a - 8).toNat 0 : Nat) else .none
def readP (k : T3) : Pr := if rng k.c 0 7 = true then (if k.a = 1 then signP k.b else if k.a = 12 then bracketP k.b else if k.b = 0 then namedP k.a else .none) else .none
theorem readP_no (k : T3) : (readP k).no = !keyB k := by
  unfold readP keyB
  cases hc : rng k.c 0 7
  · rfl
  · rw [if_pos rfl, Bool.true_and]
    by_cases h1 : k.a = 1
    · rw [if_pos h1, if_pos h1]
      unfold signP
      cases q : runeOk k.b <;> rfl
    · rw [if_neg h1, if_neg h1]
      by_cases h2 : k.a = 12
      · rw [if_pos h2, if_pos h2]
        unfold bracketP
        split
        · rw [show rng k.b 1 2 = true from rng_yes.2 (by omega)]; rfl
        · split
          · rw [show rng k.b 1 2 = true from rng_yes.2 (by omega)]; rfl
          · rw [show rng k.b 1 2 = false from rng_no.2 (by omega)]; rfl
      · rw [if_neg h2, if_neg h2]
        by_cases h0 : k.b = 0
        · rw [if_pos h0, decide_eq_true h0, Bool.and_true]
          unfold namedP
          split
          · rw [show rng k.a 2 11 = true from rng_yes.2 (by omega)]; rfl
          · split
            · rw [show rng k.a 2 11 = true from rng_yes.2 (by omega)]; rfl
            · rw [show rng k.a 2 11 = false from rng_no.2 (by omega)]; rfl
        · rw [if_neg h0, decide_eq_false h0, Bool.and_false]; rfl

/-! ### at -/
def atB (L : List Nat) (n : Int) : Bool := decide (0 ≤ n) && decide (n < L.length)
def atR (L : List Nat) (n : Int) : Int := if atB L n = true then (L.getD n.toNat 0 : Nat) else 0
theorem at_yes {L : List Nat} {n : Int} {j : Nat} (hj : j < L.length) (h : (j : Int) = n) : atB L n = true ∧ atR L n = (L.getD j 0 : Nat) := by
  have hb : atB L n = true := by unfold atB; rw [Bool.and_eq_true, decide_eq_true_eq, decide_eq_true_eq]; omega
  refine ⟨hb, ?_⟩
  unfold atR; rw [if_pos hb, ← h]; simp
theorem at_no {L : List Nat} {n : Int} (h : ∀ j : Nat, j < L.length → (j : Int) ≠ n) : atB L n = false ∧ atR L n = 0 := by
  have hb : atB L n = false := by
    cases q : atB L n
    · rfl
    · unfold atB at q; rw [Bool.and_eq_true, decide_eq_true_eq, decide_eq_true_eq] at q
      exact absurd (by omega : ((n.toNat : Nat) : Int) = n) (h _ (by omega))
  exact ⟨hb, by unfold atR; rw [hb]; rfl⟩
theorem ret_at {r r2 : Int} {b b2 : Bool} (h : r = r2) (hb : b = b2) : Ending.returned (.tuple #[.int .i32 r, .bool b]) = .returned (.tuple #[.int .i32 r2, .bool b2]) := by rw [h, hb]
set_option maxHeartbeats 1600000 in
theorem at_any (s : ByteArray) (L : List Nat) (N : Nat) (hL : L.length = N) (hS : s.size = N) (hst : ∀ j, j < N → Utf.dec (s.data.toList.drop j) = (L.getD j 0, 1)) (n : Int) (w : World) :
    Calls Tryd.prog 36 #[.string s, .int .i64 n] w fun e w' => e = .returned (.tuple #[.int .i32 (atR L n), .bool (atB L n)]) ∧ Below w.heap.size w w' := by
  have HY : Hid (∀ j, j < N → (j : Int) = n → atB L n = true ∧ atR L n = (L.getD j 0 : Nat)) := Lib.hid fun j hj h => at_yes (by omega) h
  have HN : Hid ((∀ j : Nat, j < N → (j : Int) ≠ n) → atB L n = false ∧ atR L n = 0) := Lib.hid fun h => at_no fun j hj => h j (by omega)
  have HS := Lib.hid hS
  have HST := Lib.hid hst
  generalize atB L n = ab at HY HN ⊢
  generalize atR L n = ar at HY HN ⊢
  clear hL hS hst
  go_enter Tryd.func36, Tryd.ntmps36
  go_wp2_with fail
  go_loopw [] (fun wr => ∃ j : Nat, j ≤ N ∧ Hid (∀ i : Nat, i < j → (i : Int) ≠ n) ∧ Hid (wr.heap[w.heap.size]? = some (.stringIter s j)) ∧ Below w.heap.size w wr) (fun wr => N - wr.iterPos w.heap.size)
  case atStart => exact ⟨0, by omega, Lib.hid (fun i hi => absurd hi (by omega)), Lib.hid (World.iter_heap _ _ _), Utf.below_iter (Below.refl _ _) (Nat.le_refl _) _ _⟩
  case round =>
    obtain ⟨j, hj, HA, HI, hbl⟩ := hrel
    have HIP : Hid (wr.iterPos w.heap.size = j) := Lib.hid (by simp [World.iterPos, HI.out])
    by_cases hp : j < N
    · have hd := HST.out j hp
      have hnx : ∀ ty, (Instr.next (.pointer (some ⟨w.heap.size, 0, none⟩)) true ty).run Tryd.prog wr = _ := fun ty => Lib.run_next_any_at wr w.heap.size s j ty HI.out (by rw [HS.out]; exact hp)
      rw [Utf.dec_at] at hnx
      have hsm := Utf.dec_small (s.data.toList.drop j)
      rw [hd] at hnx hsm
      simp only at hnx hsm
      have HYJ := Lib.hid (HY.out j hp)
      have hit2 := Lib.iterAt_heap wr w.heap.size s j (j + 1) HI.out
      have HIT2 := Lib.hid hit2
      have HIP2 : Hid ((wr.iterAt w.heap.size s (j + 1)).iterPos w.heap.size = j + 1) := Lib.hid (by simp [World.iterPos, hit2])
      have HBL2 : Hid (Below w.heap.size w (wr.iterAt w.heap.size s (j + 1))) := Lib.hid (Lib.below_iterAt hbl (Nat.le_refl _) _ _)
      have HAJ : Hid ((j : Int) ≠ n → ∀ i : Nat, i < j + 1 → (i : Int) ≠ n) := Lib.hid fun q i hi => by
        by_cases e : i = j
        · subst e; exact q
        · exact HA.out i (by omega)
      clear hit2 hbl hd HA
      obtain ⟨r, hr⟩ : ∃ r, L.getD j 0 = r := ⟨_, rfl⟩
      simp only [hr] at hnx hsm HYJ
      clear hr
      by_cases he : (j : Int) = n
      · have HE := Lib.hid (HYJ.out he)
        have hq : ((j : Int) == n) = true := by rw [beq_iff_eq]; exact he
        clear HYJ HAJ he
        go_wp2_with fail
        go_ret2
        exact ⟨ret_at HE.out.2.symm HE.out.1.symm, HBL2.out⟩
      · have HE := Lib.hid (HAJ.out he)
        have hq : ((j : Int) == n) = false := by rw [beq_eq_false_iff_ne]; exact he
        clear HYJ HAJ he
        go_wp2_with fail
        go_roundw
        case rel => exact ⟨j + 1, by omega, HE, HIT2, HBL2.out⟩
        case measure => rw [HIP2.out, HIP.out]; omega
    · have hnx : ∀ ty, (Instr.next (.pointer (some ⟨w.heap.size, 0, none⟩)) true ty).run Tryd.prog wr = _ := fun ty => Lib.run_next_end_at wr w.heap.size s j ty HI.out (by rw [HS.out]; omega)
      have HE := Lib.hid (HN.out (fun i hi => HA.out i (by omega)))
      go_wp2_with fail
      go_ret2
      exact ⟨ret_at HE.out.2.symm HE.out.1.symm, hbl⟩
theorem arr_step : ∀ j : Fin 6, Utf.dec ((⟨#[65, 66, 67, 68, 72, 70]⟩ : ByteArray).data.toList.drop j.val) = (arrL.getD j.val 0, 1) := of_decide_eq_true (by kernel_rfl)
theorem sgl_step : ∀ j : Fin 4, Utf.dec ((⟨#[13, 9, 127, 27]⟩ : ByteArray).data.toList.drop j.val) = (sglL.getD j.val 0, 1) := of_decide_eq_true (by kernel_rfl)
theorem dgt_step : ∀ j : Fin 2, Utf.dec ((⟨#[48, 49]⟩ : ByteArray).data.toList.drop j.val) = ([48, 49].getD j.val 0, 1) := of_decide_eq_true (by kernel_rfl)

/-! ### what a key is -/
theorem in_any (n lo hi : Int) (w : World) : Calls Tryd.prog 22 #[.int .i64 n, .int .i64 lo, .int .i64 hi] w fun e w' => e = .returned (.bool (rng n lo hi)) ∧ w = w' := by
  by_cases h : lo ≤ n
  · by_cases k : n ≤ hi
    · have H : Hid (rng n lo hi = true) := Lib.hid (rng_yes.2 ⟨h, k⟩)
      go_enter Tryd.func22, Tryd.ntmps22
      go_wp2_with fail
      go_ret
      exact ⟨ret_bool H.out.symm, rfl⟩
    · have H : Hid (rng n lo hi = false) := Lib.hid (rng_no.2 fun q => k q.2)
      have hd : decide (n ≤ hi) = false := decide_eq_false k
      go_enter Tryd.func22, Tryd.ntmps22
      go_wp2_with fail
      go_ret
      exact ⟨ret_bool H.out.symm, rfl⟩
  · have H : Hid (rng n lo hi = false) := Lib.hid (rng_no.2 fun q => h q.1)
    have hd : decide (lo ≤ n) = false := decide_eq_false h
    go_enter Tryd.func22, Tryd.ntmps22
    go_wp2_with fail
    go_ret
    exact ⟨ret_bool H.out.symm, rfl⟩
theorem signOf_any (r : Int) (w : World) : Calls Tryd.prog 27 #[.int .i64 r] w fun e w' => e = .returned (prV (signP r)) ∧ w = w' := by
  have H1 : Hid (Tells 22 #[.int .i64 r, .int .i64 32, .int .i64 1114111] (rng r 32 1114111)) := Lib.hid (in_any _ _ _)
  have H2 : Hid (Tells 22 #[.int .i64 r, .int .i64 55296, .int .i64 57343] (rng r 55296 57343)) := Lib.hid (in_any _ _ _)
  have HE : Hid (signP r = if (rng r 32 1114111 && (decide (r ≠ 127) && !rng r 55296 57343)) = true then .sign r else .none) := Lib.hid rfl
  have hw : rng r 32 1114111 = true → IntKind.i32.wrap r = r := fun h => by have := rng_yes.1 h; rw [IntKind.wrap_i32]; omega
  generalize signP r = p at HE ⊢
  generalize rng r 55296 57343 = m2 at H2 HE
  generalize rng r 32 1114111 = m1 at H1 HE hw
  cases m1 with
  | false =>
    have HE : Hid (p = .none) := HE
    clear hw
    go_enter Tryd.func27, Tryd.ntmps27
    go_wp2_with fail
    refine (H1.out _).mono ?_; rintro e w' ⟨rfl, rfl⟩
    go_wp2_with fail
    go_ret
    exact ⟨ret_pr HE.out.symm, rfl⟩
  | true =>
    have hw := hw rfl
    by_cases h127 : r = 127
    · have hb : (r == 127) = true := by rw [h127]; rfl
      have HE : Hid (p = .none) := Lib.hid (by rw [HE.out, h127]; rfl)
      clear h127 hw
      go_enter Tryd.func27, Tryd.ntmps27
      go_wp2_with fail
      refine (H1.out _).mono ?_; rintro e w' ⟨rfl, rfl⟩
      go_wp2_with fail
      go_ret
      exact ⟨ret_pr HE.out.symm, rfl⟩
    · have hb : (r == 127) = false := by rw [beq_eq_false_iff_ne]; exact h127
      have HE : Hid (p = if m2 = true then .none else .sign r) := Lib.hid (by rw [HE.out, decide_eq_true h127]; cases m2 <;> rfl)
      clear h127
      cases m2 with
      | true =>
        have HE : Hid (p = .none) := HE
        go_enter Tryd.func27, Tryd.ntmps27
        go_wp2_with fail
        refine (H1.out _).mono ?_; rintro e w' ⟨rfl, rfl⟩
        go_wp2_with fail
        refine (H2.out _).mono ?_; rintro e w' ⟨rfl, rfl⟩
        go_wp2_with fail
        go_ret
        exact ⟨ret_pr HE.out.symm, rfl⟩
      | false =>
        have HE : Hid (p = .sign r) := HE
        go_enter Tryd.func27, Tryd.ntmps27
        go_wp2_with fail
        refine (H1.out _).mono ?_; rintro e w' ⟨rfl, rfl⟩
        go_wp2_with fail
        refine (H2.out _).mono ?_; rintro e w' ⟨rfl, rfl⟩
        go_wp2_with fail
        go_ret
        exact ⟨ret_pr HE.out.symm, rfl⟩
theorem bracketOf_any (r : Int) (hr : -9223372036854775808 ≤ r ∧ r ≤ 9223372036854775807) (w : World) : Calls Tryd.prog 28 #[.int .i64 r] w fun e w' => e = .returned (prV (bracketP r)) ∧ Below w.heap.size w w' := by
  obtain ⟨n, hn⟩ : ∃ n, IntKind.i64.wrap (r - 1) = n := ⟨_, rfl⟩
  have H := Lib.hid (fun W => at_any ⟨#[48, 49]⟩ [48, 49] 2 rfl rfl (fun j hj => dgt_step ⟨j, hj⟩) n W)
  have HE : Hid (bracketP r = if atB [48, 49] n = true then .bracket (atR [48, 49] n) else .none) := Lib.hid (by
    rw [IntKind.wrap_i64] at hn
    unfold bracketP
    by_cases h1 : r = 1
    · obtain rfl : n = 0 := by omega
      rw [if_pos h1]; rfl
    · by_cases h2 : r = 2
      · obtain rfl : n = 1 := by omega
        rw [if_neg h1, if_pos h2]; rfl
      · have := (at_no (L := [48, 49]) (n := n) (fun j hj => by simp at hj; omega)).1
        rw [if_neg h1, if_neg h2, this]; rfl)
  clear hr
  generalize bracketP r = p at HE ⊢
  generalize atR [48, 49] n = ar at H HE
  generalize atB [48, 49] n = ab at H HE
  cases ab with
  | true =>
    have HE : Hid (p = .bracket ar) := HE
    go_enter Tryd.func28, Tryd.ntmps28
    go_wp2_with fail
    refine (H.out _).mono ?_; rintro e w' ⟨rfl, hb⟩
    have HB := Lib.hid hb
    clear hb
    go_wp2_with fail
    go_ret
    exact ⟨ret_pr HE.out.symm, HB.out⟩
  | false =>
    have HE : Hid (p = .none) := HE
    go_enter Tryd.func28, Tryd.ntmps28
    go_wp2_with fail
    refine (H.out _).mono ?_; rintro e w' ⟨rfl, hb⟩
    have HB := Lib.hid hb
    clear hb
    go_wp2_with fail
    go_ret
    exact ⟨ret_pr HE.out.symm, HB.out⟩
theorem namedOf_any (a : Int) (ha : -9223372036854775808 ≤ a ∧ a ≤ 9223372036854775807) (w : World) : Calls Tryd.prog 29 #[.int .i64 a] w fun e w' => e = .returned (prV (namedP a)) ∧ Below w.heap.size w w' := by
  obtain ⟨n, hn⟩ : ∃ n, IntKind.i64.wrap (a - 2) = n := ⟨_, rfl⟩
  obtain ⟨m, hm⟩ : ∃ m, IntKind.i64.wrap (a - 8) = m := ⟨_, rfl⟩
  have H := Lib.hid (fun W => at_any ⟨#[65, 66, 67, 68, 72, 70]⟩ arrL 6 rfl rfl (fun j hj => arr_step ⟨j, hj⟩) n W)
  have H2 := Lib.hid (fun W => at_any ⟨#[13, 9, 127, 27]⟩ sglL 4 rfl rfl (fun j hj => sgl_step ⟨j, hj⟩) m W)
  have HE : Hid (namedP a = if atB arrL n = true then .arrow (atR arrL n) else if atB sglL m = true then .single (atR sglL m) else .none) := Lib.hid (by
    rw [IntKind.wrap_i64] at hn hm
    unfold namedP
    by_cases h1 : 2 ≤ a ∧ a ≤ 7
    · have q := at_yes (L := arrL) (n := n) (j := (a - 2).toNat) (by show _ < 6; omega) (by omega)
      rw [if_pos h1, q.1, q.2, if_pos rfl]
    · have q := (at_no (L := arrL) (n := n) (fun j hj => by have : j < 6 := hj; omega)).1
      rw [if_neg h1, q]; simp only [Bool.false_eq_true, if_false]
      by_cases h2 : 8 ≤ a ∧ a ≤ 11
      · have q := at_yes (L := sglL) (n := m) (j := (a - 8).toNat) (by show _ < 4; omega) (by omega)
        rw [if_pos h2, q.1, q.2, if_pos rfl]
      · have q := (at_no (L := sglL) (n := m) (fun j hj => by have : j < 4 := hj; omega)).1
        rw [if_neg h2, q]; simp only [Bool.false_eq_true, if_false])
  clear ha
  generalize namedP a = p at HE ⊢
  generalize atR arrL n = ar at H HE
  generalize atB arrL n = ab at H HE
  generalize atR sglL m = sr at H2 HE
  generalize atB sglL m = sb at H2 HE
  cases ab with
  | true =>
    have HE : Hid (p = .arrow ar) := HE
    go_enter Tryd.func29, Tryd.ntmps29
    go_wp2_with fail
    refine (H.out _).mono ?_; rintro e w' ⟨rfl, hb⟩
    have HB := Lib.hid hb
    clear hb
    go_wp2_with fail
    go_ret
    exact ⟨ret_pr HE.out.symm, HB.out⟩
  | false =>
    cases sb with
    | true =>
      have HE : Hid (p = .single sr) := HE
      go_enter Tryd.func29, Tryd.ntmps29
      go_wp2_with fail
      refine (H.out _).mono ?_; rintro e w' ⟨rfl, hb⟩
      have HB := Lib.hid hb
      clear hb
      go_wp2_with fail
      refine (H2.out _).mono ?_; rintro e w2 ⟨rfl, hb⟩
      have HB2 := Lib.hid (HB.out.trans (hb.mono HB.out.size))
      clear hb
      go_wp2_with fail
      go_ret
      exact ⟨ret_pr HE.out.symm, HB2.out⟩
    | false =>
      have HE : Hid (p = .none) := HE
      go_enter Tryd.func29, Tryd.ntmps29
      go_wp2_with fail
      refine (H.out _).mono ?_; rintro e w' ⟨rfl, hb⟩
      have HB := Lib.hid hb
      clear hb
      go_wp2_with fail
      refine (H2.out _).mono ?_; rintro e w2 ⟨rfl, hb⟩
      have HB2 := Lib.hid (HB.out.trans (hb.mono HB.out.size))
      clear hb
      go_wp2_with fail
      go_ret
      exact ⟨ret_pr HE.out.symm, HB2.out⟩
end Key
end Go.Proofs.YtkkpdfjbgiijlaaDoor
