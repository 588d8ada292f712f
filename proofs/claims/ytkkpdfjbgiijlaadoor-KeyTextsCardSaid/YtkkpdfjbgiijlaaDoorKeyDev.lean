/- What a key sends, to the developers, whole: sent; Bytes: what the law asks of it. -/
import Derived.Test.YtkkpdfjbgiijlaaDoorKeyDevC
import Derived.Test.YtkkpdfjbgiijlaaDoorKeyLawB
namespace Go.Proofs.YtkkpdfjbgiijlaaDoor
set_option maxRecDepth 100000
open Go.RowKit Tri KeyM
namespace Key

@[go_sem] theorem is_arrow_y (v : Value) (w : World) : (Instr.typeAssert (.iface 60 v) 49 60 true).run Tryd.prog w = .ok (.tuple #[v, .bool true]) w := by kernel_rfl
@[go_sem] theorem is_arrow_s (v : Value) (w : World) : (Instr.typeAssert (.iface 66 v) 49 60 true).run Tryd.prog w = .ok (.tuple #[.int .i32 0, .bool false]) w := by kernel_rfl
@[go_sem] theorem is_arrow_g (v : Value) (w : World) : (Instr.typeAssert (.iface 70 v) 49 60 true).run Tryd.prog w = .ok (.tuple #[.int .i32 0, .bool false]) w := by kernel_rfl
@[go_sem] theorem is_arrow_b (v : Value) (w : World) : (Instr.typeAssert (.iface 63 v) 49 60 true).run Tryd.prog w = .ok (.tuple #[.int .i32 0, .bool false]) w := by kernel_rfl
@[go_sem] theorem is_bracket_y (v : Value) (w : World) : (Instr.typeAssert (.iface 63 v) 49 63 true).run Tryd.prog w = .ok (.tuple #[v, .bool true]) w := by kernel_rfl
@[go_sem] theorem is_bracket_s (v : Value) (w : World) : (Instr.typeAssert (.iface 66 v) 49 63 true).run Tryd.prog w = .ok (.tuple #[.int .i32 0, .bool false]) w := by kernel_rfl
@[go_sem] theorem is_bracket_g (v : Value) (w : World) : (Instr.typeAssert (.iface 70 v) 49 63 true).run Tryd.prog w = .ok (.tuple #[.int .i32 0, .bool false]) w := by kernel_rfl
@[go_sem] theorem is_sign_y (v : Value) (w : World) : (Instr.typeAssert (.iface 66 v) 49 66 true).run Tryd.prog w = .ok (.tuple #[v, .bool true]) w := by kernel_rfl
@[go_sem] theorem is_sign_g (v : Value) (w : World) : (Instr.typeAssert (.iface 70 v) 49 66 true).run Tryd.prog w = .ok (.tuple #[.int .i32 0, .bool false]) w := by kernel_rfl
@[go_sem] theorem must_single (v : Value) (w : World) : (Instr.typeAssert (.iface 70 v) 49 70 false).run Tryd.prog w = .ok v w := by kernel_rfl
theorem sent_arrow (r : Int) (d : UInt8) (he : Utf8.encode r = ⟨#[d]⟩) (c modes : Int) (hc : 0 ≤ c ∧ c ≤ 7) (w : World) : Calls Tryd.prog 23 #[.iface 60 (.int .i32 r), .int .i64 c, .int .i64 modes] w fun e w' =>
    e = .returned (.string (if c ≠ 0 then ⟨#[27, 91, 49, 59, UInt8.ofNat (49 + c.toNat), d]⟩ else if hasF modes 16 = true then ⟨#[27, 79, d]⟩ else ⟨#[27, 91, d]⟩)) ∧ w = w' := by
  have H := Lib.hid (fun W => moving_any r d he c modes hc W)
  obtain ⟨s, hs⟩ : ∃ s, (if c ≠ 0 then (⟨#[27, 91, 49, 59, UInt8.ofNat (49 + c.toNat), d]⟩ : ByteArray) else if hasF modes 16 = true then ⟨#[27, 79, d]⟩ else ⟨#[27, 91, d]⟩) = s := ⟨_, rfl⟩
  rw [hs] at H ⊢
  clear hs hc he
  go_enter Tryd.func23, Tryd.ntmps23
  go_wp2_with fail
  refine (H.out _).mono ?_; rintro e w' ⟨rfl, rfl⟩
  go_wp2_with fail
  go_ret
  exact ⟨rfl, rfl⟩
theorem sent_bracket (r : Int) (d : UInt8) (he : Utf8.encode r = ⟨#[d]⟩) (c modes : Int) (w : World) : Calls Tryd.prog 23 #[.iface 63 (.int .i32 r), .int .i64 c, .int .i64 modes] w fun e w' =>
    e = .returned (.string (if hasF modes 128 = true then ⟨#[27, 91, 50, 48, d, 126]⟩ else ⟨#[]⟩)) ∧ w = w' := by
  have H := Lib.hid (fun W => pasting_any r d he modes W)
  obtain ⟨s, hs⟩ : ∃ s, (if hasF modes 128 = true then (⟨#[27, 91, 50, 48, d, 126]⟩ : ByteArray) else ⟨#[]⟩) = s := ⟨_, rfl⟩
  rw [hs] at H ⊢
  clear hs he
  go_enter Tryd.func23, Tryd.ntmps23
  go_wp2_with fail
  refine (H.out _).mono ?_; rintro e w' ⟨rfl, rfl⟩
  go_wp2_with fail
  go_ret
  exact ⟨rfl, rfl⟩
theorem sent_single (x : Int) (d : UInt8) (he : Utf8.encode x = ⟨#[d]⟩) (c modes : Int) (w : World) : Calls Tryd.prog 23 #[.iface 70 (.int .i32 x), .int .i64 c, .int .i64 modes] w fun e w' =>
    e = .returned (.string (aloneS x d c modes)) ∧ w = w' := by
  have H := Lib.hid (fun W => alone_any x d he c modes W)
  generalize aloneS x d c modes = s at H ⊢
  clear he
  go_enter Tryd.func23, Tryd.ntmps23
  go_wp2_with fail
  refine (H.out _).mono ?_; rintro e w' ⟨rfl, rfl⟩
  go_wp2_with fail
  go_ret
  exact ⟨rfl, rfl⟩
theorem sent_sign (b c modes : Int) (hb : 0 ≤ b ∧ b ≤ 1114111) (w : World) : Calls Tryd.prog 23 #[.iface 66 (.int .i32 b), .int .i64 c, .int .i64 modes] w fun e w' =>
    e = .returned (.string (altOf c ++ runeK ⟨1, b, c⟩)) ∧ w = w' := by
  have HA := Lib.hid (ahead_any c)
  have HT := Lib.hid (fun W => typed_any b c hb W)
  have hal := alt_size c
  have hen := enc_typed b c hb 1
  have hsz : (Utf8.encode (typedR b c)).size ≤ 4 := encode_size_le _
  rw [hen] at hsz
  have hgt : ¬ 9223372036854775807 < (altOf c).size + (runeK ⟨1, b, c⟩).size := by omega
  generalize altOf c = al at HA hgt hal ⊢
  generalize runeK ⟨1, b, c⟩ = u at hen hsz hgt ⊢
  generalize typedR b c = t at HT hen
  clear hb hal hsz
  go_enter Tryd.func23, Tryd.ntmps23
  go_wp2_with fail
  refine (HA.out _).mono ?_; rintro e w' ⟨rfl, rfl⟩
  go_wp2_with fail
  refine (HT.out _).mono ?_; rintro e w' ⟨rfl, rfl⟩
  go_wp2_with fail
  go_ret
  exact ⟨rfl, rfl⟩
/-- What a key that may be sends. -/
theorem sent_any (k : T3) (modes : Int) (w : World) (hk : keyB k = true) : Calls Tryd.prog 23 #[prV (readP k), .int .i64 k.c, .int .i64 modes] w fun e w' => e = .returned (.string (bytesK k modes)) ∧ w = w' := by
  have h := keyB_facts hk
  unfold keyB at hk
  rw [Bool.and_eq_true] at hk
  have hk2 := hk.2
  unfold readP
  rw [hk.1, if_pos rfl]
  obtain ⟨a, b, c⟩ := k
  simp only at h hk2 ⊢
  by_cases h1 : a = 1
  · subst h1
    simp only [if_true] at hk2 ⊢
    unfold signP
    rw [if_pos hk2]
    exact sent_sign b c modes ⟨h.2.2.2.2.1, h.2.2.2.2.2⟩ w
  by_cases h2 : a = 12
  · subst h2
    rw [if_neg h1, if_pos rfl] at hk2 ⊢
    have := rng_yes.1 hk2
    unfold bracketP
    by_cases hb : b = 1
    · subst hb
      exact sent_bracket 48 48 (by kernel_rfl) c modes w
    · obtain rfl : b = 2 := by omega
      exact sent_bracket 49 49 (by kernel_rfl) c modes w
  rw [if_neg h1, if_neg h2, Bool.and_eq_true, decide_eq_true_eq] at hk2
  rw [if_neg h1, if_neg h2, if_pos hk2.2]
  have ha := rng_yes.1 hk2.1
  have hc : 0 ≤ c ∧ c ≤ 7 := ⟨h.2.2.1, h.2.2.2.1⟩
  have hh : a = 2 ∨ a = 3 ∨ a = 4 ∨ a = 5 ∨ a = 6 ∨ a = 7 ∨ a = 8 ∨ a = 9 ∨ a = 10 ∨ a = 11 := by omega
  clear hk hk2 ha h h1 h2
  rcases hh with rfl | rfl | rfl | rfl | rfl | rfl | rfl | rfl | rfl | rfl
  · exact sent_arrow 65 65 (by kernel_rfl) c modes hc w
  · exact sent_arrow 66 66 (by kernel_rfl) c modes hc w
  · exact sent_arrow 67 67 (by kernel_rfl) c modes hc w
  · exact sent_arrow 68 68 (by kernel_rfl) c modes hc w
  · exact sent_arrow 72 72 (by kernel_rfl) c modes hc w
  · exact sent_arrow 70 70 (by kernel_rfl) c modes hc w
  · have e : bytesK ⟨8, b, c⟩ modes = aloneS 13 13 c modes := by
      show altOf c ++ _ = _
      unfold aloneS
      cases q : hasF modes 4 <;> rfl
    rw [e]
    exact sent_single 13 13 (by kernel_rfl) c modes w
  · have e : bytesK ⟨9, b, c⟩ modes = aloneS 9 9 c modes := by
      show (if hasF c 1 = true then _ else _) = _
      unfold aloneS
      cases q : hasF c 1 <;> rfl
    rw [e]
    exact sent_single 9 9 (by kernel_rfl) c modes w
  · exact sent_single 127 127 (by kernel_rfl) c modes w
  · exact sent_single 27 27 (by kernel_rfl) c modes w
set_option maxHeartbeats 1600000 in
theorem devBytes : DevBytes := by
  intro k m W hk hm
  have HRD := Lib.hid (fun W => read_any k hk W)
  have HSN := Lib.hid (fun (h : keyB k = true) W => sent_any k m W h)
  have HNO : Hid ((readP k).no = !keyB k) := Lib.hid (readP_no k)
  have HIN : Hid (Tells 22 #[.int .i64 m, .int .i64 0, .int .i64 1023] (rng m 0 1023)) := Lib.hid (in_any _ _ _)
  have HB : Hid (Below W.heap.size W (W.alloc (kbx k))) := Lib.hid ((Below.refl _ _).alloc (Nat.le_refl _) _)
  have HP : Hid ((W.alloc (kbx k)).heap[W.heap.size]? = some (kbx k)) := Lib.hid (heap_alloc_new _ _)
  have HA : Hid (ansK k m = if (keyB k && rng m 0 1023) = true then bytesK k m else ⟨#[]⟩) := Lib.hid rfl
  have HC : Hid (codeK k m = if (keyB k && rng m 0 1023) = true then 0 else 1) := Lib.hid rfl
  generalize ansK k m = ans at HA ⊢
  generalize codeK k m = cc at HC ⊢
  generalize bytesK k m = u at HA HSN
  generalize keyB k = kb at HA HC HSN HNO
  generalize readP k = p at HRD HSN HNO
  generalize rng m 0 1023 = rb at HIN HA HC
  clear hk hm
  obtain ⟨a, b, c⟩ := k
  unfold tagg at HRD ⊢
  simp only at HRD HSN ⊢
  cases kb with
  | false =>
    obtain rfl : ans = ⟨#[]⟩ := HA.out
    obtain rfl : cc = 1 := HC.out
    have HN2 : Hid (p.no = true) := HNO
    have hno := HN2.out
    clear HNO HSN HA HC
    go_enter Tryd.func7, Tryd.ntmps7
    go_wp2_with fail
    refine (HRD.out _).mono ?_; rintro e w1 ⟨rfl, hb⟩
    have HB1 := Lib.hid (HB.out.trans (hb.mono HB.out.size))
    have HB2 : Hid (∀ o, Below W.heap.size W (w1.alloc o)) := Lib.hid fun o => HB1.out.alloc HB1.out.size _
    clear hb
    go_wp2_with fail
    go_ret2
    exact ⟨rfl, HB2.out _⟩
  | true =>
    have HN2 : Hid (p.no = false) := HNO
    have hno := HN2.out
    have HSN2 := Lib.hid (HSN.out rfl)
    clear HNO HSN
    cases rb with
    | false =>
      obtain rfl : ans = ⟨#[]⟩ := HA.out
      obtain rfl : cc = 1 := HC.out
      clear HA HC HSN2
      go_enter Tryd.func7, Tryd.ntmps7
      go_wp2_with fail
      refine (HRD.out _).mono ?_; rintro e w1 ⟨rfl, hb⟩
      have HB1 := Lib.hid (HB.out.trans (hb.mono HB.out.size))
      have HB2 : Hid (∀ o, Below W.heap.size W (w1.alloc o)) := Lib.hid fun o => HB1.out.alloc HB1.out.size _
      clear hb
      go_wp2_with fail
      refine (HIN.out _).mono ?_; rintro e w2 ⟨rfl, rfl⟩
      go_wp2_with fail
      go_ret2
      exact ⟨rfl, HB2.out _⟩
    | true =>
      obtain rfl : ans = u := HA.out
      obtain rfl : cc = 0 := HC.out
      clear HA HC
      go_enter Tryd.func7, Tryd.ntmps7
      go_wp2_with fail
      refine (HRD.out _).mono ?_; rintro e w1 ⟨rfl, hb⟩
      have HB1 := Lib.hid (HB.out.trans (hb.mono HB.out.size))
      have HB2 : Hid (∀ o, Below W.heap.size W (w1.alloc o)) := Lib.hid fun o => HB1.out.alloc HB1.out.size _
      have HP1 := Lib.hid (Blk.kept HP.out hb)
      clear hb
      have HC2 : Hid (∀ o, (w1.alloc o).cell? ⟨W.heap.size, 2, none⟩ = some (.int .i64 c)) := Lib.hid fun o => by
        have h2 : (w1.alloc o).cell? ⟨W.heap.size, 2, none⟩ = some (.int .i64 c) := Blk.cell (Blk.kept HP1.out ((Below.refl _ _).alloc (Nat.le_refl _) o)) 2
        exact h2
      go_wp2_with fail
      refine (HIN.out _).mono ?_; rintro e w2 ⟨rfl, rfl⟩
      have hc2 := HC2.out
      go_wp2_with fail
      refine (HSN2.out _).mono ?_; rintro e w2 ⟨rfl, rfl⟩
      go_wp2_with fail
      go_ret2
      exact ⟨rfl, HB2.out _⟩
end Key
end Go.Proofs.YtkkpdfjbgiijlaaDoor
