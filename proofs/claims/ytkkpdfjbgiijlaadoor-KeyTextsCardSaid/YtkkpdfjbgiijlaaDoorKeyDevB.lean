/- What a key is (read, may), and what it sends, to the developers. -/
import Derived.Test.YtkkpdfjbgiijlaaDoorKeyDevA
import Derived.Test.YtkkpdfjbgiijlaaDoorBase
namespace Go.Proofs.YtkkpdfjbgiijlaaDoor
set_option maxRecDepth 100000
open Go.RowKit Tri KeyM
namespace Key

theorem none_box {w : World} {o : Obj} {B : Nat} {a : World} (h : Below B a w) (hB : B ≤ w.heap.size) : Below B a (w.alloc o) := h.alloc hB _
set_option maxHeartbeats 1600000 in
theorem read_any (k : T3) (hk : k.Small) (w : World) : Calls Tryd.prog 21 #[tagg k] w fun e w' => e = .returned (prV (readP k)) ∧ Below w.heap.size w w' := by
  have HB : Hid (Below w.heap.size w (w.alloc (kbx k))) := Lib.hid ((Below.refl _ _).alloc (Nat.le_refl _) _)
  have HS : Hid (w.heap.size ≤ (w.alloc (kbx k)).heap.size) := Lib.hid HB.out.size
  obtain ⟨⟨ha, hb, hc⟩⟩ : Nonempty _ := ⟨hk⟩
  have HI : Hid (Tells 22 #[.int .i64 k.c, .int .i64 0, .int .i64 7] (rng k.c 0 7)) := Lib.hid (in_any _ _ _)
  have HSG := Lib.hid (fun W => signOf_any k.b W)
  have HBR := Lib.hid (fun W => bracketOf_any k.b hb W)
  have HNM := Lib.hid (fun W => namedOf_any k.a ha W)
  have HE : Hid (readP k = if rng k.c 0 7 = true then (if k.a = 1 then signP k.b else if k.a = 12 then bracketP k.b else if k.b = 0 then namedP k.a else .none) else .none) := Lib.hid rfl
  generalize readP k = p at HE ⊢
  clear hk ha hb hc
  obtain ⟨a, b, c⟩ := k
  unfold tagg
  simp only at HI HSG HBR HNM HE ⊢
  generalize signP b = p1 at HSG HE
  generalize bracketP b = p2 at HBR HE
  generalize namedP a = p3 at HNM HE
  generalize rng c 0 7 = m at HI HE
  cases m with
  | false =>
    have HZ : Hid (p = .none) := HE
    clear HE
    go_enter Tryd.func21, Tryd.ntmps21
    go_wp2_with fail
    refine (HI.out _).mono ?_; rintro e w' ⟨rfl, rfl⟩
    go_wp2_with fail
    go_ret
    exact ⟨ret_pr HZ.out.symm, HB.out⟩
  | true =>
    have HF : Hid (p = if a = 1 then p1 else if a = 12 then p2 else if b = 0 then p3 else .none) := HE
    clear HE
    by_cases h1 : a = 1
    · have HZ : Hid (p = p1) := Lib.hid (by rw [HF.out, if_pos h1])
      have he : (a == 1) = true := by rw [h1]; rfl
      clear h1 HF
      go_enter Tryd.func21, Tryd.ntmps21
      go_wp2_with fail
      refine (HI.out _).mono ?_; rintro e w' ⟨rfl, rfl⟩
      go_wp2_with fail
      refine (HSG.out _).mono ?_; rintro e w' ⟨rfl, rfl⟩
      go_wp2_with fail
      go_ret
      exact ⟨ret_pr HZ.out.symm, HB.out⟩
    · have he : (a == 1) = false := by rw [beq_eq_false_iff_ne]; exact h1
      by_cases h2 : a = 12
      · have HZ : Hid (p = p2) := Lib.hid (by rw [HF.out, if_neg h1, if_pos h2])
        have he2 : (a == 12) = true := by rw [h2]; rfl
        clear h1 h2 HF
        go_enter Tryd.func21, Tryd.ntmps21
        go_wp2_with fail
        refine (HI.out _).mono ?_; rintro e w' ⟨rfl, rfl⟩
        go_wp2_with fail
        refine (HBR.out _).mono ?_; rintro e w2 ⟨rfl, hb⟩
        have HB2 := Lib.hid (HB.out.trans (hb.mono HB.out.size))
        clear hb
        go_wp2_with fail
        go_ret
        exact ⟨ret_pr HZ.out.symm, HB2.out⟩
      · have he2 : (a == 12) = false := by rw [beq_eq_false_iff_ne]; exact h2
        by_cases h0 : b = 0
        · have HZ : Hid (p = p3) := Lib.hid (by rw [HF.out, if_neg h1, if_neg h2, if_pos h0])
          have he0 : (b != 0) = false := by rw [h0]; rfl
          clear h1 h2 h0 HF
          go_enter Tryd.func21, Tryd.ntmps21
          go_wp2_with fail
          refine (HI.out _).mono ?_; rintro e w' ⟨rfl, rfl⟩
          go_wp2_with fail
          refine (HNM.out _).mono ?_; rintro e w2 ⟨rfl, hb⟩
          have HB2 := Lib.hid (HB.out.trans (hb.mono HB.out.size))
          clear hb
          go_wp2_with fail
          go_ret
          exact ⟨ret_pr HZ.out.symm, HB2.out⟩
        · have HZ : Hid (p = .none) := Lib.hid (by rw [HF.out, if_neg h1, if_neg h2, if_neg h0])
          have he0 : (b != 0) = true := by rw [bne_iff_ne]; exact h0
          clear h1 h2 h0 HF
          go_enter Tryd.func21, Tryd.ntmps21
          go_wp2_with fail
          refine (HI.out _).mono ?_; rintro e w' ⟨rfl, rfl⟩
          go_wp2_with fail
          go_ret
          exact ⟨ret_pr HZ.out.symm, HB.out⟩
@[go_sem] theorem is_none (p : Pr) (w : World) : (Instr.typeAssert (prV p) 49 52 true).run Tryd.prog w = .ok (.tuple #[.agg #[], .bool p.no]) w := by
  cases p <;> kernel_rfl
set_option maxHeartbeats 1600000 in
theorem may_any (k : T3) (hk : k.Small) (w : World) : Calls Tryd.prog 26 #[tagg k] w fun e w' => e = .returned (.bool (keyB k)) ∧ Below w.heap.size w w' := by
  have HB : Hid (Below w.heap.size w (w.alloc (kbx k))) := Lib.hid ((Below.refl _ _).alloc (Nat.le_refl _) _)
  have HP : Hid ((w.alloc (kbx k)).heap[w.heap.size]? = some (kbx k)) := Lib.hid (heap_alloc_new _ _)
  have HR := Lib.hid (fun W => read_any k hk W)
  have HE : Hid ((!(readP k).no) = keyB k) := Lib.hid (by rw [readP_no, Bool.not_not])
  clear hk
  generalize keyB k = b at HE ⊢
  generalize readP k = p at HR HE
  obtain ⟨x, y, z⟩ := k
  unfold tagg at HR ⊢
  simp only at HR ⊢
  go_enter Tryd.func26, Tryd.ntmps26
  go_wp2_with fail
  refine (HR.out _).mono ?_; rintro e w2 ⟨rfl, hb⟩
  have HB2 := Lib.hid (HB.out.trans (hb.mono HB.out.size))
  have HB3 : Hid (∀ o, Below w.heap.size w (w2.alloc o)) := Lib.hid fun o => HB2.out.alloc HB2.out.size _
  clear hb
  go_wp2_with fail
  go_ret
  exact ⟨ret_bool HE.out, HB3.out _⟩
end Key
end Go.Proofs.YtkkpdfjbgiijlaaDoor
