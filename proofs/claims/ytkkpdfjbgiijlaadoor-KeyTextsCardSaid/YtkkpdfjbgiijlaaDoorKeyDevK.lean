/- Which keys a text is, to the developers: Take. -/
import Derived.Test.YtkkpdfjbgiijlaaDoorKeyDevT
import Derived.Test.YtkkpdfjbgiijlaaDoorKeyTake
namespace Go.Proofs.YtkkpdfjbgiijlaaDoor
set_option maxRecDepth 100000
open Go.RowKit Tri KeyM Byt
namespace Key

theorem make_keys (n : Nat) (hn : n ≤ 1000000) (w : World) : ∃ wm, (Instr.makeSlice 22 (.int .i64 0) (.int .i64 n)).run Tryd.prog w = .ok (.slice (some ⟨w.heap.size, 0, none⟩) 0 n) wm ∧
    OwnTs wm w.heap.size (.slice (some ⟨w.heap.size, 0, none⟩) 0 n) [] ∧ Below w.heap.size w wm := by
  obtain ⟨i, hi, hz, h1, h2⟩ := tri_row
  obtain ⟨wm, hr, ho, hg⟩ := run_make_own (P := Tryd.prog) w w.heap.size 22 32 i _ 3 Tryd.underlying22 hi hz h1 .i64 .i64 n (by rw [h2]; omega) (by simp only [maxLen]; omega) (Nat.le_refl _)
  exact ⟨wm, hr, ho, ⟨hg.os, hg.tape, hg.output, hg.size, fun k hk => hg.block k hk (by simp)⟩⟩
def lenS : Value → Nat
  | .string s => s.size
  | _ => 0
theorem bAt_at {t : ByteArray} {i : Nat} (h : i < t.size) : ((t[i].toNat : Nat) : Int) = ((t.data.toList.getD i 0).toNat : Int) := by
  have := bAt_get h
  unfold bAt at this
  exact this
theorem drop_getD (l : List UInt8) (k i : Nat) : (l.drop k).getD i 0 = l.getD (k + i) 0 := by
  simp [List.getD]
theorem take_loop (s : ByteArray) (w : World) (h5 : s.size % 5 = 0) (hs : s.size ≤ 1000) :
    Calls Tryd.prog 19 #[.string s] w fun e w' => ∃ v, e = .returned (.tuple #[v, .int .i64 (codeK2 s)]) ∧ Ts w' v (gotK s) ∧ Below w.heap.size w w' := by
  have hsz : s.data.toList.length = s.size := by simp
  have ht : ((s.size : Int)).tmod 5 = 0 := by rw [Int.tmod_eq_emod_of_nonneg (by omega)]; omega
  have hm : decide (1000 < (s.size : Int)) = false := decide_eq_false (by omega)
  obtain ⟨n5, hn5⟩ : ∃ n, s.size / 5 = n := ⟨_, rfl⟩
  have hq : ((s.size : Int)).tdiv 5 = (n5 : Int) := by rw [Int.tdiv_eq_ediv_of_nonneg (by omega)]; omega
  have hwq : IntKind.i64.wrap (n5 : Int) = (n5 : Int) := by rw [IntKind.wrap_i64]; omega
  obtain ⟨L, hL⟩ : ∃ L, keysOf s.data.toList = L := ⟨_, rfl⟩
  have HLL : Hid (L.length = n5) := Lib.hid (by rw [← hL, keysOf_length, hsz, hn5])
  have HG : Hid (∀ j, j < n5 → g L j = keyAt s.data.toList (j * 5)) := Lib.hid fun j hj => by rw [← hL]; exact keysOf_get (by rw [hsz, hn5]; exact hj)
  have hok : takeOk s.data.toList = keysB L := by unfold takeOk; rw [hsz, hL, decide_eq_true h5, decide_eq_true hs]; rfl
  have HC : Hid (codeK2 s = if keysB L = true then 0 else 6) := Lib.hid (by unfold codeK2; rw [hok])
  have HR : Hid (gotK s = if keysB L = true then L else []) := Lib.hid (by unfold gotK; rw [hok, hL])
  generalize codeK2 s = cc at HC ⊢
  generalize gotK s = R at HR ⊢
  have HSZ : Hid (s.size = n5 * 5) := Lib.hid (by omega)
  have hn5b : n5 ≤ 200 := by omega
  clear hL hok h5 hs hsz hn5
  obtain ⟨wm, hmk, HO0, HB0⟩ := make_keys n5 (by omega) w
  have HO0 := Lib.hid HO0
  have HB0 := Lib.hid HB0
  obtain ⟨w0, hw0⟩ : ∃ w0, w0 = w := ⟨_, rfl⟩
  subst hw0
  go_enter Tryd.func19, Tryd.ntmps19
  go_wp2_with fail
  clear hmk ht hm hq hwq
  go_loopw [0, 4] (fun x v wr => ∃ (j : Nat) (t : ByteArray), j ≤ n5 ∧ x = .string t ∧ Hid (t.data.toList = s.data.toList.drop (j * 5) ∧ t.size + j * 5 = n5 * 5) ∧ Hid (∀ i, i < j → keyB (g L i) = true) ∧ Hid (OwnTs wr w0.heap.size v (L.take j)) ∧ Hid (Below w0.heap.size w0 wr)) (fun x _ _ => lenS x)
  case atStart => exact ⟨0, s, by omega, rfl, Lib.hid ⟨by simp, by have := HSZ.out; omega⟩, Lib.hid (fun i hi => absurd hi (by omega)), HO0, HB0⟩
  case round =>
    obtain ⟨j, t, hj, rfl, HTT, HALL, HO, HBL⟩ := hrel
    have HLN : Hid ((L.take j).length ≤ 1000) := Lib.hid (by rw [List.length_take]; omega)
    by_cases hlt : j < n5
    · have hts : 5 ≤ t.size := by have := HTT.out.2; omega
      have hne : t.toList.isEmpty = false := by
        rw [Lib.toList_data]
        cases q : t.data.toList with
        | nil =>
          have : t.data.toList.length = t.size := by simp
          rw [q] at this; simp only [List.length_nil] at this; omega
        | cons a b => rfl
      have hbt : ∀ i (h : i < t.size), ((t[i].toNat : Nat) : Int) = b8 s.data.toList (j * 5 + i) := fun i h => by
        rw [bAt_at h, HTT.out.1, drop_getD]; rfl
      have hl0 : 0 < t.size := by omega
      have hl1 : 1 < t.size := by omega
      have hl2 : 2 < t.size := by omega
      have hl3 : 3 < t.size := by omega
      have hl4 : 4 < t.size := by omega
      have hi1 : (1 : Int) < (t.size : Int) := by omega
      have hi2 : (2 : Int) < (t.size : Int) := by omega
      have hi3 : (3 : Int) < (t.size : Int) := by omega
      have hi4 : (4 : Int) < (t.size : Int) := by omega
      have HGJ : Hid (g L j = ⟨b8 s.data.toList (j * 5), b8 s.data.toList (j * 5 + 2) * 65536 + b8 s.data.toList (j * 5 + 3) * 256 + b8 s.data.toList (j * 5 + 4), b8 s.data.toList (j * 5 + 1)⟩) := Lib.hid (HG.out j hlt)
      have hb0 := b8_lt s.data.toList (j * 5)
      have hv0 : IntKind.i64.wrap ((t[0]'hl0).toNat : Int) = b8 s.data.toList (j * 5) := by rw [hbt 0 hl0, IntKind.wrap_i64]; simp only [Nat.add_zero]; omega
      generalize b8 s.data.toList (j * 5) = b0 at HGJ hb0 hv0
      have hb1 := b8_lt s.data.toList (j * 5 + 1)
      have hv1 : IntKind.i64.wrap ((t[1]'hl1).toNat : Int) = b8 s.data.toList (j * 5 + 1) := by rw [hbt 1 hl1, IntKind.wrap_i64]; omega
      generalize b8 s.data.toList (j * 5 + 1) = b1 at HGJ hb1 hv1
      have hb2 := b8_lt s.data.toList (j * 5 + 2)
      have hv2 : IntKind.i64.wrap ((t[2]'hl2).toNat : Int) = b8 s.data.toList (j * 5 + 2) := by rw [hbt 2 hl2, IntKind.wrap_i64]; omega
      generalize b8 s.data.toList (j * 5 + 2) = b2 at HGJ hb2 hv2
      have hb3 := b8_lt s.data.toList (j * 5 + 3)
      have hv3 : IntKind.i64.wrap ((t[3]'hl3).toNat : Int) = b8 s.data.toList (j * 5 + 3) := by rw [hbt 3 hl3, IntKind.wrap_i64]; omega
      generalize b8 s.data.toList (j * 5 + 3) = b3 at HGJ hb3 hv3
      have hb4 := b8_lt s.data.toList (j * 5 + 4)
      have hv4 : IntKind.i64.wrap ((t[4]'hl4).toNat : Int) = b8 s.data.toList (j * 5 + 4) := by rw [hbt 4 hl4, IntKind.wrap_i64]; omega
      generalize b8 s.data.toList (j * 5 + 4) = b4 at HGJ hb4 hv4
      clear hbt
      have hx2 : IntKind.i64.wrap (b2 * 65536) = b2 * 65536 := by rw [IntKind.wrap_i64]; omega
      have hx3 : IntKind.i64.wrap (b3 * 256) = b3 * 256 := by rw [IntKind.wrap_i64]; omega
      obtain ⟨n1, hn1⟩ : ∃ n, b2 * 65536 + b3 * 256 = n := ⟨_, rfl⟩
      have ho1 : bits .or .i64 (b2 * 65536) (b3 * 256) = n1 := by
        rw [← hn1]; exact bits_join .i64 62 (by decide) wraps_i64 16 _ _ (by omega) (by omega) (by omega) (by omega) (by omega) (by omega)
      obtain ⟨n2, hn2⟩ : ∃ n, n1 + b4 = n := ⟨_, rfl⟩
      have ho2 : bits .or .i64 n1 b4 = n2 := by
        rw [← hn2]; exact bits_join .i64 62 (by decide) wraps_i64 8 _ _ (by omega) (by omega) (by omega) (by omega) (by omega) (by omega)
      have HGK : Hid (g L j = ⟨b0, n2, b1⟩) := Lib.hid (by rw [HGJ.out, hn1, hn2])
      have hsm : (⟨b0, n2, b1⟩ : T3).Small := ⟨⟨by simp only; omega, by simp only; omega⟩, ⟨by simp only; omega, by simp only; omega⟩, ⟨by simp only; omega, by simp only; omega⟩⟩
      have HM := Lib.hid (fun W => may_any ⟨b0, n2, b1⟩ hsm W)
      obtain ⟨tb, htb⟩ : ∃ b, keyB ⟨b0, n2, b1⟩ = b := ⟨_, rfl⟩
      rw [htb] at HM
      have HNO : Hid (tb = false → cc = 6 ∧ R = []) := Lib.hid fun h => by
        have : keysB L = false := by
          cases q : keysB L
          · rfl
          · have := keysB_iff.1 q j (by rw [HLL.out]; exact hlt)
            rw [HGK.out, htb, h] at this; cases this
        rw [HC.out, HR.out, this]; exact ⟨rfl, rfl⟩
      have HAL : Hid (tb = true → ∀ i, i < j + 1 → keyB (g L i) = true) := Lib.hid fun h i hi => by
        by_cases e : i = j
        · rw [e, HGK.out, htb, h]
        · exact HALL.out i (by omega)
      have HT : Hid (L.take (j + 1) = L.take j ++ [⟨b0, n2, b1⟩]) := Lib.hid (by rw [take_succ_g (by rw [HLL.out]; exact hlt), HGK.out])
      have HTX : Hid (Hid ((t.extract 5 t.size).data.toList = s.data.toList.drop ((j + 1) * 5) ∧ (t.extract 5 t.size).size + (j + 1) * 5 = n5 * 5)) := Lib.hid (Lib.hid ⟨by
        rw [ByteArray.data_extract, Array.toList_extract]
        rw [List.extract_eq_take_drop, HTT.out.1, List.drop_drop]
        rw [List.take_of_length_le (by rw [List.length_drop]; have h2 := HTT.out.2; have h3 := HSZ.out; have h4 : s.data.toList.length = s.size := by simp
                                       omega)]
        rw [show j * 5 + 5 = (j + 1) * 5 by omega], by rw [ByteArray.size_extract]; have := HTT.out.2; omega⟩)
      have HTS : Hid ((t.extract 5 t.size).size < t.size) := Lib.hid (by rw [ByteArray.size_extract]; omega)
      unfold tagg at HM
      simp only at HM
      clear htb hsm hn1 hn2 HGJ HGK hb0 hb1 hb2 hb3 hb4 HTT HALL
      generalize L.take j = X at HO HT HLN
      obtain ⟨AA, cA, rfl⟩ := own_shape HO.out
      go_upto_region 6 with (fail)
      refine wp_region_held_drew (S := fun _ => True) (by kernel_rfl) trivial (fun hHeld => ?_)
      refine wpAnyH_take (i := 0) (v := ?_) rfl (by kernel_rfl) (by kernel_rfl) (by kernel_rfl) (fun _ _ _ h => h) (Or.inl ⟨by rfl, ?_⟩) (by assumption) ?_
      rotate_left
      · intro w' hSw; first | (go_simp; done) | (go_simp; with_reducible rfl)
      simp only [Act.put, List.getElem_toArray, List.getElem_cons_zero, List.setIfInBounds_toArray, List.set_cons_zero, List.set_cons_succ]
      refine wpAnyH_take (i := 1) (v := ?_) rfl (by kernel_rfl) (by kernel_rfl) (by kernel_rfl) (fun _ _ _ h => h) (Or.inl ⟨by rfl, ?_⟩) (by assumption) ?_
      rotate_left
      · intro w' hSw; first | (go_simp; done) | (go_simp; with_reducible rfl)
      simp only [Act.put, List.getElem_toArray, List.getElem_cons_zero, List.getElem_cons_succ, List.setIfInBounds_toArray, List.set_cons_zero, List.set_cons_succ]
      refine wpAnyH_take (i := 2) (v := ?_) rfl (by kernel_rfl) (by kernel_rfl) (by kernel_rfl) (fun _ _ _ h => h) (Or.inl ⟨by rfl, ?_⟩) (by assumption) ?_
      rotate_left
      · intro w' hSw; first | (go_simp; done) | (go_simp; with_reducible rfl)
      simp only [Act.put, List.getElem_toArray, List.getElem_cons_zero, List.getElem_cons_succ, List.setIfInBounds_toArray, List.set_cons_zero, List.set_cons_succ]
      refine wpAnyH_take (i := 3) (v := ?_) rfl (by kernel_rfl) (by kernel_rfl) (by kernel_rfl) (fun _ _ _ h => h) (Or.inl ⟨by rfl, ?_⟩) (by assumption) ?_
      rotate_left
      · intro w' hSw; first | (go_simp; done) | (go_simp; with_reducible rfl)
      simp only [Act.put, List.getElem_toArray, List.getElem_cons_zero, List.getElem_cons_succ, List.setIfInBounds_toArray, List.set_cons_zero, List.set_cons_succ]
      refine wpAnyH_take (i := 4) (v := ?_) rfl (by kernel_rfl) (by kernel_rfl) (by kernel_rfl) (fun _ _ _ h => h) (Or.inl ⟨by rfl, ?_⟩) (by assumption) ?_
      rotate_left
      · intro w' hSw; first | (go_simp; done) | (go_simp; with_reducible rfl)
      simp only [Act.put, List.getElem_toArray, List.getElem_cons_zero, List.getElem_cons_succ, List.setIfInBounds_toArray, List.set_cons_zero, List.set_cons_succ]
      refine wpAnyH_take (i := 5) (v := ?_) rfl (by kernel_rfl) (by kernel_rfl) (by kernel_rfl) (fun _ _ _ h => h) (Or.inl ⟨by rfl, ?_⟩) (by assumption) ?_
      rotate_left
      · intro w' hSw; first | (go_simp; done) | (go_simp; with_reducible rfl)
      simp only [Act.put, List.getElem_toArray, List.getElem_cons_zero, List.getElem_cons_succ, List.setIfInBounds_toArray, List.set_cons_zero, List.set_cons_succ]
      refine wpAnyH_take (i := 6) (v := ?_) rfl (by kernel_rfl) (by kernel_rfl) (by kernel_rfl) (fun _ _ _ h => h) (Or.inl ⟨by rfl, ?_⟩) (by assumption) ?_
      rotate_left
      · intro w' hSw; first | (go_simp; done) | (go_simp; with_reducible rfl)
      simp only [Act.put, List.getElem_toArray, List.getElem_cons_zero, List.getElem_cons_succ, List.setIfInBounds_toArray, List.set_cons_zero, List.set_cons_succ]
      refine wpAnyH_take (i := 7) (v := ?_) rfl (by kernel_rfl) (by kernel_rfl) (by kernel_rfl) (fun _ _ _ h => h) (Or.inl ⟨by rfl, ?_⟩) (by assumption) ?_
      rotate_left
      · intro w' hSw; first | (go_simp; done) | (go_simp; with_reducible rfl)
      simp only [Act.put, List.getElem_toArray, List.getElem_cons_zero, List.getElem_cons_succ, List.setIfInBounds_toArray, List.set_cons_zero, List.set_cons_succ]
      refine wpAnyH_take (i := 8) (v := ?_) rfl (by kernel_rfl) (by kernel_rfl) (by kernel_rfl) (fun _ _ _ h => h) (Or.inl ⟨by rfl, ?_⟩) (by assumption) ?_
      rotate_left
      · intro w' hSw; first | (go_simp; done) | (go_simp; with_reducible rfl)
      simp only [Act.put, List.getElem_toArray, List.getElem_cons_zero, List.getElem_cons_succ, List.setIfInBounds_toArray, List.set_cons_zero, List.set_cons_succ]
      refine wpAnyH_take (i := 9) (v := ?_) rfl (by kernel_rfl) (by kernel_rfl) (by kernel_rfl) (fun _ _ _ h => h) (Or.inl ⟨by rfl, ?_⟩) (by assumption) ?_
      rotate_left
      · intro w' hSw; first | (go_simp; done) | (go_simp; with_reducible rfl)
      simp only [Act.put, List.getElem_toArray, List.getElem_cons_zero, List.getElem_cons_succ, List.setIfInBounds_toArray, List.set_cons_zero, List.set_cons_succ]
      refine wpAnyH_take (i := 10) (v := ?_) rfl (by kernel_rfl) (by kernel_rfl) (by kernel_rfl) (fun _ _ _ h => h) (Or.inl ⟨by rfl, ?_⟩) (by assumption) ?_
      rotate_left
      · intro w' hSw; first | (go_simp; done) | (go_simp; with_reducible rfl)
      simp only [Act.put, List.getElem_toArray, List.getElem_cons_zero, List.getElem_cons_succ, List.setIfInBounds_toArray, List.set_cons_zero, List.set_cons_succ]
      refine wpAnyH_take (i := 11) (v := ?_) rfl (by kernel_rfl) (by kernel_rfl) (by kernel_rfl) (fun _ _ _ h => h) (Or.inl ⟨by rfl, ?_⟩) (by assumption) ?_
      rotate_left
      · intro w' hSw; first | (go_simp; done) | (go_simp; with_reducible rfl)
      simp only [Act.put, List.getElem_toArray, List.getElem_cons_zero, List.getElem_cons_succ, List.setIfInBounds_toArray, List.set_cons_zero, List.set_cons_succ]
      refine wpAnyH_take (i := 12) (v := ?_) rfl (by kernel_rfl) (by kernel_rfl) (by kernel_rfl) (fun _ _ _ h => h) (Or.inl ⟨by rfl, ?_⟩) (by assumption) ?_
      rotate_left
      · intro w' hSw; first | (go_simp; done) | (go_simp; with_reducible rfl)
      simp only [Act.put, List.getElem_toArray, List.getElem_cons_zero, List.getElem_cons_succ, List.setIfInBounds_toArray, List.set_cons_zero, List.set_cons_succ]
      refine wpAnyH_take (i := 13) (v := ?_) rfl (by kernel_rfl) (by kernel_rfl) (by kernel_rfl) (fun _ _ _ h => h) (Or.inl ⟨by rfl, ?_⟩) (by assumption) ?_
      rotate_left
      · intro w' hSw; first | (go_simp; done) | (go_simp; with_reducible rfl)
      simp only [Act.put, List.getElem_toArray, List.getElem_cons_zero, List.getElem_cons_succ, List.setIfInBounds_toArray, List.set_cons_zero, List.set_cons_succ]
      refine wpAnyH_take (i := 14) (v := ?_) rfl (by kernel_rfl) (by kernel_rfl) (by kernel_rfl) (fun _ _ _ h => h) (Or.inl ⟨by rfl, ?_⟩) (by assumption) ?_
      rotate_left
      · intro w' hSw; first | (go_simp; done) | (go_simp; with_reducible rfl)
      simp only [Act.put, List.getElem_toArray, List.getElem_cons_zero, List.getElem_cons_succ, List.setIfInBounds_toArray, List.set_cons_zero, List.set_cons_succ]
      refine wpAnyH_take (i := 15) (v := ?_) rfl (by kernel_rfl) (by kernel_rfl) (by kernel_rfl) (fun _ _ _ h => h) (Or.inl ⟨by rfl, ?_⟩) (by assumption) ?_
      rotate_left
      · intro w' hSw; first | (go_simp; done) | (go_simp; with_reducible rfl)
      simp only [Act.put, List.getElem_toArray, List.getElem_cons_zero, List.getElem_cons_succ, List.setIfInBounds_toArray, List.set_cons_zero, List.set_cons_succ]
      refine wpAnyH_take (i := 16) (v := ?_) rfl (by kernel_rfl) (by kernel_rfl) (by kernel_rfl) (fun _ _ _ h => h) (Or.inl ⟨by rfl, ?_⟩) (by assumption) ?_
      rotate_left
      · intro w' hSw; first | (go_simp; done) | (go_simp; with_reducible rfl)
      simp only [Act.put, List.getElem_toArray, List.getElem_cons_zero, List.getElem_cons_succ, List.setIfInBounds_toArray, List.set_cons_zero, List.set_cons_succ]
      refine wpAnyH_take (i := 17) (v := ?_) rfl (by kernel_rfl) (by kernel_rfl) (by kernel_rfl) (fun _ _ _ h => h) (Or.inl ⟨by rfl, ?_⟩) (by assumption) ?_
      rotate_left
      · intro w' hSw; first | (go_simp; done) | (go_simp; with_reducible rfl)
      simp only [Act.put, List.getElem_toArray, List.getElem_cons_zero, List.getElem_cons_succ, List.setIfInBounds_toArray, List.set_cons_zero, List.set_cons_succ]
      refine wpAnyH_take (i := 18) (v := ?_) rfl (by kernel_rfl) (by kernel_rfl) (by kernel_rfl) (fun _ _ _ h => h) (Or.inl ⟨by rfl, ?_⟩) (by assumption) ?_
      rotate_left
      · intro w' hSw; first | (go_simp; done) | (go_simp; with_reducible rfl)
      simp only [Act.put, List.getElem_toArray, List.getElem_cons_zero, List.getElem_cons_succ, List.setIfInBounds_toArray, List.set_cons_zero, List.set_cons_succ]
      refine wpAnyH_take (i := 19) (v := ?_) rfl (by kernel_rfl) (by kernel_rfl) (by kernel_rfl) (fun _ _ _ h => h) (Or.inl ⟨by rfl, ?_⟩) (by assumption) ?_
      rotate_left
      · intro w' hSw; first | (go_simp; done) | (go_simp; with_reducible rfl)
      simp only [Act.put, List.getElem_toArray, List.getElem_cons_zero, List.getElem_cons_succ, List.setIfInBounds_toArray, List.set_cons_zero, List.set_cons_succ]
      refine wpAnyH_ready (rs := [20]) (by kernel_rfl) (by simp) ?_
      refine AllReadyH.cons rfl (fun K hK => ?_) ?_
      · go_simp
        change K _ (wr.drew.alloc (kbx ⟨0, 0, 0⟩))
        refine hK.out _ _ trivial (fun hHeld => ?_)
        clear hK K
        refine wpAnyH_ready (rs := [21]) (by kernel_rfl) (by simp) ?_
        refine AllReadyH.cons rfl (fun K hK => ?_) ?_
        · go_simp
          change K _ ((wr.alloc (kbx ⟨b0, n2, b1⟩)).drew)
          refine hK.out _ _ trivial (fun hHeld => ?_)
          clear hK K
          refine wpAnyH_done (by kernel_rfl) ?_ _
          have HX2 : Hid (((wr.alloc (kbx ⟨b0, n2, b1⟩)).drew).heap[wr.heap.size]? = some (kbx ⟨b0, n2, b1⟩)) := Lib.hid (heap_alloc_new _ _)
          have HB2 : Hid (Below wr.heap.size wr ((wr.alloc (kbx ⟨b0, n2, b1⟩)).drew)) := Lib.hid ((Below.refl _ _).alloc (Nat.le_refl _) _).drew
          generalize ((wr.alloc (kbx ⟨b0, n2, b1⟩)).drew) = w2 at HX2 HB2 ⊢
          have HO2 := Lib.hid (HO.out.kept HB2.out)
          have HBW := Lib.hid (HBL.out.trans (HB2.out.mono HBL.out.size))
          have HUP : Hid (w0.heap.size ≤ w2.heap.size) := Lib.hid HBW.out.size
          have c0 : w2.cell? ⟨wr.heap.size, 0, none⟩ = some (.int .i64 b0) := Blk.cell HX2.out 0
          have c1 : w2.cell? ⟨wr.heap.size, 1, none⟩ = some (.int .i64 n2) := Blk.cell HX2.out 1
          have c2 : w2.cell? ⟨wr.heap.size, 2, none⟩ = some (.int .i64 b1) := Blk.cell HX2.out 2
          generalize wr.heap.size = bx at HX2 c0 c1 c2 ⊢
          go_wp2_with fail
          refine (HM.out _).mono ?_; rintro e w3 ⟨rfl, hb⟩
          have HX3 := Lib.hid (Blk.kept HX2.out hb)
          have HO3 := Lib.hid (HO2.out.kept hb)
          have HB3 := Lib.hid (HBW.out.trans (hb.mono HUP.out))
          clear hb c0 c1 c2
          cases tb with
          | false =>
            obtain rfl : cc = 6 := (HNO.out rfl).1
            obtain rfl : R = [] := (HNO.out rfl).2
            go_wp2_with fail
            go_ret2
            exact ⟨_, rfl, Ts.nil _, HB3.out⟩
          | true =>
            have HAL2 := Lib.hid (HAL.out rfl)
            have c0 : w3.cell? ⟨bx, 0, none⟩ = some (.int .i64 b0) := Blk.cell HX3.out 0
            have c1 : w3.cell? ⟨bx, 1, none⟩ = some (.int .i64 n2) := Blk.cell HX3.out 1
            have c2 : w3.cell? ⟨bx, 2, none⟩ = some (.int .i64 b1) := Blk.cell HX3.out 2
            have HUP3 : Hid (w0.heap.size ≤ w3.heap.size) := Lib.hid HB3.out.size
            have HBA : Hid (∀ ob, Below w0.heap.size w0 (w3.alloc ob)) := Lib.hid fun ob => HB3.out.alloc HUP3.out ob
            have HOA : Hid (∀ ob, OwnTs (w3.alloc ob) w0.heap.size (.slice AA X.length cA) X) := Lib.hid fun ob => HO3.out.kept ((Below.refl _ _).alloc (Nat.le_refl _) _)
            have HONE : Hid (∀ (W : World) (cap : Nat), Ts (W.alloc (kbx ⟨b0, n2, b1⟩)) (.slice (some ⟨W.heap.size, 0, none⟩) 1 cap) [⟨b0, n2, b1⟩]) := Lib.hid fun W cap => Ts.one W _ _ _ _ rfl
            go_wp2_with (at_builtin; refine wp_append_ts rfl rfl w0.heap.size _ _ X [⟨b0, n2, b1⟩] rfl (HOA.out _) rfl (HONE.out _ _) (by have := HLN.out; simp only [List.length_cons, List.length_nil]; omega) (HBA.out _).size ?_; intro v1 w4 ho1 hg1 hat1)
            have HO4 := Lib.hid ho1
            have HB4 : Hid (Below w0.heap.size w0 w4) := Lib.hid (below_ts (HBA.out _) hg1 (HBA.out _).size (HOA.out _))
            clear ho1 hg1 hat1
            go_wp2_with fail
            go_roundw
            case rel => exact ⟨j + 1, _, by omega, rfl, HTX.out, HAL2, Lib.hid (by rw [HT.out]; exact HO4.out), HB4⟩
            case measure => simp only [lenS]; have := HTS.out; omega
        exact AllReadyH.nil
      exact AllReadyH.nil
    · obtain rfl : j = n5 := by omega
      have hne : t.toList.isEmpty = true := by
        have h0 : t.size = 0 := by have := HTT.out.2; omega
        have hl : t.data.toList.length = 0 := by rw [show t.data.toList.length = t.size by simp]; exact h0
        rw [Lib.toList_data, List.eq_nil_of_length_eq_zero hl]; rfl
      have hkb : keysB L = true := keysB_iff.2 fun i hi => HALL.out i (by rw [← HLL.out]; exact hi)
      obtain rfl : cc = 0 := by rw [HC.out, hkb]; rfl
      have HRL : Hid (R = L.take j) := Lib.hid (by rw [HR.out, hkb, List.take_of_length_le (by rw [HLL.out]; omega)]; rfl)
      generalize L.take j = X at HO HRL
      obtain ⟨AA, cA, rfl⟩ := own_shape HO.out
      clear HC HR HTT HALL hkb
      go_wp2_with fail
      go_ret2
      exact ⟨_, rfl, by rw [HRL.out]; exact HO.out.ts, HBL.out⟩
theorem devTake : DevTake := by
  intro s w hs
  have hsz : s.data.toList.length = s.size := by simp
  by_cases h5 : s.size % 5 = 0
  · by_cases h1 : s.size ≤ 1000
    · exact take_loop s w h5 h1
    · have e : takeOk s.data.toList = false := by unfold takeOk; rw [hsz, decide_eq_false h1]; simp
      have ht : ((s.size : Int)).tmod 5 = 0 := by rw [Int.tmod_eq_emod_of_nonneg (by omega)]; omega
      have hm : decide (1000 < (s.size : Int)) = true := decide_eq_true (by omega)
      unfold codeK2 gotK
      rw [e]
      go_enter Tryd.func19, Tryd.ntmps19
      go_wp2_with fail
      go_ret2
      exact ⟨_, rfl, Ts.nil _, Below.refl _ _⟩
  · have e : takeOk s.data.toList = false := by unfold takeOk; rw [hsz, decide_eq_false h5]; rfl
    have ht : (((s.size : Int)).tmod 5 != 0) = true := by rw [bne_iff_ne, Int.tmod_eq_emod_of_nonneg (by omega)]; omega
    unfold codeK2 gotK
    rw [e]
    go_enter Tryd.func19, Tryd.ntmps19
    go_wp2_with fail
    go_ret2
    exact ⟨_, rfl, Ts.nil _, Below.refl _ _⟩
end Key
end Go.Proofs.YtkkpdfjbgiijlaaDoor
