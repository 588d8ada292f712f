/- Which keys a text is: the page's. -/
import Derived.Test.YtkkpdfjbgiijlaaDoorKeyText
import Derived.Deep.RegionHeld3
namespace Go.Proofs.YtkkpdfjbgiijlaaDoor
set_option maxRecDepth 100000
open Go.RowKit Tri KeyM Byt
namespace Key

/-- A byte of a text, as a number. -/
def bAt (s : ByteArray) (i : Nat) : Int := ((s.data.toList.getD i 0).toNat : Int)
theorem bAt_get {s : ByteArray} {i : Nat} (h : i < s.size) : ((s[i].toNat : Nat) : Int) = bAt s i := by
  unfold bAt
  have hl : i < s.data.toList.length := by simpa using h
  have : s.data.toList.getD i 0 = s[i] := by
    rw [List.getD_eq_getElem?_getD, List.getElem?_eq_getElem hl]
    simp; rfl
  rw [this]
theorem bAt_lt (s : ByteArray) (i : Nat) : 0 ≤ bAt s i ∧ bAt s i < 256 := by
  unfold bAt
  have := (s.data.toList.getD i 0).toNat_lt
  omega
set_option maxHeartbeats 1600000 in
theorem refTake_loop (s : ByteArray) (w : World) (h5 : s.size % 5 = 0) (hs : s.size ≤ 1000) :
    Calls Tryd.prog 20 #[.string s] w fun e w' => ∃ v, e = .returned (.tuple #[v, .bool (keysB (keysOf s.data.toList))]) ∧ OwnTs w' w.heap.size v (if keysB (keysOf s.data.toList) = true then keysOf s.data.toList else []) ∧ Below w.heap.size w w' := by
  have ht : ((s.size : Int)).tmod 5 = 0 := by rw [Int.tmod_eq_emod_of_nonneg (by omega)]; omega
  have hm : decide (1000 < (s.size : Int)) = false := decide_eq_false (by omega)
  obtain ⟨bb, hbb⟩ : ∃ b, keysB (keysOf s.data.toList) = b := ⟨_, rfl⟩
  obtain ⟨R, hR⟩ : ∃ R, (if bb = true then keysOf s.data.toList else []) = R := ⟨_, rfl⟩
  have HBQ := Lib.hid hbb
  have HR := Lib.hid hR
  rw [hbb, hR]
  clear hbb hR
  go_enter Tryd.func20, Tryd.ntmps20
  go_wp2_with fail
  go_loopw [4, 5] (fun v i wr => ∃ j : Nat, j ≤ s.size / 5 ∧ i = .int .i64 ((j * 5 : Nat) : Int) ∧ OwnTs wr w.heap.size v ((keysOf s.data.toList).take j) ∧ Below w.heap.size w wr) (fun _ i _ => s.size - (intOf i).toNat)
  case atStart => exact ⟨0, by omega, rfl, OwnTs.nil _ _, Below.refl _ _⟩
  case round =>
    obtain ⟨j, hj, rfl, hown, hbl⟩ := hrel
    obtain ⟨k, hk⟩ : ∃ k, j * 5 = k := ⟨_, rfl⟩
    rw [hk]
    by_cases hlt : k < s.size
    · have hk5 : k + 4 < s.size := by omega
      have HKG : Hid (keyAt s.data.toList k = ⟨bAt s k, bAt s (k + 2) * 65536 + bAt s (k + 3) * 256 + bAt s (k + 4), bAt s (k + 1)⟩) := Lib.hid rfl
      have hw5 : IntKind.i64.wrap ((k : Int) + 5) = (((j + 1) * 5 : Nat) : Int) := by rw [IntKind.wrap_i64]; omega
      obtain ⟨k1, hk1⟩ : ∃ q, k + 1 = q := ⟨_, rfl⟩
      have hl1 : k1 < s.size := by omega
      have hw1 : IntKind.i64.wrap ((k : Int) + 1) = (k1 : Int) := by rw [IntKind.wrap_i64]; omega
      obtain ⟨k2, hk2⟩ : ∃ q, k + 2 = q := ⟨_, rfl⟩
      have hl2 : k2 < s.size := by omega
      have hw2 : IntKind.i64.wrap ((k : Int) + 2) = (k2 : Int) := by rw [IntKind.wrap_i64]; omega
      obtain ⟨k3, hk3⟩ : ∃ q, k + 3 = q := ⟨_, rfl⟩
      have hl3 : k3 < s.size := by omega
      have hw3 : IntKind.i64.wrap ((k : Int) + 3) = (k3 : Int) := by rw [IntKind.wrap_i64]; omega
      obtain ⟨k4, hk4⟩ : ∃ q, k + 4 = q := ⟨_, rfl⟩
      have hl4 : k4 < s.size := by omega
      have hw4 : IntKind.i64.wrap ((k : Int) + 4) = (k4 : Int) := by rw [IntKind.wrap_i64]; omega
      rw [hk1, hk2, hk3, hk4] at HKG
      have hb0 := bAt_lt s k
      have hv0 : IntKind.i64.wrap ((s[k]'hlt).toNat : Int) = bAt s k := by rw [bAt_get hlt, IntKind.wrap_i64]; omega
      generalize bAt s k = b0 at HKG hb0 hv0
      have hb1 := bAt_lt s k1
      have hv1 : IntKind.i64.wrap ((s[k1]'hl1).toNat : Int) = bAt s k1 := by rw [bAt_get hl1, IntKind.wrap_i64]; omega
      generalize bAt s k1 = b1 at HKG hb1 hv1
      have hb2 := bAt_lt s k2
      have hv2 : IntKind.i64.wrap ((s[k2]'hl2).toNat : Int) = bAt s k2 := by rw [bAt_get hl2, IntKind.wrap_i64]; omega
      generalize bAt s k2 = b2 at HKG hb2 hv2
      have hb3 := bAt_lt s k3
      have hv3 : IntKind.i64.wrap ((s[k3]'hl3).toNat : Int) = bAt s k3 := by rw [bAt_get hl3, IntKind.wrap_i64]; omega
      generalize bAt s k3 = b3 at HKG hb3 hv3
      have hb4 := bAt_lt s k4
      have hv4 : IntKind.i64.wrap ((s[k4]'hl4).toNat : Int) = bAt s k4 := by rw [bAt_get hl4, IntKind.wrap_i64]; omega
      generalize bAt s k4 = b4 at HKG hb4 hv4
      have hx2 : IntKind.i64.wrap (b2 * 65536) = b2 * 65536 := by rw [IntKind.wrap_i64]; omega
      have hx3 : IntKind.i64.wrap (b3 * 256) = b3 * 256 := by rw [IntKind.wrap_i64]; omega
      obtain ⟨n1, hn1⟩ : ∃ n, b2 * 65536 + b3 * 256 = n := ⟨_, rfl⟩
      have ho1 : bits .or .i64 (b2 * 65536) (b3 * 256) = n1 := by
        rw [← hn1]; exact bits_join .i64 62 (by decide) wraps_i64 16 _ _ (by omega) (by omega) (by omega) (by omega) (by omega) (by omega)
      obtain ⟨n2, hn2⟩ : ∃ n, n1 + b4 = n := ⟨_, rfl⟩
      have ho2 : bits .or .i64 n1 b4 = n2 := by
        rw [← hn2]; exact bits_join .i64 62 (by decide) wraps_i64 8 _ _ (by omega) (by omega) (by omega) (by omega) (by omega) (by omega)
      have HT : Hid ((keysOf s.data.toList).take (j + 1) = (keysOf s.data.toList).take j ++ [⟨b0, n2, b1⟩]) := Lib.hid (by
        have hjl : j < (keysOf s.data.toList).length := by rw [keysOf_length]; simp; omega
        rw [take_succ_g hjl, keysOf_get (by rw [keysOf_length] at hjl; exact hjl), hk, HKG.out, hn1, hn2])
      have HLN : Hid (((keysOf s.data.toList).take j).length ≤ 1000) := Lib.hid (by rw [List.length_take, keysOf_length]; simp; omega)
      generalize (keysOf s.data.toList).take j = X at hown HT HLN
      have hbase : w.heap.size ≤ wr.heap.size := hbl.size
      have HSA : Hid (OwnTs (wr.drew.alloc (.cells #[.int .i64 b0, .int .i64 n2, .int .i64 b1] 32)) w.heap.size u4 X) := Lib.hid (hown.kept ((Below.refl _ _).drew.alloc (Nat.le_refl _) _))
      have HBA : Hid (Below w.heap.size w (wr.drew.alloc (.cells #[.int .i64 b0, .int .i64 n2, .int .i64 b1] 32))) := Lib.hid (hbl.drew.alloc hbase _)
      have HUP : Hid (w.heap.size ≤ (wr.drew.alloc (.cells #[.int .i64 b0, .int .i64 n2, .int .i64 b1] 32)).heap.size) := Lib.hid HBA.out.size
      have hmaxl : X.length + 1 ≤ maxLen := by have := HLN.out; simp only [maxLen]; omega
      have hbytes : (X.length + 1) * 24 ≤ 140737488355328 := by have := HLN.out; omega
      obtain ⟨i, hi, hz, h1s, h1b⟩ := tri_row
      have HI := Lib.hid hi
      have HZ := Lib.hid hz
      have H1S := Lib.hid h1s
      have H1B := Lib.hid h1b
      clear hi hz h1s h1b hn1 hn2 HKG hb0 hb1 hb2 hb3 hb4
      obtain ⟨AA, cA, rfl⟩ := own_shape hown
      clear hown
      go_upto_region 7 with (fail)
      refine wp_region_held_drew (S := fun _ => True) (by kernel_rfl) trivial (fun hHeld => ?_)
      refine wpAnyH_take (i := 0) (v := ?_) rfl (by kernel_rfl) (by kernel_rfl) (by kernel_rfl) (fun _ _ _ h => h) (Or.inl ⟨by rfl, ?_⟩) (by assumption) ?_
      rotate_left
      · intro w' hSw; first | (go_simp; done) | (go_simp; with_reducible rfl)
      simp only [Act.put, List.getElem_toArray, List.getElem_cons_zero, List.setIfInBounds_toArray, List.set_cons_zero, List.set_cons_succ]
      refine wpAnyH_take (i := 1) (v := ?_) rfl (by kernel_rfl) (by kernel_rfl) (by kernel_rfl) (fun _ _ _ h => h) (Or.inl ⟨by rfl, ?_⟩) (by assumption) ?_
      rotate_left
      · intro w' hSw; first | (go_simp; done) | (go_simp; with_reducible rfl)
      simp only [Act.put, List.getElem_toArray, List.getElem_cons_zero, List.getElem_cons_succ, List.setIfInBounds_toArray, List.set_cons_zero, List.set_cons_succ]
      refine wpAnyH_take (i := 2) (v := ?_) rfl (by kernel_rfl) (by kernel_rfl) (by kernel_rfl) (fun _ _ _ h => h) (Or.inl ⟨by rfl, ?_⟩) (by assumption) ?_
      rotate_left
      · intro w' hSw; first | (go_simp; done) | (go_simp; with_reducible rfl)
      simp only [Act.put, List.getElem_toArray, List.getElem_cons_zero, List.getElem_cons_succ, List.setIfInBounds_toArray, List.set_cons_zero, List.set_cons_succ]
      refine wpAnyH_take (i := 3) (v := ?_) rfl (by kernel_rfl) (by kernel_rfl) (by kernel_rfl) (fun _ _ _ h => h) (Or.inl ⟨by rfl, ?_⟩) (by assumption) ?_
      rotate_left
      · intro w' hSw; first | (go_simp; done) | (go_simp; with_reducible rfl)
      simp only [Act.put, List.getElem_toArray, List.getElem_cons_zero, List.getElem_cons_succ, List.setIfInBounds_toArray, List.set_cons_zero, List.set_cons_succ]
      refine wpAnyH_take (i := 4) (v := ?_) rfl (by kernel_rfl) (by kernel_rfl) (by kernel_rfl) (fun _ _ _ h => h) (Or.inl ⟨by rfl, ?_⟩) (by assumption) ?_
      rotate_left
      · intro w' hSw; first | (go_simp; done) | (go_simp; with_reducible rfl)
      simp only [Act.put, List.getElem_toArray, List.getElem_cons_zero, List.getElem_cons_succ, List.setIfInBounds_toArray, List.set_cons_zero, List.set_cons_succ]
      refine wpAnyH_take (i := 5) (v := ?_) rfl (by kernel_rfl) (by kernel_rfl) (by kernel_rfl) (fun _ _ _ h => h) (Or.inl ⟨by rfl, ?_⟩) (by assumption) ?_
      rotate_left
      · intro w' hSw; first | (go_simp; done) | (go_simp; with_reducible rfl)
      simp only [Act.put, List.getElem_toArray, List.getElem_cons_zero, List.getElem_cons_succ, List.setIfInBounds_toArray, List.set_cons_zero, List.set_cons_succ]
      refine wpAnyH_take (i := 6) (v := ?_) rfl (by kernel_rfl) (by kernel_rfl) (by kernel_rfl) (fun _ _ _ h => h) (Or.inl ⟨by rfl, ?_⟩) (by assumption) ?_
      rotate_left
      · intro w' hSw; first | (go_simp; done) | (go_simp; with_reducible rfl)
      simp only [Act.put, List.getElem_toArray, List.getElem_cons_zero, List.getElem_cons_succ, List.setIfInBounds_toArray, List.set_cons_zero, List.set_cons_succ]
      refine wpAnyH_take (i := 7) (v := ?_) rfl (by kernel_rfl) (by kernel_rfl) (by kernel_rfl) (fun _ _ _ h => h) (Or.inl ⟨by rfl, ?_⟩) (by assumption) ?_
      rotate_left
      · intro w' hSw; first | (go_simp; done) | (go_simp; with_reducible rfl)
      simp only [Act.put, List.getElem_toArray, List.getElem_cons_zero, List.getElem_cons_succ, List.setIfInBounds_toArray, List.set_cons_zero, List.set_cons_succ]
      refine wpAnyH_take (i := 8) (v := ?_) rfl (by kernel_rfl) (by kernel_rfl) (by kernel_rfl) (fun _ _ _ h => h) (Or.inl ⟨by rfl, ?_⟩) (by assumption) ?_
      rotate_left
      · intro w' hSw; first | (go_simp; done) | (go_simp; with_reducible rfl)
      simp only [Act.put, List.getElem_toArray, List.getElem_cons_zero, List.getElem_cons_succ, List.setIfInBounds_toArray, List.set_cons_zero, List.set_cons_succ]
      refine wpAnyH_take (i := 9) (v := ?_) rfl (by kernel_rfl) (by kernel_rfl) (by kernel_rfl) (fun _ _ _ h => h) (Or.inl ⟨by rfl, ?_⟩) (by assumption) ?_
      rotate_left
      · intro w' hSw; first | (go_simp; done) | (go_simp; with_reducible rfl)
      simp only [Act.put, List.getElem_toArray, List.getElem_cons_zero, List.getElem_cons_succ, List.setIfInBounds_toArray, List.set_cons_zero, List.set_cons_succ]
      refine wpAnyH_take (i := 10) (v := ?_) rfl (by kernel_rfl) (by kernel_rfl) (by kernel_rfl) (fun _ _ _ h => h) (Or.inl ⟨by rfl, ?_⟩) (by assumption) ?_
      rotate_left
      · intro w' hSw; first | (go_simp; done) | (go_simp; with_reducible rfl)
      simp only [Act.put, List.getElem_toArray, List.getElem_cons_zero, List.getElem_cons_succ, List.setIfInBounds_toArray, List.set_cons_zero, List.set_cons_succ]
      refine wpAnyH_take (i := 11) (v := ?_) rfl (by kernel_rfl) (by kernel_rfl) (by kernel_rfl) (fun _ _ _ h => h) (Or.inl ⟨by rfl, ?_⟩) (by assumption) ?_
      rotate_left
      · intro w' hSw; first | (go_simp; done) | (go_simp; with_reducible rfl)
      simp only [Act.put, List.getElem_toArray, List.getElem_cons_zero, List.getElem_cons_succ, List.setIfInBounds_toArray, List.set_cons_zero, List.set_cons_succ]
      refine wpAnyH_take (i := 12) (v := ?_) rfl (by kernel_rfl) (by kernel_rfl) (by kernel_rfl) (fun _ _ _ h => h) (Or.inl ⟨by rfl, ?_⟩) (by assumption) ?_
      rotate_left
      · intro w' hSw; first | (go_simp; done) | (go_simp; with_reducible rfl)
      simp only [Act.put, List.getElem_toArray, List.getElem_cons_zero, List.getElem_cons_succ, List.setIfInBounds_toArray, List.set_cons_zero, List.set_cons_succ]
      refine wpAnyH_take (i := 13) (v := ?_) rfl (by kernel_rfl) (by kernel_rfl) (by kernel_rfl) (fun _ _ _ h => h) (Or.inl ⟨by rfl, ?_⟩) (by assumption) ?_
      rotate_left
      · intro w' hSw; first | (go_simp; done) | (go_simp; with_reducible rfl)
      simp only [Act.put, List.getElem_toArray, List.getElem_cons_zero, List.getElem_cons_succ, List.setIfInBounds_toArray, List.set_cons_zero, List.set_cons_succ]
      refine wpAnyH_take (i := 14) (v := ?_) rfl (by kernel_rfl) (by kernel_rfl) (by kernel_rfl) (fun _ _ _ h => h) (Or.inl ⟨by rfl, ?_⟩) (by assumption) ?_
      rotate_left
      · intro w' hSw; first | (go_simp; done) | (go_simp; with_reducible rfl)
      simp only [Act.put, List.getElem_toArray, List.getElem_cons_zero, List.getElem_cons_succ, List.setIfInBounds_toArray, List.set_cons_zero, List.set_cons_succ]
      refine wpAnyH_take (i := 15) (v := ?_) rfl (by kernel_rfl) (by kernel_rfl) (by kernel_rfl) (fun _ _ _ h => h) (Or.inl ⟨by rfl, ?_⟩) (by assumption) ?_
      rotate_left
      · intro w' hSw; first | (go_simp; done) | (go_simp; with_reducible rfl)
      simp only [Act.put, List.getElem_toArray, List.getElem_cons_zero, List.getElem_cons_succ, List.setIfInBounds_toArray, List.set_cons_zero, List.set_cons_succ]
      refine wpAnyH_take (i := 16) (v := ?_) rfl (by kernel_rfl) (by kernel_rfl) (by kernel_rfl) (fun _ _ _ h => h) (Or.inl ⟨by rfl, ?_⟩) (by assumption) ?_
      rotate_left
      · intro w' hSw; first | (go_simp; done) | (go_simp; with_reducible rfl)
      simp only [Act.put, List.getElem_toArray, List.getElem_cons_zero, List.getElem_cons_succ, List.setIfInBounds_toArray, List.set_cons_zero, List.set_cons_succ]
      refine wpAnyH_take (i := 17) (v := ?_) rfl (by kernel_rfl) (by kernel_rfl) (by kernel_rfl) (fun _ _ _ h => h) (Or.inl ⟨by rfl, ?_⟩) (by assumption) ?_
      rotate_left
      · intro w' hSw; first | (go_simp; done) | (go_simp; with_reducible rfl)
      simp only [Act.put, List.getElem_toArray, List.getElem_cons_zero, List.getElem_cons_succ, List.setIfInBounds_toArray, List.set_cons_zero, List.set_cons_succ]
      refine wpAnyH_take (i := 18) (v := ?_) rfl (by kernel_rfl) (by kernel_rfl) (by kernel_rfl) (fun _ _ _ h => h) (Or.inl ⟨by rfl, ?_⟩) (by assumption) ?_
      rotate_left
      · intro w' hSw; first | (go_simp; done) | (go_simp; with_reducible rfl)
      simp only [Act.put, List.getElem_toArray, List.getElem_cons_zero, List.getElem_cons_succ, List.setIfInBounds_toArray, List.set_cons_zero, List.set_cons_succ]
      refine wpAnyH_take (i := 19) (v := ?_) rfl (by kernel_rfl) (by kernel_rfl) (by kernel_rfl) (fun _ _ _ h => h) (Or.inl ⟨by rfl, ?_⟩) (by assumption) ?_
      rotate_left
      · intro w' hSw; first | (go_simp; done) | (go_simp; with_reducible rfl)
      simp only [Act.put, List.getElem_toArray, List.getElem_cons_zero, List.getElem_cons_succ, List.setIfInBounds_toArray, List.set_cons_zero, List.set_cons_succ]
      refine wpAnyH_take (i := 20) (v := ?_) rfl (by kernel_rfl) (by kernel_rfl) (by kernel_rfl) (fun _ _ _ h => h) (Or.inl ⟨by rfl, ?_⟩) (by assumption) ?_
      rotate_left
      · intro w' hSw; first | (go_simp; done) | (go_simp; with_reducible rfl)
      simp only [Act.put, List.getElem_toArray, List.getElem_cons_zero, List.getElem_cons_succ, List.setIfInBounds_toArray, List.set_cons_zero, List.set_cons_succ]
      refine wpAnyH_take (i := 21) (v := ?_) rfl (by kernel_rfl) (by kernel_rfl) (by kernel_rfl) (fun _ _ _ h => h) (Or.inl ⟨by rfl, ?_⟩) (by assumption) ?_
      rotate_left
      · intro w' hSw; first | (go_simp; done) | (go_simp; with_reducible rfl)
      simp only [Act.put, List.getElem_toArray, List.getElem_cons_zero, List.getElem_cons_succ, List.setIfInBounds_toArray, List.set_cons_zero, List.set_cons_succ]
      refine wpAnyH_take (i := 22) (v := ?_) rfl (by kernel_rfl) (by kernel_rfl) (by kernel_rfl) (fun _ _ _ h => h) (Or.inl ⟨by rfl, ?_⟩) (by assumption) ?_
      rotate_left
      · intro w' hSw; first | (go_simp; done) | (go_simp; with_reducible rfl)
      simp only [Act.put, List.getElem_toArray, List.getElem_cons_zero, List.getElem_cons_succ, List.setIfInBounds_toArray, List.set_cons_zero, List.set_cons_succ]
      refine wpAnyH_take (i := 23) (v := ?_) rfl (by kernel_rfl) (by kernel_rfl) (by kernel_rfl) (fun _ _ _ h => h) (Or.inl ⟨by rfl, ?_⟩) (by assumption) ?_
      rotate_left
      · intro w' hSw; first | (go_simp; done) | (go_simp; with_reducible rfl)
      simp only [Act.put, List.getElem_toArray, List.getElem_cons_zero, List.getElem_cons_succ, List.setIfInBounds_toArray, List.set_cons_zero, List.set_cons_succ]
      refine wpAnyH_take (i := 24) (v := ?_) rfl (by kernel_rfl) (by kernel_rfl) (by kernel_rfl) (fun _ _ _ h => h) (Or.inl ⟨by rfl, ?_⟩) (by assumption) ?_
      rotate_left
      · intro w' hSw; first | (go_simp; done) | (go_simp; with_reducible rfl)
      simp only [Act.put, List.getElem_toArray, List.getElem_cons_zero, List.getElem_cons_succ, List.setIfInBounds_toArray, List.set_cons_zero, List.set_cons_succ]
      refine wpAnyH_take (i := 25) (v := ?_) rfl (by kernel_rfl) (by kernel_rfl) (by kernel_rfl) (fun _ _ _ h => h) (Or.inl ⟨by rfl, ?_⟩) (by assumption) ?_
      rotate_left
      · intro w' hSw; first | (go_simp; done) | (go_simp; with_reducible rfl)
      simp only [Act.put, List.getElem_toArray, List.getElem_cons_zero, List.getElem_cons_succ, List.setIfInBounds_toArray, List.set_cons_zero, List.set_cons_succ]
      refine wpAnyH_take (i := 26) (v := ?_) rfl (by kernel_rfl) (by kernel_rfl) (by kernel_rfl) (fun _ _ _ h => h) (Or.inl ⟨by rfl, ?_⟩) (by assumption) ?_
      rotate_left
      · intro w' hSw; first | (go_simp; done) | (go_simp; with_reducible rfl)
      simp only [Act.put, List.getElem_toArray, List.getElem_cons_zero, List.getElem_cons_succ, List.setIfInBounds_toArray, List.set_cons_zero, List.set_cons_succ]
      refine wpAnyH_take (i := 27) (v := ?_) rfl (by kernel_rfl) (by kernel_rfl) (by kernel_rfl) (fun _ _ _ h => h) (Or.inl ⟨by rfl, ?_⟩) (by assumption) ?_
      rotate_left
      · intro w' hSw; first | (go_simp; done) | (go_simp; with_reducible rfl)
      simp only [Act.put, List.getElem_toArray, List.getElem_cons_zero, List.getElem_cons_succ, List.setIfInBounds_toArray, List.set_cons_zero, List.set_cons_succ]
      refine wpAnyH_take (i := 28) (v := ?_) rfl (by kernel_rfl) (by kernel_rfl) (by kernel_rfl) (fun _ _ _ h => h) (Or.inl ⟨by rfl, ?_⟩) (by assumption) ?_
      rotate_left
      · intro w' hSw; first | (go_simp; done) | (go_simp; with_reducible rfl)
      simp only [Act.put, List.getElem_toArray, List.getElem_cons_zero, List.getElem_cons_succ, List.setIfInBounds_toArray, List.set_cons_zero, List.set_cons_succ]
      refine wpAnyH_take (i := 29) (v := ?_) rfl (by kernel_rfl) (by kernel_rfl) (by kernel_rfl) (fun _ _ _ h => h) (Or.inl ⟨by rfl, ?_⟩) (by assumption) ?_
      rotate_left
      · intro w' hSw; first | (go_simp; done) | (go_simp; with_reducible rfl)
      simp only [Act.put, List.getElem_toArray, List.getElem_cons_zero, List.getElem_cons_succ, List.setIfInBounds_toArray, List.set_cons_zero, List.set_cons_succ]
      refine wpAnyH_ready (rs := [30]) (by kernel_rfl) (by simp) ?_
      refine AllReadyH.cons rfl (fun K hK => ?_) ?_
      · go_simp
        refine hK.out _ _ trivial (fun hHeld => ?_)
        clear hK K
        refine wpAnyH_ready (rs := [31]) (by kernel_rfl) (by simp) ?_
        refine AllReadyH.cons rfl (fun K hK => ?_) ?_
        · refine step_append_lies _ rfl (.tmp 21) (.tmp 51) 22 rfl w.heap.size 32 i _ 3 24 Tryd.underlying22 HI.out HZ.out H1S.out H1B.out rfl (by decide) (.slice AA X.length cA) X.length _ (by simp [Act.eval]) HSA.out ⟨wr.heap.size, 0, none⟩ 1 1 (tvals ⟨b0, n2, b1⟩) (by simp [Act.eval]) rfl (World.news_of_block (heap_alloc_new _ _)) (by intro u hu; simp only [tvals, List.mem_cons, List.not_mem_nil, or_false] at hu; rcases hu with rfl | rfl | rfl <;> rfl) (by decide) hmaxl hbytes HUP.out _ rfl ?_; intro gg cap w1 ho1 hg1 hat1 hlt1
          refine hK.out _ _ trivial (fun hHeld => ?_)
          clear hK K
          refine wpAnyH_take (i := 32) (v := ?_) rfl (by kernel_rfl) (by kernel_rfl) (by kernel_rfl) (fun _ _ _ h => h) (Or.inl ⟨by rfl, ?_⟩) (by assumption) ?_
          rotate_left
          · intro w' hSw; first | (go_simp; done) | (go_simp; with_reducible rfl)
          simp only [Act.put, List.getElem_toArray, List.getElem_cons_zero, List.getElem_cons_succ, List.setIfInBounds_toArray, List.set_cons_zero, List.set_cons_succ]
          refine wpAnyH_done (by kernel_rfl) ?_ _
          have HO1 : Hid (OwnTs w1 w.heap.size (.slice (some ⟨gg, 0, none⟩) (X.length + 1) cap) (X ++ [⟨b0, n2, b1⟩])) := Lib.hid (by unfold OwnTs; rw [List.length_append, Tri.flat_append]; exact ho1)
          have HB1 : Hid (Below w.heap.size w w1) := Lib.hid (below_ts HBA.out hg1 HUP.out HSA.out)
          clear ho1 hg1 hat1 hlt1 HSA HBA HUP
          go_wp2_with fail
          go_roundw
          case rel => exact ⟨j + 1, by omega, rfl, by rw [HT.out]; exact HO1.out, HB1.out⟩
          case measure => simp [intOf]; omega
        exact AllReadyH.nil
      exact AllReadyH.nil
    · have hj2 : j = s.size / 5 := by omega
      have HLN : Hid ((keysOf s.data.toList).length ≤ 100000000) := Lib.hid (by rw [keysOf_length]; simp; omega)
      rw [List.take_of_length_le (by rw [keysOf_length]; simp; omega)] at hown
      have HK := Lib.hid (refKeys_any (keysOf s.data.toList) u4 wr hown.ts HLN.out)
      have HB := Lib.hid hbl
      have HO := Lib.hid hown
      obtain ⟨L, hL⟩ : ∃ L, keysOf s.data.toList = L := ⟨_, rfl⟩
      obtain ⟨b, hb⟩ : ∃ b, keysB L = b := ⟨_, rfl⟩
      rw [hL] at HK HO
      rw [hb] at HK
      have HL := Lib.hid hL
      have HBB := Lib.hid hb
      clear hown hL hb hbl
      obtain ⟨AA, cA, rfl⟩ := own_shape HO.out
      go_wp2_with fail
      refine HK.out.mono ?_; rintro e w2 ⟨rfl, hb2⟩
      have HB2 := Lib.hid (HB.out.trans (hb2.mono HB.out.size))
      have HO2 := Lib.hid (HO.out.kept hb2)
      clear hb2
      have HBE : Hid (bb = b) := Lib.hid (by rw [← HBQ.out, HL.out]; exact HBB.out)
      have HRE : Hid (R = if b = true then L else []) := Lib.hid (by rw [← HR.out, HBE.out, HL.out])
      cases b with
      | false =>
        have HRE : Hid (R = []) := HRE
        go_wp2_with fail
        go_ret2
        exact ⟨_, by rw [HBE.out]; rfl, by rw [HRE.out]; exact OwnTs.nil _ _, HB2.out⟩
      | true =>
        have HRE : Hid (R = L) := HRE
        go_wp2_with fail
        go_ret2
        exact ⟨_, by rw [HBE.out]; rfl, by rw [HRE.out]; exact HO2.out, HB2.out⟩
/-- Which keys any text is. -/
theorem refTake_any (s : ByteArray) (w : World) (hs : s.size ≤ 1000000000) :
    Calls Tryd.prog 20 #[.string s] w fun e w' => ∃ v, e = .returned (.tuple #[v, .bool (takeOk s.data.toList)]) ∧ OwnTs w' w.heap.size v (if takeOk s.data.toList = true then keysOf s.data.toList else []) ∧ Below w.heap.size w w' := by
  have hsz : s.data.toList.length = s.size := by simp
  by_cases h5 : s.size % 5 = 0
  · by_cases h1 : s.size ≤ 1000
    · have e : takeOk s.data.toList = keysB (keysOf s.data.toList) := by unfold takeOk; rw [hsz, decide_eq_true h5, decide_eq_true h1]; rfl
      rw [e]
      exact refTake_loop s w h5 h1
    · have e : takeOk s.data.toList = false := by unfold takeOk; rw [hsz, decide_eq_false h1]; simp
      have ht : ((s.size : Int)).tmod 5 = 0 := by rw [Int.tmod_eq_emod_of_nonneg (by omega)]; omega
      have hm : decide (1000 < (s.size : Int)) = true := decide_eq_true (by omega)
      rw [e]
      go_enter Tryd.func20, Tryd.ntmps20
      go_wp2_with fail
      go_ret2
      exact ⟨_, rfl, OwnTs.nil _ _, Below.refl _ _⟩
  · have e : takeOk s.data.toList = false := by unfold takeOk; rw [hsz, decide_eq_false h5]; rfl
    have ht : (((s.size : Int)).tmod 5 != 0) = true := by rw [bne_iff_ne, Int.tmod_eq_emod_of_nonneg (by omega)]; omega
    rw [e]
    go_enter Tryd.func20, Tryd.ntmps20
    go_wp2_with fail
    go_ret2
    exact ⟨_, rfl, OwnTs.nil _ _, Below.refl _ _⟩
end Key
end Go.Proofs.YtkkpdfjbgiijlaaDoor
