/- A ruler's text, and the n-th stop sought on it. -/
import Derived.Test.YtenhgkhonaglaaaTabLib
import Derived.Test.YtenhgkhonaglaaaRunes
namespace Go.Proofs.Ytenhgkhonaglaaa
set_option maxRecDepth 100000
open Go.RowKit
namespace Tab

theorem fresh_bd (w : World) : Bd (w.alloc (.cells #[.pointer none, .slice none 0 0] 104)) w.heap.size w.heap.size [] := Lib.IsBuilderF.of (Lib.fresh_isBuilder _ _ w)
set_option maxHeartbeats 800000 in
theorem ruler_any (l : List Bool) (x : Value) (w : World) (hx : Bl w x l) (hl : l.length ≤ 1000000) :
    Calls Try.prog 46 #[x] w fun e w' => e = .returned (.string ⟨(rul l).toArray⟩) ∧ Below w.heap.size w w' := by
  obtain ⟨A, c, rfl⟩ := hx.shape
  have HG := Lib.hid hx.get
  obtain ⟨n, hn⟩ : ∃ n, l.length = n := ⟨_, rfl⟩
  have HN := Lib.hid hn
  have HB0 := Lib.hid (fresh_bd w)
  have HW0 : Hid (Below w.heap.size w (w.alloc (.cells #[.pointer none, .slice none 0 0] 104))) := Lib.hid ((Below.refl _ _).alloc (Nat.le_refl _) _)
  have HWR := Lib.hid (fun (k : Nat) (hk : k ≤ l.length) (t : Bool) (w' : World) (h : Bd w' w.heap.size w.heap.size (rul (l.take k))) (hb : w.heap.size ≤ w'.heap.size) => write_any w.heap.size w.heap.size (rul (l.take k)) t w' h (by rw [rul_length, List.length_take]; omega) hb)
  rw [hn] at hl HWR ⊢
  clear hx hn
  go_enter Try.func46, Try.ntmps46
  go_wp2_with fail
  go_loopw [8] (fun i wr => ∃ k : Nat, k ≤ n ∧ i = .int .i64 k ∧ Hid (Bd wr w.heap.size w.heap.size (rul (l.take k))) ∧ Below w.heap.size w wr) (fun i _ => n - (intOf i).toNat)
  case atStart => exact ⟨0, by omega, rfl, HB0, HW0.out⟩
  case round =>
    obtain ⟨k, hk, rfl, HB, hb⟩ := hrel
    by_cases hlt : k < n
    · obtain ⟨ad, rfl, g⟩ := HG.out k (by rw [HN.out]; exact hlt)
      have g := cell_kept hb g
      have HT := Lib.hid (take_succ_bool (l := l) (k := k) (by rw [HN.out]; exact hlt))
      obtain ⟨t, ht⟩ : ∃ t, l.getD k false = t := ⟨_, rfl⟩
      rw [ht] at g HT
      clear ht
      have HS : Hid (rul (l.take k) ++ [mark t] = rul (l.take (k + 1))) := Lib.hid (by rw [HT.out, rul_append]; rfl)
      have HC := Lib.hid (HWR.out k hk t wr HB.out hb.size)
      cases t
      all_goals
        go_wp2_with fail
        refine HC.out.mono ?_; rintro e w1 ⟨⟨v, rfl⟩, hb1, hbl⟩
        have HB1 : Hid (Bd w1 w.heap.size w.heap.size (rul (l.take (k + 1)))) := Lib.hid (by rw [← HS.out]; exact hb1)
        have hbw := hb.trans hbl
        clear hb1 hbl
        go_wp2_with fail
        go_roundw
        case rel => exact ⟨k + 1, by omega, by go_num, HB1, hbw⟩
        case measure => simp [intOf]; omega
    · have hkn : k = n := by omega
      subst hkn
      have HE : Hid (l.take k = l) := Lib.hid (List.take_of_length_le (by rw [HN.out]; exact Nat.le_refl _))
      have HST := Lib.hid (string_any w.heap.size w.heap.size (rul (l.take k)) wr HB.out hb.size)
      rw [HE.out] at HST
      go_wp2_with fail
      refine HST.out.mono ?_; rintro e w1 ⟨rfl, hb1⟩
      have hbw := hb.trans hb1
      clear hb1
      go_wp2_with fail
      go_ret
      exact ⟨rfl, hbw⟩

/-- What is told of a stop that is sought. -/
def findV (o : Option Nat) (c : Nat) : Value := match o with
  | some i => .iface 82 (.int .i64 i)
  | none => .iface 87 (.int .i64 c)
theorem dec_mark (b : Bool) (r : List UInt8) : Utf.dec (mark b :: r) = ((if b then 124 else 46), 1) := by
  cases b <;> simp [Utf.dec, mark, Lib.decodeN]
/-- How far the search is: at a place, so many found. -/
def Sought (l : List Bool) (n pos F : Nat) : Prop := F < n ∧ nth l n = (nth (l.drop pos) (n - F)).map (· + pos) ∧ cnt l = F + cnt (l.drop pos)
theorem Sought.start (l : List Bool) (n : Nat) (h : 1 ≤ n) : Sought l n 0 0 := by
  refine ⟨h, ?_, by simp⟩
  rw [List.drop_zero, Nat.sub_zero]; cases nth l n <;> rfl
theorem Sought.free {l : List Bool} {n pos F : Nat} (h : Sought l n pos F) (hp : pos < l.length) (hf : l.getD pos false = false) : Sought l n (pos + 1) F := by
  obtain ⟨h1, h2, h3⟩ := h
  rw [drop_bool hp, hf] at h2 h3
  simp only [nth, cnt, if_neg (show ¬ (false = true) by decide)] at h2 h3
  refine ⟨h1, ?_, by omega⟩
  rw [h2, Option.map_map]
  congr 1
  funext i; show i + 1 + pos = i + (pos + 1); omega
theorem Sought.stop {l : List Bool} {n pos F : Nat} (h : Sought l n pos F) (hp : pos < l.length) (hf : l.getD pos false = true) (hn : F + 1 ≠ n) : Sought l n (pos + 1) (F + 1) := by
  obtain ⟨h1, h2, h3⟩ := h
  rw [drop_bool hp, hf] at h2 h3
  simp only [nth, cnt, if_true] at h2 h3
  rw [if_neg (by omega)] at h2
  refine ⟨by omega, ?_, by omega⟩
  rw [h2, Option.map_map, Nat.sub_sub]
  congr 1
  funext i; show i + 1 + pos = i + (pos + 1); omega
theorem Sought.found {l : List Bool} {n pos F : Nat} (h : Sought l n pos F) (hp : pos < l.length) (hf : l.getD pos false = true) (hn : F + 1 = n) : nth l n = some pos := by
  obtain ⟨h1, h2, h3⟩ := h
  rw [drop_bool hp, hf] at h2
  simp only [nth, if_true] at h2
  rw [if_pos (by omega)] at h2
  rw [h2]; simp
theorem Sought.over {l : List Bool} {n pos F : Nat} (h : Sought l n pos F) (hp : ¬ pos < l.length) : nth l n = none ∧ cnt l = F := by
  obtain ⟨h1, h2, h3⟩ := h
  rw [List.drop_of_length_le (by omega)] at h2 h3
  exact ⟨h2, h3⟩
set_option maxHeartbeats 800000 in
theorem seek_any (l : List Bool) (n : Nat) (s : ByteArray) (hs : s.data.toList = rul l) (w : World) (hl : l.length ≤ 1000000) (h1 : 1 ≤ n) (hn : n ≤ 1000000) :
    Calls Try.prog 45 #[.string s, .int .i64 n] w fun e w' => e = .returned (findV (nth l n) (cnt l)) ∧ Below w.heap.size w w' := by
  have hsz : s.size = l.length := by rw [← rul_length, ← hs]; rfl
  have HSZ := Lib.hid hsz
  have HS := Lib.hid hs
  have HL := Lib.hid hl
  have H0 := Lib.hid (Sought.start l n h1)
  clear hsz hs hl
  go_enter Try.func45, Try.ntmps45
  go_wp2_with fail
  go_loopw [5] (fun t wr => ∃ (pos F : Nat), pos ≤ s.size ∧ F ≤ pos ∧ t = .int .i64 F ∧ Hid (Sought l n pos F) ∧ Hid (wr.heap[w.heap.size]? = some (.stringIter s pos)) ∧ Below w.heap.size w wr) (fun _ wr => s.size - wr.iterPos w.heap.size)
  case atStart => exact ⟨0, 0, by omega, by omega, rfl, H0, Lib.hid (World.iter_heap _ _ _), Utf.below_iter (Below.refl _ _) (Nat.le_refl _) _ _⟩
  case round =>
    obtain ⟨pos, F, hpos, hF, rfl, HT, HI, hbl⟩ := hrel
    by_cases hp : pos < s.size
    · have hnx : ∀ ty, (Instr.next (.pointer (some ⟨w.heap.size, 0, none⟩)) true ty).run Try.prog wr = _ := fun ty => Lib.run_next_any_at wr w.heap.size s pos ty HI.out hp
      have HIP : Hid (wr.iterPos w.heap.size = pos) := Lib.hid (by simp [World.iterPos, HI.out])
      have hpl : pos < l.length := by have := HSZ.out; omega
      rw [Utf.dec_at, HS.out, show (rul l).drop pos = mark (l.getD pos false) :: rul (l.drop (pos + 1)) from by unfold rul; rw [← List.map_drop, drop_bool hpl]; rfl, dec_mark] at hnx
      have hit2 := Lib.iterAt_heap wr w.heap.size s pos (pos + 1) HI.out
      have HIT2 := Lib.hid hit2
      have hIP2 : Hid ((wr.iterAt w.heap.size s (pos + 1)).iterPos w.heap.size = pos + 1) := Lib.hid (by simp [World.iterPos, hit2])
      have hbl2 : Below w.heap.size w (wr.iterAt w.heap.size s (pos + 1)) := Lib.below_iterAt hbl (Nat.le_refl _) _ _
      clear hit2
      obtain ⟨t, ht⟩ : ∃ t, l.getD pos false = t := ⟨_, rfl⟩
      rw [ht] at hnx
      have hss : s.size ≤ 1000000 := by have := HSZ.out; have := HL.out; omega
      cases t
      · have HN := Lib.hid (HT.out.free hpl ht)
        clear ht hpl
        go_wp2_with fail
        go_roundw
        case rel => exact ⟨pos + 1, F, by omega, by omega, rfl, HN, HIT2, hbl2⟩
        case measure => rw [hIP2.out, HIP.out]; omega
      · by_cases he : F + 1 = n
        · have HN := Lib.hid (HT.out.found hpl ht he)
          have he' : ((F : Int) + 1 == (n : Int)) = true := by rw [beq_iff_eq]; omega
          clear ht hpl
          go_wp2_with fail
          go_ret
          exact ⟨by rw [HN.out]; rfl, hbl2⟩
        · have HN := Lib.hid (HT.out.stop hpl ht he)
          have he' : ((F : Int) + 1 == (n : Int)) = false := by rw [beq_eq_false_iff_ne]; omega
          clear ht hpl
          go_wp2_with fail
          go_roundw
          case rel => exact ⟨pos + 1, F + 1, by omega, by omega, by go_num, HN, HIT2, hbl2⟩
          case measure => rw [hIP2.out, HIP.out]; omega
    · have hnx : ∀ ty, (Instr.next (.pointer (some ⟨w.heap.size, 0, none⟩)) true ty).run Try.prog wr = _ := fun ty => Lib.run_next_end_at wr w.heap.size s pos ty HI.out hp
      have HE := Lib.hid (HT.out.over (by have := HSZ.out; omega))
      go_wp2_with fail
      go_ret
      exact ⟨by rw [HE.out.1, HE.out.2]; rfl, hbl⟩
end Tab
end Go.Proofs.Ytenhgkhonaglaaa
