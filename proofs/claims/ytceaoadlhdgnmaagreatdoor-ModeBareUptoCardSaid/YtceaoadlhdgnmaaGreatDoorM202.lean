/- Joined texts: TabRul, TabDo, CurSmall, CurGoal. -/
import Derived.Test.YtceaoadlhdgnmaaGreatDoorM201
import Derived.BigQuiet
namespace Go.Proofs.YtceaoadlhdgnmaaGreatDoor
set_option maxRecDepth 100000
section
open Go.RowKit
namespace Tab
theorem fresh_bd (w : World) : Bd (w.alloc (.cells #[.pointer none, .slice none 0 0] 261)) w.heap.size w.heap.size [] := Lib.IsBuilderF.of (Lib.fresh_isBuilder _ _ w)
set_option maxHeartbeats 800000 in
theorem ruler_any (l : List Bool) (x : Value) (w : World) (hx : Bl w x l) (hl : l.length ≤ 1000000) :
    Calls Tryz.prog 214 #[x] w fun e w' => e = .returned (.string ⟨(rul l).toArray⟩) ∧ Below w.heap.size w w' := by
  obtain ⟨A, c, rfl⟩ := hx.shape
  have HG := Lib.hid hx.get
  obtain ⟨n, hn⟩ : ∃ n, l.length = n := ⟨_, rfl⟩
  have HN := Lib.hid hn
  have HB0 := Lib.hid (fresh_bd w)
  have HW0 : Hid (Below w.heap.size w (w.alloc (.cells #[.pointer none, .slice none 0 0] 261))) := Lib.hid ((Below.refl _ _).alloc (Nat.le_refl _) _)
  have HWR := Lib.hid (fun (k : Nat) (hk : k ≤ l.length) (t : Bool) (w' : World) (h : Bd w' w.heap.size w.heap.size (rul (l.take k))) (hb : w.heap.size ≤ w'.heap.size) => write_any w.heap.size w.heap.size (rul (l.take k)) t w' h (by rw [rul_length, List.length_take]; omega) hb)
  rw [hn] at hl HWR ⊢
  clear hx hn
  go_enter Tryz.func214, Tryz.ntmps214
  go_wp2_with fail
  go_loopw [8] (fun i wr => ∃ k : Nat, k ≤ n ∧ i = .int .i64 k ∧ Hid (Bd wr w.heap.size w.heap.size (rul (l.take k))) ∧ Below w.heap.size w wr) (fun i _ => n - (intOf i).toNat)
  case atStart => exact ⟨0, by omega, rfl, HB0, HW0.out⟩
  case round =>
    obtain ⟨k, hk, rfl, HB, hb⟩ := hrel
    by_cases hlt : k < n
    · obtain ⟨ad, rfl, g⟩ := HG.out k (by rw [HN.out]; exact hlt)
      have g := cell_kept hb g
      have HT := Lib.hid (take_succ_bool (l := l) (k := k) (by rw [HN.out]; exact hlt))
      obtain ⟨t, ht⟩ : ∃ t, l.getD k false = t := ⟨_, rfl⟩
      rw [ht] at g HT
      clear ht
      have HS : Hid (rul (l.take k) ++ [mark t] = rul (l.take (k + 1))) := Lib.hid (by rw [HT.out, rul_append]; rfl)
      have HC := Lib.hid (HWR.out k hk t wr HB.out hb.size)
      cases t
      all_goals
        go_wp2_with fail
        refine HC.out.mono ?_; rintro e w1 ⟨⟨v, rfl⟩, hb1, hbl⟩
        have HB1 : Hid (Bd w1 w.heap.size w.heap.size (rul (l.take (k + 1)))) := Lib.hid (by rw [← HS.out]; exact hb1)
        have hbw := hb.trans hbl
        clear hb1 hbl
        go_wp2_with fail
        go_roundw
        case rel => exact ⟨k + 1, by omega, by go_num, HB1, hbw⟩
        case measure => simp [intOf]; omega
    · have hkn : k = n := by omega
      subst hkn
      have HE : Hid (l.take k = l) := Lib.hid (List.take_of_length_le (by rw [HN.out]; exact Nat.le_refl _))
      have HST := Lib.hid (string_any w.heap.size w.heap.size (rul (l.take k)) wr HB.out hb.size)
      rw [HE.out] at HST
      go_wp2_with fail
      refine HST.out.mono ?_; rintro e w1 ⟨rfl, hb1⟩
      have hbw := hb.trans hb1
      clear hb1
      go_wp2_with fail
      go_ret
      exact ⟨rfl, hbw⟩
def findV (o : Option Nat) (c : Nat) : Value := match o with
  | some i => .iface 246 (.int .i64 i)
  | none => .iface 251 (.int .i64 c)
theorem dec_mark (b : Bool) (r : List UInt8) : Utf.dec (mark b :: r) = ((if b then 124 else 46), 1) := by
  cases b <;> simp [Utf.dec, mark, Lib.decodeN]
def Sought (l : List Bool) (n pos F : Nat) : Prop := F < n ∧ nth l n = (nth (l.drop pos) (n - F)).map (· + pos) ∧ cnt l = F + cnt (l.drop pos)
theorem Sought.start (l : List Bool) (n : Nat) (h : 1 ≤ n) : Sought l n 0 0 := by
  refine ⟨h, ?_, by simp⟩
  rw [List.drop_zero, Nat.sub_zero]; cases nth l n <;> rfl
theorem Sought.free {l : List Bool} {n pos F : Nat} (h : Sought l n pos F) (hp : pos < l.length) (hf : l.getD pos false = false) : Sought l n (pos + 1) F := by
  obtain ⟨h1, h2, h3⟩ := h
  rw [drop_bool hp, hf] at h2 h3
  simp only [nth, cnt, if_neg (show ¬ (false = true) by decide)] at h2 h3
  refine ⟨h1, ?_, by omega⟩
  rw [h2, Option.map_map]
  congr 1
  funext i; show i + 1 + pos = i + (pos + 1); omega
theorem Sought.stop {l : List Bool} {n pos F : Nat} (h : Sought l n pos F) (hp : pos < l.length) (hf : l.getD pos false = true) (hn : F + 1 ≠ n) : Sought l n (pos + 1) (F + 1) := by
  obtain ⟨h1, h2, h3⟩ := h
  rw [drop_bool hp, hf] at h2 h3
  simp only [nth, cnt, if_true] at h2 h3
  rw [if_neg (by omega)] at h2
  refine ⟨by omega, ?_, by omega⟩
  rw [h2, Option.map_map, Nat.sub_sub]
  congr 1
  funext i; show i + 1 + pos = i + (pos + 1); omega
theorem Sought.found {l : List Bool} {n pos F : Nat} (h : Sought l n pos F) (hp : pos < l.length) (hf : l.getD pos false = true) (hn : F + 1 = n) : nth l n = some pos := by
  obtain ⟨h1, h2, h3⟩ := h
  rw [drop_bool hp, hf] at h2
  simp only [nth, if_true] at h2
  rw [if_pos (by omega)] at h2
  rw [h2]; simp
theorem Sought.over {l : List Bool} {n pos F : Nat} (h : Sought l n pos F) (hp : ¬ pos < l.length) : nth l n = none ∧ cnt l = F := by
  obtain ⟨h1, h2, h3⟩ := h
  rw [List.drop_of_length_le (by omega)] at h2 h3
  exact ⟨h2, h3⟩
set_option maxHeartbeats 800000 in
theorem seek_any (l : List Bool) (n : Nat) (s : ByteArray) (hs : s.data.toList = rul l) (w : World) (hl : l.length ≤ 1000000) (h1 : 1 ≤ n) (hn : n ≤ 1000000) :
    Calls Tryz.prog 213 #[.string s, .int .i64 n] w fun e w' => e = .returned (findV (nth l n) (cnt l)) ∧ Below w.heap.size w w' := by
  have hsz : s.size = l.length := by rw [← rul_length, ← hs]; rfl
  have HSZ := Lib.hid hsz
  have HS := Lib.hid hs
  have HL := Lib.hid hl
  have H0 := Lib.hid (Sought.start l n h1)
  clear hsz hs hl
  go_enter Tryz.func213, Tryz.ntmps213
  go_wp2_with fail
  go_loopw [5] (fun t wr => ∃ (pos F : Nat), pos ≤ s.size ∧ F ≤ pos ∧ t = .int .i64 F ∧ Hid (Sought l n pos F) ∧ Hid (wr.heap[w.heap.size]? = some (.stringIter s pos)) ∧ Below w.heap.size w wr) (fun _ wr => s.size - wr.iterPos w.heap.size)
  case atStart => exact ⟨0, 0, by omega, by omega, rfl, H0, Lib.hid (World.iter_heap _ _ _), Utf.below_iter (Below.refl _ _) (Nat.le_refl _) _ _⟩
  case round =>
    obtain ⟨pos, F, hpos, hF, rfl, HT, HI, hbl⟩ := hrel
    by_cases hp : pos < s.size
    · have hnx : ∀ ty, (Instr.next (.pointer (some ⟨w.heap.size, 0, none⟩)) true ty).run Tryz.prog wr = _ := fun ty => Lib.run_next_any_at wr w.heap.size s pos ty HI.out hp
      have HIP : Hid (wr.iterPos w.heap.size = pos) := Lib.hid (by simp [World.iterPos, HI.out])
      have hpl : pos < l.length := by have := HSZ.out; omega
      rw [Utf.dec_at, HS.out, show (rul l).drop pos = mark (l.getD pos false) :: rul (l.drop (pos + 1)) from by unfold rul; rw [← List.map_drop, drop_bool hpl]; rfl, dec_mark] at hnx
      have hit2 := Lib.iterAt_heap wr w.heap.size s pos (pos + 1) HI.out
      have HIT2 := Lib.hid hit2
      have hIP2 : Hid ((wr.iterAt w.heap.size s (pos + 1)).iterPos w.heap.size = pos + 1) := Lib.hid (by simp [World.iterPos, hit2])
      have hbl2 : Below w.heap.size w (wr.iterAt w.heap.size s (pos + 1)) := Lib.below_iterAt hbl (Nat.le_refl _) _ _
      clear hit2
      obtain ⟨t, ht⟩ : ∃ t, l.getD pos false = t := ⟨_, rfl⟩
      rw [ht] at hnx
      have hss : s.size ≤ 1000000 := by have := HSZ.out; have := HL.out; omega
      cases t
      · have HN := Lib.hid (HT.out.free hpl ht)
        clear ht hpl
        go_wp2_with fail
        go_roundw
        case rel => exact ⟨pos + 1, F, by omega, by omega, rfl, HN, HIT2, hbl2⟩
        case measure => rw [hIP2.out, HIP.out]; omega
      · by_cases he : F + 1 = n
        · have HN := Lib.hid (HT.out.found hpl ht he)
          have he' : ((F : Int) + 1 == (n : Int)) = true := by rw [beq_iff_eq]; omega
          clear ht hpl
          go_wp2_with fail
          go_ret
          exact ⟨by rw [HN.out]; rfl, hbl2⟩
        · have HN := Lib.hid (HT.out.stop hpl ht he)
          have he' : ((F : Int) + 1 == (n : Int)) = false := by rw [beq_eq_false_iff_ne]; omega
          clear ht hpl
          go_wp2_with fail
          go_roundw
          case rel => exact ⟨pos + 1, F + 1, by omega, by omega, by go_num, HN, HIT2, hbl2⟩
          case measure => rw [hIP2.out, HIP.out]; omega
    · have hnx : ∀ ty, (Instr.next (.pointer (some ⟨w.heap.size, 0, none⟩)) true ty).run Tryz.prog wr = _ := fun ty => Lib.run_next_end_at wr w.heap.size s pos ty HI.out hp
      have HE := Lib.hid (HT.out.over (by have := HSZ.out; omega))
      go_wp2_with fail
      go_ret
      exact ⟨by rw [HE.out.1, HE.out.2]; rfl, hbl⟩
end Tab
end
section
open Go.RowKit
namespace Tab
@[go_sem] theorem is_place_place (v : Value) (w : World) : (Instr.typeAssert (.iface 246 v) 248 246 true).run Tryz.prog w = .ok (.tuple #[v, .bool true]) w := by kernel_rfl
@[go_sem] theorem is_place_fewer (v : Value) (w : World) : (Instr.typeAssert (.iface 251 v) 248 246 true).run Tryz.prog w = .ok (.tuple #[.int .i64 0, .bool false]) w := by kernel_rfl
@[go_sem] theorem must_place (v : Value) (w : World) : (Instr.typeAssert (.iface 246 v) 248 246 false).run Tryz.prog w = .ok v w := by kernel_rfl
@[go_sem] theorem must_fewer (v : Value) (w : World) : (Instr.typeAssert (.iface 251 v) 248 251 false).run Tryz.prog w = .ok v w := by kernel_rfl
def nxOf (l : List Bool) (a n : Int) : Int := if goes l a n then nextOf l a.toNat n.toNat else 0
def bkOf (l : List Bool) (a n : Int) : Int := if goes l a n then backOf l a.toNat n.toNat else 0
theorem nextOf_nth {l : List Bool} {a n : Nat} (ha : a < l.length) (hn : 1 ≤ n) : (nextOf l a n : Int) = match nth (l.drop (a + 1)) n with | some i => (a : Int) + 1 + i | none => (l.length : Int) - 1 := by
  unfold nextOf
  rw [far_nth _ _ hn, List.length_drop]
  cases nth (l.drop (a + 1)) n with
  | none => simp only; omega
  | some i => simp only; omega
set_option maxHeartbeats 800000 in
theorem next_any (l : List Bool) (a n : Int) (x : Value) (w : World) (hx : Bl w x l) (hl : l.length ≤ 1000000) :
    Calls Tryz.prog 200 #[x, .int .i64 a, .int .i64 n] w fun e w' => e = .returned (.tuple #[.int .i64 (nxOf l a n), .int .i64 (codeOf (goes l a n))]) ∧ Below w.heap.size w w' := by
  have HST := Lib.hid (steps_any l a n x w hx hl)
  by_cases hg : goes l a n = true
  · obtain ⟨⟨h1, h2⟩, ⟨h3, h4⟩, h5, h6⟩ := goes_yes.1 hg
    obtain ⟨a, rfl⟩ := Int.eq_ofNat_of_zero_le h3
    obtain ⟨n, rfl⟩ := Int.eq_ofNat_of_zero_le h5
    have ha : a < l.length := by omega
    have HR : Hid (nxOf l a n = nextOf l a n) := Lib.hid (by unfold nxOf; rw [hg]; simp)
    rw [hg] at HST ⊢
    rw [HR.out]
    clear hg HR h3 h4 h5
    obtain ⟨A, c, rfl⟩ := hx.shape
    by_cases h0 : n = 0
    · subst h0
      have HZ := Lib.hid (nextOf_zero l a)
      clear hx
      generalize l.length = m at HST ha h1 h2
      go_enter Tryz.func200, Tryz.ntmps200
      go_wp2_with fail
      refine HST.out.mono ?_; rintro e w' ⟨rfl, rfl⟩
      go_wp2_with fail
      go_ret2
      exact ⟨by rw [HZ.out]; rfl, Below.refl _ _⟩
    · obtain ⟨V, hV, hb⟩ := hx.tail (a + 1) (by omega) ((a : Int) + 1) (by omega)
      have hV := hV w
      have HRU := Lib.hid (ruler_any (l.drop (a + 1)) V w hb (by rw [List.length_drop]; omega))
      have HSK := Lib.hid (fun w' => seek_any (l.drop (a + 1)) n ⟨(rul (l.drop (a + 1))).toArray⟩ rfl w' (by rw [List.length_drop]; omega) (by omega) (by omega))
      have HN := Lib.hid (nextOf_nth ha (show 1 ≤ n by omega))
      have hw : IntKind.i64.wrap ((l.length : Int) - 1) = (l.length : Int) - 1 := by rw [IntKind.wrap_i64]; omega
      have hi : ∀ i, nth (l.drop (a + 1)) n = some i → i < 40 := fun i e => by
        rcases Nat.lt_or_ge (cnt (l.drop (a + 1))) n with h | h
        · rw [nth_none _ _ h] at e; cases e
        · obtain ⟨j, hj, hlt⟩ := nth_some _ n (by omega) h
          rw [e] at hj
          injection hj with hj
          rw [List.length_drop] at hlt; omega
      clear hx hb
      generalize rul (l.drop (a + 1)) = tx at HRU HSK
      generalize nextOf l a n = r at HN ⊢
      have HNT : Hid (((nth (l.drop (a + 1)) n) = nth (l.drop (a + 1)) n)) := Lib.hid rfl
      clear HNT
      generalize nth (l.drop (a + 1)) n = o at HSK HN hi
      generalize cnt (l.drop (a + 1)) = cn at HSK
      cases o with
      | none =>
        have HSK : Hid (∀ w', Calls Tryz.prog 213 #[.string ⟨tx.toArray⟩, .int .i64 n] w' fun e w'' => e = .returned (.iface 251 (.int .i64 cn)) ∧ Below w'.heap.size w' w'') := HSK
        have HN : Hid ((r : Int) = (l.length : Int) - 1) := HN
        clear hi
        generalize l.length = m at *
        go_enter Tryz.func200, Tryz.ntmps200
        go_wp2_with fail
        refine HST.out.mono ?_; rintro e w' ⟨rfl, rfl⟩
        go_wp2_with fail
        refine HRU.out.mono ?_; rintro e w1 ⟨rfl, hb1⟩
        go_wp2_with fail
        refine (HSK.out w1).mono ?_; rintro e w2 ⟨rfl, hb2⟩
        have hbw := hb1.trans (hb2.mono hb1.size)
        clear hb1 hb2
        go_wp2_with fail
        go_ret2
        exact ⟨by rw [HN.out]; rfl, hbw⟩
      | some i =>
        have HSK : Hid (∀ w', Calls Tryz.prog 213 #[.string ⟨tx.toArray⟩, .int .i64 n] w' fun e w'' => e = .returned (.iface 246 (.int .i64 i)) ∧ Below w'.heap.size w' w'') := HSK
        have HN : Hid ((r : Int) = (a : Int) + 1 + i) := HN
        have hi := hi i rfl
        generalize l.length = m at *
        go_enter Tryz.func200, Tryz.ntmps200
        go_wp2_with fail
        refine HST.out.mono ?_; rintro e w' ⟨rfl, rfl⟩
        go_wp2_with fail
        refine HRU.out.mono ?_; rintro e w1 ⟨rfl, hb1⟩
        go_wp2_with fail
        refine (HSK.out w1).mono ?_; rintro e w2 ⟨rfl, hb2⟩
        have hbw := hb1.trans (hb2.mono hb1.size)
        clear hb1 hb2
        go_wp2_with fail
        go_ret2
        exact ⟨by rw [HN.out]; rfl, hbw⟩
  · have hg : goes l a n = false := by simpa using hg
    have HR : Hid (nxOf l a n = 0) := Lib.hid (by unfold nxOf; rw [hg]; rfl)
    rw [hg] at HST ⊢
    rw [HR.out]
    obtain ⟨A, c, rfl⟩ := hx.shape
    clear hx hg HR
    generalize l.length = m at HST
    go_enter Tryz.func200, Tryz.ntmps200
    go_wp2_with fail
    refine HST.out.mono ?_; rintro e w' ⟨rfl, rfl⟩
    go_wp2_with fail
    go_ret2
    exact ⟨rfl, Below.refl _ _⟩
set_option maxHeartbeats 800000 in
theorem back_any (l : List Bool) (a n : Int) (x : Value) (w : World) (hx : Bl w x l) (hl : l.length ≤ 1000000) :
    Calls Tryz.prog 201 #[x, .int .i64 a, .int .i64 n] w fun e w' => e = .returned (.tuple #[.int .i64 (bkOf l a n), .int .i64 (codeOf (goes l a n))]) ∧ Below w.heap.size w w' := by
  have HST := Lib.hid (steps_any l a n x w hx hl)
  by_cases hg : goes l a n = true
  · obtain ⟨⟨h1, h2⟩, ⟨h3, h4⟩, h5, h6⟩ := goes_yes.1 hg
    obtain ⟨a, rfl⟩ := Int.eq_ofNat_of_zero_le h3
    obtain ⟨n, rfl⟩ := Int.eq_ofNat_of_zero_le h5
    have ha : a < l.length := by omega
    have HR : Hid (bkOf l a n = backOf l a n) := Lib.hid (by unfold bkOf; rw [hg]; simp)
    rw [hg] at HST ⊢
    rw [HR.out]
    clear hg HR h3 h4 h5
    obtain ⟨A, c, rfl⟩ := hx.shape
    by_cases h0 : n = 0
    · subst h0
      have HZ := Lib.hid (backOf_zero l a)
      clear hx
      generalize l.length = m at HST ha h1 h2
      go_enter Tryz.func201, Tryz.ntmps201
      go_wp2_with fail
      refine HST.out.mono ?_; rintro e w' ⟨rfl, rfl⟩
      go_wp2_with fail
      go_ret2
      exact ⟨by rw [HZ.out]; rfl, Below.refl _ _⟩
    · obtain ⟨V, hV, hb⟩ := hx.front a (by omega) (a : Int) rfl
      have hV := hV w
      have hlt : (l.take a).length = a := by rw [List.length_take]; omega
      have hcl : cnt (l.take a) ≤ a := by have := cnt_le (l.take a); omega
      have HRU := Lib.hid (ruler_any (l.take a) V w hb (by omega))
      have HSK := Lib.hid (fun (k : Nat) (h1 : 1 ≤ k) (h2 : k ≤ 1000000) w' => seek_any (l.take a) k ⟨(rul (l.take a)).toArray⟩ rfl w' (by omega) h1 h2)
      have HA : Hid (∀ w', Calls Tryz.prog 213 #[.string ⟨(rul (l.take a)).toArray⟩, .int .i64 l.length] w' fun e w'' => e = .returned (.iface 251 (.int .i64 (cnt (l.take a)))) ∧ Below w'.heap.size w' w'') := Lib.hid fun w' => by
        have := HSK.out l.length (by omega) (by omega) w'
        rw [nth_none _ _ (by omega)] at this
        exact this
      have HN := Lib.hid (backOf_nth l a n (by omega) (by omega))
      have HO : Hid (n ≤ cnt (l.take a) → ∃ i, nth (l.take a) (cnt (l.take a) + 1 - n) = some i) := Lib.hid fun h => by
        obtain ⟨i, hi, _⟩ := nth_some (l.take a) (cnt (l.take a) + 1 - n) (by omega) (by omega)
        exact ⟨i, hi⟩
      clear hx hb hlt
      generalize rul (l.take a) = tx at HRU HSK HA
      generalize backOf l a n = r at HN ⊢
      generalize nth (l.take a) = ot at HSK HN HO
      generalize cnt (l.take a) = cn at HSK HN hcl HA HO
      by_cases hc : cn < n
      · have HN : Hid (r = 0) := Lib.hid (by have := HN.out; rwa [if_pos hc] at this)
        clear HSK HO
        generalize l.length = m at *
        go_enter Tryz.func201, Tryz.ntmps201
        go_wp2_with fail
        refine HST.out.mono ?_; rintro e w' ⟨rfl, rfl⟩
        go_wp2_with fail
        refine HRU.out.mono ?_; rintro e w1 ⟨rfl, hb1⟩
        go_wp2_with fail
        refine (HA.out w1).mono ?_; rintro e w2 ⟨rfl, hb2⟩
        have hbw := hb1.trans (hb2.mono hb1.size)
        clear hb1 hb2
        go_wp2_with fail
        go_ret2
        exact ⟨by rw [HN.out]; rfl, hbw⟩
      · obtain ⟨i, hi⟩ := HO.out (by omega)
        have HN : Hid (r = i) := Lib.hid (by have := HN.out; rwa [if_neg hc, hi] at this)
        have HSK : Hid (∀ w', Calls Tryz.prog 213 #[.string ⟨tx.toArray⟩, .int .i64 ((cn : Int) + 1 - n)] w' fun e w'' => e = .returned (.iface 246 (.int .i64 i)) ∧ Below w'.heap.size w' w'') := Lib.hid fun w' => by
          have := HSK.out (cn + 1 - n) (by omega) (by omega) w'
          rw [hi, show ((cn + 1 - n : Nat) : Int) = (cn : Int) + 1 - n from by omega] at this
          exact this
        have hw : IntKind.i64.wrap ((cn : Int) + 1 - n) = (cn : Int) + 1 - n := by rw [IntKind.wrap_i64]; omega
        clear HO hi
        generalize l.length = m at *
        go_enter Tryz.func201, Tryz.ntmps201
        go_wp2_with fail
        refine HST.out.mono ?_; rintro e w' ⟨rfl, rfl⟩
        go_wp2_with fail
        refine HRU.out.mono ?_; rintro e w1 ⟨rfl, hb1⟩
        go_wp2_with fail
        refine (HA.out w1).mono ?_; rintro e w2 ⟨rfl, hb2⟩
        have hbw := hb1.trans (hb2.mono hb1.size)
        clear hb1 hb2
        go_wp2_with fail
        refine (HSK.out w2).mono ?_; rintro e w3 ⟨rfl, hb3⟩
        have hbw2 := hbw.trans (hb3.mono hbw.size)
        clear hbw hb3
        go_wp2_with fail
        go_ret2
        exact ⟨by rw [HN.out]; rfl, hbw2⟩
  · have hg : goes l a n = false := by simpa using hg
    have HR : Hid (bkOf l a n = 0) := Lib.hid (by unfold bkOf; rw [hg]; rfl)
    rw [hg] at HST ⊢
    rw [HR.out]
    obtain ⟨A, c, rfl⟩ := hx.shape
    clear hx hg HR
    generalize l.length = m at HST
    go_enter Tryz.func201, Tryz.ntmps201
    go_wp2_with fail
    refine HST.out.mono ?_; rintro e w' ⟨rfl, rfl⟩
    go_wp2_with fail
    go_ret2
    exact ⟨rfl, Below.refl _ _⟩
end Tab
end
section
open Go.RowKit
namespace Scr
open Go.Proofs.YtceaoadlhdgnmaaGreatDoor.Row
theorem isCount_any (n : Int) (w : World) : Calls Tryz.prog 134 #[.int .i64 n] w fun e w' => e = .returned (.bool (numB n)) ∧ w = w' := by
  by_cases h : -1 ≤ n
  · by_cases k : n ≤ 9999
    · have H : Hid (numB n = true) := Lib.hid (by unfold numB; rw [decide_eq_true h, decide_eq_true k]; rfl)
      go_enter Tryz.func134, Tryz.ntmps134
      go_wp2_with fail
      go_ret
      exact ⟨ret_bool H.out.symm, rfl⟩
    · have H : Hid (numB n = false) := Lib.hid (by unfold numB; rw [decide_eq_false k, Bool.and_false])
      have hd : decide (n ≤ 9999) = false := decide_eq_false k
      go_enter Tryz.func134, Tryz.ntmps134
      go_wp2_with fail
      go_ret
      exact ⟨ret_bool H.out.symm, rfl⟩
  · have H : Hid (numB n = false) := Lib.hid (by unfold numB; rw [decide_eq_false h, Bool.false_and])
    have hd : decide (-1 ≤ n) = false := decide_eq_false h
    go_enter Tryz.func134, Tryz.ntmps134
    go_wp2_with fail
    go_ret
    exact ⟨ret_bool H.out.symm, rfl⟩
set_option maxHeartbeats 800000 in
theorem up_any (s : S) (x y z : Value) (n : Int) (w : World) (h : Fc s) (h1 : 1 ≤ n) (h2 : n ≤ 9999) : Calls Tryz.prog 197 #[sv s x y z, .int .i64 n] w fun e w' => e = .returned (.int .i64 (upRow s n)) ∧ Below w.heap.size w w' := by
  have f := h.f
  have hw : IntKind.i64.wrap (s.cur.row - n) = s.cur.row - n := by rw [IntKind.wrap_i64]; have := f.row0; have := f.row1; have := f.r40; omega
  have HB := Lib.hid (bel_alloc w (.cells (sarr s x y z) 36))
  by_cases hc : s.top ≤ s.cur.row
  · have HU : Hid (upRow s n = max (s.cur.row - n) s.top) := Lib.hid (by unfold upRow; rw [if_pos hc])
    rw [HU.out]
    clear f h
    go_enter Tryz.func197, Tryz.ntmps197
    go_wp2_with fail
    go_ret
    exact ⟨rfl, by first | exact HB.out | exact Below.refl _ _⟩
  · have HU : Hid (upRow s n = max (s.cur.row - n) 0) := Lib.hid (by unfold upRow; rw [if_neg hc])
    rw [HU.out]
    clear f h
    go_enter Tryz.func197, Tryz.ntmps197
    go_wp2_with fail
    go_ret
    exact ⟨rfl, by first | exact HB.out | exact Below.refl _ _⟩
set_option maxHeartbeats 800000 in
theorem down_any (s : S) (x y z : Value) (n : Int) (w : World) (h : Fc s) (h1 : 1 ≤ n) (h2 : n ≤ 9999) : Calls Tryz.prog 198 #[sv s x y z, .int .i64 n] w fun e w' => e = .returned (.int .i64 (dnRow s n)) ∧ Below w.heap.size w w' := by
  have f := h.f
  have hw : IntKind.i64.wrap (s.cur.row + n) = s.cur.row + n := by rw [IntKind.wrap_i64]; have := f.row0; have := f.row1; have := f.r40; omega
  have hv : IntKind.i64.wrap (s.main.rows - 1) = s.main.rows - 1 := by rw [IntKind.wrap_i64]; have := f.r1; have := f.r40; omega
  have HB := Lib.hid (bel_alloc w (.cells (sarr s x y z) 36))
  by_cases hc : s.cur.row ≤ s.bottom
  · have HU : Hid (dnRow s n = min (s.cur.row + n) s.bottom) := Lib.hid (by unfold dnRow; rw [if_pos hc])
    rw [HU.out]
    clear f h
    go_enter Tryz.func198, Tryz.ntmps198
    go_wp2_with fail
    go_ret
    exact ⟨rfl, by first | exact HB.out | exact Below.refl _ _⟩
  · have HU : Hid (dnRow s n = min (s.cur.row + n) (s.main.rows - 1)) := Lib.hid (by unfold dnRow; rw [if_neg hc])
    rw [HU.out]
    clear f h
    go_enter Tryz.func198, Tryz.ntmps198
    go_wp2_with fail
    go_ret
    exact ⟨rfl, by first | exact HB.out | exact Below.refl _ _⟩
set_option maxHeartbeats 800000 in
theorem numbered_any (s : S) (x y z : Value) (n : Int) (w : World) (h : Fc s) (h1 : 1 ≤ n) (h2 : n ≤ 9999) : Calls Tryz.prog 199 #[sv s x y z, .int .i64 n] w fun e w' => e = .returned (.int .i64 (noRow s n)) ∧ Below w.heap.size w w' := by
  have f := h.f
  have hw : IntKind.i64.wrap (s.top + n) = s.top + n := by rw [IntKind.wrap_i64]; have := f.top0; have := f.tb; have := f.bot; have := f.r40; omega
  have hw2 : IntKind.i64.wrap (s.top + n - 1) = s.top + n - 1 := by rw [IntKind.wrap_i64]; have := f.top0; have := f.tb; have := f.bot; have := f.r40; omega
  have hv : IntKind.i64.wrap (s.main.rows - 1) = s.main.rows - 1 := by rw [IntKind.wrap_i64]; have := f.r1; have := f.r40; omega
  have hn : IntKind.i64.wrap (n - 1) = n - 1 := by rw [IntKind.wrap_i64]; omega
  have HB := Lib.hid (bel_alloc w (.cells (sarr s x y z) 36))
  cases hc : s.cur.origin
  · have HU : Hid (noRow s n = min (n - 1) (s.main.rows - 1)) := Lib.hid (by unfold noRow; rw [hc]; rfl)
    rw [HU.out]
    clear f h
    go_enter Tryz.func199, Tryz.ntmps199
    go_wp2_with fail
    go_ret
    exact ⟨rfl, by first | exact HB.out | exact Below.refl _ _⟩
  · have HU : Hid (noRow s n = min (s.top + n - 1) s.bottom) := Lib.hid (by unfold noRow; rw [hc]; rfl)
    rw [HU.out]
    clear f h
    go_enter Tryz.func199, Tryz.ntmps199
    go_wp2_with fail
    go_ret
    exact ⟨rfl, by first | exact HB.out | exact Below.refl _ _⟩
def goalV (p : Bool × Int) : Value := if p.1 then .iface 201 (.int .i64 p.2) else .iface 203 (.int .i64 p.2)
end Scr
end
section
open Go.RowKit
namespace Scr
open Go.Proofs.YtceaoadlhdgnmaaGreatDoor.Row
theorem bel_drewNc (w : World) (n : Nat) : Below w.heap.size w (w.drewN n) := ⟨rfl, rfl, rfl, Nat.le_refl _, fun _ _ => rfl⟩
theorem next_is (s : S) (n : Int) (z : Value) (w : World) (h : Fc s) (h1 : 1 ≤ n) (h2 : n ≤ 9999) (hz : Tab.Bl w z s.tabs) :
    ∃ c, ∀ W, Below w.heap.size w W → Calls Tryz.prog 200 #[z, .int .i64 s.cur.col, .int .i64 n] W fun e w' => e = .returned (.tuple #[.int .i64 (nxCol s n), .int .i64 c]) ∧ Below W.heap.size W w' := by
  have f := h.f
  have hb := h.b
  have hg : Tab.goes s.tabs s.cur.col n = true := Tab.goes_yes.2 ⟨⟨by have := f.c1; omega, by have := f.c40; omega⟩, ⟨f.col0, by have := f.col1; omega⟩, by omega, h2⟩
  refine ⟨Tab.codeOf true, fun W hW => ?_⟩
  have h := Tab.next_any s.tabs s.cur.col n z W (hz.kept hW) (by have := f.c40; omega)
  unfold Tab.nxOf at h
  rw [hg, if_pos rfl] at h
  exact h
theorem back_is (s : S) (n : Int) (z : Value) (w : World) (h : Fc s) (h1 : 1 ≤ n) (h2 : n ≤ 9999) (hz : Tab.Bl w z s.tabs) :
    ∃ c, ∀ W, Below w.heap.size w W → Calls Tryz.prog 201 #[z, .int .i64 s.cur.col, .int .i64 n] W fun e w' => e = .returned (.tuple #[.int .i64 (bkCol s n), .int .i64 c]) ∧ Below W.heap.size W w' := by
  have f := h.f
  have hb := h.b
  have hg : Tab.goes s.tabs s.cur.col n = true := Tab.goes_yes.2 ⟨⟨by have := f.c1; omega, by have := f.c40; omega⟩, ⟨f.col0, by have := f.col1; omega⟩, by omega, h2⟩
  refine ⟨Tab.codeOf true, fun W hW => ?_⟩
  have h := Tab.back_any s.tabs s.cur.col n z W (hz.kept hW) (by have := f.c40; omega)
  unfold Tab.bkOf at h
  rw [hg, if_pos rfl] at h
  exact h
set_option maxHeartbeats 1600000 in
theorem goal_A (s : S) (x y z : Value) (n : Int) (w : World) (h : Fc s) (h1 : 1 ≤ n) (h2 : n ≤ 9999) : Calls Tryz.prog 171 #[sv s x y z, .int .i32 65, .int .i64 n] w fun e w' => e = .returned (goalV (goal s 65 n)) ∧ Below w.heap.size w w' := by
  have HG : Hid (goalV (goal s 65 n) = .iface 201 (.int .i64 (upRow s n))) := Lib.hid rfl
  have f := h.f
  have hv : IntKind.i64.wrap (s.main.cols - 1) = s.main.cols - 1 := by rw [IntKind.wrap_i64]; have := f.c1; have := f.c40; omega
  have HC := Lib.hid (fun W => up_any s x y z n W h h1 h2)
  have H1 : Hid (SBox (w.alloc (.cells (sarr s x y z) 36)) w.heap.size s x y z) := Lib.hid (SBox.new w s x y z)
  have HB1 : Hid (Below w.heap.size w (w.alloc (.cells (sarr s x y z) 36))) := Lib.hid (bel_alloc w _)
  rw [HG.out]
  clear f h HG
  go_enter Tryz.func171, Tryz.ntmps171
  go_upto_region 1 with (fail)
  change Code.wp _ _ _ _ (w.alloc (.cells (sarr s x y z) 36))
  generalize w.alloc (.cells (sarr s x y z) 36) = w1 at H1 HB1 ⊢
  have c1 : ∀ j, w1.cell? ⟨w.heap.size, j, none⟩ = (sarr s x y z)[j]? := H1.out.cell
  go_quiet (fail)
  go_upto_region 2 with (fail)
  have H2 := Lib.hid (H1.out.kept (bel_drewNc w1 nq))
  have HB2 := Lib.hid (HB1.out.trans ((bel_drewNc w1 nq).mono HB1.out.size))
  clear c1 H1 HB1
  generalize w1.drewN nq = w2 at H2 HB2 ⊢
  have c2 : ∀ j, w2.cell? ⟨w.heap.size, j, none⟩ = (sarr s x y z)[j]? := H2.out.cell
  go_wp2_with (refine wp_loadS (b := w.heap.size) (s := s) rfl rfl rfl H2.out ?_)
  refine (HC.out w2).mono ?_; rintro e w3 ⟨rfl, hb⟩
  have HB3 := Lib.hid (HB2.out.trans (hb.mono HB2.out.size))
  clear hb
  go_wp2_with fail
  go_ret
  exact ⟨rfl, HB3.out⟩
set_option maxHeartbeats 1600000 in
theorem goal_B (s : S) (x y z : Value) (n : Int) (w : World) (h : Fc s) (h1 : 1 ≤ n) (h2 : n ≤ 9999) : Calls Tryz.prog 171 #[sv s x y z, .int .i32 66, .int .i64 n] w fun e w' => e = .returned (goalV (goal s 66 n)) ∧ Below w.heap.size w w' := by
  have HG : Hid (goalV (goal s 66 n) = .iface 201 (.int .i64 (dnRow s n))) := Lib.hid rfl
  have f := h.f
  have hv : IntKind.i64.wrap (s.main.cols - 1) = s.main.cols - 1 := by rw [IntKind.wrap_i64]; have := f.c1; have := f.c40; omega
  have HC := Lib.hid (fun W => down_any s x y z n W h h1 h2)
  have H1 : Hid (SBox (w.alloc (.cells (sarr s x y z) 36)) w.heap.size s x y z) := Lib.hid (SBox.new w s x y z)
  have HB1 : Hid (Below w.heap.size w (w.alloc (.cells (sarr s x y z) 36))) := Lib.hid (bel_alloc w _)
  rw [HG.out]
  clear f h HG
  go_enter Tryz.func171, Tryz.ntmps171
  go_upto_region 1 with (fail)
  change Code.wp _ _ _ _ (w.alloc (.cells (sarr s x y z) 36))
  generalize w.alloc (.cells (sarr s x y z) 36) = w1 at H1 HB1 ⊢
  have c1 : ∀ j, w1.cell? ⟨w.heap.size, j, none⟩ = (sarr s x y z)[j]? := H1.out.cell
  go_quiet (fail)
  go_upto_region 2 with (fail)
  have H2 := Lib.hid (H1.out.kept (bel_drewNc w1 nq))
  have HB2 := Lib.hid (HB1.out.trans ((bel_drewNc w1 nq).mono HB1.out.size))
  clear c1 H1 HB1
  generalize w1.drewN nq = w2 at H2 HB2 ⊢
  have c2 : ∀ j, w2.cell? ⟨w.heap.size, j, none⟩ = (sarr s x y z)[j]? := H2.out.cell
  go_wp2_with (refine wp_loadS (b := w.heap.size) (s := s) rfl rfl rfl H2.out ?_)
  refine (HC.out w2).mono ?_; rintro e w3 ⟨rfl, hb⟩
  have HB3 := Lib.hid (HB2.out.trans (hb.mono HB2.out.size))
  clear hb
  go_wp2_with fail
  go_ret
  exact ⟨rfl, HB3.out⟩
set_option maxHeartbeats 1600000 in
theorem goal_C (s : S) (x y z : Value) (n : Int) (w : World) (h : Fc s) (h1 : 1 ≤ n) (h2 : n ≤ 9999) : Calls Tryz.prog 171 #[sv s x y z, .int .i32 67, .int .i64 n] w fun e w' => e = .returned (goalV (goal s 67 n)) ∧ Below w.heap.size w w' := by
  have HG : Hid (goalV (goal s 67 n) = .iface 203 (.int .i64 (min (s.cur.col + n) (s.main.cols - 1)))) := Lib.hid rfl
  have f := h.f
  have hv : IntKind.i64.wrap (s.main.cols - 1) = s.main.cols - 1 := by rw [IntKind.wrap_i64]; have := f.c1; have := f.c40; omega
  have hw : IntKind.i64.wrap (s.cur.col + n) = s.cur.col + n := by rw [IntKind.wrap_i64]; have := f.col0; have := f.col1; have := f.c40; omega
  have H1 : Hid (SBox (w.alloc (.cells (sarr s x y z) 36)) w.heap.size s x y z) := Lib.hid (SBox.new w s x y z)
  have HB1 : Hid (Below w.heap.size w (w.alloc (.cells (sarr s x y z) 36))) := Lib.hid (bel_alloc w _)
  rw [HG.out]
  clear f h HG
  go_enter Tryz.func171, Tryz.ntmps171
  go_upto_region 1 with (fail)
  change Code.wp _ _ _ _ (w.alloc (.cells (sarr s x y z) 36))
  generalize w.alloc (.cells (sarr s x y z) 36) = w1 at H1 HB1 ⊢
  have c1 : ∀ j, w1.cell? ⟨w.heap.size, j, none⟩ = (sarr s x y z)[j]? := H1.out.cell
  go_quiet (fail)
  go_upto_region 2 with (fail)
  have H2 := Lib.hid (H1.out.kept (bel_drewNc w1 nq))
  have HB2 := Lib.hid (HB1.out.trans ((bel_drewNc w1 nq).mono HB1.out.size))
  clear c1 H1 HB1
  generalize w1.drewN nq = w2 at H2 HB2 ⊢
  have c2 : ∀ j, w2.cell? ⟨w.heap.size, j, none⟩ = (sarr s x y z)[j]? := H2.out.cell
  go_wp2_with fail
  go_ret
  exact ⟨rfl, HB2.out⟩
set_option maxHeartbeats 1600000 in
theorem goal_D (s : S) (x y z : Value) (n : Int) (w : World) (h : Fc s) (h1 : 1 ≤ n) (h2 : n ≤ 9999) : Calls Tryz.prog 171 #[sv s x y z, .int .i32 68, .int .i64 n] w fun e w' => e = .returned (goalV (goal s 68 n)) ∧ Below w.heap.size w w' := by
  have HG : Hid (goalV (goal s 68 n) = .iface 203 (.int .i64 (max (s.cur.col - n) 0))) := Lib.hid rfl
  have f := h.f
  have hv : IntKind.i64.wrap (s.main.cols - 1) = s.main.cols - 1 := by rw [IntKind.wrap_i64]; have := f.c1; have := f.c40; omega
  have hw : IntKind.i64.wrap (s.cur.col - n) = s.cur.col - n := by rw [IntKind.wrap_i64]; have := f.col0; have := f.col1; have := f.c40; omega
  have H1 : Hid (SBox (w.alloc (.cells (sarr s x y z) 36)) w.heap.size s x y z) := Lib.hid (SBox.new w s x y z)
  have HB1 : Hid (Below w.heap.size w (w.alloc (.cells (sarr s x y z) 36))) := Lib.hid (bel_alloc w _)
  rw [HG.out]
  clear f h HG
  go_enter Tryz.func171, Tryz.ntmps171
  go_upto_region 1 with (fail)
  change Code.wp _ _ _ _ (w.alloc (.cells (sarr s x y z) 36))
  generalize w.alloc (.cells (sarr s x y z) 36) = w1 at H1 HB1 ⊢
  have c1 : ∀ j, w1.cell? ⟨w.heap.size, j, none⟩ = (sarr s x y z)[j]? := H1.out.cell
  go_quiet (fail)
  go_upto_region 2 with (fail)
  have H2 := Lib.hid (H1.out.kept (bel_drewNc w1 nq))
  have HB2 := Lib.hid (HB1.out.trans ((bel_drewNc w1 nq).mono HB1.out.size))
  clear c1 H1 HB1
  generalize w1.drewN nq = w2 at H2 HB2 ⊢
  have c2 : ∀ j, w2.cell? ⟨w.heap.size, j, none⟩ = (sarr s x y z)[j]? := H2.out.cell
  go_wp2_with fail
  go_ret
  exact ⟨rfl, HB2.out⟩
set_option maxHeartbeats 1600000 in
theorem goal_G (s : S) (x y z : Value) (n : Int) (w : World) (h : Fc s) (h1 : 1 ≤ n) (h2 : n ≤ 9999) : Calls Tryz.prog 171 #[sv s x y z, .int .i32 71, .int .i64 n] w fun e w' => e = .returned (goalV (goal s 71 n)) ∧ Below w.heap.size w w' := by
  have HG : Hid (goalV (goal s 71 n) = .iface 203 (.int .i64 (min (n - 1) (s.main.cols - 1)))) := Lib.hid rfl
  have f := h.f
  have hv : IntKind.i64.wrap (s.main.cols - 1) = s.main.cols - 1 := by rw [IntKind.wrap_i64]; have := f.c1; have := f.c40; omega
  have hw : IntKind.i64.wrap (n - 1) = n - 1 := by rw [IntKind.wrap_i64]; omega
  have H1 : Hid (SBox (w.alloc (.cells (sarr s x y z) 36)) w.heap.size s x y z) := Lib.hid (SBox.new w s x y z)
  have HB1 : Hid (Below w.heap.size w (w.alloc (.cells (sarr s x y z) 36))) := Lib.hid (bel_alloc w _)
  rw [HG.out]
  clear f h HG
  go_enter Tryz.func171, Tryz.ntmps171
  go_upto_region 1 with (fail)
  change Code.wp _ _ _ _ (w.alloc (.cells (sarr s x y z) 36))
  generalize w.alloc (.cells (sarr s x y z) 36) = w1 at H1 HB1 ⊢
  have c1 : ∀ j, w1.cell? ⟨w.heap.size, j, none⟩ = (sarr s x y z)[j]? := H1.out.cell
  go_quiet (fail)
  go_upto_region 2 with (fail)
  have H2 := Lib.hid (H1.out.kept (bel_drewNc w1 nq))
  have HB2 := Lib.hid (HB1.out.trans ((bel_drewNc w1 nq).mono HB1.out.size))
  clear c1 H1 HB1
  generalize w1.drewN nq = w2 at H2 HB2 ⊢
  have c2 : ∀ j, w2.cell? ⟨w.heap.size, j, none⟩ = (sarr s x y z)[j]? := H2.out.cell
  go_wp2_with fail
  go_ret
  exact ⟨rfl, HB2.out⟩
set_option maxHeartbeats 1600000 in
theorem goal_d (s : S) (x y z : Value) (n : Int) (w : World) (h : Fc s) (h1 : 1 ≤ n) (h2 : n ≤ 9999) : Calls Tryz.prog 171 #[sv s x y z, .int .i32 100, .int .i64 n] w fun e w' => e = .returned (goalV (goal s 100 n)) ∧ Below w.heap.size w w' := by
  have HG : Hid (goalV (goal s 100 n) = .iface 201 (.int .i64 (noRow s n))) := Lib.hid rfl
  have f := h.f
  have hv : IntKind.i64.wrap (s.main.cols - 1) = s.main.cols - 1 := by rw [IntKind.wrap_i64]; have := f.c1; have := f.c40; omega
  have HC := Lib.hid (fun W => numbered_any s x y z n W h h1 h2)
  have H1 : Hid (SBox (w.alloc (.cells (sarr s x y z) 36)) w.heap.size s x y z) := Lib.hid (SBox.new w s x y z)
  have HB1 : Hid (Below w.heap.size w (w.alloc (.cells (sarr s x y z) 36))) := Lib.hid (bel_alloc w _)
  rw [HG.out]
  clear f h HG
  go_enter Tryz.func171, Tryz.ntmps171
  go_upto_region 1 with (fail)
  change Code.wp _ _ _ _ (w.alloc (.cells (sarr s x y z) 36))
  generalize w.alloc (.cells (sarr s x y z) 36) = w1 at H1 HB1 ⊢
  have c1 : ∀ j, w1.cell? ⟨w.heap.size, j, none⟩ = (sarr s x y z)[j]? := H1.out.cell
  go_quiet (fail)
  go_upto_region 2 with (fail)
  have H2 := Lib.hid (H1.out.kept (bel_drewNc w1 nq))
  have HB2 := Lib.hid (HB1.out.trans ((bel_drewNc w1 nq).mono HB1.out.size))
  clear c1 H1 HB1
  generalize w1.drewN nq = w2 at H2 HB2 ⊢
  have c2 : ∀ j, w2.cell? ⟨w.heap.size, j, none⟩ = (sarr s x y z)[j]? := H2.out.cell
  go_wp2_with (refine wp_loadS (b := w.heap.size) (s := s) rfl rfl rfl H2.out ?_)
  refine (HC.out w2).mono ?_; rintro e w3 ⟨rfl, hb⟩
  have HB3 := Lib.hid (HB2.out.trans (hb.mono HB2.out.size))
  clear hb
  go_wp2_with fail
  go_ret
  exact ⟨rfl, HB3.out⟩
set_option maxHeartbeats 1600000 in
theorem goal_I (s : S) (x y z : Value) (n : Int) (w : World) (h : Fc s) (h1 : 1 ≤ n) (h2 : n ≤ 9999) (hI : In w s x y z) : Calls Tryz.prog 171 #[sv s x y z, .int .i32 73, .int .i64 n] w fun e w' => e = .returned (goalV (goal s 73 n)) ∧ Below w.heap.size w w' := by
  have HG : Hid (goalV (goal s 73 n) = .iface 203 (.int .i64 (nxCol s n))) := Lib.hid rfl
  have f := h.f
  have hv : IntKind.i64.wrap (s.main.cols - 1) = s.main.cols - 1 := by rw [IntKind.wrap_i64]; have := f.c1; have := f.c40; omega
  obtain ⟨c, hc⟩ := next_is s n z w h h1 h2 hI.t
  have HC := Lib.hid hc
  clear hc
  have H1 : Hid (SBox (w.alloc (.cells (sarr s x y z) 36)) w.heap.size s x y z) := Lib.hid (SBox.new w s x y z)
  have HB1 : Hid (Below w.heap.size w (w.alloc (.cells (sarr s x y z) 36))) := Lib.hid (bel_alloc w _)
  obtain ⟨Az, nz, cz, hz⟩ : ∃ A n c, z = .slice A n c := (by obtain ⟨A, c, e⟩ := hI.t.shape; exact ⟨A, _, c, e⟩)
  subst hz
  rw [HG.out]
  clear f h hI HG
  go_enter Tryz.func171, Tryz.ntmps171
  go_upto_region 1 with (fail)
  change Code.wp _ _ _ _ (w.alloc (.cells (sarr s x y (.slice Az nz cz)) 36))
  generalize w.alloc (.cells (sarr s x y (.slice Az nz cz)) 36) = w1 at H1 HB1 ⊢
  have c1 : ∀ j, w1.cell? ⟨w.heap.size, j, none⟩ = (sarr s x y (.slice Az nz cz))[j]? := H1.out.cell
  go_quiet (fail)
  go_upto_region 2 with (fail)
  have H2 := Lib.hid (H1.out.kept (bel_drewNc w1 nq))
  have HB2 := Lib.hid (HB1.out.trans ((bel_drewNc w1 nq).mono HB1.out.size))
  clear c1 H1 HB1
  generalize w1.drewN nq = w2 at H2 HB2 ⊢
  have c2 : ∀ j, w2.cell? ⟨w.heap.size, j, none⟩ = (sarr s x y (.slice Az nz cz))[j]? := H2.out.cell
  go_wp2_with fail
  refine (HC.out w2 HB2.out).mono ?_; rintro e w3 ⟨rfl, hb⟩
  have HB3 := Lib.hid (HB2.out.trans (hb.mono HB2.out.size))
  clear hb
  go_wp2_with fail
  go_ret
  exact ⟨rfl, HB3.out⟩
set_option maxHeartbeats 1600000 in
theorem goal_Z (s : S) (x y z : Value) (n : Int) (w : World) (h : Fc s) (h1 : 1 ≤ n) (h2 : n ≤ 9999) (hI : In w s x y z) : Calls Tryz.prog 171 #[sv s x y z, .int .i32 90, .int .i64 n] w fun e w' => e = .returned (goalV (goal s 90 n)) ∧ Below w.heap.size w w' := by
  have HG : Hid (goalV (goal s 90 n) = .iface 203 (.int .i64 (bkCol s n))) := Lib.hid rfl
  have f := h.f
  have hv : IntKind.i64.wrap (s.main.cols - 1) = s.main.cols - 1 := by rw [IntKind.wrap_i64]; have := f.c1; have := f.c40; omega
  obtain ⟨c, hc⟩ := back_is s n z w h h1 h2 hI.t
  have HC := Lib.hid hc
  clear hc
  have H1 : Hid (SBox (w.alloc (.cells (sarr s x y z) 36)) w.heap.size s x y z) := Lib.hid (SBox.new w s x y z)
  have HB1 : Hid (Below w.heap.size w (w.alloc (.cells (sarr s x y z) 36))) := Lib.hid (bel_alloc w _)
  obtain ⟨Az, nz, cz, hz⟩ : ∃ A n c, z = .slice A n c := (by obtain ⟨A, c, e⟩ := hI.t.shape; exact ⟨A, _, c, e⟩)
  subst hz
  rw [HG.out]
  clear f h hI HG
  go_enter Tryz.func171, Tryz.ntmps171
  go_upto_region 1 with (fail)
  change Code.wp _ _ _ _ (w.alloc (.cells (sarr s x y (.slice Az nz cz)) 36))
  generalize w.alloc (.cells (sarr s x y (.slice Az nz cz)) 36) = w1 at H1 HB1 ⊢
  have c1 : ∀ j, w1.cell? ⟨w.heap.size, j, none⟩ = (sarr s x y (.slice Az nz cz))[j]? := H1.out.cell
  go_quiet (fail)
  go_upto_region 2 with (fail)
  have H2 := Lib.hid (H1.out.kept (bel_drewNc w1 nq))
  have HB2 := Lib.hid (HB1.out.trans ((bel_drewNc w1 nq).mono HB1.out.size))
  clear c1 H1 HB1
  generalize w1.drewN nq = w2 at H2 HB2 ⊢
  have c2 : ∀ j, w2.cell? ⟨w.heap.size, j, none⟩ = (sarr s x y (.slice Az nz cz))[j]? := H2.out.cell
  go_wp2_with fail
  refine (HC.out w2 HB2.out).mono ?_; rintro e w3 ⟨rfl, hb⟩
  have HB3 := Lib.hid (HB2.out.trans (hb.mono HB2.out.size))
  clear hb
  go_wp2_with fail
  go_ret
  exact ⟨rfl, HB3.out⟩
theorem goal_any (s : S) (x y z : Value) (k n : Int) (w : World) (h : Fc s) (hk : plainKey k) (h1 : 1 ≤ n) (h2 : n ≤ 9999) (hI : In w s x y z) : Calls Tryz.prog 171 #[sv s x y z, .int .i32 k, .int .i64 n] w fun e w' => e = .returned (goalV (goal s k n)) ∧ Below w.heap.size w w' := by
  rcases hk with rfl | rfl | rfl | rfl | rfl | rfl | rfl | rfl
  · exact goal_A s x y z n w h h1 h2
  · exact goal_B s x y z n w h h1 h2
  · exact goal_C s x y z n w h h1 h2
  · exact goal_D s x y z n w h h1 h2
  · exact goal_G s x y z n w h h1 h2
  · exact goal_d s x y z n w h h1 h2
  · exact goal_I s x y z n w h h1 h2 hI
  · exact goal_Z s x y z n w h h1 h2 hI
end Scr
end
end Go.Proofs.YtceaoadlhdgnmaaGreatDoor
