/- Contract of package utf's All: what it tells is what its bytes make, one by one. -/
import Derived.Test.YthoakfnilacmnaaDoorUtfNext
import Derived.Test.YthoakfnilacmnaaDoorUtfRefD
import Derived.Lib.OthersKept
namespace Go.Proofs.YthoakfnilacmnaaDoor
open Go.RowKit
namespace Utf

theorem own_moved {w : World} {B e n : Nat} {v : Value} {xs : List Value} {k : Nat} {s : ByteArray} {pos : Nat} (h : w.ownsRow B e 1 v n xs) (hk : w.heap[k]? = some (.stringIter s pos)) (q : Nat) : (w.iterAt k s q).ownsRow B e 1 v n xs := by
  refine ⟨h.1, ?_⟩
  rcases h.2 with h0 | ⟨g, cap, cur, hv, hb, hg, rest⟩
  · exact .inl h0
  · refine .inr ⟨g, cap, cur, hv, hb, ?_, rest⟩
    have hne : g ≠ k := by rintro rfl; rw [hk] at hg; cases hg
    rw [Lib.iterAt_other w k g s q hne]; exact hg
theorem iter_not_own {w : World} {B e n : Nat} {v : Value} {xs : List Value} {k : Nat} {s : ByteArray} {pos : Nat} (h : w.ownsRow B e 1 v n xs) (hk : w.heap[k]? = some (.stringIter s pos)) : some k ≠ v.ownBlock := by
  intro e
  rcases h.2 with ⟨rfl, _⟩ | ⟨g, cap, cur, rfl, hb, hg, rest⟩
  · cases e
  · injection e with e; subst e
    rw [hk] at hg; cases hg
/-- An iterator is kept by what is put behind a row. -/
theorem iter_kept {w w' : World} {B : Nat} {v u : Value} {xs ys : List Int} {k : Nat} {s : ByteArray} {pos : Nat} (ho : w.ownsRow B 3 1 v xs.length (ints xs)) (hk : w.heap[k]? = some (.stringIter s pos)) (hp : Puts w B v ys w' u) : w'.heap[k]? = some (.stringIter s pos) :=
  (hp.2.1.block k (Array.getElem?_eq_some_iff.1 hk).1 (iter_not_own ho hk)).trans hk
theorem take_more (l : List UInt8) (a b : Nat) : l.take (a + b) = l.take a ++ (l.drop a).take b := List.take_add

set_option maxHeartbeats 1600000 in
theorem utfAll_bad (p s : ByteArray) (w : World) (hsz : p.size ≤ 1000000) (ht : Tabs w) (hf : fits p.data.toList = false) :
    Calls Tryd.prog 16 #[.string p, .string s] w (Gives3 w ([], []) 1) := by
  have HF := Lib.hid hf
  have HT := Lib.hid ht
  clear hf ht
  go_enter Tryd.func16, Tryd.ntmps16
  go_wp2_with fail
  refine (fits_any p _ hsz HT.out).mono ?_
  rw [HF.out]
  rintro e w1 ⟨rfl, hb1⟩
  go_wp2_with fail
  go_ret3
  exact Gives3.mk_ rfl (World.ownsRow_nil _ _ _ _) hb1

set_option maxRecDepth 100000 in
set_option maxHeartbeats 1600000 in
theorem utfAll_any (p s : ByteArray) (w : World) (hsz : p.size + s.size ≤ 1000000) (ht : Tabs w) (hf : fits p.data.toList = true) :
    Calls Tryd.prog 16 #[.string p, .string s] w (Gives3 w (all p.data.toList s.data.toList) 0) := by
  have hcat : ¬ 9223372036854775807 < p.size + s.size := by omega
  have HL : Hid ((p ++ s).data.toList = p.data.toList ++ s.data.toList) := Lib.hid (by simp)
  have HA : Hid (all [] (p ++ s).data.toList = all p.data.toList s.data.toList) := Lib.hid (by
    rw [HL.out, all_append, all_part hf]; simp)
  have HS : Hid ((p ++ s).size ≤ 1000000) := Lib.hid (by rw [ByteArray.size_append]; exact hsz)
  have HF := Lib.hid hf
  have HT := Lib.hid ht
  have hpz : p.size ≤ 1000000 := by omega
  clear hf ht
  go_enter Tryd.func16, Tryd.ntmps16
  go_wp2_with fail
  refine (fits_any p _ hpz HT.out).mono ?_
  rw [HF.out]
  rintro e w1 ⟨rfl, hb1⟩
  have z1 := hb1.size
  go_wp2_with fail
  generalize p ++ s = T at HL HA HS ⊢
  have HG : Hid (w.heap.size ≤ w1.heap.size) := Lib.hid z1
  go_loopw [4, 5] (fun v t wr => ∃ (pos : Nat) (X : List Int × List UInt8), pos ≤ T.size ∧ Hid (all [] (T.data.toList.take pos) = X) ∧ t = .string ⟨X.2.toArray⟩ ∧
    wr.ownsRow w.heap.size 3 1 v X.1.length (ints X.1) ∧ Hid (wr.heap[w1.heap.size]? = some (.stringIter T pos)) ∧ Below w.heap.size w wr) (fun _ _ wr => T.size - wr.iterPos w1.heap.size)
  case atStart => exact ⟨0, ([], []), by omega, Lib.hid rfl, rfl, World.ownsRow_nil _ _ _ _, Lib.hid (World.iter_heap _ _ _), below_iter hb1 z1 _ _⟩
  case round =>
    obtain ⟨pos, X, hpos, HX, rfl, hown, HI, hbl⟩ := hrel
    have hfit : fits X.2 = true := by rw [← HX.out]; exact all_fits _ rfl
    have hlen : X.1.length ≤ 2 * T.size := by
      rw [← HX.out]
      have := all_len [] (T.data.toList.take pos)
      have h2 : (T.data.toList.take pos).length ≤ T.data.toList.length := by rw [List.length_take]; exact Nat.min_le_right _ _
      have h3 : T.data.toList.length = T.size := rfl
      omega
    have hsz2 := HS.out
    by_cases hp : pos < T.size
    · have hnx : ∀ ty, (Instr.next (.pointer (some ⟨w1.heap.size, 0, none⟩)) true ty).run Tryd.prog wr = _ := fun ty => Lib.run_next_any_at wr w1.heap.size T pos ty HI.out hp
      have hIP : wr.iterPos w1.heap.size = pos := by simp [World.iterPos, HI.out]
      have HIP := Lib.hid hIP
      clear hIP
      have hEx : (T.extract pos T.size).data.toList = T.data.toList.drop pos := by
        rw [extract_list, List.take_of_length_le (show T.data.toList.length ≤ T.size from Nat.le_refl _)]
      have hEz : (T.extract pos T.size).size ≤ 2000000 := by rw [ByteArray.size_extract]; omega
      rcases dec_rune _ (drop_ne hp) with ⟨hd, ho⟩ | ⟨hk, hk1, hr, h65⟩
      · have HO : Hid (own (T.extract pos T.size).data.toList = false) := Lib.hid (by rw [hEx]; exact ho)
        rw [← dec_at] at hd
        rw [hd] at hnx
        have HXN : Hid (all [] (T.data.toList.take (pos + 1)) = (X.1 ++ (next X.2 T[pos]).1, (next X.2 T[pos]).2)) := Lib.hid (by rw [take_byte T hp, all_snoc, HX.out])
        have HEZ := Lib.hid hEz
        have own2 := own_moved hown HI.out (pos + 1)
        have hit2 := Lib.hid (Lib.iterAt_heap wr w1.heap.size T pos (pos + 1) HI.out)
        have hbl2 : Below w.heap.size w (wr.iterAt w1.heap.size T (pos + 1)) := Lib.below_iterAt hbl HG.out _ _
        have hz2 := hbl2.size
        have hz3 : Hid (w.heap.size ≤ (wr.iterAt w1.heap.size T (pos + 1)).heap.size) := Lib.hid hz2
        clear hd ho hEx hEz hz2
        go_wp2_with fail
        refine (prefix27 _ _ HEZ.out).mono ?_
        rw [HO.out]
        rintro e w2 ⟨rfl, rfl⟩
        go_wp2_with fail
        refine (step_any u4 X.1 w.heap.size _ X.2 rfl T[pos] _ ⟨HT.out.1, hz3.out⟩ own2 (by omega) (HT.out.low hbl2 HT.out.1) hfit).mono ?_
        rintro e w3 ⟨u, rfl, hput⟩
        have hit3 := iter_kept own2 hit2.out hput
        have hIP3 : Hid (w3.iterPos w1.heap.size = pos + 1) := Lib.hid (by simp [World.iterPos, hit3])
        have HIT3 := Lib.hid hit3
        clear hit3
        go_wp2_with fail
        go_roundw
        case rel => exact ⟨pos + 1, _, by omega, HXN, rfl, hput.1, HIT3, hbl2.trans (hput.below_ own2 hz3.out)⟩
        case measure => rw [hIP3.out, HIP.out]; omega
      · have HXN : Hid (all [] (T.data.toList.take (pos + (dec (T.data.toList.drop pos)).2)) = (X.1 ++ (brk X.2 ++ [((dec (T.data.toList.drop pos)).1 : Int)]), [])) := Lib.hid (by
          rw [take_more, all_append, HX.out, hr.all_ hfit])
        have hle := whole_le ((rune_iff _ _).1 hr)
        have hadd : pos + (dec (T.data.toList.drop pos)).2 ≤ T.size := by
          rw [List.length_drop] at hk
          have : T.data.toList.length = T.size := rfl
          omega
        have HO : Hid ((dec (T.data.toList.drop pos)).1 = 65533 → own (T.extract pos T.size).data.toList = true) := Lib.hid (by rw [hEx]; exact h65)
        rw [dec_at] at hnx
        generalize dec (T.data.toList.drop pos) = d at hnx HXN hle hadd HO hk1
        have HEZ := Lib.hid hEz
        have own2 := own_moved hown HI.out (pos + d.2)
        have hit2 := Lib.hid (Lib.iterAt_heap wr w1.heap.size T pos (pos + d.2) HI.out)
        have hbl2 : Below w.heap.size w (wr.iterAt w1.heap.size T (pos + d.2)) := Lib.below_iterAt hbl HG.out _ _
        have hz2 := hbl2.size
        have hz3 : Hid (w.heap.size ≤ (wr.iterAt w1.heap.size T (pos + d.2)).heap.size) := Lib.hid hz2
        have hbk := brk_len X.2
        clear hEx hEz hz2 h65 hr hk
        by_cases he : d.1 = 65533
        · have hb65 : ((d.1 : Int) == 65533) = true := by rw [beq_iff_eq]; omega
          have HO2 := Lib.hid (HO.out he)
          clear he HO
          go_wp2_with fail
          refine (prefix27 _ _ HEZ.out).mono ?_
          rw [HO2.out]
          rintro e w2 ⟨rfl, rfl⟩
          go_wp2_with fail
          refine (broken_any u4 X.1 w.heap.size _ X.2 rfl _ own2 (by omega) hz3.out).mono ?_
          rintro e w3 ⟨u, rfl, hput⟩
          have z3 := hput.2.1.size
          have hit3 := iter_kept own2 hit2.out hput
          have HIT3 := Lib.hid hit3
          clear hit3
          go_wp2_with (at_builtin; refine wp_append_ints rfl rfl w.heap.size u _ (X.1 ++ brk X.2) rfl (hput.1.alloc _) _ 1 [(d.1 : Int)] rfl (Src.one w3 _ _ _) (by rw [List.length_append]; omega) (by have := hz3.out; simp; omega) ?_; intro v1 w4 ho4 hg4 hat4)
          have hput4 : Puts w3 w.heap.size u (X.1 ++ brk X.2 ++ [(d.1 : Int)]) w4 v1 := Puts.app ((Below.refl _ _).alloc (Nat.le_refl _) _) ho4 hg4 hat4
          have hit4 := iter_kept hput.1 HIT3.out hput4
          have hIP4 : Hid (w4.iterPos w1.heap.size = pos + d.2) := Lib.hid (by simp [World.iterPos, hit4])
          have HIT4 := Lib.hid hit4
          clear hit4
          go_roundw
          case rel => exact ⟨pos + d.2, (X.1 ++ brk X.2 ++ [(d.1 : Int)], []), hadd, Lib.hid (by rw [HXN.out, List.append_assoc]), rfl, hput4.1, HIT4, (hbl2.trans (hput.below_ own2 hz3.out)).trans (hput4.below_ hput.1 (Nat.le_trans hz3.out z3))⟩
          case measure => rw [hIP4.out, HIP.out]; omega
        · have hb65 : ((d.1 : Int) == 65533) = false := by rw [beq_eq_false_iff_ne]; omega
          clear he HO
          go_wp2_with fail
          refine (broken_any u4 X.1 w.heap.size _ X.2 rfl _ own2 (by omega) hz3.out).mono ?_
          rintro e w3 ⟨u, rfl, hput⟩
          have z3 := hput.2.1.size
          have hit3 := iter_kept own2 hit2.out hput
          have HIT3 := Lib.hid hit3
          clear hit3
          go_wp2_with (at_builtin; refine wp_append_ints rfl rfl w.heap.size u _ (X.1 ++ brk X.2) rfl (hput.1.alloc _) _ 1 [(d.1 : Int)] rfl (Src.one w3 _ _ _) (by rw [List.length_append]; omega) (by have := hz3.out; simp; omega) ?_; intro v1 w4 ho4 hg4 hat4)
          have hput4 : Puts w3 w.heap.size u (X.1 ++ brk X.2 ++ [(d.1 : Int)]) w4 v1 := Puts.app ((Below.refl _ _).alloc (Nat.le_refl _) _) ho4 hg4 hat4
          have hit4 := iter_kept hput.1 HIT3.out hput4
          have hIP4 : Hid (w4.iterPos w1.heap.size = pos + d.2) := Lib.hid (by simp [World.iterPos, hit4])
          have HIT4 := Lib.hid hit4
          clear hit4
          go_roundw
          case rel => exact ⟨pos + d.2, (X.1 ++ brk X.2 ++ [(d.1 : Int)], []), hadd, Lib.hid (by rw [HXN.out, List.append_assoc]), rfl, hput4.1, HIT4, (hbl2.trans (hput.below_ own2 hz3.out)).trans (hput4.below_ hput.1 (Nat.le_trans hz3.out z3))⟩
          case measure => rw [hIP4.out, HIP.out]; omega
    · have hnx : ∀ ty, (Instr.next (.pointer (some ⟨w1.heap.size, 0, none⟩)) true ty).run Tryd.prog wr = _ := fun ty => Lib.run_next_end_at wr w1.heap.size T pos ty HI.out hp
      have HE : Hid (all p.data.toList s.data.toList = (X.1, X.2)) := Lib.hid (by
        rw [← HA.out, ← HX.out, List.take_of_length_le (by show T.size ≤ pos; omega)])
      go_wp2_with fail
      go_ret3
      exact Gives3.mk_ HE.out hown hbl
end Utf
end Go.Proofs.YthoakfnilacmnaaDoor
