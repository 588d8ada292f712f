/- The walk of the law on pieces: whatever texts are played, wherever they are cut, it answers true. -/
import Derived.Test.YthoakfnilacmnaaDoorUtfLawA
namespace Go.Proofs.YthoakfnilacmnaaDoor
open Go.RowKit
namespace Utf

theorem utfAll_at (p s : ByteArray) (l m : List UInt8) (hl : p.data.toList = l) (hm : s.data.toList = m) (X : List Int × List UInt8) (hX : all l m = X) (w : World) (hsz : p.size + s.size ≤ 1000000) (ht : Tabs w) (hf : fits l = true) :
    Calls Tryd.prog 16 #[.string p, .string s] w (Gives3 w X 0) := by subst hl; subst hm; subst hX; exact utfAll_any p s w hsz ht hf
/-- What a cut leaves to show: the two pieces' runes are the whole's. -/
theorem cut_all (l : List UInt8) (k : Nat) (X A B : List Int × List UInt8) (hX : all [] l = X) (hA : all [] (l.take k) = A) (hB : all A.2 (l.drop k) = B) : X = (A.1 ++ B.1, B.2) := by
  rw [← hX, ← hB, ← hA, ← all_append, List.take_append_drop]

theorem own_len {l : List UInt8} (h : own l = true) : 3 ≤ l.length := by
  match l with
  | [] => simp [own] at h
  | [_] => simp [own] at h
  | [_, _] => simp [own] at h
  | _ :: _ :: _ :: _ => simp
theorem own_take {l : List UInt8} (h : 3 ≤ l.length) : own l = (l.take 3 == [239, 191, 189]) := by
  match l, h with
  | a :: b :: c :: r, _ =>
    show (a == 239 && (b == 191 && c == 189)) = ([a, b, c] == [239, 191, 189])
    simp

set_option maxRecDepth 100000 in
set_option maxHeartbeats 3200000 in
theorem lawSplits_any {x : Value} (ss : List ByteArray) (w : World) (hx : Strs w x ss) (ht : Tabs w) (hn : ss.length ≤ 140737488355328) (hs : ∀ k, k < ss.length → (ss.getD k ByteArray.empty).size ≤ 140737488355328) :
    Calls Tryd.prog 5 #[.agg #[x]] w fun e w' => e = .returned (.bool true) ∧ Below w.heap.size w w' := by
  obtain ⟨A, c, rfl, _⟩ := hx.at_
  have hx' := Lib.hid hx
  have ht' := Lib.hid ht
  have hn' := Lib.hid hn
  have hs' := Lib.hid hs
  clear hx ht hn hs
  go_enter Tryd.func5, Tryd.ntmps5
  go_wp2_with fail
  have hb0 : Below w.heap.size w (w.alloc (.cells #[.slice A ss.length c] 24)) := (Below.refl _ _).alloc (Nat.le_refl _) _
  refine (heavy_any ss _ (Src.kept hx'.out hb0) hn'.out hs'.out).mono ?_
  rintro e w1 ⟨⟨b, rfl, hL⟩, hb1⟩
  have HH : Hid (Held w.heap.size (.slice A ss.length c) ss w1) := Lib.hid (Held.kept ⟨by simp, Src.kept hx'.out hb0, ht'.out.kept hb0⟩ hb1)
  have hb1 : Below w.heap.size w w1 := hb0.trans (hb1.mono (by simp))
  have HL := Lib.hid hL
  clear hL
  cases b
  · have HLL := Lib.hid (HL.out rfl)
    have hn4 : ss.length ≤ 4000 := HLL.out.1
    have hbx := HH.out.1
    go_wp2_with fail
    go_loopw [3] (fun i wr => ∃ k : Nat, k ≤ ss.length ∧ i = .int .i64 k ∧ Below w1.heap.size w1 wr) (fun i _ => ss.length - (intOf i).toNat)
    case atStart => exact ⟨0, by omega, rfl, Below.refl _ _⟩
    case round =>
      obtain ⟨k, hk, rfl, hbl⟩ := hrel
      have hbx := cell_kept hbl hbx
      by_cases hlt : k < ss.length ∧ k < 6
      · obtain ⟨hlt, h6⟩ := hlt
        have hk6 : decide ((k : Int) < 6) = true := decide_eq_true (by omega)
        have HW := Lib.hid (HH.out.kept hbl)
        obtain ⟨A', c', hA, hcell⟩ := Strs.at_ HW.out.2.1
        obtain ⟨rfl, _, rfl⟩ : A = A' ∧ ss.length = ss.length ∧ c = c' := by injection hA with h1 h2 h3; exact ⟨h1, h2, h3⟩
        obtain ⟨ad, rfl, hck⟩ := hcell k hlt
        have hzk := HLL.out.2 k hlt
        have HT2 := Lib.hid HW.out.2.2
        clear hcell hA
        generalize ss.getD k ByteArray.empty = s at hck hzk
        by_cases h200 : 200 < s.size
        · have hd2 : decide (200 < (s.size : Int)) = true := decide_eq_true (by omega)
          go_wp2_with fail
          go_roundw
          case rel => exact ⟨k + 1, by omega, by go_num, hbl⟩
          case measure => simp [intOf]; omega
        · have hd2 : decide (200 < (s.size : Int)) = false := decide_eq_false (by omega)
          obtain ⟨X, hX⟩ : ∃ X, all [] s.data.toList = X := ⟨_, rfl⟩
          have HX := Lib.hid hX
          have hXl : X.1.length ≤ 2 * s.size := by
            rw [← hX]; exact all_len [] s.data.toList
          clear hX
          go_wp2_with fail
          refine (utfAll_at ⟨#[]⟩ s [] _ rfl rfl X HX.out _ (by show 0 + s.size ≤ _; omega) HT2.out rfl).mono ?_
          rintro e wA ⟨v, rfl, ho, hbA⟩
          have hbA : Below wr.heap.size wr wA := hbA
          have HO := Lib.hid ho
          have zA := hbA.size
          clear ho
          go_wp2_with fail
          refine (num_any 0 _).mono ?_; rintro e wB ⟨rfl, rfl⟩
          go_wp2_with fail
          have HTA := Lib.hid (HT2.out.kept hbA)
          obtain ⟨wo, rfl⟩ : ∃ wo : World, wo = wr := ⟨_, rfl⟩
          go_loopw [8] (fun j wr => ∃ m : Nat, m ≤ s.size + 1 ∧ j = .int .i64 m ∧ Below wA.heap.size wA wr) (fun j _ => s.size + 1 - (intOf j).toNat)
          case atStart => exact ⟨0, by omega, rfl, Below.refl _ _⟩
          case round =>
            obtain ⟨m, hm, rfl, hbl2⟩ := hrel
            by_cases hms : m ≤ s.size
            · obtain ⟨P, hP⟩ : ∃ P, all [] (s.data.toList.take m) = P := ⟨_, rfl⟩
              obtain ⟨Q, hQ⟩ : ∃ Q, all P.2 (s.data.toList.drop m) = Q := ⟨_, rfl⟩
              have HC := Lib.hid (cut_all _ m X P Q HX.out hP hQ)
              have hPf : Hid (fits P.2 = true) := Lib.hid (by rw [← hP]; exact all_fits _ rfl)
              have hPl : Hid (P.2.length ≤ 3) := Lib.hid (fits_len hPf.out)
              have HP := Lib.hid hP
              have HQ := Lib.hid hQ
              have hE1 : Hid ((s.extract 0 m).data.toList = s.data.toList.take m) := Lib.hid (by rw [extract_list]; simp)
              have hE2 : Hid ((s.extract m s.size).data.toList = s.data.toList.drop m) := Lib.hid (by rw [extract_list, List.take_of_length_le (show s.data.toList.length ≤ s.size from Nat.le_refl _)])
              have hz1 : Hid ((s.extract 0 m).size ≤ 200) := Lib.hid (by rw [ByteArray.size_extract]; omega)
              have hz2 : Hid ((s.extract m s.size).size ≤ 200) := Lib.hid (by rw [ByteArray.size_extract]; omega)
              clear hP hQ
              go_wp2_with fail
              refine (utfAll_at ⟨#[]⟩ _ [] _ rfl hE1.out P HP.out _ (by have := hz1.out; show 0 + _ ≤ _; omega) (HTA.out.kept hbl2) rfl).mono ?_
              rintro e wC ⟨v1, rfl, ho1, hbC⟩
              have zC := hbC.size
              have zW := hbl2.size
              go_wp2_with fail
              refine (utfAll_at _ _ P.2 _ rfl hE2.out Q HQ.out _ (by have := hz2.out; have := hPl.out; show P.2.length + _ ≤ _; omega) ((HTA.out.kept hbl2).kept hbC) hPf.out).mono ?_
              rintro e wD ⟨v2, rfl, ho2, hbD⟩
              have zD := hbD.size
              have hPQ : P.1.length + Q.1.length ≤ 400 := by
                have h := congrArg (fun x => x.1.length) HC.out
                simp only [List.length_append] at h
                omega
              have hq : Q.2 = X.2 := by rw [HC.out]
              have HPQ : Hid (P.1 ++ Q.1 = X.1) := Lib.hid (by rw [HC.out])
              have hbCD : Below wr.heap.size wr wD := hbC.trans (hbD.mono zC)
              have HO1 : Hid (wD.ownsRow wr.heap.size 3 1 v1 P.1.length (ints P.1)) := Lib.hid (own_kept ho1 hbD)
              have HO2 : Hid (wD.ownsRow wC.heap.size 3 1 v2 Q.1.length (ints Q.1)) := Lib.hid ho2
              have HOX : Hid (wD.ownsRow wo.heap.size 3 1 v X.1.length (ints X.1)) := Lib.hid (own_kept (own_kept HO.out hbl2) hbCD)
              clear ho1 ho2
              go_wp2_with fail
              refine (num_any 0 _).mono ?_; rintro e wE ⟨rfl, rfl⟩
              go_wp2_with fail
              refine (num_any 0 _).mono ?_; rintro e wE ⟨rfl, rfl⟩
              go_wp2_with fail
              refine (copyNumbers_any _ P.1 _ (Src.own HO1.out) (by omega)).mono ?_
              rintro e wE ⟨v3, rfl, ho3, hbE⟩
              have zE := hbE.size
              go_wp2_with (at_builtin; refine wp_append_ints_if rfl rfl wD.heap.size v3 _ P.1 rfl ho3 v2 _ Q.1 rfl (Src.own (own_kept HO2.out hbE)) (by omega) zE ?_; intro v4 wF ho4 hg4 hat4)
              have hbF : Below wD.heap.size wD wF := below_own hbE hg4 zE ho3
              have ho4 : wF.ownsRow wD.heap.size 3 1 v4 (P.1.length + Q.1.length) (ints (P.1 ++ Q.1)) := ho4
              refine (eqNumbers_same _ _ (P.1 ++ Q.1) X.1 _ (Src.own ho4) (Src.own (own_kept HOX.out hbF)) HPQ.out (by omega)).mono ?_
              rintro e wG ⟨rfl, q, rfl⟩
              go_wp2_with fail
              go_roundw
              case rel => exact ⟨m + 1, by omega, by go_num, below_drewN (hbl2.trans ((hbCD.trans (hbF.mono hbCD.size)).mono zW)) q⟩
              case measure => simp [intOf]; omega
            · have hdm : decide (m ≤ s.size) = false := decide_eq_false hms
              clear hms
              go_wp2_with fail
              obtain ⟨wi, rfl⟩ : ∃ wi : World, wi = wr := ⟨_, rfl⟩
              go_loopw [15, 16] (fun y vb wr => ∃ (pos : Nat) (Y : List Int) (ok : Bool), pos ≤ s.size ∧ vb = .bool ok ∧ wr.ownsRow wi.heap.size 3 1 y Y.length (ints Y) ∧ Hid (wr.heap[wi.heap.size]? = some (.stringIter s pos)) ∧
                Below wi.heap.size wi wr ∧ Hid (Y.length ≤ pos) ∧ Hid (ok = true → all [] (s.data.toList.take pos) = (Y, []))) (fun _ _ wr => s.size - wr.iterPos wi.heap.size)
              case atStart => exact ⟨0, [], true, by omega, rfl, World.ownsRow_nil _ _ _ _, Lib.hid (World.iter_heap _ _ _), below_iter (Below.refl _ _) (Nat.le_refl _) _ _, Lib.hid (by simp), Lib.hid (fun _ => rfl)⟩
              case round =>
                obtain ⟨pos, Y, ok, hpos, rfl, hown, HI, hbl3, HYl, HOK⟩ := hrel
                by_cases hp : pos < s.size
                · have hnx : ∀ ty, (Instr.next (.pointer (some ⟨wi.heap.size, 0, none⟩)) true ty).run Tryd.prog wr = _ := fun ty => Lib.run_next_any_at wr wi.heap.size s pos ty HI.out hp
                  have HIP : Hid (wr.iterPos wi.heap.size = pos) := Lib.hid (by simp [World.iterPos, HI.out])
                  rw [dec_at] at hnx
                  have hdl : (s.data.toList.drop pos).length = s.size - pos := by rw [List.length_drop]; rfl
                  have hown3 : 3 ≤ s.size - pos → ((s.extract pos (pos + 3)).toList == [239, 191, 189]) = own (s.data.toList.drop pos) := fun h3 => by
                    rw [Lib.toList_data, extract_list, own_take (by omega)]
                    rw [List.drop_take, Nat.add_sub_cancel_left]
                  rcases dec_rune _ (drop_ne hp) with ⟨hd, ho⟩ | ⟨hk2, hk1, hr, h65⟩
                  · rw [hd] at hnx
                    have hadd : pos + 1 ≤ s.size := by omega
                    have HYl2 := HYl.out
                    by_cases h3 : s.size - pos < 3
                    · have hd3 : decide ((s.size : Int) - (pos : Int) < 3) = true := decide_eq_true (by omega)
                      clear hown3 hdl hd ho
                      have own2 := own_moved hown HI.out (pos + 1)
                      have hit2 := Lib.iterAt_heap wr wi.heap.size s pos (pos + 1) HI.out
                      have HIT2 := Lib.hid hit2
                      have hbl4 : Below wi.heap.size wi (wr.iterAt wi.heap.size s (pos + 1)) := Lib.below_iterAt hbl3 (Nat.le_refl _) _ _
                      have HZ4 := Lib.hid hbl4.size
                      clear hit2
                      go_wp2_with (at_builtin; refine wp_append_ints rfl rfl wi.heap.size u15 _ Y rfl (own2.alloc _) _ 1 [(65533 : Int)] rfl (Src.one _ _ _ _) (by have := HYl.out; omega) (by have := HZ4.out; simp; omega) ?_; intro v5 w5 ho5 hg5 hat5)
                      have hput5 : Puts (wr.iterAt wi.heap.size s (pos + 1)) wi.heap.size u15 (Y ++ [(65533 : Int)]) w5 v5 := Puts.app ((Below.refl _ _).alloc (Nat.le_refl _) _) ho5 hg5 hat5
                      have hit5 := iter_kept own2 HIT2.out hput5
                      have hIP5 : Hid (w5.iterPos wi.heap.size = pos + 1) := Lib.hid (by simp [World.iterPos, hit5])
                      have HIT5 := Lib.hid hit5
                      clear hit5
                      go_roundw
                      case rel => exact ⟨pos + 1, Y ++ [(65533 : Int)], false, hadd, rfl, hput5.1, HIT5, hbl4.trans (hput5.below_ own2 HZ4.out), Lib.hid (by rw [List.length_append]; have := HYl.out; simp; omega), Lib.hid (fun h => by cases h)⟩
                      case measure => rw [hIP5.out, HIP.out]; omega
                    · have hd3 : decide ((s.size : Int) - (pos : Int) < 3) = false := decide_eq_false (by omega)
                      have ho3 := hown3 (by omega)
                      rw [ho] at ho3
                      clear hown3 hdl hd ho
                      have own2 := own_moved hown HI.out (pos + 1)
                      have hit2 := Lib.iterAt_heap wr wi.heap.size s pos (pos + 1) HI.out
                      have HIT2 := Lib.hid hit2
                      have hbl4 : Below wi.heap.size wi (wr.iterAt wi.heap.size s (pos + 1)) := Lib.below_iterAt hbl3 (Nat.le_refl _) _ _
                      have HZ4 := Lib.hid hbl4.size
                      clear hit2
                      go_wp2_with (at_builtin; refine wp_append_ints rfl rfl wi.heap.size u15 _ Y rfl (own2.alloc _) _ 1 [(65533 : Int)] rfl (Src.one _ _ _ _) (by have := HYl.out; omega) (by have := HZ4.out; simp; omega) ?_; intro v5 w5 ho5 hg5 hat5)
                      have hput5 : Puts (wr.iterAt wi.heap.size s (pos + 1)) wi.heap.size u15 (Y ++ [(65533 : Int)]) w5 v5 := Puts.app ((Below.refl _ _).alloc (Nat.le_refl _) _) ho5 hg5 hat5
                      have hit5 := iter_kept own2 HIT2.out hput5
                      have hIP5 : Hid (w5.iterPos wi.heap.size = pos + 1) := Lib.hid (by simp [World.iterPos, hit5])
                      have HIT5 := Lib.hid hit5
                      clear hit5
                      go_roundw
                      case rel => exact ⟨pos + 1, Y ++ [(65533 : Int)], false, hadd, rfl, hput5.1, HIT5, hbl4.trans (hput5.below_ own2 HZ4.out), Lib.hid (by rw [List.length_append]; have := HYl.out; simp; omega), Lib.hid (fun h => by cases h)⟩
                      case measure => rw [hIP5.out, HIP.out]; omega
                  · obtain ⟨d, hD⟩ : ∃ d, dec (s.data.toList.drop pos) = d := ⟨_, rfl⟩
                    rw [hD] at hnx hk2 hk1 hr h65
                    have hle := whole_le ((rune_iff _ _).1 hr)
                    have hadd : pos + d.2 ≤ s.size := by rw [hdl] at hk2; omega
                    have HXN : Hid (ok = true → all [] (s.data.toList.take (pos + d.2)) = (Y ++ [(d.1 : Int)], [])) := Lib.hid (fun h => by
                      rw [take_more, all_append, HOK.out h, hr.all_ rfl]; simp [brk])
                    by_cases he : d.1 = 65533
                    · have ho := h65 he
                      have h3 : 3 ≤ s.size - pos := by
                        have := own_len ho
                        rw [hdl] at this; exact this
                      have hd3 : decide ((s.size : Int) - (pos : Int) < 3) = false := decide_eq_false (by omega)
                      have ho3 := hown3 h3
                      rw [ho] at ho3
                      have hb65 : ((d.1 : Int) == 65533) = true := by rw [beq_iff_eq]; omega
                      clear hown3 hdl hD ho h65 hr hk2 he
                      have own2 := own_moved hown HI.out (pos + d.2)
                      have hit2 := Lib.iterAt_heap wr wi.heap.size s pos (pos + d.2) HI.out
                      have HIT2 := Lib.hid hit2
                      have hbl4 : Below wi.heap.size wi (wr.iterAt wi.heap.size s (pos + d.2)) := Lib.below_iterAt hbl3 (Nat.le_refl _) _ _
                      have HZ4 := Lib.hid hbl4.size
                      clear hit2
                      go_wp2_with (at_builtin; refine wp_append_ints rfl rfl wi.heap.size u15 _ Y rfl (own2.alloc _) _ 1 [(d.1 : Int)] rfl (Src.one _ _ _ _) (by have := HYl.out; omega) (by have := HZ4.out; simp; omega) ?_; intro v5 w5 ho5 hg5 hat5)
                      have hput5 : Puts (wr.iterAt wi.heap.size s (pos + d.2)) wi.heap.size u15 (Y ++ [(d.1 : Int)]) w5 v5 := Puts.app ((Below.refl _ _).alloc (Nat.le_refl _) _) ho5 hg5 hat5
                      have hit5 := iter_kept own2 HIT2.out hput5
                      have hIP5 : Hid (w5.iterPos wi.heap.size = pos + d.2) := Lib.hid (by simp [World.iterPos, hit5])
                      have HIT5 := Lib.hid hit5
                      clear hit5
                      go_roundw
                      case rel => exact ⟨pos + d.2, Y ++ [(d.1 : Int)], ok, hadd, rfl, hput5.1, HIT5, hbl4.trans (hput5.below_ own2 HZ4.out), Lib.hid (by rw [List.length_append]; have := HYl.out; simp; omega), HXN⟩
                      case measure => rw [hIP5.out, HIP.out]; omega
                    · have hb65 : ((d.1 : Int) == 65533) = false := by rw [beq_eq_false_iff_ne]; omega
                      clear hown3 hdl hD h65 hr hk2 he
                      have own2 := own_moved hown HI.out (pos + d.2)
                      have hit2 := Lib.iterAt_heap wr wi.heap.size s pos (pos + d.2) HI.out
                      have HIT2 := Lib.hid hit2
                      have hbl4 : Below wi.heap.size wi (wr.iterAt wi.heap.size s (pos + d.2)) := Lib.below_iterAt hbl3 (Nat.le_refl _) _ _
                      have HZ4 := Lib.hid hbl4.size
                      clear hit2
                      go_wp2_with (at_builtin; refine wp_append_ints rfl rfl wi.heap.size u15 _ Y rfl (own2.alloc _) _ 1 [(d.1 : Int)] rfl (Src.one _ _ _ _) (by have := HYl.out; omega) (by have := HZ4.out; simp; omega) ?_; intro v5 w5 ho5 hg5 hat5)
                      have hput5 : Puts (wr.iterAt wi.heap.size s (pos + d.2)) wi.heap.size u15 (Y ++ [(d.1 : Int)]) w5 v5 := Puts.app ((Below.refl _ _).alloc (Nat.le_refl _) _) ho5 hg5 hat5
                      have hit5 := iter_kept own2 HIT2.out hput5
                      have hIP5 : Hid (w5.iterPos wi.heap.size = pos + d.2) := Lib.hid (by simp [World.iterPos, hit5])
                      have HIT5 := Lib.hid hit5
                      clear hit5
                      go_roundw
                      case rel => exact ⟨pos + d.2, Y ++ [(d.1 : Int)], ok, hadd, rfl, hput5.1, HIT5, hbl4.trans (hput5.below_ own2 HZ4.out), Lib.hid (by rw [List.length_append]; have := HYl.out; simp; omega), HXN⟩
                      case measure => rw [hIP5.out, HIP.out]; omega
                · have hnx : ∀ ty, (Instr.next (.pointer (some ⟨wi.heap.size, 0, none⟩)) true ty).run Tryd.prog wr = _ := fun ty => Lib.run_next_end_at wr wi.heap.size s pos ty HI.out hp
                  have zi := hbl2.size
                  have hbE : Below w1.heap.size w1 wr := hbl.trans ((hbA.trans ((hbl2.trans (hbl3.mono hbl2.size)).mono zA)).mono hbl.size)
                  have HOX : Hid (wr.ownsRow wo.heap.size 3 1 v X.1.length (ints X.1)) := Lib.hid (own_kept (own_kept HO.out hbl2) hbl3)
                  cases ok
                  · go_wp2_with fail
                    go_roundw
                    case rel => exact ⟨k + 1, by omega, by go_num, hbE⟩
                    case measure => simp [intOf]; omega
                  · have hXY : X = (Y, []) := by
                      rw [← HX.out, ← HOK.out rfl, List.take_of_length_le (show s.size ≤ pos by omega)]
                    have hx2 : X.2 = [] := by rw [hXY]
                    have HXY : Hid (X.1 = Y) := Lib.hid (by rw [hXY])
                    clear hXY
                    go_wp2_with fail
                    refine (eqNumbers_same _ _ X.1 Y _ (Src.own HOX.out) (Src.own hown) HXY.out (by omega)).mono ?_
                    rintro e wZ ⟨rfl, q, rfl⟩
                    go_wp2_with fail
                    go_roundw
                    case rel => exact ⟨k + 1, by omega, by go_num, below_drewN hbE q⟩
                    case measure => simp [intOf]; omega
      · by_cases hkn : k < ss.length
        · have hk6 : decide ((k : Int) < 6) = false := decide_eq_false (by omega)
          clear hlt
          go_wp2_with fail
          refine (wakes_any _ (HH.out.kept hbl).2.2).mono ?_
          rintro e w2 ⟨rfl, hb2⟩
          go_wp2_with fail
          go_ret
          exact ⟨rfl, hb1.trans ((hbl.trans (hb2.mono hbl.size)).mono hb1.size)⟩
        · have hk6 : decide (k < ss.length) = false := decide_eq_false hkn
          clear hlt
          go_wp2_with fail
          refine (wakes_any _ (HH.out.kept hbl).2.2).mono ?_
          rintro e w2 ⟨rfl, hb2⟩
          go_wp2_with fail
          go_ret
          exact ⟨rfl, hb1.trans ((hbl.trans (hb2.mono hbl.size)).mono hb1.size)⟩
  · go_wp2_with fail
    go_ret
    exact ⟨rfl, hb1⟩
end Utf
end Go.Proofs.YthoakfnilacmnaaDoor
