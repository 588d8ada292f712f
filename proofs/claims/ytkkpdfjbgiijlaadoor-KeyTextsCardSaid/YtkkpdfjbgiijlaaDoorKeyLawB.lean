/- The law on the bytes of keys, by what the program's Bytes is asked to do (DevBytes). -/
import Derived.Test.YtkkpdfjbgiijlaaDoorKeyBytes
import Derived.Test.YtkkpdfjbgiijlaaDoorKeyHeavy
import Derived.Test.YtkkpdfjbgiijlaaDoorBlk
import Derived.Deep.RegionLaw
namespace Go.Proofs.YtkkpdfjbgiijlaaDoor
set_option maxRecDepth 100000
open Go.RowKit Tri KeyM
namespace Key

def I64 (n : Int) : Prop := -9223372036854775808 ≤ n ∧ n ≤ 9223372036854775807
/-- What Bytes tells. -/
def ansK (k : T3) (m : Int) : ByteArray := if (keyB k && rng m 0 1023) = true then bytesK k m else ⟨#[]⟩
def codeK (k : T3) (m : Int) : Int := if (keyB k && rng m 0 1023) = true then 0 else 1
def DevBytes : Prop := ∀ (k : T3) (m : Int) (W : World), k.Small → I64 m → Calls Tryd.prog 7 #[tagg k, .int .i64 m] W fun e w' => e = .returned (.tuple #[.string (ansK k m), .int .i64 (codeK k m)]) ∧ Below W.heap.size W w'
theorem up_small : (⟨2, 0, 0⟩ : T3).Small := ⟨⟨by decide, by decide⟩, ⟨by decide, by decide⟩, ⟨by decide, by decide⟩⟩
theorem wakes_key (hD : DevBytes) (w : World) : Calls Tryd.prog 12 #[] w fun e w' => e = .returned (.bool true) ∧ Below w.heap.size w w' := by
  have HD : Hid (∀ W, Calls Tryd.prog 7 #[.agg #[.int .i64 2, .int .i64 0, .int .i64 0], .int .i64 16] W fun e w' => e = .returned (.tuple #[.string ⟨#[27, 79, 65]⟩, .int .i64 0]) ∧ Below W.heap.size W w') := Lib.hid fun W => by
    have h := hD ⟨2, 0, 0⟩ 16 W up_small ⟨by decide, by decide⟩
    have e1 : ansK ⟨2, 0, 0⟩ 16 = ⟨#[27, 79, 65]⟩ := by kernel_rfl
    have e2 : codeK ⟨2, 0, 0⟩ 16 = 0 := by kernel_rfl
    rw [e1, e2] at h
    exact h
  have HN := Lib.hid (fun W => num_key 0 W)
  go_enter Tryd.func12, Tryd.ntmps12
  go_wp2_with fail
  refine (HD.out _).mono ?_; rintro e w1 ⟨rfl, hb⟩
  have HB := Lib.hid hb
  clear hb
  go_wp2_with fail
  refine (HN.out _).mono ?_; rintro e w2 ⟨rfl, rfl⟩
  go_wp2_with fail
  go_ret
  exact ⟨rfl, HB.out⟩
/-- The modes that are tried. -/
def modesL (m : Int) : List Int := [m, 0, 16, 4, 128, 1023, 1024]
theorem modes_small {m : Int} (h : I64 m) : ∀ j, j < 7 → I64 ((modesL m).getD j 0) := by
  intro j hj
  have : j = 0 ∨ j = 1 ∨ j = 2 ∨ j = 3 ∨ j = 4 ∨ j = 5 ∨ j = 6 := by omega
  rcases this with rfl | rfl | rfl | rfl | rfl | rfl | rfl
  · exact h
  all_goals exact ⟨by simp [modesL], by simp [modesL]⟩
set_option maxHeartbeats 6400000 in
theorem law_bytes (hD : DevBytes) (x y : Value) (m : Int) (K : List T3) (S : List ByteArray) (w : World) (hx : Ts w x K) (hK : ∀ i, i < K.length → (g K i).Small) (hmI : I64 m) (hy : Strs w y S) (hn : K.length ≤ 140737488355328) (hm : S.length ≤ 140737488355328) (hs : ∀ k, k < S.length → (S.getD k ByteArray.empty).size ≤ 140737488355328) :
    Calls Tryd.prog 3 #[.agg #[x, .int .i64 m, y]] w fun e w' => e = .returned (.bool true) ∧ Below w.heap.size w w' := by
  have HWK := Lib.hid (wakes_key hD)
  have HDD : Hid (∀ k n W, k.Small → I64 n → Calls Tryd.prog 7 #[tagg k, .int .i64 n] W fun e w' => e = .returned (.tuple #[.string (ansK k n), .int .i64 (codeK k n)]) ∧ Below W.heap.size W w') := Lib.hid hD
  obtain ⟨A, c, rfl, _⟩ := hx.form
  obtain ⟨A', c', rfl, _⟩ := hy.at_
  have HB0 : Hid (Below w.heap.size w (w.alloc (abx (.slice A K.length c) m (.slice A' S.length c')))) := Lib.hid ((Below.refl _ _).alloc (Nat.le_refl _) _)
  have HP0 : Hid ((w.alloc (abx (.slice A K.length c) m (.slice A' S.length c'))).heap[w.heap.size]? = some (abx (.slice A K.length c) m (.slice A' S.length c'))) := Lib.hid (heap_alloc_new _ _)
  have HH := Lib.hid (heavy_key A c m _ K S _ (Src.kept hy HB0.out) hn hm hs)
  have HX := Lib.hid (hx.kept HB0.out)
  have HKS := Lib.hid hK
  have HMS := Lib.hid (modes_small hmI)
  have HN := Lib.hid hn
  have HNM := Lib.hid (fun n W => num_key n W)
  clear hx hy hK hmI hn hm hs hD
  go_enter Tryd.func3, Tryd.ntmps3
  go_wp2_with fail
  change Calls _ _ _ (w.alloc (abx (.slice A K.length c) m (.slice A' S.length c'))) _
  refine HH.out.mono ?_; rintro e w1 ⟨b, rfl, hb, hbl⟩
  have HX1 := Lib.hid (HX.out.kept hbl)
  have HP1 := Lib.hid (Blk.kept HP0.out hbl)
  have HB1 : Hid (Below w.heap.size w w1) := Lib.hid (HB0.out.trans (hbl.mono HB0.out.size))
  clear hbl HH HX HP0 HB0
  cases b with
  | true =>
    go_wp2_with fail
    go_ret
    exact ⟨rfl, HB1.out⟩
  | false =>
    have HF := Lib.hid (hb rfl)
    clear hb
    have c1 : w1.cell? ⟨w.heap.size, 1, none⟩ = some (.int .i64 m) := Blk.cell HP1.out 1
    go_upto_region 4 with (fail)
    have HBB : Hid (Below w.heap.size w (w1.alloc (.cells #[.int .i64 m, .int .i64 0, .int .i64 16, .int .i64 4, .int .i64 128, .int .i64 1023, .int .i64 1024] 3))) := Lib.hid (HB1.out.alloc HB1.out.size _)
    have HPB : Hid ((w1.alloc (.cells #[.int .i64 m, .int .i64 0, .int .i64 16, .int .i64 4, .int .i64 128, .int .i64 1023, .int .i64 1024] 3)).heap[w1.heap.size]? = some (.cells (ints (modesL m)).toArray 3 (0, 0))) := Lib.hid (heap_alloc_new _ _)
    have HPA : Hid ((w1.alloc (.cells #[.int .i64 m, .int .i64 0, .int .i64 16, .int .i64 4, .int .i64 128, .int .i64 1023, .int .i64 1024] 3)).heap[w.heap.size]? = some (abx (.slice A K.length c) m (.slice A' S.length c'))) := Lib.hid (Blk.kept HP1.out ((Below.refl _ _).alloc (Nat.le_refl _) _))
    have HXB := Lib.hid (HX1.out.kept ((Below.refl w1.heap.size w1).alloc (Nat.le_refl _) (.cells #[.int .i64 m, .int .i64 0, .int .i64 16, .int .i64 4, .int .i64 128, .int .i64 1023, .int .i64 1024] 3)))
    change Code.wp _ _ _ _ (w1.alloc (.cells #[.int .i64 m, .int .i64 0, .int .i64 16, .int .i64 4, .int .i64 128, .int .i64 1023, .int .i64 1024] 3))
    clear c1 HB1 HP1 HX1
    generalize w1.alloc (.cells #[.int .i64 m, .int .i64 0, .int .i64 16, .int .i64 4, .int .i64 128, .int .i64 1023, .int .i64 1024] 3) = wb at HBB HPB HPA HXB ⊢
    generalize w1.heap.size = bm at HPB ⊢
    -- what is read, wherever only new blocks came
    have HC : Hid (∀ W, Below wb.heap.size wb W → W.cell? ⟨w.heap.size, 0, none⟩ = some (.slice A K.length c)) := Lib.hid fun W hW => Blk.cell (Blk.kept HPA.out hW) 0
    have HM : Hid (∀ j, j < 7 → ∀ W, Below wb.heap.size wb W → W.cell? ⟨bm, j, none⟩ = some (.int .i64 ((modesL m).getD j 0))) := Lib.hid fun j hj W hW => by
      rw [Blk.cell (Blk.kept HPB.out hW) j]
      have e : (ints (modesL m))[j]? = some (.int .i64 ((modesL m).getD j 0)) := ints_get hj
      simpa using e
    have HKC : Hid (∀ i, i < K.length → ∃ ad, A = some ad ∧ ∀ W, Below wb.heap.size wb W → W.cell? (ad.add (i * 3)) = some (.int .i64 (g K i).a) ∧ W.cell? { block := (ad.add (i * 3)).block, off := (ad.add (i * 3)).off + (0 + 1) } = some (.int .i64 (g K i).b) ∧ W.cell? { block := (ad.add (i * 3)).block, off := (ad.add (i * 3)).off + (1 + 1) } = some (.int .i64 (g K i).c)) := Lib.hid fun i hi => by
      obtain ⟨A2, c2, e2, hf⟩ := HXB.out.form
      injection e2 with e2
      obtain ⟨ad, e3, K1⟩ := hf i hi
      refine ⟨ad, by rw [e2]; exact e3, fun W hW => ?_⟩
      have K2 := K1.kept hW
      exact ⟨K2.head, K2.next 0 rfl, K2.next 1 rfl⟩
    clear HPB HPA HXB
    go_wp2_with fail
    go_loopw [4] (fun i wr => ∃ k : Nat, k ≤ K.length ∧ i = .int .i64 k ∧ Hid (Below wb.heap.size wb wr)) (fun i _ => K.length - (intOf i).toNat)
    case atStart => exact ⟨0, by omega, rfl, Lib.hid (Below.refl _ _)⟩
    case round =>
      obtain ⟨k, hk, rfl, HBR⟩ := hrel
      have r0 := HC.out wr HBR.out
      by_cases hlt : k < K.length
      · by_cases h12 : k < 12
        · obtain ⟨ad, rfl, HAD⟩ := HKC.out k hlt
          have HAD := Lib.hid HAD
          have HSM := Lib.hid (HKS.out k hlt)
          have hwk : IntKind.i64.wrap ((k : Int) + 1) = ((k + 1 : Nat) : Int) := by rw [IntKind.wrap_i64]; have := HN.out; omega
          have hk12 : (k : Int) < 12 := by omega
          have hd12 : decide ((k : Int) < 12) = true := decide_eq_true hk12
          have hkl : (k : Int) < (K.length : Int) := by omega
          have hdl : decide ((k : Int) < (K.length : Int)) = true := decide_eq_true hkl
          generalize g K k = t at HAD HSM
          obtain ⟨p, q, r⟩ := t
          simp only at HAD
          go_wp2_with fail
          go_loopw [5] (fun i wv => ∃ j : Nat, j ≤ 7 ∧ i = .int .i64 j ∧ Hid (Below wb.heap.size wb wv)) (fun i _ => 7 - (intOf i).toNat)
          case atStart => exact ⟨0, by omega, rfl, HBR⟩
          case round =>
            obtain ⟨j, hj, rfl, HBV⟩ := hrel
            by_cases hj7 : j < 7
            · have HMJ := Lib.hid (HM.out j hj7)
              have HI := Lib.hid (HMS.out j hj7)
              generalize (modesL m).getD j 0 = mv at HMJ HI
              have HDQ : Hid (∀ W, Calls Tryd.prog 7 #[.agg #[.int .i64 p, .int .i64 q, .int .i64 r], .int .i64 mv] W fun e w' => e = .returned (.tuple #[.string (ansK ⟨p, q, r⟩ mv), .int .i64 (codeK ⟨p, q, r⟩ mv)]) ∧ Below W.heap.size W w') := Lib.hid fun W => HDD.out ⟨p, q, r⟩ mv W HSM.out HI.out
              have HRK : Hid (∀ W, Calls Tryd.prog 8 #[.agg #[.int .i64 p, .int .i64 q, .int .i64 r]] W fun e w' => e = .returned (.bool (keyB ⟨p, q, r⟩)) ∧ Below W.heap.size W w') := Lib.hid fun W => refKey_any ⟨p, q, r⟩ W
              have HRN : Hid (Tells 9 #[.int .i64 mv, .int .i64 1023] (rng mv 0 1023)) := Lib.hid (num_any _ _)
              have HRB : Hid (keyB ⟨p, q, r⟩ = true → ∀ W, Calls Tryd.prog 10 #[.agg #[.int .i64 p, .int .i64 q, .int .i64 r], .int .i64 mv] W fun e w' => e = .returned (.string (bytesK ⟨p, q, r⟩ mv)) ∧ Below W.heap.size W w') := Lib.hid fun h W => refBytes_any ⟨p, q, r⟩ mv W h
              unfold ansK codeK at HDQ
              obtain ⟨kb, hkb⟩ : ∃ b, keyB ⟨p, q, r⟩ = b := ⟨_, rfl⟩
              obtain ⟨mb, hmb⟩ : ∃ b, rng mv 0 1023 = b := ⟨_, rfl⟩
              rw [hkb, hmb] at HDQ
              rw [hkb] at HRK HRB
              rw [hmb] at HRN
              clear hkb hmb HSM HI HMS HKS HF HN
              generalize bytesK ⟨p, q, r⟩ mv = u at HDQ HRB
              have v0 := HC.out wr HBV.out
              obtain ⟨q0, q1, q2⟩ := HAD.out wr HBV.out
              have m0 := HMJ.out wr HBV.out
              cases kb with
              | false =>
                have HDQ : Hid (∀ W, Calls Tryd.prog 7 #[.agg #[.int .i64 p, .int .i64 q, .int .i64 r], .int .i64 mv] W fun e w' => e = .returned (.tuple #[.string ⟨#[]⟩, .int .i64 1]) ∧ Below W.heap.size W w') := HDQ
                go_upto_region 10 with (fail)
                go_region_law ((go_simp; go_at_call 7; refine (HDQ.out _).mono ?_; rintro e w2 ⟨rfl, hb2⟩; have HB2 : Hid (Below wb.heap.size wb w2) := Lib.hid (HBV.out.drew.trans (hb2.mono HBV.out.size)); clear hb2))
                all_goals
                  clear v0 q0 q1 q2 m0 HBV
                  have v0 := HC.out w2 HB2.out
                  obtain ⟨q0, q1, q2⟩ := HAD.out w2 HB2.out
                  go_wp2_with fail
                  refine (HRK.out _).mono ?_; rintro e w3 ⟨rfl, hb3⟩
                  have HB3 : Hid (Below wb.heap.size wb w3) := Lib.hid (HB2.out.trans (hb3.mono HB2.out.size))
                  clear hb3 v0 q0 q1 q2 HB2
                  go_wp2_with fail
                  refine (HNM.out _ _).mono ?_; rintro e w9 ⟨rfl, hw9⟩
                  rw [← hw9]; clear hw9 w9
                  go_wp2_with fail
                  go_roundw
                  case rel => exact ⟨j + 1, by omega, by go_num, HB3⟩
                  case measure => simp [intOf]; omega
              | true =>
                have HRX := Lib.hid (HRB.out rfl)
                clear HRB
                cases mb with
                | false =>
                  have HDQ : Hid (∀ W, Calls Tryd.prog 7 #[.agg #[.int .i64 p, .int .i64 q, .int .i64 r], .int .i64 mv] W fun e w' => e = .returned (.tuple #[.string ⟨#[]⟩, .int .i64 1]) ∧ Below W.heap.size W w') := HDQ
                  go_upto_region 10 with (fail)
                  go_region_law ((go_simp; go_at_call 7; refine (HDQ.out _).mono ?_; rintro e w2 ⟨rfl, hb2⟩; have HB2 : Hid (Below wb.heap.size wb w2) := Lib.hid (HBV.out.drew.trans (hb2.mono HBV.out.size)); clear hb2))
                  all_goals
                    clear v0 q0 q1 q2 m0 HBV
                    have v0 := HC.out w2 HB2.out
                    obtain ⟨q0, q1, q2⟩ := HAD.out w2 HB2.out
                    go_wp2_with fail
                    refine (HRK.out _).mono ?_; rintro e w3 ⟨rfl, hb3⟩
                    have HB3 : Hid (Below wb.heap.size wb w3) := Lib.hid (HB2.out.trans (hb3.mono HB2.out.size))
                    clear hb3 v0 q0 q1 q2 HB2
                    have m0 := HMJ.out w3 HB3.out
                    go_wp2_with fail
                    refine (HRN.out _).mono ?_; rintro e w8 ⟨rfl, hw8⟩
                    rw [← hw8]; clear hw8 w8
                    go_wp2_with fail
                    refine (HNM.out _ _).mono ?_; rintro e w9 ⟨rfl, hw9⟩
                    rw [← hw9]; clear hw9 w9
                    go_wp2_with fail
                    go_roundw
                    case rel => exact ⟨j + 1, by omega, by go_num, HB3⟩
                    case measure => simp [intOf]; omega
                | true =>
                  have HDQ : Hid (∀ W, Calls Tryd.prog 7 #[.agg #[.int .i64 p, .int .i64 q, .int .i64 r], .int .i64 mv] W fun e w' => e = .returned (.tuple #[.string u, .int .i64 0]) ∧ Below W.heap.size W w') := HDQ
                  go_upto_region 10 with (fail)
                  go_region_law ((go_simp; go_at_call 7; refine (HDQ.out _).mono ?_; rintro e w2 ⟨rfl, hb2⟩; have HB2 : Hid (Below wb.heap.size wb w2) := Lib.hid (HBV.out.drew.trans (hb2.mono HBV.out.size)); clear hb2))
                  all_goals
                    clear v0 q0 q1 q2 m0 HBV
                    have v0 := HC.out w2 HB2.out
                    obtain ⟨q0, q1, q2⟩ := HAD.out w2 HB2.out
                    go_wp2_with fail
                    refine (HRK.out _).mono ?_; rintro e w3 ⟨rfl, hb3⟩
                    have HB3 : Hid (Below wb.heap.size wb w3) := Lib.hid (HB2.out.trans (hb3.mono HB2.out.size))
                    clear hb3 v0 q0 q1 q2 HB2
                    have m0 := HMJ.out w3 HB3.out
                    go_wp2_with fail
                    refine (HRN.out _).mono ?_; rintro e w8 ⟨rfl, hw8⟩
                    rw [← hw8]; clear hw8 w8
                    have v0 := HC.out w3 HB3.out
                    obtain ⟨q0, q1, q2⟩ := HAD.out w3 HB3.out
                    go_upto_region 13 with (fail)
                    go_region_law ((go_simp; go_at_call 10; refine (HRX.out _).mono ?_; rintro e w4 ⟨rfl, hb4⟩; have HB4 : Hid (Below wb.heap.size wb w4) := Lib.hid (HB3.out.drew.trans (hb4.mono HB3.out.size)); clear hb4))
                    all_goals
                      clear v0 q0 q1 q2 m0 HB3
                      go_wp2_with fail
                      refine (HNM.out _ _).mono ?_; rintro e w9 ⟨rfl, hw9⟩
                      rw [← hw9]; clear hw9 w9
                      go_wp2_with fail
                      go_roundw
                      case rel => exact ⟨j + 1, by omega, by go_num, HB4⟩
                      case measure => simp [intOf]; omega
            · obtain rfl : j = 7 := by omega
              go_wp2_with fail
              go_roundw
              case rel => exact ⟨k + 1, by omega, by go_num, HBV⟩
              case measure => simp [intOf]; omega
        · have hd : decide ((k : Int) < 12) = false := decide_eq_false (by omega)
          go_wp2_with fail
          refine (HWK.out _).mono ?_; rintro e w2 ⟨rfl, hb2⟩
          have HE := Lib.hid (HBB.out.trans ((HBR.out.mono HBB.out.size).trans (hb2.mono (Nat.le_trans HBB.out.size HBR.out.size))))
          clear hb2
          go_wp2_with fail
          go_ret
          exact ⟨rfl, HE.out⟩
      · have hd : decide ((k : Int) < (K.length : Int)) = false := decide_eq_false (by omega)
        go_wp2_with fail
        refine (HWK.out _).mono ?_; rintro e w2 ⟨rfl, hb2⟩
        have HE := Lib.hid (HBB.out.trans ((HBR.out.mono HBB.out.size).trans (hb2.mono (Nat.le_trans HBB.out.size HBR.out.size))))
        clear hb2
        go_wp2_with fail
        go_ret
        exact ⟨rfl, HE.out⟩
end Key
end Go.Proofs.YtkkpdfjbgiijlaaDoor
