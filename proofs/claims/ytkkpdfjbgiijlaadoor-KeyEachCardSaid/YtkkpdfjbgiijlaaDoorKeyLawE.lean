/- The law on each key, by what the program's Bytes is asked to do. -/
import Derived.Test.YtkkpdfjbgiijlaaDoorKeyLawB
namespace Go.Proofs.YtkkpdfjbgiijlaaDoor
set_option maxRecDepth 100000
open Go.RowKit Tri KeyM
namespace Key

def runesL : List Int := [0, 1, 2, 97, 122, 65, 64, 95, 91, 49, 32, 127, 233, 55296]
abbrev runesO : Obj := .cells #[.int .i64 0, .int .i64 1, .int .i64 2, .int .i64 97, .int .i64 122, .int .i64 65, .int .i64 64, .int .i64 95, .int .i64 91, .int .i64 49, .int .i64 32, .int .i64 127, .int .i64 233, .int .i64 55296] 3 (0, 0)
theorem runes_small : ∀ j, j < 14 → 0 ≤ runesL.getD j 0 ∧ runesL.getD j 0 ≤ 55296 := by decide
theorem small_of {a b c : Int} (ha : -1 ≤ a ∧ a ≤ 14) (hb : 0 ≤ b ∧ b ≤ 55296) (hc : -1 ≤ c ∧ c ≤ 9) : (⟨a, b, c⟩ : T3).Small := by
  refine ⟨?_, ?_, ?_⟩ <;> constructor <;> simp only <;> omega
theorem and1 (x : Int) (h₀ : 0 ≤ x) (h₁ : x < 8) : bits .and .i64 x 1 = x % 2 := bits_mask .i64 62 (by decide) wraps_i64 1 (by decide) x h₀ (by omega)
set_option maxHeartbeats 12800000 in
theorem law_each (hD : DevBytes) (A : Option Addr) (n0 c : Nat) (m : Int) (y : Value) (w : World) :
    Calls Tryd.prog 4 #[.agg #[.slice A n0 c, .int .i64 m, y]] w fun e w' => e = .returned (.bool true) ∧ Below w.heap.size w w' := by
  have HWK := Lib.hid (wakes_key hD)
  have HDD : Hid (∀ k n W, k.Small → I64 n → Calls Tryd.prog 7 #[tagg k, .int .i64 n] W fun e w' => e = .returned (.tuple #[.string (ansK k n), .int .i64 (codeK k n)]) ∧ Below W.heap.size W w') := Lib.hid hD
  have HB0 : Hid (Below w.heap.size w (w.alloc (abx (.slice A n0 c) m y))) := Lib.hid ((Below.refl _ _).alloc (Nat.le_refl _) _)
  have HP0 : Hid ((w.alloc (abx (.slice A n0 c) m y)).heap[w.heap.size]? = some (abx (.slice A n0 c) m y)) := Lib.hid (heap_alloc_new _ _)
  have HNM := Lib.hid (fun n W => num_key n W)
  clear hD
  go_enter Tryd.func4, Tryd.ntmps4
  go_upto_region 1 with (fail)
  change Code.wp _ _ _ _ (w.alloc (abx (.slice A n0 c) m y))
  generalize w.alloc (abx (.slice A n0 c) m y) = wa at HB0 HP0 ⊢
  go_wp2_with fail
  go_loopw [3] (fun i wr => ∃ n : Int, (-1 ≤ n ∧ n ≤ 14) ∧ i = .int .i64 n ∧ Hid (Below wa.heap.size wa wr)) (fun i _ => (15 - intOf i).toNat)
  case atStart => exact ⟨-1, by omega, rfl, Lib.hid (Below.refl _ _)⟩
  case round =>
    obtain ⟨n, hn, rfl, HB1⟩ := hrel
    by_cases hn13 : n ≤ 13
    · have hdn : decide (n ≤ 13) = true := decide_eq_true hn13
      have hwn : IntKind.i64.wrap (n + 1) = n + 1 := by rw [IntKind.wrap_i64]; omega
      go_wp2_with fail
      go_loopw [4] (fun i wr => ∃ l : Int, (-1 ≤ l ∧ l ≤ 9) ∧ i = .int .i64 l ∧ Hid (Below wa.heap.size wa wr)) (fun i _ => (10 - intOf i).toNat)
      case atStart => exact ⟨-1, by omega, rfl, HB1⟩
      case round =>
        clear HB1
        obtain ⟨l, hl, rfl, HB2⟩ := hrel
        by_cases hl8 : l ≤ 8
        · have hdl : decide (l ≤ 8) = true := decide_eq_true hl8
          have hwl : IntKind.i64.wrap (l + 1) = l + 1 := by rw [IntKind.wrap_i64]; omega
          go_upto_region 8 with (fail)
          change Code.wp _ _ _ _ (wr.alloc runesO)
          have HPR : Hid ((wr.alloc runesO).heap[wr.heap.size]? = some runesO) := Lib.hid (heap_alloc_new _ _)
          have HB3 : Hid (Below wa.heap.size wa (wr.alloc runesO)) := Lib.hid (HB2.out.alloc HB2.out.size _)
          generalize wr.alloc runesO = wq at HPR HB3 ⊢
          generalize wr.heap.size = br at HPR ⊢
          have HRN : Hid (∀ j, j < 14 → ∀ W, Below wq.heap.size wq W → W.cell? ⟨br, j, none⟩ = some (.int .i64 (runesL.getD j 0))) := Lib.hid fun j hj W hW => by
            rw [Blk.cell (Blk.kept HPR.out hW) j]
            have e : (ints runesL).toArray[j]? = some (.int .i64 (runesL.getD j 0)) := by rw [List.getElem?_toArray]; exact ints_get hj
            exact e
          clear HPR HB2
          go_wp2_with fail
          go_loopw [6] (fun i wv => ∃ j : Nat, j ≤ 14 ∧ i = .int .i64 j ∧ Hid (Below wq.heap.size wq wv)) (fun i _ => 14 - (intOf i).toNat)
          case atStart => exact ⟨0, by omega, rfl, Lib.hid (Below.refl _ _)⟩
          case round =>
            obtain ⟨j, hj, rfl, HB4⟩ := hrel
            by_cases hj14 : j < 14
            · have r0 := HRN.out j hj14 wr HB4.out
              have hrv := runes_small j hj14
              have HSM := Lib.hid (small_of hn hrv hl)
              have hji : (j : Int) < 14 := by omega
              have hdj : decide ((j : Int) < 14) = true := decide_eq_true hji
              clear hrv
              generalize runesL.getD j 0 = rv at r0 HSM
              go_upto_region 12 with (fail)
              change Code.wp _ _ _ _ (wr.alloc (kbx ⟨n, rv, l⟩))
              have HPK : Hid ((wr.alloc (kbx ⟨n, rv, l⟩)).heap[wr.heap.size]? = some (kbx ⟨n, rv, l⟩)) := Lib.hid (heap_alloc_new _ _)
              have HB5 : Hid (Below wq.heap.size wq (wr.alloc (kbx ⟨n, rv, l⟩))) := Lib.hid (HB4.out.alloc HB4.out.size _)
              clear r0 HB4
              generalize wr.alloc (kbx ⟨n, rv, l⟩) = wk at HPK HB5 ⊢
              generalize wr.heap.size = bk at HPK ⊢
              have HKC : Hid (∀ W, Below wk.heap.size wk W → W.cell? ⟨bk, 0, none⟩ = some (.int .i64 n) ∧ W.cell? ⟨bk, 1, none⟩ = some (.int .i64 rv) ∧ W.cell? ⟨bk, 2, none⟩ = some (.int .i64 l)) := Lib.hid fun W hW => ⟨Blk.cell (Blk.kept HPK.out hW) 0, Blk.cell (Blk.kept HPK.out hW) 1, Blk.cell (Blk.kept HPK.out hW) 2⟩
              clear HPK
              go_wp2_with fail
              go_loopw [8] (fun i wv => ∃ q : Nat, q ≤ 8 ∧ i = .int .i64 q ∧ Hid (Below wk.heap.size wk wv)) (fun i _ => 8 - (intOf i).toNat)
              case atStart => exact ⟨0, by omega, rfl, Lib.hid (Below.refl _ _)⟩
              case round =>
                obtain ⟨q, hq, rfl, HBV⟩ := hrel
                by_cases hq8 : q < 8
                · have hdq : decide ((q : Int) < 8) = true := decide_eq_true (by omega)
                  obtain ⟨x1, hx1⟩ : ∃ x, bits .and .i64 (q : Int) 1 = x := ⟨_, rfl⟩
                  obtain ⟨x2, hx2⟩ : ∃ x, bits .and .i64 ((q : Int) / 2) 1 = x := ⟨_, rfl⟩
                  obtain ⟨x3, hx3⟩ : ∃ x, (q : Int) / 4 = x := ⟨_, rfl⟩
                  have e1 : x1 = (q : Int) % 2 := by rw [← hx1]; exact and1 _ (by omega) (by omega)
                  have e2 : x2 = (q : Int) / 2 % 2 := by rw [← hx2]; exact and1 _ (by omega) (by omega)
                  obtain ⟨s1, hs1⟩ : ∃ x, x1 * 16 + x2 * 4 = x := ⟨_, rfl⟩
                  obtain ⟨mv, hmv⟩ : ∃ x, s1 + x3 * 128 = x := ⟨_, rfl⟩
                  have hm0 : 0 ≤ mv ∧ mv ≤ 148 := by omega
                  have y1 : IntKind.i64.wrap (x1 * 16) = x1 * 16 := by rw [IntKind.wrap_i64]; omega
                  have y2 : IntKind.i64.wrap (x2 * 4) = x2 * 4 := by rw [IntKind.wrap_i64]; omega
                  have y3 : IntKind.i64.wrap (x3 * 128) = x3 * 128 := by rw [IntKind.wrap_i64]; omega
                  have y4 : IntKind.i64.wrap (x1 * 16 + x2 * 4) = s1 := by rw [IntKind.wrap_i64]; omega
                  have y5 : IntKind.i64.wrap (s1 + x3 * 128) = mv := by rw [IntKind.wrap_i64]; omega
                  have HDQ : Hid (∀ W, Calls Tryd.prog 7 #[.agg #[.int .i64 n, .int .i64 rv, .int .i64 l], .int .i64 mv] W fun e w' => e = .returned (.tuple #[.string (ansK ⟨n, rv, l⟩ mv), .int .i64 (codeK ⟨n, rv, l⟩ mv)]) ∧ Below W.heap.size W w') := Lib.hid fun W => HDD.out ⟨n, rv, l⟩ mv W HSM.out ⟨by omega, by omega⟩
                  have HRK : Hid (∀ W, Calls Tryd.prog 8 #[.agg #[.int .i64 n, .int .i64 rv, .int .i64 l]] W fun e w' => e = .returned (.bool (keyB ⟨n, rv, l⟩)) ∧ Below W.heap.size W w') := Lib.hid fun W => refKey_any ⟨n, rv, l⟩ W
                  have HRB : Hid (keyB ⟨n, rv, l⟩ = true → ∀ W, Calls Tryd.prog 10 #[.agg #[.int .i64 n, .int .i64 rv, .int .i64 l], .int .i64 mv] W fun e w' => e = .returned (.string (bytesK ⟨n, rv, l⟩ mv)) ∧ Below W.heap.size W w') := Lib.hid fun h W => refBytes_any ⟨n, rv, l⟩ mv W h
                  have hmb : rng mv 0 1023 = true := rng_yes.2 (by omega)
                  unfold ansK codeK at HDQ
                  obtain ⟨kb, hkb⟩ : ∃ b, keyB ⟨n, rv, l⟩ = b := ⟨_, rfl⟩
                  rw [hkb, hmb, Bool.and_true] at HDQ
                  rw [hkb] at HRK HRB
                  clear hkb hmb hm0 hs1 hmv e1 e2
                  generalize bytesK ⟨n, rv, l⟩ mv = u at HDQ HRB
                  obtain ⟨q0, q1, q2⟩ := HKC.out wr HBV.out
                  cases kb with
                  | false =>
                    have HDX : Hid (∀ W, Calls Tryd.prog 7 #[.agg #[.int .i64 n, .int .i64 rv, .int .i64 l], .int .i64 mv] W fun e w' => e = .returned (.tuple #[.string ⟨#[]⟩, .int .i64 1]) ∧ Below W.heap.size W w') := HDQ
                    clear HDQ HRB
                    go_wp2_with fail
                    refine (HDX.out _).mono ?_; rintro e w2 ⟨rfl, hb2⟩
                    have HC2 : Hid (Below wk.heap.size wk w2) := Lib.hid (HBV.out.trans (hb2.mono HBV.out.size))
                    clear hb2 q0 q1 q2 HBV
                    obtain ⟨q0, q1, q2⟩ := HKC.out w2 HC2.out
                    go_wp2_with fail
                    refine (HRK.out _).mono ?_; rintro e w3 ⟨rfl, hb3⟩
                    have HC3 : Hid (Below wk.heap.size wk w3) := Lib.hid (HC2.out.trans (hb3.mono HC2.out.size))
                    clear hb3 q0 q1 q2 HC2
                    go_wp2_with fail
                    refine (HNM.out _ _).mono ?_; rintro e w9 ⟨rfl, hw9⟩
                    rw [← hw9]; clear hw9 w9
                    go_wp2_with fail
                    go_roundw
                    case rel => exact ⟨q + 1, by omega, by go_num, HC3⟩
                    case measure => simp [intOf]; omega
                  | true =>
                    have HDX : Hid (∀ W, Calls Tryd.prog 7 #[.agg #[.int .i64 n, .int .i64 rv, .int .i64 l], .int .i64 mv] W fun e w' => e = .returned (.tuple #[.string u, .int .i64 0]) ∧ Below W.heap.size W w') := HDQ
                    have HRX := Lib.hid (HRB.out rfl)
                    clear HDQ HRB
                    go_wp2_with fail
                    refine (HDX.out _).mono ?_; rintro e w2 ⟨rfl, hb2⟩
                    have HC2 : Hid (Below wk.heap.size wk w2) := Lib.hid (HBV.out.trans (hb2.mono HBV.out.size))
                    clear hb2 q0 q1 q2 HBV
                    obtain ⟨q0, q1, q2⟩ := HKC.out w2 HC2.out
                    go_wp2_with fail
                    refine (HRK.out _).mono ?_; rintro e w3 ⟨rfl, hb3⟩
                    have HC3 : Hid (Below wk.heap.size wk w3) := Lib.hid (HC2.out.trans (hb3.mono HC2.out.size))
                    clear hb3 q0 q1 q2 HC2
                    obtain ⟨q0, q1, q2⟩ := HKC.out w3 HC3.out
                    go_wp2_with fail
                    refine (HRX.out _).mono ?_; rintro e w4 ⟨rfl, hb4⟩
                    have HC4 : Hid (Below wk.heap.size wk w4) := Lib.hid (HC3.out.trans (hb4.mono HC3.out.size))
                    clear hb4 q0 q1 q2 HC3
                    go_wp2_with fail
                    refine (HNM.out _ _).mono ?_; rintro e w9 ⟨rfl, hw9⟩
                    rw [← hw9]; clear hw9 w9
                    go_wp2_with fail
                    go_roundw
                    case rel => exact ⟨q + 1, by omega, by go_num, HC4⟩
                    case measure => simp [intOf]; omega
                · obtain rfl : q = 8 := by omega
                  have HC5 : Hid (Below wq.heap.size wq wr) := Lib.hid (HB5.out.trans (HBV.out.mono HB5.out.size))
                  go_wp2_with fail
                  go_roundw
                  case rel => exact ⟨j + 1, by omega, by go_num, HC5⟩
                  case measure => simp [intOf]; omega
            · obtain rfl : j = 14 := by omega
              have HC5 : Hid (Below wa.heap.size wa wr) := Lib.hid (HB3.out.trans (HB4.out.mono HB3.out.size))
              go_wp2_with fail
              go_roundw
              case rel => exact ⟨l + 1, by omega, rfl, HC5⟩
              case measure => simp [intOf]; omega
        · have hdl : decide (l ≤ 8) = false := decide_eq_false hl8
          go_wp2_with fail
          go_roundw
          case rel => exact ⟨n + 1, by omega, rfl, HB2⟩
          case measure => simp [intOf]; omega
    · have hdn : decide (n ≤ 13) = false := decide_eq_false hn13
      have c0 : wr.cell? ⟨w.heap.size, 0, none⟩ = some (.slice A n0 c) := Blk.cell (Blk.kept HP0.out HB1.out) 0
      have HE := Lib.hid (HB0.out.trans (HB1.out.mono HB0.out.size))
      have HSZ : Hid (w.heap.size ≤ wr.heap.size) := Lib.hid (Nat.le_trans HB0.out.size HB1.out.size)
      go_wp2_with fail
      refine (HWK.out _).mono ?_; rintro e w2 ⟨rfl, hb2⟩
      have HE2 := Lib.hid (HE.out.trans (hb2.mono HSZ.out))
      clear hb2
      go_wp2_with fail
      go_ret
      exact ⟨rfl, HE2.out⟩
end Key
end Go.Proofs.YtkkpdfjbgiijlaaDoor
