/- The law on the texts of keys, by what the program's Text and Take are asked to do. -/
import Derived.Test.YtkkpdfjbgiijlaaDoorKeyLawB
import Derived.Test.YtkkpdfjbgiijlaaDoorKeyTake
import Derived.Test.YtkkpdfjbgiijlaaDoorStrMem
import Derived.Deep.DeepCutAuto
namespace Go.Proofs.YtkkpdfjbgiijlaaDoor
set_option maxRecDepth 100000
open Go.RowKit Tri KeyM Str
namespace Key

/-- What Text tells. -/
def ansT (l : List T3) : ByteArray := if keysB l = true then (if l.length ≤ 200 then ⟨(textK l).toArray⟩ else ⟨#[]⟩) else ⟨#[]⟩
def codeT (l : List T3) : Int := if keysB l = true then (if l.length ≤ 200 then 0 else 2) else 1
def DevText : Prop := ∀ (l : List T3) (x : Value) (W : World), Ts W x l → l.length ≤ 4000 → (∀ i, i < l.length → (g l i).Small) →
  Calls Tryd.prog 14 #[x] W fun e w' => e = .returned (.tuple #[.string (ansT l), .int .i64 (codeT l)]) ∧ Below W.heap.size W w'
/-- What Take tells. -/
def gotK (s : ByteArray) : List T3 := if takeOk s.data.toList = true then keysOf s.data.toList else []
def codeK2 (s : ByteArray) : Int := if takeOk s.data.toList = true then 0 else 6
def DevTake : Prop := ∀ (s : ByteArray) (W : World), s.size ≤ 5000 →
  Calls Tryd.prog 19 #[.string s] W fun e w' => ∃ v, e = .returned (.tuple #[v, .int .i64 (codeK2 s)]) ∧ Ts w' v (gotK s) ∧ Below W.heap.size W w'
theorem take_facts {s : ByteArray} (h : takeOk s.data.toList = true) : s.size % 5 = 0 ∧ s.size ≤ 1000 ∧ keysB (keysOf s.data.toList) = true := by
  unfold takeOk at h
  rw [Bool.and_eq_true, Bool.and_eq_true, decide_eq_true_eq, decide_eq_true_eq] at h
  have e : s.data.toList.length = s.size := by simp
  rw [e] at h
  exact ⟨h.1, h.2.1, h.2.2⟩
theorem got_len {s : ByteArray} : (gotK s).length ≤ 200 := by
  unfold gotK
  split
  · rename_i h
    have := take_facts h
    rw [keysOf_length]
    have e : s.data.toList.length = s.size := by simp
    rw [e]; omega
  · simp
theorem got_small {s : ByteArray} : ∀ i, i < (gotK s).length → (g (gotK s) i).Small := by
  unfold gotK
  split
  · rename_i h
    intro i hi
    have f := keyB_facts (keysB_iff.1 (take_facts h).2.2 i hi)
    exact ⟨⟨by omega, by omega⟩, ⟨by omega, by omega⟩, ⟨by omega, by omega⟩⟩
  · intro i hi; simp at hi
theorem back_text {s : ByteArray} (h : takeOk s.data.toList = true) : ansT (gotK s) = s ∧ codeT (gotK s) = 0 := by
  have f := take_facts h
  have hl := got_len (s := s)
  have e1 : gotK s = keysOf s.data.toList := by unfold gotK; rw [if_pos h]
  have e : s.data.toList.length = s.size := by simp
  unfold ansT codeT
  rw [e1] at hl ⊢
  rw [if_pos f.2.2, if_pos hl, if_pos f.2.2, if_pos hl, text_keys _ (by rw [e]; exact f.1)]
  refine ⟨?_, rfl⟩
  obtain ⟨⟨t⟩⟩ := s
  rfl
set_option maxHeartbeats 6400000 in
theorem law_texts (hD : DevBytes) (hT : DevText) (hTk : DevTake) (x y : Value) (m : Int) (K : List T3) (S : List ByteArray) (w : World) (hx : Ts w x K) (hK : ∀ i, i < K.length → (g K i).Small) (hy : Strs w y S) (hn : K.length ≤ 140737488355328) (hS : (S.length + 2) * 16 ≤ 140737488355328) (hs : ∀ k, k < S.length → (S.getD k ByteArray.empty).size ≤ 140737488355328) :
    Calls Tryd.prog 5 #[.agg #[x, .int .i64 m, y]] w fun e w' => e = .returned (.bool true) ∧ Below w.heap.size w w' := by
  have HWK := Lib.hid (wakes_key hD)
  have HDT : Hid (∀ l x W, Ts W x l → l.length ≤ 4000 → (∀ i, i < l.length → (g l i).Small) → Calls Tryd.prog 14 #[x] W fun e w' => e = .returned (.tuple #[.string (ansT l), .int .i64 (codeT l)]) ∧ Below W.heap.size W w') := Lib.hid hT
  have HDK : Hid (∀ s W, s.size ≤ 5000 → Calls Tryd.prog 19 #[.string s] W fun e w' => ∃ v, e = .returned (.tuple #[v, .int .i64 (codeK2 s)]) ∧ Ts w' v (gotK s) ∧ Below W.heap.size W w') := Lib.hid hTk
  obtain ⟨A, c, rfl, _⟩ := hx.form
  obtain ⟨A', c', rfl, _⟩ := hy.at_
  have HB0 : Hid (Below w.heap.size w (w.alloc (abx (.slice A K.length c) m (.slice A' S.length c')))) := Lib.hid ((Below.refl _ _).alloc (Nat.le_refl _) _)
  have HP0 : Hid ((w.alloc (abx (.slice A K.length c) m (.slice A' S.length c'))).heap[w.heap.size]? = some (abx (.slice A K.length c) m (.slice A' S.length c'))) := Lib.hid (heap_alloc_new _ _)
  have HH := Lib.hid (heavy_key A c m _ K S _ (Src.kept hy HB0.out) hn (by omega) hs)
  have HX0 := Lib.hid (hx.kept HB0.out)
  have HY0 : Hid (Strs (w.alloc (abx (.slice A K.length c) m (.slice A' S.length c'))) (.slice A' S.length c') S) := Lib.hid (Src.kept hy HB0.out)
  have HKS := Lib.hid hK
  have HSS := Lib.hid hS
  have HNM := Lib.hid (fun n W => num_key n W)
  clear hx hy hK hn hS hs hD hT hTk
  go_enter Tryd.func5, Tryd.ntmps5
  go_wp2_with fail
  change Calls _ _ _ (w.alloc (abx (.slice A K.length c) m (.slice A' S.length c'))) _
  generalize w.alloc (abx (.slice A K.length c) m (.slice A' S.length c')) = wa at HB0 HP0 HH HX0 HY0 ⊢
  refine HH.out.mono ?_; rintro e w1 ⟨b, rfl, hb, hbl⟩
  have HB1 := Lib.hid hbl
  clear hbl HH
  cases b with
  | true =>
    have HE := Lib.hid (HB0.out.trans (HB1.out.mono HB0.out.size))
    go_wp2_with fail
    go_ret
    exact ⟨rfl, HE.out⟩
  | false =>
    have HF := Lib.hid (hb rfl)
    clear hb
    -- what is read, wherever only new blocks came
    have HC : Hid (∀ W, Below wa.heap.size wa W → W.cell? ⟨w.heap.size, 0, none⟩ = some (.slice A K.length c) ∧ W.cell? ⟨w.heap.size, 2, none⟩ = some (.slice A' S.length c')) := Lib.hid fun W hW => ⟨Blk.cell (Blk.kept HP0.out hW) 0, Blk.cell (Blk.kept HP0.out hW) 2⟩
    have HXX : Hid (∀ W, Below wa.heap.size wa W → Ts W (.slice A K.length c) K) := Lib.hid fun W hW => HX0.out.kept hW
    obtain ⟨c0, c2⟩ := HC.out w1 HB1.out
    go_wp2_with fail
    refine (KeyM.copy_any K _ w1 (HXX.out w1 HB1.out) (by have := HF.out.1; omega)).mono ?_; rintro e w2 ⟨v, rfl, ho, hb2⟩
    have HB2 : Hid (Below wa.heap.size wa w2) := Lib.hid (HB1.out.trans (hb2.mono HB1.out.size))
    have HV := Lib.hid ho.ts
    clear ho hb2 c0 c2 HB1
    go_wp2_with fail
    refine (HDT.out K v w2 HV.out HF.out.1 HKS.out).mono ?_; rintro e w3 ⟨rfl, hb3⟩
    have HB3 : Hid (Below wa.heap.size wa w3) := Lib.hid (HB2.out.trans (hb3.mono HB2.out.size))
    have HV3 := Lib.hid (HV.out.kept hb3)
    clear hb3 HB2 HV
    obtain ⟨u, hu⟩ : ∃ u, ansT K = u := ⟨_, rfl⟩
    obtain ⟨ec, hec⟩ : ∃ u, codeT K = u := ⟨_, rfl⟩
    have HU := Lib.hid hu
    have HEC := Lib.hid hec
    rw [hu, hec]
    clear hu hec
    obtain ⟨c0, c2⟩ := HC.out w3 HB3.out
    go_wp2_with fail
    refine (refKeys_any K _ w3 (HXX.out w3 HB3.out) (by have := HF.out.1; omega)).mono ?_; rintro e w4 ⟨rfl, hb4⟩
    have HB4 : Hid (Below wa.heap.size wa w4) := Lib.hid (HB3.out.trans (hb4.mono HB3.out.size))
    have HV4 := Lib.hid (HV3.out.kept hb4)
    clear hb4 HB3 HV3 c0 c2
    obtain ⟨kb, hkb⟩ : ∃ b, keysB K = b := ⟨_, rfl⟩
    have HKB := Lib.hid hkb
    rw [hkb]
    clear hkb
    obtain ⟨c0, c2⟩ := HC.out w4 HB4.out
    go_upto_if 28 with (fail)
    go_cut [6, 7] from 29 to 35 (fun s6 s7 wx => s6 = .int .i64 ec ∧ s7 = .string u ∧ Hid (Below w4.heap.size w4 wx))
    case first =>
      cases kb with
      | false =>
        obtain rfl : ec = 1 := by rw [← HEC.out]; unfold codeT; rw [HKB.out]; rfl
        obtain rfl : u = ⟨#[]⟩ := by rw [← HU.out]; unfold ansT; rw [HKB.out]; rfl
        go_wp2_with fail
        go_meet
        exact ⟨rfl, rfl, Lib.hid (Below.refl _ _)⟩
      | true =>
        by_cases h200 : K.length ≤ 200
        · obtain rfl : ec = 0 := by rw [← HEC.out]; unfold codeT; rw [if_pos HKB.out, if_pos h200]
          have HRT : Hid (Calls Tryd.prog 16 #[.slice A K.length c] w4 fun e w' => e = .returned (.string u) ∧ Below w4.heap.size w4 w') := Lib.hid (by
            have h := refText_any K (.slice A K.length c) w4 (HXX.out w4 HB4.out) (by omega) (fun i hi => by have f := keyB_facts (keysB_iff.1 HKB.out i hi); omega)
            have e : u = ⟨(textK K).toArray⟩ := by rw [← HU.out]; unfold ansT; rw [if_pos HKB.out, if_pos h200]
            rw [e]; exact h)
          have hd : decide ((K.length : Int) ≤ 200) = true := decide_eq_true (by omega)
          go_wp2_with fail
          refine HRT.out.mono ?_; rintro e w5 ⟨rfl, hb5⟩
          have HB5 := Lib.hid hb5
          clear hb5
          go_wp2_with fail
          go_meet
          exact ⟨rfl, rfl, HB5⟩
        · obtain rfl : ec = 2 := by rw [← HEC.out]; unfold codeT; rw [if_pos HKB.out, if_neg h200]
          obtain rfl : u = ⟨#[]⟩ := by rw [← HU.out]; unfold ansT; rw [if_pos HKB.out, if_neg h200]
          have hd : decide ((K.length : Int) ≤ 200) = false := decide_eq_false (by omega)
          go_wp2_with fail
          go_meet
          exact ⟨rfl, rfl, Lib.hid (Below.refl _ _)⟩
    case rest =>
      obtain ⟨rfl, rfl, HB5'⟩ := hcut
      rename World => w5
      have HB5 : Hid (Below wa.heap.size wa w5) := Lib.hid (HB4.out.trans (HB5'.out.mono HB4.out.size))
      have HV5 := Lib.hid (HV4.out.kept HB5'.out)
      have hus : Hid (u.size ≤ 1000) := Lib.hid (by
        rw [← HU.out]; unfold ansT
        split
        · split
          · have := textK_length K
            simp only [ByteArray.size, List.size_toArray]; omega
          · simp [ByteArray.size]
        · simp [ByteArray.size])
      clear HB5' HV4 c0 c2 HKB HU HEC
      obtain ⟨c0, c2⟩ := HC.out w5 HB5.out
      have HEQ : Hid (Calls Tryd.prog 17 #[v, .slice A K.length c] w5 fun e w' => e = .returned (.bool true) ∧ ∃ q, w' = w5.drewN q) := Lib.hid (by
        have h := KeyM.eq_any K K v (.slice A K.length c) w5 HV5.out (HXX.out w5 HB5.out) (by have := HF.out.1; omega)
        rw [decide_eq_true rfl] at h
        exact h)
      go_wp2_with fail
      refine (HNM.out _ _).mono ?_; rintro e w9 ⟨rfl, hw9⟩
      rw [← hw9]; clear hw9 w9
      go_wp2_with fail
      refine HEQ.out.mono ?_; rintro e w6 ⟨rfl, q6, rfl⟩
      have HB6 : Hid (Below wa.heap.size wa (w5.drewN q6)) := Lib.hid (below_drewN HB5.out q6)
      have HY6 : Hid (Strs (w5.drewN q6) (.slice A' S.length c') S) := Lib.hid (Src.kept HY0.out HB6.out)
      obtain ⟨c0, c2⟩ := HC.out _ HB6.out
      clear HEQ HV5 HB5
      generalize w5.drewN q6 = w6 at HB6 HY6 c0 c2 ⊢
      go_wp2_with fail
      refine (copyStrings_any S _ w6 HY6.out (by have := HSS.out; omega)).mono ?_; rintro e w7 ⟨tv, rfl, ho7, hb7⟩
      have HB7 : Hid (Below wa.heap.size wa w7) := Lib.hid (HB6.out.trans (hb7.mono HB6.out.size))
      have HO7 := Lib.hid ho7
      have HZ7 : Hid (w6.heap.size ≤ w7.heap.size) := Lib.hid hb7.size
      have HB7' := Lib.hid hb7
      clear ho7 hb7 HY6
      have hgt : ¬ 9223372036854775807 < u.size + 1 := by have := hus.out; omega
      obtain ⟨AT, cT, rfl⟩ := HO7.out.shape
      have HSRC : Hid (Src (w7.alloc (.cells #[.string u, .string (u ++ ⟨#[120]⟩)] 9)) (.slice (some ⟨w7.heap.size, 0, none⟩) 2 2) 2 (svals [u, u ++ ⟨#[120]⟩])) := Lib.hid (Src.made w7 (svals [u, u ++ (⟨#[120]⟩ : ByteArray)]) 9 2 2 rfl)
      have HOA : Hid (OwnS (w7.alloc (.cells #[.string u, .string (u ++ ⟨#[120]⟩)] 9)) w6.heap.size (.slice AT S.length cT) S) := Lib.hid (HO7.out.kept ((Below.refl _ _).alloc (Nat.le_refl _) _))
      have HBO : Hid (Below w6.heap.size w6 (w7.alloc (.cells #[.string u, .string (u ++ ⟨#[120]⟩)] 9))) := Lib.hid (HB7'.out.alloc HZ7.out _)
      go_wp2_with (at_builtin; refine wp_append_strs rfl rfl w6.heap.size (.slice AT S.length cT) S rfl HOA.out (.slice (some ⟨w7.heap.size, 0, none⟩) 2 2) [u, u ++ ⟨#[120]⟩] rfl HSRC.out HSS.out HBO.out.size ?_; intro v8 w8 ho8 hg8 hat8)
      have HB8' : Hid (Below w6.heap.size w6 w8) := Lib.hid (below_own HBO.out hg8 HBO.out.size HOA.out)
      have HB8 : Hid (Below wa.heap.size wa w8) := Lib.hid (HB6.out.trans (HB8'.out.mono HB6.out.size))
      have HO8 := Lib.hid ho8.strs
      clear ho8 hg8 hat8 HBO HO7 HOA HSRC HB8' HB7' HZ7 c0 c2 hgt
      have hTL : Hid ((S ++ [u, u ++ ⟨#[120]⟩]).length = S.length + 2) := Lib.hid (by simp)
      have HTZ : Hid (∀ k, k < S.length + 2 → ((S ++ [u, u ++ ⟨#[120]⟩]).getD k ByteArray.empty).size ≤ 5000) := Lib.hid fun k hk => by
        by_cases h : k < S.length
        · have := HF.out.2 k h
          rw [List.getD_eq_getElem?_getD, List.getElem?_append_left h, ← List.getD_eq_getElem?_getD]; omega
        · have hus := hus.out
          have : k = S.length ∨ k = S.length + 1 := by omega
          rcases this with rfl | rfl
          · simp; omega
          · simp [ByteArray.size_append]; have : (ByteArray.mk #[120]).size = 1 := rfl; omega
      generalize S ++ [u, u ++ ⟨#[120]⟩] = TX at HO8 hTL HTZ
      obtain ⟨A8, c8, rfl, hat⟩ := HO8.out.at_
      have HTC : Hid (∀ k, k < S.length + 2 → ∃ ad, A8 = some ad ∧ ∀ W, Below w8.heap.size w8 W → W.cell? (ad.add k) = some (.string (TX.getD k ByteArray.empty))) := Lib.hid fun k hk => by
        obtain ⟨ad, h1, h2⟩ := hat k (by rw [hTL.out]; exact hk)
        exact ⟨ad, h1, fun W hW => cell_kept hW h2⟩
      clear hat HO8
      obtain ⟨N, hN⟩ : ∃ N, S.length + 2 = N := ⟨_, rfl⟩
      have HNN : Hid (N ≤ 8796093022208) := Lib.hid (by have := HSS.out; omega)
      rw [hTL.out, hN]
      rw [hN] at HTZ HTC
      clear hTL hN HSS
      go_wp2_with fail
      go_loopw [9] (fun i wr => ∃ k : Nat, k ≤ N ∧ i = .int .i64 k ∧ Hid (Below w8.heap.size w8 wr)) (fun i _ => N - (intOf i).toNat)
      case atStart => exact ⟨0, by omega, rfl, Lib.hid (Below.refl _ _)⟩
      case round =>
        obtain ⟨k, hk, rfl, HBR⟩ := hrel
        by_cases hlt : k < N
        · obtain ⟨ad, rfl, HAD⟩ := HTC.out k hlt
          have HAD := Lib.hid HAD
          have HSZ := Lib.hid (HTZ.out k hlt)
          have hwk : IntKind.i64.wrap ((k : Int) + 1) = ((k + 1 : Nat) : Int) := by rw [IntKind.wrap_i64]; have := HNN.out; omega
          generalize TX.getD k ByteArray.empty = t at HAD HSZ
          have h1 := HAD.out wr HBR.out
          go_wp2_with fail
          refine (HDK.out t wr HSZ.out).mono ?_; rintro e w10 ⟨lv, rfl, hlv, hb10⟩
          have HL := Lib.hid hlv
          have HB10 : Hid (Below w8.heap.size w8 w10) := Lib.hid (HBR.out.trans (hb10.mono HBR.out.size))
          clear hlv hb10 h1 HBR
          have h1 := HAD.out w10 HB10.out
          have HRT : Hid (Calls Tryd.prog 20 #[.string t] w10 fun e w' => ∃ v, e = .returned (.tuple #[v, .bool (takeOk t.data.toList)]) ∧ OwnTs w' w10.heap.size v (gotK t) ∧ Below w10.heap.size w10 w') := Lib.hid (refTake_any t w10 (by have := HSZ.out; omega))
          have HBK : Hid (takeOk t.data.toList = true → ansT (gotK t) = t ∧ codeT (gotK t) = 0) := Lib.hid fun h => back_text h
          have HLE : Hid ((gotK t).length ≤ 200) := Lib.hid got_len
          have HLS : Hid (∀ i, i < (gotK t).length → (g (gotK t) i).Small) := Lib.hid got_small
          obtain ⟨bt, hbt⟩ : ∃ b, takeOk t.data.toList = b := ⟨_, rfl⟩
          obtain ⟨cc, hcc⟩ : ∃ c, codeK2 t = c := ⟨_, rfl⟩
          have HCC : Hid (cc = if bt = true then 0 else 6) := Lib.hid (by rw [← hcc, ← hbt]; rfl)
          rw [hbt] at HRT HBK
          rw [hcc]
          clear hbt hcc
          generalize gotK t = G at HL HRT HBK HLE HLS
          go_wp2_with fail
          refine HRT.out.mono ?_; rintro e w12 ⟨dv, rfl, hdv, hb12⟩
          have HB12 : Hid (Below w8.heap.size w8 w12) := Lib.hid (HB10.out.trans (hb12.mono HB10.out.size))
          have HL2 := Lib.hid (HL.out.kept hb12)
          have HD2 := Lib.hid hdv.ts
          clear hdv hb12 HL HB10 h1 HRT
          have HEQ : Hid (Calls Tryd.prog 17 #[lv, dv] w12 fun e w' => e = .returned (.bool true) ∧ ∃ q, w' = w12.drewN q) := Lib.hid (by
            have h := KeyM.eq_any G G lv dv w12 HL2.out HD2.out (by have := HLE.out; omega)
            rw [decide_eq_true rfl] at h
            exact h)
          cases bt with
          | false =>
            obtain rfl : cc = 6 := HCC.out
            clear HBK
            go_wp2_with fail
            refine (HNM.out _ _).mono ?_; rintro e w9 ⟨rfl, hw9⟩
            rw [← hw9]; clear hw9 w9
            go_wp2_with fail
            refine (HNM.out _ _).mono ?_; rintro e w9 ⟨rfl, hw9⟩
            rw [← hw9]; clear hw9 w9
            go_wp2_with fail
            refine HEQ.out.mono ?_; rintro e w13 ⟨rfl, q13, rfl⟩
            have HB13 : Hid (Below w8.heap.size w8 (w12.drewN q13)) := Lib.hid (below_drewN HB12.out q13)
            go_wp2_with fail
            go_roundw
            case rel => exact ⟨k + 1, by omega, rfl, HB13⟩
            case measure => simp [intOf]; omega
          | true =>
            obtain rfl : cc = 0 := HCC.out
            have HBX := Lib.hid (HBK.out rfl)
            clear HBK
            go_wp2_with fail
            refine (HNM.out _ _).mono ?_; rintro e w9 ⟨rfl, hw9⟩
            rw [← hw9]; clear hw9 w9
            go_wp2_with fail
            refine HEQ.out.mono ?_; rintro e w13 ⟨rfl, q13, rfl⟩
            have HB13 : Hid (Below w8.heap.size w8 (w12.drewN q13)) := Lib.hid (below_drewN HB12.out q13)
            have HL3 : Hid (Ts (w12.drewN q13) lv G) := Lib.hid (HL2.out.drewN q13)
            clear HEQ HL2 HD2 HB12
            generalize w12.drewN q13 = w13 at HB13 HL3 ⊢
            have HTX := Lib.hid (HDT.out G lv w13 HL3.out (by have := HLE.out; omega) HLS.out)
            rw [HBX.out.1, HBX.out.2] at HTX
            go_wp2_with fail
            refine HTX.out.mono ?_; rintro e w14 ⟨rfl, hb14⟩
            have HB14 : Hid (Below w8.heap.size w8 w14) := Lib.hid (HB13.out.trans (hb14.mono HB13.out.size))
            clear hb14
            have h1 := HAD.out w14 HB14.out
            go_wp2_with fail
            refine (HNM.out _ _).mono ?_; rintro e w9 ⟨rfl, hw9⟩
            rw [← hw9]; clear hw9 w9
            go_wp2_with fail
            go_roundw
            case rel => exact ⟨k + 1, by omega, rfl, HB14⟩
            case measure => simp [intOf]; omega
        · have hd : decide ((k : Int) < (N : Int)) = false := decide_eq_false (by omega)
          have HE := Lib.hid (HB0.out.trans ((HB8.out.trans (HBR.out.mono HB8.out.size)).mono HB0.out.size))
          go_wp2_with fail
          refine (HWK.out _).mono ?_; rintro e w11 ⟨rfl, hb11⟩
          have HE2 := Lib.hid (HE.out.trans (hb11.mono HE.out.size))
          clear hb11
          go_wp2_with fail
          go_ret
          exact ⟨rfl, HE2.out⟩
end Key
end Go.Proofs.YtkkpdfjbgiijlaaDoor
