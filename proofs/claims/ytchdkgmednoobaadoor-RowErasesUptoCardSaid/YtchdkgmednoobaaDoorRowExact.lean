/- The law on single acts: whatever is put, or erased, in any row, the row is the page's, or the error is. -/
import Derived.Test.YtchdkgmednoobaaDoorRowStep
namespace Go.Proofs.YtchdkgmednoobaaDoor
set_option maxRecDepth 100000
open Go.RowKit
namespace Row
open Utf Wid

set_option maxHeartbeats 12000000 in
theorem rowExact_any {x y : Value} (d : Int) (hd : d = 0 ∨ d = 4) (l : List Cl) (t : List ActL) (w : World) (hx : Cs w x l) (hy : Acts w y t) (hn : l.length ≤ 140737488355328) (hm : t.length ≤ 140737488355328) (hs : Bnd l) (hT : Tabs w) (hdo : ∀ k, k < t.length → (t.getD k noAct).doo = d) :
    Calls Tryd.prog 29 #[.agg #[x, y]] w fun e w' => e = .returned (.bool true) ∧ Below w.heap.size w w' := by
  have HX := Lib.hid hx
  have HY := Lib.hid hy
  have HT := Lib.hid hT
  have HD := Lib.hid hd
  have HDO := Lib.hid hdo
  have HS := Lib.hid hs
  have HHV := Lib.hid (fun w' (h1 : Cs w' x l) (h2 : Acts w' y t) => heavy_any l t w' h1 h2 hn hm)
  obtain ⟨A, c, rfl, _⟩ := hx.form
  obtain ⟨A', c', rfl, hact⟩ := hy.form
  have HA := Lib.hid hact
  have HB1 : Hid (Below w.heap.size w (w.alloc (.cells #[.slice A l.length c, .slice A' t.length c'] 25))) := Lib.hid ((Below.refl _ _).alloc (Nat.le_refl _) _)
  have HK1 : Hid ((w.alloc (.cells #[.slice A l.length c, .slice A' t.length c'] 25)).heap[w.heap.size]? = some (.cells #[.slice A l.length c, .slice A' t.length c'] 25 (0, 0))) := Lib.hid (heap_alloc_new _ _)
  clear hx hy hact hT hs hd hdo
  go_enter Tryd.func29, Tryd.ntmps29
  go_wp2_with fail
  refine (HHV.out _ (HX.out.kept HB1.out) (HY.out.kept HB1.out)).mono ?_; rintro e w2 ⟨b, rfl, hq, hb2⟩
  have HB2 : Hid (Below w.heap.size w w2) := Lib.hid (HB1.out.trans (hb2.mono HB1.out.size))
  have hk2 := Blk.kept HK1.out hb2
  have HK2 := Lib.hid hk2
  clear hb2
  cases b with
  | true =>
    clear hk2 hq
    go_wp2_with fail
    go_ret
    exact ⟨rfl, HB2.out⟩
  | false =>
    obtain ⟨hl2, ht2⟩ := hq rfl
    have c0 : w2.cell? ⟨w.heap.size, 0, none⟩ = some (.slice A l.length c) := Blk.cell hk2 0
    have HCC := Lib.hid (fun w' (h : Cs w' (.slice A l.length c) l) => copyCells_any l (.slice A l.length c) w' h (by omega))
    clear hk2 hq
    go_wp2_with fail
    refine (HCC.out _ (HX.out.kept HB2.out)).mono ?_; rintro e w4 ⟨v4, rfl, ho4, hb4⟩
    have HO4 : Hid (Cs w4 v4 l) := Lib.hid ho4.cs
    have HB4 : Hid (Below w.heap.size w w4) := Lib.hid (HB2.out.trans (hb4.mono HB2.out.size))
    have HK4 := Lib.hid (Blk.kept HK2.out hb4)
    clear ho4 hb4 c0
    go_wp2_with fail
    go_loopw [3, 4] (fun v i wr => ∃ (k : Nat) (ls : List Cl), k ≤ 8 ∧ i = .int .i64 k ∧ Hid (Cs wr v ls) ∧ Hid (ls.length = l.length) ∧ Hid (Bnd ls) ∧ Hid (Below w4.heap.size w4 wr)) (fun _ i _ => 8 - (intOf i).toNat)
    case atStart => exact ⟨0, l, by omega, rfl, HO4, Lib.hid rfl, HS, Lib.hid (Below.refl _ _)⟩
    case round =>
      obtain ⟨k, ls, hk, rfl, HOW, HLN, HBD, HBL⟩ := hrel
      have hkk := Blk.kept HK4.out HBL.out
      have c1 : wr.cell? ⟨w.heap.size, 1, none⟩ = some (.slice A' t.length c') := Blk.cell hkk 1
      have zk := Blk.lt hkk
      have HTR := Lib.hid (HT.out.kept (HB4.out.trans (HBL.out.mono HB4.out.size)))
      obtain ⟨B, bc, e1, _⟩ := HOW.out.form
      subst e1
      by_cases hlt : k < t.length
      · by_cases h8 : k < 8
        · obtain ⟨ad, e1, hat⟩ := HA.out k hlt
          subst e1
          have hat := hat.kept (HB4.out.trans (HBL.out.mono HB4.out.size))
          have hdd := HDO.out k hlt
          clear hkk
          generalize t.getD k noAct = act at hat hdd
          obtain ⟨doo, at_, nn, rr, a⟩ := act
          have hdd : doo = d := hdd
          subst doo
          have a0 : _ = some (Value.int .i64 d) := hat.head
          have a1 : _ = some (Value.int .i64 at_) := hat.next 0 rfl
          have a2 : _ = some (Value.int .i64 nn) := hat.next 1 rfl
          have a3 : _ = some (Value.int .i64 rr) := hat.next 2 rfl
          have a4 : _ = some (Value.int .i64 a.fg) := hat.next 3 rfl
          have a5 : _ = some (Value.int .i64 a.bg) := hat.next 4 rfl
          have a6 : _ = some (Value.int .i64 a.flags) := hat.next 5 rfl
          clear hat
          have hls : ls.length ≤ 200 := by have := HLN.out; omega
          have HST := Lib.hid (fun w' q (h : Cs w' (.slice B ls.length bc) ls) (hT : Tabs w') => step_any d HD.out ls a q nn rr (.slice B ls.length bc) w' h HBD.out hls hT)
          rcases (by omega : k % 2 = 0 ∨ k % 2 = 1) with hm2 | hm2
          · have hmi : (k : Int).tmod 2 = 0 := by rw [Int.tmod_eq_emod_of_nonneg (by omega)]; omega
            clear hm2
            by_cases hpos : 0 < ls.length
            · have hposb : decide (0 < ls.length) = true := decide_eq_true (by omega)
              have HW1 := Lib.hid (fun w' => lawWithin_any at_ (ls.length + 1) (by omega) (by omega) w')
              have hwrapn : IntKind.i64.wrap ((ls.length : Int) + 1) = ((ls.length + 1 : Nat) : Int) := by rw [IntKind.wrap_i64]; omega
              generalize wi at_ (ls.length + 1) = p at HW1
              obtain ⟨ln1, hln1⟩ : ∃ q, ls.length + 1 = q := ⟨_, rfl⟩
              rw [hln1] at hwrapn HW1
              clear hln1 hls hpos
              by_cases hn1 : 1 ≤ nn ∧ nn ≤ 40
              · by_cases hatt : attrOk a = true
                · obtain ⟨n, rfl⟩ := Int.eq_ofNat_of_zero_le (show 0 ≤ nn by omega)
                  have HBK := Lib.hid (fun w' => rowBlank_fits n a w' (by omega) (by omega) hatt)
                  have HBTN := Lib.hid (fun w' => btw_at (n : Int) 1 40 true (rng_yes hn1.1 hn1.2) w')
                  have HAT := Lib.hid (fun w' => attr_at a true hatt w')
                  have HRB := Lib.hid (fun w' => refBlank_any n a w' (by omega))
                  have HEQ := Lib.hid (fun w' u v (k1 : Cs w' u (List.replicate n (blank a))) (k2 : Cs w' v (List.replicate n (blank a))) => eq_below (List.replicate n (blank a)) u v w' k1 k2 (by rw [List.length_replicate]; omega))
                  clear hn1 hatt
                  have hba : Below wr.heap.size wr (wr.alloc (.cells #[.int .i64 d, .int .i64 p, .int .i64 (n : Nat), .int .i64 rr, .int .i64 a.fg, .int .i64 a.bg, .int .i64 a.flags] 35)) := (Below.refl _ _).alloc (Nat.le_refl _) _
                  have hka : (wr.alloc (.cells #[.int .i64 d, .int .i64 p, .int .i64 (n : Nat), .int .i64 rr, .int .i64 a.fg, .int .i64 a.bg, .int .i64 a.flags] 35)).heap[wr.heap.size]? = some (.cells #[.int .i64 d, .int .i64 p, .int .i64 (n : Nat), .int .i64 rr, .int .i64 a.fg, .int .i64 a.bg, .int .i64 a.flags] 35 (0, 0)) := heap_alloc_new _ _
                  have HBW := Lib.hid (HBL.out.trans (hba.mono HBL.out.size))
                  have HKW := Lib.hid hka
                  have HCW := Lib.hid (HOW.out.kept hba)
                  have HTW := Lib.hid (HTR.out.kept hba)
                  clear hba hka
                  go_wp2_with fail
                  refine (HW1.out _).mono ?_; rintro e wn ⟨rfl, rfl⟩
                  go_wp2_with fail
                  refine (HST.out _ p HCW.out HTW.out).mono ?_; rintro e wS ⟨vS, ms, rfl, hcS, hlS, hbS, hwS⟩
                  clear a0 a1 a2 a3 a4 a5 a6
                  have HBS := Lib.hid (HBW.out.trans (hwS.mono HBW.out.size))
                  have HKS := Lib.hid (Blk.kept HKW.out hwS)
                  have HCS := Lib.hid hcS
                  have HLS : Hid (ms.length = l.length) := Lib.hid (by have := HLN.out; omega)
                  have HBDS := Lib.hid hbS
                  clear hcS hlS hbS hwS
                  have c2 : wS.cell? ⟨wr.heap.size, 2, none⟩ = some (.int .i64 (n : Nat)) := Blk.cell HKS.out 2
                  have c4 : wS.cell? ⟨wr.heap.size, 4, none⟩ = some (.int .i64 a.fg) := Blk.cell HKS.out 4
                  have c5 : wS.cell? ⟨wr.heap.size, 5, none⟩ = some (.int .i64 a.bg) := Blk.cell HKS.out 5
                  have c6 : wS.cell? ⟨wr.heap.size, 6, none⟩ = some (.int .i64 a.flags) := Blk.cell HKS.out 6
                  go_wp2_with fail
                  refine (HBK.out _).mono ?_; rintro e wT ⟨vb, rfl, hob, hbT⟩
                  have HBT := Lib.hid (HBS.out.trans (hbT.mono HBS.out.size))
                  have HKT := Lib.hid (Blk.kept HKS.out hbT)
                  have HCT := Lib.hid (HCS.out.kept hbT)
                  have HOT := Lib.hid hob.cs
                  clear hob
                  clear hbT
                  clear c2 c4 c5 c6
                  have c2 : wT.cell? ⟨wr.heap.size, 2, none⟩ = some (.int .i64 (n : Nat)) := Blk.cell HKT.out 2
                  have c4 : wT.cell? ⟨wr.heap.size, 4, none⟩ = some (.int .i64 a.fg) := Blk.cell HKT.out 4
                  have c5 : wT.cell? ⟨wr.heap.size, 5, none⟩ = some (.int .i64 a.bg) := Blk.cell HKT.out 5
                  have c6 : wT.cell? ⟨wr.heap.size, 6, none⟩ = some (.int .i64 a.flags) := Blk.cell HKT.out 6
                  go_wp2_with fail
                  refine (HBTN.out _).mono ?_; rintro e wn ⟨rfl, rfl⟩
                  go_wp2_with fail
                  refine (HAT.out _).mono ?_; rintro e wU ⟨rfl, hbU⟩
                  have HBU := Lib.hid (HBT.out.trans (hbU.mono HBT.out.size))
                  have HKU := Lib.hid (Blk.kept HKT.out hbU)
                  have HCU := Lib.hid (HCT.out.kept hbU)
                  have HOU := Lib.hid (HOT.out.kept hbU)
                  clear hbU
                  clear c2 c4 c5 c6
                  have c2 : wU.cell? ⟨wr.heap.size, 2, none⟩ = some (.int .i64 (n : Nat)) := Blk.cell HKU.out 2
                  have c4 : wU.cell? ⟨wr.heap.size, 4, none⟩ = some (.int .i64 a.fg) := Blk.cell HKU.out 4
                  have c5 : wU.cell? ⟨wr.heap.size, 5, none⟩ = some (.int .i64 a.bg) := Blk.cell HKU.out 5
                  have c6 : wU.cell? ⟨wr.heap.size, 6, none⟩ = some (.int .i64 a.flags) := Blk.cell HKU.out 6
                  go_wp2_with fail
                  refine (num_eq _ _).mono ?_; rintro e wn ⟨rfl, rfl⟩
                  go_wp2_with fail
                  refine (HRB.out _).mono ?_; rintro e wV ⟨vq, rfl, hoq, hbV⟩
                  have HBV := Lib.hid (HBU.out.trans (hbV.mono HBU.out.size))
                  have HKV := Lib.hid (Blk.kept HKU.out hbV)
                  have HCV := Lib.hid (HCU.out.kept hbV)
                  have HOV := Lib.hid (HOU.out.kept hbV)
                  have HQV := Lib.hid hoq.cs
                  clear hoq
                  clear hbV
                  clear c2 c4 c5 c6
                  go_wp2_with fail
                  refine (HEQ.out _ _ _ HOV.out HQV.out).mono ?_; rintro e wW ⟨rfl, hbW⟩
                  have HBW := Lib.hid (HBV.out.trans (hbW.mono HBV.out.size))
                  have HKW := Lib.hid (Blk.kept HKV.out hbW)
                  have HCW := Lib.hid (HCV.out.kept hbW)
                  clear hbW
                  go_wp2_with fail
                  go_roundw
                  case rel => exact ⟨k + 1, ms, by omega, by go_num, HCW, HLS, HBDS, HBW⟩
                  case measure => simp [intOf]; omega
                · have hatf : attrOk a = false := by simpa using hatt
                  have HBK := Lib.hid (fun w' => rowBlank_no nn a w' (fun h => hatt h.2))
                  have HBTN := Lib.hid (fun w' => btw_at nn 1 40 true (rng_yes hn1.1 hn1.2) w')
                  have HAT := Lib.hid (fun w' => attr_at a false hatf w')
                  clear hn1 hatt hatf
                  have hba : Below wr.heap.size wr (wr.alloc (.cells #[.int .i64 d, .int .i64 p, .int .i64 nn, .int .i64 rr, .int .i64 a.fg, .int .i64 a.bg, .int .i64 a.flags] 35)) := (Below.refl _ _).alloc (Nat.le_refl _) _
                  have hka : (wr.alloc (.cells #[.int .i64 d, .int .i64 p, .int .i64 nn, .int .i64 rr, .int .i64 a.fg, .int .i64 a.bg, .int .i64 a.flags] 35)).heap[wr.heap.size]? = some (.cells #[.int .i64 d, .int .i64 p, .int .i64 nn, .int .i64 rr, .int .i64 a.fg, .int .i64 a.bg, .int .i64 a.flags] 35 (0, 0)) := heap_alloc_new _ _
                  have HBW := Lib.hid (HBL.out.trans (hba.mono HBL.out.size))
                  have HKW := Lib.hid hka
                  have HCW := Lib.hid (HOW.out.kept hba)
                  have HTW := Lib.hid (HTR.out.kept hba)
                  clear hba hka
                  go_wp2_with fail
                  refine (HW1.out _).mono ?_; rintro e wn ⟨rfl, rfl⟩
                  go_wp2_with fail
                  refine (HST.out _ p HCW.out HTW.out).mono ?_; rintro e wS ⟨vS, ms, rfl, hcS, hlS, hbS, hwS⟩
                  clear a0 a1 a2 a3 a4 a5 a6
                  have HBS := Lib.hid (HBW.out.trans (hwS.mono HBW.out.size))
                  have HKS := Lib.hid (Blk.kept HKW.out hwS)
                  have HCS := Lib.hid hcS
                  have HLS : Hid (ms.length = l.length) := Lib.hid (by have := HLN.out; omega)
                  have HBDS := Lib.hid hbS
                  clear hcS hlS hbS hwS
                  have c2 : wS.cell? ⟨wr.heap.size, 2, none⟩ = some (.int .i64 nn) := Blk.cell HKS.out 2
                  have c4 : wS.cell? ⟨wr.heap.size, 4, none⟩ = some (.int .i64 a.fg) := Blk.cell HKS.out 4
                  have c5 : wS.cell? ⟨wr.heap.size, 5, none⟩ = some (.int .i64 a.bg) := Blk.cell HKS.out 5
                  have c6 : wS.cell? ⟨wr.heap.size, 6, none⟩ = some (.int .i64 a.flags) := Blk.cell HKS.out 6
                  go_wp2_with fail
                  refine (HBK.out _).mono ?_; rintro e wT ⟨rfl, hbT⟩
                  have HBT := Lib.hid (HBS.out.trans (hbT.mono HBS.out.size))
                  have HKT := Lib.hid (Blk.kept HKS.out hbT)
                  have HCT := Lib.hid (HCS.out.kept hbT)
                  clear hbT
                  clear c2 c4 c5 c6
                  have c2 : wT.cell? ⟨wr.heap.size, 2, none⟩ = some (.int .i64 nn) := Blk.cell HKT.out 2
                  have c4 : wT.cell? ⟨wr.heap.size, 4, none⟩ = some (.int .i64 a.fg) := Blk.cell HKT.out 4
                  have c5 : wT.cell? ⟨wr.heap.size, 5, none⟩ = some (.int .i64 a.bg) := Blk.cell HKT.out 5
                  have c6 : wT.cell? ⟨wr.heap.size, 6, none⟩ = some (.int .i64 a.flags) := Blk.cell HKT.out 6
                  go_wp2_with fail
                  refine (HBTN.out _).mono ?_; rintro e wn ⟨rfl, rfl⟩
                  go_wp2_with fail
                  refine (HAT.out _).mono ?_; rintro e wU ⟨rfl, hbU⟩
                  have HBU := Lib.hid (HBT.out.trans (hbU.mono HBT.out.size))
                  have HKU := Lib.hid (Blk.kept HKT.out hbU)
                  have HCU := Lib.hid (HCT.out.kept hbU)
                  clear hbU
                  clear c2 c4 c5 c6
                  go_wp2_with fail
                  refine (num_eq _ _).mono ?_; rintro e wn ⟨rfl, rfl⟩
                  go_wp2_with fail
                  go_roundw
                  case rel => exact ⟨k + 1, ms, by omega, by go_num, HCU, HLS, HBDS, HBU⟩
                  case measure => simp [intOf]; omega
              · have HBK := Lib.hid (fun w' => rowBlank_no nn a w' (fun h => hn1 h.1))
                have HBTN := Lib.hid (fun w' => btw_at nn 1 40 false (rng_no hn1) w')
                clear hn1
                have hba : Below wr.heap.size wr (wr.alloc (.cells #[.int .i64 d, .int .i64 p, .int .i64 nn, .int .i64 rr, .int .i64 a.fg, .int .i64 a.bg, .int .i64 a.flags] 35)) := (Below.refl _ _).alloc (Nat.le_refl _) _
                have hka : (wr.alloc (.cells #[.int .i64 d, .int .i64 p, .int .i64 nn, .int .i64 rr, .int .i64 a.fg, .int .i64 a.bg, .int .i64 a.flags] 35)).heap[wr.heap.size]? = some (.cells #[.int .i64 d, .int .i64 p, .int .i64 nn, .int .i64 rr, .int .i64 a.fg, .int .i64 a.bg, .int .i64 a.flags] 35 (0, 0)) := heap_alloc_new _ _
                have HBW := Lib.hid (HBL.out.trans (hba.mono HBL.out.size))
                have HKW := Lib.hid hka
                have HCW := Lib.hid (HOW.out.kept hba)
                have HTW := Lib.hid (HTR.out.kept hba)
                clear hba hka
                go_wp2_with fail
                refine (HW1.out _).mono ?_; rintro e wn ⟨rfl, rfl⟩
                go_wp2_with fail
                refine (HST.out _ p HCW.out HTW.out).mono ?_; rintro e wS ⟨vS, ms, rfl, hcS, hlS, hbS, hwS⟩
                clear a0 a1 a2 a3 a4 a5 a6
                have HBS := Lib.hid (HBW.out.trans (hwS.mono HBW.out.size))
                have HKS := Lib.hid (Blk.kept HKW.out hwS)
                have HCS := Lib.hid hcS
                have HLS : Hid (ms.length = l.length) := Lib.hid (by have := HLN.out; omega)
                have HBDS := Lib.hid hbS
                clear hcS hlS hbS hwS
                have c2 : wS.cell? ⟨wr.heap.size, 2, none⟩ = some (.int .i64 nn) := Blk.cell HKS.out 2
                have c4 : wS.cell? ⟨wr.heap.size, 4, none⟩ = some (.int .i64 a.fg) := Blk.cell HKS.out 4
                have c5 : wS.cell? ⟨wr.heap.size, 5, none⟩ = some (.int .i64 a.bg) := Blk.cell HKS.out 5
                have c6 : wS.cell? ⟨wr.heap.size, 6, none⟩ = some (.int .i64 a.flags) := Blk.cell HKS.out 6
                go_wp2_with fail
                refine (HBK.out _).mono ?_; rintro e wT ⟨rfl, hbT⟩
                have HBT := Lib.hid (HBS.out.trans (hbT.mono HBS.out.size))
                have HKT := Lib.hid (Blk.kept HKS.out hbT)
                have HCT := Lib.hid (HCS.out.kept hbT)
                clear hbT
                clear c2 c4 c5 c6
                have c2 : wT.cell? ⟨wr.heap.size, 2, none⟩ = some (.int .i64 nn) := Blk.cell HKT.out 2
                have c4 : wT.cell? ⟨wr.heap.size, 4, none⟩ = some (.int .i64 a.fg) := Blk.cell HKT.out 4
                have c5 : wT.cell? ⟨wr.heap.size, 5, none⟩ = some (.int .i64 a.bg) := Blk.cell HKT.out 5
                have c6 : wT.cell? ⟨wr.heap.size, 6, none⟩ = some (.int .i64 a.flags) := Blk.cell HKT.out 6
                go_wp2_with fail
                refine (HBTN.out _).mono ?_; rintro e wn ⟨rfl, rfl⟩
                clear c2 c4 c5 c6
                go_wp2_with fail
                refine (num_eq _ _).mono ?_; rintro e wn ⟨rfl, rfl⟩
                go_wp2_with fail
                go_roundw
                case rel => exact ⟨k + 1, ms, by omega, by go_num, HCT, HLS, HBDS, HBT⟩
                case measure => simp [intOf]; omega
            · have hposb : decide (0 < ls.length) = false := decide_eq_false (by omega)
              clear hls hpos
              by_cases hn1 : 1 ≤ nn ∧ nn ≤ 40
              · by_cases hatt : attrOk a = true
                · obtain ⟨n, rfl⟩ := Int.eq_ofNat_of_zero_le (show 0 ≤ nn by omega)
                  have HBK := Lib.hid (fun w' => rowBlank_fits n a w' (by omega) (by omega) hatt)
                  have HBTN := Lib.hid (fun w' => btw_at (n : Int) 1 40 true (rng_yes hn1.1 hn1.2) w')
                  have HAT := Lib.hid (fun w' => attr_at a true hatt w')
                  have HRB := Lib.hid (fun w' => refBlank_any n a w' (by omega))
                  have HEQ := Lib.hid (fun w' u v (k1 : Cs w' u (List.replicate n (blank a))) (k2 : Cs w' v (List.replicate n (blank a))) => eq_below (List.replicate n (blank a)) u v w' k1 k2 (by rw [List.length_replicate]; omega))
                  clear hn1 hatt
                  have hba : Below wr.heap.size wr (wr.alloc (.cells #[.int .i64 d, .int .i64 at_, .int .i64 (n : Nat), .int .i64 rr, .int .i64 a.fg, .int .i64 a.bg, .int .i64 a.flags] 35)) := (Below.refl _ _).alloc (Nat.le_refl _) _
                  have hka : (wr.alloc (.cells #[.int .i64 d, .int .i64 at_, .int .i64 (n : Nat), .int .i64 rr, .int .i64 a.fg, .int .i64 a.bg, .int .i64 a.flags] 35)).heap[wr.heap.size]? = some (.cells #[.int .i64 d, .int .i64 at_, .int .i64 (n : Nat), .int .i64 rr, .int .i64 a.fg, .int .i64 a.bg, .int .i64 a.flags] 35 (0, 0)) := heap_alloc_new _ _
                  have HBW := Lib.hid (HBL.out.trans (hba.mono HBL.out.size))
                  have HKW := Lib.hid hka
                  have HCW := Lib.hid (HOW.out.kept hba)
                  have HTW := Lib.hid (HTR.out.kept hba)
                  clear hba hka
                  go_wp2_with fail
                  refine (HST.out _ at_ HCW.out HTW.out).mono ?_; rintro e wS ⟨vS, ms, rfl, hcS, hlS, hbS, hwS⟩
                  clear a0 a1 a2 a3 a4 a5 a6
                  have HBS := Lib.hid (HBW.out.trans (hwS.mono HBW.out.size))
                  have HKS := Lib.hid (Blk.kept HKW.out hwS)
                  have HCS := Lib.hid hcS
                  have HLS : Hid (ms.length = l.length) := Lib.hid (by have := HLN.out; omega)
                  have HBDS := Lib.hid hbS
                  clear hcS hlS hbS hwS
                  have c2 : wS.cell? ⟨wr.heap.size, 2, none⟩ = some (.int .i64 (n : Nat)) := Blk.cell HKS.out 2
                  have c4 : wS.cell? ⟨wr.heap.size, 4, none⟩ = some (.int .i64 a.fg) := Blk.cell HKS.out 4
                  have c5 : wS.cell? ⟨wr.heap.size, 5, none⟩ = some (.int .i64 a.bg) := Blk.cell HKS.out 5
                  have c6 : wS.cell? ⟨wr.heap.size, 6, none⟩ = some (.int .i64 a.flags) := Blk.cell HKS.out 6
                  go_wp2_with fail
                  refine (HBK.out _).mono ?_; rintro e wT ⟨vb, rfl, hob, hbT⟩
                  have HBT := Lib.hid (HBS.out.trans (hbT.mono HBS.out.size))
                  have HKT := Lib.hid (Blk.kept HKS.out hbT)
                  have HCT := Lib.hid (HCS.out.kept hbT)
                  have HOT := Lib.hid hob.cs
                  clear hob
                  clear hbT
                  clear c2 c4 c5 c6
                  have c2 : wT.cell? ⟨wr.heap.size, 2, none⟩ = some (.int .i64 (n : Nat)) := Blk.cell HKT.out 2
                  have c4 : wT.cell? ⟨wr.heap.size, 4, none⟩ = some (.int .i64 a.fg) := Blk.cell HKT.out 4
                  have c5 : wT.cell? ⟨wr.heap.size, 5, none⟩ = some (.int .i64 a.bg) := Blk.cell HKT.out 5
                  have c6 : wT.cell? ⟨wr.heap.size, 6, none⟩ = some (.int .i64 a.flags) := Blk.cell HKT.out 6
                  go_wp2_with fail
                  refine (HBTN.out _).mono ?_; rintro e wn ⟨rfl, rfl⟩
                  go_wp2_with fail
                  refine (HAT.out _).mono ?_; rintro e wU ⟨rfl, hbU⟩
                  have HBU := Lib.hid (HBT.out.trans (hbU.mono HBT.out.size))
                  have HKU := Lib.hid (Blk.kept HKT.out hbU)
                  have HCU := Lib.hid (HCT.out.kept hbU)
                  have HOU := Lib.hid (HOT.out.kept hbU)
                  clear hbU
                  clear c2 c4 c5 c6
                  have c2 : wU.cell? ⟨wr.heap.size, 2, none⟩ = some (.int .i64 (n : Nat)) := Blk.cell HKU.out 2
                  have c4 : wU.cell? ⟨wr.heap.size, 4, none⟩ = some (.int .i64 a.fg) := Blk.cell HKU.out 4
                  have c5 : wU.cell? ⟨wr.heap.size, 5, none⟩ = some (.int .i64 a.bg) := Blk.cell HKU.out 5
                  have c6 : wU.cell? ⟨wr.heap.size, 6, none⟩ = some (.int .i64 a.flags) := Blk.cell HKU.out 6
                  go_wp2_with fail
                  refine (num_eq _ _).mono ?_; rintro e wn ⟨rfl, rfl⟩
                  go_wp2_with fail
                  refine (HRB.out _).mono ?_; rintro e wV ⟨vq, rfl, hoq, hbV⟩
                  have HBV := Lib.hid (HBU.out.trans (hbV.mono HBU.out.size))
                  have HKV := Lib.hid (Blk.kept HKU.out hbV)
                  have HCV := Lib.hid (HCU.out.kept hbV)
                  have HOV := Lib.hid (HOU.out.kept hbV)
                  have HQV := Lib.hid hoq.cs
                  clear hoq
                  clear hbV
                  clear c2 c4 c5 c6
                  go_wp2_with fail
                  refine (HEQ.out _ _ _ HOV.out HQV.out).mono ?_; rintro e wW ⟨rfl, hbW⟩
                  have HBW := Lib.hid (HBV.out.trans (hbW.mono HBV.out.size))
                  have HKW := Lib.hid (Blk.kept HKV.out hbW)
                  have HCW := Lib.hid (HCV.out.kept hbW)
                  clear hbW
                  go_wp2_with fail
                  go_roundw
                  case rel => exact ⟨k + 1, ms, by omega, by go_num, HCW, HLS, HBDS, HBW⟩
                  case measure => simp [intOf]; omega
                · have hatf : attrOk a = false := by simpa using hatt
                  have HBK := Lib.hid (fun w' => rowBlank_no nn a w' (fun h => hatt h.2))
                  have HBTN := Lib.hid (fun w' => btw_at nn 1 40 true (rng_yes hn1.1 hn1.2) w')
                  have HAT := Lib.hid (fun w' => attr_at a false hatf w')
                  clear hn1 hatt hatf
                  have hba : Below wr.heap.size wr (wr.alloc (.cells #[.int .i64 d, .int .i64 at_, .int .i64 nn, .int .i64 rr, .int .i64 a.fg, .int .i64 a.bg, .int .i64 a.flags] 35)) := (Below.refl _ _).alloc (Nat.le_refl _) _
                  have hka : (wr.alloc (.cells #[.int .i64 d, .int .i64 at_, .int .i64 nn, .int .i64 rr, .int .i64 a.fg, .int .i64 a.bg, .int .i64 a.flags] 35)).heap[wr.heap.size]? = some (.cells #[.int .i64 d, .int .i64 at_, .int .i64 nn, .int .i64 rr, .int .i64 a.fg, .int .i64 a.bg, .int .i64 a.flags] 35 (0, 0)) := heap_alloc_new _ _
                  have HBW := Lib.hid (HBL.out.trans (hba.mono HBL.out.size))
                  have HKW := Lib.hid hka
                  have HCW := Lib.hid (HOW.out.kept hba)
                  have HTW := Lib.hid (HTR.out.kept hba)
                  clear hba hka
                  go_wp2_with fail
                  refine (HST.out _ at_ HCW.out HTW.out).mono ?_; rintro e wS ⟨vS, ms, rfl, hcS, hlS, hbS, hwS⟩
                  clear a0 a1 a2 a3 a4 a5 a6
                  have HBS := Lib.hid (HBW.out.trans (hwS.mono HBW.out.size))
                  have HKS := Lib.hid (Blk.kept HKW.out hwS)
                  have HCS := Lib.hid hcS
                  have HLS : Hid (ms.length = l.length) := Lib.hid (by have := HLN.out; omega)
                  have HBDS := Lib.hid hbS
                  clear hcS hlS hbS hwS
                  have c2 : wS.cell? ⟨wr.heap.size, 2, none⟩ = some (.int .i64 nn) := Blk.cell HKS.out 2
                  have c4 : wS.cell? ⟨wr.heap.size, 4, none⟩ = some (.int .i64 a.fg) := Blk.cell HKS.out 4
                  have c5 : wS.cell? ⟨wr.heap.size, 5, none⟩ = some (.int .i64 a.bg) := Blk.cell HKS.out 5
                  have c6 : wS.cell? ⟨wr.heap.size, 6, none⟩ = some (.int .i64 a.flags) := Blk.cell HKS.out 6
                  go_wp2_with fail
                  refine (HBK.out _).mono ?_; rintro e wT ⟨rfl, hbT⟩
                  have HBT := Lib.hid (HBS.out.trans (hbT.mono HBS.out.size))
                  have HKT := Lib.hid (Blk.kept HKS.out hbT)
                  have HCT := Lib.hid (HCS.out.kept hbT)
                  clear hbT
                  clear c2 c4 c5 c6
                  have c2 : wT.cell? ⟨wr.heap.size, 2, none⟩ = some (.int .i64 nn) := Blk.cell HKT.out 2
                  have c4 : wT.cell? ⟨wr.heap.size, 4, none⟩ = some (.int .i64 a.fg) := Blk.cell HKT.out 4
                  have c5 : wT.cell? ⟨wr.heap.size, 5, none⟩ = some (.int .i64 a.bg) := Blk.cell HKT.out 5
                  have c6 : wT.cell? ⟨wr.heap.size, 6, none⟩ = some (.int .i64 a.flags) := Blk.cell HKT.out 6
                  go_wp2_with fail
                  refine (HBTN.out _).mono ?_; rintro e wn ⟨rfl, rfl⟩
                  go_wp2_with fail
                  refine (HAT.out _).mono ?_; rintro e wU ⟨rfl, hbU⟩
                  have HBU := Lib.hid (HBT.out.trans (hbU.mono HBT.out.size))
                  have HKU := Lib.hid (Blk.kept HKT.out hbU)
                  have HCU := Lib.hid (HCT.out.kept hbU)
                  clear hbU
                  clear c2 c4 c5 c6
                  go_wp2_with fail
                  refine (num_eq _ _).mono ?_; rintro e wn ⟨rfl, rfl⟩
                  go_wp2_with fail
                  go_roundw
                  case rel => exact ⟨k + 1, ms, by omega, by go_num, HCU, HLS, HBDS, HBU⟩
                  case measure => simp [intOf]; omega
              · have HBK := Lib.hid (fun w' => rowBlank_no nn a w' (fun h => hn1 h.1))
                have HBTN := Lib.hid (fun w' => btw_at nn 1 40 false (rng_no hn1) w')
                clear hn1
                have hba : Below wr.heap.size wr (wr.alloc (.cells #[.int .i64 d, .int .i64 at_, .int .i64 nn, .int .i64 rr, .int .i64 a.fg, .int .i64 a.bg, .int .i64 a.flags] 35)) := (Below.refl _ _).alloc (Nat.le_refl _) _
                have hka : (wr.alloc (.cells #[.int .i64 d, .int .i64 at_, .int .i64 nn, .int .i64 rr, .int .i64 a.fg, .int .i64 a.bg, .int .i64 a.flags] 35)).heap[wr.heap.size]? = some (.cells #[.int .i64 d, .int .i64 at_, .int .i64 nn, .int .i64 rr, .int .i64 a.fg, .int .i64 a.bg, .int .i64 a.flags] 35 (0, 0)) := heap_alloc_new _ _
                have HBW := Lib.hid (HBL.out.trans (hba.mono HBL.out.size))
                have HKW := Lib.hid hka
                have HCW := Lib.hid (HOW.out.kept hba)
                have HTW := Lib.hid (HTR.out.kept hba)
                clear hba hka
                go_wp2_with fail
                refine (HST.out _ at_ HCW.out HTW.out).mono ?_; rintro e wS ⟨vS, ms, rfl, hcS, hlS, hbS, hwS⟩
                clear a0 a1 a2 a3 a4 a5 a6
                have HBS := Lib.hid (HBW.out.trans (hwS.mono HBW.out.size))
                have HKS := Lib.hid (Blk.kept HKW.out hwS)
                have HCS := Lib.hid hcS
                have HLS : Hid (ms.length = l.length) := Lib.hid (by have := HLN.out; omega)
                have HBDS := Lib.hid hbS
                clear hcS hlS hbS hwS
                have c2 : wS.cell? ⟨wr.heap.size, 2, none⟩ = some (.int .i64 nn) := Blk.cell HKS.out 2
                have c4 : wS.cell? ⟨wr.heap.size, 4, none⟩ = some (.int .i64 a.fg) := Blk.cell HKS.out 4
                have c5 : wS.cell? ⟨wr.heap.size, 5, none⟩ = some (.int .i64 a.bg) := Blk.cell HKS.out 5
                have c6 : wS.cell? ⟨wr.heap.size, 6, none⟩ = some (.int .i64 a.flags) := Blk.cell HKS.out 6
                go_wp2_with fail
                refine (HBK.out _).mono ?_; rintro e wT ⟨rfl, hbT⟩
                have HBT := Lib.hid (HBS.out.trans (hbT.mono HBS.out.size))
                have HKT := Lib.hid (Blk.kept HKS.out hbT)
                have HCT := Lib.hid (HCS.out.kept hbT)
                clear hbT
                clear c2 c4 c5 c6
                have c2 : wT.cell? ⟨wr.heap.size, 2, none⟩ = some (.int .i64 nn) := Blk.cell HKT.out 2
                have c4 : wT.cell? ⟨wr.heap.size, 4, none⟩ = some (.int .i64 a.fg) := Blk.cell HKT.out 4
                have c5 : wT.cell? ⟨wr.heap.size, 5, none⟩ = some (.int .i64 a.bg) := Blk.cell HKT.out 5
                have c6 : wT.cell? ⟨wr.heap.size, 6, none⟩ = some (.int .i64 a.flags) := Blk.cell HKT.out 6
                go_wp2_with fail
                refine (HBTN.out _).mono ?_; rintro e wn ⟨rfl, rfl⟩
                clear c2 c4 c5 c6
                go_wp2_with fail
                refine (num_eq _ _).mono ?_; rintro e wn ⟨rfl, rfl⟩
                go_wp2_with fail
                go_roundw
                case rel => exact ⟨k + 1, ms, by omega, by go_num, HCT, HLS, HBDS, HBT⟩
                case measure => simp [intOf]; omega
          · have hmi : (k : Int).tmod 2 = 1 := by rw [Int.tmod_eq_emod_of_nonneg (by omega)]; omega
            clear hm2 hls
            by_cases hn1 : 1 ≤ nn ∧ nn ≤ 40
            · by_cases hatt : attrOk a = true
              · obtain ⟨n, rfl⟩ := Int.eq_ofNat_of_zero_le (show 0 ≤ nn by omega)
                have HBK := Lib.hid (fun w' => rowBlank_fits n a w' (by omega) (by omega) hatt)
                have HBTN := Lib.hid (fun w' => btw_at (n : Int) 1 40 true (rng_yes hn1.1 hn1.2) w')
                have HAT := Lib.hid (fun w' => attr_at a true hatt w')
                have HRB := Lib.hid (fun w' => refBlank_any n a w' (by omega))
                have HEQ := Lib.hid (fun w' u v (k1 : Cs w' u (List.replicate n (blank a))) (k2 : Cs w' v (List.replicate n (blank a))) => eq_below (List.replicate n (blank a)) u v w' k1 k2 (by rw [List.length_replicate]; omega))
                clear hn1 hatt
                have hba : Below wr.heap.size wr (wr.alloc (.cells #[.int .i64 d, .int .i64 at_, .int .i64 (n : Nat), .int .i64 rr, .int .i64 a.fg, .int .i64 a.bg, .int .i64 a.flags] 35)) := (Below.refl _ _).alloc (Nat.le_refl _) _
                have hka : (wr.alloc (.cells #[.int .i64 d, .int .i64 at_, .int .i64 (n : Nat), .int .i64 rr, .int .i64 a.fg, .int .i64 a.bg, .int .i64 a.flags] 35)).heap[wr.heap.size]? = some (.cells #[.int .i64 d, .int .i64 at_, .int .i64 (n : Nat), .int .i64 rr, .int .i64 a.fg, .int .i64 a.bg, .int .i64 a.flags] 35 (0, 0)) := heap_alloc_new _ _
                have HBW := Lib.hid (HBL.out.trans (hba.mono HBL.out.size))
                have HKW := Lib.hid hka
                have HCW := Lib.hid (HOW.out.kept hba)
                have HTW := Lib.hid (HTR.out.kept hba)
                clear hba hka
                go_wp2_with fail
                refine (HST.out _ at_ HCW.out HTW.out).mono ?_; rintro e wS ⟨vS, ms, rfl, hcS, hlS, hbS, hwS⟩
                clear a0 a1 a2 a3 a4 a5 a6
                have HBS := Lib.hid (HBW.out.trans (hwS.mono HBW.out.size))
                have HKS := Lib.hid (Blk.kept HKW.out hwS)
                have HCS := Lib.hid hcS
                have HLS : Hid (ms.length = l.length) := Lib.hid (by have := HLN.out; omega)
                have HBDS := Lib.hid hbS
                clear hcS hlS hbS hwS
                have c2 : wS.cell? ⟨wr.heap.size, 2, none⟩ = some (.int .i64 (n : Nat)) := Blk.cell HKS.out 2
                have c4 : wS.cell? ⟨wr.heap.size, 4, none⟩ = some (.int .i64 a.fg) := Blk.cell HKS.out 4
                have c5 : wS.cell? ⟨wr.heap.size, 5, none⟩ = some (.int .i64 a.bg) := Blk.cell HKS.out 5
                have c6 : wS.cell? ⟨wr.heap.size, 6, none⟩ = some (.int .i64 a.flags) := Blk.cell HKS.out 6
                go_wp2_with fail
                refine (HBK.out _).mono ?_; rintro e wT ⟨vb, rfl, hob, hbT⟩
                have HBT := Lib.hid (HBS.out.trans (hbT.mono HBS.out.size))
                have HKT := Lib.hid (Blk.kept HKS.out hbT)
                have HCT := Lib.hid (HCS.out.kept hbT)
                have HOT := Lib.hid hob.cs
                clear hob
                clear hbT
                clear c2 c4 c5 c6
                have c2 : wT.cell? ⟨wr.heap.size, 2, none⟩ = some (.int .i64 (n : Nat)) := Blk.cell HKT.out 2
                have c4 : wT.cell? ⟨wr.heap.size, 4, none⟩ = some (.int .i64 a.fg) := Blk.cell HKT.out 4
                have c5 : wT.cell? ⟨wr.heap.size, 5, none⟩ = some (.int .i64 a.bg) := Blk.cell HKT.out 5
                have c6 : wT.cell? ⟨wr.heap.size, 6, none⟩ = some (.int .i64 a.flags) := Blk.cell HKT.out 6
                go_wp2_with fail
                refine (HBTN.out _).mono ?_; rintro e wn ⟨rfl, rfl⟩
                go_wp2_with fail
                refine (HAT.out _).mono ?_; rintro e wU ⟨rfl, hbU⟩
                have HBU := Lib.hid (HBT.out.trans (hbU.mono HBT.out.size))
                have HKU := Lib.hid (Blk.kept HKT.out hbU)
                have HCU := Lib.hid (HCT.out.kept hbU)
                have HOU := Lib.hid (HOT.out.kept hbU)
                clear hbU
                clear c2 c4 c5 c6
                have c2 : wU.cell? ⟨wr.heap.size, 2, none⟩ = some (.int .i64 (n : Nat)) := Blk.cell HKU.out 2
                have c4 : wU.cell? ⟨wr.heap.size, 4, none⟩ = some (.int .i64 a.fg) := Blk.cell HKU.out 4
                have c5 : wU.cell? ⟨wr.heap.size, 5, none⟩ = some (.int .i64 a.bg) := Blk.cell HKU.out 5
                have c6 : wU.cell? ⟨wr.heap.size, 6, none⟩ = some (.int .i64 a.flags) := Blk.cell HKU.out 6
                go_wp2_with fail
                refine (num_eq _ _).mono ?_; rintro e wn ⟨rfl, rfl⟩
                go_wp2_with fail
                refine (HRB.out _).mono ?_; rintro e wV ⟨vq, rfl, hoq, hbV⟩
                have HBV := Lib.hid (HBU.out.trans (hbV.mono HBU.out.size))
                have HKV := Lib.hid (Blk.kept HKU.out hbV)
                have HCV := Lib.hid (HCU.out.kept hbV)
                have HOV := Lib.hid (HOU.out.kept hbV)
                have HQV := Lib.hid hoq.cs
                clear hoq
                clear hbV
                clear c2 c4 c5 c6
                go_wp2_with fail
                refine (HEQ.out _ _ _ HOV.out HQV.out).mono ?_; rintro e wW ⟨rfl, hbW⟩
                have HBW := Lib.hid (HBV.out.trans (hbW.mono HBV.out.size))
                have HKW := Lib.hid (Blk.kept HKV.out hbW)
                have HCW := Lib.hid (HCV.out.kept hbW)
                clear hbW
                go_wp2_with fail
                go_roundw
                case rel => exact ⟨k + 1, ms, by omega, by go_num, HCW, HLS, HBDS, HBW⟩
                case measure => simp [intOf]; omega
              · have hatf : attrOk a = false := by simpa using hatt
                have HBK := Lib.hid (fun w' => rowBlank_no nn a w' (fun h => hatt h.2))
                have HBTN := Lib.hid (fun w' => btw_at nn 1 40 true (rng_yes hn1.1 hn1.2) w')
                have HAT := Lib.hid (fun w' => attr_at a false hatf w')
                clear hn1 hatt hatf
                have hba : Below wr.heap.size wr (wr.alloc (.cells #[.int .i64 d, .int .i64 at_, .int .i64 nn, .int .i64 rr, .int .i64 a.fg, .int .i64 a.bg, .int .i64 a.flags] 35)) := (Below.refl _ _).alloc (Nat.le_refl _) _
                have hka : (wr.alloc (.cells #[.int .i64 d, .int .i64 at_, .int .i64 nn, .int .i64 rr, .int .i64 a.fg, .int .i64 a.bg, .int .i64 a.flags] 35)).heap[wr.heap.size]? = some (.cells #[.int .i64 d, .int .i64 at_, .int .i64 nn, .int .i64 rr, .int .i64 a.fg, .int .i64 a.bg, .int .i64 a.flags] 35 (0, 0)) := heap_alloc_new _ _
                have HBW := Lib.hid (HBL.out.trans (hba.mono HBL.out.size))
                have HKW := Lib.hid hka
                have HCW := Lib.hid (HOW.out.kept hba)
                have HTW := Lib.hid (HTR.out.kept hba)
                clear hba hka
                go_wp2_with fail
                refine (HST.out _ at_ HCW.out HTW.out).mono ?_; rintro e wS ⟨vS, ms, rfl, hcS, hlS, hbS, hwS⟩
                clear a0 a1 a2 a3 a4 a5 a6
                have HBS := Lib.hid (HBW.out.trans (hwS.mono HBW.out.size))
                have HKS := Lib.hid (Blk.kept HKW.out hwS)
                have HCS := Lib.hid hcS
                have HLS : Hid (ms.length = l.length) := Lib.hid (by have := HLN.out; omega)
                have HBDS := Lib.hid hbS
                clear hcS hlS hbS hwS
                have c2 : wS.cell? ⟨wr.heap.size, 2, none⟩ = some (.int .i64 nn) := Blk.cell HKS.out 2
                have c4 : wS.cell? ⟨wr.heap.size, 4, none⟩ = some (.int .i64 a.fg) := Blk.cell HKS.out 4
                have c5 : wS.cell? ⟨wr.heap.size, 5, none⟩ = some (.int .i64 a.bg) := Blk.cell HKS.out 5
                have c6 : wS.cell? ⟨wr.heap.size, 6, none⟩ = some (.int .i64 a.flags) := Blk.cell HKS.out 6
                go_wp2_with fail
                refine (HBK.out _).mono ?_; rintro e wT ⟨rfl, hbT⟩
                have HBT := Lib.hid (HBS.out.trans (hbT.mono HBS.out.size))
                have HKT := Lib.hid (Blk.kept HKS.out hbT)
                have HCT := Lib.hid (HCS.out.kept hbT)
                clear hbT
                clear c2 c4 c5 c6
                have c2 : wT.cell? ⟨wr.heap.size, 2, none⟩ = some (.int .i64 nn) := Blk.cell HKT.out 2
                have c4 : wT.cell? ⟨wr.heap.size, 4, none⟩ = some (.int .i64 a.fg) := Blk.cell HKT.out 4
                have c5 : wT.cell? ⟨wr.heap.size, 5, none⟩ = some (.int .i64 a.bg) := Blk.cell HKT.out 5
                have c6 : wT.cell? ⟨wr.heap.size, 6, none⟩ = some (.int .i64 a.flags) := Blk.cell HKT.out 6
                go_wp2_with fail
                refine (HBTN.out _).mono ?_; rintro e wn ⟨rfl, rfl⟩
                go_wp2_with fail
                refine (HAT.out _).mono ?_; rintro e wU ⟨rfl, hbU⟩
                have HBU := Lib.hid (HBT.out.trans (hbU.mono HBT.out.size))
                have HKU := Lib.hid (Blk.kept HKT.out hbU)
                have HCU := Lib.hid (HCT.out.kept hbU)
                clear hbU
                clear c2 c4 c5 c6
                go_wp2_with fail
                refine (num_eq _ _).mono ?_; rintro e wn ⟨rfl, rfl⟩
                go_wp2_with fail
                go_roundw
                case rel => exact ⟨k + 1, ms, by omega, by go_num, HCU, HLS, HBDS, HBU⟩
                case measure => simp [intOf]; omega
            · have HBK := Lib.hid (fun w' => rowBlank_no nn a w' (fun h => hn1 h.1))
              have HBTN := Lib.hid (fun w' => btw_at nn 1 40 false (rng_no hn1) w')
              clear hn1
              have hba : Below wr.heap.size wr (wr.alloc (.cells #[.int .i64 d, .int .i64 at_, .int .i64 nn, .int .i64 rr, .int .i64 a.fg, .int .i64 a.bg, .int .i64 a.flags] 35)) := (Below.refl _ _).alloc (Nat.le_refl _) _
              have hka : (wr.alloc (.cells #[.int .i64 d, .int .i64 at_, .int .i64 nn, .int .i64 rr, .int .i64 a.fg, .int .i64 a.bg, .int .i64 a.flags] 35)).heap[wr.heap.size]? = some (.cells #[.int .i64 d, .int .i64 at_, .int .i64 nn, .int .i64 rr, .int .i64 a.fg, .int .i64 a.bg, .int .i64 a.flags] 35 (0, 0)) := heap_alloc_new _ _
              have HBW := Lib.hid (HBL.out.trans (hba.mono HBL.out.size))
              have HKW := Lib.hid hka
              have HCW := Lib.hid (HOW.out.kept hba)
              have HTW := Lib.hid (HTR.out.kept hba)
              clear hba hka
              go_wp2_with fail
              refine (HST.out _ at_ HCW.out HTW.out).mono ?_; rintro e wS ⟨vS, ms, rfl, hcS, hlS, hbS, hwS⟩
              clear a0 a1 a2 a3 a4 a5 a6
              have HBS := Lib.hid (HBW.out.trans (hwS.mono HBW.out.size))
              have HKS := Lib.hid (Blk.kept HKW.out hwS)
              have HCS := Lib.hid hcS
              have HLS : Hid (ms.length = l.length) := Lib.hid (by have := HLN.out; omega)
              have HBDS := Lib.hid hbS
              clear hcS hlS hbS hwS
              have c2 : wS.cell? ⟨wr.heap.size, 2, none⟩ = some (.int .i64 nn) := Blk.cell HKS.out 2
              have c4 : wS.cell? ⟨wr.heap.size, 4, none⟩ = some (.int .i64 a.fg) := Blk.cell HKS.out 4
              have c5 : wS.cell? ⟨wr.heap.size, 5, none⟩ = some (.int .i64 a.bg) := Blk.cell HKS.out 5
              have c6 : wS.cell? ⟨wr.heap.size, 6, none⟩ = some (.int .i64 a.flags) := Blk.cell HKS.out 6
              go_wp2_with fail
              refine (HBK.out _).mono ?_; rintro e wT ⟨rfl, hbT⟩
              have HBT := Lib.hid (HBS.out.trans (hbT.mono HBS.out.size))
              have HKT := Lib.hid (Blk.kept HKS.out hbT)
              have HCT := Lib.hid (HCS.out.kept hbT)
              clear hbT
              clear c2 c4 c5 c6
              have c2 : wT.cell? ⟨wr.heap.size, 2, none⟩ = some (.int .i64 nn) := Blk.cell HKT.out 2
              have c4 : wT.cell? ⟨wr.heap.size, 4, none⟩ = some (.int .i64 a.fg) := Blk.cell HKT.out 4
              have c5 : wT.cell? ⟨wr.heap.size, 5, none⟩ = some (.int .i64 a.bg) := Blk.cell HKT.out 5
              have c6 : wT.cell? ⟨wr.heap.size, 6, none⟩ = some (.int .i64 a.flags) := Blk.cell HKT.out 6
              go_wp2_with fail
              refine (HBTN.out _).mono ?_; rintro e wn ⟨rfl, rfl⟩
              clear c2 c4 c5 c6
              go_wp2_with fail
              refine (num_eq _ _).mono ?_; rintro e wn ⟨rfl, rfl⟩
              go_wp2_with fail
              go_roundw
              case rel => exact ⟨k + 1, ms, by omega, by go_num, HCT, HLS, HBDS, HBT⟩
              case measure => simp [intOf]; omega
        · have h8b : decide ((k : Int) < 8) = false := decide_eq_false (by omega)
          clear hkk
          go_wp2_with fail
          refine (wakes_any _).mono ?_; rintro e wZ ⟨rfl, hbZ⟩
          have HBZ : Hid (Below w.heap.size w wZ) := Lib.hid ((HB4.out.trans (HBL.out.mono HB4.out.size)).trans (hbZ.mono (Nat.le_trans HB4.out.size HBL.out.size)))
          clear hbZ
          go_wp2_with fail
          go_ret
          exact ⟨rfl, HBZ.out⟩
      · clear hkk
        go_wp2_with fail
        refine (wakes_any _).mono ?_; rintro e wZ ⟨rfl, hbZ⟩
        have HBZ : Hid (Below w.heap.size w wZ) := Lib.hid ((HB4.out.trans (HBL.out.mono HB4.out.size)).trans (hbZ.mono (Nat.le_trans HB4.out.size HBL.out.size)))
        clear hbZ
        go_wp2_with fail
        go_ret
        exact ⟨rfl, HBZ.out⟩
end Row
end Go.Proofs.YtchdkgmednoobaaDoor
