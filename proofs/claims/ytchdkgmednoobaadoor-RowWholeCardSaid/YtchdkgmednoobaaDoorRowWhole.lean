/- The law on whole rows: whatever is done to a row, it may be. -/
import Derived.Test.YtchdkgmednoobaaDoorRowLawW
import Derived.Deep.RegionLaw
namespace Go.Proofs.YtchdkgmednoobaaDoor
set_option maxRecDepth 100000
open Go.RowKit
namespace Row
open Utf Wid

set_option maxHeartbeats 12000000 in
theorem lawWhole_any {x y : Value} (l : List Cl) (t : List ActL) (w : World) (hx : Cs w x l) (hy : Acts w y t) (hn : l.length ≤ 140737488355328) (hm : t.length ≤ 140737488355328) (hh : Held l) (hT : Tabs w) :
    Calls Tryd.prog 3 #[.agg #[x, y]] w fun e w' => e = .returned (.bool true) ∧ Below w.heap.size w w' := by
  have HX := Lib.hid hx
  have HY := Lib.hid hy
  have HT := Lib.hid hT
  have HHV := Lib.hid (fun w' (h1 : Cs w' x l) (h2 : Acts w' y t) => heavy_any l t w' h1 h2 hn hm)
  obtain ⟨A, c, rfl, _⟩ := hx.form
  obtain ⟨A', c', rfl, hact⟩ := hy.form
  have HA := Lib.hid hact
  have HB1 : Hid (Below w.heap.size w (w.alloc (.cells #[.slice A l.length c, .slice A' t.length c'] 25))) := Lib.hid ((Below.refl _ _).alloc (Nat.le_refl _) _)
  have HK1 : Hid ((w.alloc (.cells #[.slice A l.length c, .slice A' t.length c'] 25)).heap[w.heap.size]? = some (.cells #[.slice A l.length c, .slice A' t.length c'] 25 (0, 0))) := Lib.hid (heap_alloc_new _ _)
  have HHD := Lib.hid hh
  clear hx hy hact hT hh
  by_cases hr : RowOk l
  · have HR := Lib.hid hr
    have hl40 : 1 ≤ l.length ∧ l.length ≤ 40 := ⟨hr.1, hr.2.1⟩
    have HCK := Lib.hid (fun w' (h : Cs w' (.slice A l.length c) l) => rowCheck_any l true (.slice A l.length c) w' h HHD.out (by omega) ⟨fun _ => hr, fun _ => rfl⟩)
    have HCC := Lib.hid (fun w' (h : Cs w' (.slice A l.length c) l) => copyCells_any l (.slice A l.length c) w' h (by omega))
    clear hr
    go_enter Tryd.func3, Tryd.ntmps3
    go_wp2_with fail
    refine (HHV.out _ (HX.out.kept HB1.out) (HY.out.kept HB1.out)).mono ?_; rintro e w2 ⟨b, rfl, hq, hb2⟩
    have HB2 : Hid (Below w.heap.size w w2) := Lib.hid (HB1.out.trans (hb2.mono HB1.out.size))
    have hk2 := Blk.kept HK1.out hb2
    have HK2 := Lib.hid hk2
    clear hb2
    cases b with
    | true =>
      clear hk2 hq
      go_wp2_with fail
      go_ret
      exact ⟨rfl, HB2.out⟩
    | false =>
      obtain ⟨hl2, ht2⟩ := hq rfl
      have c0 : w2.cell? ⟨w.heap.size, 0, none⟩ = some (.slice A l.length c) := Blk.cell hk2 0
      have c1 : w2.cell? ⟨w.heap.size, 1, none⟩ = some (.slice A' t.length c') := Blk.cell hk2 1
      clear hk2 hq
      go_wp2_with fail
      refine (HCK.out _ (HX.out.kept HB2.out)).mono ?_; rintro e w3 ⟨rfl, hb3⟩
      have HB3 : Hid (Below w.heap.size w w3) := Lib.hid (HB2.out.trans (hb3.mono HB2.out.size))
      have HK3 := Lib.hid (Blk.kept HK2.out hb3)
      clear hb3 c0 c1
      have c0 : w3.cell? ⟨w.heap.size, 0, none⟩ = some (.slice A l.length c) := Blk.cell HK3.out 0
      go_wp2_with fail
      refine (num_eq _ _).mono ?_; rintro e wn ⟨rfl, rfl⟩
      go_wp2_with fail
      refine (HCC.out _ (HX.out.kept HB3.out)).mono ?_; rintro e w4 ⟨v4, rfl, ho4, hb4⟩
      have HO4 : Hid (OwnCs w4 w.heap.size v4 l) := Lib.hid (ho4.low HB3.out.size)
      have HB4 : Hid (Below w.heap.size w w4) := Lib.hid (HB3.out.trans (hb4.mono HB3.out.size))
      have HK4 := Lib.hid (Blk.kept HK3.out hb4)
      clear ho4 hb4 c0
      go_wp2_with fail
      have hb45 : Below w4.heap.size w4 (w4.alloc (.cells #[.int .i64 (-1), .int .i64 3, .int .i64 0] 32)) := (Below.refl _ _).alloc (Nat.le_refl _) _
      have HB5 : Hid (Below w.heap.size w (w4.alloc (.cells #[.int .i64 (-1), .int .i64 3, .int .i64 0] 32))) := Lib.hid (HB4.out.trans (hb45.mono HB4.out.size))
      have HO5 := Lib.hid (HO4.out.kept hb45)
      have HK5 := Lib.hid (Blk.kept HK4.out hb45)
      have HG5 : Hid ((w4.alloc (.cells #[.int .i64 (-1), .int .i64 3, .int .i64 0] 32)).heap[w4.heap.size]? = some (.cells #[.int .i64 (-1), .int .i64 3, .int .i64 0] 32 (0, 0))) := Lib.hid (heap_alloc_new _ _)
      generalize w4.heap.size = g5 at HG5 ⊢
      generalize w4.alloc (.cells #[.int .i64 (-1), .int .i64 3, .int .i64 0] 32) = w5 at HB5 HO5 HK5 HG5 ⊢
      clear hb45
      go_loopw [3, 5] (fun v i wr => ∃ (k : Nat) (ls : List Cl), k ≤ 8 ∧ i = .int .i64 k ∧ Hid (OwnCs wr w.heap.size v ls) ∧ Hid (RowOk ls) ∧ Hid (Below w5.heap.size w5 wr)) (fun _ i _ => 8 - (intOf i).toNat)
      case atStart => exact ⟨0, l, by omega, rfl, HO5, HR, Lib.hid (Below.refl _ _)⟩
      case round =>
        obtain ⟨k, ls, hk, rfl, HOW, HLS, HBL⟩ := hrel
        have hkk := Blk.kept HK5.out HBL.out
        have hgg := Blk.kept HG5.out HBL.out
        have c1 : wr.cell? ⟨w.heap.size, 1, none⟩ = some (.slice A' t.length c') := Blk.cell hkk 1
        have zk := Blk.lt hkk
        have zg := Blk.lt hgg
        have HTR := Lib.hid (HT.out.kept (HB5.out.trans (HBL.out.mono HB5.out.size)))
        obtain ⟨B, bc, e1, _⟩ := HOW.out.cs.form
        subst e1
        by_cases hlt : k < t.length
        · by_cases h8 : k < 8
          · obtain ⟨ad, e1, hat⟩ := HA.out k hlt
            subst e1
            have hat := hat.kept (HB5.out.trans (HBL.out.mono HB5.out.size))
            have q0 : wr.cell? ⟨g5, 0, none⟩ = some (.int .i64 (-1)) := Blk.cell hgg 0
            have q1 : wr.cell? ⟨g5, 1, none⟩ = some (.int .i64 3) := Blk.cell hgg 1
            have q2 : wr.cell? ⟨g5, 2, none⟩ = some (.int .i64 0) := Blk.cell hgg 2
            clear hkk hgg
            generalize t.getD k noAct = act at hat
            obtain ⟨doo, at_, nn, rr, ⟨f1, f2, f3⟩⟩ := act
            have a0 := hat.head
            have a1 := hat.next 0 rfl
            have a2 := hat.next 1 rfl
            clear hat
            have hls1 := HLS.out.1
            have hls2 := HLS.out.2.1
            have HW1 := Lib.hid (fun w' => lawWithin_any at_ ls.length (by omega) (by omega) w')
            have HW2 := Lib.hid (fun w' => lawWithin_any nn (ls.length + 2) (by omega) (by omega) w')
            have HW3 := Lib.hid (fun w' => lawWithin_any doo 4 (by omega) (by omega) w')
            have hp := wi_lt at_ (n := ls.length) (by omega)
            have hmm := wi_lt nn (n := ls.length + 2) (by omega)
            have hdd := wi_lt doo (n := 4) (by omega)
            have hwrapn : IntKind.i64.wrap ((ls.length : Int) + 2) = ((ls.length + 2 : Nat) : Int) := by rw [IntKind.wrap_i64]; omega
            have HW3 : Hid (∀ w', Calls Tryd.prog 10 #[.int .i64 doo, .int .i64 4] w' fun e w'' => e = .returned (.int .i64 (wi doo 4)) ∧ w' = w'') := HW3
            generalize wi at_ ls.length = p at HW1 hp
            generalize wi nn (ls.length + 2) = m at HW2 hmm
            generalize wi doo 4 = d at HW3 hdd
            obtain ⟨ln2, hln2⟩ : ∃ q, ls.length + 2 = q := ⟨_, rfl⟩
            rw [hln2] at hwrapn HW2
            have HLN2 := Lib.hid hln2
            clear hln2
            rcases (by omega : d = 0 ∨ d = 1 ∨ d = 2 ∨ d = 3) with rfl | rfl | rfl | rfl
            · go_wp2_with fail
              refine (HW1.out _).mono ?_; rintro e wn ⟨rfl, rfl⟩
              go_wp2_with fail
              refine (HW2.out _).mono ?_; rintro e wn ⟨rfl, rfl⟩
              go_wp2_with fail
              refine (HW3.out _).mono ?_; rintro e wn ⟨rfl, rfl⟩
              clear a0 a1 a2
              rcases (by omega : k % 2 = 0 ∨ k % 2 = 1) with hm2 | hm2
              · have hmi : (k : Int).tmod 2 = 0 := by rw [Int.tmod_eq_emod_of_nonneg (by omega)]; omega
                clear hm2
                have hwr : wid 97 = ((1 : Nat) : Int) := by decide
                have hfit : p + 1 ≤ ls.length := by omega
                have HCALL := Lib.hid (fun w' (h : Cs w' (.slice B ls.length bc) ls) => put_fits ls (⟨-1, 3, 0⟩ : Look) p 1 97 (.slice B ls.length bc) w' h HLS.out.held (by have := HLS.out.2.1; omega) HLS.out (by decide) hwr (by decide) hfit)
                have hcl : (cellsOf 97 (⟨-1, 3, 0⟩ : Look)).length = 1 := by decide
                have hres : RowOk (mid ls p (p + 1) (cellsOf 97 (⟨-1, 3, 0⟩ : Look))) ∧ (mid ls p (p + 1) (cellsOf 97 (⟨-1, 3, 0⟩ : Look))).length = ls.length := by
                  have h := putOk (r := 97) (a := (⟨-1, 3, 0⟩ : Look)) HLS.out (by decide) (by decide) (p := p) (by rw [hcl]; exact hfit)
                  have hm := mid_length (l := ls) (low := p) (high := p + 1) (by omega) hfit (cellsOf 97 (⟨-1, 3, 0⟩ : Look))
                  rw [hcl] at h hm
                  exact ⟨h, by omega⟩
                have HCALL : Hid (∀ w', Cs w' (.slice B ls.length bc) ls → Calls Tryd.prog 11 #[.slice B ls.length bc, .int .i64 p, .int .i64 97, .agg #[.int .i64 (-1), .int .i64 3, .int .i64 0]] w' fun e w'' => ∃ v, e = .returned (.tuple #[v, .int .i64 0]) ∧ OwnCs w'' w'.heap.size v (mid ls p (p + 1) (cellsOf 97 (⟨-1, 3, 0⟩ : Look))) ∧ Below w'.heap.size w' w'') := HCALL
                generalize mid ls p (p + 1) (cellsOf 97 (⟨-1, 3, 0⟩ : Look)) = res at hres HCALL
                clear hcl hwr hfit
                have HCW : Hid (∀ w', Below wr.heap.size wr w' → Calls Tryd.prog 11 #[.slice B ls.length bc, .int .i64 p, .int .i64 97, .agg #[.int .i64 (-1), .int .i64 3, .int .i64 0]] w' fun e w'' => ∃ v, e = .returned (.tuple #[v, .int .i64 0]) ∧ OwnCs w'' wr.heap.size v res ∧ Below wr.heap.size wr w'') := Lib.hid fun w' hb => (HCALL.out _ (HOW.out.cs.kept hb)).mono fun e w'' ⟨v, h1, h2, h3⟩ => ⟨v, h1, h2.low hb.size, hb.trans (h3.mono hb.size)⟩
                go_wp2_with fail
                go_region_law (first
                  | (go_simp; go_at_call 11; refine (HCW.out _ ((Below.refl _ _).drew.alloc (Nat.le_refl _) _)).mono ?_; rintro e wA ⟨vr, rfl, hoA, hbA⟩))
                all_goals
                  go_simp
                  have HRO := Lib.hid (show RowOk res ∧ res.length = ls.length from hres)
                  have HBA : Hid (Below w5.heap.size w5 wA) := Lib.hid (HBL.out.trans (hbA.mono HBL.out.size))
                  have HOA : Hid (OwnCs wA w.heap.size vr res) := Lib.hid (hoA.low (Nat.le_trans HB5.out.size HBL.out.size))
                  have HOL := Lib.hid (HOW.out.kept hbA)
                  have HTA := Lib.hid (HTR.out.kept hbA)
                  clear hres hbA hoA
                  obtain ⟨RA, rc, e1, _⟩ := HOA.out.cs.form
                  have hrl : res.length = ls.length := HRO.out.2
                  rw [hrl] at e1
                  subst e1
                  have HCK := Lib.hid (rowCheck_any res true (.slice RA ls.length rc) wA HOA.out.cs HRO.out.1.held (by have := HRO.out.1.2.1; omega) ⟨fun _ => HRO.out.1, fun _ => rfl⟩)
                  have HRW := Lib.hid (fun w' (h : Cs w' (.slice RA ls.length rc) res) (hT : Tabs w') => refRow_any res true (.slice RA ls.length rc) w' h HRO.out.1.short hT (by have := HRO.out.1.2.1; omega) ⟨fun _ => HRO.out.1, fun _ => rfl⟩)
                  have HCC := Lib.hid (fun w' (h : Cs w' (.slice RA ls.length rc) res) => copyCells_any res (.slice RA ls.length rc) w' h (by have := HRO.out.1.2.1; omega))
                  clear hrl
                  go_wp2_with fail
                  refine (num_eq _ _).mono ?_; rintro e wn ⟨rfl, rfl⟩
                  go_wp2_with fail
                  refine (num_eq _ _).mono ?_; rintro e wn ⟨rfl, rfl⟩
                  go_wp2_with fail
                  refine HCK.out.mono ?_; rintro e wB ⟨rfl, hbB⟩
                  have HBB : Hid (Below w5.heap.size w5 wB) := Lib.hid (HBA.out.trans (hbB.mono HBA.out.size))
                  have HOB := Lib.hid (HOA.out.kept hbB)
                  have HTB := Lib.hid (HTA.out.kept hbB)
                  clear hbB
                  go_wp2_with fail
                  refine (num_eq _ _).mono ?_; rintro e wn ⟨rfl, rfl⟩
                  go_wp2_with fail
                  refine (HRW.out _ HOB.out.cs HTB.out).mono ?_; rintro e wC ⟨rfl, hbC⟩
                  have HBC : Hid (Below w5.heap.size w5 wC) := Lib.hid (HBB.out.trans (hbC.mono HBB.out.size))
                  have HOC := Lib.hid (HOB.out.kept hbC)
                  clear hbC
                  go_wp2_with fail
                  refine (HCC.out _ HOC.out.cs).mono ?_; rintro e wD ⟨vD, rfl, hoD, hbD⟩
                  have HOD : Hid (OwnCs wD w.heap.size vD res) := Lib.hid (hoD.low (Nat.le_trans HB5.out.size HBC.out.size))
                  have HBD : Hid (Below w5.heap.size w5 wD) := Lib.hid (HBC.out.trans (hbD.mono HBC.out.size))
                  clear hoD hbD
                  go_wp2_with fail
                  go_roundw
                  case rel => exact ⟨k + 1, res, by omega, by go_num, HOD, Lib.hid HRO.out.1, HBD⟩
                  case measure => simp [intOf]; omega
              · have hmi : (k : Int).tmod 2 = 1 := by rw [Int.tmod_eq_emod_of_nonneg (by omega)]; omega
                clear hm2
                have hwr : wid 19968 = ((2 : Nat) : Int) := by decide
                by_cases hfit : p + 2 ≤ ls.length
                · have HCALL := Lib.hid (fun w' (h : Cs w' (.slice B ls.length bc) ls) => put_fits ls (⟨-1, 3, 0⟩ : Look) p 2 19968 (.slice B ls.length bc) w' h HLS.out.held (by have := HLS.out.2.1; omega) HLS.out (by decide) hwr (by decide) hfit)
                  have hcl : (cellsOf 19968 (⟨-1, 3, 0⟩ : Look)).length = 2 := by decide
                  have hres : RowOk (mid ls p (p + 2) (cellsOf 19968 (⟨-1, 3, 0⟩ : Look))) ∧ (mid ls p (p + 2) (cellsOf 19968 (⟨-1, 3, 0⟩ : Look))).length = ls.length := by
                    have h := putOk (r := 19968) (a := (⟨-1, 3, 0⟩ : Look)) HLS.out (by decide) (by decide) (p := p) (by rw [hcl]; exact hfit)
                    have hm := mid_length (l := ls) (low := p) (high := p + 2) (by omega) hfit (cellsOf 19968 (⟨-1, 3, 0⟩ : Look))
                    rw [hcl] at h hm
                    exact ⟨h, by omega⟩
                  have HCALL : Hid (∀ w', Cs w' (.slice B ls.length bc) ls → Calls Tryd.prog 11 #[.slice B ls.length bc, .int .i64 p, .int .i64 19968, .agg #[.int .i64 (-1), .int .i64 3, .int .i64 0]] w' fun e w'' => ∃ v, e = .returned (.tuple #[v, .int .i64 0]) ∧ OwnCs w'' w'.heap.size v (mid ls p (p + 2) (cellsOf 19968 (⟨-1, 3, 0⟩ : Look))) ∧ Below w'.heap.size w' w'') := HCALL
                  generalize mid ls p (p + 2) (cellsOf 19968 (⟨-1, 3, 0⟩ : Look)) = res at hres HCALL
                  clear hcl hwr hfit
                  have HCW : Hid (∀ w', Below wr.heap.size wr w' → Calls Tryd.prog 11 #[.slice B ls.length bc, .int .i64 p, .int .i64 19968, .agg #[.int .i64 (-1), .int .i64 3, .int .i64 0]] w' fun e w'' => ∃ v, e = .returned (.tuple #[v, .int .i64 0]) ∧ OwnCs w'' wr.heap.size v res ∧ Below wr.heap.size wr w'') := Lib.hid fun w' hb => (HCALL.out _ (HOW.out.cs.kept hb)).mono fun e w'' ⟨v, h1, h2, h3⟩ => ⟨v, h1, h2.low hb.size, hb.trans (h3.mono hb.size)⟩
                  go_wp2_with fail
                  go_region_law (first
                    | (go_simp; go_at_call 11; refine (HCW.out _ ((Below.refl _ _).drew.alloc (Nat.le_refl _) _)).mono ?_; rintro e wA ⟨vr, rfl, hoA, hbA⟩))
                  all_goals
                    go_simp
                    have HRO := Lib.hid (show RowOk res ∧ res.length = ls.length from hres)
                    have HBA : Hid (Below w5.heap.size w5 wA) := Lib.hid (HBL.out.trans (hbA.mono HBL.out.size))
                    have HOA : Hid (OwnCs wA w.heap.size vr res) := Lib.hid (hoA.low (Nat.le_trans HB5.out.size HBL.out.size))
                    have HOL := Lib.hid (HOW.out.kept hbA)
                    have HTA := Lib.hid (HTR.out.kept hbA)
                    clear hres hbA hoA
                    obtain ⟨RA, rc, e1, _⟩ := HOA.out.cs.form
                    have hrl : res.length = ls.length := HRO.out.2
                    rw [hrl] at e1
                    subst e1
                    have HCK := Lib.hid (rowCheck_any res true (.slice RA ls.length rc) wA HOA.out.cs HRO.out.1.held (by have := HRO.out.1.2.1; omega) ⟨fun _ => HRO.out.1, fun _ => rfl⟩)
                    have HRW := Lib.hid (fun w' (h : Cs w' (.slice RA ls.length rc) res) (hT : Tabs w') => refRow_any res true (.slice RA ls.length rc) w' h HRO.out.1.short hT (by have := HRO.out.1.2.1; omega) ⟨fun _ => HRO.out.1, fun _ => rfl⟩)
                    have HCC := Lib.hid (fun w' (h : Cs w' (.slice RA ls.length rc) res) => copyCells_any res (.slice RA ls.length rc) w' h (by have := HRO.out.1.2.1; omega))
                    clear hrl
                    go_wp2_with fail
                    refine (num_eq _ _).mono ?_; rintro e wn ⟨rfl, rfl⟩
                    go_wp2_with fail
                    refine (num_eq _ _).mono ?_; rintro e wn ⟨rfl, rfl⟩
                    go_wp2_with fail
                    refine HCK.out.mono ?_; rintro e wB ⟨rfl, hbB⟩
                    have HBB : Hid (Below w5.heap.size w5 wB) := Lib.hid (HBA.out.trans (hbB.mono HBA.out.size))
                    have HOB := Lib.hid (HOA.out.kept hbB)
                    have HTB := Lib.hid (HTA.out.kept hbB)
                    clear hbB
                    go_wp2_with fail
                    refine (num_eq _ _).mono ?_; rintro e wn ⟨rfl, rfl⟩
                    go_wp2_with fail
                    refine (HRW.out _ HOB.out.cs HTB.out).mono ?_; rintro e wC ⟨rfl, hbC⟩
                    have HBC : Hid (Below w5.heap.size w5 wC) := Lib.hid (HBB.out.trans (hbC.mono HBB.out.size))
                    have HOC := Lib.hid (HOB.out.kept hbC)
                    clear hbC
                    go_wp2_with fail
                    refine (HCC.out _ HOC.out.cs).mono ?_; rintro e wD ⟨vD, rfl, hoD, hbD⟩
                    have HOD : Hid (OwnCs wD w.heap.size vD res) := Lib.hid (hoD.low (Nat.le_trans HB5.out.size HBC.out.size))
                    have HBD : Hid (Below w5.heap.size w5 wD) := Lib.hid (HBC.out.trans (hbD.mono HBC.out.size))
                    clear hoD hbD
                    go_wp2_with fail
                    go_roundw
                    case rel => exact ⟨k + 1, res, by omega, by go_num, HOD, Lib.hid HRO.out.1, HBD⟩
                    case measure => simp [intOf]; omega
                · have HCALL := Lib.hid (fun w' (h : Cs w' (.slice B ls.length bc) ls) => put_full ls (⟨-1, 3, 0⟩ : Look) p 19968 (.slice B ls.length bc) w' h HLS.out.held (by have := HLS.out.2.1; omega) HLS.out (by decide) ⟨by omega, by omega⟩ (by rw [hwr]; decide) (by rw [hwr]; omega))
                  have HCALL : Hid (∀ w', Cs w' (.slice B ls.length bc) ls → Calls Tryd.prog 11 #[.slice B ls.length bc, .int .i64 p, .int .i64 19968, .agg #[.int .i64 (-1), .int .i64 3, .int .i64 0]] w' fun e w'' => e = .returned (.tuple #[.slice none 0 0, .int .i64 5]) ∧ Below w'.heap.size w' w'') := HCALL
                  clear hwr hfit
                  have HCW : Hid (∀ w', Below wr.heap.size wr w' → Calls Tryd.prog 11 #[.slice B ls.length bc, .int .i64 p, .int .i64 19968, .agg #[.int .i64 (-1), .int .i64 3, .int .i64 0]] w' fun e w'' => e = .returned (.tuple #[.slice none 0 0, .int .i64 5]) ∧ Below wr.heap.size wr w'') := Lib.hid fun w' hb => (HCALL.out _ (HOW.out.cs.kept hb)).mono fun e w'' ⟨h1, h3⟩ => ⟨h1, hb.trans (h3.mono hb.size)⟩
                  go_wp2_with fail
                  go_region_law (first
                    | (go_simp; go_at_call 11; refine (HCW.out _ ((Below.refl _ _).drew.alloc (Nat.le_refl _) _)).mono ?_; rintro e wA ⟨rfl, hbA⟩))
                  all_goals
                    go_simp
                    have HBA : Hid (Below w5.heap.size w5 wA) := Lib.hid (HBL.out.trans (hbA.mono HBL.out.size))
                    have HOL := Lib.hid (HOW.out.kept hbA)
                    clear hbA
                    go_wp2_with fail
                    refine (num_eq _ _).mono ?_; rintro e wn ⟨rfl, rfl⟩
                    go_wp2_with fail
                    go_roundw
                    case rel => exact ⟨k + 1, ls, by omega, by go_num, HOL, HLS, HBA⟩
                    case measure => simp [intOf]; omega
            · go_wp2_with fail
              refine (HW1.out _).mono ?_; rintro e wn ⟨rfl, rfl⟩
              go_wp2_with fail
              refine (HW2.out _).mono ?_; rintro e wn ⟨rfl, rfl⟩
              go_wp2_with fail
              refine (HW3.out _).mono ?_; rintro e wn ⟨rfl, rfl⟩
              clear a0 a1 a2
              have HCALL := Lib.hid (fun w' (h : Cs w' (.slice B ls.length bc) ls) => insert_fits ls (⟨-1, 3, 0⟩ : Look) p m (min m (ls.length - p)) rfl (.slice B ls.length bc) w' h HLS.out.held (by have := HLS.out.2.1; omega) HLS.out (by decide) (by omega) (by have := HLS.out.2.1; omega))
              have hres : RowOk (insertOf ls p (min m (ls.length - p)) (⟨-1, 3, 0⟩ : Look)) ∧ (insertOf ls p (min m (ls.length - p)) (⟨-1, 3, 0⟩ : Look)).length = ls.length := insertOk HLS.out (by decide) (by omega)
              have HCALL : Hid (∀ w', Cs w' (.slice B ls.length bc) ls → Calls Tryd.prog 12 #[.slice B ls.length bc, .int .i64 p, .int .i64 m, .agg #[.int .i64 (-1), .int .i64 3, .int .i64 0]] w' fun e w'' => ∃ v, e = .returned (.tuple #[v, .int .i64 0]) ∧ OwnCs w'' w'.heap.size v (insertOf ls p (min m (ls.length - p)) (⟨-1, 3, 0⟩ : Look)) ∧ Below w'.heap.size w' w'') := HCALL
              generalize hres0 : insertOf ls p (min m (ls.length - p)) (⟨-1, 3, 0⟩ : Look) = res at hres HCALL
              clear hres0
              go_wp2_with fail
              refine (HCALL.out _ HOW.out.cs).mono ?_; rintro e wA ⟨vr, rfl, hoA, hbA⟩
              have HRO := Lib.hid (show RowOk res ∧ res.length = ls.length from hres)
              have HBA : Hid (Below w5.heap.size w5 wA) := Lib.hid (HBL.out.trans (hbA.mono HBL.out.size))
              have HOA : Hid (OwnCs wA w.heap.size vr res) := Lib.hid (hoA.low (Nat.le_trans HB5.out.size HBL.out.size))
              have HOL := Lib.hid (HOW.out.kept hbA)
              have HTA := Lib.hid (HTR.out.kept hbA)
              clear hres hbA hoA
              obtain ⟨RA, rc, e1, _⟩ := HOA.out.cs.form
              have hrl : res.length = ls.length := HRO.out.2
              rw [hrl] at e1
              subst e1
              have HCK := Lib.hid (rowCheck_any res true (.slice RA ls.length rc) wA HOA.out.cs HRO.out.1.held (by have := HRO.out.1.2.1; omega) ⟨fun _ => HRO.out.1, fun _ => rfl⟩)
              have HRW := Lib.hid (fun w' (h : Cs w' (.slice RA ls.length rc) res) (hT : Tabs w') => refRow_any res true (.slice RA ls.length rc) w' h HRO.out.1.short hT (by have := HRO.out.1.2.1; omega) ⟨fun _ => HRO.out.1, fun _ => rfl⟩)
              have HCC := Lib.hid (fun w' (h : Cs w' (.slice RA ls.length rc) res) => copyCells_any res (.slice RA ls.length rc) w' h (by have := HRO.out.1.2.1; omega))
              clear hrl
              go_wp2_with fail
              refine (num_eq _ _).mono ?_; rintro e wn ⟨rfl, rfl⟩
              go_wp2_with fail
              refine (num_eq _ _).mono ?_; rintro e wn ⟨rfl, rfl⟩
              go_wp2_with fail
              refine HCK.out.mono ?_; rintro e wB ⟨rfl, hbB⟩
              have HBB : Hid (Below w5.heap.size w5 wB) := Lib.hid (HBA.out.trans (hbB.mono HBA.out.size))
              have HOB := Lib.hid (HOA.out.kept hbB)
              have HTB := Lib.hid (HTA.out.kept hbB)
              clear hbB
              go_wp2_with fail
              refine (num_eq _ _).mono ?_; rintro e wn ⟨rfl, rfl⟩
              go_wp2_with fail
              refine (HRW.out _ HOB.out.cs HTB.out).mono ?_; rintro e wC ⟨rfl, hbC⟩
              have HBC : Hid (Below w5.heap.size w5 wC) := Lib.hid (HBB.out.trans (hbC.mono HBB.out.size))
              have HOC := Lib.hid (HOB.out.kept hbC)
              clear hbC
              go_wp2_with fail
              refine (HCC.out _ HOC.out.cs).mono ?_; rintro e wD ⟨vD, rfl, hoD, hbD⟩
              have HOD : Hid (OwnCs wD w.heap.size vD res) := Lib.hid (hoD.low (Nat.le_trans HB5.out.size HBC.out.size))
              have HBD : Hid (Below w5.heap.size w5 wD) := Lib.hid (HBC.out.trans (hbD.mono HBC.out.size))
              clear hoD hbD
              go_wp2_with fail
              go_roundw
              case rel => exact ⟨k + 1, res, by omega, by go_num, HOD, Lib.hid HRO.out.1, HBD⟩
              case measure => simp [intOf]; omega
            · go_wp2_with fail
              refine (HW1.out _).mono ?_; rintro e wn ⟨rfl, rfl⟩
              go_wp2_with fail
              refine (HW2.out _).mono ?_; rintro e wn ⟨rfl, rfl⟩
              go_wp2_with fail
              refine (HW3.out _).mono ?_; rintro e wn ⟨rfl, rfl⟩
              clear a0 a1 a2
              have HCALL := Lib.hid (fun w' (h : Cs w' (.slice B ls.length bc) ls) => delete_fits ls (⟨-1, 3, 0⟩ : Look) p m (min m (ls.length - p)) rfl (.slice B ls.length bc) w' h HLS.out.held (by have := HLS.out.2.1; omega) HLS.out (by decide) (by omega) (by have := HLS.out.2.1; omega))
              have hres : RowOk (deleteOf ls p (min m (ls.length - p)) (⟨-1, 3, 0⟩ : Look)) ∧ (deleteOf ls p (min m (ls.length - p)) (⟨-1, 3, 0⟩ : Look)).length = ls.length := deleteOk HLS.out (by decide) (by omega)
              have HCALL : Hid (∀ w', Cs w' (.slice B ls.length bc) ls → Calls Tryd.prog 13 #[.slice B ls.length bc, .int .i64 p, .int .i64 m, .agg #[.int .i64 (-1), .int .i64 3, .int .i64 0]] w' fun e w'' => ∃ v, e = .returned (.tuple #[v, .int .i64 0]) ∧ OwnCs w'' w'.heap.size v (deleteOf ls p (min m (ls.length - p)) (⟨-1, 3, 0⟩ : Look)) ∧ Below w'.heap.size w' w'') := HCALL
              generalize hres0 : deleteOf ls p (min m (ls.length - p)) (⟨-1, 3, 0⟩ : Look) = res at hres HCALL
              clear hres0
              go_wp2_with fail
              refine (HCALL.out _ HOW.out.cs).mono ?_; rintro e wA ⟨vr, rfl, hoA, hbA⟩
              have HRO := Lib.hid (show RowOk res ∧ res.length = ls.length from hres)
              have HBA : Hid (Below w5.heap.size w5 wA) := Lib.hid (HBL.out.trans (hbA.mono HBL.out.size))
              have HOA : Hid (OwnCs wA w.heap.size vr res) := Lib.hid (hoA.low (Nat.le_trans HB5.out.size HBL.out.size))
              have HOL := Lib.hid (HOW.out.kept hbA)
              have HTA := Lib.hid (HTR.out.kept hbA)
              clear hres hbA hoA
              obtain ⟨RA, rc, e1, _⟩ := HOA.out.cs.form
              have hrl : res.length = ls.length := HRO.out.2
              rw [hrl] at e1
              subst e1
              have HCK := Lib.hid (rowCheck_any res true (.slice RA ls.length rc) wA HOA.out.cs HRO.out.1.held (by have := HRO.out.1.2.1; omega) ⟨fun _ => HRO.out.1, fun _ => rfl⟩)
              have HRW := Lib.hid (fun w' (h : Cs w' (.slice RA ls.length rc) res) (hT : Tabs w') => refRow_any res true (.slice RA ls.length rc) w' h HRO.out.1.short hT (by have := HRO.out.1.2.1; omega) ⟨fun _ => HRO.out.1, fun _ => rfl⟩)
              have HCC := Lib.hid (fun w' (h : Cs w' (.slice RA ls.length rc) res) => copyCells_any res (.slice RA ls.length rc) w' h (by have := HRO.out.1.2.1; omega))
              clear hrl
              go_wp2_with fail
              refine (num_eq _ _).mono ?_; rintro e wn ⟨rfl, rfl⟩
              go_wp2_with fail
              refine (num_eq _ _).mono ?_; rintro e wn ⟨rfl, rfl⟩
              go_wp2_with fail
              refine HCK.out.mono ?_; rintro e wB ⟨rfl, hbB⟩
              have HBB : Hid (Below w5.heap.size w5 wB) := Lib.hid (HBA.out.trans (hbB.mono HBA.out.size))
              have HOB := Lib.hid (HOA.out.kept hbB)
              have HTB := Lib.hid (HTA.out.kept hbB)
              clear hbB
              go_wp2_with fail
              refine (num_eq _ _).mono ?_; rintro e wn ⟨rfl, rfl⟩
              go_wp2_with fail
              refine (HRW.out _ HOB.out.cs HTB.out).mono ?_; rintro e wC ⟨rfl, hbC⟩
              have HBC : Hid (Below w5.heap.size w5 wC) := Lib.hid (HBB.out.trans (hbC.mono HBB.out.size))
              have HOC := Lib.hid (HOB.out.kept hbC)
              clear hbC
              go_wp2_with fail
              refine (HCC.out _ HOC.out.cs).mono ?_; rintro e wD ⟨vD, rfl, hoD, hbD⟩
              have HOD : Hid (OwnCs wD w.heap.size vD res) := Lib.hid (hoD.low (Nat.le_trans HB5.out.size HBC.out.size))
              have HBD : Hid (Below w5.heap.size w5 wD) := Lib.hid (HBC.out.trans (hbD.mono HBC.out.size))
              clear hoD hbD
              go_wp2_with fail
              go_roundw
              case rel => exact ⟨k + 1, res, by omega, by go_num, HOD, Lib.hid HRO.out.1, HBD⟩
              case measure => simp [intOf]; omega
            · go_wp2_with fail
              refine (HW1.out _).mono ?_; rintro e wn ⟨rfl, rfl⟩
              go_wp2_with fail
              refine (HW2.out _).mono ?_; rintro e wn ⟨rfl, rfl⟩
              go_wp2_with fail
              refine (HW3.out _).mono ?_; rintro e wn ⟨rfl, rfl⟩
              clear a0 a1 a2
              have hwrap : IntKind.i64.wrap ((p : Int) + (m : Int)) = ((p + m : Nat) : Int) := by rw [IntKind.wrap_i64]; have := HLS.out.2.1; omega
              obtain ⟨hi, hhi⟩ : ∃ hi, hi = min ls.length (p + m) := ⟨_, rfl⟩
              have hpm : p ≤ hi ∧ hi ≤ ls.length := by omega
              have hmin : min (ls.length : Int) ((p + m : Nat) : Int) = (hi : Int) := by rw [hhi]; omega
              generalize p + m = pm at hwrap hmin hhi
              have hcase : (ls.length < pm ∧ hi = ls.length) ∨ (pm ≤ ls.length ∧ hi = pm) := by omega
              clear hhi
              have HCALL := Lib.hid (fun w' (h : Cs w' (.slice B ls.length bc) ls) => erase_fits ls (⟨-1, 3, 0⟩ : Look) p hi (.slice B ls.length bc) w' h HLS.out.held (by have := HLS.out.2.1; omega) HLS.out (by decide) hpm.1 hpm.2)
              have hres : RowOk (repl ls p hi (List.replicate (hi - p) (blank (⟨-1, 3, 0⟩ : Look)))) ∧ (repl ls p hi (List.replicate (hi - p) (blank (⟨-1, 3, 0⟩ : Look)))).length = ls.length := ⟨eraseOk HLS.out (by decide) hpm.1 hpm.2, by
                have h := repl_length (l := ls) (low := p) (high := hi) hpm.1 hpm.2 (List.replicate (hi - p) (blank (⟨-1, 3, 0⟩ : Look)))
                rw [List.length_replicate] at h
                omega⟩
              have HCALL : Hid (∀ w', Cs w' (.slice B ls.length bc) ls → Calls Tryd.prog 14 #[.slice B ls.length bc, .int .i64 p, .int .i64 hi, .agg #[.int .i64 (-1), .int .i64 3, .int .i64 0]] w' fun e w'' => ∃ v, e = .returned (.tuple #[v, .int .i64 0]) ∧ OwnCs w'' w'.heap.size v (repl ls p hi (List.replicate (hi - p) (blank (⟨-1, 3, 0⟩ : Look)))) ∧ Below w'.heap.size w' w'') := HCALL
              generalize hres0 : repl ls p hi (List.replicate (hi - p) (blank (⟨-1, 3, 0⟩ : Look))) = res at hres HCALL
              clear hres0
              go_wp2_with fail
              refine (HCALL.out _ HOW.out.cs).mono ?_; rintro e wA ⟨vr, rfl, hoA, hbA⟩
              have HRO := Lib.hid (show RowOk res ∧ res.length = ls.length from hres)
              have HBA : Hid (Below w5.heap.size w5 wA) := Lib.hid (HBL.out.trans (hbA.mono HBL.out.size))
              have HOA : Hid (OwnCs wA w.heap.size vr res) := Lib.hid (hoA.low (Nat.le_trans HB5.out.size HBL.out.size))
              have HOL := Lib.hid (HOW.out.kept hbA)
              have HTA := Lib.hid (HTR.out.kept hbA)
              clear hres hbA hoA
              obtain ⟨RA, rc, e1, _⟩ := HOA.out.cs.form
              have hrl : res.length = ls.length := HRO.out.2
              rw [hrl] at e1
              subst e1
              have HCK := Lib.hid (rowCheck_any res true (.slice RA ls.length rc) wA HOA.out.cs HRO.out.1.held (by have := HRO.out.1.2.1; omega) ⟨fun _ => HRO.out.1, fun _ => rfl⟩)
              have HRW := Lib.hid (fun w' (h : Cs w' (.slice RA ls.length rc) res) (hT : Tabs w') => refRow_any res true (.slice RA ls.length rc) w' h HRO.out.1.short hT (by have := HRO.out.1.2.1; omega) ⟨fun _ => HRO.out.1, fun _ => rfl⟩)
              have HCC := Lib.hid (fun w' (h : Cs w' (.slice RA ls.length rc) res) => copyCells_any res (.slice RA ls.length rc) w' h (by have := HRO.out.1.2.1; omega))
              clear hrl
              go_wp2_with fail
              refine (num_eq _ _).mono ?_; rintro e wn ⟨rfl, rfl⟩
              go_wp2_with fail
              refine (num_eq _ _).mono ?_; rintro e wn ⟨rfl, rfl⟩
              go_wp2_with fail
              refine HCK.out.mono ?_; rintro e wB ⟨rfl, hbB⟩
              have HBB : Hid (Below w5.heap.size w5 wB) := Lib.hid (HBA.out.trans (hbB.mono HBA.out.size))
              have HOB := Lib.hid (HOA.out.kept hbB)
              have HTB := Lib.hid (HTA.out.kept hbB)
              clear hbB
              go_wp2_with fail
              refine (num_eq _ _).mono ?_; rintro e wn ⟨rfl, rfl⟩
              go_wp2_with fail
              refine (HRW.out _ HOB.out.cs HTB.out).mono ?_; rintro e wC ⟨rfl, hbC⟩
              have HBC : Hid (Below w5.heap.size w5 wC) := Lib.hid (HBB.out.trans (hbC.mono HBB.out.size))
              have HOC := Lib.hid (HOB.out.kept hbC)
              clear hbC
              go_wp2_with fail
              refine (HCC.out _ HOC.out.cs).mono ?_; rintro e wD ⟨vD, rfl, hoD, hbD⟩
              have HOD : Hid (OwnCs wD w.heap.size vD res) := Lib.hid (hoD.low (Nat.le_trans HB5.out.size HBC.out.size))
              have HBD : Hid (Below w5.heap.size w5 wD) := Lib.hid (HBC.out.trans (hbD.mono HBC.out.size))
              clear hoD hbD
              go_wp2_with fail
              go_roundw
              case rel => exact ⟨k + 1, res, by omega, by go_num, HOD, Lib.hid HRO.out.1, HBD⟩
              case measure => simp [intOf]; omega
          · have h8b : decide ((k : Int) < 8) = false := decide_eq_false (by omega)
            clear hkk hgg
            go_wp2_with fail
            refine (wakes_any _).mono ?_; rintro e wZ ⟨rfl, hbZ⟩
            have HBZ : Hid (Below w.heap.size w wZ) := Lib.hid ((HB5.out.trans (HBL.out.mono HB5.out.size)).trans (hbZ.mono (Nat.le_trans HB5.out.size HBL.out.size)))
            clear hbZ
            go_wp2_with fail
            go_ret
            exact ⟨rfl, HBZ.out⟩
        · clear hkk hgg
          go_wp2_with fail
          refine (wakes_any _).mono ?_; rintro e wZ ⟨rfl, hbZ⟩
          have HBZ : Hid (Below w.heap.size w wZ) := Lib.hid ((HB5.out.trans (HBL.out.mono HB5.out.size)).trans (hbZ.mono (Nat.le_trans HB5.out.size HBL.out.size)))
          clear hbZ
          go_wp2_with fail
          go_ret
          exact ⟨rfl, HBZ.out⟩
  · have HCK := Lib.hid (fun w' (h : Cs w' (.slice A l.length c) l) (hl : l.length ≤ 1000000) => rowCheck_any l false (.slice A l.length c) w' h HHD.out hl ⟨(fun h => by cases h), fun h => absurd h hr⟩)
    clear hr
    go_enter Tryd.func3, Tryd.ntmps3
    go_wp2_with fail
    refine (HHV.out _ (HX.out.kept HB1.out) (HY.out.kept HB1.out)).mono ?_; rintro e w2 ⟨b, rfl, hq, hb2⟩
    have HB2 : Hid (Below w.heap.size w w2) := Lib.hid (HB1.out.trans (hb2.mono HB1.out.size))
    have hk2 := Blk.kept HK1.out hb2
    clear hb2
    cases b with
    | true =>
      clear hk2 hq
      go_wp2_with fail
      go_ret
      exact ⟨rfl, HB2.out⟩
    | false =>
      obtain ⟨hl2, ht2⟩ := hq rfl
      have c0 : w2.cell? ⟨w.heap.size, 0, none⟩ = some (.slice A l.length c) := Blk.cell hk2 0
      clear hk2 hq
      go_wp2_with fail
      refine (HCK.out _ (HX.out.kept HB2.out) (by omega)).mono ?_; rintro e w3 ⟨rfl, hb3⟩
      have HB3 : Hid (Below w.heap.size w w3) := Lib.hid (HB2.out.trans (hb3.mono HB2.out.size))
      clear hb3 c0
      go_wp2_with fail
      refine (num_eq _ _).mono ?_; rintro e wn ⟨rfl, rfl⟩
      go_wp2_with fail
      go_ret
      exact ⟨rfl, HB3.out⟩
end Row
end Go.Proofs.YtchdkgmednoobaaDoor
