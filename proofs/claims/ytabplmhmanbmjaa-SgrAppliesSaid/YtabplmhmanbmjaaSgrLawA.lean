/- The law on what numbers make of an attribute, and which numbers make it. -/
import Derived.Test.YtabplmhmanbmjaaSgrLawB
import Derived.Test.YtabplmhmanbmjaaSgrRefA
namespace Go.Proofs.Ytabplmhmanbmjaa
set_option maxRecDepth 100000
open Go.RowKit
namespace Sl4
open Sgr Sd
theorem fits_all {l : List Int} (h : paramsOk l = true) : ∀ k, k < l.length → -1 ≤ l.getD k 0 ∧ l.getD k 0 ≤ 9999 := fun k hk => params_get h k hk
theorem clear_own {w : World} {base e n : Nat} {v : Value} {xs : List Value} (h : w.ownsRow base e 1 v n xs) {g : Nat} (hg : w.heap.size ≤ g) : Clear g v := by
  rcases h.2 with ⟨rfl, _⟩ | ⟨b, cap, cur, rfl, _, hb, _⟩
  · exact fun _ _ _ e => by cases e
  · intro ad n' c' e
    injection e with e1 _ _
    obtain rfl : (⟨b, 0, none⟩ : Addr) = ad := by simpa using e1
    have := Blk.lt hb
    show b ≠ g
    omega
theorem cell_grown {w w' : World} {g : Nat} {p : Addr} {u : Value} (h : w.cell? p = some u) (hg : w.grownBy w' (some g)) (hn : p.block ≠ g) : w'.cell? p = some u := by
  have hb := hg.block p.block (World.block_lt_of_cell? w p h) (fun e => hn (by injection e))
  unfold World.cell? at h ⊢
  rw [hb]; exact h
theorem Sl.grown {w w' : World} {x : Value} {l : List Int} {g : Nat} (h : Sl w x l) (hg : w.grownBy w' (some g)) (hc : Clear g x) : Sl w' x l := by
  refine ⟨⟨h.src.1, ?_⟩, h.room⟩
  rcases h.src.2 with h0 | ⟨ad, c, rfl, hf⟩
  · exact .inl h0
  · exact .inr ⟨ad, c, rfl, fun k v hv => cell_grown (hf k v hv) hg (by rw [add_block]; exact hc ad _ c rfl)⟩
/-- One block has turned, and holds this look. -/
structure Turned (w : World) (g : Nat) (Q : Look) (w' : World) : Prop where
  look : w'.heap[g]? = some (.cells #[.int .i64 Q.fg, .int .i64 Q.bg, .int .i64 Q.flags] 29 (0, 0))
  grown : w.grownBy w' (some g)
theorem turned_set {w w1 : World} {g : Nat} {Q : Look} (h : w.heap[g]? = some (.cells #[.int .i64 0, .int .i64 0, .int .i64 0] 29 (0, 0))) (hb : Below w.heap.size w w1) :
    Turned w g Q (((w1.setCell ⟨g, 0, none⟩ (.int .i64 Q.fg)).setCell ⟨g, 1, none⟩ (.int .i64 Q.bg)).setCell ⟨g, 2, none⟩ (.int .i64 Q.flags)) := by
  have h1 := Blk.kept h hb
  refine ⟨Blk.set (Blk.set (Blk.set h1 0 _) 1 _) 2 _, ?_⟩
  refine ⟨hb.os, hb.tape, hb.output, by simpa using hb.size, fun k hk hn => ?_⟩
  have hne : k ≠ g := fun e => hn (by rw [e])
  rw [heap_setCell_other _ _ k _ hne, heap_setCell_other _ _ k _ hne, heap_setCell_other _ _ k _ hne]
  exact hb.block k hk
theorem Turned.kept {w w' : World} {g b : Nat} {Q : Look} {o : Obj} (h : Turned w g Q w') (hb : w.heap[b]? = some o) (hn : b ≠ g) : w'.heap[b]? = some o :=
  (h.grown.block b (Blk.lt hb) (fun e => hn (by injection e))).trans hb
/-- What lies below the block is kept. -/
theorem Turned.below {w w' : World} {g B : Nat} {Q : Look} {a : World} (h : Turned w g Q w') (hb : Below B a w) (hB : B ≤ g) (hz : B ≤ w.heap.size) : Below B a w' :=
  hb.grown h.grown hz fun k hk => by injection hk with hk; omega
set_option maxHeartbeats 12800000 in
theorem lawApplies_any {x y : Value} (l : List Look) (ls : List (List Int)) (w : World) (hx : Atts w x l) (hn : l.length ≤ 140737488355328) (hy : Lists w y ls) (hm : ls.length ≤ 140737488355328) (hz : ∀ k, k < ls.length → (ls.getD k []).length ≤ 140737488355328) :
    Calls Try.prog 3 #[.agg #[x, y]] w fun e w' => e = .returned (.bool true) ∧ Below w.heap.size w w' := by
  obtain ⟨A, c, rfl, hfx⟩ := hx.form
  obtain ⟨A', c', rfl, hfy⟩ := hy.form
  have HX := Lib.hid hx
  have HY := Lib.hid hy
  have HZ := Lib.hid hz
  have HFX := Lib.hid hfx
  have HFY := Lib.hid hfy
  clear hx hy hz hfx hfy
  go_enter Try.func3, Try.ntmps3
  go_wp2_with fail
  have HB0 : Hid (Below w.heap.size w (w.alloc (.cells #[.slice A l.length c, .slice A' ls.length c'] 25))) := Lib.hid ((Below.refl _ _).alloc (Nat.le_refl _) _)
  have HK0 := Lib.hid (heap_alloc_new w (.cells #[.slice A l.length c, .slice A' ls.length c'] 25))
  generalize w.alloc (.cells #[.slice A l.length c, .slice A' ls.length c'] 25) = w0 at HB0 HK0 ⊢
  refine (heavy_any l ls _ (HX.out.kept HB0.out) hn (HY.out.kept HB0.out) hm HZ.out).mono ?_
  rintro e w1 ⟨b, rfl, hfew, hb1⟩
  have HB1 : Hid (Below w.heap.size w w1) := Lib.hid (HB0.out.trans (hb1.mono HB0.out.size))
  have HK1 := Lib.hid (Blk.kept HK0.out hb1)
  have HW := Lib.hid hfew
  clear hfew hb1
  obtain ⟨g, hg⟩ : ∃ g, w.heap.size = g := ⟨_, rfl⟩
  rw [hg] at HK1 HB1 ⊢
  have HG := Lib.hid hg
  clear hg
  cases b with
  | true =>
    go_wp2_with fail
    go_ret
    exact ⟨rfl, by rw [HG.out]; exact HB1.out⟩
  | false =>
    have HFW := Lib.hid (HW.out rfl)
    go_wp2_with fail
    go_loopw [3] (fun i wr => ∃ k : Nat, k ≤ l.length ∧ i = .int .i64 k ∧ Below w1.heap.size w1 wr) (fun i _ => l.length - (intOf i).toNat)
    case atStart => exact ⟨0, by omega, rfl, Below.refl _ _⟩
    case round =>
      obtain ⟨i, hi, rfl, hbl⟩ := hrel
      have hzl := hbl.size
      have HKr := Lib.hid (Blk.kept HK1.out hbl)
      have HBr : Hid (Below g w wr) := Lib.hid (HB1.out.trans (hbl.mono (by have := HB1.out.size; have := HG.out; omega)))
      have k0 : wr.cell? ⟨g, 0, none⟩ = some (.slice A l.length c) := Blk.cell HKr.out 0
      by_cases hlt : i < l.length ∧ i < 6
      · obtain ⟨hlt, hi6⟩ := hlt
        obtain ⟨ad, rfl, ha⟩ := HFX.out i hlt
        have KA := Lib.hid (ha.kept (by rw [HG.out]; exact HBr.out))
        generalize l.getD i bare = X at KA
        clear ha
        obtain ⟨p0, p1, p2⟩ := three_cells KA.out
        go_wp2_with fail
        refine (attr_any X _).mono ?_
        rintro e w2 ⟨rfl, hb2⟩
        have HB2 := Lib.hid hb2
        have HK2 := Lib.hid (Blk.kept HKr.out hb2)
        have KA2 := Lib.hid (KA.out.kept hb2)
        clear hb2 k0 p0 p1 p2
        have k0 : w2.cell? ⟨g, 0, none⟩ = some (.slice (some ad) l.length c) := Blk.cell HK2.out 0
        obtain ⟨p0, p1, p2⟩ := three_cells KA2.out
        cases hax : attrOk X with
        | false =>
          have HAX := Lib.hid hax
          clear hax
          go_wp2_with fail
          refine (line_any X false HAX.out _).mono ?_
          rintro e w3 ⟨u, rfl, hu, hb3⟩
          simp only [cond_false] at hu ⊢
          have HU3 := Lib.hid hu
          have HB3 := Lib.hid hb3
          have HK3 := Lib.hid (Blk.kept HK2.out hb3)
          have KA3 := Lib.hid (KA2.out.kept hb3)
          clear hu hb3 k0 p0 p1 p2
          have k0 : w3.cell? ⟨g, 0, none⟩ = some (.slice (some ad) l.length c) := Blk.cell HK3.out 0
          obtain ⟨p0, p1, p2⟩ := three_cells KA3.out
          go_wp2_with fail
          refine (check_any X false HAX.out _).mono ?_
          rintro e w5 ⟨rfl, hb5⟩
          simp only [cond_false]
          have HU5 := Lib.hid (own_kept HU3.out hb5)
          have HB5 := Lib.hid hb5
          have HK5 := Lib.hid (Blk.kept HK3.out hb5)
          have KA5 := Lib.hid (KA3.out.kept hb5)
          clear hb5 k0 p0 p1 p2
          go_wp2_with fail
          refine (num_any 1 _).mono ?_; rintro e wn ⟨rfl, rfl⟩
          go_wp2_with fail
          refine (num_any 1 _).mono ?_; rintro e wn ⟨rfl, rfl⟩
          go_wp2_with fail
          refine (eqNumbers_same 0 0 [] [] _ (Src.own HU5.out) ⟨rfl, .inl ⟨rfl, rfl⟩⟩ rfl (by decide)).mono ?_
          rintro e w6 ⟨rfl, q6, rfl⟩
          have HU6 := Lib.hid (own_drewN HU5.out q6)
          have HB6 := Lib.hid (below_drewN HB5.out q6)
          go_wp2_with fail
          refine (numbers_any 0 (ints []) _ HU6.out (by decide)).mono ?_
          rintro e w7 ⟨rfl, hb7⟩
          have HB37 : Hid (Below w2.heap.size w2 w7) := Lib.hid (HB3.out.trans ((HB6.out.mono HB3.out.size).trans hb7))
          have HB17 : Hid (Below w1.heap.size w1 w7) := Lib.hid (hbl.trans ((HB2.out.trans (HB37.out.mono HB2.out.size)).mono hzl))
          have HB7 : Hid (Below g w w7) := Lib.hid (HB1.out.trans (HB17.out.mono (by have := HB1.out.size; have := HG.out; omega)))
          have HK7 := Lib.hid (Blk.kept HK2.out HB37.out)
          have KA7 := Lib.hid (KA2.out.kept HB37.out)
          clear hb7
          go_wp2_with fail
          obtain ⟨wo, rfl⟩ : ∃ wo : World, wo = wr := ⟨_, rfl⟩
          go_loopw [9] (fun j wr => ∃ k : Nat, k ≤ ls.length ∧ j = .int .i64 k ∧ Below w7.heap.size w7 wr) (fun j _ => ls.length - (intOf j).toNat)
          case atStart => exact ⟨0, by omega, rfl, Below.refl _ _⟩
          case round =>
            obtain ⟨k, hk, rfl, hbl2⟩ := hrel
            have HBr2 : Hid (Below g w wr) := Lib.hid (HB7.out.trans (hbl2.mono (by have := HB7.out.size; have := HG.out; omega)))
            have HKr2 := Lib.hid (Blk.kept HK7.out hbl2)
            have KAr2 := Lib.hid (KA7.out.kept hbl2)
            have k1 : wr.cell? ⟨g, 1, none⟩ = some (.slice A' ls.length c') := Blk.cell HKr2.out 1
            by_cases hlt2 : k < ls.length ∧ k < 6
            · obtain ⟨hlt2, hk6⟩ := hlt2
              obtain ⟨bd, pv, rfl, hc, hs⟩ := HFY.out k hlt2
              have hc2 := cell_kept (by rw [HG.out]; exact HBr2.out) hc
              have HS2 := Lib.hid (hs.kept (by rw [HG.out]; exact HBr2.out))
              have HSF : Hid (∀ wx, Below g w wx → Sl wx pv (ls.getD k [])) := Lib.hid fun wx hb => hs.kept (by rw [HG.out]; exact hb)
              have HCF : Hid (∀ wx, Below g w wx → wx.cell? (bd.add k) = some pv) := Lib.hid fun wx hb => cell_kept (by rw [HG.out]; exact hb) hc
              have HL : Hid ((ls.getD k []).length ≤ 1500) := Lib.hid (HFW.out.each k hlt2)
              clear hc hs
              generalize ls.getD k [] = q at HS2 HL HSF
              go_wp2_with fail
              refine (copyNumbers_any q.length q _ HS2.out.src (by have := HL.out; omega)).mono ?_
              rintro e w8 ⟨v, rfl, hv, hb8⟩
              have HV8 := Lib.hid (Sl.own hv)
              have HVC8 : Hid (∀ gg, w8.heap.size ≤ gg → Clear gg v) := Lib.hid fun gg hg => clear_own hv hg
              have HB8 := Lib.hid hb8
              have HK8 := Lib.hid (Blk.kept HKr2.out hb8)
              have KA8 := Lib.hid (KAr2.out.kept hb8)
              have hc8 := cell_kept hb8 hc2
              have HS8 := Lib.hid (HS2.out.kept hb8)
              have HC8 := Lib.hid hc8
              clear hv hb8 hc2 k1 hc8
              have k0 : w8.cell? ⟨g, 0, none⟩ = some (.slice (some ad) l.length c) := Blk.cell HK8.out 0
              obtain ⟨p0, p1, p2⟩ := three_cells KA8.out
              go_wp2_with fail
              cases hfit : (decide (q.length ≤ 32) && paramsOk q) with
              | false =>
                have HAL : Hid ((attrOk X && (decide (q.length ≤ 32) && paramsOk q)) = false) := Lib.hid (by rw [HAX.out, hfit]; rfl)
                have HFT := Lib.hid hfit
                clear hfit
                refine (apply_any X q v _ HV8.out (by have := HL.out; omega) false HAL.out).mono ?_
                rintro e w9 ⟨rfl, hb9⟩
                simp only [cond_false]
                have HV9z := Lib.hid hb9.size
                have HB9 := Lib.hid (HB8.out.trans (hb9.mono HB8.out.size))
                have HK9 := Lib.hid (Blk.kept HK8.out hb9)
                have KA9 := Lib.hid (KA8.out.kept hb9)
                have HS9 := Lib.hid (HS8.out.kept hb9)
                have HV9 := Lib.hid (HV8.out.kept hb9)
                have HC9 := Lib.hid (cell_kept hb9 HC8.out)
                clear hb9 k0 p0 p1 p2
                go_upto_region 21 with (fail)
                have hal : Below w9.heap.size w9 ((w9.alloc (.cells #[.int .i64 0, .int .i64 0, .int .i64 0] 29)).alloc (.cells #[.int .i64 0, .int .i64 0, .int .i64 0] 29)) := ((Below.refl _ _).alloc (Nat.le_refl _) _).alloc (by simp) _
                have h11 : ((w9.alloc (.cells #[.int .i64 0, .int .i64 0, .int .i64 0] 29)).alloc (.cells #[.int .i64 0, .int .i64 0, .int .i64 0] 29)).heap[w9.heap.size]? = some (.cells #[.int .i64 0, .int .i64 0, .int .i64 0] 29 (0, 0)) := old_alloc (heap_alloc_new _ _) _
                have h14 : ((w9.alloc (.cells #[.int .i64 0, .int .i64 0, .int .i64 0] 29)).alloc (.cells #[.int .i64 0, .int .i64 0, .int .i64 0] 29)).heap[w9.heap.size + 1]? = some (.cells #[.int .i64 0, .int .i64 0, .int .i64 0] 29 (0, 0)) := new_alloc _ _ _ (by simp)
                generalize (w9.alloc (.cells #[.int .i64 0, .int .i64 0, .int .i64 0] 29)).alloc (.cells #[.int .i64 0, .int .i64 0, .int .i64 0] 29) = wA at hal h11 h14 ⊢
                have HBA : Hid (Below w7.heap.size w7 wA) := Lib.hid (hbl2.trans ((HB9.out.trans (hal.mono HB9.out.size)).mono hbl2.size))
                have HKA := Lib.hid (Blk.kept HK9.out hal)
                have KAA := Lib.hid (KA9.out.kept hal)
                have HSA := Lib.hid (HS9.out.kept hal)
                have HVA := Lib.hid (HV9.out.kept hal)
                have HCA := Lib.hid (cell_kept hal HC9.out)
                have z9 : w7.heap.size ≤ w9.heap.size := Nat.le_trans hbl2.size HB9.out.size
                have HVN : Hid (Clear (w9.heap.size + 1) v) := Lib.hid (HVC8.out _ (by have := HV9z.out; omega))
                obtain ⟨ga, hga⟩ : ∃ ga, w9.heap.size = ga := ⟨_, rfl⟩
                rw [hga] at h11 h14 z9 HVN ⊢
                have H11 := Lib.hid h11
                have H14 := Lib.hid h14
                clear hal h11 h14 hga
                have k1 : wA.cell? ⟨g, 1, none⟩ = some (.slice (some bd) ls.length c') := Blk.cell HKA.out 1
                have hcA := HCA.out
                have a0 : wA.cell? ⟨ga, 0, none⟩ = some (.int .i64 0) := Blk.cell H11.out 0
                have a1 : wA.cell? ⟨ga, 1, none⟩ = some (.int .i64 0) := Blk.cell H11.out 1
                have a2 : wA.cell? ⟨ga, 2, none⟩ = some (.int .i64 0) := Blk.cell H11.out 2
                have b0 : wA.cell? ⟨ga + 1, 0, none⟩ = some (.int .i64 0) := Blk.cell H14.out 0
                have b1 : wA.cell? ⟨ga + 1, 1, none⟩ = some (.int .i64 0) := Blk.cell H14.out 1
                have b2 : wA.cell? ⟨ga + 1, 2, none⟩ = some (.int .i64 0) := Blk.cell H14.out 2
                have k1 : wA.cell? ⟨g, 1, none⟩ = some (.slice (some bd) ls.length c') := Blk.cell HKA.out 1
                go_wp2_with fail
                refine (num_any _ _).mono ?_; rintro e wn ⟨rfl, rfl⟩
                go_wp2_with fail
                refine (eqNumbers_same q.length q.length q q _ HVA.out.src HSA.out.src rfl (by have := HL.out; omega)).mono ?_
                rintro e wD ⟨rfl, qq, rfl⟩
                go_wp2_with fail
                go_roundw
                case rel => exact ⟨k + 1, by omega, by go_num, below_drewN HBA.out qq⟩
                case measure => simp [intOf]; omega
              | true =>
                have HAL : Hid ((attrOk X && (decide (q.length ≤ 32) && paramsOk q)) = false) := Lib.hid (by rw [HAX.out, hfit]; rfl)
                have HFT := Lib.hid hfit
                clear hfit
                refine (apply_any X q v _ HV8.out (by have := HL.out; omega) false HAL.out).mono ?_
                rintro e w9 ⟨rfl, hb9⟩
                simp only [cond_false]
                have HV9z := Lib.hid hb9.size
                have HB9 := Lib.hid (HB8.out.trans (hb9.mono HB8.out.size))
                have HK9 := Lib.hid (Blk.kept HK8.out hb9)
                have KA9 := Lib.hid (KA8.out.kept hb9)
                have HS9 := Lib.hid (HS8.out.kept hb9)
                have HV9 := Lib.hid (HV8.out.kept hb9)
                have HC9 := Lib.hid (cell_kept hb9 HC8.out)
                clear hb9 k0 p0 p1 p2
                go_upto_region 21 with (fail)
                have hal : Below w9.heap.size w9 ((w9.alloc (.cells #[.int .i64 0, .int .i64 0, .int .i64 0] 29)).alloc (.cells #[.int .i64 0, .int .i64 0, .int .i64 0] 29)) := ((Below.refl _ _).alloc (Nat.le_refl _) _).alloc (by simp) _
                have h11 : ((w9.alloc (.cells #[.int .i64 0, .int .i64 0, .int .i64 0] 29)).alloc (.cells #[.int .i64 0, .int .i64 0, .int .i64 0] 29)).heap[w9.heap.size]? = some (.cells #[.int .i64 0, .int .i64 0, .int .i64 0] 29 (0, 0)) := old_alloc (heap_alloc_new _ _) _
                have h14 : ((w9.alloc (.cells #[.int .i64 0, .int .i64 0, .int .i64 0] 29)).alloc (.cells #[.int .i64 0, .int .i64 0, .int .i64 0] 29)).heap[w9.heap.size + 1]? = some (.cells #[.int .i64 0, .int .i64 0, .int .i64 0] 29 (0, 0)) := new_alloc _ _ _ (by simp)
                generalize (w9.alloc (.cells #[.int .i64 0, .int .i64 0, .int .i64 0] 29)).alloc (.cells #[.int .i64 0, .int .i64 0, .int .i64 0] 29) = wA at hal h11 h14 ⊢
                have HBA : Hid (Below w7.heap.size w7 wA) := Lib.hid (hbl2.trans ((HB9.out.trans (hal.mono HB9.out.size)).mono hbl2.size))
                have HKA := Lib.hid (Blk.kept HK9.out hal)
                have KAA := Lib.hid (KA9.out.kept hal)
                have HSA := Lib.hid (HS9.out.kept hal)
                have HVA := Lib.hid (HV9.out.kept hal)
                have HCA := Lib.hid (cell_kept hal HC9.out)
                have z9 : w7.heap.size ≤ w9.heap.size := Nat.le_trans hbl2.size HB9.out.size
                have HVN : Hid (Clear (w9.heap.size + 1) v) := Lib.hid (HVC8.out _ (by have := HV9z.out; omega))
                obtain ⟨ga, hga⟩ : ∃ ga, w9.heap.size = ga := ⟨_, rfl⟩
                rw [hga] at h11 h14 z9 HVN ⊢
                have H11 := Lib.hid h11
                have H14 := Lib.hid h14
                clear hal h11 h14 hga
                have k1 : wA.cell? ⟨g, 1, none⟩ = some (.slice (some bd) ls.length c') := Blk.cell HKA.out 1
                have hcA := HCA.out
                have a0 : wA.cell? ⟨ga, 0, none⟩ = some (.int .i64 0) := Blk.cell H11.out 0
                have a1 : wA.cell? ⟨ga, 1, none⟩ = some (.int .i64 0) := Blk.cell H11.out 1
                have a2 : wA.cell? ⟨ga, 2, none⟩ = some (.int .i64 0) := Blk.cell H11.out 2
                have b0 : wA.cell? ⟨ga + 1, 0, none⟩ = some (.int .i64 0) := Blk.cell H14.out 0
                have b1 : wA.cell? ⟨ga + 1, 1, none⟩ = some (.int .i64 0) := Blk.cell H14.out 1
                have b2 : wA.cell? ⟨ga + 1, 2, none⟩ = some (.int .i64 0) := Blk.cell H14.out 2
                have k1 : wA.cell? ⟨g, 1, none⟩ = some (.slice (some bd) ls.length c') := Blk.cell HKA.out 1
                go_wp2_with fail
                refine (num_any _ _).mono ?_; rintro e wn ⟨rfl, rfl⟩
                go_wp2_with fail
                refine (eqNumbers_same q.length q.length q q _ HVA.out.src HSA.out.src rfl (by have := HL.out; omega)).mono ?_
                rintro e wD ⟨rfl, qq, rfl⟩
                go_wp2_with fail
                go_roundw
                case rel => exact ⟨k + 1, by omega, by go_num, below_drewN HBA.out qq⟩
                case measure => simp [intOf]; omega
            · by_cases hkn : k < ls.length
              · have hk6 : decide ((k : Int) < 6) = false := decide_eq_false (by omega)
                clear hlt2
                go_wp2_with fail
                go_roundw
                case rel => exact ⟨i + 1, by omega, by go_num, HB17.out.trans (hbl2.mono HB17.out.size)⟩
                case measure => simp [intOf]; omega
              · have hk6 : decide (k < ls.length) = false := decide_eq_false hkn
                clear hlt2
                go_wp2_with fail
                go_roundw
                case rel => exact ⟨i + 1, by omega, by go_num, HB17.out.trans (hbl2.mono HB17.out.size)⟩
                case measure => simp [intOf]; omega
        | true =>
          have HAX := Lib.hid hax
          clear hax
          go_wp2_with fail
          refine (line_any X true HAX.out _).mono ?_
          rintro e w3 ⟨u, rfl, hu, hb3⟩
          simp only [cond_true] at hu ⊢
          have HU3 := Lib.hid hu
          have HB3 := Lib.hid hb3
          have HK3 := Lib.hid (Blk.kept HK2.out hb3)
          have KA3 := Lib.hid (KA2.out.kept hb3)
          clear hu hb3 k0 p0 p1 p2
          have k0 : w3.cell? ⟨g, 0, none⟩ = some (.slice (some ad) l.length c) := Blk.cell HK3.out 0
          obtain ⟨p0, p1, p2⟩ := three_cells KA3.out
          go_wp2_with fail
          refine (refLine_any X _ HAX.out).mono ?_
          rintro e w4 ⟨v4, rfl, hv4, hb4⟩
          have HV4 := Lib.hid (Src.own hv4)
          have HU4 := Lib.hid (own_kept HU3.out hb4)
          have HB4 := Lib.hid hb4
          have HK4 := Lib.hid (Blk.kept HK3.out hb4)
          have KA4 := Lib.hid (KA3.out.kept hb4)
          clear hv4 hb4 k0 p0 p1 p2
          have k0 : w4.cell? ⟨g, 0, none⟩ = some (.slice (some ad) l.length c) := Blk.cell HK4.out 0
          obtain ⟨p0, p1, p2⟩ := three_cells KA4.out
          go_wp2_with fail
          refine (check_any X true HAX.out _).mono ?_
          rintro e w5 ⟨rfl, hb5⟩
          simp only [cond_true]
          have HV5 := Lib.hid (HV4.out.kept hb5)
          have HU5 := Lib.hid (own_kept HU4.out hb5)
          have HB5 : Hid (Below w3.heap.size w3 w5) := Lib.hid (HB4.out.trans (hb5.mono HB4.out.size))
          have HK5 := Lib.hid (Blk.kept HK4.out hb5)
          have KA5 := Lib.hid (KA4.out.kept hb5)
          clear hb5 k0 p0 p1 p2
          go_wp2_with fail
          refine (num_any 0 _).mono ?_; rintro e wn ⟨rfl, rfl⟩
          go_wp2_with fail
          refine (num_any 0 _).mono ?_; rintro e wn ⟨rfl, rfl⟩
          go_wp2_with fail
          refine (eqNumbers_same (lineOf X).length (lineOf X).length (lineOf X) (lineOf X) _ (Src.own HU5.out) HV5.out rfl (by have := lineOf_len X; omega)).mono ?_
          rintro e w6 ⟨rfl, q6, rfl⟩
          have HU6 := Lib.hid (own_drewN HU5.out q6)
          have HB6 := Lib.hid (below_drewN HB5.out q6)
          go_wp2_with fail
          refine (numbers_any (lineOf X).length (ints (lineOf X)) _ HU6.out (by have := lineOf_len X; omega)).mono ?_
          rintro e w7 ⟨rfl, hb7⟩
          have HB37 : Hid (Below w2.heap.size w2 w7) := Lib.hid (HB3.out.trans ((HB6.out.mono HB3.out.size).trans hb7))
          have HB17 : Hid (Below w1.heap.size w1 w7) := Lib.hid (hbl.trans ((HB2.out.trans (HB37.out.mono HB2.out.size)).mono hzl))
          have HB7 : Hid (Below g w w7) := Lib.hid (HB1.out.trans (HB17.out.mono (by have := HB1.out.size; have := HG.out; omega)))
          have HK7 := Lib.hid (Blk.kept HK2.out HB37.out)
          have KA7 := Lib.hid (KA2.out.kept HB37.out)
          clear hb7
          go_wp2_with fail
          obtain ⟨wo, rfl⟩ : ∃ wo : World, wo = wr := ⟨_, rfl⟩
          go_loopw [9] (fun j wr => ∃ k : Nat, k ≤ ls.length ∧ j = .int .i64 k ∧ Below w7.heap.size w7 wr) (fun j _ => ls.length - (intOf j).toNat)
          case atStart => exact ⟨0, by omega, rfl, Below.refl _ _⟩
          case round =>
            obtain ⟨k, hk, rfl, hbl2⟩ := hrel
            have HBr2 : Hid (Below g w wr) := Lib.hid (HB7.out.trans (hbl2.mono (by have := HB7.out.size; have := HG.out; omega)))
            have HKr2 := Lib.hid (Blk.kept HK7.out hbl2)
            have KAr2 := Lib.hid (KA7.out.kept hbl2)
            have k1 : wr.cell? ⟨g, 1, none⟩ = some (.slice A' ls.length c') := Blk.cell HKr2.out 1
            by_cases hlt2 : k < ls.length ∧ k < 6
            · obtain ⟨hlt2, hk6⟩ := hlt2
              obtain ⟨bd, pv, rfl, hc, hs⟩ := HFY.out k hlt2
              have hc2 := cell_kept (by rw [HG.out]; exact HBr2.out) hc
              have HS2 := Lib.hid (hs.kept (by rw [HG.out]; exact HBr2.out))
              have HSF : Hid (∀ wx, Below g w wx → Sl wx pv (ls.getD k [])) := Lib.hid fun wx hb => hs.kept (by rw [HG.out]; exact hb)
              have HCF : Hid (∀ wx, Below g w wx → wx.cell? (bd.add k) = some pv) := Lib.hid fun wx hb => cell_kept (by rw [HG.out]; exact hb) hc
              have HL : Hid ((ls.getD k []).length ≤ 1500) := Lib.hid (HFW.out.each k hlt2)
              clear hc hs
              generalize ls.getD k [] = q at HS2 HL HSF
              go_wp2_with fail
              refine (copyNumbers_any q.length q _ HS2.out.src (by have := HL.out; omega)).mono ?_
              rintro e w8 ⟨v, rfl, hv, hb8⟩
              have HV8 := Lib.hid (Sl.own hv)
              have HVC8 : Hid (∀ gg, w8.heap.size ≤ gg → Clear gg v) := Lib.hid fun gg hg => clear_own hv hg
              have HB8 := Lib.hid hb8
              have HK8 := Lib.hid (Blk.kept HKr2.out hb8)
              have KA8 := Lib.hid (KAr2.out.kept hb8)
              have hc8 := cell_kept hb8 hc2
              have HS8 := Lib.hid (HS2.out.kept hb8)
              have HC8 := Lib.hid hc8
              clear hv hb8 hc2 k1 hc8
              have k0 : w8.cell? ⟨g, 0, none⟩ = some (.slice (some ad) l.length c) := Blk.cell HK8.out 0
              obtain ⟨p0, p1, p2⟩ := three_cells KA8.out
              go_wp2_with fail
              cases hfit : (decide (q.length ≤ 32) && paramsOk q) with
              | false =>
                have HAL : Hid ((attrOk X && (decide (q.length ≤ 32) && paramsOk q)) = false) := Lib.hid (by rw [HAX.out, hfit]; rfl)
                have HFT := Lib.hid hfit
                clear hfit
                refine (apply_any X q v _ HV8.out (by have := HL.out; omega) false HAL.out).mono ?_
                rintro e w9 ⟨rfl, hb9⟩
                simp only [cond_false]
                have HV9z := Lib.hid hb9.size
                have HB9 := Lib.hid (HB8.out.trans (hb9.mono HB8.out.size))
                have HK9 := Lib.hid (Blk.kept HK8.out hb9)
                have KA9 := Lib.hid (KA8.out.kept hb9)
                have HS9 := Lib.hid (HS8.out.kept hb9)
                have HV9 := Lib.hid (HV8.out.kept hb9)
                have HC9 := Lib.hid (cell_kept hb9 HC8.out)
                clear hb9 k0 p0 p1 p2
                go_upto_region 21 with (fail)
                have hal : Below w9.heap.size w9 ((w9.alloc (.cells #[.int .i64 0, .int .i64 0, .int .i64 0] 29)).alloc (.cells #[.int .i64 0, .int .i64 0, .int .i64 0] 29)) := ((Below.refl _ _).alloc (Nat.le_refl _) _).alloc (by simp) _
                have h11 : ((w9.alloc (.cells #[.int .i64 0, .int .i64 0, .int .i64 0] 29)).alloc (.cells #[.int .i64 0, .int .i64 0, .int .i64 0] 29)).heap[w9.heap.size]? = some (.cells #[.int .i64 0, .int .i64 0, .int .i64 0] 29 (0, 0)) := old_alloc (heap_alloc_new _ _) _
                have h14 : ((w9.alloc (.cells #[.int .i64 0, .int .i64 0, .int .i64 0] 29)).alloc (.cells #[.int .i64 0, .int .i64 0, .int .i64 0] 29)).heap[w9.heap.size + 1]? = some (.cells #[.int .i64 0, .int .i64 0, .int .i64 0] 29 (0, 0)) := new_alloc _ _ _ (by simp)
                generalize (w9.alloc (.cells #[.int .i64 0, .int .i64 0, .int .i64 0] 29)).alloc (.cells #[.int .i64 0, .int .i64 0, .int .i64 0] 29) = wA at hal h11 h14 ⊢
                have HBA : Hid (Below w7.heap.size w7 wA) := Lib.hid (hbl2.trans ((HB9.out.trans (hal.mono HB9.out.size)).mono hbl2.size))
                have HKA := Lib.hid (Blk.kept HK9.out hal)
                have KAA := Lib.hid (KA9.out.kept hal)
                have HSA := Lib.hid (HS9.out.kept hal)
                have HVA := Lib.hid (HV9.out.kept hal)
                have HCA := Lib.hid (cell_kept hal HC9.out)
                have z9 : w7.heap.size ≤ w9.heap.size := Nat.le_trans hbl2.size HB9.out.size
                have HVN : Hid (Clear (w9.heap.size + 1) v) := Lib.hid (HVC8.out _ (by have := HV9z.out; omega))
                obtain ⟨ga, hga⟩ : ∃ ga, w9.heap.size = ga := ⟨_, rfl⟩
                rw [hga] at h11 h14 z9 HVN ⊢
                have H11 := Lib.hid h11
                have H14 := Lib.hid h14
                clear hal h11 h14 hga
                have k1 : wA.cell? ⟨g, 1, none⟩ = some (.slice (some bd) ls.length c') := Blk.cell HKA.out 1
                have hcA := HCA.out
                go_wp2_with fail
                refine (params_any q pv _ HSA.out.src (by have := HL.out; omega)).mono ?_; rw [HFT.out]; rintro e w' ⟨rfl, rfl⟩
                have a0 : wA.cell? ⟨ga, 0, none⟩ = some (.int .i64 0) := Blk.cell H11.out 0
                have a1 : wA.cell? ⟨ga, 1, none⟩ = some (.int .i64 0) := Blk.cell H11.out 1
                have a2 : wA.cell? ⟨ga, 2, none⟩ = some (.int .i64 0) := Blk.cell H11.out 2
                have b0 : wA.cell? ⟨ga + 1, 0, none⟩ = some (.int .i64 0) := Blk.cell H14.out 0
                have b1 : wA.cell? ⟨ga + 1, 1, none⟩ = some (.int .i64 0) := Blk.cell H14.out 1
                have b2 : wA.cell? ⟨ga + 1, 2, none⟩ = some (.int .i64 0) := Blk.cell H14.out 2
                have k1 : wA.cell? ⟨g, 1, none⟩ = some (.slice (some bd) ls.length c') := Blk.cell HKA.out 1
                go_wp2_with fail
                refine (num_any _ _).mono ?_; rintro e wn ⟨rfl, rfl⟩
                go_wp2_with fail
                refine (eqNumbers_same q.length q.length q q _ HVA.out.src HSA.out.src rfl (by have := HL.out; omega)).mono ?_
                rintro e wD ⟨rfl, qq, rfl⟩
                go_wp2_with fail
                go_roundw
                case rel => exact ⟨k + 1, by omega, by go_num, below_drewN HBA.out qq⟩
                case measure => simp [intOf]; omega
              | true =>
                have HAL : Hid ((attrOk X && (decide (q.length ≤ 32) && paramsOk q)) = true) := Lib.hid (by rw [HAX.out, hfit]; rfl)
                have HFT := Lib.hid hfit
                clear hfit
                refine (apply_any X q v _ HV8.out (by have := HL.out; omega) true HAL.out).mono ?_
                rintro e w9 ⟨rfl, hb9⟩
                simp only [cond_true]
                have HV9z := Lib.hid hb9.size
                have HB9 := Lib.hid (HB8.out.trans (hb9.mono HB8.out.size))
                have HK9 := Lib.hid (Blk.kept HK8.out hb9)
                have KA9 := Lib.hid (KA8.out.kept hb9)
                have HS9 := Lib.hid (HS8.out.kept hb9)
                have HV9 := Lib.hid (HV8.out.kept hb9)
                have HC9 := Lib.hid (cell_kept hb9 HC8.out)
                clear hb9 k0 p0 p1 p2
                generalize hQQ : applyOf X q = Q at *
                have HQQ := Lib.hid hQQ
                clear hQQ
                go_upto_region 21 with (fail)
                have hal : Below w9.heap.size w9 ((w9.alloc (.cells #[.int .i64 Q.fg, .int .i64 Q.bg, .int .i64 Q.flags] 29)).alloc (.cells #[.int .i64 0, .int .i64 0, .int .i64 0] 29)) := ((Below.refl _ _).alloc (Nat.le_refl _) _).alloc (by simp) _
                have h11 : ((w9.alloc (.cells #[.int .i64 Q.fg, .int .i64 Q.bg, .int .i64 Q.flags] 29)).alloc (.cells #[.int .i64 0, .int .i64 0, .int .i64 0] 29)).heap[w9.heap.size]? = some (.cells #[.int .i64 Q.fg, .int .i64 Q.bg, .int .i64 Q.flags] 29 (0, 0)) := old_alloc (heap_alloc_new _ _) _
                have h14 : ((w9.alloc (.cells #[.int .i64 Q.fg, .int .i64 Q.bg, .int .i64 Q.flags] 29)).alloc (.cells #[.int .i64 0, .int .i64 0, .int .i64 0] 29)).heap[w9.heap.size + 1]? = some (.cells #[.int .i64 0, .int .i64 0, .int .i64 0] 29 (0, 0)) := new_alloc _ _ _ (by simp)
                generalize (w9.alloc (.cells #[.int .i64 Q.fg, .int .i64 Q.bg, .int .i64 Q.flags] 29)).alloc (.cells #[.int .i64 0, .int .i64 0, .int .i64 0] 29) = wA at hal h11 h14 ⊢
                have HBA : Hid (Below w7.heap.size w7 wA) := Lib.hid (hbl2.trans ((HB9.out.trans (hal.mono HB9.out.size)).mono hbl2.size))
                have HKA := Lib.hid (Blk.kept HK9.out hal)
                have KAA := Lib.hid (KA9.out.kept hal)
                have HSA := Lib.hid (HS9.out.kept hal)
                have HVA := Lib.hid (HV9.out.kept hal)
                have HCA := Lib.hid (cell_kept hal HC9.out)
                have z9 : w7.heap.size ≤ w9.heap.size := Nat.le_trans hbl2.size HB9.out.size
                have HVN : Hid (Clear (w9.heap.size + 1) v) := Lib.hid (HVC8.out _ (by have := HV9z.out; omega))
                obtain ⟨ga, hga⟩ : ∃ ga, w9.heap.size = ga := ⟨_, rfl⟩
                rw [hga] at h11 h14 z9 HVN ⊢
                have H11 := Lib.hid h11
                have H14 := Lib.hid h14
                clear hal h11 h14 hga
                have k1 : wA.cell? ⟨g, 1, none⟩ = some (.slice (some bd) ls.length c') := Blk.cell HKA.out 1
                have hcA := HCA.out
                go_wp2_with fail
                refine (params_any q pv _ HSA.out.src (by have := HL.out; omega)).mono ?_; rw [HFT.out]; rintro e w' ⟨rfl, rfl⟩
                go_upto_region 22 with (fail)
                have k0 : wA.cell? ⟨g, 0, none⟩ = some (.slice (some ad) l.length c) := Blk.cell HKA.out 0
                obtain ⟨p0, p1, p2⟩ := three_cells KAA.out
                go_cut [13] (fun s13 wx => s13 = .int .i64 0 ∧ Turned wA (ga + 1) Q wx)
                case first =>
                  go_region_law (first
                    | (go_simp; go_at_call 17; refine (refApply_any X q pv wA.drew (attr_byt HAX.out) (HSA.out.kept (Below.refl _ _).drew) (by have := HFT.out; simp only [Bool.and_eq_true, decide_eq_true_eq] at this; exact this.1) (fits_all (by have := HFT.out; simp only [Bool.and_eq_true, decide_eq_true_eq] at this; exact this.2))).mono ?_; rintro e wB ⟨rfl, hbB⟩; have HBB := Lib.hid (show Below wA.heap.size wA wB from (Below.refl _ _).drew.trans hbB); have hbk := Blk.kept H14.out HBB.out; have f0 := Blk.free hbk 0; have f1 := Blk.free hbk 1; have f2 := Blk.free hbk 2; have m0 : wB.cell? ⟨ga + 1, 0, none⟩ = some (.int .i64 0) := Blk.cell hbk 0; have m1 : wB.cell? ⟨ga + 1, 1, none⟩ = some (.int .i64 0) := Blk.cell hbk 1; have m2 : wB.cell? ⟨ga + 1, 2, none⟩ = some (.int .i64 0) := Blk.cell hbk 2; clear hbB hbk; rw [HQQ.out]))
                  all_goals
                    go_wp2_with fail
                    go_meet
                    exact ⟨rfl, turned_set H14.out HBB.out⟩
                case rest =>
                  obtain ⟨rfl, htu⟩ := hcut
                  obtain ⟨wC, rfl⟩ : ∃ wC : World, wC = wc := ⟨_, rfl⟩
                  have HBC : Hid (Below w7.heap.size w7 wC) := Lib.hid (htu.below HBA.out (by omega) HBA.out.size)
                  have HKC := Lib.hid (Blk.kept HK7.out HBC.out)
                  have HgC : Hid (Below g w wC) := Lib.hid (HB7.out.trans (HBC.out.mono (by have := HB7.out.size; have := HG.out; omega)))
                  have h11 := htu.kept H11.out (by omega)
                  have h14 := htu.look
                  have a0 : wC.cell? ⟨ga, 0, none⟩ = some (.int .i64 Q.fg) := Blk.cell h11 0
                  have a1 : wC.cell? ⟨ga, 1, none⟩ = some (.int .i64 Q.bg) := Blk.cell h11 1
                  have a2 : wC.cell? ⟨ga, 2, none⟩ = some (.int .i64 Q.flags) := Blk.cell h11 2
                  have b0 : wC.cell? ⟨ga + 1, 0, none⟩ = some (.int .i64 Q.fg) := Blk.cell h14 0
                  have b1 : wC.cell? ⟨ga + 1, 1, none⟩ = some (.int .i64 Q.bg) := Blk.cell h14 1
                  have b2 : wC.cell? ⟨ga + 1, 2, none⟩ = some (.int .i64 Q.flags) := Blk.cell h14 2
                  have HVC := Lib.hid (Sl.grown HVA.out htu.grown HVN.out)
                  have HSC := Lib.hid (HSF.out wC HgC.out)
                  have hcC := HCF.out wC HgC.out
                  have HCC := Lib.hid hcC
                  clear htu h11 h14 k0 k1 p0 p1 p2 hcA
                  have k1 : wC.cell? ⟨g, 1, none⟩ = some (.slice (some bd) ls.length c') := Blk.cell HKC.out 1
                  go_wp2_with fail
                  refine (num_any _ _).mono ?_; rintro e wn ⟨rfl, rfl⟩
                  go_wp2_with fail
                  refine (eqNumbers_same q.length q.length q q _ HVC.out.src HSC.out.src rfl (by have := HL.out; omega)).mono ?_
                  rintro e wD ⟨rfl, qq, rfl⟩
                  go_wp2_with fail
                  go_roundw
                  case rel => exact ⟨k + 1, by omega, by go_num, below_drewN HBC.out qq⟩
                  case measure => simp [intOf]; omega
            · by_cases hkn : k < ls.length
              · have hk6 : decide ((k : Int) < 6) = false := decide_eq_false (by omega)
                clear hlt2
                go_wp2_with fail
                go_roundw
                case rel => exact ⟨i + 1, by omega, by go_num, HB17.out.trans (hbl2.mono HB17.out.size)⟩
                case measure => simp [intOf]; omega
              · have hk6 : decide (k < ls.length) = false := decide_eq_false hkn
                clear hlt2
                go_wp2_with fail
                go_roundw
                case rel => exact ⟨i + 1, by omega, by go_num, HB17.out.trans (hbl2.mono HB17.out.size)⟩
                case measure => simp [intOf]; omega
      · by_cases hkn : i < l.length
        · have hk6 : decide ((i : Int) < 6) = false := decide_eq_false (by omega)
          clear hlt
          go_wp2_with fail
          refine (wakes_any _).mono ?_
          rintro e w2 ⟨rfl, hb2⟩
          go_wp2_with fail
          go_ret
          exact ⟨rfl, by rw [HG.out]; exact HBr.out.trans (hb2.mono (by have := HBr.out.size; have := HG.out; omega))⟩
        · have hk6 : decide (i < l.length) = false := decide_eq_false hkn
          clear hlt
          go_wp2_with fail
          refine (wakes_any _).mono ?_
          rintro e w2 ⟨rfl, hb2⟩
          go_wp2_with fail
          go_ret
          exact ⟨rfl, by rw [HG.out]; exact HBr.out.trans (hb2.mono (by have := HBr.out.size; have := HG.out; omega))⟩
end Sl4
end Go.Proofs.Ytabplmhmanbmjaa
