/- Joined texts: CurLaw. -/
import Derived.Test.YtgjpojaegjdjcabDoorJ1
import Derived.Test.YtgjpojaegjdjcabDoorJ2
import Derived.Test.YtgjpojaegjdjcabDoorJ3
import Derived.Test.YtgjpojaegjdjcabDoorJ4
import Derived.Test.YtgjpojaegjdjcabDoorJ5
import Derived.Test.YtgjpojaegjdjcabDoorJ6
import Derived.Test.YtgjpojaegjdjcabDoorJ7
import Derived.Test.YtgjpojaegjdjcabDoorJ8
import Derived.Test.YtgjpojaegjdjcabDoorJ9
import Derived.Test.YtgjpojaegjdjcabDoorJ10
import Derived.Test.YtgjpojaegjdjcabDoorJ11
import Derived.Test.YtgjpojaegjdjcabDoorJ12
import Derived.Test.YtgjpojaegjdjcabDoorJ13
import Derived.Test.YtgjpojaegjdjcabDoorJ14
import Derived.Test.YtgjpojaegjdjcabDoorJ15
import Derived.Test.YtgjpojaegjdjcabDoorJ17
import Derived.Test.YtgjpojaegjdjcabDoorJ18
import Derived.Test.YtgjpojaegjdjcabDoorJ19
import Derived.Test.YtgjpojaegjdjcabDoorJ20
import Derived.Test.YtgjpojaegjdjcabDoorJ21
import Derived.Test.YtgjpojaegjdjcabDoorJ22
import Derived.Test.YtgjpojaegjdjcabDoorJ23
import Derived.Test.YtgjpojaegjdjcabDoorJ24
import Derived.Test.YtgjpojaegjdjcabDoorJ25
import Derived.Test.YtgjpojaegjdjcabDoorJ26
import Derived.Test.YtgjpojaegjdjcabDoorJ29
import Derived.Test.YtgjpojaegjdjcabDoorJ30
import Derived.Test.YtgjpojaegjdjcabDoorJ31
import Derived.Test.YtgjpojaegjdjcabDoorJ43
import Derived.Test.YtgjpojaegjdjcabDoorJ61
import Derived.Test.YtgjpojaegjdjcabDoorJ62
import Derived.Test.YtgjpojaegjdjcabDoorJ63
import Derived.Test.YtgjpojaegjdjcabDoorJ64
import Derived.Test.YtgjpojaegjdjcabDoorJ65
import Derived.Test.YtgjpojaegjdjcabDoorJ66
import Derived.Test.YtgjpojaegjdjcabDoorJ67
import Derived.Test.YtgjpojaegjdjcabDoorJ68
import Derived.Test.YtgjpojaegjdjcabDoorJ69
import Derived.Test.YtgjpojaegjdjcabDoorJ70
import Derived.Test.YtgjpojaegjdjcabDoorJ71
import Derived.Test.YtgjpojaegjdjcabDoorJ72
import Derived.BigQuiet
section
/- The law on a cursor led by keys, from each screen, by six numbers: walked, for whatever keys. -/
namespace Go.Proofs.YtgjpojaegjdjcabDoor
set_option maxRecDepth 100000
open Go.RowKit
namespace Scr
open Go.Proofs.YtgjpojaegjdjcabDoor.Row

/-- The six numbers that are played. -/
def Six (w : World) (b : Nat) : Prop := ∀ j, j < 6 → ∃ v : Int, w.cell? ⟨b, j, none⟩ = some (.int .i64 v)
theorem Six.kept {w w' : World} {b : Nat} (h : Six w b) (hb : Below w.heap.size w w') : Six w' b := fun j hj => by
  obtain ⟨v, e⟩ := h j hj
  exact ⟨v, cell_kept hb e⟩
theorem Six.made (w : World) (a b c d e f : Int) (t : TypeId) : Six (w.alloc (.cells #[.int .i64 a, .int .i64 b, .int .i64 c, .int .i64 d, .int .i64 e, .int .i64 f] t)) w.heap.size := by
  have hx : (w.alloc (.cells #[.int .i64 a, .int .i64 b, .int .i64 c, .int .i64 d, .int .i64 e, .int .i64 f] t)).heap[w.heap.size]? = some (.cells #[.int .i64 a, .int .i64 b, .int .i64 c, .int .i64 d, .int .i64 e, .int .i64 f] t (0, 0)) := heap_alloc_new _ _
  intro j hj
  have h6 : j = 0 ∨ j = 1 ∨ j = 2 ∨ j = 3 ∨ j = 4 ∨ j = 5 := by omega
  rcases h6 with rfl | rfl | rfl | rfl | rfl | rfl
  · exact ⟨a, Blk.cell hx 0⟩
  · exact ⟨b, Blk.cell hx 1⟩
  · exact ⟨c, Blk.cell hx 2⟩
  · exact ⟨d, Blk.cell hx 3⟩
  · exact ⟨e, Blk.cell hx 4⟩
  · exact ⟨f, Blk.cell hx 5⟩
/-- The call asked for first, or its box made first. -/
theorem Mu.start2 {wq w3 w4 w5 w6 : World} {base : Nat} {s X : S} {xi yi zi x y z : Value} (h : Below wq.heap.size wq w3) (ho3 : Own w3 base s xi yi zi) (h4 : Sto (w3.alloc (.cells zarr 37)) w3.heap.size (sarr s xi yi zi) w4)
    (hb : Below (w4.alloc (.cells zarr 37)).heap.size (w4.alloc (.cells zarr 37)) w5) (ho : Own w5 (w4.alloc (.cells zarr 37)).heap.size X x y z) (hs : Sto w5 w4.heap.size (sarr X x y z) w6) :
    Mu wq w3.heap.size w4.heap.size (w4.alloc (.cells zarr 37)).heap.size s xi yi zi X x y z w6 := by
  obtain ⟨k1, k2⟩ := bx_sto (e := ⟨s, xi, yi, zi⟩) ho3.in_ h4
  have hx : w5.heap[w4.heap.size]? = some (.cells zarr 37 (0, 0)) := Blk.kept (heap_alloc_new _ _) hb
  have h45 : Below w4.heap.size w4 w5 := (bel_alloc w4 _).trans (hb.mono (by simp))
  have ho4 := (ho3.kept k2).kept (bel_alloc w4 (.cells zarr 37))
  have hl3 : w3.heap.size < w4.heap.size := Blk.lt k1.box
  have h6 : Below w4.heap.size w4 w6 := hs.below _ _ (Nat.le_refl _) h45
  refine ⟨(h.trans (k2.mono h.size)).trans (h6.mono (by have := h.size; have := k2.size; omega)), by rw [hs.size]; exact hb.size, hs.boxed (by omega) (k1.box.kept h45), hs.box, hs.own2 hx ho, hs.own2 hx ((ho4.low (Nat.zero_le _)).kept hb), ho4.lt3, ?_⟩
  have := h.size; have := k2.size; simp; omega
theorem step_allocS {w : World} {ops : Array Oper} {o : Oper} {a : Act} {K : Act → World → Prop} {Q : Exit → Act → World → Prop} {E : Prop} (hgd : o.guard = none) (ho : o.op = .alloc 37) {n : Nat} (hn : w.heap.size = n)
    (hK : K (a.put o.dst (.pointer (some ⟨n, 0, none⟩))) (w.alloc (.cells zarr 37))) : if Region.wanted o (yielded ops a.tmps) = true then Oper.wp Tryd.prog o a w K Q else E := by
  subst hn
  have hw : Region.wanted o (yielded ops a.tmps) = true := by simp [Region.wanted, hgd]
  rw [if_pos hw]
  unfold Oper.wp
  simp only [ho, execOp, Sem.run_bind]
  exact hK
theorem Sto.drew {w w' : World} {b : Nat} {A : Array Value} (h : Sto w b A w') : Sto w b A w'.drew := ⟨h.box, h.other, h.size, fun B u hB hb => (h.below B u hB hb).drew⟩
set_option maxHeartbeats 12000000 in
theorem moves_any (v : Value) (l : List Sc) (n m k r : Int) (keys : List Int) (bk ck : Nat) (w : World) (h : Scrs 1048576 w v l) (hl : l.length ≤ 140737488355328) (hT : Tabs w) (hk : Kv w bk keys) (hk1 : keys.length ≤ 100) :
    Calls Tryd.prog 12 #[.agg #[v, .int .i64 n, .int .i64 m, .int .i64 k, .int .i64 r], .slice (some ⟨bk, 0, none⟩) keys.length ck] w fun e w' => e = .returned (.bool true) ∧ Below w.heap.size w w' := by
  have HT := Lib.hid hT
  have HK := Lib.hid hk
  obtain ⟨⟨A, c, rfl, hc, hf⟩, h2⟩ := id h
  have HF := Lib.hid hf
  have H2 := Lib.hid h2
  have H0 := Lib.hid (Run.start w (.slice A l.length c) n m k r)
  have HH := Lib.hid (heavy8 (.slice A l.length c) l n m k r _ (h.kept H0.out.bel) hl (by decide))
  have HWK := Lib.hid (fun W (hW : Below w.heap.size w W) => wakes10 W (hT.kept hW))
  obtain ⟨q, hq⟩ : ∃ q, l.length = q := ⟨_, rfl⟩
  rw [hq] at HF H2 H0 HH ⊢
  obtain ⟨kq, hkq⟩ : ∃ q, keys.length = q := ⟨_, rfl⟩
  have HKQ := Lib.hid hkq
  rw [hkq] at hk1 ⊢
  clear h hT h2 hf hl hc hq hk hkq
  go_enter Tryd.func12, Tryd.ntmps12
  go_wp2_with fail
  refine HH.out.mono ?_; rintro e w1 ⟨b, rfl, hw, hb⟩
  have H1 := Lib.hid (H0.out.kept hb)
  have HW := Lib.hid hw
  clear hw hb HH H0
  cases b
  case true =>
    go_wp2_with fail
    go_ret
    exact ⟨rfl, H1.out.bel⟩
  go_wp2_with fail
  go_loopw [5] (fun j wr => ∃ i : Nat, i ≤ q ∧ i ≤ 4 ∧ j = .int .i64 i ∧ Hid (Run w wr (.slice A q c) n m k r)) (fun j _ => q - (intOf j).toNat)
  case atStart => exact ⟨0, by omega, by omega, rfl, H1⟩
  case round =>
    clear H1
    obtain ⟨i, hi, hi4, rfl, HR⟩ := hrel
    have b0 : wr.cell? ⟨w.heap.size, 0, none⟩ = some (.slice A q c) := Blk.cell HR.out.box 0
    by_cases hiq : i < q
    · by_cases h4 : i < 4
      · obtain ⟨ad, rfl, hat⟩ := HF.out i hiq
        have hI := H2.out i hiq
        have hFt := fit8 hI.2 (HW.out trivial i hiq)
        generalize l.getD i noSc = sc at hat hI hFt
        have HAT := Lib.hid (show At w (ad.add (i * 43)) (sarr sc.s sc.x sc.y sc.z).toList from hat)
        have HIN : Hid (∀ W, Below w.heap.size w W → sc.in_ W) := Lib.hid fun W hb => hI.1.kept hb
        have HFT := Lib.hid hFt
        clear hat hI hFt
        have h4i : (i : Int) < 4 := by omega
        have h4d : decide ((i : Int) < 4) = true := decide_eq_true h4i
        go_wp2_with fail
        clear b0
        go_loopw [6] (fun j wr => ∃ u : Nat, u ≤ kq ∧ j = .int .i64 u ∧ Hid (Run w wr (.slice (some ad) q c) n m k r)) (fun j _ => kq - (intOf j).toNat)
        case atStart => exact ⟨0, by omega, rfl, HR⟩
        case round =>
          clear HR
          obtain ⟨u, hu, rfl, HR⟩ := hrel
          by_cases huk : u < kq
          · have hkey := HK.out u (by rw [HKQ.out]; exact huk)
            obtain ⟨key, he⟩ : ∃ key, keys.getD u 0 = key := ⟨_, rfl⟩
            rw [he] at hkey
            have HKC : Hid (∀ W, Below w.heap.size w W → W.cell? ⟨bk, u, none⟩ = some (.int .i64 key)) := Lib.hid fun W hb => cell_kept hb hkey
            clear he hkey
            have b1 : wr.cell? ⟨w.heap.size, 1, none⟩ = some (.int .i64 n) := Blk.cell HR.out.box 1
            have HN := Lib.hid (within8 n 12 (by decide) (by decide) wr.drew)
            generalize ((wi8 n 12 : Nat) : Int) = n12 at HN
            go_upto_region 9 with (fail)
            refine wp_region_still_tail 5 (by kernel_rfl) (by kernel_rfl) ?_
            simp only [List.take_succ_cons, List.take_zero, List.drop_succ_cons, List.drop_zero]
            repeat still_step
            still_call HN.out
            repeat still_step
            refine wpStill_nil ?_
            change wpList _ _ _ _ _ wr.drew
            go_wp2_with fail
            have HZ1 := Lib.hid (Six.made wr n (-1) 1 2 n12 9999 3)
            have HR1 := Lib.hid (HR.out.kept (bel_alloc wr (.cells #[.int .i64 n, .int .i64 (-1), .int .i64 1, .int .i64 2, .int .i64 n12, .int .i64 9999] 3)))
            clear HN b1 HR
            generalize wr.alloc (.cells #[.int .i64 n, .int .i64 (-1), .int .i64 1, .int .i64 2, .int .i64 n12, .int .i64 9999] 3) = wa at HZ1 HR1 ⊢
            generalize wr.heap.size = bn at HZ1 ⊢
            go_loopw [8] (fun j wr => ∃ d : Nat, d ≤ 6 ∧ j = .int .i64 d ∧ Hid (Run w wr (.slice (some ad) q c) n m k r) ∧ Hid (Six wr bn)) (fun j _ => 6 - (intOf j).toNat)
            case atStart => exact ⟨0, by omega, rfl, Lib.hid (HR1.out.kept (Below.refl _ _).drew), Lib.hid (HZ1.out.kept (Below.refl _ _).drew)⟩
            case round =>
              clear HR1 HZ1
              obtain ⟨d, hd, rfl, HR, HZ⟩ := hrel
              by_cases hd6 : d < 6
              · have hdi : (d : Int) < 6 := by omega
                have b2 : wr.cell? ⟨w.heap.size, 2, none⟩ = some (.int .i64 m) := Blk.cell HR.out.box 2
                have HW12 := Lib.hid (within8 m 12 (by decide) (by decide))
                go_upto_region 13 with (fail)
                go_cut [9] from 46 to 55 (fun s9 wx => ∃ mv : Int, s9 = .int .i64 mv ∧ Hid (Run w wx (.slice (some ad) q c) n m k r) ∧ Hid (Six wx bn))
                case first =>
                  have HA : Hid (∀ o, Run w (wr.alloc o).drew (.slice (some ad) q c) n m k r ∧ Six (wr.alloc o).drew bn) := Lib.hid fun o => ⟨(HR.out.kept (bel_alloc wr o)).kept (Below.refl _ _).drew, (HZ.out.kept (bel_alloc wr o)).kept (Below.refl _ _).drew⟩
                  have hpar : (d : Int).tmod 2 = 0 ∨ (d : Int).tmod 2 = 1 := by rw [Int.tmod_eq_emod_of_nonneg (by omega)]; omega
                  rcases hpar with hp | hp
                  all_goals
                    go_region_law ((go_simp; go_at_call 16; refine (HW12.out _).mono ?_; rintro e w2 ⟨rfl, rfl⟩))
                    all_goals
                      go_wp2_with fail
                      go_meet
                      exact ⟨_, rfl, Lib.hid (HA.out _).1, Lib.hid (HA.out _).2⟩
                case rest =>
                  obtain ⟨mv, rfl, HRm, HZm⟩ := hcut
                  rename World => wm
                  clear HR HZ b2 HW12
                  obtain ⟨nn, hnn⟩ := HZm.out d hd6
                  have HNC : Hid (∀ W, Below wm.heap.size wm W → W.cell? ⟨bn, d, none⟩ = some (.int .i64 nn)) := Lib.hid fun W hb => cell_kept hb hnn
                  clear hnn
                  have HBW : Hid (∀ W, Below wm.heap.size wm W → Below w.heap.size w W) := Lib.hid fun W hb => HRm.out.bel.trans (hb.mono HRm.out.bel.size)
                  have HMAY := Lib.hid (@mayB_iff sc.s key nn mv)
                  obtain ⟨may, hmay⟩ : ∃ q, mayB sc.s key nn mv = q := ⟨_, rfl⟩
                  have HMQ := Lib.hid hmay
                  have b0 : wm.cell? ⟨w.heap.size, 0, none⟩ = some (.slice (some ad) q c) := Blk.cell HRm.out.box 0
                  go_wp2_with (refine wp_loadArg rfl rfl rfl (HAT.out.kept HRm.out.bel) ?_)
                  refine (copyScreen_any sc.s sc.x sc.y sc.z wm (HIN.out _ HRm.out.bel) ⟨HFT.out.l.m, HFT.out.l.o, HFT.out.l.t⟩).mono ?_; rintro e w3 ⟨xi, yi, zi, rfl, ho, hb⟩
                  have HO3 := Lib.hid ho
                  have HI3 := Lib.hid ho.in_
                  have HB3 := Lib.hid hb
                  clear ho hb b0
                  go_upto_region 15 with (first
                    | (refine wp_allocS (n := w3.heap.size) rfl rfl rfl ?_)
                    | (refine wp_storeS (b := w3.heap.size) rfl rfl rfl rfl rfl HI3.out.one (heap_alloc_new _ _) rfl ?_; intro w4 h4; have HS4 := Lib.hid h4.drew; clear h4))
                  go_simp
                  change Code.wp _ _ _ _ w4
                  go_cut [11, 12] from 62 to 75 (fun s11 s12 wx => ∃ X x y z code b11 B, s11 = .pointer (some ⟨b11, 0, none⟩) ∧ s12 = .int .i64 code ∧ Hid (Mu wm w3.heap.size b11 B sc.s xi yi zi X x y z wx) ∧ Hid (code = codeB may ∧ (may = true → X = moveS sc.s key nn mv) ∧ (may = false → X = noS ∧ x = nilS ∧ y = nilS ∧ z = nilS)))
                  case first =>
                    obtain ⟨hx4, hb4⟩ := bx_sto (e := ⟨sc.s, xi, yi, zi⟩) HI3.out HS4.out
                    have HX4 := Lib.hid hx4
                    have HB4 : Hid (Below wm.heap.size wm w4.drew) := Lib.hid (HB3.out.trans (hb4.mono HB3.out.size))
                    have HMV := Lib.hid (fun W (hI : In W sc.s xi yi zi) (hT : Tabs W) => moveD sc.s xi yi zi key nn mv W hI HFT.out.h hT)
                    rw [hmay] at HMV
                    clear hx4 hb4
                    have HQ : Hid (∀ W, Below w4.drew.heap.size w4.drew W → W.cell? ⟨bk, u, none⟩ = some (.int .i64 key) ∧ W.cell? ⟨bn, d, none⟩ = some (.int .i64 nn) ∧ Hid (SBox W w3.heap.size sc.s xi yi zi)) := Lib.hid fun W hb =>
                      ⟨HKC.out W (HBW.out W (HB4.out.trans (hb.mono HB4.out.size))), HNC.out W (HB4.out.trans (hb.mono HB4.out.size)), Lib.hid (HX4.out.box.kept hb)⟩
                    have q4 := HQ.out _ (Below.refl _ _)
                    refine wp_region_held_drew (S := fun w' => w'.cell? ⟨bk, u, none⟩ = some (.int .i64 key) ∧ w'.cell? ⟨bn, d, none⟩ = some (.int .i64 nn) ∧ Hid (SBox w' w3.heap.size sc.s xi yi zi)) (by kernel_rfl) q4 (fun hHeld => ?_)
                    generalize w4.drew = wd at HS4 HX4 HB4 HQ q4 ⊢
                    refine wpAnyH_take (i := 0) (v := sv sc.s xi yi zi) rfl (by kernel_rfl) (by kernel_rfl) (by kernel_rfl) (fun _ _ _ h => h) (yields_loadS rfl rfl rfl (fun w' hS => hS.2.2.out.at)) (by assumption) ?_
                    simp only [Act.put, List.getElem_toArray, List.getElem_cons_zero, List.setIfInBounds_toArray, List.set_cons_zero, List.set_cons_succ]
                    refine wpAnyH_take (i := 1) (v := ?_) rfl (by kernel_rfl) (by kernel_rfl) (by kernel_rfl) (fun _ _ _ h => h) (Or.inl ⟨by rfl, ?_⟩) (by assumption) ?_
                    rotate_left
                    · intro w' hSw; first | (go_simp; done) | (go_simp; with_reducible rfl)
                    simp only [Act.put, List.getElem_toArray, List.getElem_cons_zero, List.getElem_cons_succ, List.setIfInBounds_toArray, List.set_cons_zero, List.set_cons_succ]
                    refine wpAnyH_take (i := 2) (v := ?_) rfl (by kernel_rfl) (by kernel_rfl) (by kernel_rfl) (fun _ _ _ h => h) (Or.inl ⟨by rfl, ?_⟩) (by assumption) ?_
                    rotate_left
                    · intro w' hSw; first | (go_simp; done) | (go_simp; with_reducible rfl)
                    simp only [Act.put, List.getElem_toArray, List.getElem_cons_zero, List.getElem_cons_succ, List.setIfInBounds_toArray, List.set_cons_zero, List.set_cons_succ]
                    refine wpAnyH_take (i := 3) (v := ?_) rfl (by kernel_rfl) (by kernel_rfl) (by kernel_rfl) (fun _ _ _ h => h) (Or.inl ⟨by rfl, ?_⟩) (by assumption) ?_
                    rotate_left
                    · intro w' hSw; first | (go_simp; done) | (go_simp; with_reducible rfl)
                    simp only [Act.put, List.getElem_toArray, List.getElem_cons_zero, List.getElem_cons_succ, List.setIfInBounds_toArray, List.set_cons_zero, List.set_cons_succ]
                    refine wpAnyH_take (i := 4) (v := ?_) rfl (by kernel_rfl) (by kernel_rfl) (by kernel_rfl) (fun _ _ _ h => h) (Or.inl ⟨by rfl, ?_⟩) (by assumption) ?_
                    rotate_left
                    · intro w' hSw; first | (go_simp; done) | (go_simp; with_reducible rfl)
                    simp only [Act.put, List.getElem_toArray, List.getElem_cons_zero, List.getElem_cons_succ, List.setIfInBounds_toArray, List.set_cons_zero, List.set_cons_succ]
                    refine wpAnyH_take (i := 5) (v := ?_) rfl (by kernel_rfl) (by kernel_rfl) (by kernel_rfl) (fun _ _ _ h => h) (Or.inl ⟨by rfl, ?_⟩) (by assumption) ?_
                    rotate_left
                    · intro w' hSw; first | (go_simp; done) | (go_simp; with_reducible rfl)
                    simp only [Act.put, List.getElem_toArray, List.getElem_cons_zero, List.getElem_cons_succ, List.setIfInBounds_toArray, List.set_cons_zero, List.set_cons_succ]
                    refine wpAnyH_take (i := 6) (v := ?_) rfl (by kernel_rfl) (by kernel_rfl) (by kernel_rfl) (fun _ _ _ h => h) (Or.inl ⟨by rfl, ?_⟩) (by assumption) ?_
                    rotate_left
                    · intro w' hSw; first | (go_simp; done) | (go_simp; with_reducible rfl)
                    simp only [Act.put, List.getElem_toArray, List.getElem_cons_zero, List.getElem_cons_succ, List.setIfInBounds_toArray, List.set_cons_zero, List.set_cons_succ]
                    refine wpAnyH_take (i := 7) (v := ?_) rfl (by kernel_rfl) (by kernel_rfl) (by kernel_rfl) (fun _ _ _ h => h) (Or.inl ⟨by rfl, ?_⟩) (by assumption) ?_
                    rotate_left
                    · intro w' hSw; first | (go_simp; done) | (go_simp; with_reducible rfl)
                    simp only [Act.put, List.getElem_toArray, List.getElem_cons_zero, List.getElem_cons_succ, List.setIfInBounds_toArray, List.set_cons_zero, List.set_cons_succ]
                    refine wpAnyH_take (i := 8) (v := ?_) rfl (by kernel_rfl) (by kernel_rfl) (by kernel_rfl) (fun _ _ _ h => h) (Or.inl ⟨by rfl, ?_⟩) (by assumption) ?_
                    rotate_left
                    · intro w' hSw; first | (go_simp; done) | (go_simp; with_reducible rfl)
                    simp only [Act.put, List.getElem_toArray, List.getElem_cons_zero, List.getElem_cons_succ, List.setIfInBounds_toArray, List.set_cons_zero, List.set_cons_succ]
                    refine wpAnyH_take (i := 9) (v := ?_) rfl (by kernel_rfl) (by kernel_rfl) (by kernel_rfl) (fun _ _ _ h => h) (Or.inl ⟨by rfl, ?_⟩) (by assumption) ?_
                    rotate_left
                    · intro w' hSw; first | (go_simp; done) | (go_simp; with_reducible rfl)
                    simp only [Act.put, List.getElem_toArray, List.getElem_cons_zero, List.getElem_cons_succ, List.setIfInBounds_toArray, List.set_cons_zero, List.set_cons_succ]
                    refine wpAnyH_ready (rs := [10, 14]) (by kernel_rfl) (by simp) ?_
                    refine AllReadyH.cons rfl (fun K hK => ?_) (AllReadyH.cons rfl (fun K hK => ?_) AllReadyH.nil)
                    · go_simp
                      go_at_call 15
                      refine (HMV.out wd HX4.out.i (HT.out.kept (HBW.out _ HB4.out))).mono ?_; rintro e w5 ⟨X, x, y, z, code, rfl, hans⟩
                      have HA := Lib.hid hans
                      have q5 := HQ.out w5 hans.bel
                      have q6 := HQ.out (w5.alloc (.cells zarr 37)) (hans.bel.trans ((bel_alloc w5 _).mono hans.bel.size))
                      clear hans
                      refine hK.out _ _ q5 (fun hHeld => ?_)
                      clear hK K
                      refine wpAnyH_take (i := 11) (v := ?_) rfl (by kernel_rfl) (by kernel_rfl) (by kernel_rfl) (fun _ _ _ h => h) (Or.inl ⟨by rfl, ?_⟩) (by assumption) ?_
                      rotate_left
                      · intro w' hSw; first | (go_simp; done) | (go_simp; with_reducible rfl)
                      simp only [Act.put, List.getElem_toArray, List.getElem_cons_zero, List.getElem_cons_succ, List.setIfInBounds_toArray, List.set_cons_zero, List.set_cons_succ]
                      refine wpAnyH_take (i := 12) (v := ?_) rfl (by kernel_rfl) (by kernel_rfl) (by kernel_rfl) (fun _ _ _ h => h) (Or.inl ⟨by rfl, ?_⟩) (by assumption) ?_
                      rotate_left
                      · intro w' hSw; first | (go_simp; done) | (go_simp; with_reducible rfl)
                      simp only [Act.put, List.getElem_toArray, List.getElem_cons_zero, List.getElem_cons_succ, List.setIfInBounds_toArray, List.set_cons_zero, List.set_cons_succ]
                      refine wpAnyH_take (i := 13) (v := ?_) rfl (by kernel_rfl) (by kernel_rfl) (by kernel_rfl) (fun _ _ _ h => h) (Or.inl ⟨by rfl, ?_⟩) (by assumption) ?_
                      rotate_left
                      · intro w' hSw; first | (go_simp; done) | (go_simp; with_reducible rfl)
                      simp only [Act.put, List.getElem_toArray, List.getElem_cons_zero, List.getElem_cons_succ, List.setIfInBounds_toArray, List.set_cons_zero, List.set_cons_succ]
                      refine wpAnyH_ready (rs := [14]) (by kernel_rfl) (by simp) ?_
                      refine AllReadyH.cons rfl (fun K hK => ?_) AllReadyH.nil
                      refine step_allocS (n := w5.heap.size) rfl rfl rfl ?_
                      refine hK.out _ _ q6 (fun hHeld => ?_)
                      clear hK K
                      refine wpAnyH_ready (rs := [15]) (by kernel_rfl) (by simp) ?_
                      refine AllReadyH.cons rfl (fun K hK => ?_) AllReadyH.nil
                      refine step_storeS (b := w5.heap.size) (A := sarr X x y z) rfl rfl rfl rfl rfl HA.out.own.in_.one (heap_alloc_new _ _) rfl ?_; intro w6 h6
                      have HMU := Lib.hid (Mu.start HB3.out HO3.out HS4.out HA.out.bel HA.out.own h6)
                      have q7 := HQ.out w6 (HA.out.bel.trans ((h6.below _ _ (Nat.le_refl _) (bel_alloc w5 _)).mono HA.out.bel.size))
                      refine hK.out _ _ q7 (fun hHeld => ?_)
                      clear hK K
                      refine wpAnyH_take (i := 16) (v := ?_) rfl (by kernel_rfl) (by kernel_rfl) (by kernel_rfl) (fun _ _ _ h => h) (Or.inl ⟨by rfl, ?_⟩) (by assumption) ?_
                      rotate_left
                      · intro w' hSw; first | (go_simp; done) | (go_simp; with_reducible rfl)
                      simp only [Act.put, List.getElem_toArray, List.getElem_cons_zero, List.getElem_cons_succ, List.setIfInBounds_toArray, List.set_cons_zero, List.set_cons_succ]
                      refine wpAnyH_done (by kernel_rfl) ?_ _
                      go_wp2_with fail
                      go_meet
                      exact ⟨_, _, _, _, _, _, _, rfl, rfl, HMU, Lib.hid ⟨HA.out.code, HA.out.yes, HA.out.no⟩⟩
                    · refine step_allocS (n := wd.heap.size) rfl rfl rfl ?_
                      have HX5 : Hid (Bx (wd.alloc (.cells zarr 37)) w3.heap.size ⟨sc.s, xi, yi, zi⟩) := Lib.hid (HX4.out.kept (bel_alloc wd _))
                      have HB5 : Hid (Below wd.heap.size wd (wd.alloc (.cells zarr 37))) := Lib.hid (bel_alloc wd _)
                      have q5 := HQ.out _ HB5.out
                      refine hK.out _ _ q5 (fun hHeld => ?_)
                      clear hK K
                      refine wpAnyH_ready (rs := [10]) (by kernel_rfl) (by simp) ?_
                      refine AllReadyH.cons rfl (fun K hK => ?_) AllReadyH.nil
                      go_simp
                      go_at_call 15
                      refine (HMV.out (wd.alloc (.cells zarr 37)) HX5.out.i (HT.out.kept (HBW.out _ (HB4.out.trans (HB5.out.mono HB4.out.size))))).mono ?_; rintro e w5 ⟨X, x, y, z, code, rfl, hans⟩
                      have HA := Lib.hid hans
                      have HX6 : Hid (w5.heap[wd.heap.size]? = some (.cells zarr 37 (0, 0))) := Lib.hid (Blk.kept (heap_alloc_new wd _) hans.bel)
                      have HB6 : Hid (Below wd.heap.size wd w5) := Lib.hid (HB5.out.trans (hans.bel.mono HB5.out.size))
                      have q6 := HQ.out w5 HB6.out
                      clear hans
                      refine hK.out _ _ q6 (fun hHeld => ?_)
                      clear hK K
                      refine wpAnyH_take (i := 11) (v := ?_) rfl (by kernel_rfl) (by kernel_rfl) (by kernel_rfl) (fun _ _ _ h => h) (Or.inl ⟨by rfl, ?_⟩) (by assumption) ?_
                      rotate_left
                      · intro w' hSw; first | (go_simp; done) | (go_simp; with_reducible rfl)
                      simp only [Act.put, List.getElem_toArray, List.getElem_cons_zero, List.getElem_cons_succ, List.setIfInBounds_toArray, List.set_cons_zero, List.set_cons_succ]
                      refine wpAnyH_take (i := 12) (v := ?_) rfl (by kernel_rfl) (by kernel_rfl) (by kernel_rfl) (fun _ _ _ h => h) (Or.inl ⟨by rfl, ?_⟩) (by assumption) ?_
                      rotate_left
                      · intro w' hSw; first | (go_simp; done) | (go_simp; with_reducible rfl)
                      simp only [Act.put, List.getElem_toArray, List.getElem_cons_zero, List.getElem_cons_succ, List.setIfInBounds_toArray, List.set_cons_zero, List.set_cons_succ]
                      refine wpAnyH_take (i := 13) (v := ?_) rfl (by kernel_rfl) (by kernel_rfl) (by kernel_rfl) (fun _ _ _ h => h) (Or.inl ⟨by rfl, ?_⟩) (by assumption) ?_
                      rotate_left
                      · intro w' hSw; first | (go_simp; done) | (go_simp; with_reducible rfl)
                      simp only [Act.put, List.getElem_toArray, List.getElem_cons_zero, List.getElem_cons_succ, List.setIfInBounds_toArray, List.set_cons_zero, List.set_cons_succ]
                      refine wpAnyH_ready (rs := [15]) (by kernel_rfl) (by simp) ?_
                      refine AllReadyH.cons rfl (fun K hK => ?_) AllReadyH.nil
                      refine step_storeS (b := wd.heap.size) (A := sarr X x y z) rfl rfl rfl rfl rfl HA.out.own.in_.one HX6.out rfl ?_; intro w6 h6
                      have HMU := Lib.hid (Mu.start2 HB3.out HO3.out HS4.out HA.out.bel HA.out.own h6)
                      have q7 := HQ.out w6 (h6.below _ _ (Nat.le_refl _) HB6.out)
                      refine hK.out _ _ q7 (fun hHeld => ?_)
                      clear hK K
                      refine wpAnyH_take (i := 16) (v := ?_) rfl (by kernel_rfl) (by kernel_rfl) (by kernel_rfl) (fun _ _ _ h => h) (Or.inl ⟨by rfl, ?_⟩) (by assumption) ?_
                      rotate_left
                      · intro w' hSw; first | (go_simp; done) | (go_simp; with_reducible rfl)
                      simp only [Act.put, List.getElem_toArray, List.getElem_cons_zero, List.getElem_cons_succ, List.setIfInBounds_toArray, List.set_cons_zero, List.set_cons_succ]
                      refine wpAnyH_done (by kernel_rfl) ?_ _
                      go_wp2_with fail
                      go_meet
                      exact ⟨_, _, _, _, _, _, _, rfl, rfl, HMU, Lib.hid ⟨HA.out.code, HA.out.yes, HA.out.no⟩⟩
                  case rest =>
                    obtain ⟨X, x, y, z, code, b11, B, rfl, rfl, HM, HX⟩ := hcut
                    rename World => wx
                    clear HO3 HI3 HB3 HS4
                    generalize w3.heap.size = b10 at HM ⊢
                    have HRx : Hid (∀ W, Below wm.heap.size wm W → Run w W (.slice (some ad) q c) n m k r) := Lib.hid fun W hb => HRm.out.kept hb
                    go_upto_region 16 with (fail)
                    go_cut [13] from 76 to 99 (fun s13 wy => s13 = .bool may ∧ Hid (Mu wm b10 b11 B sc.s xi yi zi X x y z wy))
                    case first =>
                      have HBX := Lib.hid (HBW.out _ HM.out.bel)
                      have b0 : wx.cell? ⟨w.heap.size, 0, none⟩ = some (.slice (some ad) q c) := Blk.cell (HRx.out _ HM.out.bel).box 0
                      go_wp2_with (refine wp_loadArg rfl rfl rfl (HAT.out.kept HBX.out) ?_)
                      refine (refScreen_any sc.s sc.x sc.y sc.z wx (HIN.out _ HBX.out) HFT.out.sh (HT.out.kept HBX.out)).mono ?_; rintro e w7 ⟨rfl, hb⟩
                      have HM7 := Lib.hid (HM.out.kept hb)
                      clear hb HM b0 HBX
                      cases hok : okB sc.s
                      · have HF0 : Hid (may = false) := Lib.hid (by rw [← HMQ.out]; unfold mayB; rw [hok]; rfl)
                        go_wp2_with fail
                        go_meet
                        exact ⟨by rw [HF0.out], HM7⟩
                      · have k7 := HKC.out _ (HBW.out _ HM7.out.bel)
                        go_wp2_with fail
                        refine (moveKey_any key w7).mono ?_; rintro e w8 ⟨rfl, hb⟩
                        have HM8 := Lib.hid (HM7.out.kept hb)
                        clear hb HM7 k7
                        cases hkb : keyB key
                        · have HF0 : Hid (may = false) := Lib.hid (by rw [← HMQ.out]; unfold mayB; rw [hok, hkb]; rfl)
                          go_wp2_with fail
                          go_meet
                          exact ⟨by rw [HF0.out], HM8⟩
                        · have n8 := HNC.out _ HM8.out.bel
                          go_wp2_with fail
                          refine (refNumber_any nn w8).mono ?_; rintro e w8' ⟨rfl, rfl⟩
                          cases hnb : numB nn
                          · have HF0 : Hid (may = false) := Lib.hid (by rw [← HMQ.out]; unfold mayB; rw [hok, hkb, hnb]; rfl)
                            go_wp2_with fail
                            go_meet
                            exact ⟨by rw [HF0.out], HM8⟩
                          · go_wp2_with fail
                            refine (refNumber_any mv _).mono ?_; rintro e w9' ⟨rfl, rfl⟩
                            have HF0 : Hid (may = numB mv) := Lib.hid (by rw [← HMQ.out]; unfold mayB; rw [hok, hkb, hnb]; rfl)
                            go_wp2_with fail
                            go_meet
                            exact ⟨by rw [HF0.out], HM8⟩
                    case rest =>
                      obtain ⟨rfl, HM7⟩ := hcut
                      rename World => w7
                      clear HM
                      go_upto_region 18 with (first
                        | (refine wp_allocS (n := w7.heap.size) rfl rfl rfl ?_)
                        | (refine wp_storeS_then (b := w7.heap.size) (A := zarr) (T := Mv wm b10 b11 w7.heap.size B sc.s xi yi zi X x y z noS nilS nilS nilS) rfl rfl rfl rfl rfl (sarr_one rfl rfl rfl) (heap_alloc_new _ _) rfl (fun _ k => HM7.out.more k) ?_; intro w8 H8))
                      go_simp
                      change Code.wp _ _ _ _ w8
                      generalize w7.heap.size = b14 at H8 ⊢
                      clear HM7
                      go_upto_if 101 with (fail)
                      go_cut [101] from 101 to 116 (fun _ wy => ∃ Wn x' y' z', Hid (Mv wm b10 b11 b14 B sc.s xi yi zi X x y z Wn x' y' z' wy) ∧ Hid (may = true → Wn = moveS sc.s key nn mv))
                      case first =>
                        cases may
                        · go_wp2_with fail
                          go_meet
                          exact ⟨_, _, _, _, H8, Lib.hid (fun h => by cases h)⟩
                        · have HMM := Lib.hid (HMAY.out.1 HMQ.out)
                          have HB8 := Lib.hid (HBW.out _ H8.out.bel)
                          have b0 : w8.cell? ⟨w.heap.size, 0, none⟩ = some (.slice (some ad) q c) := Blk.cell (HRx.out _ H8.out.bel).box 0
                          have k8 := HKC.out _ HB8.out
                          have n8 := HNC.out _ H8.out.bel
                          go_upto_region 19 with (fail)
                          refine wp_region_still_tail 14 (by kernel_rfl) (by kernel_rfl) ?_
                          simp only [List.take_succ_cons, List.take_zero, List.drop_succ_cons, List.drop_zero]
                          still_step
                          still_step
                          still_step
                          still_step
                          refine still_loadS (s := sc.s) (x0 := sc.x) (y0 := sc.y) (z0 := sc.z) rfl rfl rfl (HAT.out.kept HB8.out.drew) ?_
                          repeat still_step
                          refine wpStill_nil ?_
                          change wpList _ _ _ _ _ w8.drew
                          have H8 := Lib.hid (H8.out.kept (Below.refl _ _).drew)
                          have HB8 := Lib.hid (HBW.out _ H8.out.bel)
                          clear b0 k8 n8
                          go_wp2_with fail
                          refine (refMove_any sc.s sc.x sc.y sc.z key nn mv _ (HIN.out _ HB8.out) ((ok_iff _).1 HMM.out.1) HMM.out.2.1 HMM.out.2.2.1 HMM.out.2.2.2).mono ?_; rintro e w9 ⟨xr, yr, zr, rfl, ho, hb⟩
                          have HM9 := Lib.hid (H8.out.kept hb)
                          have HO9 := Lib.hid ho
                          clear ho hb H8
                          go_wp2_with (refine wp_storeS_then (b := b14) (A := sarr (moveS sc.s key nn mv) xr yr zr) (T := Mv wm b10 b11 b14 B sc.s xi yi zi X x y z (moveS sc.s key nn mv) xr yr zr) rfl rfl rfl rfl rfl HO9.out.in_.one HM9.out.x14 rfl (fun _ k => HM9.out.put HO9.out k) ?_; intro w10 H10)
                          go_meet
                          exact ⟨_, _, _, _, H10, Lib.hid (fun _ => rfl)⟩
                      case rest =>
                        obtain ⟨Wn, x', y', z', HM, HWN⟩ := hcut
                        rename World => w9
                        clear H8
                        have HSM : Hid (∀ W, Mv wm b10 b11 b14 B sc.s xi yi zi X x y z Wn x' y' z' W → Calls Tryd.prog 25 #[sv X x y z, .int .i64 code, .bool may, sv Wn x' y' z', sv sc.s xi yi zi, sv sc.s sc.x sc.y sc.z] W fun e w' => e = .returned (.bool true) ∧ Below B W w' ∧ Boxes W w') := Lib.hid fun W hq =>
                          same_any may B X Wn x y z x' y' z' code sc.s xi yi zi sc.x sc.y sc.z W hq.up HX.out.1
                            (fun h => ⟨(HWN.out h).trans (HX.out.2.1 h).symm, hq.own, ((HWN.out h).trans (HX.out.2.1 h).symm) ▸ hq.want, by rw [HX.out.2.1 h]; exact (moveS_ok ((ok_iff _).1 (HMAY.out.1 (HMQ.out.trans h)).1) _ _ _).lens8⟩)
                            HX.out.2.2 (fun W' hb => (hq.ini.keptB hq.lti hb).in_) (fun W' hb => HIN.out W' ((HBW.out _ hq.bel).trans (hb.mono (Nat.le_trans HRm.out.bel.size hq.lo2)))) HFT.out.l
                        have b0 : w9.cell? ⟨w.heap.size, 0, none⟩ = some (.slice (some ad) q c) := Blk.cell (HRx.out _ HM.out.bel).box 0
                        go_upto_region 20 with (fail)
                        go_cut [128] from 117 to 128 (fun s128 wy => s128 = .bool false ∧ Hid (Below wm.heap.size wm wy))
                        case first =>
                          have HM := Lib.hid (HM.out.kept (Below.refl _ _).drew)
                          refine wp_region_still_tail 10 (by kernel_rfl) (by kernel_rfl) ?_
                          simp only [List.take_succ_cons, List.take_zero, List.drop_succ_cons, List.drop_zero]
                          refine still_loadS (p := ⟨b11, 0, none⟩) (s := X) (x0 := x) (y0 := y) (z0 := z) rfl rfl rfl HM.out.x11.at ?_
                          still_step
                          still_step
                          refine still_loadS (p := ⟨b14, 0, none⟩) (s := Wn) (x0 := x') (y0 := y') (z0 := z') rfl rfl rfl HM.out.x14.at ?_
                          refine still_loadS (p := ⟨b10, 0, none⟩) (s := sc.s) (x0 := xi) (y0 := yi) (z0 := zi) rfl rfl rfl HM.out.x10.at ?_
                          still_step
                          still_step
                          still_step
                          still_step
                          refine still_loadS (s := sc.s) (x0 := sc.x) (y0 := sc.y) (z0 := sc.z) rfl rfl rfl (HAT.out.kept (HBW.out _ HM.out.bel)) ?_
                          refine wpStill_nil ?_
                          change wpList _ _ _ _ _ w9.drew
                          go_wp2_with fail
                          refine (HSM.out _ HM.out).mono ?_; rintro e w10 ⟨rfl, hb, hbx⟩
                          have H10 : Hid (Below wm.heap.size wm w10) := Lib.hid (HM.out.bel.trans (hb.mono HM.out.lo2))
                          clear hb hbx
                          go_wp2_with fail
                          go_meet
                          exact ⟨rfl, H10⟩
                        case rest =>
                          obtain ⟨rfl, H10⟩ := hcut
                          rename World => w10
                          have HRn := Lib.hid (HRx.out _ H10.out)
                          have HZn := Lib.hid (HZm.out.kept H10.out)
                          clear HM HSM HWN HX b0 HRm HZm HRx HNC HBW HMAY HMQ H10
                          go_wp2_with fail
                          go_roundw
                          case rel => exact ⟨d + 1, by omega, by go_num, HRn, HZn⟩
                          case measure => simp [intOf]; omega
              · obtain rfl : d = 6 := by omega
                go_wp2_with fail
                go_roundw
                case rel => exact ⟨u + 1, by omega, by go_num, HR⟩
                case measure => simp [intOf]; omega
          · go_wp2_with fail
            go_roundw
            case rel => exact ⟨i + 1, by omega, by omega, by go_num, HR⟩
            case measure => simp [intOf]; omega
      · go_wp2_with fail
        refine (HWK.out wr HR.out.bel).mono ?_; rintro e w2 ⟨rfl, hb⟩
        go_wp2_with fail
        go_ret
        exact ⟨rfl, HR.out.bel.trans (hb.mono HR.out.bel.size)⟩
    · go_wp2_with fail
      refine (HWK.out wr HR.out.bel).mono ?_; rintro e w2 ⟨rfl, hb⟩
      go_wp2_with fail
      go_ret
      exact ⟨rfl, HR.out.bel.trans (hb.mono HR.out.bel.size)⟩
end Scr
end Go.Proofs.YtgjpojaegjdjcabDoor
end
