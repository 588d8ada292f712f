/- Joined texts: PrnLawM. -/
import Derived.Test.YtgjpojaegjdjcaaGreatDoorJ1
import Derived.Test.YtgjpojaegjdjcaaGreatDoorJ2
import Derived.Test.YtgjpojaegjdjcaaGreatDoorJ3
import Derived.Test.YtgjpojaegjdjcaaGreatDoorJ4
import Derived.Test.YtgjpojaegjdjcaaGreatDoorJ5
import Derived.Test.YtgjpojaegjdjcaaGreatDoorJ6
import Derived.Test.YtgjpojaegjdjcaaGreatDoorJ7
import Derived.Test.YtgjpojaegjdjcaaGreatDoorJ8
import Derived.Test.YtgjpojaegjdjcaaGreatDoorJ9
import Derived.Test.YtgjpojaegjdjcaaGreatDoorJ10
import Derived.Test.YtgjpojaegjdjcaaGreatDoorJ11
import Derived.Test.YtgjpojaegjdjcaaGreatDoorJ12
import Derived.Test.YtgjpojaegjdjcaaGreatDoorJ13
import Derived.Test.YtgjpojaegjdjcaaGreatDoorJ14
import Derived.Test.YtgjpojaegjdjcaaGreatDoorJ15
import Derived.Test.YtgjpojaegjdjcaaGreatDoorJ17
import Derived.Test.YtgjpojaegjdjcaaGreatDoorJ18
import Derived.Test.YtgjpojaegjdjcaaGreatDoorJ19
import Derived.Test.YtgjpojaegjdjcaaGreatDoorJ20
import Derived.Test.YtgjpojaegjdjcaaGreatDoorJ21
import Derived.Test.YtgjpojaegjdjcaaGreatDoorJ22
import Derived.Test.YtgjpojaegjdjcaaGreatDoorJ23
import Derived.Test.YtgjpojaegjdjcaaGreatDoorJ24
import Derived.Test.YtgjpojaegjdjcaaGreatDoorJ25
import Derived.Test.YtgjpojaegjdjcaaGreatDoorJ26
import Derived.Test.YtgjpojaegjdjcaaGreatDoorJ27
import Derived.Test.YtgjpojaegjdjcaaGreatDoorJ29
import Derived.Test.YtgjpojaegjdjcaaGreatDoorJ30
import Derived.Test.YtgjpojaegjdjcaaGreatDoorJ31
import Derived.Test.YtgjpojaegjdjcaaGreatDoorJ43
import Derived.Test.YtgjpojaegjdjcaaGreatDoorJ44
import Derived.Test.YtgjpojaegjdjcaaGreatDoorJ45
import Derived.Test.YtgjpojaegjdjcaaGreatDoorJ46
import Derived.Test.YtgjpojaegjdjcaaGreatDoorJ48
import Derived.Test.YtgjpojaegjdjcaaGreatDoorJ49
import Derived.Test.YtgjpojaegjdjcaaGreatDoorJ51
import Derived.Test.YtgjpojaegjdjcaaGreatDoorJ52
import Derived.Test.YtgjpojaegjdjcaaGreatDoorJ54
import Derived.Test.YtgjpojaegjdjcaaGreatDoorJ55
import Derived.Test.YtgjpojaegjdjcaaGreatDoorJ57
import Derived.Test.YtgjpojaegjdjcaaGreatDoorJ58
import Derived.Test.YtgjpojaegjdjcaaGreatDoorJ59
import Derived.Test.YtgjpojaegjdjcaaGreatDoorJ60
import Derived.Test.YtgjpojaegjdjcaaGreatDoorJ61
import Derived.Test.YtgjpojaegjdjcaaGreatDoorJ65
import Derived.Test.YtgjpojaegjdjcaaGreatDoorJ66
import Derived.Test.YtgjpojaegjdjcaaGreatDoorJ75
import Derived.Test.YtgjpojaegjdjcaaGreatDoorJ76
import Derived.Deep.RegionLaw
import Derived.Deep.RegionHeld3
import Derived.Deep.CutRange
import Derived.Deep.DeepCutAuto
import Derived.BigQuiet
section
/- The law on runes printed one behind the other: walked. -/
namespace Go.Proofs.YtgjpojaegjdjcaaGreatDoor
set_option maxRecDepth 100000
open Go.RowKit
namespace Scr
open Go.Proofs.YtgjpojaegjdjcaaGreatDoor.Row Wid

/-- The law's boxes: its screen. -/
structure Pm (w : World) (v : Value) (n m k r : Int) (b4 : Nat) (s : S) (x y z : Value) (W : World) : Prop where
  run : Run w W v n m k r
  box : SBox W b4 s x y z
  i : In W s x y z
theorem Pm.kept {w W W' : World} {v : Value} {n m k r : Int} {b4 : Nat} {s : S} {x y z : Value} (h : Pm w v n m k r b4 s x y z W) (hb : Below W.heap.size W W') : Pm w v n m k r b4 s x y z W' := ⟨h.run.kept hb, h.box.kept hb, h.i.kept hb⟩
theorem Pm.put {w W W' : World} {v : Value} {n m k r : Int} {b4 base : Nat} {s X : S} {x y z x' y' z' : Value} (h : Pm w v n m k r b4 s x y z W) (hl : w.heap.size < b4) (ho : Own W base X x' y' z') (hs : Sto W b4 (sarr X x' y' z') W') : Pm w v n m k r b4 X x' y' z' W' :=
  ⟨⟨hs.below _ _ (Nat.le_of_lt hl) h.run.bel, (hs.other _ (by omega)).trans h.run.box⟩, hs.box, (hs.own2 h.box ho).in_⟩
abbrev five (r : Int) : Obj := .cells #[.int .i64 97, .int .i64 19968, .int .i64 769, .int .i64 122, .int .i64 r] 3
theorem five_cell (w : World) (r : Int) {j : Nat} (hj : j < 5) : ∃ r0 : Int, (w.alloc (five r)).cell? ⟨w.heap.size, j, none⟩ = some (.int .i64 r0) := by
  have hx : (w.alloc (five r)).heap[w.heap.size]? = some (five r) := heap_alloc_new _ _
  have h5 : j = 0 ∨ j = 1 ∨ j = 2 ∨ j = 3 ∨ j = 4 := by omega
  rcases h5 with rfl | rfl | rfl | rfl | rfl
  · exact ⟨_, Blk.cell hx 0⟩
  · exact ⟨_, Blk.cell hx 1⟩
  · exact ⟨_, Blk.cell hx 2⟩
  · exact ⟨_, Blk.cell hx 3⟩
  · exact ⟨_, Blk.cell hx 4⟩
set_option maxHeartbeats 12000000 in
theorem lawMany_any (v : Value) (l : List Sc) (n m k r : Int) (w : World) (h : Scrs 1048576 w v l) (hl : l.length ≤ 140737488355328) (hT : Tabs w) :
    Calls Tryz.prog 5 #[.agg #[v, .int .i64 n, .int .i64 m, .int .i64 k, .int .i64 r]] w fun e w' => e = .returned (.bool true) ∧ Below w.heap.size w w' := by
  have HT := Lib.hid hT
  obtain ⟨⟨A, c, rfl, hc, hf⟩, h2⟩ := id h
  have HF := Lib.hid hf
  have H2 := Lib.hid h2
  have H0 := Lib.hid (Run.start w (.slice A l.length c) n m k r)
  have HH := Lib.hid (heavy8 (.slice A l.length c) l n m k r _ (h.kept H0.out.bel) hl (by decide))
  have HWK := Lib.hid (fun W (hW : Below w.heap.size w W) => wakes9 W (hT.kept hW))
  obtain ⟨q, hq⟩ : ∃ q, l.length = q := ⟨_, rfl⟩
  rw [hq] at HF H2 H0 HH ⊢
  clear h hT h2 hf hl hc hq
  go_enter Tryz.func5, Tryz.ntmps5
  go_wp2_with fail
  refine HH.out.mono ?_; rintro e w1 ⟨b, rfl, hw, hb⟩
  have H1 := Lib.hid (H0.out.kept hb)
  have HW := Lib.hid hw
  clear hw hb HH H0
  cases b
  case true =>
    go_wp2_with fail
    go_ret
    exact ⟨rfl, H1.out.bel⟩
  go_wp2_with fail
  go_loopw [3] (fun j wr => ∃ i : Nat, i ≤ q ∧ i ≤ 4 ∧ j = .int .i64 i ∧ Hid (Run w wr (.slice A q c) n m k r)) (fun j _ => q - (intOf j).toNat)
  case atStart => exact ⟨0, by omega, by omega, rfl, H1⟩
  case round =>
    clear H1
    obtain ⟨i, hi, hi4, rfl, HR⟩ := hrel
    have b0 : wr.cell? ⟨w.heap.size, 0, none⟩ = some (.slice A q c) := Blk.cell HR.out.box 0
    by_cases hiq : i < q
    · by_cases h4 : i < 4
      · obtain ⟨ad, rfl, hat⟩ := HF.out i hiq
        have hI := H2.out i hiq
        have hFt := fit8 hI.2 (HW.out trivial i hiq)
        generalize l.getD i noSc = sc at hat hI hFt
        have HAT := Lib.hid (show At w (ad.add (i * 43)) (sarr sc.s sc.x sc.y sc.z).toList from hat)
        have HI3 : Hid (In wr sc.s sc.x sc.y sc.z) := Lib.hid (hI.1.kept HR.out.bel)
        have HFT := Lib.hid hFt
        clear hat hI hFt
        have h4i : (i : Int) < 4 := by omega
        have h4d : decide ((i : Int) < 4) = true := decide_eq_true h4i
        go_upto_region 7 with (first
          | (refine wp_loadArg rfl rfl rfl (HAT.out.kept HR.out.bel) ?_)
          | (refine wp_allocS (n := wr.heap.size) rfl rfl rfl ?_)
          | (refine wp_storeS (b := wr.heap.size) rfl rfl rfl rfl rfl HI3.out.one (heap_alloc_new _ _) rfl ?_; intro w3 h3; obtain ⟨hx3, hb3⟩ := bx_sto (e := ⟨sc.s, sc.x, sc.y, sc.z⟩) HI3.out h3; have HX3 := Lib.hid hx3; have HR3 := Lib.hid (HR.out.kept hb3); clear hx3 hb3 h3))
        go_simp
        change Code.wp _ _ _ _ w3
        have HLW : Hid (w.heap.size < wr.heap.size) := Lib.hid (Blk.lt HR.out.box)
        clear b0 HI3 HAT HR
        generalize wr.heap.size = b4 at HX3 HLW ⊢
        go_wp2_with (refine wp_loadS (b := b4) (s := sc.s) (x0 := sc.x) (y0 := sc.y) (z0 := sc.z) rfl rfl rfl HX3.out.box ?_)
        refine (refScreen_any sc.s sc.x sc.y sc.z w3 HX3.out.i HFT.out.sh (HT.out.kept HR3.out.bel)).mono ?_; rintro e w4 ⟨rfl, hb⟩
        have HX4 := Lib.hid (HX3.out.kept hb)
        have HR4 := Lib.hid (HR3.out.kept hb)
        clear hb HX3 HR3
        cases hok : okB sc.s
        · go_wp2_with fail
          go_roundw
          case rel => exact ⟨i + 1, by omega, by omega, by go_num, HR4⟩
          case measure => simp [intOf]; omega
        · have HS4 : Hid (∃ s x y z, Ok s ∧ Pm w (.slice (some ad) q c) n m k r b4 s x y z w4) := Lib.hid ⟨_, _, _, _, (ok_iff _).1 hok, HR4.out, HX4.out.box, HX4.out.i⟩
          clear hok HX4 HR4 HFT
          go_wp2_with fail
          go_loopw [5] (fun j wr => ∃ u : Nat, u ≤ 12 ∧ j = .int .i64 u ∧ Hid (∃ s x y z, Ok s ∧ Pm w (.slice (some ad) q c) n m k r b4 s x y z wr)) (fun j _ => 12 - (intOf j).toNat)
          case atStart => exact ⟨0, by omega, rfl, HS4⟩
          case round =>
            clear HS4
            obtain ⟨u, hu, rfl, HS⟩ := hrel
            obtain ⟨s, x, y, z, hok, hP⟩ := HS.out
            have HOK := Lib.hid hok
            have HP := Lib.hid hP
            clear HS hok hP
            by_cases hu12 : u < 12
            · have hui : (u : Int) < 12 := by omega
              have hlt0 : w.heap.size < wr.heap.size := Blk.lt HP.out.run.box
              have b1 : wr.cell? ⟨w.heap.size, 1, none⟩ = some (.int .i64 n) := Blk.cell HP.out.run.box 1
              have b2 : wr.cell? ⟨w.heap.size, 2, none⟩ = some (.int .i64 m) := Blk.cell HP.out.run.box 2
              have b5 : wr.cell? ⟨w.heap.size, 4, none⟩ = some (.int .i64 r) := Blk.cell HP.out.run.box 4
              go_upto_region 11 with (fail)
              go_cut [6] from 34 to 46 (fun s6 wx => ∃ r0 : Int, s6 = .int .i64 r0 ∧ Hid (Pm w (.slice (some ad) q c) n m k r b4 s x y z wx))
              case first =>
                have HPd := Lib.hid (HP.out.kept (Below.refl _ _).drew)
                have HQ : Hid (∀ W, Pm w (.slice (some ad) q c) n m k r b4 s x y z W → W.cell? ⟨w.heap.size, 1, none⟩ = some (.int .i64 n) ∧ W.cell? ⟨w.heap.size, 2, none⟩ = some (.int .i64 m) ∧ W.cell? ⟨w.heap.size, 4, none⟩ = some (.int .i64 r) ∧ Hid (Pm w (.slice (some ad) q c) n m k r b4 s x y z W)) := Lib.hid fun W h =>
                  ⟨Blk.cell h.run.box 1, Blk.cell h.run.box 2, Blk.cell h.run.box 4, Lib.hid h⟩
                have HWI := Lib.hid (fun W => within8 (IntKind.i64.wrap (n + IntKind.i64.wrap ((u : Int) * m))) 5 (by decide) (by decide) W)
                have hj5 : wi8 (IntKind.i64.wrap (n + IntKind.i64.wrap ((u : Int) * m))) 5 < 5 := Nat.mod_lt _ (by decide)
                obtain ⟨i0, hi0⟩ : ∃ i0, IntKind.i64.wrap (n + IntKind.i64.wrap ((u : Int) * m)) = i0 := ⟨_, rfl⟩
                simp only [hi0] at HWI hj5
                generalize wi8 i0 5 = j at HWI hj5
                have hji : (j : Int) < 5 := by omega
                have q4 := HQ.out _ HPd.out
                have q5 := HQ.out _ (HPd.out.kept (bel_alloc wr.drew (five r)))
                have HFV : Hid (∃ r0 : Int, (wr.drew.alloc (five r)).cell? ⟨wr.drew.heap.size, j, none⟩ = some (.int .i64 r0)) := Lib.hid (five_cell wr.drew r hj5)
                refine wp_region_held_drew (S := fun w' => w'.cell? ⟨w.heap.size, 1, none⟩ = some (.int .i64 n) ∧ w'.cell? ⟨w.heap.size, 2, none⟩ = some (.int .i64 m) ∧ w'.cell? ⟨w.heap.size, 4, none⟩ = some (.int .i64 r) ∧ Hid (Pm w (.slice (some ad) q c) n m k r b4 s x y z w')) (by kernel_rfl) q4 (fun hHeld => ?_)
                generalize wr.drew = wd at HPd q4 q5 HFV ⊢
                obtain ⟨r0, hr0⟩ := HFV.out
                clear HFV b1 b2 b5 hlt0
                refine wpAnyH_take (i := 0) (v := ?_) rfl (by kernel_rfl) (by kernel_rfl) (by kernel_rfl) (fun _ _ _ h => h) (Or.inl ⟨by rfl, ?_⟩) (by assumption) ?_
                rotate_left
                · intro w' hSw; first | (go_simp; done) | (go_simp; with_reducible rfl)
                simp only [Act.put, List.getElem_toArray, List.getElem_cons_zero, List.setIfInBounds_toArray, List.set_cons_zero, List.set_cons_succ]
                refine wpAnyH_take (i := 1) (v := ?_) rfl (by kernel_rfl) (by kernel_rfl) (by kernel_rfl) (fun _ _ _ h => h) (Or.inl ⟨by rfl, ?_⟩) (by assumption) ?_
                rotate_left
                · intro w' hSw; first | (go_simp; done) | (go_simp; with_reducible rfl)
                simp only [Act.put, List.getElem_toArray, List.getElem_cons_zero, List.getElem_cons_succ, List.setIfInBounds_toArray, List.set_cons_zero, List.set_cons_succ]
                refine wpAnyH_take (i := 3) (v := ?_) rfl (by kernel_rfl) (by kernel_rfl) (by kernel_rfl) (fun _ _ _ h => h) (Or.inl ⟨by rfl, ?_⟩) (by assumption) ?_
                rotate_left
                · intro w' hSw; first | (go_simp; done) | (go_simp; with_reducible rfl)
                simp only [Act.put, List.getElem_toArray, List.getElem_cons_zero, List.getElem_cons_succ, List.setIfInBounds_toArray, List.set_cons_zero, List.set_cons_succ]
                refine wpAnyH_take (i := 4) (v := ?_) rfl (by kernel_rfl) (by kernel_rfl) (by kernel_rfl) (fun _ _ _ h => h) (Or.inl ⟨by rfl, ?_⟩) (by assumption) ?_
                rotate_left
                · intro w' hSw; first | (go_simp; done) | (go_simp; with_reducible rfl)
                simp only [Act.put, List.getElem_toArray, List.getElem_cons_zero, List.getElem_cons_succ, List.setIfInBounds_toArray, List.set_cons_zero, List.set_cons_succ]
                refine wpAnyH_take (i := 5) (v := ?_) rfl (by kernel_rfl) (by kernel_rfl) (by kernel_rfl) (fun _ _ _ h => h) (Or.inl ⟨by rfl, ?_⟩) (by assumption) ?_
                rotate_left
                · intro w' hSw; first | (go_simp; done) | (go_simp; with_reducible rfl)
                simp only [Act.put, List.getElem_toArray, List.getElem_cons_zero, List.getElem_cons_succ, List.setIfInBounds_toArray, List.set_cons_zero, List.set_cons_succ]
                refine wpAnyH_take (i := 6) (v := ?_) rfl (by kernel_rfl) (by kernel_rfl) (by kernel_rfl) (fun _ _ _ h => h) (Or.inl ⟨by rfl, ?_⟩) (by assumption) ?_
                rotate_left
                · intro w' hSw; first | (go_simp; done) | (go_simp; with_reducible rfl)
                simp only [Act.put, List.getElem_toArray, List.getElem_cons_zero, List.getElem_cons_succ, List.setIfInBounds_toArray, List.set_cons_zero, List.set_cons_succ]
                refine wpAnyH_take (i := 7) (v := ?_) rfl (by kernel_rfl) (by kernel_rfl) (by kernel_rfl) (fun _ _ _ h => h) (Or.inl ⟨by rfl, ?_⟩) (by assumption) ?_
                rotate_left
                · intro w' hSw; first | (go_simp; done) | (go_simp; with_reducible rfl)
                simp only [Act.put, List.getElem_toArray, List.getElem_cons_zero, List.getElem_cons_succ, List.setIfInBounds_toArray, List.set_cons_zero, List.set_cons_succ]
                refine wpAnyH_take (i := 8) (v := ?_) rfl (by kernel_rfl) (by kernel_rfl) (by kernel_rfl) (fun _ _ _ h => h) (Or.inl ⟨by rfl, ?_⟩) (by assumption) ?_
                rotate_left
                · intro w' hSw; first | (go_simp; done) | (go_simp; with_reducible rfl)
                simp only [Act.put, List.getElem_toArray, List.getElem_cons_zero, List.getElem_cons_succ, List.setIfInBounds_toArray, List.set_cons_zero, List.set_cons_succ]
                refine wpAnyH_take (i := 9) (v := ?_) rfl (by kernel_rfl) (by kernel_rfl) (by kernel_rfl) (fun _ _ _ h => h) (Or.inl ⟨by rfl, ?_⟩) (by assumption) ?_
                rotate_left
                · intro w' hSw; first | (go_simp; done) | (go_simp; with_reducible rfl)
                simp only [Act.put, List.getElem_toArray, List.getElem_cons_zero, List.getElem_cons_succ, List.setIfInBounds_toArray, List.set_cons_zero, List.set_cons_succ]
                refine wpAnyH_ready (rs := [2, 10]) (by kernel_rfl) (by simp) ?_
                refine AllReadyH.cons rfl (fun K hK => ?_) (AllReadyH.cons rfl (fun K hK => ?_) AllReadyH.nil)
                · go_simp
                  refine hK.out _ _ q5 (fun hHeld => ?_)
                  clear hK K
                  refine wpAnyH_ready (rs := [10]) (by kernel_rfl) (by simp) ?_
                  refine AllReadyH.cons rfl (fun K hK => ?_) AllReadyH.nil
                  go_simp
                  go_at_call 19
                  refine (HWI.out (wd.alloc (five r))).mono ?_; rintro e wz ⟨rfl, hwz⟩
                  rw [hwz]
                  clear hwz wz
                  refine hK.out _ _ q5 (fun hHeld => ?_)
                  clear hK K
                  refine wpAnyH_take (i := 11) (v := ?_) rfl (by kernel_rfl) (by kernel_rfl) (by kernel_rfl) (fun _ _ _ h => h) (Or.inl ⟨by rfl, ?_⟩) (by assumption) ?_
                  rotate_left
                  · intro w' hSw; first | (go_simp; done) | (go_simp; with_reducible rfl)
                  simp only [Act.put, List.getElem_toArray, List.getElem_cons_zero, List.getElem_cons_succ, List.setIfInBounds_toArray, List.set_cons_zero, List.set_cons_succ]
                  refine wpAnyH_ready (rs := [12]) (by kernel_rfl) (by simp) ?_
                  refine AllReadyH.cons rfl (fun K hK => ?_) AllReadyH.nil
                  have hr1 := hr0
                  go_simp
                  refine hK.out _ _ q5 (fun hHeld => ?_)
                  clear hK K
                  refine wpAnyH_take (i := 13) (v := ?_) rfl (by kernel_rfl) (by kernel_rfl) (by kernel_rfl) (fun _ _ _ h => h) (Or.inl ⟨by rfl, ?_⟩) (by assumption) ?_
                  rotate_left
                  · intro w' hSw; first | (go_simp; done) | (go_simp; with_reducible rfl)
                  simp only [Act.put, List.getElem_toArray, List.getElem_cons_zero, List.getElem_cons_succ, List.setIfInBounds_toArray, List.set_cons_zero, List.set_cons_succ]
                  refine wpAnyH_done (by kernel_rfl) ?_ _
                  go_wp2_with fail
                  go_meet
                  exact ⟨_, rfl, Lib.hid q5.2.2.2.out⟩
                · skip
                  go_simp
                  go_at_call 19
                  refine (HWI.out wd).mono ?_; rintro e wz ⟨rfl, hwz⟩
                  rw [hwz]
                  clear hwz wz
                  refine hK.out _ _ q4 (fun hHeld => ?_)
                  clear hK K
                  refine wpAnyH_ready (rs := [2]) (by kernel_rfl) (by simp) ?_
                  refine AllReadyH.cons rfl (fun K hK => ?_) AllReadyH.nil
                  go_simp
                  refine hK.out _ _ q5 (fun hHeld => ?_)
                  clear hK K
                  refine wpAnyH_take (i := 11) (v := ?_) rfl (by kernel_rfl) (by kernel_rfl) (by kernel_rfl) (fun _ _ _ h => h) (Or.inl ⟨by rfl, ?_⟩) (by assumption) ?_
                  rotate_left
                  · intro w' hSw; first | (go_simp; done) | (go_simp; with_reducible rfl)
                  simp only [Act.put, List.getElem_toArray, List.getElem_cons_zero, List.getElem_cons_succ, List.setIfInBounds_toArray, List.set_cons_zero, List.set_cons_succ]
                  refine wpAnyH_ready (rs := [12]) (by kernel_rfl) (by simp) ?_
                  refine AllReadyH.cons rfl (fun K hK => ?_) AllReadyH.nil
                  have hr1 := hr0
                  go_simp
                  refine hK.out _ _ q5 (fun hHeld => ?_)
                  clear hK K
                  refine wpAnyH_take (i := 13) (v := ?_) rfl (by kernel_rfl) (by kernel_rfl) (by kernel_rfl) (fun _ _ _ h => h) (Or.inl ⟨by rfl, ?_⟩) (by assumption) ?_
                  rotate_left
                  · intro w' hSw; first | (go_simp; done) | (go_simp; with_reducible rfl)
                  simp only [Act.put, List.getElem_toArray, List.getElem_cons_zero, List.getElem_cons_succ, List.setIfInBounds_toArray, List.set_cons_zero, List.set_cons_succ]
                  refine wpAnyH_done (by kernel_rfl) ?_ _
                  go_wp2_with fail
                  go_meet
                  exact ⟨_, rfl, Lib.hid q5.2.2.2.out⟩
              case rest =>
                obtain ⟨r0, rfl, HPm⟩ := hcut
                rename World => wm
                clear HP b1 b2 b5 hlt0
                go_wp2_with fail
                refine (width_any r0 wm).mono ?_; rintro e w5 ⟨rfl, hb⟩
                have HP5 := Lib.hid (HPm.out.kept hb)
                clear hb HPm
                by_cases hneg : wid r0 < 0
                · have hd : decide (wid r0 < 0) = true := decide_eq_true hneg
                  go_wp2_with fail
                  go_roundw
                  case rel => exact ⟨u + 1, by omega, by go_num, Lib.hid ⟨_, _, _, _, HOK.out, HP5.out⟩⟩
                  case measure => simp [intOf]; omega
                · have hd : decide (wid r0 < 0) = false := decide_eq_false hneg
                  have HRU := Lib.hid (fun W (hI : In W s x y z) (hT : Tabs W) => rune_any s x y z r0 W hI HOK.out.holds hT ((ok_iff s).2 HOK.out) (by omega))
                  have HOK2 := Lib.hid (print_ok HOK.out (r := r0) (by omega))
                  have HKP := Lib.hid (print_keeps HOK.out r0)
                  have HLS := Lib.hid (fun h => print_last (s := s) (r := r0) h)
                  generalize printS s r0 = X at HRU HOK2 HKP HLS
                  go_wp2_with (refine wp_loadS (b := b4) (s := s) (x0 := x) (y0 := y) (z0 := z) rfl rfl rfl HP5.out.box ?_)
                  refine (HRU.out w5 HP5.out.i (HT.out.kept HP5.out.run.bel)).mono ?_; rintro e w6 ⟨x1, y1, z1, rfl, ho, hb⟩
                  have HI6 := Lib.hid ho
                  have HP6 := Lib.hid (HP5.out.kept hb)
                  clear ho hb HP5 HRU
                  go_upto_region 14 with (first
                    | (refine wp_allocS (n := w6.heap.size) rfl rfl rfl ?_)
                    | (refine wp_storeS (b := w6.heap.size) rfl rfl rfl rfl rfl HI6.out.in_.one (heap_alloc_new _ _) rfl ?_; intro w7 h7; obtain ⟨hx7, hb7⟩ := bx_sto (e := ⟨X, x1, y1, z1⟩) HI6.out.in_ h7; have HX7 := Lib.hid hx7.box; have HO7 := Lib.hid ((HI6.out.kept hb7).low (Nat.zero_le _)); have HP7 := Lib.hid (HP6.out.kept hb7); clear hx7 hb7 h7))
                  go_simp
                  change Code.wp _ _ _ _ w7
                  clear HI6 HP6
                  generalize w6.heap.size = b7 at HX7 ⊢
                  go_cut [108] from 56 to 108 (fun s108 wx => s108 = .bool false ∧ Hid (Pm w (.slice (some ad) q c) n m k r b4 s x y z wx ∧ SBox wx b7 X x1 y1 z1 ∧ Own wx 0 X x1 y1 z1))
                  case first =>
                    have H7 : Hid (Pm w (.slice (some ad) q c) n m k r b4 s x y z w7 ∧ SBox w7 b7 X x1 y1 z1 ∧ Own w7 0 X x1 y1 z1) := Lib.hid ⟨HP7.out, HX7.out, HO7.out⟩
                    clear HP7 HX7 HO7
                    go_wp2_with fail
                    refine num9_then ?_
                    go_wp2_with (refine wp_loadS (b := b7) (s := X) (x0 := x1) (y0 := y1) (z0 := z1) rfl rfl rfl H7.out.2.1 ?_)
                    refine (refScreen_any X x1 y1 z1 w7 H7.out.2.2.in_ HOK2.out.shorts (HT.out.kept H7.out.1.run.bel)).mono ?_; rintro e w8 ⟨rfl, hb⟩
                    have HOB : Hid (okB X = true) := Lib.hid ((ok_iff X).2 HOK2.out)
                    rw [HOB.out]
                    have H8 : Hid (Pm w (.slice (some ad) q c) n m k r b4 s x y z w8 ∧ SBox w8 b7 X x1 y1 z1 ∧ Own w8 0 X x1 y1 z1) := Lib.hid ⟨H7.out.1.kept hb, H7.out.2.1.kept hb, H7.out.2.2.kept hb⟩
                    clear hb H7
                    have d40 : w8.cell? ⟨b4, 40, none⟩ = some (.int .i64 s.modes) := H8.out.1.box.cell 40
                    have d41 : w8.cell? ⟨b4, 41, none⟩ = some (.string ⟨s.title.toArray⟩) := H8.out.1.box.cell 41
                    have d37 : w8.cell? ⟨b4, 37, none⟩ = some (.int .i64 s.top) := H8.out.1.box.cell 37
                    have d38 : w8.cell? ⟨b4, 38, none⟩ = some (.int .i64 s.bottom) := H8.out.1.box.cell 38
                    have e40 : w8.cell? ⟨b7, 40, none⟩ = some (.int .i64 s.modes) := by have k := H8.out.2.1.cell 40; rw [sarr_40, HKP.out.modes] at k; exact k
                    have e41 : w8.cell? ⟨b7, 41, none⟩ = some (.string ⟨s.title.toArray⟩) := by have k := H8.out.2.1.cell 41; rw [sarr_41, HKP.out.title] at k; exact k
                    have e37 : w8.cell? ⟨b7, 37, none⟩ = some (.int .i64 s.top) := by have k := H8.out.2.1.cell 37; rw [sarr_37, HKP.out.top] at k; exact k
                    have e38 : w8.cell? ⟨b7, 38, none⟩ = some (.int .i64 s.bottom) := by have k := H8.out.2.1.cell 38; rw [sarr_38, HKP.out.bottom] at k; exact k
                    generalize (⟨s.title.toArray⟩ : ByteArray) = tt at d41 e41
                    go_wp2_with fail
                    refine (width_any r0 w8).mono ?_; rintro e w9 ⟨rfl, hb⟩
                    have H9 : Hid (Pm w (.slice (some ad) q c) n m k r b4 s x y z w9 ∧ SBox w9 b7 X x1 y1 z1 ∧ Own w9 0 X x1 y1 z1) := Lib.hid ⟨H8.out.1.kept hb, H8.out.2.1.kept hb, H8.out.2.2.kept hb⟩
                    clear hb H8 d40 d41 d37 d38 e40 e41 e37 e38
                    by_cases hpos : 0 < wid r0
                    · have hdp : decide (0 < wid r0) = true := decide_eq_true hpos
                      by_cases hls : X.last = r0
                      · have e42 : w9.cell? ⟨b7, 42, none⟩ = some (.int .i64 r0) := by have k := H9.out.2.1.cell 42; rw [sarr_42, hls] at k; exact k
                        go_wp2_with fail
                        go_meet
                        exact ⟨rfl, H9⟩
                      · have hxs : X = s := by rcases HLS.out hpos with hx | hx; exact hx; exact absurd hx hls
                        have e42 : w9.cell? ⟨b7, 42, none⟩ = some (.int .i64 X.last) := H9.out.2.1.cell 42
                        have hne : (X.last == r0) = false := by rw [beq_eq_false_iff_ne]; exact hls
                        have HEQ := Lib.hid (fun W (h1 : In W X x1 y1 z1) (h2 : In W X x y z) => eqScreen_same X x1 y1 z1 x y z W h1 h2 HOK2.out.lens8)
                        have HPX : Hid (Pm w (.slice (some ad) q c) n m k r b4 X x y z w9) := Lib.hid (by rw [hxs]; exact H9.out.1)
                        have HBX : Hid (SBox w9 b4 X x y z) := Lib.hid HPX.out.box
                        have hbn : (X.last != r0) = true := by rw [bne_iff_ne]; exact hls
                        clear hxs
                        go_wp2_with (first
                          | (refine wp_loadS (b := b7) (s := X) (x0 := x1) (y0 := y1) (z0 := z1) rfl rfl rfl H9.out.2.1 ?_)
                          | (refine wp_loadS (b := b4) (s := X) (x0 := x) (y0 := y) (z0 := z) rfl rfl rfl HBX.out ?_))
                        refine (HEQ.out w9 H9.out.2.2.in_ HPX.out.i).mono ?_; rintro e w10 ⟨rfl, hb⟩
                        have H10 : Hid (Pm w (.slice (some ad) q c) n m k r b4 s x y z w10 ∧ SBox w10 b7 X x1 y1 z1 ∧ Own w10 0 X x1 y1 z1) := Lib.hid ⟨H9.out.1.kept hb, H9.out.2.1.kept hb, H9.out.2.2.kept hb⟩
                        clear hb
                        go_wp2_with fail
                        go_meet
                        exact ⟨rfl, H10⟩
                    · have hdp : decide (0 < wid r0) = false := decide_eq_false hpos
                      go_wp2_with fail
                      go_meet
                      exact ⟨rfl, H9⟩
                  case rest =>
                    obtain ⟨rfl, H9⟩ := hcut
                    rename World => w9
                    clear HP7 HX7 HO7 HKP HLS
                    go_wp2_with (first
                      | (refine wp_loadS (b := b7) (s := X) (x0 := x1) (y0 := y1) (z0 := z1) rfl rfl rfl H9.out.2.1 ?_)
                      | (refine wp_storeS_then (b := b4) (A := sarr X x1 y1 z1) (T := fun W => ∃ s x y z, Ok s ∧ Pm w (.slice (some ad) q c) n m k r b4 s x y z W) rfl rfl rfl rfl rfl H9.out.2.2.in_.one H9.out.1.box rfl (fun _ k => ⟨_, _, _, _, HOK2.out, H9.out.1.put HLW.out H9.out.2.2 k⟩) ?_; intro w10 H10))
                    go_roundw
                    case rel => exact ⟨u + 1, by omega, by go_num, H10⟩
                    case measure => simp [intOf]; omega
            · obtain rfl : u = 12 := by omega
              go_wp2_with fail
              go_roundw
              case rel => exact ⟨i + 1, by omega, by omega, by go_num, Lib.hid HP.out.run⟩
              case measure => simp [intOf]; omega
      · go_wp2_with fail
        refine (HWK.out wr HR.out.bel).mono ?_; rintro e w2 ⟨rfl, hb⟩
        go_wp2_with fail
        go_ret
        exact ⟨rfl, HR.out.bel.trans (hb.mono HR.out.bel.size)⟩
    · go_wp2_with fail
      refine (HWK.out wr HR.out.bel).mono ?_; rintro e w2 ⟨rfl, hb⟩
      go_wp2_with fail
      go_ret
      exact ⟨rfl, HR.out.bel.trans (hb.mono HR.out.bel.size)⟩
end Scr
end Go.Proofs.YtgjpojaegjdjcaaGreatDoor
end
