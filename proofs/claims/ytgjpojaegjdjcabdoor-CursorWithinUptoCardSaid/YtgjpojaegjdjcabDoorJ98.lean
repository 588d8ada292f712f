/- Joined texts: CurLawW. -/
import Derived.Test.YtgjpojaegjdjcabDoorJ1
import Derived.Test.YtgjpojaegjdjcabDoorJ2
import Derived.Test.YtgjpojaegjdjcabDoorJ3
import Derived.Test.YtgjpojaegjdjcabDoorJ4
import Derived.Test.YtgjpojaegjdjcabDoorJ5
import Derived.Test.YtgjpojaegjdjcabDoorJ6
import Derived.Test.YtgjpojaegjdjcabDoorJ7
import Derived.Test.YtgjpojaegjdjcabDoorJ8
import Derived.Test.YtgjpojaegjdjcabDoorJ9
import Derived.Test.YtgjpojaegjdjcabDoorJ10
import Derived.Test.YtgjpojaegjdjcabDoorJ11
import Derived.Test.YtgjpojaegjdjcabDoorJ12
import Derived.Test.YtgjpojaegjdjcabDoorJ13
import Derived.Test.YtgjpojaegjdjcabDoorJ14
import Derived.Test.YtgjpojaegjdjcabDoorJ15
import Derived.Test.YtgjpojaegjdjcabDoorJ17
import Derived.Test.YtgjpojaegjdjcabDoorJ18
import Derived.Test.YtgjpojaegjdjcabDoorJ19
import Derived.Test.YtgjpojaegjdjcabDoorJ20
import Derived.Test.YtgjpojaegjdjcabDoorJ21
import Derived.Test.YtgjpojaegjdjcabDoorJ22
import Derived.Test.YtgjpojaegjdjcabDoorJ23
import Derived.Test.YtgjpojaegjdjcabDoorJ24
import Derived.Test.YtgjpojaegjdjcabDoorJ25
import Derived.Test.YtgjpojaegjdjcabDoorJ26
import Derived.Test.YtgjpojaegjdjcabDoorJ29
import Derived.Test.YtgjpojaegjdjcabDoorJ30
import Derived.Test.YtgjpojaegjdjcabDoorJ31
import Derived.Test.YtgjpojaegjdjcabDoorJ43
import Derived.Test.YtgjpojaegjdjcabDoorJ61
import Derived.Test.YtgjpojaegjdjcabDoorJ62
import Derived.Test.YtgjpojaegjdjcabDoorJ63
import Derived.Test.YtgjpojaegjdjcabDoorJ64
import Derived.Test.YtgjpojaegjdjcabDoorJ65
import Derived.Test.YtgjpojaegjdjcabDoorJ66
import Derived.Test.YtgjpojaegjdjcabDoorJ67
import Derived.Test.YtgjpojaegjdjcabDoorJ68
import Derived.Test.YtgjpojaegjdjcabDoorJ69
import Derived.Test.YtgjpojaegjdjcabDoorJ70
import Derived.Test.YtgjpojaegjdjcabDoorJ71
import Derived.Test.YtgjpojaegjdjcabDoorJ72
import Derived.Test.YtgjpojaegjdjcabDoorJ73
import Derived.Test.YtgjpojaegjdjcabDoorJ97
section
/- The law that a cursor stays within: walked. -/
namespace Go.Proofs.YtgjpojaegjdjcabDoor
set_option maxRecDepth 100000
open Go.RowKit
namespace Scr
open Go.Proofs.YtgjpojaegjdjcabDoor.Row

theorem rng_num {n hi : Int} (h0 : 0 ≤ n) (h1 : n ≤ hi) : Row.rng n 0 hi = true := by
  unfold Row.rng
  rw [decide_eq_true h0, decide_eq_true h1]; rfl
/-- The law's boxes: its screen, its keys. -/
structure Wb (w : World) (v : Value) (n m k r : Int) (b5 bk : Nat) (e : Sc) (W : World) : Prop where
  run : Run w W v n m k r
  x5 : Bx W b5 e
  kv : Kv W bk keysL
theorem Wb.kept {w W W' : World} {v : Value} {n m k r : Int} {b5 bk : Nat} {e : Sc} (h : Wb w v n m k r b5 bk e W) (hb : Below W.heap.size W W') : Wb w v n m k r b5 bk e W' := ⟨h.run.kept hb, h.x5.kept hb, h.kv.kept hb⟩
theorem within_end1 {w wd w5 w6 : World} {v : Value} {n m k r : Int} {b5 bk : Nat} {e : Sc} {X : S} {x y z : Value} (h : Wb w v n m k r b5 bk e wd) (hb : Below wd.heap.size wd w5) (ho : Own w5 wd.heap.size X x y z) (hs : Sto (w5.alloc (.cells zarr 37)) w5.heap.size (sarr X x y z) w6) :
    SBox w6 w5.heap.size X x y z ∧ Own w6 0 X x y z ∧ Wb w v n m k r b5 bk e w6 ∧ Below wd.heap.size wd w6 := by
  obtain ⟨h1, h2⟩ := bx_sto (e := ⟨X, x, y, z⟩) ho.in_ hs
  exact ⟨h1.box, (ho.low (Nat.zero_le _)).kept h2, (h.kept hb).kept h2, hb.trans (h2.mono hb.size)⟩
theorem within_end2 {w wd w5 w6 : World} {v : Value} {n m k r : Int} {b5 bk base : Nat} {e : Sc} {X : S} {x y z : Value} (h : Wb w v n m k r b5 bk e wd) (hb : Below wd.heap.size wd w5) (ho : Own w5 base X x y z) (hx : w5.heap[wd.heap.size]? = some (.cells zarr 37 (0, 0))) (hs : Sto w5 wd.heap.size (sarr X x y z) w6) :
    SBox w6 wd.heap.size X x y z ∧ Own w6 0 X x y z ∧ Wb w v n m k r b5 bk e w6 ∧ Below wd.heap.size wd w6 := by
  have h6 : Below wd.heap.size wd w6 := hs.below _ _ (Nat.le_refl _) hb
  exact ⟨hs.box, hs.own2 hx (ho.low (Nat.zero_le _)), h.kept h6, h6⟩
theorem within_put {w w7 : World} {v : Value} {n m k r : Int} {b5 b7 bk B : Nat} {e : Sc} {R C : Int} {x y z : Value} (hb : SBox w7 b7 (noWrap (atPlace e.s R C)) x y z) (ho : Own w7 0 (noWrap (atPlace e.s R C)) x y z) (h : Wb w v n m k r b5 bk e w7) (hl : b5 < B ∧ bk < B ∧ w.heap.size < B) (h7 : B ≤ b7)
    (hi : ∀ W, Below w.heap.size w W → In W e.s e.x e.y e.z) : SBox (cput w7 b7 e.s.cur) b7 e.s x y z ∧ Own (cput w7 b7 e.s.cur) 0 e.s x y z ∧ Wb w v n m k r b5 bk e (cput w7 b7 e.s.cur) := by
  have hon := cput_only w7 b7 e.s.cur
  have k1 : SBox (cput w7 b7 e.s.cur) b7 e.s x y z := SBox.cput hb e.s.cur
  have k2 := own_onlyS ho hb hon
  have hbl : Below w.heap.size w (cput w7 b7 e.s.cur) := cput_below h.run.bel (by omega) _
  have hB : Below B w7 (cput w7 b7 e.s.cur) := cput_below (Below.refl B w7) h7 _
  refine ⟨k1, ⟨k2.m, k2.o, k2.t⟩, ⟨hbl, hon.2 _ _ (by omega) h.run.box⟩, ⟨hon.2 _ _ (by omega) h.x5.box, hi _ hbl⟩, fun i hi' => ?_⟩
  have e1 := hB.block bk hl.2.1
  have e2 := h.kv i hi'
  unfold World.cell? at e2 ⊢
  simp only at e2 ⊢
  rw [e1]
  exact e2
set_option maxHeartbeats 12000000 in
theorem lawCursorWithin_any (v : Value) (l : List Sc) (n m k r : Int) (w : World) (h : Scrs 1048576 w v l) (hl : l.length ≤ 140737488355328) (hT : Tabs w) :
    Calls Tryd.prog 11 #[.agg #[v, .int .i64 n, .int .i64 m, .int .i64 k, .int .i64 r]] w fun e w' => e = .returned (.bool true) ∧ Below w.heap.size w w' := by
  have HT := Lib.hid hT
  obtain ⟨⟨A, c, rfl, hc, hf⟩, h2⟩ := id h
  have HF := Lib.hid hf
  have H2 := Lib.hid h2
  have H0 := Lib.hid (Run.start w (.slice A l.length c) n m k r)
  have HH := Lib.hid (heavy8 (.slice A l.length c) l n m k r _ (h.kept H0.out.bel) hl (by decide))
  have HWK := Lib.hid (fun W (hW : Below w.heap.size w W) => wakes10 W (hT.kept hW))
  obtain ⟨q, hq⟩ : ∃ q, l.length = q := ⟨_, rfl⟩
  rw [hq] at HF H2 H0 HH ⊢
  clear h hT h2 hf hl hc hq
  go_enter Tryd.func11, Tryd.ntmps11
  go_wp2_with fail
  refine HH.out.mono ?_; rintro e w1 ⟨b, rfl, hw, hb⟩
  have H1 := Lib.hid (H0.out.kept hb)
  have HW := Lib.hid hw
  clear hw hb HH H0
  cases b
  case true =>
    go_wp2_with fail
    go_ret
    exact ⟨rfl, H1.out.bel⟩
  have HKB := Lib.hid (kbox_kv w1)
  have H1 := Lib.hid (H1.out.kept (bel_alloc w1 kbox))
  go_upto_region 4 with (fail)
  change Code.wp _ _ _ _ (w1.alloc kbox)
  generalize w1.alloc kbox = w2 at H1 HKB ⊢
  generalize w1.heap.size = bk at HKB ⊢
  go_wp2_with fail
  go_loopw [4] (fun j wr => ∃ i : Nat, i ≤ q ∧ i ≤ 4 ∧ j = .int .i64 i ∧ Hid (Run w wr (.slice A q c) n m k r) ∧ Hid (Kv wr bk keysL)) (fun j _ => q - (intOf j).toNat)
  case atStart => exact ⟨0, by omega, by omega, rfl, H1, HKB⟩
  case round =>
    clear H1 HKB
    obtain ⟨i, hi, hi4, rfl, HR, HKB⟩ := hrel
    have b0 : wr.cell? ⟨w.heap.size, 0, none⟩ = some (.slice A q c) := Blk.cell HR.out.box 0
    by_cases hiq : i < q
    · by_cases h4 : i < 4
      · obtain ⟨ad, rfl, hat⟩ := HF.out i hiq
        have hI := H2.out i hiq
        have hFt := fit8 hI.2 (HW.out trivial i hiq)
        generalize l.getD i noSc = sc at hat hI hFt
        have HAT := Lib.hid (show At w (ad.add (i * 43)) (sarr sc.s sc.x sc.y sc.z).toList from hat)
        have HI3 : Hid (In wr sc.s sc.x sc.y sc.z) := Lib.hid (hI.1.kept HR.out.bel)
        have HFT := Lib.hid hFt
        have HIN : Hid (∀ W, Below w.heap.size w W → In W sc.s sc.x sc.y sc.z) := Lib.hid fun W hb => hI.1.kept hb
        clear hat hI hFt
        have h4i : (i : Int) < 4 := by omega
        have h4d : decide ((i : Int) < 4) = true := decide_eq_true h4i
        go_upto_region 8 with (first
          | (refine wp_loadArg rfl rfl rfl (HAT.out.kept HR.out.bel) ?_)
          | (refine wp_allocS (n := wr.heap.size) rfl rfl rfl ?_)
          | (refine wp_storeS (b := wr.heap.size) rfl rfl rfl rfl rfl HI3.out.one (heap_alloc_new _ _) rfl ?_; intro w3 h3; obtain ⟨hx3, hb3⟩ := bx_sto (e := ⟨sc.s, sc.x, sc.y, sc.z⟩) HI3.out h3; have HX3 := Lib.hid hx3; have HR3 := Lib.hid (HR.out.kept hb3); have HK3 := Lib.hid (HKB.out.kept hb3); clear hx3 hb3 h3))
        go_simp
        change Code.wp _ _ _ _ w3
        have HLW : Hid (w.heap.size < wr.heap.size) := Lib.hid (Blk.lt HR.out.box)
        clear b0 HI3 HAT HR HKB
        generalize wr.heap.size = b5 at HX3 HLW ⊢
        go_wp2_with (refine wp_loadS (b := b5) (s := sc.s) (x0 := sc.x) (y0 := sc.y) (z0 := sc.z) rfl rfl rfl HX3.out.box ?_)
        refine (refScreen_any sc.s sc.x sc.y sc.z w3 HX3.out.i HFT.out.sh (HT.out.kept HR3.out.bel)).mono ?_; rintro e w4 ⟨rfl, hb⟩
        have HX4 := Lib.hid (HX3.out.kept hb)
        have HR4 := Lib.hid (HR3.out.kept hb)
        have HK4 := Lib.hid (HK3.out.kept hb)
        clear hb HX3 HR3 HK3
        cases hok : okB sc.s
        · go_wp2_with fail
          go_roundw
          case rel => exact ⟨i + 1, by omega, by omega, by go_num, HR4, HK4⟩
          case measure => simp [intOf]; omega
        · have HOK := Lib.hid ((ok_iff _).1 hok)
          have HOB := Lib.hid hok
          have HS4 : Hid (Wb w (.slice (some ad) q c) n m k r b5 bk sc w4) := Lib.hid ⟨HR4.out, HX4.out, HK4.out⟩
          clear hok HX4 HR4 HK4
          go_wp2_with fail
          go_loopw [6] (fun j wr => ∃ u : Nat, u ≤ 11 ∧ j = .int .i64 u ∧ Hid (Wb w (.slice (some ad) q c) n m k r b5 bk sc wr)) (fun j _ => 11 - (intOf j).toNat)
          case atStart => exact ⟨0, by omega, rfl, HS4⟩
          case round =>
            clear HS4
            obtain ⟨u, hu, rfl, HS⟩ := hrel
            have HLT : Hid (b5 < wr.heap.size ∧ bk < wr.heap.size ∧ w.heap.size < wr.heap.size) := Lib.hid ⟨Blk.lt HS.out.x5.box, World.block_lt_of_cell? _ _ (HS.out.kv 0 (by decide)), Blk.lt HS.out.run.box⟩
            by_cases hu11 : u < 11
            · have hui : (u : Int) < 11 := by omega
              obtain ⟨key, hke⟩ : ∃ key, keysL.getD u 0 = key := ⟨_, rfl⟩
              have HKY : Hid (keyB key = true) := Lib.hid (keys_iff.2 ⟨u, hu11, hke⟩)
              have HWN := Lib.hid (fun W => within8 n 10000 (by decide) (by decide) W)
              have HWM := Lib.hid (fun W => within8 m 60 (by decide) (by decide) W)
              have hn1 : wi8 n 10000 < 10000 := Nat.mod_lt _ (by decide)
              have hm1 : wi8 m 60 < 60 := Nat.mod_lt _ (by decide)
              obtain ⟨nn, hnn⟩ : ∃ nn : Int, ((wi8 n 10000 : Nat) : Int) = nn := ⟨_, rfl⟩
              obtain ⟨mm, hmm⟩ : ∃ mm : Int, ((wi8 m 60 : Nat) : Int) = mm := ⟨_, rfl⟩
              simp only [hnn] at HWN
              simp only [hmm] at HWM
              have HMAY : Hid (mayB sc.s key nn mm = true) := Lib.hid (mayB_iff.2 ⟨HOB.out, HKY.out, numB_iff.2 (by omega), numB_iff.2 (by omega)⟩)
              have HMV := Lib.hid (fun W (hI : In W sc.s sc.x sc.y sc.z) (hT : Tabs W) => moveD sc.s sc.x sc.y sc.z key nn mm W hI HFT.out.h hT)
              obtain ⟨R, C, hRC, hr0, hr1, hc0, hc1⟩ := moveS_is HOK.out.fc key nn mm
              have HRC := Lib.hid hRC
              have HRN := Lib.hid (rng_num hr0 hr1)
              have HCN := Lib.hid (rng_num hc0 hc1)
              have hsd := gridB_sides HOK.out.m
              have hwr1 : IntKind.i64.wrap (sc.s.main.rows - 1) = sc.s.main.rows - 1 := by rw [IntKind.wrap_i64]; omega
              have hwc1 : IntKind.i64.wrap (sc.s.main.cols - 1) = sc.s.main.cols - 1 := by rw [IntKind.wrap_i64]; omega
              clear hRC hr0 hr1 hc0 hc1 hsd hn1 hm1 hnn hmm
              have HQ : Hid (∀ W, Wb w (.slice (some ad) q c) n m k r b5 bk sc W → W.cell? ⟨bk, u, none⟩ = some (.int .i64 key) ∧ W.cell? ⟨w.heap.size, 1, none⟩ = some (.int .i64 n) ∧ W.cell? ⟨w.heap.size, 2, none⟩ = some (.int .i64 m) ∧ Hid (SBox W b5 sc.s sc.x sc.y sc.z)) := Lib.hid fun W h =>
                ⟨by rw [← hke]; exact h.kv u hu11, Blk.cell h.run.box 1, Blk.cell h.run.box 2, Lib.hid h.x5.box⟩
              clear hke
              go_upto_region 12 with (fail)
              go_cut [7, 8] from 37 to 51 (fun s7 s8 wx => ∃ x y z b7, s7 = .pointer (some ⟨b7, 0, none⟩) ∧ s8 = .int .i64 0 ∧ Hid (SBox wx b7 (moveS sc.s key nn mm) x y z ∧ Own wx 0 (moveS sc.s key nn mm) x y z ∧ Wb w (.slice (some ad) q c) n m k r b5 bk sc wx ∧ wr.heap.size ≤ b7 ∧ Below wr.heap.size wr wx))
              case first =>
                have HSd := Lib.hid (HS.out.kept (Below.refl _ _).drew)
                have HBd : Hid (Below wr.heap.size wr wr.drew) := Lib.hid (Below.refl _ _).drew
                have q4 := HQ.out _ HSd.out
                have q5 := HQ.out _ (HSd.out.kept (bel_alloc wr.drew (.cells zarr 37)))
                refine wp_region_held_drew (S := fun w' => w'.cell? ⟨bk, u, none⟩ = some (.int .i64 key) ∧ w'.cell? ⟨w.heap.size, 1, none⟩ = some (.int .i64 n) ∧ w'.cell? ⟨w.heap.size, 2, none⟩ = some (.int .i64 m) ∧ Hid (SBox w' b5 sc.s sc.x sc.y sc.z)) (by kernel_rfl) q4 (fun hHeld => ?_)
                have HLD : Hid (wr.drew.heap.size = wr.heap.size) := Lib.hid rfl
                generalize wr.drew = wd at HSd HBd q4 q5 HLD ⊢
                refine wpAnyH_take (i := 0) (v := sv sc.s sc.x sc.y sc.z) rfl (by kernel_rfl) (by kernel_rfl) (by kernel_rfl) (fun _ _ _ h => h) (yields_loadS rfl rfl rfl (fun w' hS => hS.2.2.2.out.at)) (by assumption) ?_
                simp only [Act.put, List.getElem_toArray, List.getElem_cons_zero, List.setIfInBounds_toArray, List.set_cons_zero, List.set_cons_succ]
                refine wpAnyH_take (i := 1) (v := ?_) rfl (by kernel_rfl) (by kernel_rfl) (by kernel_rfl) (fun _ _ _ h => h) (Or.inl ⟨by rfl, ?_⟩) (by assumption) ?_
                rotate_left
                · intro w' hSw; first | (go_simp; done) | (go_simp; with_reducible rfl)
                simp only [Act.put, List.getElem_toArray, List.getElem_cons_zero, List.getElem_cons_succ, List.setIfInBounds_toArray, List.set_cons_zero, List.set_cons_succ]
                refine wpAnyH_take (i := 2) (v := ?_) rfl (by kernel_rfl) (by kernel_rfl) (by kernel_rfl) (fun _ _ _ h => h) (Or.inl ⟨by rfl, ?_⟩) (by assumption) ?_
                rotate_left
                · intro w' hSw; first | (go_simp; done) | (go_simp; with_reducible rfl)
                simp only [Act.put, List.getElem_toArray, List.getElem_cons_zero, List.getElem_cons_succ, List.setIfInBounds_toArray, List.set_cons_zero, List.set_cons_succ]
                refine wpAnyH_take (i := 3) (v := ?_) rfl (by kernel_rfl) (by kernel_rfl) (by kernel_rfl) (fun _ _ _ h => h) (Or.inl ⟨by rfl, ?_⟩) (by assumption) ?_
                rotate_left
                · intro w' hSw; first | (go_simp; done) | (go_simp; with_reducible rfl)
                simp only [Act.put, List.getElem_toArray, List.getElem_cons_zero, List.getElem_cons_succ, List.setIfInBounds_toArray, List.set_cons_zero, List.set_cons_succ]
                refine wpAnyH_take (i := 4) (v := ?_) rfl (by kernel_rfl) (by kernel_rfl) (by kernel_rfl) (fun _ _ _ h => h) (Or.inl ⟨by rfl, ?_⟩) (by assumption) ?_
                rotate_left
                · intro w' hSw; first | (go_simp; done) | (go_simp; with_reducible rfl)
                simp only [Act.put, List.getElem_toArray, List.getElem_cons_zero, List.getElem_cons_succ, List.setIfInBounds_toArray, List.set_cons_zero, List.set_cons_succ]
                refine wpAnyH_take (i := 5) (v := ?_) rfl (by kernel_rfl) (by kernel_rfl) (by kernel_rfl) (fun _ _ _ h => h) (Or.inl ⟨by rfl, ?_⟩) (by assumption) ?_
                rotate_left
                · intro w' hSw; first | (go_simp; done) | (go_simp; with_reducible rfl)
                simp only [Act.put, List.getElem_toArray, List.getElem_cons_zero, List.getElem_cons_succ, List.setIfInBounds_toArray, List.set_cons_zero, List.set_cons_succ]
                refine wpAnyH_take (i := 6) (v := ?_) rfl (by kernel_rfl) (by kernel_rfl) (by kernel_rfl) (fun _ _ _ h => h) (Or.inl ⟨by rfl, ?_⟩) (by assumption) ?_
                rotate_left
                · intro w' hSw; first | (go_simp; done) | (go_simp; with_reducible rfl)
                simp only [Act.put, List.getElem_toArray, List.getElem_cons_zero, List.getElem_cons_succ, List.setIfInBounds_toArray, List.set_cons_zero, List.set_cons_succ]
                refine wpAnyH_take (i := 8) (v := ?_) rfl (by kernel_rfl) (by kernel_rfl) (by kernel_rfl) (fun _ _ _ h => h) (Or.inl ⟨by rfl, ?_⟩) (by assumption) ?_
                rotate_left
                · intro w' hSw; first | (go_simp; done) | (go_simp; with_reducible rfl)
                simp only [Act.put, List.getElem_toArray, List.getElem_cons_zero, List.getElem_cons_succ, List.setIfInBounds_toArray, List.set_cons_zero, List.set_cons_succ]
                refine wpAnyH_take (i := 9) (v := ?_) rfl (by kernel_rfl) (by kernel_rfl) (by kernel_rfl) (fun _ _ _ h => h) (Or.inl ⟨by rfl, ?_⟩) (by assumption) ?_
                rotate_left
                · intro w' hSw; first | (go_simp; done) | (go_simp; with_reducible rfl)
                simp only [Act.put, List.getElem_toArray, List.getElem_cons_zero, List.getElem_cons_succ, List.setIfInBounds_toArray, List.set_cons_zero, List.set_cons_succ]
                refine wpAnyH_ready (rs := [7, 15]) (by kernel_rfl) (by simp) ?_
                refine AllReadyH.cons rfl (fun K hK => ?_) (AllReadyH.cons rfl (fun K hK => ?_) AllReadyH.nil)
                · go_simp
                  go_at_call 16
                  refine (HWN.out _).mono ?_; rintro e wz ⟨rfl, hwz⟩
                  rw [hwz]
                  clear hwz wz
                  refine hK.out _ _ q4 (fun hHeld => ?_)
                  clear hK K
                  refine wpAnyH_ready (rs := [10, 15]) (by kernel_rfl) (by simp) ?_
                  refine AllReadyH.cons rfl (fun K hK => ?_) (AllReadyH.cons rfl (fun K hK => ?_) AllReadyH.nil)
                  · go_simp
                    go_at_call 16
                    refine (HWM.out _).mono ?_; rintro e wz ⟨rfl, hwz⟩
                    rw [hwz]
                    clear hwz wz
                    refine hK.out _ _ q4 (fun hHeld => ?_)
                    clear hK K
                    refine wpAnyH_ready (rs := [11, 15]) (by kernel_rfl) (by simp) ?_
                    refine AllReadyH.cons rfl (fun K hK => ?_) (AllReadyH.cons rfl (fun K hK => ?_) AllReadyH.nil)
                    · go_simp
                      go_at_call 15
                      refine (HMV.out wd HSd.out.x5.i (HT.out.kept HSd.out.run.bel)).mono ?_; rintro e w5 ⟨X, x, y, z, code, rfl, hans⟩
                      obtain rfl := hans.yes HMAY.out
                      have hcode : code = 0 := by rw [hans.code, HMAY.out]; rfl
                      subst hcode
                      have HO5 := Lib.hid hans.own
                      have HB5 := Lib.hid hans.bel
                      have HS6 := Lib.hid (HSd.out.kept hans.bel)
                      have q6 := HQ.out _ HS6.out
                      have q7 := HQ.out _ (HS6.out.kept (bel_alloc w5 (.cells zarr 37)))
                      clear hans
                      refine hK.out _ _ q6 (fun hHeld => ?_)
                      clear hK K
                      refine wpAnyH_take (i := 12) (v := ?_) rfl (by kernel_rfl) (by kernel_rfl) (by kernel_rfl) (fun _ _ _ h => h) (Or.inl ⟨by rfl, ?_⟩) (by assumption) ?_
                      rotate_left
                      · intro w' hSw; first | (go_simp; done) | (go_simp; with_reducible rfl)
                      simp only [Act.put, List.getElem_toArray, List.getElem_cons_zero, List.getElem_cons_succ, List.setIfInBounds_toArray, List.set_cons_zero, List.set_cons_succ]
                      refine wpAnyH_take (i := 13) (v := ?_) rfl (by kernel_rfl) (by kernel_rfl) (by kernel_rfl) (fun _ _ _ h => h) (Or.inl ⟨by rfl, ?_⟩) (by assumption) ?_
                      rotate_left
                      · intro w' hSw; first | (go_simp; done) | (go_simp; with_reducible rfl)
                      simp only [Act.put, List.getElem_toArray, List.getElem_cons_zero, List.getElem_cons_succ, List.setIfInBounds_toArray, List.set_cons_zero, List.set_cons_succ]
                      refine wpAnyH_take (i := 14) (v := ?_) rfl (by kernel_rfl) (by kernel_rfl) (by kernel_rfl) (fun _ _ _ h => h) (Or.inl ⟨by rfl, ?_⟩) (by assumption) ?_
                      rotate_left
                      · intro w' hSw; first | (go_simp; done) | (go_simp; with_reducible rfl)
                      simp only [Act.put, List.getElem_toArray, List.getElem_cons_zero, List.getElem_cons_succ, List.setIfInBounds_toArray, List.set_cons_zero, List.set_cons_succ]
                      refine wpAnyH_ready (rs := [15]) (by kernel_rfl) (by simp) ?_
                      refine AllReadyH.cons rfl (fun K hK => ?_) AllReadyH.nil
                      refine step_allocS (n := w5.heap.size) rfl rfl rfl ?_
                      refine hK.out _ _ q7 (fun hHeld => ?_)
                      clear hK K
                      refine wpAnyH_ready (rs := [16]) (by kernel_rfl) (by simp) ?_
                      refine AllReadyH.cons rfl (fun K hK => ?_) AllReadyH.nil
                      refine step_storeS (b := w5.heap.size) (A := sarr (moveS sc.s key nn mm) x y z) rfl rfl rfl rfl rfl HO5.out.in_.one (heap_alloc_new _ _) rfl ?_; intro w6 h6
                      have HE := Lib.hid (within_end1 HSd.out HB5.out HO5.out h6)
                      have q8 := HQ.out _ HE.out.2.2.1
                      refine hK.out _ _ q8 (fun hHeld => ?_)
                      clear hK K
                      refine wpAnyH_take (i := 17) (v := ?_) rfl (by kernel_rfl) (by kernel_rfl) (by kernel_rfl) (fun _ _ _ h => h) (Or.inl ⟨by rfl, ?_⟩) (by assumption) ?_
                      rotate_left
                      · intro w' hSw; first | (go_simp; done) | (go_simp; with_reducible rfl)
                      simp only [Act.put, List.getElem_toArray, List.getElem_cons_zero, List.getElem_cons_succ, List.setIfInBounds_toArray, List.set_cons_zero, List.set_cons_succ]
                      refine wpAnyH_done (by kernel_rfl) ?_ _
                      go_wp2_with fail
                      go_meet
                      exact ⟨_, _, _, _, rfl, rfl, Lib.hid ⟨HE.out.1, HE.out.2.1, HE.out.2.2.1, by have := HLD.out; have := HB5.out.size; omega, HBd.out.trans (HE.out.2.2.2.mono (by have := HLD.out; omega))⟩⟩
                    · refine step_allocS (n := wd.heap.size) rfl rfl rfl ?_
                      refine hK.out _ _ q5 (fun hHeld => ?_)
                      clear hK K
                      refine wpAnyH_ready (rs := [11]) (by kernel_rfl) (by simp) ?_
                      refine AllReadyH.cons rfl (fun K hK => ?_) AllReadyH.nil
                      · go_simp
                        go_at_call 15
                        have HS5 : Hid (Wb w (.slice (some ad) q c) n m k r b5 bk sc (wd.alloc (.cells zarr 37))) := Lib.hid (HSd.out.kept (bel_alloc wd _))
                        refine (HMV.out (wd.alloc (.cells zarr 37)) HS5.out.x5.i (HT.out.kept HS5.out.run.bel)).mono ?_; rintro e w5 ⟨X, x, y, z, code, rfl, hans⟩
                        obtain rfl := hans.yes HMAY.out
                        have hcode : code = 0 := by rw [hans.code, HMAY.out]; rfl
                        subst hcode
                        have HO5 := Lib.hid hans.own
                        have HB5 := Lib.hid hans.bel
                        have HS6 := Lib.hid (HS5.out.kept hans.bel)
                        have HX6 : Hid (w5.heap[wd.heap.size]? = some (.cells zarr 37 (0, 0))) := Lib.hid (Blk.kept (heap_alloc_new wd _) hans.bel)
                        have q6 := HQ.out _ HS6.out
                        clear hans
                        refine hK.out _ _ q6 (fun hHeld => ?_)
                        clear hK K
                        refine wpAnyH_take (i := 12) (v := ?_) rfl (by kernel_rfl) (by kernel_rfl) (by kernel_rfl) (fun _ _ _ h => h) (Or.inl ⟨by rfl, ?_⟩) (by assumption) ?_
                        rotate_left
                        · intro w' hSw; first | (go_simp; done) | (go_simp; with_reducible rfl)
                        simp only [Act.put, List.getElem_toArray, List.getElem_cons_zero, List.getElem_cons_succ, List.setIfInBounds_toArray, List.set_cons_zero, List.set_cons_succ]
                        refine wpAnyH_take (i := 13) (v := ?_) rfl (by kernel_rfl) (by kernel_rfl) (by kernel_rfl) (fun _ _ _ h => h) (Or.inl ⟨by rfl, ?_⟩) (by assumption) ?_
                        rotate_left
                        · intro w' hSw; first | (go_simp; done) | (go_simp; with_reducible rfl)
                        simp only [Act.put, List.getElem_toArray, List.getElem_cons_zero, List.getElem_cons_succ, List.setIfInBounds_toArray, List.set_cons_zero, List.set_cons_succ]
                        refine wpAnyH_take (i := 14) (v := ?_) rfl (by kernel_rfl) (by kernel_rfl) (by kernel_rfl) (fun _ _ _ h => h) (Or.inl ⟨by rfl, ?_⟩) (by assumption) ?_
                        rotate_left
                        · intro w' hSw; first | (go_simp; done) | (go_simp; with_reducible rfl)
                        simp only [Act.put, List.getElem_toArray, List.getElem_cons_zero, List.getElem_cons_succ, List.setIfInBounds_toArray, List.set_cons_zero, List.set_cons_succ]
                        refine wpAnyH_ready (rs := [16]) (by kernel_rfl) (by simp) ?_
                        refine AllReadyH.cons rfl (fun K hK => ?_) AllReadyH.nil
                        refine step_storeS (b := wd.heap.size) (A := sarr (moveS sc.s key nn mm) x y z) rfl rfl rfl rfl rfl HO5.out.in_.one HX6.out rfl ?_; intro w6 h6
                        have hbw : Below wd.heap.size wd w5 := (bel_alloc wd _).trans (HB5.out.mono (by simp))
                        have HE := Lib.hid (within_end2 HSd.out hbw HO5.out HX6.out h6)
                        have q7 := HQ.out _ HE.out.2.2.1
                        refine hK.out _ _ q7 (fun hHeld => ?_)
                        clear hK K
                        refine wpAnyH_take (i := 17) (v := ?_) rfl (by kernel_rfl) (by kernel_rfl) (by kernel_rfl) (fun _ _ _ h => h) (Or.inl ⟨by rfl, ?_⟩) (by assumption) ?_
                        rotate_left
                        · intro w' hSw; first | (go_simp; done) | (go_simp; with_reducible rfl)
                        simp only [Act.put, List.getElem_toArray, List.getElem_cons_zero, List.getElem_cons_succ, List.setIfInBounds_toArray, List.set_cons_zero, List.set_cons_succ]
                        refine wpAnyH_done (by kernel_rfl) ?_ _
                        go_wp2_with fail
                        go_meet
                        exact ⟨_, _, _, _, rfl, rfl, Lib.hid ⟨HE.out.1, HE.out.2.1, HE.out.2.2.1, by have := HLD.out; omega, HBd.out.trans (HE.out.2.2.2.mono (by have := HLD.out; omega))⟩⟩
                  · refine step_allocS (n := wd.heap.size) rfl rfl rfl ?_
                    refine hK.out _ _ q5 (fun hHeld => ?_)
                    clear hK K
                    refine wpAnyH_ready (rs := [10]) (by kernel_rfl) (by simp) ?_
                    refine AllReadyH.cons rfl (fun K hK => ?_) AllReadyH.nil
                    · go_simp
                      go_at_call 16
                      refine (HWM.out _).mono ?_; rintro e wz ⟨rfl, hwz⟩
                      rw [hwz]
                      clear hwz wz
                      refine hK.out _ _ q5 (fun hHeld => ?_)
                      clear hK K
                      refine wpAnyH_ready (rs := [11]) (by kernel_rfl) (by simp) ?_
                      refine AllReadyH.cons rfl (fun K hK => ?_) AllReadyH.nil
                      · go_simp
                        go_at_call 15
                        have HS5 : Hid (Wb w (.slice (some ad) q c) n m k r b5 bk sc (wd.alloc (.cells zarr 37))) := Lib.hid (HSd.out.kept (bel_alloc wd _))
                        refine (HMV.out (wd.alloc (.cells zarr 37)) HS5.out.x5.i (HT.out.kept HS5.out.run.bel)).mono ?_; rintro e w5 ⟨X, x, y, z, code, rfl, hans⟩
                        obtain rfl := hans.yes HMAY.out
                        have hcode : code = 0 := by rw [hans.code, HMAY.out]; rfl
                        subst hcode
                        have HO5 := Lib.hid hans.own
                        have HB5 := Lib.hid hans.bel
                        have HS6 := Lib.hid (HS5.out.kept hans.bel)
                        have HX6 : Hid (w5.heap[wd.heap.size]? = some (.cells zarr 37 (0, 0))) := Lib.hid (Blk.kept (heap_alloc_new wd _) hans.bel)
                        have q6 := HQ.out _ HS6.out
                        clear hans
                        refine hK.out _ _ q6 (fun hHeld => ?_)
                        clear hK K
                        refine wpAnyH_take (i := 12) (v := ?_) rfl (by kernel_rfl) (by kernel_rfl) (by kernel_rfl) (fun _ _ _ h => h) (Or.inl ⟨by rfl, ?_⟩) (by assumption) ?_
                        rotate_left
                        · intro w' hSw; first | (go_simp; done) | (go_simp; with_reducible rfl)
                        simp only [Act.put, List.getElem_toArray, List.getElem_cons_zero, List.getElem_cons_succ, List.setIfInBounds_toArray, List.set_cons_zero, List.set_cons_succ]
                        refine wpAnyH_take (i := 13) (v := ?_) rfl (by kernel_rfl) (by kernel_rfl) (by kernel_rfl) (fun _ _ _ h => h) (Or.inl ⟨by rfl, ?_⟩) (by assumption) ?_
                        rotate_left
                        · intro w' hSw; first | (go_simp; done) | (go_simp; with_reducible rfl)
                        simp only [Act.put, List.getElem_toArray, List.getElem_cons_zero, List.getElem_cons_succ, List.setIfInBounds_toArray, List.set_cons_zero, List.set_cons_succ]
                        refine wpAnyH_take (i := 14) (v := ?_) rfl (by kernel_rfl) (by kernel_rfl) (by kernel_rfl) (fun _ _ _ h => h) (Or.inl ⟨by rfl, ?_⟩) (by assumption) ?_
                        rotate_left
                        · intro w' hSw; first | (go_simp; done) | (go_simp; with_reducible rfl)
                        simp only [Act.put, List.getElem_toArray, List.getElem_cons_zero, List.getElem_cons_succ, List.setIfInBounds_toArray, List.set_cons_zero, List.set_cons_succ]
                        refine wpAnyH_ready (rs := [16]) (by kernel_rfl) (by simp) ?_
                        refine AllReadyH.cons rfl (fun K hK => ?_) AllReadyH.nil
                        refine step_storeS (b := wd.heap.size) (A := sarr (moveS sc.s key nn mm) x y z) rfl rfl rfl rfl rfl HO5.out.in_.one HX6.out rfl ?_; intro w6 h6
                        have hbw : Below wd.heap.size wd w5 := (bel_alloc wd _).trans (HB5.out.mono (by simp))
                        have HE := Lib.hid (within_end2 HSd.out hbw HO5.out HX6.out h6)
                        have q7 := HQ.out _ HE.out.2.2.1
                        refine hK.out _ _ q7 (fun hHeld => ?_)
                        clear hK K
                        refine wpAnyH_take (i := 17) (v := ?_) rfl (by kernel_rfl) (by kernel_rfl) (by kernel_rfl) (fun _ _ _ h => h) (Or.inl ⟨by rfl, ?_⟩) (by assumption) ?_
                        rotate_left
                        · intro w' hSw; first | (go_simp; done) | (go_simp; with_reducible rfl)
                        simp only [Act.put, List.getElem_toArray, List.getElem_cons_zero, List.getElem_cons_succ, List.setIfInBounds_toArray, List.set_cons_zero, List.set_cons_succ]
                        refine wpAnyH_done (by kernel_rfl) ?_ _
                        go_wp2_with fail
                        go_meet
                        exact ⟨_, _, _, _, rfl, rfl, Lib.hid ⟨HE.out.1, HE.out.2.1, HE.out.2.2.1, by have := HLD.out; omega, HBd.out.trans (HE.out.2.2.2.mono (by have := HLD.out; omega))⟩⟩
                · refine step_allocS (n := wd.heap.size) rfl rfl rfl ?_
                  refine hK.out _ _ q5 (fun hHeld => ?_)
                  clear hK K
                  refine wpAnyH_ready (rs := [7]) (by kernel_rfl) (by simp) ?_
                  refine AllReadyH.cons rfl (fun K hK => ?_) AllReadyH.nil
                  · go_simp
                    go_at_call 16
                    refine (HWN.out _).mono ?_; rintro e wz ⟨rfl, hwz⟩
                    rw [hwz]
                    clear hwz wz
                    refine hK.out _ _ q5 (fun hHeld => ?_)
                    clear hK K
                    refine wpAnyH_ready (rs := [10]) (by kernel_rfl) (by simp) ?_
                    refine AllReadyH.cons rfl (fun K hK => ?_) AllReadyH.nil
                    · go_simp
                      go_at_call 16
                      refine (HWM.out _).mono ?_; rintro e wz ⟨rfl, hwz⟩
                      rw [hwz]
                      clear hwz wz
                      refine hK.out _ _ q5 (fun hHeld => ?_)
                      clear hK K
                      refine wpAnyH_ready (rs := [11]) (by kernel_rfl) (by simp) ?_
                      refine AllReadyH.cons rfl (fun K hK => ?_) AllReadyH.nil
                      · go_simp
                        go_at_call 15
                        have HS5 : Hid (Wb w (.slice (some ad) q c) n m k r b5 bk sc (wd.alloc (.cells zarr 37))) := Lib.hid (HSd.out.kept (bel_alloc wd _))
                        refine (HMV.out (wd.alloc (.cells zarr 37)) HS5.out.x5.i (HT.out.kept HS5.out.run.bel)).mono ?_; rintro e w5 ⟨X, x, y, z, code, rfl, hans⟩
                        obtain rfl := hans.yes HMAY.out
                        have hcode : code = 0 := by rw [hans.code, HMAY.out]; rfl
                        subst hcode
                        have HO5 := Lib.hid hans.own
                        have HB5 := Lib.hid hans.bel
                        have HS6 := Lib.hid (HS5.out.kept hans.bel)
                        have HX6 : Hid (w5.heap[wd.heap.size]? = some (.cells zarr 37 (0, 0))) := Lib.hid (Blk.kept (heap_alloc_new wd _) hans.bel)
                        have q6 := HQ.out _ HS6.out
                        clear hans
                        refine hK.out _ _ q6 (fun hHeld => ?_)
                        clear hK K
                        refine wpAnyH_take (i := 12) (v := ?_) rfl (by kernel_rfl) (by kernel_rfl) (by kernel_rfl) (fun _ _ _ h => h) (Or.inl ⟨by rfl, ?_⟩) (by assumption) ?_
                        rotate_left
                        · intro w' hSw; first | (go_simp; done) | (go_simp; with_reducible rfl)
                        simp only [Act.put, List.getElem_toArray, List.getElem_cons_zero, List.getElem_cons_succ, List.setIfInBounds_toArray, List.set_cons_zero, List.set_cons_succ]
                        refine wpAnyH_take (i := 13) (v := ?_) rfl (by kernel_rfl) (by kernel_rfl) (by kernel_rfl) (fun _ _ _ h => h) (Or.inl ⟨by rfl, ?_⟩) (by assumption) ?_
                        rotate_left
                        · intro w' hSw; first | (go_simp; done) | (go_simp; with_reducible rfl)
                        simp only [Act.put, List.getElem_toArray, List.getElem_cons_zero, List.getElem_cons_succ, List.setIfInBounds_toArray, List.set_cons_zero, List.set_cons_succ]
                        refine wpAnyH_take (i := 14) (v := ?_) rfl (by kernel_rfl) (by kernel_rfl) (by kernel_rfl) (fun _ _ _ h => h) (Or.inl ⟨by rfl, ?_⟩) (by assumption) ?_
                        rotate_left
                        · intro w' hSw; first | (go_simp; done) | (go_simp; with_reducible rfl)
                        simp only [Act.put, List.getElem_toArray, List.getElem_cons_zero, List.getElem_cons_succ, List.setIfInBounds_toArray, List.set_cons_zero, List.set_cons_succ]
                        refine wpAnyH_ready (rs := [16]) (by kernel_rfl) (by simp) ?_
                        refine AllReadyH.cons rfl (fun K hK => ?_) AllReadyH.nil
                        refine step_storeS (b := wd.heap.size) (A := sarr (moveS sc.s key nn mm) x y z) rfl rfl rfl rfl rfl HO5.out.in_.one HX6.out rfl ?_; intro w6 h6
                        have hbw : Below wd.heap.size wd w5 := (bel_alloc wd _).trans (HB5.out.mono (by simp))
                        have HE := Lib.hid (within_end2 HSd.out hbw HO5.out HX6.out h6)
                        have q7 := HQ.out _ HE.out.2.2.1
                        refine hK.out _ _ q7 (fun hHeld => ?_)
                        clear hK K
                        refine wpAnyH_take (i := 17) (v := ?_) rfl (by kernel_rfl) (by kernel_rfl) (by kernel_rfl) (fun _ _ _ h => h) (Or.inl ⟨by rfl, ?_⟩) (by assumption) ?_
                        rotate_left
                        · intro w' hSw; first | (go_simp; done) | (go_simp; with_reducible rfl)
                        simp only [Act.put, List.getElem_toArray, List.getElem_cons_zero, List.getElem_cons_succ, List.setIfInBounds_toArray, List.set_cons_zero, List.set_cons_succ]
                        refine wpAnyH_done (by kernel_rfl) ?_ _
                        go_wp2_with fail
                        go_meet
                        exact ⟨_, _, _, _, rfl, rfl, Lib.hid ⟨HE.out.1, HE.out.2.1, HE.out.2.2.1, by have := HLD.out; omega, HBd.out.trans (HE.out.2.2.2.mono (by have := HLD.out; omega))⟩⟩
              case rest =>
                obtain ⟨x, y, z, b7, rfl, rfl, HP⟩ := hcut
                rename World => w7
                clear HS HQ HMV HWN HWM HMAY HKY
                rw [HRC.out] at HP
                have c5 : ∀ j, w7.cell? ⟨b5, j, none⟩ = (sarr sc.s sc.x sc.y sc.z)[j]? := HP.out.2.2.1.x5.box.cell
                have c7 : w7.cell? ⟨b7, 7, none⟩ = some (.int .i64 R) := HP.out.1.cell 7
                have c8 : w7.cell? ⟨b7, 8, none⟩ = some (.int .i64 C) := HP.out.1.cell 8
                have c9 : w7.cell? ⟨b7, 9, none⟩ = some (.bool false) := HP.out.1.cell 9
                have HNR := Lib.hid (fun W => Row.num_any R (sc.s.main.rows - 1) W)
                have HNC := Lib.hid (fun W => Row.num_any C (sc.s.main.cols - 1) W)
                rw [HRN.out] at HNR
                rw [HCN.out] at HNC
                go_wp2_with fail
                refine num10_then ?_
                go_wp2_with fail
                refine (HNR.out w7).mono ?_; rintro e w7' ⟨rfl, rfl⟩
                go_wp2_with fail
                refine (HNC.out w7).mono ?_; rintro e w7' ⟨rfl, rfl⟩
                have f7 : ∀ j, w7.frozen? ⟨b7, j, none⟩ = false := HP.out.1.free
                have d7 : ∀ j, w7.cell? ⟨b7, j, none⟩ = (sarr (noWrap (atPlace sc.s R C)) x y z)[j]? := HP.out.1.cell
                go_upto_region 16 with (fail)
                change Code.wp _ _ _ _ (cput w7 b7 sc.s.cur)
                have H8 : Hid (SBox (cput w7 b7 sc.s.cur) b7 sc.s x y z ∧ Own (cput w7 b7 sc.s.cur) 0 sc.s x y z ∧ Wb w (.slice (some ad) q c) n m k r b5 bk sc (cput w7 b7 sc.s.cur)) := Lib.hid (within_put HP.out.1 HP.out.2.1 HP.out.2.2.1 HLT.out HP.out.2.2.2.1 HIN.out)
                clear c5 c7 c8 c9 d7 f7 HNR HNC HRN HCN HRC HP
                generalize cput w7 b7 sc.s.cur = w8 at H8 ⊢
                go_wp2_with (first
                  | (refine wp_loadS (b := b7) (s := sc.s) (x0 := x) (y0 := y) (z0 := z) rfl rfl rfl H8.out.1 ?_)
                  | (refine wp_loadS (b := b5) (s := sc.s) (x0 := sc.x) (y0 := sc.y) (z0 := sc.z) rfl rfl rfl H8.out.2.2.x5.box ?_))
                refine (eqScreen_same sc.s x y z sc.x sc.y sc.z w8 H8.out.2.1.in_ H8.out.2.2.x5.i HFT.out.l).mono ?_; rintro e w9 ⟨rfl, hb⟩
                have H9 := Lib.hid (H8.out.2.2.kept hb)
                clear hb H8
                go_wp2_with fail
                go_roundw
                case rel => exact ⟨u + 1, by omega, by go_num, H9⟩
                case measure => simp [intOf]; omega
            · obtain rfl : u = 11 := by omega
              go_wp2_with fail
              go_roundw
              case rel => exact ⟨i + 1, by omega, by omega, by go_num, Lib.hid HS.out.run, Lib.hid HS.out.kv⟩
              case measure => simp [intOf]; omega
      · go_wp2_with fail
        refine (HWK.out wr HR.out.bel).mono ?_; rintro e w2 ⟨rfl, hb⟩
        go_wp2_with fail
        go_ret
        exact ⟨rfl, HR.out.bel.trans (hb.mono HR.out.bel.size)⟩
    · go_wp2_with fail
      refine (HWK.out wr HR.out.bel).mono ?_; rintro e w2 ⟨rfl, hb⟩
      go_wp2_with fail
      go_ret
      exact ⟨rfl, HR.out.bel.trans (hb.mono HR.out.bel.size)⟩
end Scr
end Go.Proofs.YtgjpojaegjdjcabDoor
end
