/- Joined texts: EdRef, EdLaw, EdLaws. -/
import Derived.Test.YtgdfiiikbnpagaaGreatDoorJ113
import Derived.Test.YtgdfiiikbnpagaaGreatDoorJ114
import Derived.Test.YtgdfiiikbnpagaaGreatDoorJ115
import Derived.Test.YtgdfiiikbnpagaaGreatDoorJ116
import Derived.Test.YtgdfiiikbnpagaaGreatDoorJ117
import Derived.Test.YtgdfiiikbnpagaaGreatDoorJ118
import Derived.BigQuiet
section
/- The page's Edit, by whatever key and number it may be asked. -/
namespace Go.Proofs.YtgdfiiikbnpagaaGreatDoor
set_option maxRecDepth 100000
open Go.RowKit
namespace Scr
open Go.Proofs.YtgdfiiikbnpagaaGreatDoor.Row Wid

theorem wipe_zero (s : S) (f : Facts s) : putG (noWrap s) (wipeN 0 0 s.cur.a s.main.rows.toNat (seenG s)) = noWrap s := by
  rw [wipeN_low fun i hi => by
    have hm : 0 ≤ (i : Int) * (seenG s).cols := Int.mul_nonneg (by omega) (by have := f.gc; have := f.c1; omega)
    unfold loC hiC; omega]
  exact putG_self (noWrap s)
theorem out_lines {s : S} {n : Int} (h : s.cur.row < s.top ∨ s.bottom < s.cur.row) : openS (noWrap s) n = noWrap s := by
  unfold openS
  exact if_pos h
def RefAns (s : S) (key n : Int) (w : World) (x y z : Value) : Prop :=
  Calls Tryz.prog 28 #[sv s x y z, .int .i64 key, .int .i64 n] w fun e w' => ∃ x' y' z', e = .returned (sv (editS s key n) x' y' z') ∧ Own w' w.heap.size (editS s key n) x' y' z' ∧ Below w.heap.size w w'
theorem ref_J (s : S) (x y z : Value) (n : Int) (w : World) (h : In w s x y z) (hok : Ok s) (hn : numB n = true) : RefAns s 74 n w x y z := by
  have f := hok.facts
  have hb := numB_iff.1 hn
  by_cases h2 : 2 < n
  · have e : editS s 74 n = noWrap s := by
      show putG (noWrap s) (wipeN (wipedR (atI s) 0 (s.main.rows * s.main.cols) n).1 (wipedR (atI s) 0 (s.main.rows * s.main.cols) n).2 s.cur.a s.main.rows.toNat (seenG s)) = _
      have e0 : wipedR (atI s) 0 (s.main.rows * s.main.cols) n = (0, 0) := by unfold wipedR; rw [if_neg (by omega), if_neg (by omega), if_neg (by omega)]
      rw [e0]; exact wipe_zero s f
    unfold RefAns
    rw [e]
    exact refEd_none s x y z 74 n w h hok (.inl rfl) h2
  have hc : n = -1 ∨ n = 0 ∨ n = 1 ∨ n = 2 := by omega
  rcases hc with rfl | rfl | rfl | rfl
  · exact refEd_wipe s x y z 74 (-1) w h hok _ _ 0 _ _ (span_J0 f) (.inl rfl) (by decide) (by omega) (by simp) (by simp)
  · exact refEd_wipe s x y z 74 0 w h hok _ _ 0 _ _ (span_J0 f) (.inl rfl) (by decide) (by omega) (by simp) (by simp)
  · exact refEd_wipe s x y z 74 1 w h hok _ _ 1 _ _ (span_J1 f) (.inl rfl) (by decide) (by omega) (by simp) (by simp)
  · exact refEd_wipe s x y z 74 2 w h hok _ _ 2 _ _ (span_J2 f) (.inl rfl) (by decide) (by omega) (by simp) (by simp)
theorem ref_K (s : S) (x y z : Value) (n : Int) (w : World) (h : In w s x y z) (hok : Ok s) (hn : numB n = true) : RefAns s 75 n w x y z := by
  have f := hok.facts
  have hb := numB_iff.1 hn
  by_cases h2 : 2 < n
  · have e : editS s 75 n = noWrap s := by
      show putG (noWrap s) (wipeN (wipedR (atI s) (s.cur.row * s.main.cols) (s.cur.row * s.main.cols + s.main.cols) n).1 (wipedR (atI s) (s.cur.row * s.main.cols) (s.cur.row * s.main.cols + s.main.cols) n).2 s.cur.a s.main.rows.toNat (seenG s)) = _
      have e0 : wipedR (atI s) (s.cur.row * s.main.cols) (s.cur.row * s.main.cols + s.main.cols) n = (0, 0) := by unfold wipedR; rw [if_neg (by omega), if_neg (by omega), if_neg (by omega)]
      rw [e0]; exact wipe_zero s f
    unfold RefAns
    rw [e]
    exact refEd_none s x y z 75 n w h hok (.inr rfl) h2
  have hc : n = -1 ∨ n = 0 ∨ n = 1 ∨ n = 2 := by omega
  rcases hc with rfl | rfl | rfl | rfl
  · exact refEd_wipe s x y z 75 (-1) w h hok _ _ 0 _ _ (span_K0 f) (.inr rfl) (by decide) (by omega) (by simp) (by simp)
  · exact refEd_wipe s x y z 75 0 w h hok _ _ 0 _ _ (span_K0 f) (.inr rfl) (by decide) (by omega) (by simp) (by simp)
  · exact refEd_wipe s x y z 75 1 w h hok _ _ 1 _ _ (span_K1 f) (.inr rfl) (by decide) (by omega) (by simp) (by simp)
  · exact refEd_wipe s x y z 75 2 w h hok _ _ 2 _ _ (span_K2 f) (.inr rfl) (by decide) (by omega) (by simp) (by simp)
theorem ref_L (s : S) (x y z : Value) (n : Int) (w : World) (h : In w s x y z) (hok : Ok s) (hn : numB n = true) : RefAns s 76 n w x y z := by
  unfold RefAns
  by_cases h1 : s.cur.row < s.top
  · rw [show editS s 76 n = noWrap s from out_lines (.inl h1)]
    exact refEd_Lout1 s x y z n w h hok h1
  by_cases h2 : s.bottom < s.cur.row
  · rw [show editS s 76 n = noWrap s from out_lines (.inr h2)]
    exact refEd_Lout2 s x y z n w h hok ⟨by omega, h2⟩
  exact refEd_L s x y z n w h hok hn ⟨by omega, by omega⟩
theorem ref_M (s : S) (x y z : Value) (n : Int) (w : World) (h : In w s x y z) (hok : Ok s) (hn : numB n = true) : RefAns s 77 n w x y z := by
  unfold RefAns
  by_cases h1 : s.cur.row < s.top
  · rw [show editS s 77 n = noWrap s from out_lines (.inl h1)]
    exact refEd_Mout1 s x y z n w h hok h1
  by_cases h2 : s.bottom < s.cur.row
  · rw [show editS s 77 n = noWrap s from out_lines (.inr h2)]
    exact refEd_Mout2 s x y z n w h hok ⟨by omega, h2⟩
  exact refEd_M s x y z n w h hok hn ⟨by omega, by omega⟩
theorem refEdit_any (s : S) (x y z : Value) (key n : Int) (w : World) (h : In w s x y z) (hok : Ok s) (hk : ekeyB key = true) (hn : numB n = true) :
    Calls Tryz.prog 28 #[sv s x y z, .int .i64 key, .int .i64 n] w fun e w' => ∃ x' y' z', e = .returned (sv (editS s key n) x' y' z') ∧ Own w' w.heap.size (editS s key n) x' y' z' ∧ Below w.heap.size w w' := by
  have hc : key = 74 ∨ key = 75 ∨ key = 88 ∨ key = 80 ∨ key = 64 ∨ key = 76 ∨ key = 77 ∨ key = 83 ∨ key = 84 := by
    unfold ekeyB ekeysL at hk
    simp only [List.any_cons, List.any_nil, Bool.or_false, Bool.or_eq_true, beq_iff_eq] at hk
    omega
  rcases hc with rfl | rfl | rfl | rfl | rfl | rfl | rfl | rfl | rfl
  · exact ref_J s x y z n w h hok hn
  · exact ref_K s x y z n w h hok hn
  · exact refEd_X s x y z n w h hok hn
  · exact refEd_P s x y z n w h hok hn
  · exact refEd_At s x y z n w h hok hn
  · exact ref_L s x y z n w h hok hn
  · exact ref_M s x y z n w h hok hn
  · exact refEd_S s x y z n w h hok hn
  · exact refEd_T s x y z n w h hok hn
end Scr
end Go.Proofs.YtgdfiiikbnpagaaGreatDoor
end
section
/- The law on edits by keys, of each screen, by eight numbers: walked, for whatever keys. -/
namespace Go.Proofs.YtgdfiiikbnpagaaGreatDoor
set_option maxRecDepth 100000
open Go.RowKit
namespace Scr
open Go.Proofs.YtgdfiiikbnpagaaGreatDoor.Row

/-- The eight numbers that are played. -/
def Eight (w : World) (b : Nat) : Prop := ∀ j, j < 8 → ∃ v : Int, w.cell? ⟨b, j, none⟩ = some (.int .i64 v)
theorem Eight.kept {w w' : World} {b : Nat} (h : Eight w b) (hb : Below w.heap.size w w') : Eight w' b := fun j hj => by
  obtain ⟨v, e⟩ := h j hj
  exact ⟨v, cell_kept hb e⟩
theorem Eight.made (w : World) (a b c d e f g i : Int) (t : TypeId) : Eight (w.alloc (.cells #[.int .i64 a, .int .i64 b, .int .i64 c, .int .i64 d, .int .i64 e, .int .i64 f, .int .i64 g, .int .i64 i] t)) w.heap.size := by
  have hx : (w.alloc (.cells #[.int .i64 a, .int .i64 b, .int .i64 c, .int .i64 d, .int .i64 e, .int .i64 f, .int .i64 g, .int .i64 i] t)).heap[w.heap.size]? = some (.cells #[.int .i64 a, .int .i64 b, .int .i64 c, .int .i64 d, .int .i64 e, .int .i64 f, .int .i64 g, .int .i64 i] t (0, 0)) := heap_alloc_new _ _
  intro j hj
  have h8 : j = 0 ∨ j = 1 ∨ j = 2 ∨ j = 3 ∨ j = 4 ∨ j = 5 ∨ j = 6 ∨ j = 7 := by omega
  rcases h8 with rfl | rfl | rfl | rfl | rfl | rfl | rfl | rfl
  · exact ⟨a, Blk.cell hx 0⟩
  · exact ⟨b, Blk.cell hx 1⟩
  · exact ⟨c, Blk.cell hx 2⟩
  · exact ⟨d, Blk.cell hx 3⟩
  · exact ⟨e, Blk.cell hx 4⟩
  · exact ⟨f, Blk.cell hx 5⟩
  · exact ⟨g, Blk.cell hx 6⟩
  · exact ⟨i, Blk.cell hx 7⟩
set_option maxHeartbeats 12000000 in
theorem edits_any (v : Value) (l : List Sc) (n m k r : Int) (keys : List Int) (bk ck : Nat) (w : World) (h : Scrs 1048576 w v l) (hl : l.length ≤ 140737488355328) (hT : Tabs w) (hk : Kv w bk keys) (hk1 : keys.length ≤ 100) :
    Calls Tryz.prog 17 #[.agg #[v, .int .i64 n, .int .i64 m, .int .i64 k, .int .i64 r], .slice (some ⟨bk, 0, none⟩) keys.length ck] w fun e w' => e = .returned (.bool true) ∧ Below w.heap.size w w' := by
  have HT := Lib.hid hT
  have HK := Lib.hid hk
  obtain ⟨⟨A, c, rfl, hc, hf⟩, h2⟩ := id h
  have HF := Lib.hid hf
  have H2 := Lib.hid h2
  have H0 := Lib.hid (Run.start w (.slice A l.length c) n m k r)
  have HH := Lib.hid (heavy8 (.slice A l.length c) l n m k r _ (h.kept H0.out.bel) hl (by decide))
  have HWK := Lib.hid (fun W (hW : Below w.heap.size w W) => wakes11 W (hT.kept hW))
  obtain ⟨q, hq⟩ : ∃ q, l.length = q := ⟨_, rfl⟩
  rw [hq] at HF H2 H0 HH ⊢
  obtain ⟨kq, hkq⟩ : ∃ q, keys.length = q := ⟨_, rfl⟩
  have HKQ := Lib.hid hkq
  rw [hkq] at hk1 ⊢
  clear h hT h2 hf hl hc hq hk hkq
  go_enter Tryz.func17, Tryz.ntmps17
  go_wp2_with fail
  refine HH.out.mono ?_; rintro e w1 ⟨b, rfl, hw, hb⟩
  have H1 := Lib.hid (H0.out.kept hb)
  have HW := Lib.hid hw
  clear hw hb HH H0
  cases b
  case true =>
    go_wp2_with fail
    go_ret
    exact ⟨rfl, H1.out.bel⟩
  go_wp2_with fail
  go_loopw [5] (fun j wr => ∃ i : Nat, i ≤ q ∧ i ≤ 4 ∧ j = .int .i64 i ∧ Hid (Run w wr (.slice A q c) n m k r)) (fun j _ => q - (intOf j).toNat)
  case atStart => exact ⟨0, by omega, by omega, rfl, H1⟩
  case round =>
    clear H1
    obtain ⟨i, hi, hi4, rfl, HR⟩ := hrel
    have b0 : wr.cell? ⟨w.heap.size, 0, none⟩ = some (.slice A q c) := Blk.cell HR.out.box 0
    by_cases hiq : i < q
    · by_cases h4 : i < 4
      · obtain ⟨ad, rfl, hat⟩ := HF.out i hiq
        have hI := H2.out i hiq
        have hFt := fit8 hI.2 (HW.out trivial i hiq)
        generalize l.getD i noSc = sc at hat hI hFt
        have HAT := Lib.hid (show At w (ad.add (i * 43)) (sarr sc.s sc.x sc.y sc.z).toList from hat)
        have HIN : Hid (∀ W, Below w.heap.size w W → sc.in_ W) := Lib.hid fun W hb => hI.1.kept hb
        have HFT := Lib.hid hFt
        clear hat hI hFt
        have h4i : (i : Int) < 4 := by omega
        have h4d : decide ((i : Int) < 4) = true := decide_eq_true h4i
        go_wp2_with fail
        clear b0
        go_loopw [6] (fun j wr => ∃ u : Nat, u ≤ kq ∧ j = .int .i64 u ∧ Hid (Run w wr (.slice (some ad) q c) n m k r)) (fun j _ => kq - (intOf j).toNat)
        case atStart => exact ⟨0, by omega, rfl, HR⟩
        case round =>
          clear HR
          obtain ⟨u, hu, rfl, HR⟩ := hrel
          by_cases huk : u < kq
          · have hkey := HK.out u (by rw [HKQ.out]; exact huk)
            obtain ⟨key, he⟩ : ∃ key, keys.getD u 0 = key := ⟨_, rfl⟩
            rw [he] at hkey
            have HKC : Hid (∀ W, Below w.heap.size w W → W.cell? ⟨bk, u, none⟩ = some (.int .i64 key)) := Lib.hid fun W hb => cell_kept hb hkey
            clear he hkey
            have b1 : wr.cell? ⟨w.heap.size, 1, none⟩ = some (.int .i64 n) := Blk.cell HR.out.box 1
            have HN := Lib.hid (within8 n 12 (by decide) (by decide) wr.drew)
            generalize ((wi8 n 12 : Nat) : Int) = n12 at HN
            go_upto_region 9 with (fail)
            refine wp_region_still_tail 5 (by kernel_rfl) (by kernel_rfl) ?_
            simp only [List.take_succ_cons, List.take_zero, List.drop_succ_cons, List.drop_zero]
            repeat still_step
            still_call HN.out
            repeat still_step
            refine wpStill_nil ?_
            change wpList _ _ _ _ _ wr.drew
            go_wp2_with fail
            have HZ1 := Lib.hid (Eight.made wr n (-1) 0 1 2 3 n12 9999 3)
            have HR1 := Lib.hid (HR.out.kept (bel_alloc wr (.cells #[.int .i64 n, .int .i64 (-1), .int .i64 0, .int .i64 1, .int .i64 2, .int .i64 3, .int .i64 n12, .int .i64 9999] 3)))
            clear HN b1 HR
            generalize wr.alloc (.cells #[.int .i64 n, .int .i64 (-1), .int .i64 0, .int .i64 1, .int .i64 2, .int .i64 3, .int .i64 n12, .int .i64 9999] 3) = wa at HZ1 HR1 ⊢
            generalize wr.heap.size = bn at HZ1 ⊢
            go_loopw [8] (fun j wr => ∃ d : Nat, d ≤ 8 ∧ j = .int .i64 d ∧ Hid (Run w wr (.slice (some ad) q c) n m k r) ∧ Hid (Eight wr bn)) (fun j _ => 8 - (intOf j).toNat)
            case atStart => exact ⟨0, by omega, rfl, Lib.hid (HR1.out.kept (Below.refl _ _).drew), Lib.hid (HZ1.out.kept (Below.refl _ _).drew)⟩
            case round =>
              clear HR1 HZ1
              obtain ⟨d, hd, rfl, HR, HZ⟩ := hrel
              by_cases hd6 : d < 8
              · have hdi : (d : Int) < 8 := by omega
                have HRm := HR
                have HZm := HZ
                clear HR HZ
                rename World => wm
                obtain ⟨nn, hnn⟩ := HZm.out d hd6
                have HNC : Hid (∀ W, Below wm.heap.size wm W → W.cell? ⟨bn, d, none⟩ = some (.int .i64 nn)) := Lib.hid fun W hb => cell_kept hb hnn
                clear hnn
                have HBW : Hid (∀ W, Below wm.heap.size wm W → Below w.heap.size w W) := Lib.hid fun W hb => HRm.out.bel.trans (hb.mono HRm.out.bel.size)
                have HMAY := Lib.hid (@mayE_iff sc.s key nn)
                obtain ⟨may, hmay⟩ : ∃ q, mayE sc.s key nn = q := ⟨_, rfl⟩
                have HMQ := Lib.hid hmay
                have b0 : wm.cell? ⟨w.heap.size, 0, none⟩ = some (.slice (some ad) q c) := Blk.cell HRm.out.box 0
                go_wp2_with (refine wp_loadArg rfl rfl rfl (HAT.out.kept HRm.out.bel) ?_)
                refine (copyScreen_any sc.s sc.x sc.y sc.z wm (HIN.out _ HRm.out.bel) ⟨HFT.out.l.m, HFT.out.l.o, HFT.out.l.t⟩).mono ?_; rintro e w3 ⟨xi, yi, zi, rfl, ho, hb⟩
                have HO3 := Lib.hid ho
                have HI3 := Lib.hid ho.in_
                have HB3 := Lib.hid hb
                clear ho hb b0
                go_upto_region 14 with (first
                  | (refine wp_allocS (n := w3.heap.size) rfl rfl rfl ?_)
                  | (refine wp_storeS (b := w3.heap.size) rfl rfl rfl rfl rfl HI3.out.one (heap_alloc_new _ _) rfl ?_; intro w4 h4; have HS4 := Lib.hid h4.drew; clear h4))
                go_simp
                change Code.wp _ _ _ _ w4
                go_cut [10, 11] from 51 to 63 (fun s11 s12 wx => ∃ X x y z code b11 B, s11 = .pointer (some ⟨b11, 0, none⟩) ∧ s12 = .int .i64 code ∧ Hid (Mu wm w3.heap.size b11 B sc.s xi yi zi X x y z wx) ∧ Hid (code = codeB may ∧ (may = true → X = editS sc.s key nn) ∧ (may = false → X = noS ∧ x = nilS ∧ y = nilS ∧ z = nilS)))
                case first =>
                  obtain ⟨hx4, hb4⟩ := bx_sto (e := ⟨sc.s, xi, yi, zi⟩) HI3.out HS4.out
                  have HX4 := Lib.hid hx4
                  have HB4 : Hid (Below wm.heap.size wm w4.drew) := Lib.hid (HB3.out.trans (hb4.mono HB3.out.size))
                  have HMV := Lib.hid (fun W (hI : In W sc.s xi yi zi) (hT : Tabs W) => editD sc.s xi yi zi key nn W hI HFT.out.h hT)
                  rw [hmay] at HMV
                  clear hx4 hb4
                  have HQ : Hid (∀ W, Below w4.drew.heap.size w4.drew W → W.cell? ⟨bk, u, none⟩ = some (.int .i64 key) ∧ W.cell? ⟨bn, d, none⟩ = some (.int .i64 nn) ∧ Hid (SBox W w3.heap.size sc.s xi yi zi)) := Lib.hid fun W hb =>
                    ⟨HKC.out W (HBW.out W (HB4.out.trans (hb.mono HB4.out.size))), HNC.out W (HB4.out.trans (hb.mono HB4.out.size)), Lib.hid (HX4.out.box.kept hb)⟩
                  have q4 := HQ.out _ (Below.refl _ _)
                  refine wp_region_held_drew (S := fun w' => w'.cell? ⟨bk, u, none⟩ = some (.int .i64 key) ∧ w'.cell? ⟨bn, d, none⟩ = some (.int .i64 nn) ∧ Hid (SBox w' w3.heap.size sc.s xi yi zi)) (by kernel_rfl) q4 (fun hHeld => ?_)
                  generalize w4.drew = wd at HS4 HX4 HB4 HQ q4 ⊢
                  refine wpAnyH_take (i := 0) (v := sv sc.s xi yi zi) rfl (by kernel_rfl) (by kernel_rfl) (by kernel_rfl) (fun _ _ _ h => h) (yields_loadS rfl rfl rfl (fun w' hS => hS.2.2.out.at)) (by assumption) ?_
                  simp only [Act.put, List.getElem_toArray, List.getElem_cons_zero, List.setIfInBounds_toArray, List.set_cons_zero, List.set_cons_succ]
                  refine wpAnyH_take (i := 1) (v := ?_) rfl (by kernel_rfl) (by kernel_rfl) (by kernel_rfl) (fun _ _ _ h => h) (Or.inl ⟨by rfl, ?_⟩) (by assumption) ?_
                  rotate_left
                  · intro w' hSw; first | (go_simp; done) | (go_simp; with_reducible rfl)
                  simp only [Act.put, List.getElem_toArray, List.getElem_cons_zero, List.getElem_cons_succ, List.setIfInBounds_toArray, List.set_cons_zero, List.set_cons_succ]
                  refine wpAnyH_take (i := 2) (v := ?_) rfl (by kernel_rfl) (by kernel_rfl) (by kernel_rfl) (fun _ _ _ h => h) (Or.inl ⟨by rfl, ?_⟩) (by assumption) ?_
                  rotate_left
                  · intro w' hSw; first | (go_simp; done) | (go_simp; with_reducible rfl)
                  simp only [Act.put, List.getElem_toArray, List.getElem_cons_zero, List.getElem_cons_succ, List.setIfInBounds_toArray, List.set_cons_zero, List.set_cons_succ]
                  refine wpAnyH_take (i := 3) (v := ?_) rfl (by kernel_rfl) (by kernel_rfl) (by kernel_rfl) (fun _ _ _ h => h) (Or.inl ⟨by rfl, ?_⟩) (by assumption) ?_
                  rotate_left
                  · intro w' hSw; first | (go_simp; done) | (go_simp; with_reducible rfl)
                  simp only [Act.put, List.getElem_toArray, List.getElem_cons_zero, List.getElem_cons_succ, List.setIfInBounds_toArray, List.set_cons_zero, List.set_cons_succ]
                  refine wpAnyH_take (i := 4) (v := ?_) rfl (by kernel_rfl) (by kernel_rfl) (by kernel_rfl) (fun _ _ _ h => h) (Or.inl ⟨by rfl, ?_⟩) (by assumption) ?_
                  rotate_left
                  · intro w' hSw; first | (go_simp; done) | (go_simp; with_reducible rfl)
                  simp only [Act.put, List.getElem_toArray, List.getElem_cons_zero, List.getElem_cons_succ, List.setIfInBounds_toArray, List.set_cons_zero, List.set_cons_succ]
                  refine wpAnyH_take (i := 5) (v := ?_) rfl (by kernel_rfl) (by kernel_rfl) (by kernel_rfl) (fun _ _ _ h => h) (Or.inl ⟨by rfl, ?_⟩) (by assumption) ?_
                  rotate_left
                  · intro w' hSw; first | (go_simp; done) | (go_simp; with_reducible rfl)
                  simp only [Act.put, List.getElem_toArray, List.getElem_cons_zero, List.getElem_cons_succ, List.setIfInBounds_toArray, List.set_cons_zero, List.set_cons_succ]
                  refine wpAnyH_take (i := 6) (v := ?_) rfl (by kernel_rfl) (by kernel_rfl) (by kernel_rfl) (fun _ _ _ h => h) (Or.inl ⟨by rfl, ?_⟩) (by assumption) ?_
                  rotate_left
                  · intro w' hSw; first | (go_simp; done) | (go_simp; with_reducible rfl)
                  simp only [Act.put, List.getElem_toArray, List.getElem_cons_zero, List.getElem_cons_succ, List.setIfInBounds_toArray, List.set_cons_zero, List.set_cons_succ]
                  refine wpAnyH_take (i := 7) (v := ?_) rfl (by kernel_rfl) (by kernel_rfl) (by kernel_rfl) (fun _ _ _ h => h) (Or.inl ⟨by rfl, ?_⟩) (by assumption) ?_
                  rotate_left
                  · intro w' hSw; first | (go_simp; done) | (go_simp; with_reducible rfl)
                  simp only [Act.put, List.getElem_toArray, List.getElem_cons_zero, List.getElem_cons_succ, List.setIfInBounds_toArray, List.set_cons_zero, List.set_cons_succ]
                  refine wpAnyH_take (i := 8) (v := ?_) rfl (by kernel_rfl) (by kernel_rfl) (by kernel_rfl) (fun _ _ _ h => h) (Or.inl ⟨by rfl, ?_⟩) (by assumption) ?_
                  rotate_left
                  · intro w' hSw; first | (go_simp; done) | (go_simp; with_reducible rfl)
                  simp only [Act.put, List.getElem_toArray, List.getElem_cons_zero, List.getElem_cons_succ, List.setIfInBounds_toArray, List.set_cons_zero, List.set_cons_succ]
                  refine wpAnyH_ready (rs := [9, 13]) (by kernel_rfl) (by simp) ?_
                  refine AllReadyH.cons rfl (fun K hK => ?_) (AllReadyH.cons rfl (fun K hK => ?_) AllReadyH.nil)
                  · go_simp
                    go_at_call 20
                    refine (HMV.out wd HX4.out.i (HT.out.kept (HBW.out _ HB4.out))).mono ?_; rintro e w5 ⟨X, x, y, z, code, rfl, hans⟩
                    have HA := Lib.hid hans
                    have q5 := HQ.out w5 hans.bel
                    have q6 := HQ.out (w5.alloc (.cells zarr 37)) (hans.bel.trans ((bel_alloc w5 _).mono hans.bel.size))
                    clear hans
                    refine hK.out _ _ q5 (fun hHeld => ?_)
                    clear hK K
                    refine wpAnyH_take (i := 10) (v := ?_) rfl (by kernel_rfl) (by kernel_rfl) (by kernel_rfl) (fun _ _ _ h => h) (Or.inl ⟨by rfl, ?_⟩) (by assumption) ?_
                    rotate_left
                    · intro w' hSw; first | (go_simp; done) | (go_simp; with_reducible rfl)
                    simp only [Act.put, List.getElem_toArray, List.getElem_cons_zero, List.getElem_cons_succ, List.setIfInBounds_toArray, List.set_cons_zero, List.set_cons_succ]
                    refine wpAnyH_take (i := 11) (v := ?_) rfl (by kernel_rfl) (by kernel_rfl) (by kernel_rfl) (fun _ _ _ h => h) (Or.inl ⟨by rfl, ?_⟩) (by assumption) ?_
                    rotate_left
                    · intro w' hSw; first | (go_simp; done) | (go_simp; with_reducible rfl)
                    simp only [Act.put, List.getElem_toArray, List.getElem_cons_zero, List.getElem_cons_succ, List.setIfInBounds_toArray, List.set_cons_zero, List.set_cons_succ]
                    refine wpAnyH_take (i := 12) (v := ?_) rfl (by kernel_rfl) (by kernel_rfl) (by kernel_rfl) (fun _ _ _ h => h) (Or.inl ⟨by rfl, ?_⟩) (by assumption) ?_
                    rotate_left
                    · intro w' hSw; first | (go_simp; done) | (go_simp; with_reducible rfl)
                    simp only [Act.put, List.getElem_toArray, List.getElem_cons_zero, List.getElem_cons_succ, List.setIfInBounds_toArray, List.set_cons_zero, List.set_cons_succ]
                    refine wpAnyH_ready (rs := [13]) (by kernel_rfl) (by simp) ?_
                    refine AllReadyH.cons rfl (fun K hK => ?_) AllReadyH.nil
                    refine step_allocS (n := w5.heap.size) rfl rfl rfl ?_
                    refine hK.out _ _ q6 (fun hHeld => ?_)
                    clear hK K
                    refine wpAnyH_ready (rs := [14]) (by kernel_rfl) (by simp) ?_
                    refine AllReadyH.cons rfl (fun K hK => ?_) AllReadyH.nil
                    refine step_storeS (b := w5.heap.size) (A := sarr X x y z) rfl rfl rfl rfl rfl HA.out.own.in_.one (heap_alloc_new _ _) rfl ?_; intro w6 h6
                    have HMU := Lib.hid (Mu.start HB3.out HO3.out HS4.out HA.out.bel HA.out.own h6)
                    have q7 := HQ.out w6 (HA.out.bel.trans ((h6.below _ _ (Nat.le_refl _) (bel_alloc w5 _)).mono HA.out.bel.size))
                    refine hK.out _ _ q7 (fun hHeld => ?_)
                    clear hK K
                    refine wpAnyH_take (i := 15) (v := ?_) rfl (by kernel_rfl) (by kernel_rfl) (by kernel_rfl) (fun _ _ _ h => h) (Or.inl ⟨by rfl, ?_⟩) (by assumption) ?_
                    rotate_left
                    · intro w' hSw; first | (go_simp; done) | (go_simp; with_reducible rfl)
                    simp only [Act.put, List.getElem_toArray, List.getElem_cons_zero, List.getElem_cons_succ, List.setIfInBounds_toArray, List.set_cons_zero, List.set_cons_succ]
                    refine wpAnyH_done (by kernel_rfl) ?_ _
                    go_wp2_with fail
                    go_meet
                    exact ⟨_, _, _, _, _, _, _, rfl, rfl, HMU, Lib.hid ⟨HA.out.code, HA.out.yes, HA.out.no⟩⟩
                  · refine step_allocS (n := wd.heap.size) rfl rfl rfl ?_
                    have HX5 : Hid (Bx (wd.alloc (.cells zarr 37)) w3.heap.size ⟨sc.s, xi, yi, zi⟩) := Lib.hid (HX4.out.kept (bel_alloc wd _))
                    have HB5 : Hid (Below wd.heap.size wd (wd.alloc (.cells zarr 37))) := Lib.hid (bel_alloc wd _)
                    have q5 := HQ.out _ HB5.out
                    refine hK.out _ _ q5 (fun hHeld => ?_)
                    clear hK K
                    refine wpAnyH_ready (rs := [9]) (by kernel_rfl) (by simp) ?_
                    refine AllReadyH.cons rfl (fun K hK => ?_) AllReadyH.nil
                    go_simp
                    go_at_call 20
                    refine (HMV.out (wd.alloc (.cells zarr 37)) HX5.out.i (HT.out.kept (HBW.out _ (HB4.out.trans (HB5.out.mono HB4.out.size))))).mono ?_; rintro e w5 ⟨X, x, y, z, code, rfl, hans⟩
                    have HA := Lib.hid hans
                    have HX6 : Hid (w5.heap[wd.heap.size]? = some (.cells zarr 37 (0, 0))) := Lib.hid (Blk.kept (heap_alloc_new wd _) hans.bel)
                    have HB6 : Hid (Below wd.heap.size wd w5) := Lib.hid (HB5.out.trans (hans.bel.mono HB5.out.size))
                    have q6 := HQ.out w5 HB6.out
                    clear hans
                    refine hK.out _ _ q6 (fun hHeld => ?_)
                    clear hK K
                    refine wpAnyH_take (i := 10) (v := ?_) rfl (by kernel_rfl) (by kernel_rfl) (by kernel_rfl) (fun _ _ _ h => h) (Or.inl ⟨by rfl, ?_⟩) (by assumption) ?_
                    rotate_left
                    · intro w' hSw; first | (go_simp; done) | (go_simp; with_reducible rfl)
                    simp only [Act.put, List.getElem_toArray, List.getElem_cons_zero, List.getElem_cons_succ, List.setIfInBounds_toArray, List.set_cons_zero, List.set_cons_succ]
                    refine wpAnyH_take (i := 11) (v := ?_) rfl (by kernel_rfl) (by kernel_rfl) (by kernel_rfl) (fun _ _ _ h => h) (Or.inl ⟨by rfl, ?_⟩) (by assumption) ?_
                    rotate_left
                    · intro w' hSw; first | (go_simp; done) | (go_simp; with_reducible rfl)
                    simp only [Act.put, List.getElem_toArray, List.getElem_cons_zero, List.getElem_cons_succ, List.setIfInBounds_toArray, List.set_cons_zero, List.set_cons_succ]
                    refine wpAnyH_take (i := 12) (v := ?_) rfl (by kernel_rfl) (by kernel_rfl) (by kernel_rfl) (fun _ _ _ h => h) (Or.inl ⟨by rfl, ?_⟩) (by assumption) ?_
                    rotate_left
                    · intro w' hSw; first | (go_simp; done) | (go_simp; with_reducible rfl)
                    simp only [Act.put, List.getElem_toArray, List.getElem_cons_zero, List.getElem_cons_succ, List.setIfInBounds_toArray, List.set_cons_zero, List.set_cons_succ]
                    refine wpAnyH_ready (rs := [14]) (by kernel_rfl) (by simp) ?_
                    refine AllReadyH.cons rfl (fun K hK => ?_) AllReadyH.nil
                    refine step_storeS (b := wd.heap.size) (A := sarr X x y z) rfl rfl rfl rfl rfl HA.out.own.in_.one HX6.out rfl ?_; intro w6 h6
                    have HMU := Lib.hid (Mu.start2 HB3.out HO3.out HS4.out HA.out.bel HA.out.own h6)
                    have q7 := HQ.out w6 (h6.below _ _ (Nat.le_refl _) HB6.out)
                    refine hK.out _ _ q7 (fun hHeld => ?_)
                    clear hK K
                    refine wpAnyH_take (i := 15) (v := ?_) rfl (by kernel_rfl) (by kernel_rfl) (by kernel_rfl) (fun _ _ _ h => h) (Or.inl ⟨by rfl, ?_⟩) (by assumption) ?_
                    rotate_left
                    · intro w' hSw; first | (go_simp; done) | (go_simp; with_reducible rfl)
                    simp only [Act.put, List.getElem_toArray, List.getElem_cons_zero, List.getElem_cons_succ, List.setIfInBounds_toArray, List.set_cons_zero, List.set_cons_succ]
                    refine wpAnyH_done (by kernel_rfl) ?_ _
                    go_wp2_with fail
                    go_meet
                    exact ⟨_, _, _, _, _, _, _, rfl, rfl, HMU, Lib.hid ⟨HA.out.code, HA.out.yes, HA.out.no⟩⟩
                case rest =>
                  obtain ⟨X, x, y, z, code, b11, B, rfl, rfl, HM, HX⟩ := hcut
                  rename World => wx
                  clear HO3 HI3 HB3 HS4
                  generalize w3.heap.size = b10 at HM ⊢
                  have HRx : Hid (∀ W, Below wm.heap.size wm W → Run w W (.slice (some ad) q c) n m k r) := Lib.hid fun W hb => HRm.out.kept hb
                  go_upto_region 15 with (fail)
                  go_cut [12] from 64 to 83 (fun s13 wy => s13 = .bool may ∧ Hid (Mu wm b10 b11 B sc.s xi yi zi X x y z wy))
                  case first =>
                    have HBX := Lib.hid (HBW.out _ HM.out.bel)
                    have b0 : wx.cell? ⟨w.heap.size, 0, none⟩ = some (.slice (some ad) q c) := Blk.cell (HRx.out _ HM.out.bel).box 0
                    go_wp2_with (refine wp_loadArg rfl rfl rfl (HAT.out.kept HBX.out) ?_)
                    refine (refScreen_any sc.s sc.x sc.y sc.z wx (HIN.out _ HBX.out) HFT.out.sh (HT.out.kept HBX.out)).mono ?_; rintro e w7 ⟨rfl, hb⟩
                    have HM7 := Lib.hid (HM.out.kept hb)
                    clear hb HM b0 HBX
                    cases hok : okB sc.s
                    · have HF0 : Hid (may = false) := Lib.hid (by rw [← HMQ.out]; unfold mayE; rw [hok]; rfl)
                      go_wp2_with fail
                      go_meet
                      exact ⟨by rw [HF0.out], HM7⟩
                    · have k7 := HKC.out _ (HBW.out _ HM7.out.bel)
                      go_wp2_with fail
                      refine (editKey_any key w7).mono ?_; rintro e w8 ⟨rfl, hb⟩
                      have HM8 := Lib.hid (HM7.out.kept hb)
                      clear hb HM7 k7
                      cases hkb : ekeyB key
                      · have HF0 : Hid (may = false) := Lib.hid (by rw [← HMQ.out]; unfold mayE; rw [hok, hkb]; rfl)
                        go_wp2_with fail
                        go_meet
                        exact ⟨by rw [HF0.out], HM8⟩
                      · have n8 := HNC.out _ HM8.out.bel
                        go_wp2_with fail
                        refine (refNumber_any nn w8).mono ?_; rintro e w8' ⟨rfl, rfl⟩
                        have HF0 : Hid (may = numB nn) := Lib.hid (by rw [← HMQ.out]; unfold mayE; rw [hok, hkb]; rfl)
                        go_wp2_with fail
                        go_meet
                        exact ⟨by rw [HF0.out], HM8⟩
                  case rest =>
                    obtain ⟨rfl, HM7⟩ := hcut
                    rename World => w7
                    clear HM
                    go_upto_region 17 with (first
                      | (refine wp_allocS (n := w7.heap.size) rfl rfl rfl ?_)
                      | (refine wp_storeS_then (b := w7.heap.size) (A := zarr) (T := Mv wm b10 b11 w7.heap.size B sc.s xi yi zi X x y z noS nilS nilS nilS) rfl rfl rfl rfl rfl (sarr_one rfl rfl rfl) (heap_alloc_new _ _) rfl (fun _ k => HM7.out.more k) ?_; intro w8 H8))
                    go_simp
                    change Code.wp _ _ _ _ w8
                    generalize w7.heap.size = b14 at H8 ⊢
                    clear HM7
                    go_upto_if 85 with (fail)
                    go_cut [85] from 85 to 99 (fun _ wy => ∃ Wn x' y' z', Hid (Mv wm b10 b11 b14 B sc.s xi yi zi X x y z Wn x' y' z' wy) ∧ Hid (may = true → Wn = editS sc.s key nn))
                    case first =>
                      cases may
                      · go_wp2_with fail
                        go_meet
                        exact ⟨_, _, _, _, H8, Lib.hid (fun h => by cases h)⟩
                      · have HMM := Lib.hid (HMAY.out.1 HMQ.out)
                        have HB8 := Lib.hid (HBW.out _ H8.out.bel)
                        have b0 : w8.cell? ⟨w.heap.size, 0, none⟩ = some (.slice (some ad) q c) := Blk.cell (HRx.out _ H8.out.bel).box 0
                        have k8 := HKC.out _ HB8.out
                        have n8 := HNC.out _ H8.out.bel
                        go_upto_region 18 with (fail)
                        refine wp_region_still_tail 13 (by kernel_rfl) (by kernel_rfl) ?_
                        simp only [List.take_succ_cons, List.take_zero, List.drop_succ_cons, List.drop_zero]
                        still_step
                        still_step
                        still_step
                        still_step
                        refine still_loadS (s := sc.s) (x0 := sc.x) (y0 := sc.y) (z0 := sc.z) rfl rfl rfl (HAT.out.kept HB8.out.drew) ?_
                        repeat still_step
                        refine wpStill_nil ?_
                        change wpList _ _ _ _ _ w8.drew
                        have H8 := Lib.hid (H8.out.kept (Below.refl _ _).drew)
                        have HB8 := Lib.hid (HBW.out _ H8.out.bel)
                        clear b0 k8 n8
                        go_wp2_with fail
                        refine (refEdit_any sc.s sc.x sc.y sc.z key nn _ (HIN.out _ HB8.out) ((ok_iff _).1 HMM.out.1) HMM.out.2.1 HMM.out.2.2).mono ?_; rintro e w9 ⟨xr, yr, zr, rfl, ho, hb⟩
                        have HM9 := Lib.hid (H8.out.kept hb)
                        have HO9 := Lib.hid ho
                        clear ho hb H8
                        go_wp2_with (refine wp_storeS_then (b := b14) (A := sarr (editS sc.s key nn) xr yr zr) (T := Mv wm b10 b11 b14 B sc.s xi yi zi X x y z (editS sc.s key nn) xr yr zr) rfl rfl rfl rfl rfl HO9.out.in_.one HM9.out.x14 rfl (fun _ k => HM9.out.put HO9.out k) ?_; intro w10 H10)
                        go_meet
                        exact ⟨_, _, _, _, H10, Lib.hid (fun _ => rfl)⟩
                    case rest =>
                      obtain ⟨Wn, x', y', z', HM, HWN⟩ := hcut
                      rename World => w9
                      clear H8
                      have HSM : Hid (∀ W, Mv wm b10 b11 b14 B sc.s xi yi zi X x y z Wn x' y' z' W → Calls Tryz.prog 29 #[sv X x y z, .int .i64 code, .bool may, sv Wn x' y' z', sv sc.s xi yi zi, sv sc.s sc.x sc.y sc.z] W fun e w' => e = .returned (.bool true) ∧ Below B W w' ∧ Boxes W w') := Lib.hid fun W hq =>
                        same_any may B X Wn x y z x' y' z' code sc.s xi yi zi sc.x sc.y sc.z W hq.up HX.out.1
                          (fun h => ⟨(HWN.out h).trans (HX.out.2.1 h).symm, hq.own, ((HWN.out h).trans (HX.out.2.1 h).symm) ▸ hq.want, by rw [HX.out.2.1 h]; exact (editS_ok ((ok_iff _).1 (HMAY.out.1 (HMQ.out.trans h)).1) _ _).lens8⟩)
                          HX.out.2.2 (fun W' hb => (hq.ini.keptB hq.lti hb).in_) (fun W' hb => HIN.out W' ((HBW.out _ hq.bel).trans (hb.mono (Nat.le_trans HRm.out.bel.size hq.lo2)))) HFT.out.l
                      have b0 : w9.cell? ⟨w.heap.size, 0, none⟩ = some (.slice (some ad) q c) := Blk.cell (HRx.out _ HM.out.bel).box 0
                      go_upto_region 19 with (fail)
                      go_cut [111] from 100 to 111 (fun s128 wy => s128 = .bool false ∧ Hid (Below wm.heap.size wm wy))
                      case first =>
                        have HM := Lib.hid (HM.out.kept (Below.refl _ _).drew)
                        refine wp_region_still_tail 10 (by kernel_rfl) (by kernel_rfl) ?_
                        simp only [List.take_succ_cons, List.take_zero, List.drop_succ_cons, List.drop_zero]
                        refine still_loadS (p := ⟨b11, 0, none⟩) (s := X) (x0 := x) (y0 := y) (z0 := z) rfl rfl rfl HM.out.x11.at ?_
                        still_step
                        still_step
                        refine still_loadS (p := ⟨b14, 0, none⟩) (s := Wn) (x0 := x') (y0 := y') (z0 := z') rfl rfl rfl HM.out.x14.at ?_
                        refine still_loadS (p := ⟨b10, 0, none⟩) (s := sc.s) (x0 := xi) (y0 := yi) (z0 := zi) rfl rfl rfl HM.out.x10.at ?_
                        still_step
                        still_step
                        still_step
                        still_step
                        refine still_loadS (s := sc.s) (x0 := sc.x) (y0 := sc.y) (z0 := sc.z) rfl rfl rfl (HAT.out.kept (HBW.out _ HM.out.bel)) ?_
                        refine wpStill_nil ?_
                        change wpList _ _ _ _ _ w9.drew
                        go_wp2_with fail
                        refine (HSM.out _ HM.out).mono ?_; rintro e w10 ⟨rfl, hb, hbx⟩
                        have H10 : Hid (Below wm.heap.size wm w10) := Lib.hid (HM.out.bel.trans (hb.mono HM.out.lo2))
                        clear hb hbx
                        go_wp2_with fail
                        go_meet
                        exact ⟨rfl, H10⟩
                      case rest =>
                        obtain ⟨rfl, H10⟩ := hcut
                        rename World => w10
                        have HRn := Lib.hid (HRx.out _ H10.out)
                        have HZn := Lib.hid (HZm.out.kept H10.out)
                        clear HM HSM HWN HX b0 HRm HZm HRx HNC HBW HMAY HMQ H10
                        go_wp2_with fail
                        go_roundw
                        case rel => exact ⟨d + 1, by omega, by go_num, HRn, HZn⟩
                        case measure => simp [intOf]; omega
              · obtain rfl : d = 8 := by omega
                go_wp2_with fail
                go_roundw
                case rel => exact ⟨u + 1, by omega, by go_num, HR⟩
                case measure => simp [intOf]; omega
          · go_wp2_with fail
            go_roundw
            case rel => exact ⟨i + 1, by omega, by omega, by go_num, HR⟩
            case measure => simp [intOf]; omega
      · go_wp2_with fail
        refine (HWK.out wr HR.out.bel).mono ?_; rintro e w2 ⟨rfl, hb⟩
        go_wp2_with fail
        go_ret
        exact ⟨rfl, HR.out.bel.trans (hb.mono HR.out.bel.size)⟩
    · go_wp2_with fail
      refine (HWK.out wr HR.out.bel).mono ?_; rintro e w2 ⟨rfl, hb⟩
      go_wp2_with fail
      go_ret
      exact ⟨rfl, HR.out.bel.trans (hb.mono HR.out.bel.size)⟩
end Scr
end Go.Proofs.YtgdfiiikbnpagaaGreatDoor
end
section
/- The laws on edits by keys: each is the one law by its own keys. -/
namespace Go.Proofs.YtgdfiiikbnpagaaGreatDoor
set_option maxRecDepth 100000
open Go.RowKit
namespace Scr
open Go.Proofs.YtgdfiiikbnpagaaGreatDoor.Row

theorem kv_one (w : World) (a : Int) (t : TypeId) : Kv (w.alloc (.cells #[.int .i64 a] t)) w.heap.size [a] := by
  have hx : (w.alloc (.cells #[.int .i64 a] t)).heap[w.heap.size]? = some (.cells #[.int .i64 a] t (0, 0)) := heap_alloc_new _ _
  intro i hi
  obtain rfl : i = 0 := by simp at hi; omega
  exact Blk.cell hx 0
theorem kv_two (w : World) (a b : Int) (t : TypeId) : Kv (w.alloc (.cells #[.int .i64 a, .int .i64 b] t)) w.heap.size [a, b] := by
  have hx : (w.alloc (.cells #[.int .i64 a, .int .i64 b] t)).heap[w.heap.size]? = some (.cells #[.int .i64 a, .int .i64 b] t (0, 0)) := heap_alloc_new _ _
  intro i hi
  have h2 : i = 0 ∨ i = 1 := by simp at hi; omega
  rcases h2 with rfl | rfl
  · exact Blk.cell hx 0
  · exact Blk.cell hx 1
theorem kv_three (w : World) (a b c : Int) (t : TypeId) : Kv (w.alloc (.cells #[.int .i64 a, .int .i64 b, .int .i64 c] t)) w.heap.size [a, b, c] := by
  have hx : (w.alloc (.cells #[.int .i64 a, .int .i64 b, .int .i64 c] t)).heap[w.heap.size]? = some (.cells #[.int .i64 a, .int .i64 b, .int .i64 c] t (0, 0)) := heap_alloc_new _ _
  intro i hi
  have h3 : i = 0 ∨ i = 1 ∨ i = 2 := by simp at hi; omega
  rcases h3 with rfl | rfl | rfl
  · exact Blk.cell hx 0
  · exact Blk.cell hx 1
  · exact Blk.cell hx 2
/-- Behind two new blocks. -/
theorem two_new (w : World) (a b : Obj) : Below w.heap.size w ((w.alloc a).alloc b) := (bel_alloc w a).trans ((bel_alloc (w.alloc a) b).mono (by simp))
set_option maxHeartbeats 400000 in
theorem lawEditErase_any (v : Value) (l : List Sc) (n m k r : Int) (w : World) (h : Scrs 1048576 w v l) (hl : l.length ≤ 140737488355328) (hT : Tabs w) :
    Calls Tryz.prog 3 #[.agg #[v, .int .i64 n, .int .i64 m, .int .i64 k, .int .i64 r]] w fun e w' => e = .returned (.bool true) ∧ Below w.heap.size w w' := by
  have HB := Lib.hid (two_new w (abox v n m k r) (.cells #[.int .i64 74, .int .i64 75, .int .i64 88] 3))
  have HM := Lib.hid (edits_any v l n m k r [74, 75, 88] (w.alloc (abox v n m k r)).heap.size 3 ((w.alloc (abox v n m k r)).alloc (.cells #[.int .i64 74, .int .i64 75, .int .i64 88] 3)) (h.kept HB.out) hl (hT.kept HB.out) (kv_three _ 74 75 88 _) (by simp))
  have HZ : Hid ((w.alloc (abox v n m k r)).heap.size = w.heap.size + 1) := Lib.hid (by simp)
  rw [HZ.out] at HM
  have HL : Hid (([74, 75, 88] : List Int).length = 3) := Lib.hid rfl
  rw [HL.out] at HM
  obtain ⟨⟨A, c, rfl, _⟩, _⟩ := id h
  have b0 : (w.alloc (abox (.slice A l.length c) n m k r)).cell? ⟨w.heap.size, 0, none⟩ = some (.slice A l.length c) := Blk.cell (heap_alloc_new w _) 0
  have b1 : (w.alloc (abox (.slice A l.length c) n m k r)).cell? ⟨w.heap.size, 1, none⟩ = some (.int .i64 n) := Blk.cell (heap_alloc_new w _) 1
  have b2 : (w.alloc (abox (.slice A l.length c) n m k r)).cell? ⟨w.heap.size, 2, none⟩ = some (.int .i64 m) := Blk.cell (heap_alloc_new w _) 2
  have b3 : (w.alloc (abox (.slice A l.length c) n m k r)).cell? ⟨w.heap.size, 3, none⟩ = some (.int .i64 k) := Blk.cell (heap_alloc_new w _) 3
  have b4 : (w.alloc (abox (.slice A l.length c) n m k r)).cell? ⟨w.heap.size, 4, none⟩ = some (.int .i64 r) := Blk.cell (heap_alloc_new w _) 4
  clear h hl hT HL HZ
  generalize l.length = q at *
  go_enter Tryz.func3, Tryz.ntmps3
  go_wp2_with fail
  refine HM.out.mono ?_; rintro e w2 ⟨rfl, hb⟩
  have HE := Lib.hid (HB.out.trans (hb.mono HB.out.size))
  clear hb HM HB
  go_wp2_with fail
  go_ret
  exact ⟨rfl, HE.out⟩
set_option maxHeartbeats 400000 in
theorem lawEditCells_any (v : Value) (l : List Sc) (n m k r : Int) (w : World) (h : Scrs 1048576 w v l) (hl : l.length ≤ 140737488355328) (hT : Tabs w) :
    Calls Tryz.prog 4 #[.agg #[v, .int .i64 n, .int .i64 m, .int .i64 k, .int .i64 r]] w fun e w' => e = .returned (.bool true) ∧ Below w.heap.size w w' := by
  have HB := Lib.hid (two_new w (abox v n m k r) (.cells #[.int .i64 80, .int .i64 64] 3))
  have HM := Lib.hid (edits_any v l n m k r [80, 64] (w.alloc (abox v n m k r)).heap.size 2 ((w.alloc (abox v n m k r)).alloc (.cells #[.int .i64 80, .int .i64 64] 3)) (h.kept HB.out) hl (hT.kept HB.out) (kv_two _ 80 64 _) (by simp))
  have HZ : Hid ((w.alloc (abox v n m k r)).heap.size = w.heap.size + 1) := Lib.hid (by simp)
  rw [HZ.out] at HM
  have HL : Hid (([80, 64] : List Int).length = 2) := Lib.hid rfl
  rw [HL.out] at HM
  obtain ⟨⟨A, c, rfl, _⟩, _⟩ := id h
  have b0 : (w.alloc (abox (.slice A l.length c) n m k r)).cell? ⟨w.heap.size, 0, none⟩ = some (.slice A l.length c) := Blk.cell (heap_alloc_new w _) 0
  have b1 : (w.alloc (abox (.slice A l.length c) n m k r)).cell? ⟨w.heap.size, 1, none⟩ = some (.int .i64 n) := Blk.cell (heap_alloc_new w _) 1
  have b2 : (w.alloc (abox (.slice A l.length c) n m k r)).cell? ⟨w.heap.size, 2, none⟩ = some (.int .i64 m) := Blk.cell (heap_alloc_new w _) 2
  have b3 : (w.alloc (abox (.slice A l.length c) n m k r)).cell? ⟨w.heap.size, 3, none⟩ = some (.int .i64 k) := Blk.cell (heap_alloc_new w _) 3
  have b4 : (w.alloc (abox (.slice A l.length c) n m k r)).cell? ⟨w.heap.size, 4, none⟩ = some (.int .i64 r) := Blk.cell (heap_alloc_new w _) 4
  clear h hl hT HL HZ
  generalize l.length = q at *
  go_enter Tryz.func4, Tryz.ntmps4
  go_wp2_with fail
  refine HM.out.mono ?_; rintro e w2 ⟨rfl, hb⟩
  have HE := Lib.hid (HB.out.trans (hb.mono HB.out.size))
  clear hb HM HB
  go_wp2_with fail
  go_ret
  exact ⟨rfl, HE.out⟩
set_option maxHeartbeats 400000 in
theorem lawEditRows_any (v : Value) (l : List Sc) (n m k r : Int) (w : World) (h : Scrs 1048576 w v l) (hl : l.length ≤ 140737488355328) (hT : Tabs w) :
    Calls Tryz.prog 5 #[.agg #[v, .int .i64 n, .int .i64 m, .int .i64 k, .int .i64 r]] w fun e w' => e = .returned (.bool true) ∧ Below w.heap.size w w' := by
  have HB := Lib.hid (two_new w (abox v n m k r) (.cells #[.int .i64 76, .int .i64 77] 3))
  have HM := Lib.hid (edits_any v l n m k r [76, 77] (w.alloc (abox v n m k r)).heap.size 2 ((w.alloc (abox v n m k r)).alloc (.cells #[.int .i64 76, .int .i64 77] 3)) (h.kept HB.out) hl (hT.kept HB.out) (kv_two _ 76 77 _) (by simp))
  have HZ : Hid ((w.alloc (abox v n m k r)).heap.size = w.heap.size + 1) := Lib.hid (by simp)
  rw [HZ.out] at HM
  have HL : Hid (([76, 77] : List Int).length = 2) := Lib.hid rfl
  rw [HL.out] at HM
  obtain ⟨⟨A, c, rfl, _⟩, _⟩ := id h
  have b0 : (w.alloc (abox (.slice A l.length c) n m k r)).cell? ⟨w.heap.size, 0, none⟩ = some (.slice A l.length c) := Blk.cell (heap_alloc_new w _) 0
  have b1 : (w.alloc (abox (.slice A l.length c) n m k r)).cell? ⟨w.heap.size, 1, none⟩ = some (.int .i64 n) := Blk.cell (heap_alloc_new w _) 1
  have b2 : (w.alloc (abox (.slice A l.length c) n m k r)).cell? ⟨w.heap.size, 2, none⟩ = some (.int .i64 m) := Blk.cell (heap_alloc_new w _) 2
  have b3 : (w.alloc (abox (.slice A l.length c) n m k r)).cell? ⟨w.heap.size, 3, none⟩ = some (.int .i64 k) := Blk.cell (heap_alloc_new w _) 3
  have b4 : (w.alloc (abox (.slice A l.length c) n m k r)).cell? ⟨w.heap.size, 4, none⟩ = some (.int .i64 r) := Blk.cell (heap_alloc_new w _) 4
  clear h hl hT HL HZ
  generalize l.length = q at *
  go_enter Tryz.func5, Tryz.ntmps5
  go_wp2_with fail
  refine HM.out.mono ?_; rintro e w2 ⟨rfl, hb⟩
  have HE := Lib.hid (HB.out.trans (hb.mono HB.out.size))
  clear hb HM HB
  go_wp2_with fail
  go_ret
  exact ⟨rfl, HE.out⟩
set_option maxHeartbeats 400000 in
theorem lawEditScroll_any (v : Value) (l : List Sc) (n m k r : Int) (w : World) (h : Scrs 1048576 w v l) (hl : l.length ≤ 140737488355328) (hT : Tabs w) :
    Calls Tryz.prog 6 #[.agg #[v, .int .i64 n, .int .i64 m, .int .i64 k, .int .i64 r]] w fun e w' => e = .returned (.bool true) ∧ Below w.heap.size w w' := by
  have HB := Lib.hid (two_new w (abox v n m k r) (.cells #[.int .i64 83, .int .i64 84, .int .i64 k] 3))
  have HM := Lib.hid (edits_any v l n m k r [83, 84, k] (w.alloc (abox v n m k r)).heap.size 3 ((w.alloc (abox v n m k r)).alloc (.cells #[.int .i64 83, .int .i64 84, .int .i64 k] 3)) (h.kept HB.out) hl (hT.kept HB.out) (kv_three _ 83 84 k _) (by simp))
  have HZ : Hid ((w.alloc (abox v n m k r)).heap.size = w.heap.size + 1) := Lib.hid (by simp)
  rw [HZ.out] at HM
  have HL : Hid (([83, 84, k] : List Int).length = 3) := Lib.hid rfl
  rw [HL.out] at HM
  obtain ⟨⟨A, c, rfl, _⟩, _⟩ := id h
  have b0 : (w.alloc (abox (.slice A l.length c) n m k r)).cell? ⟨w.heap.size, 0, none⟩ = some (.slice A l.length c) := Blk.cell (heap_alloc_new w _) 0
  have b1 : (w.alloc (abox (.slice A l.length c) n m k r)).cell? ⟨w.heap.size, 1, none⟩ = some (.int .i64 n) := Blk.cell (heap_alloc_new w _) 1
  have b2 : (w.alloc (abox (.slice A l.length c) n m k r)).cell? ⟨w.heap.size, 2, none⟩ = some (.int .i64 m) := Blk.cell (heap_alloc_new w _) 2
  have b3 : (w.alloc (abox (.slice A l.length c) n m k r)).cell? ⟨w.heap.size, 3, none⟩ = some (.int .i64 k) := Blk.cell (heap_alloc_new w _) 3
  have b4 : (w.alloc (abox (.slice A l.length c) n m k r)).cell? ⟨w.heap.size, 4, none⟩ = some (.int .i64 r) := Blk.cell (heap_alloc_new w _) 4
  clear h hl hT HL HZ
  generalize l.length = q at *
  go_enter Tryz.func6, Tryz.ntmps6
  go_wp2_with fail
  refine HM.out.mono ?_; rintro e w2 ⟨rfl, hb⟩
  have HE := Lib.hid (HB.out.trans (hb.mono HB.out.size))
  clear hb HM HB
  go_wp2_with fail
  go_ret
  exact ⟨rfl, HE.out⟩
set_option maxHeartbeats 400000 in
theorem lawEditBigJ_any (v : Value) (l : List Sc) (n m k r : Int) (w : World) (h : Scrs 1048576 w v l) (hl : l.length ≤ 140737488355328) (hT : Tabs w) :
    Calls Tryz.prog 8 #[.agg #[v, .int .i64 n, .int .i64 m, .int .i64 k, .int .i64 r]] w fun e w' => e = .returned (.bool true) ∧ Below w.heap.size w w' := by
  have HB := Lib.hid (two_new w (abox v n m k r) (.cells #[.int .i64 74] 3))
  have HM := Lib.hid (edits_any v l n m k r [74] (w.alloc (abox v n m k r)).heap.size 1 ((w.alloc (abox v n m k r)).alloc (.cells #[.int .i64 74] 3)) (h.kept HB.out) hl (hT.kept HB.out) (kv_one _ 74 _) (by simp))
  have HZ : Hid ((w.alloc (abox v n m k r)).heap.size = w.heap.size + 1) := Lib.hid (by simp)
  rw [HZ.out] at HM
  have HL : Hid (([74] : List Int).length = 1) := Lib.hid rfl
  rw [HL.out] at HM
  obtain ⟨⟨A, c, rfl, _⟩, _⟩ := id h
  have b0 : (w.alloc (abox (.slice A l.length c) n m k r)).cell? ⟨w.heap.size, 0, none⟩ = some (.slice A l.length c) := Blk.cell (heap_alloc_new w _) 0
  have b1 : (w.alloc (abox (.slice A l.length c) n m k r)).cell? ⟨w.heap.size, 1, none⟩ = some (.int .i64 n) := Blk.cell (heap_alloc_new w _) 1
  have b2 : (w.alloc (abox (.slice A l.length c) n m k r)).cell? ⟨w.heap.size, 2, none⟩ = some (.int .i64 m) := Blk.cell (heap_alloc_new w _) 2
  have b3 : (w.alloc (abox (.slice A l.length c) n m k r)).cell? ⟨w.heap.size, 3, none⟩ = some (.int .i64 k) := Blk.cell (heap_alloc_new w _) 3
  have b4 : (w.alloc (abox (.slice A l.length c) n m k r)).cell? ⟨w.heap.size, 4, none⟩ = some (.int .i64 r) := Blk.cell (heap_alloc_new w _) 4
  clear h hl hT HL HZ
  generalize l.length = q at *
  go_enter Tryz.func8, Tryz.ntmps8
  go_wp2_with fail
  refine HM.out.mono ?_; rintro e w2 ⟨rfl, hb⟩
  have HE := Lib.hid (HB.out.trans (hb.mono HB.out.size))
  clear hb HM HB
  go_wp2_with fail
  go_ret
  exact ⟨rfl, HE.out⟩
set_option maxHeartbeats 400000 in
theorem lawEditBigK_any (v : Value) (l : List Sc) (n m k r : Int) (w : World) (h : Scrs 1048576 w v l) (hl : l.length ≤ 140737488355328) (hT : Tabs w) :
    Calls Tryz.prog 9 #[.agg #[v, .int .i64 n, .int .i64 m, .int .i64 k, .int .i64 r]] w fun e w' => e = .returned (.bool true) ∧ Below w.heap.size w w' := by
  have HB := Lib.hid (two_new w (abox v n m k r) (.cells #[.int .i64 75] 3))
  have HM := Lib.hid (edits_any v l n m k r [75] (w.alloc (abox v n m k r)).heap.size 1 ((w.alloc (abox v n m k r)).alloc (.cells #[.int .i64 75] 3)) (h.kept HB.out) hl (hT.kept HB.out) (kv_one _ 75 _) (by simp))
  have HZ : Hid ((w.alloc (abox v n m k r)).heap.size = w.heap.size + 1) := Lib.hid (by simp)
  rw [HZ.out] at HM
  have HL : Hid (([75] : List Int).length = 1) := Lib.hid rfl
  rw [HL.out] at HM
  obtain ⟨⟨A, c, rfl, _⟩, _⟩ := id h
  have b0 : (w.alloc (abox (.slice A l.length c) n m k r)).cell? ⟨w.heap.size, 0, none⟩ = some (.slice A l.length c) := Blk.cell (heap_alloc_new w _) 0
  have b1 : (w.alloc (abox (.slice A l.length c) n m k r)).cell? ⟨w.heap.size, 1, none⟩ = some (.int .i64 n) := Blk.cell (heap_alloc_new w _) 1
  have b2 : (w.alloc (abox (.slice A l.length c) n m k r)).cell? ⟨w.heap.size, 2, none⟩ = some (.int .i64 m) := Blk.cell (heap_alloc_new w _) 2
  have b3 : (w.alloc (abox (.slice A l.length c) n m k r)).cell? ⟨w.heap.size, 3, none⟩ = some (.int .i64 k) := Blk.cell (heap_alloc_new w _) 3
  have b4 : (w.alloc (abox (.slice A l.length c) n m k r)).cell? ⟨w.heap.size, 4, none⟩ = some (.int .i64 r) := Blk.cell (heap_alloc_new w _) 4
  clear h hl hT HL HZ
  generalize l.length = q at *
  go_enter Tryz.func9, Tryz.ntmps9
  go_wp2_with fail
  refine HM.out.mono ?_; rintro e w2 ⟨rfl, hb⟩
  have HE := Lib.hid (HB.out.trans (hb.mono HB.out.size))
  clear hb HM HB
  go_wp2_with fail
  go_ret
  exact ⟨rfl, HE.out⟩
set_option maxHeartbeats 400000 in
theorem lawEditBigX_any (v : Value) (l : List Sc) (n m k r : Int) (w : World) (h : Scrs 1048576 w v l) (hl : l.length ≤ 140737488355328) (hT : Tabs w) :
    Calls Tryz.prog 10 #[.agg #[v, .int .i64 n, .int .i64 m, .int .i64 k, .int .i64 r]] w fun e w' => e = .returned (.bool true) ∧ Below w.heap.size w w' := by
  have HB := Lib.hid (two_new w (abox v n m k r) (.cells #[.int .i64 88] 3))
  have HM := Lib.hid (edits_any v l n m k r [88] (w.alloc (abox v n m k r)).heap.size 1 ((w.alloc (abox v n m k r)).alloc (.cells #[.int .i64 88] 3)) (h.kept HB.out) hl (hT.kept HB.out) (kv_one _ 88 _) (by simp))
  have HZ : Hid ((w.alloc (abox v n m k r)).heap.size = w.heap.size + 1) := Lib.hid (by simp)
  rw [HZ.out] at HM
  have HL : Hid (([88] : List Int).length = 1) := Lib.hid rfl
  rw [HL.out] at HM
  obtain ⟨⟨A, c, rfl, _⟩, _⟩ := id h
  have b0 : (w.alloc (abox (.slice A l.length c) n m k r)).cell? ⟨w.heap.size, 0, none⟩ = some (.slice A l.length c) := Blk.cell (heap_alloc_new w _) 0
  have b1 : (w.alloc (abox (.slice A l.length c) n m k r)).cell? ⟨w.heap.size, 1, none⟩ = some (.int .i64 n) := Blk.cell (heap_alloc_new w _) 1
  have b2 : (w.alloc (abox (.slice A l.length c) n m k r)).cell? ⟨w.heap.size, 2, none⟩ = some (.int .i64 m) := Blk.cell (heap_alloc_new w _) 2
  have b3 : (w.alloc (abox (.slice A l.length c) n m k r)).cell? ⟨w.heap.size, 3, none⟩ = some (.int .i64 k) := Blk.cell (heap_alloc_new w _) 3
  have b4 : (w.alloc (abox (.slice A l.length c) n m k r)).cell? ⟨w.heap.size, 4, none⟩ = some (.int .i64 r) := Blk.cell (heap_alloc_new w _) 4
  clear h hl hT HL HZ
  generalize l.length = q at *
  go_enter Tryz.func10, Tryz.ntmps10
  go_wp2_with fail
  refine HM.out.mono ?_; rintro e w2 ⟨rfl, hb⟩
  have HE := Lib.hid (HB.out.trans (hb.mono HB.out.size))
  clear hb HM HB
  go_wp2_with fail
  go_ret
  exact ⟨rfl, HE.out⟩
set_option maxHeartbeats 400000 in
theorem lawEditBigP_any (v : Value) (l : List Sc) (n m k r : Int) (w : World) (h : Scrs 1048576 w v l) (hl : l.length ≤ 140737488355328) (hT : Tabs w) :
    Calls Tryz.prog 11 #[.agg #[v, .int .i64 n, .int .i64 m, .int .i64 k, .int .i64 r]] w fun e w' => e = .returned (.bool true) ∧ Below w.heap.size w w' := by
  have HB := Lib.hid (two_new w (abox v n m k r) (.cells #[.int .i64 80] 3))
  have HM := Lib.hid (edits_any v l n m k r [80] (w.alloc (abox v n m k r)).heap.size 1 ((w.alloc (abox v n m k r)).alloc (.cells #[.int .i64 80] 3)) (h.kept HB.out) hl (hT.kept HB.out) (kv_one _ 80 _) (by simp))
  have HZ : Hid ((w.alloc (abox v n m k r)).heap.size = w.heap.size + 1) := Lib.hid (by simp)
  rw [HZ.out] at HM
  have HL : Hid (([80] : List Int).length = 1) := Lib.hid rfl
  rw [HL.out] at HM
  obtain ⟨⟨A, c, rfl, _⟩, _⟩ := id h
  have b0 : (w.alloc (abox (.slice A l.length c) n m k r)).cell? ⟨w.heap.size, 0, none⟩ = some (.slice A l.length c) := Blk.cell (heap_alloc_new w _) 0
  have b1 : (w.alloc (abox (.slice A l.length c) n m k r)).cell? ⟨w.heap.size, 1, none⟩ = some (.int .i64 n) := Blk.cell (heap_alloc_new w _) 1
  have b2 : (w.alloc (abox (.slice A l.length c) n m k r)).cell? ⟨w.heap.size, 2, none⟩ = some (.int .i64 m) := Blk.cell (heap_alloc_new w _) 2
  have b3 : (w.alloc (abox (.slice A l.length c) n m k r)).cell? ⟨w.heap.size, 3, none⟩ = some (.int .i64 k) := Blk.cell (heap_alloc_new w _) 3
  have b4 : (w.alloc (abox (.slice A l.length c) n m k r)).cell? ⟨w.heap.size, 4, none⟩ = some (.int .i64 r) := Blk.cell (heap_alloc_new w _) 4
  clear h hl hT HL HZ
  generalize l.length = q at *
  go_enter Tryz.func11, Tryz.ntmps11
  go_wp2_with fail
  refine HM.out.mono ?_; rintro e w2 ⟨rfl, hb⟩
  have HE := Lib.hid (HB.out.trans (hb.mono HB.out.size))
  clear hb HM HB
  go_wp2_with fail
  go_ret
  exact ⟨rfl, HE.out⟩
set_option maxHeartbeats 400000 in
theorem lawEditAt_any (v : Value) (l : List Sc) (n m k r : Int) (w : World) (h : Scrs 1048576 w v l) (hl : l.length ≤ 140737488355328) (hT : Tabs w) :
    Calls Tryz.prog 12 #[.agg #[v, .int .i64 n, .int .i64 m, .int .i64 k, .int .i64 r]] w fun e w' => e = .returned (.bool true) ∧ Below w.heap.size w w' := by
  have HB := Lib.hid (two_new w (abox v n m k r) (.cells #[.int .i64 64] 3))
  have HM := Lib.hid (edits_any v l n m k r [64] (w.alloc (abox v n m k r)).heap.size 1 ((w.alloc (abox v n m k r)).alloc (.cells #[.int .i64 64] 3)) (h.kept HB.out) hl (hT.kept HB.out) (kv_one _ 64 _) (by simp))
  have HZ : Hid ((w.alloc (abox v n m k r)).heap.size = w.heap.size + 1) := Lib.hid (by simp)
  rw [HZ.out] at HM
  have HL : Hid (([64] : List Int).length = 1) := Lib.hid rfl
  rw [HL.out] at HM
  obtain ⟨⟨A, c, rfl, _⟩, _⟩ := id h
  have b0 : (w.alloc (abox (.slice A l.length c) n m k r)).cell? ⟨w.heap.size, 0, none⟩ = some (.slice A l.length c) := Blk.cell (heap_alloc_new w _) 0
  have b1 : (w.alloc (abox (.slice A l.length c) n m k r)).cell? ⟨w.heap.size, 1, none⟩ = some (.int .i64 n) := Blk.cell (heap_alloc_new w _) 1
  have b2 : (w.alloc (abox (.slice A l.length c) n m k r)).cell? ⟨w.heap.size, 2, none⟩ = some (.int .i64 m) := Blk.cell (heap_alloc_new w _) 2
  have b3 : (w.alloc (abox (.slice A l.length c) n m k r)).cell? ⟨w.heap.size, 3, none⟩ = some (.int .i64 k) := Blk.cell (heap_alloc_new w _) 3
  have b4 : (w.alloc (abox (.slice A l.length c) n m k r)).cell? ⟨w.heap.size, 4, none⟩ = some (.int .i64 r) := Blk.cell (heap_alloc_new w _) 4
  clear h hl hT HL HZ
  generalize l.length = q at *
  go_enter Tryz.func12, Tryz.ntmps12
  go_wp2_with fail
  refine HM.out.mono ?_; rintro e w2 ⟨rfl, hb⟩
  have HE := Lib.hid (HB.out.trans (hb.mono HB.out.size))
  clear hb HM HB
  go_wp2_with fail
  go_ret
  exact ⟨rfl, HE.out⟩
set_option maxHeartbeats 400000 in
theorem lawEditBigL_any (v : Value) (l : List Sc) (n m k r : Int) (w : World) (h : Scrs 1048576 w v l) (hl : l.length ≤ 140737488355328) (hT : Tabs w) :
    Calls Tryz.prog 13 #[.agg #[v, .int .i64 n, .int .i64 m, .int .i64 k, .int .i64 r]] w fun e w' => e = .returned (.bool true) ∧ Below w.heap.size w w' := by
  have HB := Lib.hid (two_new w (abox v n m k r) (.cells #[.int .i64 76] 3))
  have HM := Lib.hid (edits_any v l n m k r [76] (w.alloc (abox v n m k r)).heap.size 1 ((w.alloc (abox v n m k r)).alloc (.cells #[.int .i64 76] 3)) (h.kept HB.out) hl (hT.kept HB.out) (kv_one _ 76 _) (by simp))
  have HZ : Hid ((w.alloc (abox v n m k r)).heap.size = w.heap.size + 1) := Lib.hid (by simp)
  rw [HZ.out] at HM
  have HL : Hid (([76] : List Int).length = 1) := Lib.hid rfl
  rw [HL.out] at HM
  obtain ⟨⟨A, c, rfl, _⟩, _⟩ := id h
  have b0 : (w.alloc (abox (.slice A l.length c) n m k r)).cell? ⟨w.heap.size, 0, none⟩ = some (.slice A l.length c) := Blk.cell (heap_alloc_new w _) 0
  have b1 : (w.alloc (abox (.slice A l.length c) n m k r)).cell? ⟨w.heap.size, 1, none⟩ = some (.int .i64 n) := Blk.cell (heap_alloc_new w _) 1
  have b2 : (w.alloc (abox (.slice A l.length c) n m k r)).cell? ⟨w.heap.size, 2, none⟩ = some (.int .i64 m) := Blk.cell (heap_alloc_new w _) 2
  have b3 : (w.alloc (abox (.slice A l.length c) n m k r)).cell? ⟨w.heap.size, 3, none⟩ = some (.int .i64 k) := Blk.cell (heap_alloc_new w _) 3
  have b4 : (w.alloc (abox (.slice A l.length c) n m k r)).cell? ⟨w.heap.size, 4, none⟩ = some (.int .i64 r) := Blk.cell (heap_alloc_new w _) 4
  clear h hl hT HL HZ
  generalize l.length = q at *
  go_enter Tryz.func13, Tryz.ntmps13
  go_wp2_with fail
  refine HM.out.mono ?_; rintro e w2 ⟨rfl, hb⟩
  have HE := Lib.hid (HB.out.trans (hb.mono HB.out.size))
  clear hb HM HB
  go_wp2_with fail
  go_ret
  exact ⟨rfl, HE.out⟩
set_option maxHeartbeats 400000 in
theorem lawEditBigM_any (v : Value) (l : List Sc) (n m k r : Int) (w : World) (h : Scrs 1048576 w v l) (hl : l.length ≤ 140737488355328) (hT : Tabs w) :
    Calls Tryz.prog 14 #[.agg #[v, .int .i64 n, .int .i64 m, .int .i64 k, .int .i64 r]] w fun e w' => e = .returned (.bool true) ∧ Below w.heap.size w w' := by
  have HB := Lib.hid (two_new w (abox v n m k r) (.cells #[.int .i64 77] 3))
  have HM := Lib.hid (edits_any v l n m k r [77] (w.alloc (abox v n m k r)).heap.size 1 ((w.alloc (abox v n m k r)).alloc (.cells #[.int .i64 77] 3)) (h.kept HB.out) hl (hT.kept HB.out) (kv_one _ 77 _) (by simp))
  have HZ : Hid ((w.alloc (abox v n m k r)).heap.size = w.heap.size + 1) := Lib.hid (by simp)
  rw [HZ.out] at HM
  have HL : Hid (([77] : List Int).length = 1) := Lib.hid rfl
  rw [HL.out] at HM
  obtain ⟨⟨A, c, rfl, _⟩, _⟩ := id h
  have b0 : (w.alloc (abox (.slice A l.length c) n m k r)).cell? ⟨w.heap.size, 0, none⟩ = some (.slice A l.length c) := Blk.cell (heap_alloc_new w _) 0
  have b1 : (w.alloc (abox (.slice A l.length c) n m k r)).cell? ⟨w.heap.size, 1, none⟩ = some (.int .i64 n) := Blk.cell (heap_alloc_new w _) 1
  have b2 : (w.alloc (abox (.slice A l.length c) n m k r)).cell? ⟨w.heap.size, 2, none⟩ = some (.int .i64 m) := Blk.cell (heap_alloc_new w _) 2
  have b3 : (w.alloc (abox (.slice A l.length c) n m k r)).cell? ⟨w.heap.size, 3, none⟩ = some (.int .i64 k) := Blk.cell (heap_alloc_new w _) 3
  have b4 : (w.alloc (abox (.slice A l.length c) n m k r)).cell? ⟨w.heap.size, 4, none⟩ = some (.int .i64 r) := Blk.cell (heap_alloc_new w _) 4
  clear h hl hT HL HZ
  generalize l.length = q at *
  go_enter Tryz.func14, Tryz.ntmps14
  go_wp2_with fail
  refine HM.out.mono ?_; rintro e w2 ⟨rfl, hb⟩
  have HE := Lib.hid (HB.out.trans (hb.mono HB.out.size))
  clear hb HM HB
  go_wp2_with fail
  go_ret
  exact ⟨rfl, HE.out⟩
set_option maxHeartbeats 400000 in
theorem lawEditBigS_any (v : Value) (l : List Sc) (n m k r : Int) (w : World) (h : Scrs 1048576 w v l) (hl : l.length ≤ 140737488355328) (hT : Tabs w) :
    Calls Tryz.prog 15 #[.agg #[v, .int .i64 n, .int .i64 m, .int .i64 k, .int .i64 r]] w fun e w' => e = .returned (.bool true) ∧ Below w.heap.size w w' := by
  have HB := Lib.hid (two_new w (abox v n m k r) (.cells #[.int .i64 83] 3))
  have HM := Lib.hid (edits_any v l n m k r [83] (w.alloc (abox v n m k r)).heap.size 1 ((w.alloc (abox v n m k r)).alloc (.cells #[.int .i64 83] 3)) (h.kept HB.out) hl (hT.kept HB.out) (kv_one _ 83 _) (by simp))
  have HZ : Hid ((w.alloc (abox v n m k r)).heap.size = w.heap.size + 1) := Lib.hid (by simp)
  rw [HZ.out] at HM
  have HL : Hid (([83] : List Int).length = 1) := Lib.hid rfl
  rw [HL.out] at HM
  obtain ⟨⟨A, c, rfl, _⟩, _⟩ := id h
  have b0 : (w.alloc (abox (.slice A l.length c) n m k r)).cell? ⟨w.heap.size, 0, none⟩ = some (.slice A l.length c) := Blk.cell (heap_alloc_new w _) 0
  have b1 : (w.alloc (abox (.slice A l.length c) n m k r)).cell? ⟨w.heap.size, 1, none⟩ = some (.int .i64 n) := Blk.cell (heap_alloc_new w _) 1
  have b2 : (w.alloc (abox (.slice A l.length c) n m k r)).cell? ⟨w.heap.size, 2, none⟩ = some (.int .i64 m) := Blk.cell (heap_alloc_new w _) 2
  have b3 : (w.alloc (abox (.slice A l.length c) n m k r)).cell? ⟨w.heap.size, 3, none⟩ = some (.int .i64 k) := Blk.cell (heap_alloc_new w _) 3
  have b4 : (w.alloc (abox (.slice A l.length c) n m k r)).cell? ⟨w.heap.size, 4, none⟩ = some (.int .i64 r) := Blk.cell (heap_alloc_new w _) 4
  clear h hl hT HL HZ
  generalize l.length = q at *
  go_enter Tryz.func15, Tryz.ntmps15
  go_wp2_with fail
  refine HM.out.mono ?_; rintro e w2 ⟨rfl, hb⟩
  have HE := Lib.hid (HB.out.trans (hb.mono HB.out.size))
  clear hb HM HB
  go_wp2_with fail
  go_ret
  exact ⟨rfl, HE.out⟩
set_option maxHeartbeats 400000 in
theorem lawEditBigT_any (v : Value) (l : List Sc) (n m k r : Int) (w : World) (h : Scrs 1048576 w v l) (hl : l.length ≤ 140737488355328) (hT : Tabs w) :
    Calls Tryz.prog 16 #[.agg #[v, .int .i64 n, .int .i64 m, .int .i64 k, .int .i64 r]] w fun e w' => e = .returned (.bool true) ∧ Below w.heap.size w w' := by
  have HB := Lib.hid (two_new w (abox v n m k r) (.cells #[.int .i64 84] 3))
  have HM := Lib.hid (edits_any v l n m k r [84] (w.alloc (abox v n m k r)).heap.size 1 ((w.alloc (abox v n m k r)).alloc (.cells #[.int .i64 84] 3)) (h.kept HB.out) hl (hT.kept HB.out) (kv_one _ 84 _) (by simp))
  have HZ : Hid ((w.alloc (abox v n m k r)).heap.size = w.heap.size + 1) := Lib.hid (by simp)
  rw [HZ.out] at HM
  have HL : Hid (([84] : List Int).length = 1) := Lib.hid rfl
  rw [HL.out] at HM
  obtain ⟨⟨A, c, rfl, _⟩, _⟩ := id h
  have b0 : (w.alloc (abox (.slice A l.length c) n m k r)).cell? ⟨w.heap.size, 0, none⟩ = some (.slice A l.length c) := Blk.cell (heap_alloc_new w _) 0
  have b1 : (w.alloc (abox (.slice A l.length c) n m k r)).cell? ⟨w.heap.size, 1, none⟩ = some (.int .i64 n) := Blk.cell (heap_alloc_new w _) 1
  have b2 : (w.alloc (abox (.slice A l.length c) n m k r)).cell? ⟨w.heap.size, 2, none⟩ = some (.int .i64 m) := Blk.cell (heap_alloc_new w _) 2
  have b3 : (w.alloc (abox (.slice A l.length c) n m k r)).cell? ⟨w.heap.size, 3, none⟩ = some (.int .i64 k) := Blk.cell (heap_alloc_new w _) 3
  have b4 : (w.alloc (abox (.slice A l.length c) n m k r)).cell? ⟨w.heap.size, 4, none⟩ = some (.int .i64 r) := Blk.cell (heap_alloc_new w _) 4
  clear h hl hT HL HZ
  generalize l.length = q at *
  go_enter Tryz.func16, Tryz.ntmps16
  go_wp2_with fail
  refine HM.out.mono ?_; rintro e w2 ⟨rfl, hb⟩
  have HE := Lib.hid (HB.out.trans (hb.mono HB.out.size))
  clear hb HM HB
  go_wp2_with fail
  go_ret
  exact ⟨rfl, HE.out⟩
end Scr
end Go.Proofs.YtgdfiiikbnpagaaGreatDoor
end
