/- The law on each number alone. -/
import Derived.Test.YtabplmhmanbmjaaSgrLawB
import Derived.Test.YtabplmhmanbmjaaSgrRefA
import Derived.Deep.RegionHeld3
namespace Go.Proofs.Ytabplmhmanbmjaa
set_option maxRecDepth 100000
open Go.RowKit
namespace Sl4
open Sgr Sd

/-- Rows of numbers, one behind the other. -/
def laid (w : World) : List (List Int) → World
  | [] => w
  | r :: rs => laid (w.alloc (.cells (ints r).toArray 3)) rs
theorem laid_below : ∀ (rs : List (List Int)) (w : World), Below w.heap.size w (laid w rs)
  | [], w => Below.refl _ _
  | r :: rs, w => ((Below.refl _ _).alloc (Nat.le_refl _) _).trans ((laid_below rs _).mono (by simp))
theorem laid_size : ∀ (rs : List (List Int)) (w : World), (laid w rs).heap.size = w.heap.size + rs.length
  | [], w => rfl
  | r :: rs, w => by
    show (laid (w.alloc _) rs).heap.size = _
    rw [laid_size rs, List.length_cons]; simp; omega
theorem laid_sl : ∀ (rs : List (List Int)) (w : World) (i : Nat), i < rs.length → Sl (laid w rs) (.slice (some ⟨w.heap.size + i, 0, none⟩) (rs.getD i []).length (rs.getD i []).length) (rs.getD i [])
  | r :: rs, w, 0, _ => (Sl.made w r _).kept (laid_below rs _)
  | r :: rs, w, i + 1, h => by
    have := laid_sl rs (w.alloc (.cells (ints r).toArray 3)) i (by simpa using h)
    have e : (w.alloc (.cells (ints r).toArray 3)).heap.size + i = w.heap.size + (i + 1) := by simp; omega
    rw [e] at this
    exact this
def eachOf (n : Int) : List (List Int) := [[n], [n, 5, 255], [n, 5, 256], [n, 2, 1, 2, 3, 4], [n, 2, 255, 256, 0], [n, 2, 1], [38, 5, n], [48, 2, n, n, n, 1]]
theorem each_lists (n : Int) (wr : World) : Lists (((((((((wr.alloc (.cells #[.int .i64 n] 3)).alloc (.cells #[.int .i64 n, .int .i64 5, .int .i64 255] 3)).alloc (.cells #[.int .i64 n, .int .i64 5, .int .i64 256] 3)).alloc (.cells #[.int .i64 n, .int .i64 2, .int .i64 1, .int .i64 2, .int .i64 3, .int .i64 4] 3)).alloc (.cells #[.int .i64 n, .int .i64 2, .int .i64 255, .int .i64 256, .int .i64 0] 3)).alloc (.cells #[.int .i64 n, .int .i64 2, .int .i64 1] 3)).alloc (.cells #[.int .i64 38, .int .i64 5, .int .i64 n] 3)).alloc (.cells #[.int .i64 48, .int .i64 2, .int .i64 n, .int .i64 n, .int .i64 n, .int .i64 1] 3)).alloc (.cells #[.slice (some ⟨wr.heap.size, 0, none⟩) 1 1, .slice (some ⟨wr.heap.size + 1, 0, none⟩) 3 3, .slice (some ⟨wr.heap.size + 1 + 1, 0, none⟩) 3 3, .slice (some ⟨wr.heap.size + 1 + 1 + 1, 0, none⟩) 6 6, .slice (some ⟨wr.heap.size + 1 + 1 + 1 + 1, 0, none⟩) 5 5, .slice (some ⟨wr.heap.size + 1 + 1 + 1 + 1 + 1, 0, none⟩) 3 3, .slice (some ⟨wr.heap.size + 1 + 1 + 1 + 1 + 1 + 1, 0, none⟩) 3 3, .slice (some ⟨wr.heap.size + 1 + 1 + 1 + 1 + 1 + 1 + 1, 0, none⟩) 6 6] 30)) (.slice (some ⟨wr.heap.size + 1 + 1 + 1 + 1 + 1 + 1 + 1 + 1, 0, none⟩) 8 8) (eachOf n) ∧ Below wr.heap.size wr (((((((((wr.alloc (.cells #[.int .i64 n] 3)).alloc (.cells #[.int .i64 n, .int .i64 5, .int .i64 255] 3)).alloc (.cells #[.int .i64 n, .int .i64 5, .int .i64 256] 3)).alloc (.cells #[.int .i64 n, .int .i64 2, .int .i64 1, .int .i64 2, .int .i64 3, .int .i64 4] 3)).alloc (.cells #[.int .i64 n, .int .i64 2, .int .i64 255, .int .i64 256, .int .i64 0] 3)).alloc (.cells #[.int .i64 n, .int .i64 2, .int .i64 1] 3)).alloc (.cells #[.int .i64 38, .int .i64 5, .int .i64 n] 3)).alloc (.cells #[.int .i64 48, .int .i64 2, .int .i64 n, .int .i64 n, .int .i64 n, .int .i64 1] 3)).alloc (.cells #[.slice (some ⟨wr.heap.size, 0, none⟩) 1 1, .slice (some ⟨wr.heap.size + 1, 0, none⟩) 3 3, .slice (some ⟨wr.heap.size + 1 + 1, 0, none⟩) 3 3, .slice (some ⟨wr.heap.size + 1 + 1 + 1, 0, none⟩) 6 6, .slice (some ⟨wr.heap.size + 1 + 1 + 1 + 1, 0, none⟩) 5 5, .slice (some ⟨wr.heap.size + 1 + 1 + 1 + 1 + 1, 0, none⟩) 3 3, .slice (some ⟨wr.heap.size + 1 + 1 + 1 + 1 + 1 + 1, 0, none⟩) 3 3, .slice (some ⟨wr.heap.size + 1 + 1 + 1 + 1 + 1 + 1 + 1, 0, none⟩) 6 6] 30)) := by
  have hb0 := laid_below (eachOf n) wr
  have hz := laid_size (eachOf n) wr
  have hb1 : Below (laid wr (eachOf n)).heap.size (laid wr (eachOf n)) ((laid wr (eachOf n)).alloc (.cells #[.slice (some ⟨wr.heap.size, 0, none⟩) 1 1, .slice (some ⟨wr.heap.size + 1, 0, none⟩) 3 3, .slice (some ⟨wr.heap.size + 1 + 1, 0, none⟩) 3 3, .slice (some ⟨wr.heap.size + 1 + 1 + 1, 0, none⟩) 6 6, .slice (some ⟨wr.heap.size + 1 + 1 + 1 + 1, 0, none⟩) 5 5, .slice (some ⟨wr.heap.size + 1 + 1 + 1 + 1 + 1, 0, none⟩) 3 3, .slice (some ⟨wr.heap.size + 1 + 1 + 1 + 1 + 1 + 1, 0, none⟩) 3 3, .slice (some ⟨wr.heap.size + 1 + 1 + 1 + 1 + 1 + 1 + 1, 0, none⟩) 6 6] 30)) := (Below.refl _ _).alloc (Nat.le_refl _) _
  refine ⟨⟨[.slice (some ⟨wr.heap.size, 0, none⟩) 1 1, .slice (some ⟨wr.heap.size + 1, 0, none⟩) 3 3, .slice (some ⟨wr.heap.size + 1 + 1, 0, none⟩) 3 3, .slice (some ⟨wr.heap.size + 1 + 1 + 1, 0, none⟩) 6 6, .slice (some ⟨wr.heap.size + 1 + 1 + 1 + 1, 0, none⟩) 5 5, .slice (some ⟨wr.heap.size + 1 + 1 + 1 + 1 + 1, 0, none⟩) 3 3, .slice (some ⟨wr.heap.size + 1 + 1 + 1 + 1 + 1 + 1, 0, none⟩) 3 3, .slice (some ⟨wr.heap.size + 1 + 1 + 1 + 1 + 1 + 1 + 1, 0, none⟩) 6 6], rfl, Src.made_at (laid wr (eachOf n)) _ [.slice (some ⟨wr.heap.size, 0, none⟩) 1 1, .slice (some ⟨wr.heap.size + 1, 0, none⟩) 3 3, .slice (some ⟨wr.heap.size + 1 + 1, 0, none⟩) 3 3, .slice (some ⟨wr.heap.size + 1 + 1 + 1, 0, none⟩) 6 6, .slice (some ⟨wr.heap.size + 1 + 1 + 1 + 1, 0, none⟩) 5 5, .slice (some ⟨wr.heap.size + 1 + 1 + 1 + 1 + 1, 0, none⟩) 3 3, .slice (some ⟨wr.heap.size + 1 + 1 + 1 + 1 + 1 + 1, 0, none⟩) 3 3, .slice (some ⟨wr.heap.size + 1 + 1 + 1 + 1 + 1 + 1 + 1, 0, none⟩) 6 6] _ _ 8 8 (by rw [hz]; rfl) rfl rfl, fun k hk => ?_⟩, hb0.alloc hb0.size _⟩
  have hk8 : k < 8 := hk
  have := (laid_sl (eachOf n) wr k hk).kept hb1
  have hc : k = 0 ∨ k = 1 ∨ k = 2 ∨ k = 3 ∨ k = 4 ∨ k = 5 ∨ k = 6 ∨ k = 7 := by omega
  rcases hc with rfl | rfl | rfl | rfl | rfl | rfl | rfl | rfl <;> exact this
theorem each_ok (n : Int) (h : -1 ≤ n) (h2 : n < 120) (k : Nat) (hk : k < (eachOf n).length) : ((eachOf n).getD k []).length ≤ 6 ∧ paramsOk ((eachOf n).getD k []) = true := by
  have hk8 : k < 8 := hk
  have hn : rng n (-1) 9999 = true := rng_yes (by omega)
  have hc : k = 0 ∨ k = 1 ∨ k = 2 ∨ k = 3 ∨ k = 4 ∨ k = 5 ∨ k = 6 ∨ k = 7 := by omega
  rcases hc with rfl | rfl | rfl | rfl | rfl | rfl | rfl | rfl <;> refine ⟨by simp [eachOf, List.getD], ?_⟩ <;> simp [eachOf, List.getD, paramsOk, hn] <;> decide
theorem fits_of {l : List Int} (h : paramsOk l = true) : ∀ k, k < l.length → -1 ≤ l.getD k 0 ∧ l.getD k 0 ≤ 9999 := fun k hk => params_get h k hk
def full : Look := ⟨300, 7, 255⟩
theorem full_ok : attrOk full = true := by decide
theorem bare_ok : attrOk bare = true := by decide
theorem add_zero (b k : Nat) : (⟨b, 0, none⟩ : Addr).add k = ⟨b, k, none⟩ := by unfold Addr.add; split <;> simp_all
/-- What lies where an answer went. -/
def Got (wb : World) (Q : Look) (xp ev : Value) (wx : World) : Prop :=
  ∃ g, xp = .pointer (some ⟨g, 0, none⟩) ∧ ev = .int .i64 0 ∧ wb.heap.size ≤ g ∧ wx.heap[g]? = some (.cells #[.int .i64 Q.fg, .int .i64 Q.bg, .int .i64 Q.flags] 29 (0, 0)) ∧ Below wb.heap.size wb wx
theorem got_alloc {wb w5 : World} {Q : Look} (hb : Below wb.heap.size wb w5) : Got wb Q (.pointer (some ⟨w5.heap.size, 0, none⟩)) (.int .i64 0) (w5.alloc (.cells #[.int .i64 Q.fg, .int .i64 Q.bg, .int .i64 Q.flags] 29)) :=
  ⟨_, rfl, rfl, hb.size, heap_alloc_new w5 _, hb.alloc hb.size _⟩
theorem got_set {wb w5 : World} {Q : Look} {g : Nat} (hb : Below wb.heap.size wb w5) (hg : wb.heap.size ≤ g) (hblk : w5.heap[g]? = some (.cells #[.int .i64 0, .int .i64 0, .int .i64 0] 29 (0, 0))) :
    Got wb Q (.pointer (some ⟨g, 0, none⟩)) (.int .i64 0) (((w5.setCell ⟨g, 0, none⟩ (.int .i64 Q.fg)).setCell ⟨g, 1, none⟩ (.int .i64 Q.bg)).setCell ⟨g, 2, none⟩ (.int .i64 Q.flags)) :=
  ⟨g, rfl, rfl, hg, Blk.set (Blk.set (Blk.set hblk 0 _) 1 _) 2 _, ((hb.setCell (p := ⟨g, 0, none⟩) hg _).setCell (p := ⟨g, 1, none⟩) hg _).setCell (p := ⟨g, 2, none⟩) hg _⟩
set_option maxHeartbeats 12800000 in
theorem lawEach_any {x y : Value} (l : List Look) (ls : List (List Int)) (w : World) (hx : Atts w x l) (hy : Lists w y ls) :
    Calls Try.prog 4 #[.agg #[x, y]] w fun e w' => e = .returned (.bool true) ∧ Below w.heap.size w w' := by
  obtain ⟨A, c, rfl, _⟩ := hx.form
  obtain ⟨A', c', rfl, _⟩ := hy.form
  clear hx hy
  go_enter Try.func4, Try.ntmps4
  go_wp2_with fail
  have HB1 : Hid (Below w.heap.size w ((w.alloc (.cells #[.slice A l.length c, .slice A' ls.length c'] 25)).alloc (.cells #[.int .i64 300, .int .i64 7, .int .i64 255] 29))) := Lib.hid (((Below.refl _ _).alloc (Nat.le_refl _) _).alloc (by simp) _)
  have HK1 : Hid (((w.alloc (.cells #[.slice A l.length c, .slice A' ls.length c'] 25)).alloc (.cells #[.int .i64 300, .int .i64 7, .int .i64 255] 29)).heap[w.heap.size]? = some (.cells #[.slice A l.length c, .slice A' ls.length c'] 25 (0, 0))) := Lib.hid (old_alloc (heap_alloc_new _ _) _)
  have HF1 : Hid (((w.alloc (.cells #[.slice A l.length c, .slice A' ls.length c'] 25)).alloc (.cells #[.int .i64 300, .int .i64 7, .int .i64 255] 29)).heap[w.heap.size + 1]? = some (.cells #[.int .i64 300, .int .i64 7, .int .i64 255] 29 (0, 0))) := Lib.hid (new_alloc _ _ _ (by simp))
  generalize (w.alloc (.cells #[.slice A l.length c, .slice A' ls.length c'] 25)).alloc (.cells #[.int .i64 300, .int .i64 7, .int .i64 255] 29) = w1 at HB1 HK1 HF1 ⊢
  obtain ⟨g, hg⟩ : ∃ g, w.heap.size = g := ⟨_, rfl⟩
  rw [hg] at HB1 HK1 HF1 ⊢
  have HG := Lib.hid hg
  clear hg
  go_loopw [4] (fun i wr => ∃ k : Nat, k ≤ 121 ∧ i = .int .i64 ((k : Int) - 1) ∧ Below w1.heap.size w1 wr) (fun i _ => 121 - (intOf i + 1).toNat)
  case atStart => exact ⟨0, by omega, rfl, Below.refl _ _⟩
  case round =>
    obtain ⟨k, hk, rfl, hbl⟩ := hrel
    have HKr := Lib.hid (Blk.kept HK1.out hbl)
    have HFr := Lib.hid (Blk.kept HF1.out hbl)
    have HBr : Hid (Below g w wr) := Lib.hid (HB1.out.trans (hbl.mono (by have := HB1.out.size; have := HG.out; omega)))
    generalize hnn : (k : Int) - 1 = n
    have HN := Lib.hid hnn
    by_cases hlt : n < 120
    · have hlo : -1 ≤ n := by omega
      have HOK := Lib.hid (each_ok n hlo hlt)
      have HEL := Lib.hid (each_lists n wr)
      clear hnn
      go_wp2_with fail
      generalize ((((((((wr.alloc (.cells #[.int .i64 n] 3)).alloc (.cells #[.int .i64 n, .int .i64 5, .int .i64 255] 3)).alloc (.cells #[.int .i64 n, .int .i64 5, .int .i64 256] 3)).alloc (.cells #[.int .i64 n, .int .i64 2, .int .i64 1, .int .i64 2, .int .i64 3, .int .i64 4] 3)).alloc (.cells #[.int .i64 n, .int .i64 2, .int .i64 255, .int .i64 256, .int .i64 0] 3)).alloc (.cells #[.int .i64 n, .int .i64 2, .int .i64 1] 3)).alloc (.cells #[.int .i64 38, .int .i64 5, .int .i64 n] 3)).alloc (.cells #[.int .i64 48, .int .i64 2, .int .i64 n, .int .i64 n, .int .i64 n, .int .i64 1] 3)).alloc (.cells #[.slice (some ⟨wr.heap.size, 0, none⟩) 1 1, .slice (some ⟨wr.heap.size + 1, 0, none⟩) 3 3, .slice (some ⟨wr.heap.size + 1 + 1, 0, none⟩) 3 3, .slice (some ⟨wr.heap.size + 1 + 1 + 1, 0, none⟩) 6 6, .slice (some ⟨wr.heap.size + 1 + 1 + 1 + 1, 0, none⟩) 5 5, .slice (some ⟨wr.heap.size + 1 + 1 + 1 + 1 + 1, 0, none⟩) 3 3, .slice (some ⟨wr.heap.size + 1 + 1 + 1 + 1 + 1 + 1, 0, none⟩) 3 3, .slice (some ⟨wr.heap.size + 1 + 1 + 1 + 1 + 1 + 1 + 1, 0, none⟩) 6 6] 30) = w2 at HEL ⊢
      obtain ⟨gl, hgl⟩ : ∃ gl, wr.heap.size + 1 + 1 + 1 + 1 + 1 + 1 + 1 + 1 = gl := ⟨_, rfl⟩
      rw [hgl] at HEL ⊢
      clear hgl
      have HB2 := Lib.hid HEL.out.2
      have HL2 := Lib.hid HEL.out.1
      have HK2 := Lib.hid (Blk.kept HKr.out HB2.out)
      have HF2 := Lib.hid (Blk.kept HFr.out HB2.out)
      have HB12 : Hid (Below w1.heap.size w1 w2) := Lib.hid (hbl.trans (HB2.out.mono hbl.size))
      clear HEL
      obtain ⟨AL, cL, eL, hfl⟩ := HL2.out.form
      injection eL with e1 e2 e3
      subst e1
      have HFL : Hid (∀ j, j < (eachOf n).length → ∃ pv, w2.cell? ((⟨gl, 0, none⟩ : Addr).add j) = some pv ∧ Sl w2 pv ((eachOf n).getD j [])) := Lib.hid fun j hj => by
        obtain ⟨ad, pv, e, h1, h2⟩ := hfl j hj
        obtain rfl : (⟨gl, 0, none⟩ : Addr) = ad := by simpa using e
        exact ⟨pv, h1, h2⟩
      clear hfl e2 e3
      obtain ⟨wo, rfl⟩ : ∃ wo : World, wo = wr := ⟨_, rfl⟩
      go_loopw [6] (fun j wr => ∃ m : Nat, m ≤ 8 ∧ j = .int .i64 m ∧ Below w2.heap.size w2 wr) (fun j _ => 8 - (intOf j).toNat)
      case atStart => exact ⟨0, by omega, rfl, Below.refl _ _⟩
      case round =>
        obtain ⟨m, hm, rfl, hbl2⟩ := hrel
        by_cases hlt2 : m < 8
        · have hm8 : decide ((m : Int) < 8) = true := decide_eq_true (by omega)
          obtain ⟨pv, hpv, hsl⟩ := HFL.out m hlt2
          obtain ⟨hq6, hqok⟩ := HOK.out m hlt2
          generalize (eachOf n).getD m [] = q at hsl hq6 hqok
          have HQ6 := Lib.hid hq6
          have HQK := Lib.hid hqok
          rw [add_zero] at hpv
          have HPV := Lib.hid (cell_kept hbl2 hpv)
          have HSr := Lib.hid (hsl.kept hbl2)
          have HF3 := Lib.hid (Blk.kept HF2.out hbl2)
          have HK3 := Lib.hid (Blk.kept HK2.out hbl2)
          have hgs : g + 1 < wr.heap.size := Blk.lt HF3.out
          have hpb : gl < wr.heap.size := World.block_lt_of_cell? wr _ HPV.out
          clear hpv hsl hq6 hqok
          go_upto_region 9 with (fail)
          have f0 : wr.cell? ⟨g + 1, 0, none⟩ = some (.int .i64 300) := Blk.cell HF3.out 0
          have f1 : wr.cell? ⟨g + 1, 1, none⟩ = some (.int .i64 7) := Blk.cell HF3.out 1
          have f2 : wr.cell? ⟨g + 1, 2, none⟩ = some (.int .i64 255) := Blk.cell HF3.out 2
          have hp : wr.cell? ⟨gl, m, none⟩ = some pv := HPV.out
          have hmI : (m : Int) < 8 := by omega
          have hm0 : (0 : Int) ≤ m := by omega
          clear hm8
          obtain ⟨P, hP⟩ : ∃ P, applyOf full q = P := ⟨_, rfl⟩
          have HP := Lib.hid hP
          clear hP
          go_cut [7, 8] (fun s7 s8 wx => Got wr P s7 s8 wx)
          case first =>
            go_region_law (first
              | (go_simp; go_at_call 15; refine (apply_good full q pv (wr.drew.alloc (.cells #[.int .i64 0, .int .i64 0, .int .i64 0] 29)) (HSr.out.kept (((Below.refl _ _).drew).alloc (Nat.le_refl _) _)) (by have := HQ6.out; omega) full_ok HQK.out).mono ?_; rintro e w6 ⟨rfl, hb6⟩; rw [HP.out]; have HB6 : Hid (Below wr.heap.size wr w6) := Lib.hid ((((Below.refl _ _).drew).alloc (Nat.le_refl _) _).trans (hb6.mono (by simp))); have HZ6 : Hid (w6.heap[wr.heap.size]? = some (.cells #[.int .i64 0, .int .i64 0, .int .i64 0] 29 (0, 0))) := Lib.hid (Blk.kept (heap_alloc_new wr.drew _) hb6); have z0 : w6.cell? ⟨wr.heap.size, 0, none⟩ = some (.int .i64 0) := Blk.cell HZ6.out 0; have z1 : w6.cell? ⟨wr.heap.size, 1, none⟩ = some (.int .i64 0) := Blk.cell HZ6.out 1; have z2 : w6.cell? ⟨wr.heap.size, 2, none⟩ = some (.int .i64 0) := Blk.cell HZ6.out 2; have y0 := Blk.free HZ6.out 0; have y1 := Blk.free HZ6.out 1; have y2 := Blk.free HZ6.out 2; clear hb6)
              | (go_simp; go_at_call 15; refine (apply_good full q pv wr.drew (HSr.out.kept ((Below.refl _ _).drew)) (by have := HQ6.out; omega) full_ok HQK.out).mono ?_; rintro e w6 ⟨rfl, hb6⟩; rw [HP.out]; have HB6 : Hid (Below wr.heap.size wr w6) := Lib.hid (((Below.refl _ _).drew).trans hb6); clear hb6))
            all_goals
              go_wp2_with fail
              go_meet
              first
                | (have hzb := HZ6.out; exact got_set HB6.out (Nat.le_refl _) hzb)
                | exact got_alloc HB6.out
          case rest =>
            obtain ⟨gx, rfl, rfl, hgx, hbx, hbA⟩ := hcut
            obtain ⟨wA, rfl⟩ : ∃ wA : World, wA = wc := ⟨_, rfl⟩
            have HBA : Hid (Below w2.heap.size w2 wA) := Lib.hid (hbl2.trans (hbA.mono hbl2.size))
            have HXA := Lib.hid hbx
            have HFA := Lib.hid (Blk.kept HF3.out hbA)
            have HKA := Lib.hid (Blk.kept HK3.out hbA)
            have HSA := Lib.hid (HSr.out.kept hbA)
            have HPA : Hid (wA.cell? ⟨gl, m, none⟩ = some pv) := Lib.hid (cell_kept hbA HPV.out)
            have hpb2 : gl < wA.heap.size := World.block_lt_of_cell? wA _ HPA.out
            have hpA := HPA.out
            clear f0 f1 f2 hp hbx hbA
            obtain ⟨R, hR⟩ : ∃ R, applyOf bare q = R := ⟨_, rfl⟩
            have HR := Lib.hid hR
            clear hR
            go_upto_region 10 with (fail)
            go_cut [9, 10] (fun s9 s10 wx => Got wA R s9 s10 wx)
            case first =>
              go_region_law (first
                | (go_simp; go_at_call 19; refine (plain_any _).mono ?_; rintro e w5 ⟨rfl, hb5⟩; have HB5 : Hid (Below wA.heap.size wA w5) := Lib.hid (by first | exact (Below.refl _ _).drew.trans hb5 | exact (((Below.refl _ _).drew).alloc (Nat.le_refl _) _).trans (hb5.mono (by simp))); (try have HZ5 : Hid (w5.heap[wA.heap.size]? = some (.cells #[.int .i64 0, .int .i64 0, .int .i64 0] 29 (0, 0))) := Lib.hid (Blk.kept (heap_alloc_new wA.drew _) hb5)); have hp5 := cell_kept HB5.out HPA.out; have hpz5 : gl < w5.heap.size := (by have := HB5.out.size; omega); clear hb5)
                | (go_simp; go_at_call 15; refine (apply_good bare q pv (w5.alloc (.cells #[.int .i64 0, .int .i64 0, .int .i64 0] 29)) ((HSA.out.kept HB5.out).kept ((Below.refl _ _).alloc (Nat.le_refl _) _)) (by have := HQ6.out; omega) bare_ok HQK.out).mono ?_; rintro e w6 ⟨rfl, hb6⟩; rw [HR.out]; have HB6 : Hid (Below wA.heap.size wA w6) := Lib.hid ((HB5.out.alloc HB5.out.size _).trans (hb6.mono (by have := HB5.out.size; simp; omega))); have HZ6 : Hid (w6.heap[w5.heap.size]? = some (.cells #[.int .i64 0, .int .i64 0, .int .i64 0] 29 (0, 0))) := Lib.hid (Blk.kept (heap_alloc_new w5 _) hb6); have z0 : w6.cell? ⟨w5.heap.size, 0, none⟩ = some (.int .i64 0) := Blk.cell HZ6.out 0; have z1 : w6.cell? ⟨w5.heap.size, 1, none⟩ = some (.int .i64 0) := Blk.cell HZ6.out 1; have z2 : w6.cell? ⟨w5.heap.size, 2, none⟩ = some (.int .i64 0) := Blk.cell HZ6.out 2; have y0 := Blk.free HZ6.out 0; have y1 := Blk.free HZ6.out 1; have y2 := Blk.free HZ6.out 2; clear hb6)
                | (go_simp; go_at_call 15; refine (apply_good bare q pv w5 (HSA.out.kept HB5.out) (by have := HQ6.out; omega) bare_ok HQK.out).mono ?_; rintro e w6 ⟨rfl, hb6⟩; rw [HR.out]; have HB6 : Hid (Below wA.heap.size wA w6) := Lib.hid (HB5.out.trans (hb6.mono HB5.out.size)); have HZ6 : Hid (w6.heap[wA.heap.size]? = some (.cells #[.int .i64 0, .int .i64 0, .int .i64 0] 29 (0, 0))) := Lib.hid (Blk.kept HZ5.out hb6); have z0 : w6.cell? ⟨wA.heap.size, 0, none⟩ = some (.int .i64 0) := Blk.cell HZ6.out 0; have z1 : w6.cell? ⟨wA.heap.size, 1, none⟩ = some (.int .i64 0) := Blk.cell HZ6.out 1; have z2 : w6.cell? ⟨wA.heap.size, 2, none⟩ = some (.int .i64 0) := Blk.cell HZ6.out 2; have y0 := Blk.free HZ6.out 0; have y1 := Blk.free HZ6.out 1; have y2 := Blk.free HZ6.out 2; clear hb6)
                | (go_simp; go_at_call 15; refine (apply_good bare q pv w5 (HSA.out.kept HB5.out) (by have := HQ6.out; omega) bare_ok HQK.out).mono ?_; rintro e w6 ⟨rfl, hb6⟩; rw [HR.out]; have HB6 : Hid (Below wA.heap.size wA w6) := Lib.hid (HB5.out.trans (hb6.mono HB5.out.size)); clear hb6))
              all_goals
                go_wp2_with fail
                go_meet
                first
                  | (have hzb := HZ6.out; exact got_set HB6.out (by first | exact Nat.le_refl _ | exact HB5.out.size) hzb)
                  | exact got_alloc HB6.out
            case rest =>
              obtain ⟨gy, rfl, rfl, hgy, hby, hbE⟩ := hcut
              obtain ⟨wE, rfl⟩ : ∃ wE : World, wE = wc := ⟨_, rfl⟩
              have HBE : Hid (Below w2.heap.size w2 wE) := Lib.hid (HBA.out.trans (hbE.mono HBA.out.size))
              have hxE := Blk.kept HXA.out hbE
              have hfE := Blk.kept HFA.out hbE
              have HSE := Lib.hid (HSA.out.kept hbE)
              have HALL : Hid (wE.cell? ⟨gx, 0, none⟩ = some (.int .i64 P.fg) ∧ wE.cell? ⟨gx, 1, none⟩ = some (.int .i64 P.bg) ∧ wE.cell? ⟨gx, 2, none⟩ = some (.int .i64 P.flags) ∧ wE.cell? ⟨g + 1, 0, none⟩ = some (.int .i64 300) ∧ wE.cell? ⟨g + 1, 1, none⟩ = some (.int .i64 7) ∧ wE.cell? ⟨g + 1, 2, none⟩ = some (.int .i64 255) ∧ wE.cell? ⟨gl, m, none⟩ = some pv ∧ wE.cell? ⟨gy, 0, none⟩ = some (.int .i64 R.fg) ∧ wE.cell? ⟨gy, 1, none⟩ = some (.int .i64 R.bg) ∧ wE.cell? ⟨gy, 2, none⟩ = some (.int .i64 R.flags)) := Lib.hid ⟨Blk.cell hxE 0, Blk.cell hxE 1, Blk.cell hxE 2, Blk.cell hfE 0, Blk.cell hfE 1, Blk.cell hfE 2, cell_kept hbE HPA.out, Blk.cell hby 0, Blk.cell hby 1, Blk.cell hby 2⟩
              have HALLD : Hid (wE.drew.cell? ⟨gx, 0, none⟩ = some (.int .i64 P.fg) ∧ wE.drew.cell? ⟨gx, 1, none⟩ = some (.int .i64 P.bg) ∧ wE.drew.cell? ⟨gx, 2, none⟩ = some (.int .i64 P.flags) ∧ wE.drew.cell? ⟨g + 1, 0, none⟩ = some (.int .i64 300) ∧ wE.drew.cell? ⟨g + 1, 1, none⟩ = some (.int .i64 7) ∧ wE.drew.cell? ⟨g + 1, 2, none⟩ = some (.int .i64 255) ∧ wE.drew.cell? ⟨gl, m, none⟩ = some pv ∧ wE.drew.cell? ⟨gy, 0, none⟩ = some (.int .i64 R.fg) ∧ wE.drew.cell? ⟨gy, 1, none⟩ = some (.int .i64 R.bg) ∧ wE.drew.cell? ⟨gy, 2, none⟩ = some (.int .i64 R.flags)) := HALL
              clear hxE hfE hby hbE hpA
              go_upto_region 11 with (fail)
              go_cut [86] (fun s86 wx => s86 = .bool false ∧ Below wE.heap.size wE wx)
              case first =>
                go_region_held3 (fun w' => w'.cell? ⟨gx, 0, none⟩ = some (.int .i64 P.fg) ∧ w'.cell? ⟨gx, 1, none⟩ = some (.int .i64 P.bg) ∧ w'.cell? ⟨gx, 2, none⟩ = some (.int .i64 P.flags) ∧ w'.cell? ⟨g + 1, 0, none⟩ = some (.int .i64 300) ∧ w'.cell? ⟨g + 1, 1, none⟩ = some (.int .i64 7) ∧ w'.cell? ⟨g + 1, 2, none⟩ = some (.int .i64 255) ∧ w'.cell? ⟨gl, m, none⟩ = some pv ∧ w'.cell? ⟨gy, 0, none⟩ = some (.int .i64 R.fg) ∧ w'.cell? ⟨gy, 1, none⟩ = some (.int .i64 R.bg) ∧ w'.cell? ⟨gy, 2, none⟩ = some (.int .i64 R.flags))
                  (first | (have h9 := HBT.out; exact keep10 HALL.out h9) | (have h9 := HBN.out; exact keep10 HALL.out h9) | (have h9 := HBM.out; exact keep10 HALL.out h9) | exact HALLD.out)
                  (first
                    | (go_at_call 10; refine (num_any _ _).mono ?_; rintro e wn ⟨rfl, rfl⟩)
                    | (go_at_call 17; have h9 := HBN.out; refine (refApply_any bare q pv wN (attr_byt bare_ok) (HSE.out.kept HBN.out) (by have := HQ6.out; omega) (fits_of HQK.out)).mono ?_; clear h9; rintro e wT ⟨rfl, hbT⟩; rw [HR.out]; have HBT := Lib.hid (HBN.out.trans (hbT.mono HBN.out.size)); clear hbT)
                    | (go_at_call 19; have h9 := HBM.out; refine (plain_any wM).mono ?_; clear h9; rintro e wN ⟨rfl, hbN⟩; have HBN := Lib.hid (HBM.out.trans (hbN.mono HBM.out.size)); clear hbN)
                    | (go_at_call 17; refine (refApply_any full q pv wE.drew (attr_byt full_ok) (HSE.out.kept (Below.refl _ _).drew) (by have := HQ6.out; omega) (fits_of HQK.out)).mono ?_; rintro e wM ⟨rfl, hbM⟩; rw [HP.out]; have HBM := Lib.hid (show Below wE.heap.size wE wM from (Below.refl _ _).drew.trans hbM); clear hbM))
                all_goals
                  go_wp2_with fail
                  go_meet
                  exact ⟨rfl, HBT.out⟩
              case rest =>
                obtain ⟨rfl, hbf⟩ := hcut
                go_wp2_with fail
                go_roundw
                case rel => exact ⟨m + 1, by omega, by go_num, HBE.out.trans (hbf.mono HBE.out.size)⟩
                case measure => simp [intOf]; omega
        · have hm8 : decide ((m : Int) < 8) = false := decide_eq_false (by omega)
          clear hlt2
          go_wp2_with fail
          go_roundw
          case rel => exact ⟨k + 1, by have := HN.out; omega, by have := HN.out; exact congrArg (Value.int .i64) (by omega), HB12.out.trans (hbl2.mono HB12.out.size)⟩
          case measure => have := HN.out; simp [intOf]; omega
    · have hd : decide (n < 120) = false := decide_eq_false hlt
      have k0 : wr.cell? ⟨g, 0, none⟩ = some (.slice A l.length c) := Blk.cell HKr.out 0
      clear hlt hnn
      go_wp2_with fail
      refine (wakes_any _).mono ?_
      rintro e w2 ⟨rfl, hb2⟩
      go_wp2_with fail
      go_ret
      exact ⟨rfl, by rw [HG.out]; exact HBr.out.trans (hb2.mono (by have := HBr.out.size; have := HG.out; omega))⟩
end Sl4
end Go.Proofs.Ytabplmhmanbmjaa
