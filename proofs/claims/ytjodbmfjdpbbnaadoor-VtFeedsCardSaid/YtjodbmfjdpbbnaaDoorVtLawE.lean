/- The walk of the law on each byte in each state: it answers true. -/
import Derived.Test.YtjodbmfjdpbbnaaDoorVtLawS
import Derived.Test.YtjodbmfjdpbbnaaDoorVtState2
namespace Go.Proofs.YtjodbmfjdpbbnaaDoor
set_option maxRecDepth 100000
open Go.RowKit
namespace Vl
open Vt Vd

/-- The states that the law brings along. -/
def eachL : List Ps := [none_ 0, ⟨0, [226, 130], [], [], []⟩, none_ 1, ⟨2, [], [], [40], []⟩, ⟨2, [], [], [32, 32, 32], []⟩, none_ 3, ⟨3, [], [5, -1], [], []⟩, ⟨3, [], [9999], [63], []⟩, ⟨3, [], [], [63, 32, 33], []⟩, none_ 4, ⟨5, [], [], [], [48, 59, 97]⟩, none_ 6, ⟨7, [], [], [], [120]⟩, none_ 8]
def eachV (b : Nat) : List Value := [.slice none 0 0, .slice none 0 0, .slice none 0 0, .slice none 0 0, .slice none 0 0, .slice none 0 0, .slice (some ⟨b, 0, none⟩) 2 2, .slice (some ⟨b + 1, 0, none⟩) 1 1, .slice none 0 0, .slice none 0 0, .slice none 0 0, .slice none 0 0, .slice none 0 0, .slice none 0 0]
theorem slim_append {l m : List Ps} {T : Nat} (h : ∀ k, k < l.length → Slim (l.getD k (none_ 0)) T) (k : ∀ k, k < m.length → Slim (m.getD k (none_ 0)) T) : ∀ j, j < (l ++ m).length → Slim ((l ++ m).getD j (none_ 0)) T := by
  intro j hj
  by_cases hl : j < l.length
  · have := h j hl
    simp only [List.getD, List.getElem?_append_left hl] at this ⊢
    exact this
  · have h2 : j - l.length < m.length := by rw [List.length_append] at hj; omega
    have := k (j - l.length) h2
    simp only [List.getD, List.getElem?_append_right (show l.length ≤ j by omega)] at this ⊢
    exact this
theorem slim_all {l : List Ps} {T : Nat} (h : ∀ p ∈ l, Slim p T) : ∀ k, k < l.length → Slim (l.getD k (none_ 0)) T := fun k hk => h _ (by simp [List.getD, hk])
theorem eachL_slim : ∀ k, k < eachL.length → Slim (eachL.getD k (none_ 0)) 2000 := slim_all (by
  intro p hp
  simp only [eachL, List.mem_cons, List.not_mem_nil, or_false] at hp
  rcases hp with rfl | rfl | rfl | rfl | rfl | rfl | rfl | rfl | rfl | rfl | rfl | rfl | rfl | rfl <;> exact ⟨by decide, by decide, by decide, by decide⟩)
theorem each_src (w : World) (b : Nat) (hb : b = w.heap.size) : ∀ k, k < eachL.length → Src ((w.alloc (.cells #[.int .i64 5, .int .i64 (-1)] 3)).alloc (.cells #[.int .i64 9999] 3)) ((eachV b).getD k undef) (eachL.getD k (none_ 0)).params.length (ints (eachL.getD k (none_ 0)).params) := by
  subst hb
  have h1 : Src ((w.alloc (.cells #[.int .i64 5, .int .i64 (-1)] 3)).alloc (.cells #[.int .i64 9999] 3)) (.slice (some ⟨w.heap.size, 0, none⟩) 2 2) 2 (ints [5, -1]) :=
    (Src.made_at w w.heap.size (ints [5, -1]) _ 3 2 2 rfl rfl rfl).kept ((Below.refl _ _).alloc (Nat.le_refl _) _)
  have h2 : Src ((w.alloc (.cells #[.int .i64 5, .int .i64 (-1)] 3)).alloc (.cells #[.int .i64 9999] 3)) (.slice (some ⟨w.heap.size + 1, 0, none⟩) 1 1) 1 (ints [9999]) :=
    Src.made_at (w.alloc (.cells #[.int .i64 5, .int .i64 (-1)] 3)) (w.heap.size + 1) (ints [9999]) _ 3 1 1 (by simp) rfl rfl
  intro k hk
  have hk : k < 14 := hk
  have h0 : ∀ W : World, Src W (.slice none 0 0) 0 (ints []) := fun W => ⟨rfl, .inl ⟨rfl, rfl⟩⟩
  match k, hk with
  | 0, _ => exact h0 _
  | 1, _ => exact h0 _
  | 2, _ => exact h0 _
  | 3, _ => exact h0 _
  | 4, _ => exact h0 _
  | 5, _ => exact h0 _
  | 6, _ => exact h1
  | 7, _ => exact h2
  | 8, _ => exact h0 _
  | 9, _ => exact h0 _
  | 10, _ => exact h0 _
  | 11, _ => exact h0 _
  | 12, _ => exact h0 _
  | 13, _ => exact h0 _

set_option maxHeartbeats 6400000 in
theorem lawEach_any {x y : Value} (l : List Ps) (ss : List ByteArray) (w : World) (hx : Prs w x l) (hn : l.length ≤ 140737488355328) (hz : ∀ k, k < l.length → Slim (l.getD k (none_ 0)) 140737488355328)
    (hy : Strs w y ss) (hny : ss.length ≤ 140737488355328) (hzy : ∀ k, k < ss.length → (ss.getD k ByteArray.empty).size ≤ 140737488355328) (ht : Utf.Tabs w) :
    Calls Tryd.prog 4 #[.agg #[x, y]] w fun e w' => e = .returned (.bool true) ∧ Below w.heap.size w w' := by
  obtain ⟨A, c, rfl, _⟩ := hx.form
  obtain ⟨A', c', rfl, _⟩ := hy.at_
  have HX := Lib.hid hx
  have HZ := Lib.hid hz
  have HY := Lib.hid hy
  have HNY := Lib.hid hny
  have HZY := Lib.hid hzy
  have HT := Lib.hid ht
  clear hx hz hy hny hzy ht
  go_enter Tryd.func4, Tryd.ntmps4
  go_wp2_with fail
  have hb0 : Below w.heap.size w (w.alloc (.cells #[.slice A l.length c, .slice A' ss.length c'] 27)) := (Below.refl _ _).alloc (Nat.le_refl _) _
  have hblk := heap_alloc_new w (.cells #[.slice A l.length c, .slice A' ss.length c'] 27)
  have hs0 : w.heap.size < (w.alloc (.cells #[.slice A l.length c, .slice A' ss.length c'] 27)).heap.size := by simp
  generalize w.alloc (.cells #[.slice A l.length c, .slice A' ss.length c'] 27) = w0 at hb0 hblk hs0 ⊢
  refine (heavy3_any l ss w0 (HX.out.kept hb0) hn HZ.out (HY.out.kept hb0) HNY.out HZY.out).mono ?_
  rintro e w1 ⟨⟨b, rfl, hF⟩, hb1⟩
  have hblk1 : w1.heap[w.heap.size]? = some (.cells #[.slice A l.length c, .slice A' ss.length c'] 27 (0, 0)) := (hb1.block _ hs0).trans hblk
  have hq0 : w1.cell? ⟨w.heap.size, 0, none⟩ = some (.slice A l.length c) := block_cell hblk1 0
  have hwlt : w.heap.size < w1.heap.size := block_lt hblk1
  have hbw1 : Below w.heap.size w w1 := hb0.trans (hb1.mono hb0.size)
  have HB1 := Lib.hid hbw1
  have HF := Lib.hid hF
  have HX1 := Lib.hid (HX.out.kept hbw1)
  have HT1 := Lib.hid (HT.out.kept hbw1)
  clear hF hb0 hblk hs0 hb1 hbw1 hblk1
  cases b with
  | true =>
    go_wp2_with fail
    go_ret
    exact ⟨rfl, HB1.out⟩
  | false =>
    have HFew := Lib.hid (HF.out rfl)
    have hln : l.length ≤ 2000 := HFew.out.n
    obtain ⟨wb, hwb⟩ : ∃ wb, (w1.alloc (.cells #[.int .i64 5, .int .i64 (-1)] 3)).alloc (.cells #[.int .i64 9999] 3) = wb := ⟨_, rfl⟩
    have hbb : Below w1.heap.size w1 wb := by rw [← hwb]; exact ((Below.refl _ _).alloc (Nat.le_refl _) _).alloc (by simp) _
    have hsz : wb.heap.size = w1.heap.size + 2 := by rw [← hwb]; simp
    have hsrc := each_src w1 w1.heap.size rfl
    rw [hwb] at hsrc
    have HSRC := Lib.hid hsrc
    have HBB := Lib.hid hbb
    have HSZ := Lib.hid hsz
    have hww : Below wb.heap.size wb (wb.alloc (.cells #[.int .i64 0, .string ⟨#[]⟩, .slice none 0 0, .string ⟨#[]⟩, .string ⟨#[]⟩, .int .i64 0, .string ⟨#[226, 130]⟩, .slice none 0 0, .string ⟨#[]⟩, .string ⟨#[]⟩, .int .i64 1, .string ⟨#[]⟩, .slice none 0 0, .string ⟨#[]⟩, .string ⟨#[]⟩, .int .i64 2, .string ⟨#[]⟩, .slice none 0 0, .string ⟨#[40]⟩, .string ⟨#[]⟩, .int .i64 2, .string ⟨#[]⟩, .slice none 0 0, .string ⟨#[32, 32, 32]⟩, .string ⟨#[]⟩, .int .i64 3, .string ⟨#[]⟩, .slice none 0 0, .string ⟨#[]⟩, .string ⟨#[]⟩, .int .i64 3, .string ⟨#[]⟩, .slice (some ⟨w1.heap.size, 0, none⟩) 2 2, .string ⟨#[]⟩, .string ⟨#[]⟩, .int .i64 3, .string ⟨#[]⟩, .slice (some ⟨w1.heap.size + 1, 0, none⟩) 1 1, .string ⟨#[63]⟩, .string ⟨#[]⟩, .int .i64 3, .string ⟨#[]⟩, .slice none 0 0, .string ⟨#[63, 32, 33]⟩, .string ⟨#[]⟩, .int .i64 4, .string ⟨#[]⟩, .slice none 0 0, .string ⟨#[]⟩, .string ⟨#[]⟩, .int .i64 5, .string ⟨#[]⟩, .slice none 0 0, .string ⟨#[]⟩, .string ⟨#[48, 59, 97]⟩, .int .i64 6, .string ⟨#[]⟩, .slice none 0 0, .string ⟨#[]⟩, .string ⟨#[]⟩, .int .i64 7, .string ⟨#[]⟩, .slice none 0 0, .string ⟨#[]⟩, .string ⟨#[120]⟩, .int .i64 8, .string ⟨#[]⟩, .slice none 0 0, .string ⟨#[]⟩, .string ⟨#[]⟩] 31)) := (Below.refl _ _).alloc (Nat.le_refl _) _
    have hoo : (wb.alloc (.cells #[.int .i64 0, .string ⟨#[]⟩, .slice none 0 0, .string ⟨#[]⟩, .string ⟨#[]⟩, .int .i64 0, .string ⟨#[226, 130]⟩, .slice none 0 0, .string ⟨#[]⟩, .string ⟨#[]⟩, .int .i64 1, .string ⟨#[]⟩, .slice none 0 0, .string ⟨#[]⟩, .string ⟨#[]⟩, .int .i64 2, .string ⟨#[]⟩, .slice none 0 0, .string ⟨#[40]⟩, .string ⟨#[]⟩, .int .i64 2, .string ⟨#[]⟩, .slice none 0 0, .string ⟨#[32, 32, 32]⟩, .string ⟨#[]⟩, .int .i64 3, .string ⟨#[]⟩, .slice none 0 0, .string ⟨#[]⟩, .string ⟨#[]⟩, .int .i64 3, .string ⟨#[]⟩, .slice (some ⟨w1.heap.size, 0, none⟩) 2 2, .string ⟨#[]⟩, .string ⟨#[]⟩, .int .i64 3, .string ⟨#[]⟩, .slice (some ⟨w1.heap.size + 1, 0, none⟩) 1 1, .string ⟨#[63]⟩, .string ⟨#[]⟩, .int .i64 3, .string ⟨#[]⟩, .slice none 0 0, .string ⟨#[63, 32, 33]⟩, .string ⟨#[]⟩, .int .i64 4, .string ⟨#[]⟩, .slice none 0 0, .string ⟨#[]⟩, .string ⟨#[]⟩, .int .i64 5, .string ⟨#[]⟩, .slice none 0 0, .string ⟨#[]⟩, .string ⟨#[48, 59, 97]⟩, .int .i64 6, .string ⟨#[]⟩, .slice none 0 0, .string ⟨#[]⟩, .string ⟨#[]⟩, .int .i64 7, .string ⟨#[]⟩, .slice none 0 0, .string ⟨#[]⟩, .string ⟨#[120]⟩, .int .i64 8, .string ⟨#[]⟩, .slice none 0 0, .string ⟨#[]⟩, .string ⟨#[]⟩] 31)).ownsRow wb.heap.size 31 5 (.slice (some ⟨w1.heap.size + 1 + 1, 0, none⟩) 14 14) eachL.length (List.zipWith psVals eachL (eachV w1.heap.size)).flatten := by
      have := heap_alloc_new wb (.cells #[.int .i64 0, .string ⟨#[]⟩, .slice none 0 0, .string ⟨#[]⟩, .string ⟨#[]⟩, .int .i64 0, .string ⟨#[226, 130]⟩, .slice none 0 0, .string ⟨#[]⟩, .string ⟨#[]⟩, .int .i64 1, .string ⟨#[]⟩, .slice none 0 0, .string ⟨#[]⟩, .string ⟨#[]⟩, .int .i64 2, .string ⟨#[]⟩, .slice none 0 0, .string ⟨#[40]⟩, .string ⟨#[]⟩, .int .i64 2, .string ⟨#[]⟩, .slice none 0 0, .string ⟨#[32, 32, 32]⟩, .string ⟨#[]⟩, .int .i64 3, .string ⟨#[]⟩, .slice none 0 0, .string ⟨#[]⟩, .string ⟨#[]⟩, .int .i64 3, .string ⟨#[]⟩, .slice (some ⟨w1.heap.size, 0, none⟩) 2 2, .string ⟨#[]⟩, .string ⟨#[]⟩, .int .i64 3, .string ⟨#[]⟩, .slice (some ⟨w1.heap.size + 1, 0, none⟩) 1 1, .string ⟨#[63]⟩, .string ⟨#[]⟩, .int .i64 3, .string ⟨#[]⟩, .slice none 0 0, .string ⟨#[63, 32, 33]⟩, .string ⟨#[]⟩, .int .i64 4, .string ⟨#[]⟩, .slice none 0 0, .string ⟨#[]⟩, .string ⟨#[]⟩, .int .i64 5, .string ⟨#[]⟩, .slice none 0 0, .string ⟨#[]⟩, .string ⟨#[48, 59, 97]⟩, .int .i64 6, .string ⟨#[]⟩, .slice none 0 0, .string ⟨#[]⟩, .string ⟨#[]⟩, .int .i64 7, .string ⟨#[]⟩, .slice none 0 0, .string ⟨#[]⟩, .string ⟨#[120]⟩, .int .i64 8, .string ⟨#[]⟩, .slice none 0 0, .string ⟨#[]⟩, .string ⟨#[]⟩] 31)
      rw [hsz] at this ⊢
      exact ⟨rfl, .inr ⟨w1.heap.size + 2, 14, _, rfl, Nat.le_refl _, this, Nat.le_refl _, by simp [maxLen], rfl, rfl⟩⟩
    have hq3 : (wb.alloc (.cells #[.int .i64 0, .string ⟨#[]⟩, .slice none 0 0, .string ⟨#[]⟩, .string ⟨#[]⟩, .int .i64 0, .string ⟨#[226, 130]⟩, .slice none 0 0, .string ⟨#[]⟩, .string ⟨#[]⟩, .int .i64 1, .string ⟨#[]⟩, .slice none 0 0, .string ⟨#[]⟩, .string ⟨#[]⟩, .int .i64 2, .string ⟨#[]⟩, .slice none 0 0, .string ⟨#[40]⟩, .string ⟨#[]⟩, .int .i64 2, .string ⟨#[]⟩, .slice none 0 0, .string ⟨#[32, 32, 32]⟩, .string ⟨#[]⟩, .int .i64 3, .string ⟨#[]⟩, .slice none 0 0, .string ⟨#[]⟩, .string ⟨#[]⟩, .int .i64 3, .string ⟨#[]⟩, .slice (some ⟨w1.heap.size, 0, none⟩) 2 2, .string ⟨#[]⟩, .string ⟨#[]⟩, .int .i64 3, .string ⟨#[]⟩, .slice (some ⟨w1.heap.size + 1, 0, none⟩) 1 1, .string ⟨#[63]⟩, .string ⟨#[]⟩, .int .i64 3, .string ⟨#[]⟩, .slice none 0 0, .string ⟨#[63, 32, 33]⟩, .string ⟨#[]⟩, .int .i64 4, .string ⟨#[]⟩, .slice none 0 0, .string ⟨#[]⟩, .string ⟨#[]⟩, .int .i64 5, .string ⟨#[]⟩, .slice none 0 0, .string ⟨#[]⟩, .string ⟨#[48, 59, 97]⟩, .int .i64 6, .string ⟨#[]⟩, .slice none 0 0, .string ⟨#[]⟩, .string ⟨#[]⟩, .int .i64 7, .string ⟨#[]⟩, .slice none 0 0, .string ⟨#[]⟩, .string ⟨#[120]⟩, .int .i64 8, .string ⟨#[]⟩, .slice none 0 0, .string ⟨#[]⟩, .string ⟨#[]⟩] 31)).cell? ⟨w.heap.size, 0, none⟩ = some (.slice A l.length c) := cell_kept hww (cell_kept hbb hq0)
    have HWW := Lib.hid hww
    have HOO := Lib.hid hoo
    rw [← hwb] at hq3
    have HWB := Lib.hid hwb
    clear hsrc hbb hsz hwb hww hoo
    go_wp2_with (at_builtin; rw [HWB.out]; (refine wp_append_prs rfl rfl wb HWW.out _ eachL (eachV w1.heap.size) rfl rfl HOO.out HSRC.out _ l rfl (HX1.out.kept HBB.out) (by show 14 + _ ≤ _; omega) ?_); intro vS wS hpS hbS; obtain ⟨sl, hsl⟩ : ∃ sl, eachL ++ l = sl := ⟨_, rfl⟩; rw [hsl] at hpS; obtain ⟨AS, cS, rfl, _⟩ := hpS.form; have HSLQ := Lib.hid hsl; clear hsl hq3)
    have hslim : ∀ j, j < (eachL ++ l).length → Slim ((eachL ++ l).getD j (none_ 0)) 2000 := slim_append eachL_slim HFew.out.slim
    rw [HSLQ.out] at hslim
    have HSL := Lib.hid hslim
    have hbS1 : Below w1.heap.size w1 wS := HBB.out.trans (hbS.mono HBB.out.size)
    have HBS := Lib.hid hbS1
    have HPS := Lib.hid hpS
    have HTS := Lib.hid (HT1.out.kept hbS1)
    clear hslim hbS hbS1 hpS
    go_loopw [4] (fun i wr => ∃ k : Nat, k ≤ sl.length ∧ i = .int .i64 k ∧ Below wS.heap.size wS wr) (fun i _ => sl.length - (intOf i).toNat)
    case atStart => exact ⟨0, by omega, rfl, Below.refl _ _⟩
    case round =>
      obtain ⟨i, hi, rfl, hbl⟩ := hrel
      by_cases hlt : i < sl.length ∧ i < 19
      · obtain ⟨hlt, h19⟩ := hlt
        have hk19 : decide ((i : Int) < 19) = true := decide_eq_true (by omega)
        obtain ⟨A9, c9, hA, hcell⟩ := (HPS.out.kept hbl).form
        obtain ⟨rfl, _, rfl⟩ : AS = A9 ∧ sl.length = sl.length ∧ cS = c9 := by injection hA with h1 h2 h3; exact ⟨h1, h2, h3⟩
        obtain ⟨ad, pv, rfl, K, hs⟩ := hcell i hlt
        have hzk := HSL.out i hlt
        have HT2 := Lib.hid (HTS.out.kept hbl)
        clear hcell hA
        generalize sl.getD i (none_ 0) = p at K hs hzk
        obtain ⟨Ap, cp, rfl, _⟩ := hs.form
        have hpa : p.part.length ≤ 1000000 := by have := hzk.part; omega
        have HK := Lib.hid K
        have HS := Lib.hid hs
        have h0 := K.head
        have h1 := K.next 0 rfl
        have h2 := K.next 1 rfl
        have h3 := K.next 2 rfl
        have h4 := K.next 3 rfl
        clear K hs hzk
        go_wp2_with fail
        refine (state_any p (.slice Ap p.params.length cp) _ HS.out hpa).mono ?_
        rintro e w2 ⟨rfl, hb2⟩
        have HB2 := Lib.hid hb2
        have z2 := hb2.size
        clear hb2
        cases hok : okB p with
        | false =>
          clear hok
          go_wp2_with fail
          go_roundw
          case rel => exact ⟨i + 1, by omega, by go_num, hbl.trans (HB2.out.mono hbl.size)⟩
          case measure => simp [intOf]; omega
        | true =>
          have HOK := Lib.hid ((ok_iff p).1 hok)
          clear hok h0 h1 h2 h3 h4
          go_wp2_with fail
          obtain ⟨wo, rfl⟩ : ∃ wo : World, wo = wr := ⟨_, rfl⟩
          go_loopw [5] (fun j wr => ∃ b : Nat, b ≤ 256 ∧ j = .int .i64 b ∧ Below w2.heap.size w2 wr) (fun j _ => 256 - (intOf j).toNat)
          case atStart => exact ⟨0, by omega, rfl, Below.refl _ _⟩
          case round =>
            obtain ⟨b, hb, rfl, hbl2⟩ := hrel
            by_cases h256 : b < 256
            · obtain ⟨c, rfl⟩ : ∃ c : UInt8, b = c.toNat := ⟨UInt8.ofNat b, by simp; omega⟩
              have hd256 : decide ((c.toNat : Int) < 256) = true := decide_eq_true (by omega)
              have hwc : IntKind.u8.wrap (c.toNat : Int) = (c.toNat : Int) := by rw [IntKind.wrap_u8]; omega
              have hcv := fun (W : World) (hq : W.cell? ⟨wr.heap.size, 0, none⟩ = some (.int .u8 c.toNat)) => run_convert_byte1 (P := Tryd.prog) W 46 9 5 ⟨wr.heap.size, 0, none⟩ 1 c Tryd.underlying46 Tryd.underlying5 Tryd.underlying9 hq
              have hb2r : Below wo.heap.size wo wr := HB2.out.trans (hbl2.mono z2)
              have alu : Below wr.heap.size wr (wr.alloc (.cells #[.int .u8 c.toNat] 5)) := (Below.refl _ _).alloc (Nat.le_refl _) _
              have HAL := Lib.hid alu
              have hb2a : Below wo.heap.size wo (wr.alloc (.cells #[.int .u8 c.toNat] 5)) := hb2r.trans (alu.mono hb2r.size)
              have HBA := Lib.hid hb2a
              obtain ⟨X, hX⟩ : ∃ X, Mc.feed ⟨p, []⟩ [c] = X := ⟨_, rfl⟩
              have hXl := events_few hX
              have HXX := Lib.hid hX
              have HKA := Lib.hid (HK.out.kept hb2a)
              have HSA := Lib.hid (HS.out.kept hb2a)
              have HTA := Lib.hid (HT2.out.kept hb2a)
              have KA := HKA.out
              have h0 := KA.head
              have h1 := KA.next 0 rfl
              have h2 := KA.next 1 rfl
              have h3 := KA.next 2 rfl
              have h4 := KA.next 3 rfl
              clear hX hb2a hb2r alu KA
              go_wp2_with fail
              obtain ⟨wa, hwa⟩ : ∃ wa, wr.alloc (.cells #[.int .u8 c.toNat] 5) = wa := ⟨_, rfl⟩
              rw [hwa] at HAL HBA HKA HSA HTA ⊢
              clear h0 h1 h2 h3 h4 hwa hcv
              refine (feed_at p (.slice Ap p.params.length cp) ⟨#[c]⟩ [c] rfl X HXX.out wa HSA.out HOK.out (by show 1 ≤ _; decide) HTA.out).mono ?_
              rintro e w3 ⟨lv, pvx, rfl, ho, hnn, hb3, hgd⟩
              obtain ⟨Ax, cx, rfl⟩ := own_shape hnn
              have z3 := hb3.size
              have HGD := Lib.hid hgd
              have al : Below w3.heap.size w3 (w3.alloc (.cells #[.int .i64 X.p.state, .string ⟨X.p.part.toArray⟩, .slice Ax X.p.params.length cx, .string ⟨X.p.inter.toArray⟩, .string ⟨X.p.text.toArray⟩] 31)) := (Below.refl _ _).alloc (Nat.le_refl _) _
              have HBX := Lib.hid (heap_alloc_new w3 (.cells #[.int .i64 X.p.state, .string ⟨X.p.part.toArray⟩, .slice Ax X.p.params.length cx, .string ⟨X.p.inter.toArray⟩, .string ⟨X.p.text.toArray⟩] 31))
              have HO := Lib.hid (ho.kept al)
              have HN := Lib.hid (own_keptC hnn al)
              have hb34 : Below wa.heap.size wa (w3.alloc (.cells #[.int .i64 X.p.state, .string ⟨X.p.part.toArray⟩, .slice Ax X.p.params.length cx, .string ⟨X.p.inter.toArray⟩, .string ⟨X.p.text.toArray⟩] 31)) := hb3.alloc z3 _
              have HB34 := Lib.hid hb34
              have KB := HKA.out.kept hb34
              have h0 := KB.head
              have h1 := KB.next 0 rfl
              have h2 := KB.next 1 rfl
              have h3 := KB.next 2 rfl
              have h4 := KB.next 3 rfl
              clear ho hnn hb3 hgd al hb34 KB
              go_wp2_with fail
              obtain ⟨gx, hgx⟩ : ∃ gx, w3.heap.size = gx := ⟨_, rfl⟩
              obtain ⟨w4, hw4⟩ : ∃ w4, w3.alloc (.cells #[.int .i64 X.p.state, .string ⟨X.p.part.toArray⟩, .slice Ax X.p.params.length cx, .string ⟨X.p.inter.toArray⟩, .string ⟨X.p.text.toArray⟩] 31) = w4 := ⟨_, rfl⟩
              rw [hw4] at HBX HO HN HB34 ⊢
              rw [hgx] at HBX ⊢
              clear hw4 h0 h1 h2 h3 h4
              have hrf := refFeed_any p (.slice Ap p.params.length cp) ⟨#[c]⟩ w4 (HSA.out.kept HB34.out) HOK.out (by show 1 ≤ _; decide)
              rw [show (⟨#[c]⟩ : ByteArray).data.toList = [c] from rfl, HXX.out] at hrf
              refine hrf.mono ?_
              clear hrf
              rintro e w5 ⟨lv2, pvy, rfl, ho2, hn2, hb5⟩
              obtain ⟨Ay, cy, rfl⟩ := own_shape hn2
              have z5 := hb5.size
              have z4 := HB34.out.size
              have al5 : Below w5.heap.size w5 (w5.alloc (.cells #[.int .i64 X.p.state, .string ⟨X.p.part.toArray⟩, .slice Ay X.p.params.length cy, .string ⟨X.p.inter.toArray⟩, .string ⟨X.p.text.toArray⟩] 31)) := (Below.refl _ _).alloc (Nat.le_refl _) _
              have HBY := Lib.hid (heap_alloc_new w5 (.cells #[.int .i64 X.p.state, .string ⟨X.p.part.toArray⟩, .slice Ay X.p.params.length cy, .string ⟨X.p.inter.toArray⟩, .string ⟨X.p.text.toArray⟩] 31))
              have hb46 : Below w4.heap.size w4 (w5.alloc (.cells #[.int .i64 X.p.state, .string ⟨X.p.part.toArray⟩, .slice Ay X.p.params.length cy, .string ⟨X.p.inter.toArray⟩, .string ⟨X.p.text.toArray⟩] 31)) := hb5.alloc z5 _
              have HO2 := Lib.hid (ho2.kept al5)
              have HN2 := Lib.hid (own_keptC hn2 al5)
              have HB46 := Lib.hid hb46
              have hgl := block_lt HBX.out
              clear ho2 hn2 hb5 al5 hb46
              go_wp2_with fail
              obtain ⟨gy, hgy⟩ : ∃ gy, w5.heap.size = gy := ⟨_, rfl⟩
              obtain ⟨w6, hw6⟩ : ∃ w6, w5.alloc (.cells #[.int .i64 X.p.state, .string ⟨X.p.part.toArray⟩, .slice Ay X.p.params.length cy, .string ⟨X.p.inter.toArray⟩, .string ⟨X.p.text.toArray⟩] 31) = w6 := ⟨_, rfl⟩
              rw [hw6] at HBY HO2 HN2 HB46 ⊢
              rw [hgy] at HBY ⊢
              clear hw6 hgy
              have HBX6 := Lib.hid ((HB46.out.block gx hgl).trans HBX.out)
              refine (num_any 0 _).mono ?_; rintro e wn ⟨rfl, rfl⟩
              go_wp2_with fail
              refine (eqEvents_same X.l _ _ _ (HO.out.kept HB46.out).reads HO2.out.reads (by have := hXl; simp at this; omega) (fun e he => by have := good_params (HGD.out e he); omega)).mono ?_
              rintro e w7 ⟨rfl, hb7⟩
              have z7 := hb7.size
              have z6 := HB46.out.size
              have HB7 := Lib.hid hb7
              have bx7 := (hb7.block gx (block_lt HBX6.out)).trans HBX6.out
              have by7 := (hb7.block gy (block_lt HBY.out)).trans HBY.out
              have x0 : w7.cell? ⟨gx, 0, none⟩ = some (.int .i64 X.p.state) := block_cell bx7 0
              have x1 : w7.cell? ⟨gx, 1, none⟩ = some (.string ⟨X.p.part.toArray⟩) := block_cell bx7 1
              have x2 : w7.cell? ⟨gx, 2, none⟩ = some (.slice Ax X.p.params.length cx) := block_cell bx7 2
              have x3 : w7.cell? ⟨gx, 3, none⟩ = some (.string ⟨X.p.inter.toArray⟩) := block_cell bx7 3
              have x4 : w7.cell? ⟨gx, 4, none⟩ = some (.string ⟨X.p.text.toArray⟩) := block_cell bx7 4
              have y0 : w7.cell? ⟨gy, 0, none⟩ = some (.int .i64 X.p.state) := block_cell by7 0
              have y1 : w7.cell? ⟨gy, 1, none⟩ = some (.string ⟨X.p.part.toArray⟩) := block_cell by7 1
              have y2 : w7.cell? ⟨gy, 2, none⟩ = some (.slice Ay X.p.params.length cy) := block_cell by7 2
              have y3 : w7.cell? ⟨gy, 3, none⟩ = some (.string ⟨X.p.inter.toArray⟩) := block_cell by7 3
              have y4 : w7.cell? ⟨gy, 4, none⟩ = some (.string ⟨X.p.text.toArray⟩) := block_cell by7 4
              clear hb7 bx7 by7
              go_wp2_with fail
              refine (eqParse_same X.p.state ⟨X.p.part.toArray⟩ ⟨X.p.inter.toArray⟩ ⟨X.p.text.toArray⟩ X.p.params _ _ _ (Src.own (own_keptC (own_keptC HN.out HB46.out) HB7.out)) (Src.own (own_keptC HN2.out HB7.out)) (by have := (ok_feeds [c] (m := ⟨p, []⟩) HOK.out).n16; rw [HXX.out] at this; omega)).mono ?_
              rintro e w8 ⟨rfl, hb8⟩
              have hend : Below w2.heap.size w2 w8 := hbl2.trans ((HAL.out.trans ((HB34.out.trans ((HB46.out.trans ((HB7.out.trans (hb8.mono z7)).mono z6)).mono z4)).mono HAL.out.size)).mono hbl2.size)
              have HEND := Lib.hid hend
              clear hb8 hend x0 x1 x2 x3 x4 y0 y1 y2 y3 y4
              go_wp2_with fail
              go_roundw
              case rel => exact ⟨c.toNat + 1, by omega, by go_num, HEND.out⟩
              case measure => simp [intOf]; omega
            · have hd : decide ((b : Int) < 256) = false := decide_eq_false (by omega)
              clear h256
              go_wp2_with fail
              go_roundw
              case rel => exact ⟨i + 1, by omega, by go_num, hbl.trans ((HB2.out.trans (hbl2.mono z2)).mono hbl.size)⟩
              case measure => simp [intOf]; omega
      · by_cases hkn : i < sl.length
        · have hk6 : decide ((i : Int) < 19) = false := decide_eq_false (by omega)
          clear hlt
          go_wp2_with fail
          refine (wakes_any _ (HTS.out.kept hbl)).mono ?_
          rintro e w2 ⟨rfl, hb2⟩
          go_wp2_with fail
          go_ret
          exact ⟨rfl, HB1.out.trans ((HBS.out.trans ((hbl.trans (hb2.mono hbl.size)).mono HBS.out.size)).mono HB1.out.size)⟩
        · have hk6 : decide (i < sl.length) = false := decide_eq_false hkn
          clear hlt
          go_wp2_with fail
          refine (wakes_any _ (HTS.out.kept hbl)).mono ?_
          rintro e w2 ⟨rfl, hb2⟩
          go_wp2_with fail
          go_ret
          exact ⟨rfl, HB1.out.trans ((HBS.out.trans ((hbl.trans (hb2.mono hbl.size)).mono HBS.out.size)).mono HB1.out.size)⟩
end Vl
end Go.Proofs.YtjodbmfjdpbbnaaDoor
