/- The developers' Check: bytes between; all of it. -/
import Derived.Test.YtjodbmfjdpbbnaaDoorVdCheck2
import Derived.Test.YtjodbmfjdpbbnaaDoorVtMach
namespace Go.Proofs.YtjodbmfjdpbbnaaDoor
set_option maxRecDepth 100000
open Go.RowKit
namespace Vd
open Vt

theorem runeOk_mid {csi : Bool} {i r : Nat} (h : 32 ≤ r) (k : r ≤ 47) : runeOk csi i r = true := by unfold runeOk; rw [decide_eq_true h, decide_eq_true k]; simp
theorem runeOk_priv {r : Nat} (h : 60 ≤ r) (k : r ≤ 63) : runeOk true 0 r = true := by unfold runeOk; rw [decide_eq_true h, decide_eq_true k]; simp
theorem runeOk_no {csi : Bool} {i r : Nat} (hp : csi = false ∨ i ≠ 0 ∨ ¬ 60 ≤ r ∨ ¬ r ≤ 63) (h : ¬ 32 ≤ r ∨ ¬ r ≤ 47) : runeOk csi i r = false := by
  have h1 : (csi && decide (i = 0) && decide (60 ≤ r) && decide (r ≤ 63)) = false := by
    rcases hp with e | e | e | e
    · rw [e]; rfl
    · rw [decide_eq_false e]; simp
    · rw [decide_eq_false e]; simp
    · rw [decide_eq_false e]; simp
  unfold runeOk
  rw [h1, Bool.false_or]
  rcases h with e | e
  · rw [decide_eq_false e]; rfl
  · rw [decide_eq_false e]; simp

set_option maxHeartbeats 3200000 in
theorem interFits_none (s : Int) (a : List UInt8) (n : List Int) (i t : List UInt8) (A : Option Addr) (c : Nat) (w : World) (h3 : s ≠ 3) (h2 : s ≠ 2) :
    Calls Tryd.prog 22 #[.agg #[.int .i64 s, .string ⟨a.toArray⟩, .slice A n.length c, .string ⟨i.toArray⟩, .string ⟨t.toArray⟩]] w fun e w' => e = .returned (.bool (xf ⟨s, a, n, i, t⟩)) ∧ Below w.heap.size w w' := by
  have hb0 : Below w.heap.size w (w.alloc (.cells #[.int .i64 s, .string ⟨a.toArray⟩, .slice A n.length c, .string ⟨i.toArray⟩, .string ⟨t.toArray⟩] 31)) := (Below.refl _ _).alloc (Nat.le_refl _) _
  have HB0 := Lib.hid hb0
  clear hb0
  have e3 : (s != 3) = true := bne_yes h3
  have e2 : (s != 2) = true := bne_yes h2
  have HX : Hid (xf ⟨s, a, n, i, t⟩ = decide (i = [])) := Lib.hid (by unfold xf; rw [if_pos ⟨h3, h2⟩])
  clear h3 h2
  by_cases h0 : i = []
  · have HE : Hid (xf ⟨s, a, n, i, t⟩ = true) := Lib.hid (by rw [HX.out, decide_eq_true h0])
    have hpe := strE i
    have he2 : i.isEmpty = true := by rw [h0]; rfl
    rw [he2] at hpe
    clear h0
    go_enter Tryd.func22, Tryd.ntmps22
    go_wp2_with fail
    go_ret
    exact ⟨ret_bool HE.out.symm, HB0.out⟩
  · have HE : Hid (xf ⟨s, a, n, i, t⟩ = false) := Lib.hid (by rw [HX.out, decide_eq_false h0])
    have hpe := strE i
    have he2 : i.isEmpty = false := emp_no h0
    rw [he2] at hpe
    clear h0
    go_enter Tryd.func22, Tryd.ntmps22
    go_wp2_with fail
    go_ret
    exact ⟨ret_bool HE.out.symm, HB0.out⟩

set_option maxHeartbeats 3200000 in
theorem interFits_csi (s : Int) (a : List UInt8) (n : List Int) (i t : List UInt8) (A : Option Addr) (c : Nat) (w : World) (h3 : s = 3) (hn : i.length ≤ 1000000000) :
    Calls Tryd.prog 22 #[.agg #[.int .i64 s, .string ⟨a.toArray⟩, .slice A n.length c, .string ⟨i.toArray⟩, .string ⟨t.toArray⟩]] w fun e w' => e = .returned (.bool (xf ⟨s, a, n, i, t⟩)) ∧ Below w.heap.size w w' := by
  have hb0 : Below w.heap.size w (w.alloc (.cells #[.int .i64 s, .string ⟨a.toArray⟩, .slice A n.length c, .string ⟨i.toArray⟩, .string ⟨t.toArray⟩] 31)) := (Below.refl _ _).alloc (Nat.le_refl _) _
  have HB0 := Lib.hid hb0
  clear hb0
  have e3 : (s != 3) = false := bne_no h3
  have b2 : (s == 2) = false := beq_no (by omega)
  have b3 : (s == 3) = true := by rw [beq_iff_eq]; exact h3
  have HX : Hid (xf ⟨s, a, n, i, t⟩ = (decide (i.length ≤ 3) && intersOk true 0 i)) := Lib.hid (by
    unfold xf
    rw [if_neg (fun h => h.1 h3)]
    simp only [h3]
    simp)
  clear h3
  by_cases h0 : i.length ≤ 3
  · have HE : Hid (xf ⟨s, a, n, i, t⟩ = intersOk true 0 i) := Lib.hid (by rw [HX.out, decide_eq_true h0, Bool.true_and])
    have d3 : decide (3 < (i.length : Int)) = false := decide_eq_false (by omega)
    clear HX
    go_enter Tryd.func22, Tryd.ntmps22
    go_wp2_with fail
    obtain ⟨S, hS⟩ : ∃ S : ByteArray, ⟨i.toArray⟩ = S := ⟨_, rfl⟩
    have hSl : S.data.toList = i := by rw [← hS]
    have hSz : S.size = i.length := by rw [← hS]; rfl
    rw [hS] at HB0 ⊢
    obtain ⟨wo, hwo⟩ : ∃ wo, w.alloc (.cells #[.int .i64 s, .string ⟨a.toArray⟩, .slice A n.length c, .string S, .string ⟨t.toArray⟩] 31) = wo := ⟨_, rfl⟩
    have hz : wo.heap.size = w.heap.size + 1 := by rw [← hwo]; simp
    have hcs : ∀ pos, (wo.iter S pos).cell? ⟨w.heap.size, 0, none⟩ = some (.int .i64 s) := fun pos => by
      have h0 : wo.heap[w.heap.size]? = some (.cells #[.int .i64 s, .string ⟨a.toArray⟩, .slice A n.length c, .string S, .string ⟨t.toArray⟩] 31) := by rw [← hwo]; exact heap_alloc_new w _
      have h1 : (wo.iter S pos).heap[w.heap.size]? = some (.cells #[.int .i64 s, .string ⟨a.toArray⟩, .slice A n.length c, .string S, .string ⟨t.toArray⟩] 31) := (((Below.refl wo.heap.size wo).alloc (Nat.le_refl _) _).block _ (by omega)).trans h0
      exact block_cell h1 0
    rw [hwo] at HB0 ⊢
    rw [show intersOk true 0 i = intersOk true 0 S.data.toList by rw [hSl]] at HE
    clear hwo hS d3
    go_loopw [3, 4] (fun _ _ wr => ∃ pos : Nat, wr = wo.iter S pos ∧ pos ≤ S.size ∧ Hid (intersOk true 0 S.data.toList = intersOk true pos (S.data.toList.drop pos))) (fun _ _ wr => S.size - wr.iterPos wo.heap.size)
    case atStart => exact ⟨0, rfl, by omega, Lib.hid (by rw [List.drop_zero])⟩
    case round =>
      obtain ⟨pos, rfl, hps, HR⟩ := hrel
      have hcsA := hcs
      have hcs := hcs pos
      by_cases hp : pos < S.size
      · have hnx : ∀ ty, (Instr.next (.pointer (some ⟨wo.heap.size, 0, none⟩)) true ty).run Tryd.prog (wo.iter S pos) = _ := fun ty => run_next_any wo S pos ty hp
        rw [hz] at hnx
        have hk := dec_step (Utf.drop_ne hp)
        have HS := Lib.hid (intersOk_step (csi := true) (i := pos) (Utf.drop_ne hp))
        have hle := hk.2
        rw [drop_len] at hle
        have hsm := Utf.dec_small (S.data.toList.drop pos)
        rw [Utf.dec_at] at hnx
        obtain ⟨d, hD⟩ : ∃ d, Utf.dec (S.data.toList.drop pos) = d := ⟨_, rfl⟩
        rw [hD] at hnx hk HS hle hsm
        have hk1 := hk.1
        have hcs2 : (wo.iter S (pos + d.2)).cell? ⟨w.heap.size, 0, none⟩ = some (.int .i64 s) := hcsA (pos + d.2)
        clear hD hk
        by_cases h0 : pos = 0
        · have f0 : ((pos : Int) == 0) = true := by rw [beq_iff_eq]; omega
          by_cases h60 : 60 ≤ d.1
          · have f60 : decide (60 ≤ (d.1 : Int)) = true := decide_eq_true (by omega)
            by_cases h63 : d.1 ≤ 63
            · have f63 : decide ((d.1 : Int) ≤ 63) = true := decide_eq_true (by omega)
              have HT : Hid (intersOk true 0 S.data.toList = intersOk true (pos + d.2) (S.data.toList.drop (pos + d.2))) := Lib.hid (by rw [HR.out, HS.out, h0, runeOk_priv h60 h63, Bool.true_and, List.drop_drop])
              clear h60 h63 h0
              go_wp2_with fail
              go_roundw
              case rel => exact ⟨pos + d.2, rfl, by omega, HT⟩
              case measure => simp only [World.iterPos_iter]; omega
            · have f63 : decide ((d.1 : Int) ≤ 63) = false := decide_eq_false (by omega)
              have HX : Hid (¬ d.1 ≤ 63) := Lib.hid h63
              clear h60 h63 h0
              by_cases h32 : d.1 < 32
              · have HF : Hid (xf ⟨s, a, n, i, t⟩ = false) := Lib.hid (by rw [HE.out, HR.out, HS.out, runeOk_no (.inr (.inr (.inr HX.out))) (.inl (by omega)), Bool.false_and])
                have d32 : decide ((d.1 : Int) < 32) = true := decide_eq_true (by omega)
                clear h32
                go_wp2_with fail
                go_ret
                exact ⟨ret_bool HF.out.symm, Utf.below_iter HB0.out HB0.out.size _ _⟩
              · have d32 : decide ((d.1 : Int) < 32) = false := decide_eq_false (by omega)
                by_cases h47 : 47 < d.1
                · have HF : Hid (xf ⟨s, a, n, i, t⟩ = false) := Lib.hid (by rw [HE.out, HR.out, HS.out, runeOk_no (.inr (.inr (.inr HX.out))) (.inr (by omega)), Bool.false_and])
                  have d47 : decide (47 < (d.1 : Int)) = true := decide_eq_true (by omega)
                  clear h32 h47
                  go_wp2_with fail
                  go_ret
                  exact ⟨ret_bool HF.out.symm, Utf.below_iter HB0.out HB0.out.size _ _⟩
                · have HT : Hid (intersOk true 0 S.data.toList = intersOk true (pos + d.2) (S.data.toList.drop (pos + d.2))) := Lib.hid (by rw [HR.out, HS.out, runeOk_mid (by omega) (by omega), Bool.true_and, List.drop_drop])
                  have d47 : decide (47 < (d.1 : Int)) = false := decide_eq_false (by omega)
                  clear h32 h47
                  go_wp2_with fail
                  go_roundw
                  case rel => exact ⟨pos + d.2, rfl, by omega, HT⟩
                  case measure => simp only [World.iterPos_iter]; omega
          · have f60 : decide (60 ≤ (d.1 : Int)) = false := decide_eq_false (by omega)
            have HX : Hid (¬ 60 ≤ d.1) := Lib.hid h60
            clear h60 h0
            by_cases h32 : d.1 < 32
            · have HF : Hid (xf ⟨s, a, n, i, t⟩ = false) := Lib.hid (by rw [HE.out, HR.out, HS.out, runeOk_no (.inr (.inr (.inl HX.out))) (.inl (by omega)), Bool.false_and])
              have d32 : decide ((d.1 : Int) < 32) = true := decide_eq_true (by omega)
              clear h32
              go_wp2_with fail
              go_ret
              exact ⟨ret_bool HF.out.symm, Utf.below_iter HB0.out HB0.out.size _ _⟩
            · have d32 : decide ((d.1 : Int) < 32) = false := decide_eq_false (by omega)
              by_cases h47 : 47 < d.1
              · have HF : Hid (xf ⟨s, a, n, i, t⟩ = false) := Lib.hid (by rw [HE.out, HR.out, HS.out, runeOk_no (.inr (.inr (.inl HX.out))) (.inr (by omega)), Bool.false_and])
                have d47 : decide (47 < (d.1 : Int)) = true := decide_eq_true (by omega)
                clear h32 h47
                go_wp2_with fail
                go_ret
                exact ⟨ret_bool HF.out.symm, Utf.below_iter HB0.out HB0.out.size _ _⟩
              · have HT : Hid (intersOk true 0 S.data.toList = intersOk true (pos + d.2) (S.data.toList.drop (pos + d.2))) := Lib.hid (by rw [HR.out, HS.out, runeOk_mid (by omega) (by omega), Bool.true_and, List.drop_drop])
                have d47 : decide (47 < (d.1 : Int)) = false := decide_eq_false (by omega)
                clear h32 h47
                go_wp2_with fail
                go_roundw
                case rel => exact ⟨pos + d.2, rfl, by omega, HT⟩
                case measure => simp only [World.iterPos_iter]; omega
        · have f0 : ((pos : Int) == 0) = false := by rw [beq_eq_false_iff_ne]; omega
          have HX : Hid (pos ≠ 0) := Lib.hid h0
          clear h0
          by_cases h32 : d.1 < 32
          · have HF : Hid (xf ⟨s, a, n, i, t⟩ = false) := Lib.hid (by rw [HE.out, HR.out, HS.out, runeOk_no (.inr (.inl HX.out)) (.inl (by omega)), Bool.false_and])
            have d32 : decide ((d.1 : Int) < 32) = true := decide_eq_true (by omega)
            clear h32
            go_wp2_with fail
            go_ret
            exact ⟨ret_bool HF.out.symm, Utf.below_iter HB0.out HB0.out.size _ _⟩
          · have d32 : decide ((d.1 : Int) < 32) = false := decide_eq_false (by omega)
            by_cases h47 : 47 < d.1
            · have HF : Hid (xf ⟨s, a, n, i, t⟩ = false) := Lib.hid (by rw [HE.out, HR.out, HS.out, runeOk_no (.inr (.inl HX.out)) (.inr (by omega)), Bool.false_and])
              have d47 : decide (47 < (d.1 : Int)) = true := decide_eq_true (by omega)
              clear h32 h47
              go_wp2_with fail
              go_ret
              exact ⟨ret_bool HF.out.symm, Utf.below_iter HB0.out HB0.out.size _ _⟩
            · have HT : Hid (intersOk true 0 S.data.toList = intersOk true (pos + d.2) (S.data.toList.drop (pos + d.2))) := Lib.hid (by rw [HR.out, HS.out, runeOk_mid (by omega) (by omega), Bool.true_and, List.drop_drop])
              have d47 : decide (47 < (d.1 : Int)) = false := decide_eq_false (by omega)
              clear h32 h47
              go_wp2_with fail
              go_roundw
              case rel => exact ⟨pos + d.2, rfl, by omega, HT⟩
              case measure => simp only [World.iterPos_iter]; omega
      · have hnx : ∀ ty, (Instr.next (.pointer (some ⟨wo.heap.size, 0, none⟩)) true ty).run Tryd.prog (wo.iter S pos) = _ := fun ty => run_next_end wo S pos ty hp
        rw [hz] at hnx
        have HF : Hid (xf ⟨s, a, n, i, t⟩ = true) := Lib.hid (by rw [HE.out, HR.out, List.drop_eq_nil_of_le (by show S.size ≤ pos; omega)]; rfl)
        go_wp2_with fail
        go_ret
        exact ⟨ret_bool HF.out.symm, Utf.below_iter HB0.out HB0.out.size _ _⟩
  · have HE : Hid (xf ⟨s, a, n, i, t⟩ = false) := Lib.hid (by rw [HX.out, decide_eq_false h0, Bool.false_and])
    have d3 : decide (3 < (i.length : Int)) = true := decide_eq_true (by omega)
    clear h0
    go_enter Tryd.func22, Tryd.ntmps22
    go_wp2_with fail
    go_ret
    exact ⟨ret_bool HE.out.symm, HB0.out⟩

set_option maxHeartbeats 3200000 in
theorem interFits_inter (s : Int) (a : List UInt8) (n : List Int) (i t : List UInt8) (A : Option Addr) (c : Nat) (w : World) (h2 : s = 2) (hn : i.length ≤ 1000000000) :
    Calls Tryd.prog 22 #[.agg #[.int .i64 s, .string ⟨a.toArray⟩, .slice A n.length c, .string ⟨i.toArray⟩, .string ⟨t.toArray⟩]] w fun e w' => e = .returned (.bool (xf ⟨s, a, n, i, t⟩)) ∧ Below w.heap.size w w' := by
  have hb0 : Below w.heap.size w (w.alloc (.cells #[.int .i64 s, .string ⟨a.toArray⟩, .slice A n.length c, .string ⟨i.toArray⟩, .string ⟨t.toArray⟩] 31)) := (Below.refl _ _).alloc (Nat.le_refl _) _
  have HB0 := Lib.hid hb0
  clear hb0
  have e3 : (s != 3) = true := bne_yes (by omega)
  have e2 : (s != 2) = false := bne_no h2
  have b2 : (s == 2) = true := by rw [beq_iff_eq]; exact h2
  have b3 : (s == 3) = false := beq_no (by omega)
  have HX : Hid (xf ⟨s, a, n, i, t⟩ = (decide (i.length ≤ 3) && !(decide (i = [])) && intersOk false 0 i)) := Lib.hid (by
    unfold xf
    rw [if_neg (fun h => h.2 h2)]
    simp only [h2]
    simp)
  clear h2
  by_cases h0 : i.length ≤ 3
  · have d3 : decide (3 < (i.length : Int)) = false := decide_eq_false (by omega)
    by_cases hi : i = []
    · have HE : Hid (xf ⟨s, a, n, i, t⟩ = false) := Lib.hid (by rw [HX.out, decide_eq_true hi]; simp)
      have hpe := strE i
      have he2 : i.isEmpty = true := by rw [hi]; rfl
      rw [he2] at hpe
      clear h0 hi
      go_enter Tryd.func22, Tryd.ntmps22
      go_wp2_with fail
      go_ret
      exact ⟨ret_bool HE.out.symm, HB0.out⟩
    · have HE : Hid (xf ⟨s, a, n, i, t⟩ = intersOk false 0 i) := Lib.hid (by rw [HX.out, decide_eq_true h0, decide_eq_false hi]; simp)
      have hpe := strE i
      have he2 : i.isEmpty = false := emp_no hi
      rw [he2] at hpe
      clear HX
      go_enter Tryd.func22, Tryd.ntmps22
      go_wp2_with fail
      obtain ⟨S, hS⟩ : ∃ S : ByteArray, ⟨i.toArray⟩ = S := ⟨_, rfl⟩
      have hSl : S.data.toList = i := by rw [← hS]
      have hSz : S.size = i.length := by rw [← hS]; rfl
      rw [hS] at HB0 ⊢
      obtain ⟨wo, hwo⟩ : ∃ wo, w.alloc (.cells #[.int .i64 s, .string ⟨a.toArray⟩, .slice A n.length c, .string S, .string ⟨t.toArray⟩] 31) = wo := ⟨_, rfl⟩
      have hz : wo.heap.size = w.heap.size + 1 := by rw [← hwo]; simp
      have hcs : ∀ pos, (wo.iter S pos).cell? ⟨w.heap.size, 0, none⟩ = some (.int .i64 s) := fun pos => by
        have h0 : wo.heap[w.heap.size]? = some (.cells #[.int .i64 s, .string ⟨a.toArray⟩, .slice A n.length c, .string S, .string ⟨t.toArray⟩] 31) := by rw [← hwo]; exact heap_alloc_new w _
        have h1 : (wo.iter S pos).heap[w.heap.size]? = some (.cells #[.int .i64 s, .string ⟨a.toArray⟩, .slice A n.length c, .string S, .string ⟨t.toArray⟩] 31) := (((Below.refl wo.heap.size wo).alloc (Nat.le_refl _) _).block _ (by omega)).trans h0
        exact block_cell h1 0
      rw [hwo] at HB0 ⊢
      rw [show intersOk false 0 i = intersOk false 0 S.data.toList by rw [hSl]] at HE
      clear hwo hS d3
      go_loopw [3, 4] (fun _ _ wr => ∃ pos : Nat, wr = wo.iter S pos ∧ pos ≤ S.size ∧ Hid (intersOk false 0 S.data.toList = intersOk false pos (S.data.toList.drop pos))) (fun _ _ wr => S.size - wr.iterPos wo.heap.size)
      case atStart => exact ⟨0, rfl, by omega, Lib.hid (by rw [List.drop_zero])⟩
      case round =>
        obtain ⟨pos, rfl, hps, HR⟩ := hrel
        have hcsA := hcs
        have hcs := hcs pos
        by_cases hp : pos < S.size
        · have hnx : ∀ ty, (Instr.next (.pointer (some ⟨wo.heap.size, 0, none⟩)) true ty).run Tryd.prog (wo.iter S pos) = _ := fun ty => run_next_any wo S pos ty hp
          rw [hz] at hnx
          have hk := dec_step (Utf.drop_ne hp)
          have HS := Lib.hid (intersOk_step (csi := false) (i := pos) (Utf.drop_ne hp))
          have hle := hk.2
          rw [drop_len] at hle
          have hsm := Utf.dec_small (S.data.toList.drop pos)
          rw [Utf.dec_at] at hnx
          obtain ⟨d, hD⟩ : ∃ d, Utf.dec (S.data.toList.drop pos) = d := ⟨_, rfl⟩
          rw [hD] at hnx hk HS hle hsm
          have hk1 := hk.1
          have hcs2 : (wo.iter S (pos + d.2)).cell? ⟨w.heap.size, 0, none⟩ = some (.int .i64 s) := hcsA (pos + d.2)
          clear hD hk
          by_cases h32 : d.1 < 32
          · have HF : Hid (xf ⟨s, a, n, i, t⟩ = false) := Lib.hid (by rw [HE.out, HR.out, HS.out, runeOk_no (.inl rfl) (.inl (by omega)), Bool.false_and])
            have d32 : decide ((d.1 : Int) < 32) = true := decide_eq_true (by omega)
            clear h32
            go_wp2_with fail
            go_ret
            exact ⟨ret_bool HF.out.symm, Utf.below_iter HB0.out HB0.out.size _ _⟩
          · have d32 : decide ((d.1 : Int) < 32) = false := decide_eq_false (by omega)
            by_cases h47 : 47 < d.1
            · have HF : Hid (xf ⟨s, a, n, i, t⟩ = false) := Lib.hid (by rw [HE.out, HR.out, HS.out, runeOk_no (.inl rfl) (.inr (by omega)), Bool.false_and])
              have d47 : decide (47 < (d.1 : Int)) = true := decide_eq_true (by omega)
              clear h32 h47
              go_wp2_with fail
              go_ret
              exact ⟨ret_bool HF.out.symm, Utf.below_iter HB0.out HB0.out.size _ _⟩
            · have HT : Hid (intersOk false 0 S.data.toList = intersOk false (pos + d.2) (S.data.toList.drop (pos + d.2))) := Lib.hid (by rw [HR.out, HS.out, runeOk_mid (by omega) (by omega), Bool.true_and, List.drop_drop])
              have d47 : decide (47 < (d.1 : Int)) = false := decide_eq_false (by omega)
              clear h32 h47
              go_wp2_with fail
              go_roundw
              case rel => exact ⟨pos + d.2, rfl, by omega, HT⟩
              case measure => simp only [World.iterPos_iter]; omega
        · have hnx : ∀ ty, (Instr.next (.pointer (some ⟨wo.heap.size, 0, none⟩)) true ty).run Tryd.prog (wo.iter S pos) = _ := fun ty => run_next_end wo S pos ty hp
          rw [hz] at hnx
          have HF : Hid (xf ⟨s, a, n, i, t⟩ = true) := Lib.hid (by rw [HE.out, HR.out, List.drop_eq_nil_of_le (by show S.size ≤ pos; omega)]; rfl)
          go_wp2_with fail
          go_ret
          exact ⟨ret_bool HF.out.symm, Utf.below_iter HB0.out HB0.out.size _ _⟩
  · have HE : Hid (xf ⟨s, a, n, i, t⟩ = false) := Lib.hid (by rw [HX.out, decide_eq_false h0]; rfl)
    have d3 : decide (3 < (i.length : Int)) = true := decide_eq_true (by omega)
    clear h0
    go_enter Tryd.func22, Tryd.ntmps22
    go_wp2_with fail
    go_ret
    exact ⟨ret_bool HE.out.symm, HB0.out⟩

theorem interFits_any (p : Ps) (A : Option Addr) (c : Nat) (w : World) (hn : p.inter.length ≤ 1000000000) :
    Calls Tryd.prog 22 #[.agg #[.int .i64 p.state, .string ⟨p.part.toArray⟩, .slice A p.params.length c, .string ⟨p.inter.toArray⟩, .string ⟨p.text.toArray⟩]] w fun e w' => e = .returned (.bool (xf p)) ∧ Below w.heap.size w w' := by
  obtain ⟨s, a, n, i, t⟩ := p
  by_cases h3 : s = 3
  · exact interFits_csi s a n i t A c w h3 hn
  by_cases h2 : s = 2
  · exact interFits_inter s a n i t A c w h2 hn
  exact interFits_none s a n i t A c w h3 h2

/-- What Check tells. -/
def chk (p : Ps) : Int := if okB p = true then 0 else 1
theorem chk_no {p : Ps} (h : okD p = false) : chk p = 1 := by unfold chk; rw [← okD_eq, h]; rfl
theorem chk_yes {p : Ps} (h : okD p = true) : chk p = 0 := by unfold chk; rw [← okD_eq, h]; rfl
set_option maxHeartbeats 3200000 in
theorem check_any (p : Ps) (u : Value) (w : World) (hu : Src w u p.params.length (ints p.params)) (hp : p.part.length ≤ 1000000) (hn : p.params.length ≤ 1000000000) (hi : p.inter.length ≤ 1000000000) (htx : p.text.length ≤ 1000000000) (ht : Utf.Tabs w) :
    Calls Tryd.prog 8 #[.agg #[.int .i64 p.state, .string ⟨p.part.toArray⟩, u, .string ⟨p.inter.toArray⟩, .string ⟨p.text.toArray⟩]] w fun e w' => e = .returned (.int .i64 (chk p)) ∧ Below w.heap.size w w' := by
  obtain ⟨A, c, rfl, _⟩ := hu.form
  have hb0 : Below w.heap.size w (w.alloc (.cells #[.int .i64 p.state, .string ⟨p.part.toArray⟩, .slice A p.params.length c, .string ⟨p.inter.toArray⟩, .string ⟨p.text.toArray⟩] 31)) := (Below.refl _ _).alloc (Nat.le_refl _) _
  have HB0 := Lib.hid hb0
  have HU := Lib.hid (hu.kept hb0)
  have HT := Lib.hid (ht.kept hb0)
  clear hb0 hu ht
  have hblk : (w.alloc (.cells #[.int .i64 p.state, .string ⟨p.part.toArray⟩, .slice A p.params.length c, .string ⟨p.inter.toArray⟩, .string ⟨p.text.toArray⟩] 31)).heap[w.heap.size]? = some (.cells #[.int .i64 p.state, .string ⟨p.part.toArray⟩, .slice A p.params.length c, .string ⟨p.inter.toArray⟩, .string ⟨p.text.toArray⟩] 31) := heap_alloc_new w _
  have hlt : w.heap.size < (w.alloc (.cells #[.int .i64 p.state, .string ⟨p.part.toArray⟩, .slice A p.params.length c, .string ⟨p.inter.toArray⟩, .string ⟨p.text.toArray⟩] 31)).heap.size := by simp
  by_cases h0 : p.state < 0
  · have HC : Hid (chk p = 1) := Lib.hid (chk_no (by unfold okD rng; rw [decide_eq_false (show ¬ 0 ≤ p.state by omega)]; rfl))
    have d0 : decide (p.state < 0) = true := decide_eq_true h0
    clear h0 hblk hlt
    go_enter Tryd.func8, Tryd.ntmps8
    go_wp2_with fail
    go_ret
    exact ⟨ret_int HC.out.symm, HB0.out⟩
  have d0 : decide (p.state < 0) = false := decide_eq_false h0
  by_cases h8 : 8 < p.state
  · have HC : Hid (chk p = 1) := Lib.hid (chk_no (by unfold okD rng; rw [decide_eq_false (show ¬ p.state ≤ 8 by omega)]; simp))
    have d8 : decide (8 < p.state) = true := decide_eq_true h8
    clear h0 h8 hblk hlt
    go_enter Tryd.func8, Tryd.ntmps8
    go_wp2_with fail
    go_ret
    exact ⟨ret_int HC.out.symm, HB0.out⟩
  have d8 : decide (8 < p.state) = false := decide_eq_false h8
  have HR : Hid (rng p.state 0 8 = true) := Lib.hid (by unfold rng; rw [decide_eq_true (show 0 ≤ p.state by omega), decide_eq_true (show p.state ≤ 8 by omega)]; rfl)
  have HBLK := Lib.hid hblk
  have HLT := Lib.hid hlt
  clear h0 h8 hblk hlt
  go_enter Tryd.func8, Tryd.ntmps8
  go_wp2_with fail
  obtain ⟨wo, hwo⟩ : ∃ wo, w.alloc (.cells #[.int .i64 p.state, .string ⟨p.part.toArray⟩, .slice A p.params.length c, .string ⟨p.inter.toArray⟩, .string ⟨p.text.toArray⟩] 31) = wo := ⟨_, rfl⟩
  rw [hwo] at HB0 HU HT HBLK HLT ⊢
  clear hwo
  refine (partFits_any p A c _ hp HT.out).mono ?_
  rintro e w1 ⟨rfl, hb1⟩
  have HB1 := Lib.hid hb1
  have hblk1 : w1.heap[w.heap.size]? = some _ := (hb1.block _ HLT.out).trans HBLK.out
  have q0 := block_cell hblk1 0
  have q1 := block_cell hblk1 1
  have q2 := block_cell hblk1 2
  have q3 := block_cell hblk1 3
  have q4 := block_cell hblk1 4
  have HL1 := Lib.hid hblk1
  clear hb1 hblk1
  cases h1 : pf p with
  | false =>
    have HC : Hid (chk p = 1) := Lib.hid (chk_no (by unfold okD; rw [h1]; simp))
    clear h1
    go_wp2_with fail
    go_ret
    exact ⟨ret_int HC.out.symm, HB0.out.trans (HB1.out.mono HB0.out.size)⟩
  | true =>
    have P1 := Lib.hid h1
    clear h1
    go_wp2_with fail
    refine (paramsFit_any p (.slice A p.params.length c) _ (HU.out.kept HB1.out) hn).mono ?_
    rintro e w2 ⟨rfl, hb2⟩
    have HB2 := Lib.hid (HB1.out.trans (hb2.mono HB1.out.size))
    have hblk2 : w2.heap[w.heap.size]? = some _ := (HB2.out.block _ HLT.out).trans HBLK.out
    clear q0 q1 q2 q3 q4 hb2
    have q0 := block_cell hblk2 0
    have q1 := block_cell hblk2 1
    have q2 := block_cell hblk2 2
    have q3 := block_cell hblk2 3
    have q4 := block_cell hblk2 4
    clear hblk2
    cases h2 : nf p with
    | false =>
      have HC : Hid (chk p = 1) := Lib.hid (chk_no (by unfold okD; rw [h2]; simp))
      clear h2
      go_wp2_with fail
      go_ret
      exact ⟨ret_int HC.out.symm, HB0.out.trans (HB2.out.mono HB0.out.size)⟩
    | true =>
      have P2 := Lib.hid h2
      clear h2
      go_wp2_with fail
      refine (interFits_any p A c _ hi).mono ?_
      rintro e w3 ⟨rfl, hb3⟩
      have HB3 := Lib.hid (HB2.out.trans (hb3.mono HB2.out.size))
      have hblk3 : w3.heap[w.heap.size]? = some _ := (HB3.out.block _ HLT.out).trans HBLK.out
      clear q0 q1 q2 q3 q4 hb3
      have q0 := block_cell hblk3 0
      have q1 := block_cell hblk3 1
      have q2 := block_cell hblk3 2
      have q3 := block_cell hblk3 3
      have q4 := block_cell hblk3 4
      clear hblk3
      cases h3 : xf p with
      | false =>
        have HC : Hid (chk p = 1) := Lib.hid (chk_no (by unfold okD; rw [h3]; simp))
        clear h3
        go_wp2_with fail
        go_ret
        exact ⟨ret_int HC.out.symm, HB0.out.trans (HB3.out.mono HB0.out.size)⟩
      | true =>
        have P3 := Lib.hid h3
        clear h3
        go_wp2_with fail
        refine (textFits_any p A c _ htx).mono ?_
        rintro e w4 ⟨rfl, hb4⟩
        have HB4 := Lib.hid (HB3.out.trans (hb4.mono HB3.out.size))
        clear q0 q1 q2 q3 q4 hb4
        cases h4 : tf p with
        | false =>
          have HC : Hid (chk p = 1) := Lib.hid (chk_no (by unfold okD; rw [h4]; simp))
          clear h4
          go_wp2_with fail
          go_ret
          exact ⟨ret_int HC.out.symm, HB0.out.trans (HB4.out.mono HB0.out.size)⟩
        | true =>
          have HC : Hid (chk p = 0) := Lib.hid (chk_yes (by unfold okD; rw [HR.out, P1.out, P2.out, P3.out, h4]; rfl))
          clear h4
          go_wp2_with fail
          go_ret
          exact ⟨ret_int HC.out.symm, HB0.out.trans (HB4.out.mono HB0.out.size)⟩
end Vd
end Go.Proofs.YtjodbmfjdpbbnaaDoor
