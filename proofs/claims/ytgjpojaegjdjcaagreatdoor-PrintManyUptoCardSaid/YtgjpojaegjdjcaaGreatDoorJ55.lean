/- Joined texts: PrnShown, RowIns, RowOwn, RowMark. -/
import Derived.Test.YtgjpojaegjdjcaaGreatDoorJ1
import Derived.Test.YtgjpojaegjdjcaaGreatDoorJ2
import Derived.Test.YtgjpojaegjdjcaaGreatDoorJ3
import Derived.Test.YtgjpojaegjdjcaaGreatDoorJ4
import Derived.Test.YtgjpojaegjdjcaaGreatDoorJ5
import Derived.Test.YtgjpojaegjdjcaaGreatDoorJ6
import Derived.Test.YtgjpojaegjdjcaaGreatDoorJ7
import Derived.Test.YtgjpojaegjdjcaaGreatDoorJ8
import Derived.Test.YtgjpojaegjdjcaaGreatDoorJ9
import Derived.Test.YtgjpojaegjdjcaaGreatDoorJ10
import Derived.Test.YtgjpojaegjdjcaaGreatDoorJ11
import Derived.Test.YtgjpojaegjdjcaaGreatDoorJ12
import Derived.Test.YtgjpojaegjdjcaaGreatDoorJ13
import Derived.Test.YtgjpojaegjdjcaaGreatDoorJ14
import Derived.Test.YtgjpojaegjdjcaaGreatDoorJ15
import Derived.Test.YtgjpojaegjdjcaaGreatDoorJ17
import Derived.Test.YtgjpojaegjdjcaaGreatDoorJ18
import Derived.Test.YtgjpojaegjdjcaaGreatDoorJ19
import Derived.Test.YtgjpojaegjdjcaaGreatDoorJ20
import Derived.Test.YtgjpojaegjdjcaaGreatDoorJ21
import Derived.Test.YtgjpojaegjdjcaaGreatDoorJ22
import Derived.Test.YtgjpojaegjdjcaaGreatDoorJ23
import Derived.Test.YtgjpojaegjdjcaaGreatDoorJ24
import Derived.Test.YtgjpojaegjdjcaaGreatDoorJ27
import Derived.Test.YtgjpojaegjdjcaaGreatDoorJ29
import Derived.Test.YtgjpojaegjdjcaaGreatDoorJ30
import Derived.Test.YtgjpojaegjdjcaaGreatDoorJ31
import Derived.Test.YtgjpojaegjdjcaaGreatDoorJ43
import Derived.Test.YtgjpojaegjdjcaaGreatDoorJ44
import Derived.Test.YtgjpojaegjdjcaaGreatDoorJ45
import Derived.Test.YtgjpojaegjdjcaaGreatDoorJ46
import Derived.Test.YtgjpojaegjdjcaaGreatDoorJ48
import Derived.Test.YtgjpojaegjdjcaaGreatDoorJ49
import Derived.Test.YtgjpojaegjdjcaaGreatDoorJ51
import Derived.Test.YtgjpojaegjdjcaaGreatDoorJ61
section
/- What the set of lines has: a range over a text of thirty-one runes. -/
namespace Go.Proofs.YtgjpojaegjdjcaaGreatDoor
set_option maxRecDepth 100000
open Go.RowKit
namespace Scr
open Go.Proofs.YtgjpojaegjdjcaaGreatDoor.Row Wid

def drawnB : ByteArray := ⟨#[226, 151, 134, 226, 150, 146, 226, 144, 137, 226, 144, 140, 226, 144, 141, 226, 144, 138, 194, 176, 194, 177, 226, 144, 164, 226, 144, 139, 226, 148, 152, 226, 148, 144, 226, 148, 140, 226, 148, 148, 226, 148, 188, 226, 142, 186, 226, 142, 187, 226, 148, 128, 226, 142, 188, 226, 142, 189, 226, 148, 156, 226, 148, 164, 226, 148, 180, 226, 148, 172, 226, 148, 130, 226, 137, 164, 226, 137, 165, 207, 128, 226, 137, 160, 194, 163, 194, 183]⟩
def drawnL : List Nat := [9670, 9618, 9225, 9228, 9229, 9226, 176, 177, 9252, 9227, 9496, 9488, 9484, 9492, 9532, 9146, 9147, 9472, 9148, 9149, 9500, 9508, 9524, 9516, 9474, 8804, 8805, 960, 8800, 163, 183]
def posL : List Nat := [0, 3, 6, 9, 12, 15, 18, 20, 22, 25, 28, 31, 34, 37, 40, 43, 46, 49, 52, 55, 58, 61, 64, 67, 70, 73, 76, 79, 81, 84, 86, 88]
theorem drawn_step : ∀ j : Fin 31, Utf.dec (drawnB.data.toList.drop (posL.getD j.val 0)) = (drawnL.getD j.val 0, posL.getD (j.val + 1) 0 - posL.getD j.val 0) ∧ posL.getD j.val 0 < posL.getD (j.val + 1) 0 ∧ posL.getD j.val 0 < 88 := of_decide_eq_true (by kernel_rfl)
theorem drawn_size : drawnB.size = 88 := by kernel_rfl
/-- .. and for which runes. -/
def drawnAt (r : Int) : Int := if 96 ≤ r ∧ r < 127 then (drawnL.getD (r - 96).toNat 0 : Nat) else r
theorem drawn_at {j : Nat} (hj : j < 31) : Utf.dec (drawnB.data.toList.drop (posL.getD j 0)) = (drawnL.getD j 0, posL.getD (j + 1) 0 - posL.getD j 0) ∧ posL.getD j 0 < posL.getD (j + 1) 0 ∧ posL.getD j 0 < 88 := drawn_step ⟨j, hj⟩
theorem drawn_yes {j : Nat} {r : Int} (hj : j < 31) (h : 96 + (j : Int) = r) : drawnAt r = (drawnL.getD j 0 : Nat) := by
  subst h
  unfold drawnAt
  rw [if_pos (by omega), show ((96 + (j : Int)) - 96).toNat = j from by omega]
theorem drawn_no {r : Int} (h : r < 96 ∨ 127 ≤ r) : drawnAt r = r := if_neg (by omega)
set_option maxHeartbeats 800000 in
theorem shown_lines (k : Cur) (r : Int) (hs : setOf k = 1) (w : World) : Calls Tryz.prog 112 #[curV k, .int .i64 r] w fun e w' => e = .returned (.int .i64 (drawnAt r)) ∧ Below w.heap.size w w' := by
  have HB := Lib.hid (bel_alloc w (.cells #[.int .i64 k.row, .int .i64 k.col, .bool k.wrap, .int .i64 k.a.fg, .int .i64 k.a.bg, .int .i64 k.a.flags, .int .i64 k.g0, .int .i64 k.g1, .int .i64 k.shift, .bool k.origin] 33))
  have HS := Lib.hid (fun W => penSet k W)
  rw [hs] at HS
  go_enter Tryz.func112, Tryz.ntmps112
  go_wp2_with fail
  refine (HS.out _).mono ?_; rintro e w1 ⟨rfl, hb⟩
  have HB1 := Lib.hid (HB.out.trans (hb.mono HB.out.size))
  clear hb HS HB
  go_wp2_with fail
  go_loopw [5] (fun t wr => ∃ (j : Nat) (a : Int), j ≤ 31 ∧ t = .int .i64 a ∧ a = 96 + (j : Int) ∧ Hid (r < 96 ∨ 96 + (j : Int) ≤ r) ∧ Hid (wr.heap[w1.heap.size]? = some (.stringIter drawnB (posL.getD j 0))) ∧ Below w1.heap.size w1 wr) (fun _ wr => 88 - wr.iterPos w1.heap.size)
  case atStart => exact ⟨0, 96, by omega, rfl, by omega, Lib.hid (by omega), Lib.hid (World.iter_heap _ _ _), Utf.below_iter (Below.refl _ _) (Nat.le_refl _) _ _⟩
  case round =>
    obtain ⟨j, a, hj, rfl, ha, HR, HI, hbl⟩ := hrel
    have HIP : Hid (wr.iterPos w1.heap.size = posL.getD j 0) := Lib.hid (by simp [World.iterPos, HI.out])
    by_cases hp : j < 31
    · obtain ⟨hd, hlt, h88⟩ := drawn_at hp
      have hnx : ∀ ty, (Instr.next (.pointer (some ⟨w1.heap.size, 0, none⟩)) true ty).run Tryz.prog wr = _ := fun ty => Lib.run_next_any_at wr w1.heap.size drawnB (posL.getD j 0) ty HI.out (by rw [drawn_size]; exact h88)
      rw [Utf.dec_at] at hnx
      have hsm := Utf.dec_small (drawnB.data.toList.drop (posL.getD j 0))
      rw [hd] at hnx hsm
      simp only at hnx hsm
      have HY := Lib.hid (fun h => drawn_yes (r := r) hp h)
      have HPN : Hid (posL.getD j 0 + (posL.getD (j + 1) 0 - posL.getD j 0) = posL.getD (j + 1) 0) := Lib.hid (by omega)
      rw [HPN.out] at hnx
      have HLT := Lib.hid hlt
      have H88 := Lib.hid h88
      clear hd hlt h88
      obtain ⟨p2, hp2⟩ : ∃ q, posL.getD (j + 1) 0 = q := ⟨_, rfl⟩
      rw [hp2] at hnx HPN HLT
      have HP2 := Lib.hid hp2
      clear hp2
      generalize posL.getD j 0 = p1 at hnx HPN HLT H88 HI HIP
      generalize drawnL.getD j 0 = x at hnx hsm HY
      have hit2 := Lib.iterAt_heap wr w1.heap.size drawnB p1 p2 HI.out
      have HIT2 := Lib.hid hit2
      have HIP2 : Hid ((wr.iterAt w1.heap.size drawnB p2).iterPos w1.heap.size = p2) := Lib.hid (by simp [World.iterPos, hit2])
      have HBL2 : Hid (Below w1.heap.size w1 (wr.iterAt w1.heap.size drawnB p2)) := Lib.hid (Lib.below_iterAt hbl (Nat.le_refl _) _ _)
      clear hit2 hbl
      by_cases he : a = r
      · have HE := Lib.hid (HY.out (by omega))
        clear HY HR
        go_wp2_with fail
        go_ret
        exact ⟨by rw [HE.out]; rfl, HB1.out.trans (HBL2.out.mono HB1.out.size)⟩
      · go_wp2_with fail
        go_roundw
        case rel => exact ⟨j + 1, a + 1, by omega, by go_num, by omega, Lib.hid (by have := HR.out; omega), Lib.hid (by rw [HP2.out]; exact HIT2.out), HBL2.out⟩
        case measure => rw [HIP2.out, HIP.out]; have := HLT.out; have := H88.out; omega
    · have hnx : ∀ ty, (Instr.next (.pointer (some ⟨w1.heap.size, 0, none⟩)) true ty).run Tryz.prog wr = _ := fun ty => Lib.run_next_end_at wr w1.heap.size drawnB (posL.getD j 0) ty HI.out (by rw [show j = 31 by omega, drawn_size]; decide)
      have HE := Lib.hid (drawn_no (r := r) (by have := HR.out; omega))
      go_wp2_with fail
      go_ret
      exact ⟨by rw [HE.out]; rfl, HB1.out.trans (hbl.mono HB1.out.size)⟩
end Scr
end Go.Proofs.YtgjpojaegjdjcaaGreatDoor
end
section
/- The developers' Insert and Delete, where all may be. -/
namespace Go.Proofs.YtgjpojaegjdjcaaGreatDoor
set_option maxRecDepth 100000
open Go.RowKit
namespace Row
open Utf Wid

theorem held_repl {l r : List Cl} (h : Held l) (hr : Held r) {low high : Nat} (h1 : low ≤ high) (h2 : high ≤ l.length) : Held (repl l low high r) := by
  unfold repl
  split
  · exact h
  · have hc := held_cut (held_cut h low) high
    have hcl : (cutL (cutL l low) high).length = l.length := by rw [cutL_length, cutL_length]
    unfold mid
    generalize cutL (cutL l low) high = m at hc hcl
    intro i hi
    have hlt : (m.take low).length = low := by rw [List.length_take]; omega
    by_cases hi1 : i < (m.take low).length
    · rw [g_append_left hi1, g_take (by omega)]; exact hc i (by omega)
    · rw [g_append_right (by omega)]
      by_cases hi2 : i - (m.take low).length < r.length
      · rw [g_append_left hi2]; exact hr _ hi2
      · rw [g_append_right (by omega), g_drop]
        rw [List.length_append, List.length_append, List.length_drop, hlt] at hi
        exact hc _ (by rw [hlt] at *; omega)
theorem held_nil : Held [] := fun i h => absurd h (by simp)
set_option maxHeartbeats 1600000 in
theorem rowRoom_fits (l : List Cl) (a : Look) (k n : Nat) (m : Nat) (hm : m = min n (l.length - k)) (x : Value) (w : World) (hx : Cs w x l) (hs : Held l) (hl : l.length ≤ 1000) (h : RowOk l) (ha : attrOk a = true) (hk : k ≤ l.length) (hn : n ≤ 9999) :
    Calls Tryz.prog 131 #[x, .int .i64 k, .int .i64 n, .agg #[.int .i64 a.fg, .int .i64 a.bg, .int .i64 a.flags]] w fun e w' => e = .returned (.tuple #[.int .i64 m, .int .i64 0]) ∧ Below w.heap.size w w' := by
  have hb0 : Below w.heap.size w (w.alloc (.cells #[.int .i64 a.fg, .int .i64 a.bg, .int .i64 a.flags] 31)) := (Below.refl _ _).alloc (Nat.le_refl _) _
  have HX := Lib.hid (hx.kept hb0)
  have HF := Lib.hid (fun w' (k : Cs w' x l) => fit_yes h ha hs hl x w' k)
  have HR1 : Hid (rng (k : Int) 0 (l.length : Int) = true) := Lib.hid (rng_yes (by omega) (by omega))
  have HR2 : Hid (rng (n : Int) 0 9999 = true) := Lib.hid (rng_yes (by omega) (by omega))
  have hwrap : IntKind.i64.wrap ((l.length : Int) - (k : Int)) = ((l.length - k : Nat) : Int) := by rw [IntKind.wrap_i64]; omega
  obtain ⟨A, c, rfl, _⟩ := hx.form
  clear hx hs h hb0 ha
  by_cases hlt : n ≤ l.length - k
  · have hmn : m = n := by omega
    subst hmn
    generalize l.length - k = q at hwrap hlt
    clear hm
    go_enter Tryz.func131, Tryz.ntmps131
    go_wp2_with fail
    refine (HF.out _ HX.out).mono ?_; rintro e w2 ⟨rfl, hb2⟩
    obtain ⟨_, hbw⟩ := box_kept hb2
    have HB2 := Lib.hid hbw
    clear hb2 hbw
    go_wp2_with fail
    refine (rowIn_at _ _ _ _ HR1.out _).mono ?_; rintro e w' ⟨rfl, rfl⟩
    go_wp2_with fail
    refine (rowIn_at _ _ _ _ HR2.out _).mono ?_; rintro e w' ⟨rfl, rfl⟩
    go_wp2_with fail
    go_ret2
    exact ⟨by simp; omega, HB2.out⟩
  · have hmn : m = l.length - k := by omega
    rw [← hmn] at hwrap
    have hlt : m < n := by omega
    clear hm hmn
    go_enter Tryz.func131, Tryz.ntmps131
    go_wp2_with fail
    refine (HF.out _ HX.out).mono ?_; rintro e w2 ⟨rfl, hb2⟩
    obtain ⟨_, hbw⟩ := box_kept hb2
    have HB2 := Lib.hid hbw
    clear hb2 hbw
    go_wp2_with fail
    refine (rowIn_at _ _ _ _ HR1.out _).mono ?_; rintro e w' ⟨rfl, rfl⟩
    go_wp2_with fail
    refine (rowIn_at _ _ _ _ HR2.out _).mono ?_; rintro e w' ⟨rfl, rfl⟩
    go_wp2_with fail
    go_ret2
    exact ⟨by simp; omega, HB2.out⟩
set_option maxHeartbeats 1600000 in
theorem insert_fits (l : List Cl) (a : Look) (k n m : Nat) (hm : m = min n (l.length - k)) (x : Value) (w : World) (hx : Cs w x l) (hs : Held l) (hl : l.length ≤ 500) (h : RowOk l) (ha : attrOk a = true) (hk : k ≤ l.length) (hn : n ≤ 9999) :
    Calls Tryz.prog 110 #[x, .int .i64 k, .int .i64 n, .agg #[.int .i64 a.fg, .int .i64 a.bg, .int .i64 a.flags]] w fun e w' => ∃ v, e = .returned (.tuple #[v, .int .i64 0]) ∧ OwnCs w' w.heap.size v (insertOf l k m a) ∧ Below w.heap.size w w' := by
  have hb0 : Below w.heap.size w (w.alloc (.cells #[.int .i64 a.fg, .int .i64 a.bg, .int .i64 a.flags] 31)) := (Below.refl _ _).alloc (Nat.le_refl _) _
  have HX0 := Lib.hid hx
  have HX := Lib.hid (hx.kept hb0)
  have HRM := Lib.hid (fun w' (h1 : Cs w' x l) => rowRoom_fits l a k n m hm x w' h1 hs (by omega) h ha hk hn)
  have hml : k + m ≤ l.length := by omega
  have HR1 := Lib.hid (fun w' (h1 : Cs w' x l) => replaced_any l [] (l.length - m) l.length x (.slice none 0 0) w' h1 (Cs.nil w') h.2.2 hs (by omega) (by simp) (by omega) (Nat.le_refl _))
  have hg1 := good_repl h.2.2 (l.length - m) l.length good_nil
  have hh1 := held_repl hs held_nil (low := l.length - m) (high := l.length) (by omega) (Nat.le_refl _)
  have hl1 := repl_length (l := l) (low := l.length - m) (high := l.length) (by omega) (Nat.le_refl _) []
  rw [List.length_nil] at hl1
  have HR2 := Lib.hid (fun z y w' (k1 : Cs w' z (repl l (l.length - m) l.length [])) (k2 : Cs w' y (List.replicate m (blank a))) => replaced_any (repl l (l.length - m) l.length []) (List.replicate m (blank a)) k k z y w' k1 k2 hg1 hh1 (by omega) (by rw [List.length_replicate]; omega) (Nat.le_refl _) (by omega))
  have HI : Hid (insertOf l k m a = repl (repl l (l.length - m) l.length []) k k (List.replicate m (blank a))) := Lib.hid rfl
  have HBK := Lib.hid (fun w' => blanks_any m a w' (by omega))
  have hwrap : IntKind.i64.wrap ((l.length : Int) - (m : Int)) = ((l.length - m : Nat) : Int) := by rw [IntKind.wrap_i64]; omega
  generalize insertOf l k m a = res at HI ⊢
  generalize l.length - m = lm at HR1 HR2 HI hwrap
  generalize repl l lm l.length [] = l1 at HR1 HR2 HI
  generalize List.replicate m (blank a) = bs at HR2 HI HBK
  obtain ⟨A, c, rfl, _⟩ := hx.form
  clear hx hs h hb0 ha hg1 hh1 hl1 hm
  go_enter Tryz.func110, Tryz.ntmps110
  go_wp2_with fail
  refine (HRM.out _ HX.out).mono ?_; rintro e w2 ⟨rfl, hb2⟩
  obtain ⟨hk2, hbw⟩ := box_kept hb2
  have HB2 := Lib.hid hbw
  have HK2 := Lib.hid hk2
  clear hb2 hbw hk2
  go_wp2_with fail
  refine (HR1.out _ (HX0.out.kept HB2.out)).mono ?_; rintro e w3 ⟨v3, rfl, ho3, hb3⟩
  have HB3 : Hid (Below w.heap.size w w3) := Lib.hid (HB2.out.trans (hb3.mono HB2.out.size))
  have HC3 := Lib.hid ho3.cs
  obtain ⟨k0, k1, k2⟩ := box_cells (Blk.kept HK2.out hb3)
  clear ho3 hb3
  go_wp2_with fail
  refine (HBK.out _).mono ?_; rintro e w4 ⟨v4, rfl, ho4, hb4⟩
  have HB4 : Hid (Below w.heap.size w w4) := Lib.hid (HB3.out.trans (hb4.mono HB3.out.size))
  have HC4 := Lib.hid ho4.cs
  have HC34 := Lib.hid (HC3.out.kept hb4)
  clear ho4 hb4
  go_wp2_with fail
  refine (HR2.out _ _ _ HC34.out HC4.out).mono ?_; rintro e w5 ⟨v5, rfl, ho5, hb5⟩
  have HO5 : Hid (OwnCs w5 w.heap.size v5 res) := Lib.hid (by rw [HI.out]; exact ho5.low HB4.out.size)
  have HB5 : Hid (Below w.heap.size w w5) := Lib.hid (HB4.out.trans (hb5.mono HB4.out.size))
  clear ho5 hb5
  go_wp2_with fail
  go_ret2
  exact ⟨v5, rfl, HO5.out, HB5.out⟩
end Row
end Go.Proofs.YtgjpojaegjdjcaaGreatDoor
end
section
/- The developers' owner of a place: the cell itself, or the one ahead of a second half. -/
namespace Go.Proofs.YtgjpojaegjdjcaaGreatDoor
set_option maxRecDepth 100000
open Go.RowKit
namespace Row
open Utf Wid

@[go_sem] theorem first_0 (p : Option Addr) (w : World) : (Instr.field 182 (.agg #[.pointer p]) 0).run Tryz.prog w = .ok (.pointer p) w := by kernel_rfl
set_option maxHeartbeats 800000 in
theorem owner_not (l : List Cl) (base b k cap : Nat) (w : World) (ho : OwnCs w base (.slice (some ⟨b, 0, none⟩) l.length cap) l) (hs : Held l) (hk : k < l.length) (h0 : kind (g l k) ≠ 0) (h3 : kind (g l k) ≠ 3) :
    Calls Tryz.prog 108 #[.slice (some ⟨b, 0, none⟩) l.length cap, .int .i64 k] w fun e w' => e = .returned (.pointer (some ⟨b, k * 6, none⟩)) ∧ Below w.heap.size w w' := by
  have HAT := Lib.hid (ho.at hk)
  have HLK := Lib.hid (fun w' (h : At w' ⟨b, k * 6, none⟩ (cvals (g l k))) => look_any (g l k) ⟨b, k * 6, none⟩ w' h (hs k hk))
  have hkl := kind_le (g l k)
  rcases (by omega : kind (g l k) = 1 ∨ kind (g l k) = 2) with e | e
  · rw [e, partV_1] at HLK
    clear hs ho h0 h3 e hkl
    go_enter Tryz.func108, Tryz.ntmps108
    go_wp2_with fail
    refine (HLK.out _ HAT.out).mono ?_; rintro e w1 ⟨rfl, hb1⟩
    have HB1 := Lib.hid hb1
    clear hb1
    go_wp2_with fail
    go_ret
    exact ⟨rfl, by have h1 := HB1.out; have h2 := h1.size; repeat (first | exact h1 | refine Below.alloc ?_ (by first | exact h2 | (simp; omega)) _)⟩
  · rw [e, partV_2] at HLK
    clear hs ho h0 h3 e hkl
    go_enter Tryz.func108, Tryz.ntmps108
    go_wp2_with fail
    refine (HLK.out _ HAT.out).mono ?_; rintro e w1 ⟨rfl, hb1⟩
    have HB1 := Lib.hid hb1
    clear hb1
    go_wp2_with fail
    go_ret
    exact ⟨rfl, by have h1 := HB1.out; have h2 := h1.size; repeat (first | exact h1 | refine Below.alloc ?_ (by first | exact h2 | (simp; omega)) _)⟩
set_option maxHeartbeats 800000 in
theorem owner_snd (l : List Cl) (base b k j cap : Nat) (w : World) (ho : OwnCs w base (.slice (some ⟨b, 0, none⟩) l.length cap) l) (hs : Held l) (hl : l.length ≤ 1000000) (hk : k < l.length) (hj : k = j + 1) (h3 : kind (g l k) = 3) (h2 : kind (g l j) = 2) :
    Calls Tryz.prog 108 #[.slice (some ⟨b, 0, none⟩) l.length cap, .int .i64 k] w fun e w' => e = .returned (.pointer (some ⟨b, j * 6, none⟩)) ∧ Below w.heap.size w w' := by
  have hjl : j < l.length := by omega
  have HLK := Lib.hid (fun w' (h : At w' ⟨b, k * 6, none⟩ (cvals (g l k))) => look_any (g l k) ⟨b, k * 6, none⟩ w' h (hs k hk))
  have HLJ := Lib.hid (fun w' (h : At w' ⟨b, j * 6, none⟩ (cvals (g l j))) => look_any (g l j) ⟨b, j * 6, none⟩ w' h (hs j hjl))
  rw [h3, partV_3] at HLK
  rw [h2, partV_2] at HLJ
  have HO := Lib.hid ho
  have hk1 : IntKind.i64.wrap ((k : Int) - 1) = (j : Int) := by rw [IntKind.wrap_i64]; omega
  clear hs ho h3 h2 hj
  go_enter Tryz.func108, Tryz.ntmps108
  go_wp2_with fail
  refine (HLK.out _ (HO.out.at hk)).mono ?_; rintro e w1 ⟨rfl, hb1⟩
  have HB1 := Lib.hid hb1
  have z1 := hb1.size
  clear hb1
  go_wp2_with fail
  have hb2 : Below w.heap.size w (w1.alloc (.cells #[.pointer (some ⟨b, k * 6, none⟩)] 178)) := HB1.out.alloc HB1.out.size _
  refine (HLJ.out _ ((HO.out.kept hb2).at hjl)).mono ?_; rintro e w2 ⟨rfl, hb3⟩
  have HB3 : Hid (Below w.heap.size w w2) := Lib.hid (hb2.trans (hb3.mono hb2.size))
  clear hb2 hb3
  go_wp2_with fail
  go_ret
  exact ⟨rfl, HB3.out⟩
end Row
end Go.Proofs.YtgjpojaegjdjcaaGreatDoor
end
section
/- A mark more behind a cell's rune, as plain lists: the text that it makes, and that the row still may be. -/
namespace Go.Proofs.YtgjpojaegjdjcaaGreatDoor
set_option maxRecDepth 100000
open Go.RowKit
namespace Row
open Utf Wid

theorem marks_app : ∀ (k : Nat) (l e : List UInt8) (n : Nat), l.length ≤ k → marks l = some n → marks (l ++ e) = (marks e).map (· + n)
  | 0, l, e, n, h, hm => by
    have : l = [] := List.eq_nil_of_length_eq_zero (by omega)
    subst this
    rw [marks_nil] at hm
    injection hm with hm
    subst hm
    rw [List.nil_append]
    cases marks e <;> rfl
  | k + 1, l, e, n, h, hm => by
    by_cases hl : l = []
    · subst hl
      rw [marks_nil] at hm
      injection hm with hm
      subst hm
      rw [List.nil_append]
      cases marks e <;> rfl
    · rw [marks_step hl] at hm
      by_cases hw : wid (dec l).1 = 0
      · rw [if_pos hw] at hm
        obtain ⟨m, hm', hmn⟩ := Option.map_eq_some_iff.1 hm
        rcases Utf.dec_rune l hl with ⟨e1, _⟩ | ⟨h2, h1, hr, _⟩
        · rw [e1] at hw
          exact absurd hw (by decide)
        · have hd : dec (l ++ e) = dec l := by
            have := dec_head hr (l.drop (dec l).2 ++ e)
            rw [← List.append_assoc, List.take_append_drop, List.length_take, Nat.min_eq_left h2] at this
            exact this
          rw [marks_step (by simp [hl]), hd, if_pos hw, List.drop_append_of_le_length h2, marks_app k _ e m (by rw [List.length_drop]; omega) hm']
          cases marks e
          · rfl
          · simp; omega
      · rw [if_neg hw] at hm
        cases hm
theorem tn {n : Nat} (h : n < 256) : (UInt8.ofNat n).toNat = n := by simp; omega
theorem rune_encoded {r : Nat} (hv : Utf8.valid (r : Int) = true) : ∃ l, (Utf8.encode (r : Int)).data.toList = l ∧ Utf.Rune l r := by
  have hv' : r < 55296 ∨ (57343 < r ∧ r ≤ 1114111) := by simp [Utf8.valid] at hv; omega
  unfold Utf8.encode
  simp only [hv, if_true, Int.toNat_natCast]
  split
  · rename_i h
    exact ⟨_, rfl, by rw [tn (by omega)]; exact h, by rw [tn (by omega)]⟩
  · split
    · rename_i h1 h2
      refine ⟨_, rfl, ?_, ?_, ?_⟩
      · rw [tn (by omega)]; unfold more; repeat' split
        all_goals omega
      · rw [tn (by omega), tn (by omega)]; refine follows_iff.2 ?_; simp only [low, high, if_true]; repeat' split
        all_goals omega
      · show r = (UInt8.ofNat (192 + r / 64)).toNat % 32 * 64 + (UInt8.ofNat (128 + r % 64)).toNat % 64
        rw [tn (by omega), tn (by omega)]; omega
    · split
      · rename_i h1 h2 h3
        refine ⟨_, rfl, ?_, ?_, ?_, ?_⟩
        · rw [tn (by omega)]; unfold more; repeat' split
          all_goals omega
        · rw [tn (by omega), tn (by omega)]; refine follows_iff.2 ?_; simp only [low, high, if_true]; repeat' split
          all_goals omega
        · rw [tn (by omega), tn (by omega)]; refine follows_iff.2 ?_; simp only [low, high]; repeat' split
          all_goals omega
        · show r = ((UInt8.ofNat (224 + r / 4096)).toNat % 16 * 64 + (UInt8.ofNat (128 + r / 64 % 64)).toNat % 64) * 64 + (UInt8.ofNat (128 + r % 64)).toNat % 64
          rw [tn (by omega), tn (by omega), tn (by omega)]; omega
      · rename_i h1 h2 h3
        refine ⟨_, rfl, ?_, ?_, ?_, ?_, ?_⟩
        · rw [tn (by omega)]; unfold more; repeat' split
          all_goals omega
        · rw [tn (by omega), tn (by omega)]; refine follows_iff.2 ?_; simp only [low, high, if_true]; repeat' split
          all_goals omega
        · rw [tn (by omega), tn (by omega)]; refine follows_iff.2 ?_; simp only [low, high]; repeat' split
          all_goals omega
        · rw [tn (by omega), tn (by omega)]; refine follows_iff.2 ?_; simp only [low, high]; repeat' split
          all_goals omega
        · show r = (((UInt8.ofNat (240 + r / 262144)).toNat % 8 * 64 + (UInt8.ofNat (128 + r / 4096 % 64)).toNat % 64) * 64 + (UInt8.ofNat (128 + r / 64 % 64)).toNat % 64) * 64 + (UInt8.ofNat (128 + r % 64)).toNat % 64
          rw [tn (by omega), tn (by omega), tn (by omega), tn (by omega)]; omega
theorem marks_one {l : List UInt8} {r : Nat} (h : Utf.Rune l r) (hw : wid (r : Int) = 0) : marks l = some 1 := by
  have hl : l ≠ [] := by rintro rfl; exact h.elim
  have hd := dec_head h []
  rw [List.append_nil] at hd
  rw [marks_step hl, hd]
  simp only
  rw [if_pos hw, List.drop_length, marks_nil]
  rfl
end Row
end Go.Proofs.YtgjpojaegjdjcaaGreatDoor
end
