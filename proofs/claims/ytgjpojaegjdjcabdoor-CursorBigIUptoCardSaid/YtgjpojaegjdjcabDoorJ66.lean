/- Joined texts: ScrRun, CurKey. -/
import Derived.Test.YtgjpojaegjdjcabDoorJ1
import Derived.Test.YtgjpojaegjdjcabDoorJ2
import Derived.Test.YtgjpojaegjdjcabDoorJ3
import Derived.Test.YtgjpojaegjdjcabDoorJ4
import Derived.Test.YtgjpojaegjdjcabDoorJ5
import Derived.Test.YtgjpojaegjdjcabDoorJ6
import Derived.Test.YtgjpojaegjdjcabDoorJ7
import Derived.Test.YtgjpojaegjdjcabDoorJ8
import Derived.Test.YtgjpojaegjdjcabDoorJ9
import Derived.Test.YtgjpojaegjdjcabDoorJ10
import Derived.Test.YtgjpojaegjdjcabDoorJ11
import Derived.Test.YtgjpojaegjdjcabDoorJ12
import Derived.Test.YtgjpojaegjdjcabDoorJ13
import Derived.Test.YtgjpojaegjdjcabDoorJ14
import Derived.Test.YtgjpojaegjdjcabDoorJ15
import Derived.Test.YtgjpojaegjdjcabDoorJ17
import Derived.Test.YtgjpojaegjdjcabDoorJ18
import Derived.Test.YtgjpojaegjdjcabDoorJ19
import Derived.Test.YtgjpojaegjdjcabDoorJ20
import Derived.Test.YtgjpojaegjdjcabDoorJ21
import Derived.Test.YtgjpojaegjdjcabDoorJ22
import Derived.Test.YtgjpojaegjdjcabDoorJ23
import Derived.Test.YtgjpojaegjdjcabDoorJ24
import Derived.Test.YtgjpojaegjdjcabDoorJ25
import Derived.Test.YtgjpojaegjdjcabDoorJ26
import Derived.Test.YtgjpojaegjdjcabDoorJ29
import Derived.Test.YtgjpojaegjdjcabDoorJ30
import Derived.Test.YtgjpojaegjdjcabDoorJ31
import Derived.Test.YtgjpojaegjdjcabDoorJ43
import Derived.Test.YtgjpojaegjdjcabDoorJ61
import Derived.Test.YtgjpojaegjdjcabDoorJ62
import Derived.Test.YtgjpojaegjdjcabDoorJ63
import Derived.Test.YtgjpojaegjdjcabDoorJ64
import Derived.Test.YtgjpojaegjdjcabDoorJ65
section
/- A law on screens under way: what was there stands, its argument lies in its box; screens in boxes of its own. -/
namespace Go.Proofs.YtgjpojaegjdjcabDoor
set_option maxRecDepth 100000
open Go.RowKit
namespace Scr
open Go.Proofs.YtgjpojaegjdjcabDoor.Row

abbrev abox (v : Value) (n m k r : Int) : Obj := .cells #[v, .int .i64 n, .int .i64 m, .int .i64 k, .int .i64 r] 24
/-- The law under way: what was there stands, its argument lies in its box. -/
structure Run (w w' : World) (v : Value) (n m k r : Int) : Prop where
  bel : Below w.heap.size w w'
  box : w'.heap[w.heap.size]? = some (abox v n m k r)
theorem Run.kept {w w1 w2 : World} {v : Value} {n m k r : Int} (h : Run w w1 v n m k r) (hb : Below w1.heap.size w1 w2) : Run w w2 v n m k r := ⟨h.bel.trans (hb.mono h.bel.size), Blk.kept h.box hb⟩
theorem Run.start (w : World) (v : Value) (n m k r : Int) : Run w (w.alloc (abox v n m k r)) v n m k r := ⟨bel_alloc w _, heap_alloc_new _ _⟩
/-- A screen in a box of the law's own, in new memory or as it came. -/
structure Bx (w : World) (b : Nat) (e : Sc) : Prop where
  box : SBox w b e.s e.x e.y e.z
  i : e.in_ w
theorem Bx.kept {w w' : World} {b : Nat} {e : Sc} (h : Bx w b e) (hb : Below w.heap.size w w') : Bx w' b e := ⟨h.box.kept hb, h.i.kept hb⟩
/-- One stored into a box just made. -/
theorem bx_sto {w w' : World} {e : Sc} (h : e.in_ w) (h1 : Sto (w.alloc (.cells zarr 37)) w.heap.size (sarr e.s e.x e.y e.z) w') : Bx w' w.heap.size e ∧ Below w.heap.size w w' := by
  have hb : Below w.heap.size w w' := h1.below _ _ (Nat.le_refl _) (bel_alloc w _)
  exact ⟨⟨h1.box, h.kept hb⟩, hb⟩
theorem Reach.holds {bnd : Nat} {s : S} (h : Reach bnd s) (hb : bnd ≤ 1152921504606846976) : Holds s := ⟨fun i hi => Nat.le_trans (h.m.2 i hi) hb, fun i hi => Nat.le_trans (h.o.2 i hi) hb, Nat.le_trans h.t hb⟩
end Scr
end Go.Proofs.YtgjpojaegjdjcabDoor
end
section
/- Which keys the page knows; a new screen's cursor led somewhere wakes the laws. -/
namespace Go.Proofs.YtgjpojaegjdjcabDoor
set_option maxRecDepth 100000
open Go.RowKit
namespace Scr
open Go.Proofs.YtgjpojaegjdjcabDoor.Row

/-- A block of numbers. -/
def Kv (w : World) (b : Nat) (l : List Int) : Prop := ∀ i, i < l.length → w.cell? ⟨b, i, none⟩ = some (.int .i64 (l.getD i 0))
theorem Kv.kept {w w' : World} {b : Nat} {l : List Int} (h : Kv w b l) (hb : Below w.heap.size w w') : Kv w' b l := fun i hi => cell_kept hb (h i hi)
set_option maxHeartbeats 800000 in
theorem refIn_any (l : List Int) (b c : Nat) (n : Int) (w : World) (h : Kv w b l) (hl : l.length ≤ 1000) :
    Calls Tryd.prog 41 #[.slice (some ⟨b, 0, none⟩) l.length c, .int .i64 n] w fun e w' => ∃ r, e = .returned (.int .i64 r) ∧ (0 ≤ r ↔ ∃ i, i < l.length ∧ l.getD i 0 = n) ∧ w' = w := by
  have HA := Lib.hid h
  obtain ⟨m, hm⟩ : ∃ m, l.length = m := ⟨_, rfl⟩
  have HM := Lib.hid hm
  rw [hm] at hl ⊢
  clear hm h
  go_enter Tryd.func41, Tryd.ntmps41
  go_wp2_with fail
  go_loopw [5] (fun i wr => ∃ k : Nat, k ≤ m ∧ i = .int .i64 k ∧ wr = w ∧ Hid (∀ j, j < k → l.getD j 0 ≠ n)) (fun i _ => m - (intOf i).toNat)
  case atStart => exact ⟨0, by omega, rfl, rfl, Lib.hid (fun j hj => absurd hj (by omega))⟩
  case round =>
    obtain ⟨k, hk, rfl, rfl, HB⟩ := hrel
    by_cases hlt : k < m
    · have hE := HA.out k (by rw [HM.out]; exact hlt)
      by_cases he : l.getD k 0 = n
      · have HI : Hid (∃ i, i < m ∧ l.getD i 0 = n) := Lib.hid ⟨k, hlt, he⟩
        rw [he] at hE
        clear he
        go_wp2_with fail
        go_ret
        exact ⟨_, rfl, ⟨fun _ => HI.out, fun _ => Int.natCast_nonneg k⟩, rfl⟩
      · have HN : Hid (∀ j, j < k + 1 → l.getD j 0 ≠ n) := Lib.hid fun j hj => by
          by_cases e : j = k
          · subst e; exact he
          · exact HB.out j (by omega)
        have hne : (l.getD k 0 == n) = false := by rw [beq_eq_false_iff_ne]; exact he
        generalize l.getD k 0 = y at hE hne
        clear he
        go_wp2_with fail
        go_roundw
        case rel => exact ⟨k + 1, by omega, by go_num, by trivial, HN⟩
        case measure => simp [intOf]; omega
    · have HI : Hid (¬ ∃ i, i < m ∧ l.getD i 0 = n) := Lib.hid fun ⟨i, hi, e⟩ => HB.out i (by omega) e
      have hd : decide (k < m) = false := decide_eq_false hlt
      clear hlt
      go_wp2_with fail
      go_ret
      exact ⟨_, rfl, ⟨fun h => absurd h (by decide), fun h => absurd h HI.out⟩, rfl⟩
def keysL : List Int := [65, 66, 67, 68, 69, 70, 71, 100, 72, 73, 90]
theorem keys_iff {key : Int} : keyB key = true ↔ ∃ i, i < 11 ∧ keysL.getD i 0 = key := by
  unfold keyB
  simp only [Bool.or_eq_true, beq_iff_eq]
  constructor
  · intro h
    rcases h with rfl | rfl | rfl | rfl | rfl | rfl | rfl | rfl | rfl | rfl | rfl
    · exact ⟨0, by decide, rfl⟩
    · exact ⟨1, by decide, rfl⟩
    · exact ⟨2, by decide, rfl⟩
    · exact ⟨3, by decide, rfl⟩
    · exact ⟨4, by decide, rfl⟩
    · exact ⟨5, by decide, rfl⟩
    · exact ⟨6, by decide, rfl⟩
    · exact ⟨7, by decide, rfl⟩
    · exact ⟨8, by decide, rfl⟩
    · exact ⟨9, by decide, rfl⟩
    · exact ⟨10, by decide, rfl⟩
  · rintro ⟨i, hi, rfl⟩
    have : i = 0 ∨ i = 1 ∨ i = 2 ∨ i = 3 ∨ i = 4 ∨ i = 5 ∨ i = 6 ∨ i = 7 ∨ i = 8 ∨ i = 9 ∨ i = 10 := by omega
    rcases this with rfl | rfl | rfl | rfl | rfl | rfl | rfl | rfl | rfl | rfl | rfl <;> simp [keysL]
abbrev kbox : Obj := .cells #[.int .i64 65, .int .i64 66, .int .i64 67, .int .i64 68, .int .i64 69, .int .i64 70, .int .i64 71, .int .i64 100, .int .i64 72, .int .i64 73, .int .i64 90] 3
theorem kbox_kv (w : World) : Kv (w.alloc kbox) w.heap.size keysL := by
  have hx : (w.alloc kbox).heap[w.heap.size]? = some kbox := heap_alloc_new _ _
  intro i hi
  have hi : i < 11 := hi
  have : i = 0 ∨ i = 1 ∨ i = 2 ∨ i = 3 ∨ i = 4 ∨ i = 5 ∨ i = 6 ∨ i = 7 ∨ i = 8 ∨ i = 9 ∨ i = 10 := by omega
  rcases this with rfl | rfl | rfl | rfl | rfl | rfl | rfl | rfl | rfl | rfl | rfl
  · exact Blk.cell hx 0
  · exact Blk.cell hx 1
  · exact Blk.cell hx 2
  · exact Blk.cell hx 3
  · exact Blk.cell hx 4
  · exact Blk.cell hx 5
  · exact Blk.cell hx 6
  · exact Blk.cell hx 7
  · exact Blk.cell hx 8
  · exact Blk.cell hx 9
  · exact Blk.cell hx 10
set_option maxHeartbeats 800000 in
theorem moveKey_any (key : Int) (w : World) : Calls Tryd.prog 22 #[.int .i64 key] w fun e w' => e = .returned (.bool (keyB key)) ∧ Below w.heap.size w w' := by
  have HIN := Lib.hid (refIn_any keysL w.heap.size 11 key _ (kbox_kv w) (by decide))
  have HB := Lib.hid (bel_alloc w kbox)
  have HK := Lib.hid (keys_iff (key := key))
  have HL : Hid (keysL.length = 11) := Lib.hid rfl
  rw [HL.out] at HIN
  generalize keyB key = kb at HK ⊢
  go_enter Tryd.func22, Tryd.ntmps22
  go_wp2_with fail
  refine HIN.out.mono ?_; rintro e w1 ⟨r, rfl, hr, rfl⟩
  have HR : Hid (decide (0 ≤ r) = kb) := Lib.hid (by
    cases kb
    · exact decide_eq_false fun h => by have := HK.out.2 (hr.1 h); cases this
    · exact decide_eq_true (hr.2 (HK.out.1 rfl)))
  clear hr
  go_wp2_with fail
  go_ret
  exact ⟨ret_bool HR.out, HB.out⟩
theorem num10 (n : Int) (w : World) : Calls Tryd.prog 17 #[.int .i64 n] w fun e w' => e = .returned (.int .i64 n) ∧ w' = w := by
  go_enter Tryd.func17, Tryd.ntmps17
  go_wp2_with fail
  go_ret
  exact ⟨rfl, rfl⟩
theorem num10_then {w : World} {n : Int} {Q : Ending → World → Prop} (hQ : Q (.returned (.int .i64 n)) w) : Calls Tryd.prog 17 #[.int .i64 n] w Q :=
  (num10 n w).mono (by rintro e w' ⟨rfl, rfl⟩; exact hQ)
set_option maxHeartbeats 3200000 in
theorem wakes10 (w : World) (hT : Tabs w) : Calls Tryd.prog 20 #[] w fun e w' => e = .returned (.bool true) ∧ Below w.heap.size w w' := by
  have HN := Lib.hid (refNew8 3 4 w (by decide) (by decide) (by decide) (by decide))
  have hok := newS_ok (r := 3) (c := 4) (by decide) (by decide) (by decide) (by decide)
  have HM := Lib.hid (fun x y z W (h : In W (newS 3 4) x y z) (t : Tabs W) => moveD (newS 3 4) x y z 72 2 3 W h hok.holds t)
  have HMAY : Hid (mayB (newS 3 4) 72 2 3 = true) := Lib.hid (mayB_iff.2 ⟨(ok_iff _).2 hok, rfl, rfl, rfl⟩)
  have HV : Hid ((moveS (newS 3 4) 72 2 3).cur.row = 1 ∧ (moveS (newS 3 4) 72 2 3).cur.col = 2) := Lib.hid ⟨by kernel_rfl, by kernel_rfl⟩
  have HT := Lib.hid hT
  generalize moveS (newS 3 4) 72 2 3 = S1 at HM HV
  generalize mayB (newS 3 4) 72 2 3 = may at HM HMAY
  clear hok hT
  go_enter Tryd.func20, Tryd.ntmps20
  go_wp2_with fail
  refine HN.out.mono ?_; rintro e w1 ⟨x, y, z, rfl, ho, hb⟩
  have H1 := Lib.hid (And.intro ho.in_ hb)
  clear ho hb HN
  go_wp2_with fail
  refine (HM.out x y z w1 H1.out.1 (HT.out.kept H1.out.2)).mono ?_; rintro e w2 ⟨X, x1, y1, z1, code, rfl, hans⟩
  obtain rfl := hans.yes HMAY.out
  have hcode : code = 0 := by rw [hans.code, HMAY.out]; rfl
  subst hcode
  have HI2 := Lib.hid hans.own.in_
  have HB2 := Lib.hid (H1.out.2.trans (hans.bel.mono H1.out.2.size))
  clear hans H1 HM
  go_wp2_with (first
    | (refine wp_allocS (n := w2.heap.size) rfl rfl rfl ?_)
    | (refine wp_storeS (b := w2.heap.size) rfl rfl rfl rfl rfl HI2.out.one (heap_alloc_new _ _) rfl ?_; intro w3 h3))
  obtain ⟨hx3, hb3⟩ := bx_sto (e := ⟨X, x1, y1, z1⟩) HI2.out h3
  have HX3 := Lib.hid hx3
  have HB3 := Lib.hid (HB2.out.trans (hb3.mono HB2.out.size))
  clear hx3 hb3 h3
  refine num10_then ?_
  have c7 : w3.cell? ⟨w2.heap.size, 7, none⟩ = some (.int .i64 1) := by have k := HX3.out.box.cell 7; rw [sarr_7, HV.out.1] at k; exact k
  have c8 : w3.cell? ⟨w2.heap.size, 8, none⟩ = some (.int .i64 2) := by have k := HX3.out.box.cell 8; rw [sarr_8, HV.out.2] at k; exact k
  go_wp2_with fail
  go_ret
  exact ⟨rfl, HB3.out⟩
end Scr
end Go.Proofs.YtgjpojaegjdjcabDoor
end
