/- Joined texts: PrnOk, PrnWakes. -/
import Derived.Test.YtgjpojaegjdjcaaGreatDoorJ1
import Derived.Test.YtgjpojaegjdjcaaGreatDoorJ2
import Derived.Test.YtgjpojaegjdjcaaGreatDoorJ3
import Derived.Test.YtgjpojaegjdjcaaGreatDoorJ4
import Derived.Test.YtgjpojaegjdjcaaGreatDoorJ5
import Derived.Test.YtgjpojaegjdjcaaGreatDoorJ6
import Derived.Test.YtgjpojaegjdjcaaGreatDoorJ7
import Derived.Test.YtgjpojaegjdjcaaGreatDoorJ8
import Derived.Test.YtgjpojaegjdjcaaGreatDoorJ9
import Derived.Test.YtgjpojaegjdjcaaGreatDoorJ10
import Derived.Test.YtgjpojaegjdjcaaGreatDoorJ11
import Derived.Test.YtgjpojaegjdjcaaGreatDoorJ12
import Derived.Test.YtgjpojaegjdjcaaGreatDoorJ13
import Derived.Test.YtgjpojaegjdjcaaGreatDoorJ14
import Derived.Test.YtgjpojaegjdjcaaGreatDoorJ15
import Derived.Test.YtgjpojaegjdjcaaGreatDoorJ17
import Derived.Test.YtgjpojaegjdjcaaGreatDoorJ18
import Derived.Test.YtgjpojaegjdjcaaGreatDoorJ19
import Derived.Test.YtgjpojaegjdjcaaGreatDoorJ20
import Derived.Test.YtgjpojaegjdjcaaGreatDoorJ21
import Derived.Test.YtgjpojaegjdjcaaGreatDoorJ22
import Derived.Test.YtgjpojaegjdjcaaGreatDoorJ23
import Derived.Test.YtgjpojaegjdjcaaGreatDoorJ24
import Derived.Test.YtgjpojaegjdjcaaGreatDoorJ25
import Derived.Test.YtgjpojaegjdjcaaGreatDoorJ26
import Derived.Test.YtgjpojaegjdjcaaGreatDoorJ27
import Derived.Test.YtgjpojaegjdjcaaGreatDoorJ29
import Derived.Test.YtgjpojaegjdjcaaGreatDoorJ30
import Derived.Test.YtgjpojaegjdjcaaGreatDoorJ31
import Derived.Test.YtgjpojaegjdjcaaGreatDoorJ43
import Derived.Test.YtgjpojaegjdjcaaGreatDoorJ44
import Derived.Test.YtgjpojaegjdjcaaGreatDoorJ45
import Derived.Test.YtgjpojaegjdjcaaGreatDoorJ46
import Derived.Test.YtgjpojaegjdjcaaGreatDoorJ48
import Derived.Test.YtgjpojaegjdjcaaGreatDoorJ49
import Derived.Test.YtgjpojaegjdjcaaGreatDoorJ51
import Derived.Test.YtgjpojaegjdjcaaGreatDoorJ52
import Derived.Test.YtgjpojaegjdjcaaGreatDoorJ61
import Derived.Test.YtgjpojaegjdjcaaGreatDoorJ65
import Derived.Test.YtgjpojaegjdjcaaGreatDoorJ66
section
/- What is printed may be; two letters on one row wake the laws. -/
namespace Go.Proofs.YtgjpojaegjdjcaaGreatDoor
set_option maxRecDepth 100000
open Go.RowKit
namespace Scr
open Go.Proofs.YtgjpojaegjdjcaaGreatDoor.Row Wid

theorem overL_flat {C : Nat} {rs : List (List Cl)} (he : Even C rs) {i : Nat} (hi : i < rs.length) {r : List Cl} (hr : r.length = C) : overL rs.flatten (i * C) r = (rs.set i r).flatten := by
  unfold overL
  rw [hr, show i * C + C = (i + 1) * C by rw [Nat.succ_mul], take_flat he, drop_flat he, List.set_eq_take_append_cons_drop, if_pos hi, List.flatten_append, List.flatten_cons]
theorem withLine_ok {s : S} (h : Ok s) {m : List Cl} (hm : RowOk m) (hl : m.length = (seenG s).cols.toNat) : Ok (withLine s m) := by
  have f := h.facts
  unfold withLine
  refine putG_ok h ?_ f.gr f.gc
  obtain ⟨R, C, rs, e, hr, _⟩ := parts_of f.g
  obtain ⟨i, hi⟩ := Int.eq_ofNat_of_zero_le f.row0
  have hR : (seenG s).rows = (R : Int) := by rw [e]
  have hiR : i < R := by have := f.row1; have := f.gr; omega
  have hC : (seenG s).cols.toNat = C := by rw [e]; rfl
  have hla : lineAt s = i * C := by unfold lineAt; rw [hC, hi]; rfl
  rw [hC] at hl
  rw [hla, e]
  show gridB ⟨(R : Int), (C : Int), overL rs.flatten (i * C) m⟩ = true
  rw [overL_flat hr.even (by rw [hr.len]; exact hiR) hl]
  exact (gridB_iff _).2 (set_rws hr hiR hm hl).grid
theorem mid_row {l x : List Cl} {k n : Nat} (h : RowOk l) (hk : k + n ≤ l.length) (hx : Row.Good x) (hl : x.length = n) : RowOk (mid l k (k + n) x) ∧ (mid l k (k + n) x).length = l.length := by
  have hm := mid_length (show k ≤ k + n by omega) hk x
  have e : (mid l k (k + n) x).length = l.length := by omega
  exact ⟨⟨by rw [e]; exact h.1, by rw [e]; exact h.2.1, good_mid h.2.2 _ _ hx⟩, e⟩
theorem hereS_ok {s : S} (h : Ok s) {r : Int} {n : Nat} (hr : wid r = n) (hn : n = 1 ∨ n = 2) (hf : s.cur.col + n ≤ s.main.cols) : Ok (hereS s r n) := by
  have f := h.facts
  have L := h.line
  have h12 : wid r = 1 ∨ wid r = 2 := by omega
  have hcl : (cellsOf r s.cur.a).length = n := by have := cells_length (a := s.cur.a) h12; omega
  have hm := mid_row (k := s.cur.col.toNat) (n := n) L.ok (by rw [L.len]; have := L.cI; have := f.col0; omega) (good_cells h12 f.a) hcl
  have hw := withLine_ok h hm.1 (by rw [hm.2, L.len])
  obtain ⟨hc, hmo, hco⟩ := withLine_cur s (mid (lineS s) s.cur.col.toNat (s.cur.col.toNat + n) (cellsOf r s.cur.a))
  unfold hereS
  generalize withLine s (mid (lineS s) s.cur.col.toNat (s.cur.col.toNat + n) (cellsOf r s.cur.a)) = t at hw hc hmo hco
  refine ⟨hw.m, hw.o, hw.r, hw.c, ?_, hw.k2, hw.k3, hw.g, hw.b, hw.n, hw.t, ?_⟩
  · have hk := hw.k1
    unfold cursorB at hk
    unfold cursorB passed
    simp only [Bool.and_eq_true] at hk ⊢
    have hc1 := f.c1
    have h0 := f.col0
    refine ⟨hk.1, rng_iff.2 ⟨?_, ?_⟩, ?_, hk.2.2.2⟩
    · show 0 ≤ min (s.cur.col + (n : Int)) (s.main.cols - 1); omega
    · show min (s.cur.col + (n : Int)) (s.main.cols - 1) ≤ t.main.cols - 1; rw [hco]; omega
    · show (!(decide (s.cur.col + (n : Int) = s.main.cols) && hasB s.modes 1) || (min (s.cur.col + (n : Int)) (s.main.cols - 1) == t.main.cols - 1)) = true
      by_cases he : s.cur.col + (n : Int) = s.main.cols
      · have : min (s.cur.col + (n : Int)) (s.main.cols - 1) = t.main.cols - 1 := by rw [hco]; omega
        rw [this]; simp
      · rw [decide_eq_false he]; rfl
  · show lastB r = true
    unfold lastB
    rcases h12 with e | e <;> rw [e] <;> simp
theorem num9 (n : Int) (w : World) : Calls Tryz.prog 20 #[.int .i64 n] w fun e w' => e = .returned (.int .i64 n) ∧ w' = w := by
  go_enter Tryz.func20, Tryz.ntmps20
  go_wp2_with fail
  go_ret
  exact ⟨rfl, rfl⟩
theorem num9_then {w : World} {n : Int} {Q : Ending → World → Prop} (hQ : Q (.returned (.int .i64 n)) w) : Calls Tryz.prog 20 #[.int .i64 n] w Q :=
  (num9 n w).mono (by rintro e w' ⟨rfl, rfl⟩; exact hQ)
def twoS : S := hereS (hereS (newS 1 2) 97 1) 98 1
theorem two_facts : (hereS (newS 1 2) 97 1).cur.col = 1 ∧ (hereS (newS 1 2) 97 1).cur.wrap = false ∧ (hereS (newS 1 2) 97 1).main.cols = 2 ∧ hasB (hereS (newS 1 2) 97 1).modes 2 = false ∧ setOf (hereS (newS 1 2) 97 1).cur = 0 ∧
    twoS.main.cells.length = 2 ∧ (g twoS.main.cells 1).rune = 98 ∧ twoS.cur.wrap = true := by
  refine ⟨?_, ?_, ?_, ?_, ?_, ?_, ?_, ?_⟩ <;> kernel_rfl
theorem one_facts : hasB (newS 1 2).modes 2 = false ∧ setOf (newS 1 2).cur = 0 ∧ wid 97 = 1 ∧ wid 98 = 1 := by
  refine ⟨?_, ?_, ?_, ?_⟩ <;> kernel_rfl
end Scr
end Go.Proofs.YtgjpojaegjdjcaaGreatDoor
end
section
/- Two letters on one row wake the laws on printing. -/
namespace Go.Proofs.YtgjpojaegjdjcaaGreatDoor
set_option maxRecDepth 100000
open Go.RowKit
namespace Scr
open Go.Proofs.YtgjpojaegjdjcaaGreatDoor.Row Wid

set_option maxHeartbeats 3200000 in
theorem wakes9 (w : World) (hT : Tabs w) : Calls Tryz.prog 14 #[] w fun e w' => e = .returned (.bool true) ∧ Below w.heap.size w w' := by
  have HN := Lib.hid (refNew8 1 2 w (by decide) (by decide) (by decide) (by decide))
  have hok0 := newS_ok (r := 1) (c := 2) (by decide) (by decide) (by decide) (by decide)
  obtain ⟨f1, f2, f3, f4⟩ := one_facts
  obtain ⟨t1, t2, t3, t4, t5, t6, t7, t8⟩ := two_facts
  have hok1 := hereS_ok hok0 (r := 97) (n := 1) f3 (.inl rfl) (by decide)
  have HR1 := Lib.hid (fun x y z W (h : In W (newS 1 2) x y z) (t : Tabs W) => rune_here (newS 1 2) x y z 97 1 W h hok0.holds t ((ok_iff _).2 hok0) f1 (by rw [f2]; decide) f3 (.inl rfl) (by decide) rfl)
  have HR2 := Lib.hid (fun x y z W (h : In W (hereS (newS 1 2) 97 1) x y z) (t : Tabs W) => rune_here (hereS (newS 1 2) 97 1) x y z 98 1 W h hok1.holds t ((ok_iff _).2 hok1) t4 (by rw [t5]; decide) f4 (.inl rfl) (by rw [t1, t3]; decide) t2)
  have HL : Hid (twoS.main.cells.length = 2 ∧ (g twoS.main.cells 1).rune = 98 ∧ twoS.cur.wrap = true) := Lib.hid ⟨t6, t7, t8⟩
  clear f1 f2 f3 f4 t1 t2 t3 t4 t5 t6 t7 t8 hok0 hok1
  have e2 : hereS (hereS (newS 1 2) 97 1) 98 1 = twoS := rfl
  rw [e2] at HR2
  clear e2
  generalize twoS = S2 at HR2 HL
  generalize hereS (newS 1 2) 97 1 = S1 at HR1 HR2
  have HT := Lib.hid hT
  clear hT
  go_enter Tryz.func14, Tryz.ntmps14
  go_wp2_with fail
  refine HN.out.mono ?_; rintro e w1 ⟨x, y, z, rfl, ho, hb⟩
  generalize newS 1 2 = S0 at HR1 ho ⊢
  have H1 := Lib.hid (And.intro ho.in_ hb)
  clear ho hb HN
  go_wp2_with (first
    | (refine wp_allocS (n := w1.heap.size) rfl rfl rfl ?_)
    | (refine wp_storeS (b := w1.heap.size) rfl rfl rfl rfl rfl H1.out.1.one (heap_alloc_new _ _) rfl ?_; intro w2 h2; obtain ⟨hx2, hb2⟩ := bx_sto (e := ⟨S0, x, y, z⟩) H1.out.1 h2; have H2 := Lib.hid (And.intro hx2 (H1.out.2.trans (hb2.mono H1.out.2.size))); clear hx2 hb2 h2)
    | (refine wp_loadS (b := w1.heap.size) (s := S0) (x0 := x) (y0 := y) (z0 := z) rfl rfl rfl H2.out.1.box ?_))
  have HLW : Hid (w.heap.size ≤ w1.heap.size) := Lib.hid H1.out.2.size
  clear H1
  generalize w1.heap.size = b at H2 HLW ⊢
  refine (HR1.out x y z w2 H2.out.1.i (HT.out.kept H2.out.2)).mono ?_; rintro e w3 ⟨x1, y1, z1, rfl, ho, hb⟩
  have H3 : Hid (SBox w3 b S0 x y z ∧ Own w3 w2.heap.size S1 x1 y1 z1 ∧ Below w.heap.size w w3) := Lib.hid ⟨H2.out.1.box.kept hb, ho, H2.out.2.trans (hb.mono H2.out.2.size)⟩
  clear ho hb H2 HR1
  go_wp2_with (first
    | (refine wp_storeS_then (b := b) (A := sarr S1 x1 y1 z1) (T := fun W => SBox W b S1 x1 y1 z1 ∧ Own W 0 S1 x1 y1 z1 ∧ Below w.heap.size w W) rfl rfl rfl rfl rfl H3.out.2.1.in_.one H3.out.1 rfl (fun W k => ⟨k.box, k.own2 H3.out.1 (H3.out.2.1.low (Nat.zero_le _)), k.below _ _ HLW.out H3.out.2.2⟩) ?_; intro w4 H4)
    | (refine wp_loadS (b := b) (s := S1) (x0 := x1) (y0 := y1) (z0 := z1) rfl rfl rfl H4.out.1 ?_))
  clear H3
  refine (HR2.out x1 y1 z1 w4 H4.out.2.1.in_ (HT.out.kept H4.out.2.2)).mono ?_; rintro e w5 ⟨x2, y2, z2, rfl, ho, hb⟩
  have H5 : Hid (SBox w5 b S1 x1 y1 z1 ∧ Own w5 w4.heap.size S2 x2 y2 z2 ∧ Below w.heap.size w w5) := Lib.hid ⟨H4.out.1.kept hb, ho, H4.out.2.2.trans (hb.mono H4.out.2.2.size)⟩
  clear ho hb H4 HR2
  rcases H5.out.2.1.m.shape with ⟨_, e0⟩ | ⟨g2, cap, e0, _, _⟩
  · have := HL.out.1; rw [e0] at this; simp at this
  rw [HL.out.1] at e0
  subst e0
  go_wp2_with (refine wp_storeS_then (b := b) (A := sarr S2 (.slice (some ⟨g2, 0, none⟩) 2 cap) y2 z2) (T := fun W => SBox W b S2 (.slice (some ⟨g2, 0, none⟩) 2 cap) y2 z2 ∧ Own W 0 S2 (.slice (some ⟨g2, 0, none⟩) 2 cap) y2 z2 ∧ Below w.heap.size w W) rfl rfl rfl rfl rfl H5.out.2.1.in_.one H5.out.1 rfl (fun W k => ⟨k.box, k.own2 H5.out.1 (H5.out.2.1.low (Nat.zero_le _)), k.below _ _ HLW.out H5.out.2.2⟩) ?_; intro w6 H6)
  refine num9_then ?_
  go_wp2_with fail
  refine num9_then ?_
  have c2 : w6.cell? ⟨b, 2, none⟩ = some (.slice (some ⟨g2, 0, none⟩) 2 cap) := H6.out.1.cell 2
  have c9 : w6.cell? ⟨b, 9, none⟩ = some (.bool true) := by have k := H6.out.1.cell 9; rw [sarr_9, HL.out.2.2] at k; exact k
  have c6 : w6.cell? ⟨g2, 6, none⟩ = some (.int .i64 98) := by
    have k := H6.out.2.1.m.cell (k := 1) (j := 0) (by rw [HL.out.1]; decide) (by decide)
    rw [← HL.out.2.1]
    exact k
  have HB6 := Lib.hid H6.out.2.2
  clear H5 H6
  go_wp2_with fail
  go_ret
  exact ⟨rfl, HB6.out⟩
end Scr
end Go.Proofs.YtgjpojaegjdjcaaGreatDoor
end
