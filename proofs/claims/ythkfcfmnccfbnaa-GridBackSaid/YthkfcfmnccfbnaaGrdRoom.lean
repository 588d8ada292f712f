/- The developers' room: how many rows move. -/
import Derived.Test.YthkfcfmnccfbnaaGrdCheck
namespace Go.Proofs.Ythkfcfmnccfbnaa
set_option maxRecDepth 100000
open Go.RowKit
namespace Row

abbrev abox (a : Look) : Obj := .cells #[.int .i64 a.fg, .int .i64 a.bg, .int .i64 a.flags] 33 (0, 0)
/-- A grid's and a look's boxes, laid by the call and kept. -/
structure Boxes (w w2 : World) (r c : Int) (x : Value) (a : Look) : Prop where
  g : w2.heap[w.heap.size]? = some (gbox r c x)
  a : w2.heap[w.heap.size + 1]? = some (abox a)
  below : Below w.heap.size w w2
theorem Boxes.new (w : World) (r c : Int) (x : Value) (a : Look) : Boxes w ((w.alloc (gbox r c x)).alloc (abox a)) r c x a :=
  ⟨old_alloc (new_alloc _ _ _ rfl) _, new_alloc _ _ _ (by simp), ((Below.refl _ _).alloc (Nat.le_refl _) _).alloc (by simp) _⟩
theorem Boxes.kept {w w2 w3 : World} {r c : Int} {x : Value} {a : Look} (h : Boxes w w2 r c x a) (hb : Below w2.heap.size w2 w3) : Boxes w w3 r c x a :=
  ⟨Blk.kept h.g hb, Blk.kept h.a hb, h.below.trans (hb.mono h.below.size)⟩
theorem Boxes.alloc {w w2 : World} {r c : Int} {x : Value} {a : Look} (h : Boxes w w2 r c x a) (o : Obj) : Boxes w (w2.alloc o) r c x a := h.kept ((Below.refl _ _).alloc (Nat.le_refl _) _)
theorem Boxes.cells {w w2 : World} {r c : Int} {x : Value} {a : Look} (h : Boxes w w2 r c x a) :
    w2.cell? ⟨w.heap.size, 0, none⟩ = some (.int .i64 r) ∧ w2.cell? ⟨w.heap.size, 1, none⟩ = some (.int .i64 c) ∧ w2.cell? ⟨w.heap.size, 2, none⟩ = some x ∧
    w2.cell? ⟨w.heap.size + 1, 0, none⟩ = some (.int .i64 a.fg) ∧ w2.cell? ⟨w.heap.size + 1, 1, none⟩ = some (.int .i64 a.bg) ∧ w2.cell? ⟨w.heap.size + 1, 2, none⟩ = some (.int .i64 a.flags) :=
  ⟨Blk.cell h.g 0, Blk.cell h.g 1, Blk.cell h.g 2, Blk.cell h.a 0, Blk.cell h.a 1, Blk.cell h.a 2⟩
set_option maxHeartbeats 1600000 in
theorem room_unfit (r c : Int) (l : List Cl) (a : Look) (top bot n : Int) (x : Value) (w : World) (hx : Rm w x l) (hs : Held l) (hg : ¬ GridOk ⟨r, c, l⟩) :
    Calls Try.prog 15 #[.agg #[.int .i64 r, .int .i64 c, x], .int .i64 top, .int .i64 bot, .int .i64 n, .agg #[.int .i64 a.fg, .int .i64 a.bg, .int .i64 a.flags]] w fun e w' => e = .returned (.tuple #[.int .i64 0, .int .i64 1]) ∧ Below w.heap.size w w' := by
  have HBX := Lib.hid (Boxes.new w r c x a)
  have HCK := Lib.hid (gridCheck_any ⟨r, c, l⟩ false x _ (hx.kept (((Below.refl _ w).alloc (Nat.le_refl _) (gbox r c x)).alloc (by simp) (abox a))) hs ⟨(fun h => by cases h), fun h => absurd h hg⟩)
  obtain ⟨_, A, cp, rfl, _⟩ := hx
  clear hs hg
  go_enter Try.func15, Try.ntmps15
  go_wp2_with fail
  refine HCK.out.mono ?_; rintro e w2 ⟨rfl, hb2⟩
  have HX2 := Lib.hid (HBX.out.kept hb2)
  clear hb2 HCK HBX
  obtain ⟨c0, c1, c2, k0, k1, k2⟩ := HX2.out.cells
  go_wp2_with fail
  go_ret2
  exact ⟨rfl, HX2.out.below⟩
set_option maxHeartbeats 1600000 in
theorem room_unseen (r c : Int) (l : List Cl) (a : Look) (top bot n : Int) (x : Value) (w : World) (hx : Rm w x l) (hs : Held l) (hg : GridOk ⟨r, c, l⟩) (ha : attrOk a = false) :
    Calls Try.prog 15 #[.agg #[.int .i64 r, .int .i64 c, x], .int .i64 top, .int .i64 bot, .int .i64 n, .agg #[.int .i64 a.fg, .int .i64 a.bg, .int .i64 a.flags]] w fun e w' => e = .returned (.tuple #[.int .i64 0, .int .i64 1]) ∧ Below w.heap.size w w' := by
  have HBX := Lib.hid (Boxes.new w r c x a)
  have HCK := Lib.hid (gridCheck_any ⟨r, c, l⟩ true x _ (hx.kept (((Below.refl _ w).alloc (Nat.le_refl _) (gbox r c x)).alloc (by simp) (abox a))) hs ⟨fun _ => hg, fun _ => rfl⟩)
  have HPT := Lib.hid (fun w' => paints_at a false ha w')
  obtain ⟨_, A, cp, rfl, _⟩ := hx
  clear hs hg ha
  go_enter Try.func15, Try.ntmps15
  go_wp2_with fail
  refine HCK.out.mono ?_; rintro e w2 ⟨rfl, hb2⟩
  have HX2 := Lib.hid (HBX.out.kept hb2)
  clear hb2 HCK HBX
  obtain ⟨c0, c1, c2, k0, k1, k2⟩ := HX2.out.cells
  go_wp2_with fail
  refine (HPT.out _).mono ?_; rintro e w3 ⟨rfl, hb3⟩
  have HX3 := Lib.hid (HX2.out.kept hb3)
  clear hb3 c0 c1 c2 k0 k1 k2
  obtain ⟨c0, c1, c2, k0, k1, k2⟩ := HX3.out.cells
  go_wp2_with fail
  go_ret2
  exact ⟨rfl, HX3.out.below⟩
set_option maxHeartbeats 1600000 in
theorem room_out (r c : Int) (l : List Cl) (a : Look) (top bot n : Int) (x : Value) (w : World) (hx : Rm w x l) (hs : Held l) (hg : GridOk ⟨r, c, l⟩) (ha : attrOk a = true) (ht : ¬ (0 ≤ top ∧ top ≤ bot)) :
    Calls Try.prog 15 #[.agg #[.int .i64 r, .int .i64 c, x], .int .i64 top, .int .i64 bot, .int .i64 n, .agg #[.int .i64 a.fg, .int .i64 a.bg, .int .i64 a.flags]] w fun e w' => e = .returned (.tuple #[.int .i64 0, .int .i64 1]) ∧ Below w.heap.size w w' := by
  have HBX := Lib.hid (Boxes.new w r c x a)
  have HCK := Lib.hid (gridCheck_any ⟨r, c, l⟩ true x _ (hx.kept (((Below.refl _ w).alloc (Nat.le_refl _) (gbox r c x)).alloc (by simp) (abox a))) hs ⟨fun _ => hg, fun _ => rfl⟩)
  have HPT := Lib.hid (fun w' => paints_at a true ha w')
  have HR1 : Hid (rng top 0 bot = false) := Lib.hid (rngN ht)
  obtain ⟨_, A, cp, rfl, _⟩ := hx
  clear hs hg ha
  go_enter Try.func15, Try.ntmps15
  go_wp2_with fail
  refine HCK.out.mono ?_; rintro e w2 ⟨rfl, hb2⟩
  have HX2 := Lib.hid (HBX.out.kept hb2)
  clear hb2 HCK HBX
  obtain ⟨c0, c1, c2, k0, k1, k2⟩ := HX2.out.cells
  go_wp2_with fail
  refine (HPT.out _).mono ?_; rintro e w3 ⟨rfl, hb3⟩
  have HX3 := Lib.hid (HX2.out.kept hb3)
  clear hb3 c0 c1 c2 k0 k1 k2
  obtain ⟨c0, c1, c2, k0, k1, k2⟩ := HX3.out.cells
  go_wp2_with fail
  refine (gridIn_at top _ _ _ HR1.out _).mono ?_; rintro e w' ⟨rfl, rfl⟩
  go_wp2_with fail
  go_ret2
  exact ⟨rfl, HX3.out.below⟩
set_option maxHeartbeats 1600000 in
theorem room_low (r c : Int) (l : List Cl) (a : Look) (top bot n : Int) (x : Value) (w : World) (hx : Rm w x l) (hs : Held l) (hg : GridOk ⟨r, c, l⟩) (ha : attrOk a = true) (ht : 0 ≤ top ∧ top ≤ bot) (hb : r ≤ bot) :
    Calls Try.prog 15 #[.agg #[.int .i64 r, .int .i64 c, x], .int .i64 top, .int .i64 bot, .int .i64 n, .agg #[.int .i64 a.fg, .int .i64 a.bg, .int .i64 a.flags]] w fun e w' => e = .returned (.tuple #[.int .i64 0, .int .i64 1]) ∧ Below w.heap.size w w' := by
  have HBX := Lib.hid (Boxes.new w r c x a)
  have HCK := Lib.hid (gridCheck_any ⟨r, c, l⟩ true x _ (hx.kept (((Below.refl _ w).alloc (Nat.le_refl _) (gbox r c x)).alloc (by simp) (abox a))) hs ⟨fun _ => hg, fun _ => rfl⟩)
  have HPT := Lib.hid (fun w' => paints_at a true ha w')
  have HR1 : Hid (rng top 0 bot = true) := Lib.hid (rngY ht)
  have hd : decide (r ≤ bot) = true := decide_eq_true hb
  obtain ⟨_, A, cp, rfl, _⟩ := hx
  clear hs hg ha
  go_enter Try.func15, Try.ntmps15
  go_wp2_with fail
  refine HCK.out.mono ?_; rintro e w2 ⟨rfl, hb2⟩
  have HX2 := Lib.hid (HBX.out.kept hb2)
  clear hb2 HCK HBX
  obtain ⟨c0, c1, c2, k0, k1, k2⟩ := HX2.out.cells
  go_wp2_with fail
  refine (HPT.out _).mono ?_; rintro e w3 ⟨rfl, hb3⟩
  have HX3 := Lib.hid (HX2.out.kept hb3)
  clear hb3 c0 c1 c2 k0 k1 k2
  obtain ⟨c0, c1, c2, k0, k1, k2⟩ := HX3.out.cells
  go_wp2_with fail
  refine (gridIn_at top _ _ _ HR1.out _).mono ?_; rintro e w' ⟨rfl, rfl⟩
  go_wp2_with fail
  go_ret2
  exact ⟨rfl, HX3.out.below⟩
set_option maxHeartbeats 1600000 in
theorem room_many (r c : Int) (l : List Cl) (a : Look) (top bot n : Int) (x : Value) (w : World) (hx : Rm w x l) (hs : Held l) (hg : GridOk ⟨r, c, l⟩) (ha : attrOk a = true) (ht : 0 ≤ top ∧ top ≤ bot) (hb : bot < r) (hn : ¬ (0 ≤ n ∧ n ≤ 9999)) :
    Calls Try.prog 15 #[.agg #[.int .i64 r, .int .i64 c, x], .int .i64 top, .int .i64 bot, .int .i64 n, .agg #[.int .i64 a.fg, .int .i64 a.bg, .int .i64 a.flags]] w fun e w' => e = .returned (.tuple #[.int .i64 0, .int .i64 1]) ∧ Below w.heap.size w w' := by
  have HBX := Lib.hid (Boxes.new w r c x a)
  have HCK := Lib.hid (gridCheck_any ⟨r, c, l⟩ true x _ (hx.kept (((Below.refl _ w).alloc (Nat.le_refl _) (gbox r c x)).alloc (by simp) (abox a))) hs ⟨fun _ => hg, fun _ => rfl⟩)
  have HPT := Lib.hid (fun w' => paints_at a true ha w')
  have HR1 : Hid (rng top 0 bot = true) := Lib.hid (rngY ht)
  have hd : decide (r ≤ bot) = false := decide_eq_false (by omega)
  have HR2 : Hid (rng n 0 9999 = false) := Lib.hid (rngN hn)
  obtain ⟨_, A, cp, rfl, _⟩ := hx
  clear hs hg ha
  go_enter Try.func15, Try.ntmps15
  go_wp2_with fail
  refine HCK.out.mono ?_; rintro e w2 ⟨rfl, hb2⟩
  have HX2 := Lib.hid (HBX.out.kept hb2)
  clear hb2 HCK HBX
  obtain ⟨c0, c1, c2, k0, k1, k2⟩ := HX2.out.cells
  go_wp2_with fail
  refine (HPT.out _).mono ?_; rintro e w3 ⟨rfl, hb3⟩
  have HX3 := Lib.hid (HX2.out.kept hb3)
  clear hb3 c0 c1 c2 k0 k1 k2
  obtain ⟨c0, c1, c2, k0, k1, k2⟩ := HX3.out.cells
  go_wp2_with fail
  refine (gridIn_at top _ _ _ HR1.out _).mono ?_; rintro e w' ⟨rfl, rfl⟩
  go_wp2_with fail
  refine (gridIn_at n _ _ _ HR2.out _).mono ?_; rintro e w' ⟨rfl, rfl⟩
  go_wp2_with fail
  go_ret2
  exact ⟨rfl, HX3.out.below⟩
set_option maxHeartbeats 1600000 in
theorem room_fits (r c : Int) (l : List Cl) (a : Look) (top bot n : Int) (x : Value) (w : World) (hx : Rm w x l) (hs : Held l) (hg : GridOk ⟨r, c, l⟩) (ha : attrOk a = true) (ht : 0 ≤ top ∧ top ≤ bot) (hb : bot < r) (hn : 0 ≤ n ∧ n ≤ 9999) :
    Calls Try.prog 15 #[.agg #[.int .i64 r, .int .i64 c, x], .int .i64 top, .int .i64 bot, .int .i64 n, .agg #[.int .i64 a.fg, .int .i64 a.bg, .int .i64 a.flags]] w fun e w' => e = .returned (.tuple #[.int .i64 (min n (bot + 1 - top)), .int .i64 0]) ∧ Below w.heap.size w w' := by
  have HBX := Lib.hid (Boxes.new w r c x a)
  have HCK := Lib.hid (gridCheck_any ⟨r, c, l⟩ true x _ (hx.kept (((Below.refl _ w).alloc (Nat.le_refl _) (gbox r c x)).alloc (by simp) (abox a))) hs ⟨fun _ => hg, fun _ => rfl⟩)
  have HPT := Lib.hid (fun w' => paints_at a true ha w')
  have HR1 : Hid (rng top 0 bot = true) := Lib.hid (rngY ht)
  have hd : decide (r ≤ bot) = false := decide_eq_false (by omega)
  have HR2 : Hid (rng n 0 9999 = true) := Lib.hid (rngY hn)
  have hr40 := hg.1.2
  simp only at hr40
  have w1 : IntKind.i64.wrap (bot + 1) = bot + 1 := by rw [IntKind.wrap_i64]; omega
  have w2 : IntKind.i64.wrap (bot + 1 - top) = bot + 1 - top := by rw [IntKind.wrap_i64]; omega
  obtain ⟨_, A, cp, rfl, _⟩ := hx
  clear hs hg ha
  go_enter Try.func15, Try.ntmps15
  go_wp2_with fail
  refine HCK.out.mono ?_; rintro e w2 ⟨rfl, hb2⟩
  have HX2 := Lib.hid (HBX.out.kept hb2)
  clear hb2 HCK HBX
  obtain ⟨c0, c1, c2, k0, k1, k2⟩ := HX2.out.cells
  go_wp2_with fail
  refine (HPT.out _).mono ?_; rintro e w3 ⟨rfl, hb3⟩
  have HX3 := Lib.hid (HX2.out.kept hb3)
  clear hb3 c0 c1 c2 k0 k1 k2
  obtain ⟨c0, c1, c2, k0, k1, k2⟩ := HX3.out.cells
  go_wp2_with fail
  refine (gridIn_at top _ _ _ HR1.out _).mono ?_; rintro e w' ⟨rfl, rfl⟩
  go_wp2_with fail
  refine (gridIn_at n _ _ _ HR2.out _).mono ?_; rintro e w' ⟨rfl, rfl⟩
  go_wp2_with fail
  go_ret2
  exact ⟨rfl, HX3.out.below⟩
end Row
end Go.Proofs.Ythkfcfmnccfbnaa
