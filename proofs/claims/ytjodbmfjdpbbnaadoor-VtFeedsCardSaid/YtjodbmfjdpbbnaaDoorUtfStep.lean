/- Contracts of package utf: closed, step. -/
import Derived.Test.YtjodbmfjdpbbnaaDoorUtfPart
namespace Go.Proofs.YtjodbmfjdpbbnaaDoor
open Go.RowKit
namespace Utf

theorem Puts.trans {w w1 w2 : World} {base : Nat} {v u1 u2 : Value} {xs ys : List Int} (h1 : Puts w base v xs w1 u1) (h2 : Puts w1 base u1 ys w2 u2) : Puts w base v ys w2 u2 := by
  obtain ⟨_, g1, a1⟩ := h1
  obtain ⟨o2, g2, a2⟩ := h2
  have hs := g1.size
  refine ⟨o2, ⟨g2.os.trans g1.os, g2.tape.trans g1.tape, g2.output.trans g1.output, Nat.le_trans g1.size g2.size, fun k hk hne => ?_⟩, ?_⟩
  · refine (g2.block k (by omega) ?_).trans (g1.block k hk hne)
    rcases a1 with e | ⟨g, e, hg⟩
    · rw [e]; exact hne
    · rw [e]; intro h; injection h with h; omega
  · rcases a2 with e | ⟨g, e, hg⟩
    · rw [e]
      rcases a1 with e | ⟨g, e, hg⟩
      · exact .inl e
      · exact .inr ⟨g, e, hg⟩
    · exact .inr ⟨g, e, by omega⟩
theorem grown_below {w w' : World} (h : Below w.heap.size w w') (row : Option Nat) : w.grownBy w' row := ⟨h.os, h.tape, h.output, h.size, fun k hk _ => h.block k hk⟩
theorem Puts.same {w w' : World} {base : Nat} {v : Value} {xs : List Int} (ho : w.ownsRow base 3 1 v xs.length (ints xs)) (hb : Below w.heap.size w w') : Puts w base v xs w' v :=
  ⟨own_kept ho hb, grown_below hb _, .inl rfl⟩
theorem Puts.one {w w' : World} {base : Nat} {v u : Value} {xs : List Int} {n : Int} (ho : w'.ownsRow base 3 1 u (xs.length + 1) (ints (xs ++ [n]))) (hg : w.grownBy w' v.ownBlock) (ha : u.ownBlock = v.ownBlock ∨ ∃ g, u.ownBlock = some g ∧ w.heap.size ≤ g) :
    Puts w base v (xs ++ [n]) w' u := ⟨by rw [List.length_append]; exact ho, hg, ha⟩
/-- An append behind new blocks. -/
theorem Puts.app {w w1 w' : World} {base : Nat} {v u : Value} {xs : List Int} {n : Int} (hb : Below w.heap.size w w1) (ho : w'.ownsRow base 3 1 u (xs.length + 1) (ints (xs ++ [n]))) (hg : w1.grownBy w' v.ownBlock) (ha : u.ownBlock = v.ownBlock ∨ u.ownBlock = some w1.heap.size) :
    Puts w base v (xs ++ [n]) w' u :=
  Puts.one ho ⟨hg.os.trans hb.os, hg.tape.trans hb.tape, hg.output.trans hb.output, Nat.le_trans hb.size hg.size, fun k hk hne => (hg.block k (Nat.lt_of_lt_of_le hk hb.size) hne).trans (hb.block k hk)⟩
    (ha.imp id fun e => ⟨_, e, hb.size⟩)

theorem Tabs.low {w w' : World} {B : Nat} (h : Tabs w) (hb : Below B w w') (hB : 2 ≤ B) : Tabs w' :=
  ⟨Nat.le_trans h.1 hb.size, fun i hi => by rw [hb.cell (p := ⟨0, i, none⟩) (show 0 < B by omega)]; exact h.2.1 i hi,
    fun i hi => ⟨by rw [hb.cell (p := ⟨1, i * 2, none⟩) (show 1 < B by omega)]; exact (h.2.2 i hi).1,
      by rw [hb.cell (p := ⟨1, i * 2 + 1, none⟩) (show 1 < B by omega)]; exact (h.2.2 i hi).2⟩⟩
theorem Puts.below_ {w w' : World} {base : Nat} {v u : Value} {xs zs : List Int} (h : Puts w base v xs w' u) (ho : w.ownsRow base 3 1 v zs.length (ints zs)) (hB : base ≤ w.heap.size) : Below base w w' :=
  (Below.refl _ _).grown h.2.1 hB fun k hk => (ho.lt k hk).1

theorem brk_len (l : List UInt8) : (brk l).length ≤ 1 := by unfold brk; split <;> simp
theorem start_stray {b : UInt8} (h : isPart [b] = false) (hw : wholeOf [b] = none) : start b = ([65533], []) := by
  have h0 : ¬ b.toNat < 128 := by
    intro h0
    have : wholeOf [b] = some b.toNat := (rune_iff _ _).1 ⟨h0, rfl⟩
    rw [this] at hw; cases hw
  have h1 : ¬ 0 < more b.toNat := by
    intro h1
    have : isPart [b] = true := by simpa [isPart] using h1
    rw [this] at h; cases h
  unfold start; rw [if_neg h0, if_neg h1]
def closedOf (l : List UInt8) : Int := match wholeOf l with | some r => r | none => 65533
set_option maxHeartbeats 400000 in
theorem closed_any (l : List UInt8) (hr : ∀ r, wholeOf l = some r → r ≤ 1114111) (w : World) : Calls Tryd.prog 74 #[shut l] w fun e w' => e = .returned (.int .i64 (closedOf l)) ∧ Below w.heap.size w w' := by
  cases hw : wholeOf l with
  | none =>
    have HC : Hid (closedOf l = 65533) := Lib.hid (by unfold closedOf; rw [hw])
    rw [shut_none hw]
    clear hr hw
    go_enter Tryd.func74, Tryd.ntmps74
    go_wp2_with fail
    go_ret
    exact ⟨by rw [HC.out]; rfl, by repeat (first | exact Below.refl _ _ | refine Below.alloc ?_ (Nat.le_refl _) _ | refine Below.alloc ?_ (by simp) _)⟩
  | some r =>
    have h1 := hr r hw
    have HC : Hid (closedOf l = r) := Lib.hid (by unfold closedOf; rw [hw])
    rw [shut_some hw]
    clear hr hw
    go_enter Tryd.func74, Tryd.ntmps74
    go_wp2_with fail
    go_ret
    exact ⟨by rw [HC.out]; rfl, by repeat (first | exact Below.refl _ _ | refine Below.alloc ?_ (Nat.le_refl _) _ | refine Below.alloc ?_ (by simp) _)⟩

theorem whole_le {l : List UInt8} {r : Nat} (h : wholeOf l = some r) : r ≤ 1114111 := by
  have hr := (rune_iff _ _).2 h
  match l, hr with
  | [b], ⟨h0, e⟩ => omega
  | [f, g], ⟨hm, h1, e⟩ =>
    have e' : r = f.toNat % 32 * 64 + g.toNat % 64 := e
    omega
  | [f, g, k], ⟨hm, h1, h2, e⟩ =>
    have e' : r = (f.toNat % 16 * 64 + g.toNat % 64) * 64 + k.toNat % 64 := e
    omega
  | [f, g, k, j], ⟨hm, h1, h2, h3, e⟩ =>
    have a := more_is (n := 2) hm
    have b := follows_1_of h1
    have c := follows_pos h2
    have d := follows_pos h3
    have e' : r = ((f.toNat % 8 * 64 + g.toNat % 64) * 64 + k.toNat % 64) * 64 + j.toNat % 64 := e
    omega
theorem read_at (s : ByteArray) (l : List UInt8) (hl : s.data.toList = l) (v : Value) (hv : pieceOf l = v) (w : World) (hs : s.size ≤ 1000000) (ht : Tabs w) :
    Calls Tryd.prog 48 #[.string s] w fun e w' => e = .returned v ∧ Below w.heap.size w w' := by
  subst hl; subst hv; exact read_any s w hs ht
/-- What a step tells. -/
def Steps (w : World) (base : Nat) (v : Value) (xs : List Int) (x : List Int × List UInt8) (e : Ending) (w' : World) : Prop :=
  ∃ u, e = .returned (.tuple #[u, .string ⟨x.2.toArray⟩]) ∧ Puts w base v (xs ++ x.1) w' u
theorem Steps.mk_ {w w' : World} {base : Nat} {v u : Value} {xs ys : List Int} {x : List Int × List UInt8} {q : List UInt8} (hx : x = (ys, q)) (h : Puts w base v (xs ++ ys) w' u) : Steps w base v xs x (.returned (.tuple #[u, .string ⟨q.toArray⟩])) w' := by
  subst hx; exact ⟨u, rfl, h⟩

theorem closed_at (l : List UInt8) (x : Value) (hx : shut l = x) (n : Int) (hn : closedOf l = n) (w : World) : Calls Tryd.prog 74 #[x] w fun e w' => e = .returned (.int .i64 n) ∧ Below w.heap.size w w' := by
  subst hx; subst hn; exact closed_any l (fun r h => whole_le h) w
theorem shut_piece {l : List UInt8} (h : isPart l = false) : pieceOf l = shut l := by unfold pieceOf; rw [h, if_neg (by decide)]; rfl
theorem closed_some {l : List UInt8} {r : Nat} (h : wholeOf l = some r) : closedOf l = r := by unfold closedOf; rw [h]
theorem closed_none {l : List UInt8} (h : wholeOf l = none) : closedOf l = 65533 := by unfold closedOf; rw [h]

set_option maxRecDepth 100000 in
set_option maxHeartbeats 1600000 in
theorem step_open (v : Value) (xs : List Int) (base : Nat) (s : ByteArray) (l : List UInt8) (hl : s.data.toList = l) (b : UInt8) (w : World) (hbase : 2 ≤ base ∧ base ≤ w.heap.size) (ho : w.ownsRow base 3 1 v xs.length (ints xs)) (hx : xs.length ≤ 100000000) (ht : Tabs w) (hs : l.length ≤ 3)
    (hp : isPart (l ++ [b]) = true) (hn : next l b = ([], l ++ [b])) : Calls Tryd.prog 71 #[v, .string s, .int .u8 b.toNat] w (Steps w base v xs (next l b)) := by
  have hb := byte_lt b
  have hsz : s.size ≤ 3 := by
    have : s.size = l.length := by rw [← hl]; rfl
    omega
  have hcat : ¬ 9223372036854775807 < s.size + 1 := by omega
  have HS : Hid ((s ++ ⟨#[b]⟩ : ByteArray).data.toList = l ++ [b]) := Lib.hid (by rw [← hl]; simp)
  have HL := Lib.hid hl
  have HO := Lib.hid ho
  have HT := Lib.hid ht
  have HX := Lib.hid hx
  have HB := Lib.hid hbase
  have HV := Lib.hid (piece_open hp)
  have HN := Lib.hid hn
  have hcv := fun (W : World) (hc : W.cell? ⟨w.heap.size, 0, none⟩ = some (.int .u8 b.toNat)) => run_convert_byte1 (P := Tryd.prog) W 46 9 5 ⟨w.heap.size, 0, none⟩ 1 b Tryd.underlying46 Tryd.underlying5 Tryd.underlying9 hc
  clear ho ht hl hs hx hbase hp hn
  go_enter Tryd.func71, Tryd.ntmps71
  go_wp2_with fail
  refine (read_at _ _ HS.out _ HV.out _ (by rw [ByteArray.size_append]; show s.size + 1 ≤ _; omega) (HT.out.kept ((Below.refl _ _).alloc (Nat.le_refl _) _))).mono ?_
  rintro e w1 ⟨rfl, hb1⟩
  have hb1 : Below w.heap.size w w1 := ((Below.refl w.heap.size w).alloc (Nat.le_refl _) _).trans (hb1.mono (by simp))
  have z1 := hb1.size
  go_wp2_with fail
  go_ret2
  exact Steps.mk_ HN.out (by rw [List.append_nil]; exact Puts.same HO.out (hb1.alloc z1 _))

set_option maxRecDepth 100000 in
set_option maxHeartbeats 1600000 in
theorem step_whole (v : Value) (xs : List Int) (base : Nat) (s : ByteArray) (l : List UInt8) (hl : s.data.toList = l) (b : UInt8) (w : World) (hbase : 2 ≤ base ∧ base ≤ w.heap.size) (ho : w.ownsRow base 3 1 v xs.length (ints xs)) (hx : xs.length ≤ 100000000) (ht : Tabs w) (hs : l.length ≤ 3)
    (r : Nat) (hp : isPart (l ++ [b]) = false) (hw : wholeOf (l ++ [b]) = some r) (hn : next l b = ([(r : Int)], [])) : Calls Tryd.prog 71 #[v, .string s, .int .u8 b.toNat] w (Steps w base v xs (next l b)) := by
  have hb := byte_lt b
  have hsz : s.size ≤ 3 := by
    have : s.size = l.length := by rw [← hl]; rfl
    omega
  have hcat : ¬ 9223372036854775807 < s.size + 1 := by omega
  have HS : Hid ((s ++ ⟨#[b]⟩ : ByteArray).data.toList = l ++ [b]) := Lib.hid (by rw [← hl]; simp)
  have HL := Lib.hid hl
  have HO := Lib.hid ho
  have HT := Lib.hid ht
  have HX := Lib.hid hx
  have HB := Lib.hid hbase
  have HV := Lib.hid (piece_whole hp hw)
  have HSH := Lib.hid (shut_some hw)
  have HC := Lib.hid (closed_some hw)
  have HN := Lib.hid hn
  have hcv := fun (W : World) (hc : W.cell? ⟨w.heap.size, 0, none⟩ = some (.int .u8 b.toNat)) => run_convert_byte1 (P := Tryd.prog) W 46 9 5 ⟨w.heap.size, 0, none⟩ 1 b Tryd.underlying46 Tryd.underlying5 Tryd.underlying9 hc
  clear ho ht hl hs hx hbase hp hw hn
  go_enter Tryd.func71, Tryd.ntmps71
  go_wp2_with fail
  refine (read_at _ _ HS.out _ HV.out _ (by rw [ByteArray.size_append]; show s.size + 1 ≤ _; omega) (HT.out.kept ((Below.refl _ _).alloc (Nat.le_refl _) _))).mono ?_
  rintro e w1 ⟨rfl, hb1⟩
  have hb1 : Below w.heap.size w w1 := ((Below.refl w.heap.size w).alloc (Nat.le_refl _) _).trans (hb1.mono (by simp))
  have z1 := hb1.size
  go_wp2_with fail
  refine (closed_at _ _ HSH.out _ HC.out _).mono ?_
  rintro e w2 ⟨rfl, hb2⟩
  have hb2 : Below w.heap.size w w2 := (hb1.alloc z1 _).trans (hb2.mono (by simp; omega))
  have z2 := hb2.size
  go_wp2_with (at_builtin; refine wp_append_ints rfl rfl base v _ xs rfl ((own_kept HO.out hb2).alloc _) _ 1 [(r : Int)] rfl (Src.one w2 _ _ _) (by have := HX.out; omega) (by simp; have := HB.out.2; omega) ?_; intro v1 w3 ho3 hg3 hat3)
  go_ret2
  exact Steps.mk_ HN.out (Puts.app (hb2.alloc z2 _) ho3 hg3 hat3)

set_option maxRecDepth 100000 in
set_option maxHeartbeats 1600000 in
theorem step_stray_open (v : Value) (xs : List Int) (base : Nat) (s : ByteArray) (l : List UInt8) (hl : s.data.toList = l) (b : UInt8) (w : World) (hbase : 2 ≤ base ∧ base ≤ w.heap.size) (ho : w.ownsRow base 3 1 v xs.length (ints xs)) (hx : xs.length ≤ 100000000) (ht : Tabs w) (hs : l.length ≤ 3)
    (hp : isPart (l ++ [b]) = false) (hw : wholeOf (l ++ [b]) = none) (hp1 : isPart [b] = true) (hn : next l b = (brk l, [b])) : Calls Tryd.prog 71 #[v, .string s, .int .u8 b.toNat] w (Steps w base v xs (next l b)) := by
  have hb := byte_lt b
  have hsz : s.size ≤ 3 := by
    have : s.size = l.length := by rw [← hl]; rfl
    omega
  have hcat : ¬ 9223372036854775807 < s.size + 1 := by omega
  have HS : Hid ((s ++ ⟨#[b]⟩ : ByteArray).data.toList = l ++ [b]) := Lib.hid (by rw [← hl]; simp)
  have HL := Lib.hid hl
  have HO := Lib.hid ho
  have HT := Lib.hid ht
  have HX := Lib.hid hx
  have HB := Lib.hid hbase
  have HV := Lib.hid (piece_stray hp hw)
  have HV2 := Lib.hid (piece_open hp1)
  have HN := Lib.hid hn
  have hcv := fun (W : World) (hc : W.cell? ⟨w.heap.size, 0, none⟩ = some (.int .u8 b.toNat)) => run_convert_byte1 (P := Tryd.prog) W 46 9 5 ⟨w.heap.size, 0, none⟩ 1 b Tryd.underlying46 Tryd.underlying5 Tryd.underlying9 hc
  clear ho ht hl hs hx hbase hp hw hp1 hn
  go_enter Tryd.func71, Tryd.ntmps71
  go_wp2_with fail
  refine (read_at _ _ HS.out _ HV.out _ (by rw [ByteArray.size_append]; show s.size + 1 ≤ _; omega) (HT.out.kept ((Below.refl _ _).alloc (Nat.le_refl _) _))).mono ?_
  rintro e w1 ⟨rfl, hb1⟩
  have hb1 : Below w.heap.size w w1 := ((Below.refl w.heap.size w).alloc (Nat.le_refl _) _).trans (hb1.mono (by simp))
  have z1 := hb1.size
  go_wp2_with fail
  refine (broken_any v xs base s l HL.out _ (own_kept HO.out (hb1.alloc z1 _)) HX.out (by simp; have := HB.out.2; omega)).mono ?_
  rintro e w2 ⟨u, rfl, hp2⟩
  have hp2 : Puts w base v (xs ++ brk l) w2 u := (Puts.same HO.out (hb1.alloc z1 _)).trans hp2
  have z2 := hp2.2.1.size
  have ht2 : Hid (Tabs w2) := Lib.hid (HT.out.low (hp2.below_ HO.out HB.out.2) HB.out.1)
  have hl2 := brk_len l
  go_wp2_with fail
  refine (read_at ⟨#[b]⟩ [b] rfl _ HV2.out _ (show 1 ≤ 1000000 by omega) ht2.out).mono ?_
  rintro e w3 ⟨rfl, hb3⟩
  have z3 := hb3.size
  have o3 := own_kept hp2.1 hb3
  go_wp2_with fail
  go_ret2
  exact Steps.mk_ HN.out (hp2.trans (Puts.same hp2.1 hb3))

set_option maxRecDepth 100000 in
set_option maxHeartbeats 1600000 in
theorem step_stray_whole (v : Value) (xs : List Int) (base : Nat) (s : ByteArray) (l : List UInt8) (hl : s.data.toList = l) (b : UInt8) (w : World) (hbase : 2 ≤ base ∧ base ≤ w.heap.size) (ho : w.ownsRow base 3 1 v xs.length (ints xs)) (hx : xs.length ≤ 100000000) (ht : Tabs w) (hs : l.length ≤ 3)
    (hp : isPart (l ++ [b]) = false) (hw : wholeOf (l ++ [b]) = none) (r : Nat) (hp1 : isPart [b] = false) (hw1 : wholeOf [b] = some r) (hn : next l b = (brk l ++ [(r : Int)], [])) : Calls Tryd.prog 71 #[v, .string s, .int .u8 b.toNat] w (Steps w base v xs (next l b)) := by
  have hb := byte_lt b
  have hsz : s.size ≤ 3 := by
    have : s.size = l.length := by rw [← hl]; rfl
    omega
  have hcat : ¬ 9223372036854775807 < s.size + 1 := by omega
  have HS : Hid ((s ++ ⟨#[b]⟩ : ByteArray).data.toList = l ++ [b]) := Lib.hid (by rw [← hl]; simp)
  have HL := Lib.hid hl
  have HO := Lib.hid ho
  have HT := Lib.hid ht
  have HX := Lib.hid hx
  have HB := Lib.hid hbase
  have HV := Lib.hid (piece_stray hp hw)
  have HV2 := Lib.hid (piece_whole hp1 hw1)
  have HSH := Lib.hid (shut_some hw1)
  have HC := Lib.hid (closed_some hw1)
  have HN := Lib.hid hn
  have hcv := fun (W : World) (hc : W.cell? ⟨w.heap.size, 0, none⟩ = some (.int .u8 b.toNat)) => run_convert_byte1 (P := Tryd.prog) W 46 9 5 ⟨w.heap.size, 0, none⟩ 1 b Tryd.underlying46 Tryd.underlying5 Tryd.underlying9 hc
  clear ho ht hl hs hx hbase hp hw hp1 hw1 hn
  go_enter Tryd.func71, Tryd.ntmps71
  go_wp2_with fail
  refine (read_at _ _ HS.out _ HV.out _ (by rw [ByteArray.size_append]; show s.size + 1 ≤ _; omega) (HT.out.kept ((Below.refl _ _).alloc (Nat.le_refl _) _))).mono ?_
  rintro e w1 ⟨rfl, hb1⟩
  have hb1 : Below w.heap.size w w1 := ((Below.refl w.heap.size w).alloc (Nat.le_refl _) _).trans (hb1.mono (by simp))
  have z1 := hb1.size
  go_wp2_with fail
  refine (broken_any v xs base s l HL.out _ (own_kept HO.out (hb1.alloc z1 _)) HX.out (by simp; have := HB.out.2; omega)).mono ?_
  rintro e w2 ⟨u, rfl, hp2⟩
  have hp2 : Puts w base v (xs ++ brk l) w2 u := (Puts.same HO.out (hb1.alloc z1 _)).trans hp2
  have z2 := hp2.2.1.size
  have ht2 : Hid (Tabs w2) := Lib.hid (HT.out.low (hp2.below_ HO.out HB.out.2) HB.out.1)
  have hl2 := brk_len l
  go_wp2_with fail
  refine (read_at ⟨#[b]⟩ [b] rfl _ HV2.out _ (show 1 ≤ 1000000 by omega) ht2.out).mono ?_
  rintro e w3 ⟨rfl, hb3⟩
  have z3 := hb3.size
  have o3 := own_kept hp2.1 hb3
  go_wp2_with fail
  refine (closed_at _ _ HSH.out _ HC.out _).mono ?_
  rintro e w4 ⟨rfl, hb4⟩
  have hb4 : Below w2.heap.size w2 w4 := hb3.trans (hb4.mono z3)
  have z4 := hb4.size
  go_wp2_with (at_builtin; refine wp_append_ints rfl rfl base u _ (xs ++ brk l) rfl ((own_kept hp2.1 hb4).alloc _) _ 1 [(r : Int)] rfl (Src.one w4 _ _ _) (by have := HX.out; rw [List.length_append]; omega) (by simp; have := HB.out.2; omega) ?_; intro v1 w5 ho5 hg5 hat5)
  go_ret2
  exact Steps.mk_ HN.out (by rw [← List.append_assoc]; exact hp2.trans (Puts.app (hb4.alloc z4 _) ho5 hg5 hat5))

set_option maxRecDepth 100000 in
set_option maxHeartbeats 1600000 in
theorem step_stray_stray (v : Value) (xs : List Int) (base : Nat) (s : ByteArray) (l : List UInt8) (hl : s.data.toList = l) (b : UInt8) (w : World) (hbase : 2 ≤ base ∧ base ≤ w.heap.size) (ho : w.ownsRow base 3 1 v xs.length (ints xs)) (hx : xs.length ≤ 100000000) (ht : Tabs w) (hs : l.length ≤ 3)
    (hp : isPart (l ++ [b]) = false) (hw : wholeOf (l ++ [b]) = none) (hp1 : isPart [b] = false) (hw1 : wholeOf [b] = none) (hn : next l b = (brk l ++ [65533], [])) : Calls Tryd.prog 71 #[v, .string s, .int .u8 b.toNat] w (Steps w base v xs (next l b)) := by
  have hb := byte_lt b
  have hsz : s.size ≤ 3 := by
    have : s.size = l.length := by rw [← hl]; rfl
    omega
  have hcat : ¬ 9223372036854775807 < s.size + 1 := by omega
  have HS : Hid ((s ++ ⟨#[b]⟩ : ByteArray).data.toList = l ++ [b]) := Lib.hid (by rw [← hl]; simp)
  have HL := Lib.hid hl
  have HO := Lib.hid ho
  have HT := Lib.hid ht
  have HX := Lib.hid hx
  have HB := Lib.hid hbase
  have HV := Lib.hid (piece_stray hp hw)
  have HV2 := Lib.hid (piece_stray hp1 hw1)
  have HSH := Lib.hid (shut_none hw1)
  have HC := Lib.hid (closed_none hw1)
  have HN := Lib.hid hn
  have hcv := fun (W : World) (hc : W.cell? ⟨w.heap.size, 0, none⟩ = some (.int .u8 b.toNat)) => run_convert_byte1 (P := Tryd.prog) W 46 9 5 ⟨w.heap.size, 0, none⟩ 1 b Tryd.underlying46 Tryd.underlying5 Tryd.underlying9 hc
  clear ho ht hl hs hx hbase hp hw hp1 hw1 hn
  go_enter Tryd.func71, Tryd.ntmps71
  go_wp2_with fail
  refine (read_at _ _ HS.out _ HV.out _ (by rw [ByteArray.size_append]; show s.size + 1 ≤ _; omega) (HT.out.kept ((Below.refl _ _).alloc (Nat.le_refl _) _))).mono ?_
  rintro e w1 ⟨rfl, hb1⟩
  have hb1 : Below w.heap.size w w1 := ((Below.refl w.heap.size w).alloc (Nat.le_refl _) _).trans (hb1.mono (by simp))
  have z1 := hb1.size
  go_wp2_with fail
  refine (broken_any v xs base s l HL.out _ (own_kept HO.out (hb1.alloc z1 _)) HX.out (by simp; have := HB.out.2; omega)).mono ?_
  rintro e w2 ⟨u, rfl, hp2⟩
  have hp2 : Puts w base v (xs ++ brk l) w2 u := (Puts.same HO.out (hb1.alloc z1 _)).trans hp2
  have z2 := hp2.2.1.size
  have ht2 : Hid (Tabs w2) := Lib.hid (HT.out.low (hp2.below_ HO.out HB.out.2) HB.out.1)
  have hl2 := brk_len l
  go_wp2_with fail
  refine (read_at ⟨#[b]⟩ [b] rfl _ HV2.out _ (show 1 ≤ 1000000 by omega) ht2.out).mono ?_
  rintro e w3 ⟨rfl, hb3⟩
  have z3 := hb3.size
  have o3 := own_kept hp2.1 hb3
  go_wp2_with fail
  refine (closed_at _ _ HSH.out _ HC.out _).mono ?_
  rintro e w4 ⟨rfl, hb4⟩
  have hb4 : Below w2.heap.size w2 w4 := hb3.trans (hb4.mono z3)
  have z4 := hb4.size
  go_wp2_with (at_builtin; refine wp_append_ints rfl rfl base u _ (xs ++ brk l) rfl ((own_kept hp2.1 hb4).alloc _) _ 1 [65533] rfl (Src.one w4 _ _ _) (by have := HX.out; rw [List.length_append]; omega) (by simp; have := HB.out.2; omega) ?_; intro v1 w5 ho5 hg5 hat5)
  go_ret2
  exact Steps.mk_ HN.out (by rw [← List.append_assoc]; exact hp2.trans (Puts.app (hb4.alloc z4 _) ho5 hg5 hat5))

/-- STEP: a byte behind what may be, put behind numbers of the caller's own. -/
theorem step_any (v : Value) (xs : List Int) (base : Nat) (s : ByteArray) (l : List UInt8) (hl : s.data.toList = l) (b : UInt8) (w : World) (hbase : 2 ≤ base ∧ base ≤ w.heap.size) (ho : w.ownsRow base 3 1 v xs.length (ints xs)) (hx : xs.length ≤ 100000000) (ht : Tabs w)
    (hf : fits l = true) : Calls Tryd.prog 71 #[v, .string s, .int .u8 b.toNat] w (Steps w base v xs (next l b)) := by
  have hs := fits_len hf
  obtain ⟨h1, h2, h3⟩ := whole_snoc b hf
  cases hp : isPart (l ++ [b])
  · cases hw : wholeOf (l ++ [b]) with
    | some r => exact step_whole v xs base s l hl b w hbase ho hx ht hs r hp hw (h2 r hw)
    | none =>
      have hn := h3 hp hw
      obtain ⟨g1, g2, g3⟩ := whole_snoc (p := []) b rfl
      cases hp1 : isPart [b]
      · cases hw1 : wholeOf [b] with
        | some r => exact step_stray_whole v xs base s l hl b w hbase ho hx ht hs hp hw r hp1 hw1 (by rw [hn, g2 r hw1])
        | none => exact step_stray_stray v xs base s l hl b w hbase ho hx ht hs hp hw hp1 hw1 (by rw [hn, next_nil, start_stray hp1 hw1])
      · exact step_stray_open v xs base s l hl b w hbase ho hx ht hs hp hw hp1 (by rw [hn, g1 hp1, List.append_nil]; rfl)
  · exact step_open v xs base s l hl b w hbase ho hx ht hs hp (h1 hp)
end Utf
end Go.Proofs.YtjodbmfjdpbbnaaDoor
