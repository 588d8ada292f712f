/- The laws' argument: truths and numbers; its box; that a new row of stops wakes. -/
import Derived.Test.YtenhgkhonaglaaaTabDo
import Derived.Test.YtenhgkhonaglaaaTabSet
import Derived.Test.YtenhgkhonaglaaaFine
namespace Go.Proofs.Ytenhgkhonaglaaa
set_option maxRecDepth 100000
open Go.ChangeShapes Go.WideShapes Go.RowKit
namespace Tab

theorem Try.cellsInt : Try.prog.cellsOf 3 = 1 := by kernel_rfl
theorem Try.bytesInt : Try.prog.bytesOf 3 = 8 := by kernel_rfl
theorem Try.cellsBool : Try.prog.cellsOf 4 = 1 := by kernel_rfl
theorem Try.bytesBool : Try.prog.bytesOf 4 = 1 := by kernel_rfl
theorem Try.cellsBools : Try.prog.cellsOf 41 = 1 := by kernel_rfl
theorem Try.cellsNums : Try.prog.cellsOf 42 = 1 := by kernel_rfl
theorem Try.cellsScript : Try.prog.cellsOf 44 = 2 := by kernel_rfl
/-- A slice of truths that came in. -/
theorem open_bools {w : World} {v : Value} (h : Fine Try.prog w 41 [v]) : ∃ l : List Bool, Bl w v l ∧ l.length ≤ reachBytes := by
  rcases h.slice Try.underlying41 with h0 | ⟨a, len, cap, h1, h2, h3, h4⟩
  · obtain rfl : v = .slice none 0 0 := by simpa using h0
    exact ⟨[], Bl.nil w, by simp⟩
  · obtain rfl : v = .slice (some a) len cap := by simpa using h1
    obtain ⟨xs, hl, hq⟩ := list_of false (Q := fun i m => w.cell? (a.add i) = some (.bool m)) len fun i hi => by
      obtain ⟨es, g1, g2, g3⟩ := h4 i hi
      obtain ⟨m, rfl⟩ := g3.bool Try.underlying4
      refine ⟨m, ?_⟩
      have := g2 0 _ rfl
      rwa [Try.cellsBool, Nat.mul_one, Nat.add_zero] at this
    subst hl
    rw [Try.bytesBool, Nat.mul_one] at h2
    refine ⟨xs, ⟨⟨bools_length _, .inr ⟨a, cap, rfl, fun j u hu => ?_⟩⟩, some a, cap, rfl, h3.1⟩, h2⟩
    have hj : j < xs.length := by
      have := (List.getElem?_eq_some_iff.1 hu).1
      rwa [bools_length] at this
    rw [bools_get hj] at hu
    rw [hq j hj, hu]
theorem open_script {W : World} {cs : List Value} (h : Fine Try.prog W 44 cs) :
    ∃ x y, cs = [x, y] ∧ (∃ l : List Bool, Bl W x l ∧ l.length ≤ reachBytes) ∧ ∃ t : List Int, Sl W y t ∧ t.length ≤ reachBytes ∧ ∀ i, i < t.length → -9223372036854775808 ≤ t.getD i 0 ∧ t.getD i 0 ≤ 9223372036854775807 := by
  have hl := h.len Try.underlying44
  rw [Try.cellsScript] at hl
  match cs, hl with
  | [x, y], _ =>
    have h0 : Fine Try.prog W 41 [x] := h.part Try.underlying44 0 rfl rfl rfl Try.cellsBools
    have h1 : Fine Try.prog W 42 [y] := h.part Try.underlying44 1 rfl rfl rfl Try.cellsNums
    obtain ⟨t, ⟨ht, hr⟩, hb, hq⟩ := h1.numbersC Try.underlying42 Try.underlying3 Try.cellsInt Try.bytesInt
    exact ⟨x, y, rfl, open_bools h0, t, ⟨ht, hr⟩, by omega, hq⟩

/-- The argument's box. -/
abbrev sbox (x y : Value) : Obj := .cells #[x, y] 44 (0, 0)
/-- The law under way: what was there stands, its argument lies in its box. -/
structure Asks (w wr : World) (x y : Value) : Prop where
  bel : Below w.heap.size w wr
  box : wr.heap[w.heap.size]? = some (sbox x y)
theorem Asks.start (w : World) (x y : Value) : Asks w (w.alloc (sbox x y)) x y := ⟨(Below.refl _ _).alloc (Nat.le_refl _) _, heap_alloc_new _ _⟩
theorem Asks.lt {w wr : World} {x y : Value} (h : Asks w wr x y) : w.heap.size < wr.heap.size := Blk.lt h.box
theorem Asks.kept {w wr w2 : World} {x y : Value} (h : Asks w wr x y) (hb : Below wr.heap.size wr w2) : Asks w w2 x y := ⟨h.bel.trans (hb.mono h.bel.size), Blk.kept h.box hb⟩
/-- .. by writes into what came behind the box. -/
theorem Asks.over {w wr w2 : World} {x y : Value} {base : Nat} (h : Asks w wr x y) (hb : Below base wr w2) (hB : w.heap.size < base) : Asks w w2 x y := ⟨h.bel.trans (hb.mono (Nat.le_of_lt hB)), (hb.block _ hB).trans h.box⟩

set_option maxHeartbeats 800000 in
theorem wakes_any (w : World) : Calls Try.prog 31 #[] w fun e w' => e = .returned (.bool true) ∧ Below w.heap.size w w' := by
  have HN := Lib.hid (new_any 20 w)
  have HX := Lib.hid (fun v w' (h : Bl w' v (anewOf 20)) => next_any (anewOf 20) 0 1 v w' h (by decide))
  rw [show codeOf (rng 20 1 40) = 0 from rfl] at HN
  rw [show nxOf (anewOf 20) 0 1 = 8 from by decide, show codeOf (goes (anewOf 20) 0 1) = 0 from by decide] at HX
  generalize anewOf 20 = ys at HN HX
  go_enter Try.func31, Try.ntmps31
  go_wp2_with fail
  refine HN.out.mono ?_; rintro e w1 ⟨v, rfl, ho, hb⟩
  have HC := Lib.hid (HX.out v w1 ho.bl)
  clear ho
  go_wp2_with fail
  refine HC.out.mono ?_; rintro e w2 ⟨rfl, hb2⟩
  have hbw := hb.trans (hb2.mono hb.size)
  clear hb hb2
  go_wp2_with fail
  refine (num_eq _ _).mono ?_; rintro e wn ⟨rfl, rfl⟩
  go_wp2_with fail
  refine (num_eq _ _).mono ?_; rintro e wn ⟨rfl, rfl⟩
  go_wp2_with fail
  go_ret
  exact ⟨rfl, hbw⟩
end Tab
end Go.Proofs.Ytenhgkhonaglaaa
