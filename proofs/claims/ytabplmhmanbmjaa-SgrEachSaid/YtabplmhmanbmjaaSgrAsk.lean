/- The laws' argument: attributes (or not) and lists of numbers (or not); how heavy it is. -/
import Derived.Test.YtabplmhmanbmjaaSgrPlain
import Derived.Test.YtabplmhmanbmjaaBlk
import Derived.Test.YtabplmhmanbmjaaFine
import Derived.Test.YtabplmhmanbmjaaRecs
namespace Go.Proofs.Ytabplmhmanbmjaa
set_option maxRecDepth 100000
open Go.ChangeShapes Go.WideShapes Go.RowKit
namespace Sl4
open Sgr

def lkVals (a : Look) : List Value := [.int .i64 a.fg, .int .i64 a.bg, .int .i64 a.flags]
/-- A slice of attributes that reads as a list. -/
def Atts (w : World) (x : Value) (l : List Look) : Prop := Recs w x 3 l.length (l.map lkVals)
theorem Atts.kept {w w' : World} {x : Value} {l : List Look} (h : Atts w x l) (hb : Below w.heap.size w w') : Atts w' x l := Recs.kept h hb
theorem Atts.form {w : World} {x : Value} {l : List Look} (h : Atts w x l) : ∃ A c, x = .slice A l.length c ∧ ∀ k, k < l.length → ∃ ad, A = some ad ∧ At w (ad.add (k * 3)) (lkVals (l.getD k bare)) := by
  obtain ⟨A, c, rfl, hf⟩ := Recs.form h
  refine ⟨A, c, rfl, fun k hk => ?_⟩
  obtain ⟨ad, rfl, ha⟩ := hf k hk
  refine ⟨ad, rfl, ?_⟩
  have e : (l.map lkVals).getD k [] = lkVals (l.getD k bare) := by simp [List.getD, hk]
  rw [e] at ha; exact ha
/-- A slice of slices of numbers that reads as a list. -/
def Lists (w : World) (x : Value) (ls : List (List Int)) : Prop := ∃ pvs : List Value, pvs.length = ls.length ∧ Src w x ls.length pvs ∧ ∀ k, k < ls.length → Sl w (pvs.getD k undef) (ls.getD k [])
theorem Lists.kept {w w' : World} {x : Value} {ls : List (List Int)} (h : Lists w x ls) (hb : Below w.heap.size w w') : Lists w' x ls := by
  obtain ⟨pvs, h1, h2, h3⟩ := h
  exact ⟨pvs, h1, h2.kept hb, fun k hk => (h3 k hk).kept hb⟩
theorem Lists.form {w : World} {x : Value} {ls : List (List Int)} (h : Lists w x ls) : ∃ A c, x = .slice A ls.length c ∧ ∀ k, k < ls.length → ∃ ad pv, A = some ad ∧ w.cell? (ad.add k) = some pv ∧ Sl w pv (ls.getD k []) := by
  obtain ⟨pvs, h1, h2, h3⟩ := h
  obtain ⟨A, c, rfl, hf⟩ := h2.form
  refine ⟨A, c, rfl, fun k hk => ?_⟩
  obtain ⟨ad, rfl, ha⟩ := hf k hk
  have hk2 : k < pvs.length := by omega
  refine ⟨ad, pvs.getD k undef, rfl, ?_, h3 k hk⟩
  rw [ha]; simp [List.getD, hk2]

theorem Try.cellsAttr : Try.prog.cellsOf 29 = 3 := by kernel_rfl
theorem Try.bytesAttr : Try.prog.bytesOf 29 = 24 := by kernel_rfl
theorem Try.cellsInt : Try.prog.cellsOf 3 = 1 := by kernel_rfl
theorem Try.bytesInt : Try.prog.bytesOf 3 = 8 := by kernel_rfl
theorem Try.cellsNums : Try.prog.cellsOf 30 = 1 := by kernel_rfl
theorem Try.bytesNums : Try.prog.bytesOf 30 = 24 := by kernel_rfl
theorem Try.cellsAtts : Try.prog.cellsOf 22 = 1 := by kernel_rfl
theorem Try.cellsLists : Try.prog.cellsOf 23 = 1 := by kernel_rfl
theorem Try.cellsAsk4 : Try.prog.cellsOf 25 = 2 := by kernel_rfl
/-- An attribute that came in. -/
theorem open_attr {W : World} {cs : List Value} (h : Fine Try.prog W 29 cs) : ∃ a : Look, cs = lkVals a := by
  have hl := h.len Try.underlying29
  rw [Try.cellsAttr] at hl
  match cs, hl with
  | [a, b, c], _ =>
    have h0 : Fine Try.prog W 3 [a] := h.part Try.underlying29 0 rfl rfl rfl Try.cellsInt
    have h1 : Fine Try.prog W 3 [b] := h.part Try.underlying29 1 rfl rfl rfl Try.cellsInt
    have h2 : Fine Try.prog W 3 [c] := h.part Try.underlying29 2 rfl rfl rfl Try.cellsInt
    obtain ⟨x, e0, _⟩ := h0.int Try.underlying3
    obtain ⟨y, e1, _⟩ := h1.int Try.underlying3
    obtain ⟨z, e2, _⟩ := h2.int Try.underlying3
    obtain rfl : a = .int .i64 x := by simpa using e0
    obtain rfl : b = .int .i64 y := by simpa using e1
    obtain rfl : c = .int .i64 z := by simpa using e2
    exact ⟨⟨x, y, z⟩, rfl⟩
/-- Attributes that came in. -/
theorem open_atts {W : World} {v : Value} (h : Fine Try.prog W 22 [v]) : ∃ l : List Look, Atts W v l ∧ l.length ≤ 140737488355328 := by
  rcases h.slice Try.underlying22 with h0 | ⟨a, len, cap, h1, h2, _, h4⟩
  · obtain rfl : v = .slice none 0 0 := by simpa using h0
    exact ⟨[], ⟨rfl, by simp, .inl ⟨rfl, rfl⟩⟩, by simp⟩
  · obtain rfl : v = .slice (some a) len cap := by simpa using h1
    obtain ⟨l, hl, hq⟩ := list_of bare (Q := fun i q => At W (a.add (i * 3)) (lkVals q)) len fun i hi => by
      obtain ⟨es, g1, g2, g3⟩ := h4 i hi
      obtain ⟨q, rfl⟩ := open_attr g3
      refine ⟨q, fun j u hu => ?_⟩
      have := g2 j u hu
      rw [Try.cellsAttr] at this
      rw [Go.Deep.add_add]; exact this
    subst hl
    rw [Try.bytesAttr] at h2
    refine ⟨l, ⟨by simp, ?_, .inr ⟨a, cap, by simp, fun i r hr => ?_⟩⟩, ?_⟩
    · intro r hr
      obtain ⟨q, _, rfl⟩ := List.mem_map.1 hr
      rfl
    · have hi : i < l.length := by
        have := (List.getElem?_eq_some_iff.1 hr).1
        simpa using this
      have e : r = lkVals (l.getD i bare) := by
        have := hr
        simp [hi] at this
        simp [List.getD, hi, ← this]
      rw [e]; exact hq i hi
    · unfold reachBytes at h2; omega
/-- Lists that came in. -/
theorem open_lists {W : World} {v : Value} (h : Fine Try.prog W 23 [v]) : ∃ ls : List (List Int), Lists W v ls ∧ ls.length ≤ 140737488355328 ∧ ∀ k, k < ls.length → (ls.getD k []).length ≤ 140737488355328 := by
  rcases h.slice Try.underlying23 with h0 | ⟨a, len, cap, h1, h2, _, h4⟩
  · obtain rfl : v = .slice none 0 0 := by simpa using h0
    exact ⟨[], ⟨[], rfl, ⟨rfl, .inl ⟨rfl, rfl⟩⟩, fun k hk => absurd hk (by simp)⟩, by simp, fun k hk => absurd hk (by simp)⟩
  · obtain rfl : v = .slice (some a) len cap := by simpa using h1
    obtain ⟨l, hl, hq⟩ := list_of (([], undef) : List Int × Value) (Q := fun i q => W.cell? (a.add i) = some q.2 ∧ Sl W q.2 q.1 ∧ q.1.length ≤ 140737488355328) len fun i hi => by
      obtain ⟨es, g1, g2, g3⟩ := h4 i hi
      rw [Try.cellsNums] at g1
      match es, g1 with
      | [u], _ =>
        obtain ⟨xs, hx, hz, _⟩ := g3.numbersC Try.underlying30 Try.underlying3 Try.cellsInt Try.bytesInt
        have := g2 0 u rfl
        rw [Try.cellsNums, Nat.mul_one, Nat.add_zero] at this
        exact ⟨(xs, u), this, ⟨hx.1, hx.2⟩, by unfold reachBytes at hz; show xs.length ≤ _; omega⟩
    subst hl
    rw [Try.bytesNums] at h2
    have hg : ∀ k, k < l.length → (l.map Prod.fst).getD k [] = (l.getD k ([], undef)).1 ∧ (l.map Prod.snd).getD k undef = (l.getD k ([], undef)).2 := fun k hk => by simp [List.getD, hk]
    refine ⟨l.map Prod.fst, ⟨l.map Prod.snd, by simp, ⟨by simp, .inr ⟨a, cap, by simp, fun j u hu => ?_⟩⟩, fun k hk => ?_⟩, ?_, fun k hk => ?_⟩
    · have hj : j < l.length := by
        have := (List.getElem?_eq_some_iff.1 hu).1
        simpa using this
      rw [(hq j hj).1, ← hu]
      simp [List.getD, hj]
    · rw [List.length_map] at hk
      rw [(hg k hk).1, (hg k hk).2]
      exact (hq k hk).2.1
    · unfold reachBytes at h2
      rw [List.length_map]; omega
    · rw [List.length_map] at hk
      rw [(hg k hk).1]
      exact (hq k hk).2.2
/-- The laws' argument. -/
theorem open_ask {W : World} {cs : List Value} (h : Fine Try.prog W 25 cs) : ∃ x y, cs = [x, y] ∧ (∃ l : List Look, Atts W x l ∧ l.length ≤ 140737488355328) ∧
    ∃ ls : List (List Int), Lists W y ls ∧ ls.length ≤ 140737488355328 ∧ ∀ k, k < ls.length → (ls.getD k []).length ≤ 140737488355328 := by
  have hl := h.len Try.underlying25
  rw [Try.cellsAsk4] at hl
  match cs, hl with
  | [x, y], _ =>
    have h0 : Fine Try.prog W 22 [x] := h.part Try.underlying25 0 rfl rfl rfl Try.cellsAtts
    have h1 : Fine Try.prog W 23 [y] := h.part Try.underlying25 1 rfl rfl rfl Try.cellsLists
    exact ⟨x, y, rfl, open_atts h0, open_lists h1⟩

/-! ### how heavy it is -/
structure Few (l : List Look) (ls : List (List Int)) : Prop where
  atts : l.length ≤ 1500
  lists : ls.length ≤ 1500
  each : ∀ k, k < ls.length → (ls.getD k []).length ≤ 1500
def Weight (l : List Look) (ls : List (List Int)) (k T : Nat) : Prop := l.length ≤ T ∧ ls.length ≤ T ∧ ∀ j, j < k → (ls.getD j []).length ≤ T
/-- A test: what it answers, and what its no means. -/
def Weighed (l : List Look) (ls : List (List Int)) (w : World) (e : Ending) (w' : World) : Prop := ∃ b : Bool, e = .returned (.bool b) ∧ (b = false → Few l ls) ∧ Below w.heap.size w w'
set_option maxHeartbeats 1600000 in
theorem heavy_any {x y : Value} (l : List Look) (ls : List (List Int)) (w : World) (hx : Atts w x l) (hn : l.length ≤ 140737488355328) (hy : Lists w y ls) (hm : ls.length ≤ 140737488355328) (hz : ∀ k, k < ls.length → (ls.getD k []).length ≤ 140737488355328) :
    Calls Try.prog 6 #[.agg #[x, y]] w (Weighed l ls w) := by
  obtain ⟨A, c, rfl, _⟩ := hx.form
  obtain ⟨A', c', rfl, hf⟩ := hy.form
  have HF := Lib.hid hf
  have HZ := Lib.hid hz
  clear hx hy hf hz
  go_enter Try.func6, Try.ntmps6
  go_wp2_with fail
  have HB : Hid (Below w.heap.size w (w.alloc (.cells #[.slice A l.length c, .slice A' ls.length c'] 25))) := Lib.hid ((Below.refl _ _).alloc (Nat.le_refl _) _)
  have HK := Lib.hid (heap_alloc_new w (.cells #[.slice A l.length c, .slice A' ls.length c'] 25))
  generalize w.alloc (.cells #[.slice A l.length c, .slice A' ls.length c'] 25) = w1 at HB HK ⊢
  have c1 : w1.cell? ⟨w.heap.size, 1, none⟩ = some (.slice A' ls.length c') := Blk.cell HK.out 1
  go_loopw [3, 4] (fun n i wr => ∃ (k T : Nat), k ≤ ls.length ∧ i = .int .i64 k ∧ n = .int .i64 T ∧ T ≤ 1000000000000000 ∧ Hid (Weight l ls k T) ∧ wr = w1) (fun _ i _ => ls.length - (intOf i).toNat)
  case atStart => exact ⟨0, l.length + ls.length, by omega, rfl, by go_num, by omega, Lib.hid ⟨by omega, by omega, fun j hj => absurd hj (Nat.not_lt_zero _)⟩, rfl⟩
  case round =>
    obtain ⟨k, T, hk, rfl, rfl, hT, HW, rfl⟩ := hrel
    by_cases hlt : k < ls.length
    · by_cases hTT : T < 1048576
      · obtain ⟨ad, pv, rfl, hc, hs⟩ := HF.out k hlt
        have hc2 := cell_kept HB.out hc
        obtain ⟨B, d, rfl, _⟩ := hs.room
        have hzk := HZ.out k hlt
        have HW2 : Hid (Weight l ls (k + 1) (T + (ls.getD k []).length)) := Lib.hid ⟨by have := HW.out.1; omega, by have := HW.out.2.1; omega, fun j hj => by
          by_cases e : j = k
          · subst e; omega
          · have := HW.out.2.2 j (by omega); omega⟩
        clear hc hs
        generalize (ls.getD k []).length = m at *
        have hd1 : decide ((T : Int) < 1048576) = true := decide_eq_true (by omega)
        go_wp2_with fail
        go_roundw
        case rel => exact ⟨k + 1, T + m, by omega, by go_num, by go_num, by omega, HW2, by trivial⟩
        case measure => simp [intOf]; omega
      · have hd1 : decide ((T : Int) < 1048576) = false := decide_eq_false (by omega)
        have hd2 : decide (1500 < (T : Int)) = true := decide_eq_true (by omega)
        go_wp2_with fail
        go_ret
        exact ⟨true, rfl, fun e => (by cases e), HB.out⟩
    · have hd1 : decide (k < ls.length) = false := decide_eq_false hlt
      have hkl : k = ls.length := by omega
      have HQ : Hid (decide (1500 < (T : Int)) = false → Few l ls) := Lib.hid fun e => by
        have := of_decide_eq_false e
        obtain ⟨a1, a2, a3⟩ := HW.out
        exact ⟨by omega, by omega, fun j hj => by have := a3 j (by omega); omega⟩
      clear hlt hkl
      go_wp2_with fail
      go_ret
      exact ⟨_, rfl, HQ.out, HB.out⟩
end Sl4
end Go.Proofs.Ytabplmhmanbmjaa
