/- Joined texts: RowBase, RowMem, RowHelp, GrdMem. -/
import Derived.Test.YtjcfbeiljdohcaaDoorJM5
namespace Go.Proofs.YtjcfbeiljdohcaaDoor
set_option maxRecDepth 100000
section
open Go.RowKit
namespace Row
open Wid
theorem between_any (n lo hi : Int) (w : World) : Calls Tryd.prog 28 #[.int .i64 n, .int .i64 lo, .int .i64 hi] w fun e w' => e = .returned (.bool (rng n lo hi)) ∧ w = w' := by
  by_cases h : lo ≤ n
  · by_cases k : n ≤ hi
    · have H : Hid (rng n lo hi = true) := Lib.hid (by unfold rng; rw [decide_eq_true h, decide_eq_true k]; rfl)
      go_enter Tryd.func28, Tryd.ntmps28
      go_wp2_with fail
      go_ret
      exact ⟨ret_bool H.out.symm, rfl⟩
    · have H : Hid (rng n lo hi = false) := Lib.hid (by unfold rng; rw [decide_eq_false k, Bool.and_false])
      have hd : decide (n ≤ hi) = false := decide_eq_false k
      go_enter Tryd.func28, Tryd.ntmps28
      go_wp2_with fail
      go_ret
      exact ⟨ret_bool H.out.symm, rfl⟩
  · have H : Hid (rng n lo hi = false) := Lib.hid (by unfold rng; rw [decide_eq_false h, Bool.false_and])
    have hd : decide (lo ≤ n) = false := decide_eq_false h
    go_enter Tryd.func28, Tryd.ntmps28
    go_wp2_with fail
    go_ret
    exact ⟨ret_bool H.out.symm, rfl⟩
theorem colour_ok (n : Int) (w : World) : Calls Tryd.prog 62 #[.int .i64 n] w fun e w' => e = .returned (.bool (colourOk n)) ∧ w = w' := by
  go_enter Tryd.func62, Tryd.ntmps62
  go_wp2_with fail
  refine (between_any _ _ _ _).mono ?_; rintro e w' ⟨rfl, rfl⟩
  go_wp2_with fail
  go_ret
  exact ⟨rfl, rfl⟩
theorem num_any (n hi : Int) (w : World) : Calls Tryd.prog 14 #[.int .i64 n, .int .i64 hi] w fun e w' => e = .returned (.bool (rng n 0 hi)) ∧ w = w' := by
  by_cases h : 0 ≤ n
  · by_cases k : n ≤ hi
    · have H : Hid (rng n 0 hi = true) := Lib.hid (by unfold rng; rw [decide_eq_true h, decide_eq_true k]; rfl)
      go_enter Tryd.func14, Tryd.ntmps14
      go_wp2_with fail
      go_ret
      exact ⟨ret_bool H.out.symm, rfl⟩
    · have H : Hid (rng n 0 hi = false) := Lib.hid (by unfold rng; rw [decide_eq_false k, Bool.and_false])
      have hd : decide (n ≤ hi) = false := decide_eq_false k
      go_enter Tryd.func14, Tryd.ntmps14
      go_wp2_with fail
      go_ret
      exact ⟨ret_bool H.out.symm, rfl⟩
  · have H : Hid (rng n 0 hi = false) := Lib.hid (by unfold rng; rw [decide_eq_false h, Bool.false_and])
    have hd : decide (0 ≤ n) = false := decide_eq_false h
    go_enter Tryd.func14, Tryd.ntmps14
    go_wp2_with fail
    go_ret
    exact ⟨ret_bool H.out.symm, rfl⟩
set_option maxHeartbeats 800000 in
theorem attr_any (a : Look) (w : World) : Calls Tryd.prog 52 #[.agg #[.int .i64 a.fg, .int .i64 a.bg, .int .i64 a.flags]] w fun e w' => e = .returned (.bool (attrOk a)) ∧ Below w.heap.size w w' := by
  have hb : Below w.heap.size w (w.alloc (.cells #[.int .i64 a.fg, .int .i64 a.bg, .int .i64 a.flags] 60)) := (Below.refl _ _).alloc (Nat.le_refl _) _
  have HB := Lib.hid hb
  clear hb
  cases h1 : colourOk a.fg with
  | false =>
    have HE : Hid (attrOk a = false) := Lib.hid (by unfold attrOk; rw [h1]; rfl)
    have H1 := Lib.hid h1
    clear h1
    go_enter Tryd.func52, Tryd.ntmps52
    go_wp2_with fail
    refine (colour_ok _ _).mono ?_; rw [H1.out]; rintro e w' ⟨rfl, rfl⟩
    go_wp2_with fail
    go_ret
    exact ⟨ret_bool HE.out.symm, HB.out⟩
  | true =>
    have H1 := Lib.hid h1
    cases h2 : colourOk a.bg with
    | false =>
      have HE : Hid (attrOk a = false) := Lib.hid (by unfold attrOk; rw [h1, h2]; rfl)
      have H2 := Lib.hid h2
      clear h1 h2
      go_enter Tryd.func52, Tryd.ntmps52
      go_wp2_with fail
      refine (colour_ok a.fg _).mono ?_; rw [H1.out]; rintro e w' ⟨rfl, rfl⟩
      go_wp2_with fail
      refine (colour_ok a.bg _).mono ?_; rw [H2.out]; rintro e w' ⟨rfl, rfl⟩
      go_wp2_with fail
      go_ret
      exact ⟨ret_bool HE.out.symm, HB.out⟩
    | true =>
      have HE : Hid (attrOk a = rng a.flags 0 255) := Lib.hid (by unfold attrOk; rw [h1, h2]; rfl)
      have H2 := Lib.hid h2
      clear h1 h2
      go_enter Tryd.func52, Tryd.ntmps52
      go_wp2_with fail
      refine (colour_ok a.fg _).mono ?_; rw [H1.out]; rintro e w' ⟨rfl, rfl⟩
      go_wp2_with fail
      refine (colour_ok a.bg _).mono ?_; rw [H2.out]; rintro e w' ⟨rfl, rfl⟩
      go_wp2_with fail
      refine (num_any _ 255 _).mono ?_; rintro e w' ⟨rfl, rfl⟩
      go_wp2_with fail
      go_ret
      exact ⟨ret_bool HE.out.symm, HB.out⟩
theorem sgrIn_any (n lo hi : Int) (w : World) : Calls Tryd.prog 91 #[.int .i64 n, .int .i64 lo, .int .i64 hi] w fun e w' => e = .returned (.bool (rng n lo hi)) ∧ w = w' := by
  by_cases h : lo ≤ n
  · by_cases k : n ≤ hi
    · have H : Hid (rng n lo hi = true) := Lib.hid (by unfold rng; rw [decide_eq_true h, decide_eq_true k]; rfl)
      go_enter Tryd.func91, Tryd.ntmps91
      go_wp2_with fail
      go_ret
      exact ⟨ret_bool H.out.symm, rfl⟩
    · have H : Hid (rng n lo hi = false) := Lib.hid (by unfold rng; rw [decide_eq_false k, Bool.and_false])
      have hd : decide (n ≤ hi) = false := decide_eq_false k
      go_enter Tryd.func91, Tryd.ntmps91
      go_wp2_with fail
      go_ret
      exact ⟨ret_bool H.out.symm, rfl⟩
  · have H : Hid (rng n lo hi = false) := Lib.hid (by unfold rng; rw [decide_eq_false h, Bool.false_and])
    have hd : decide (lo ≤ n) = false := decide_eq_false h
    go_enter Tryd.func91, Tryd.ntmps91
    go_wp2_with fail
    go_ret
    exact ⟨ret_bool H.out.symm, rfl⟩
set_option maxHeartbeats 800000 in
theorem check_any (a : Look) (b : Bool) (hb : attrOk a = b) (w : World) : Calls Tryd.prog 86 #[.agg #[.int .i64 a.fg, .int .i64 a.bg, .int .i64 a.flags]] w fun e w' => e = .returned (.int .i64 (bif b then 0 else 1)) ∧ Below w.heap.size w w' := by
  have HB : Hid (Below w.heap.size w (w.alloc (.cells #[.int .i64 a.fg, .int .i64 a.bg, .int .i64 a.flags] 60))) := Lib.hid ((Below.refl _ _).alloc (Nat.le_refl _) _)
  cases h1 : colourOk a.fg with
  | false =>
    have e : b = false := by rw [← hb]; unfold attrOk; rw [h1]; rfl
    have H1 : Hid (rng a.fg (-1) 16777471 = false) := Lib.hid h1
    subst e
    clear hb h1
    go_enter Tryd.func86, Tryd.ntmps86
    go_wp2_with fail
    refine (sgrIn_any _ _ _ _).mono ?_; rw [H1.out]; rintro e w' ⟨rfl, rfl⟩
    go_wp2_with fail
    go_ret
    exact ⟨rfl, HB.out⟩
  | true =>
    have H1 : Hid (rng a.fg (-1) 16777471 = true) := Lib.hid h1
    cases h2 : colourOk a.bg with
    | false =>
      have e : b = false := by rw [← hb]; unfold attrOk; rw [h1, h2]; rfl
      have H2 : Hid (rng a.bg (-1) 16777471 = false) := Lib.hid h2
      subst e
      clear hb h1 h2
      go_enter Tryd.func86, Tryd.ntmps86
      go_wp2_with fail
      refine (sgrIn_any a.fg _ _ _).mono ?_; rw [H1.out]; rintro e w' ⟨rfl, rfl⟩
      go_wp2_with fail
      refine (sgrIn_any a.bg _ _ _).mono ?_; rw [H2.out]; rintro e w' ⟨rfl, rfl⟩
      go_wp2_with fail
      go_ret
      exact ⟨rfl, HB.out⟩
    | true =>
      have H2 : Hid (rng a.bg (-1) 16777471 = true) := Lib.hid h2
      have H3 : Hid (rng a.flags 0 255 = b) := Lib.hid (by rw [← hb]; unfold attrOk; rw [h1, h2]; rfl)
      clear hb h1 h2
      cases b
      all_goals
        go_enter Tryd.func86, Tryd.ntmps86
        go_wp2_with fail
        refine (sgrIn_any a.fg _ _ _).mono ?_; rw [H1.out]; rintro e w' ⟨rfl, rfl⟩
        go_wp2_with fail
        refine (sgrIn_any a.bg _ _ _).mono ?_; rw [H2.out]; rintro e w' ⟨rfl, rfl⟩
        go_wp2_with fail
        refine (sgrIn_any a.flags _ _ _).mono ?_; rw [H3.out]; rintro e w' ⟨rfl, rfl⟩
        go_wp2_with fail
        go_ret
        exact ⟨rfl, HB.out⟩
theorem rowIn_any (n lo hi : Int) (w : World) : Calls Tryd.prog 84 #[.int .i64 n, .int .i64 lo, .int .i64 hi] w fun e w' => e = .returned (.bool (rng n lo hi)) ∧ w = w' := by
  by_cases h : lo ≤ n
  · by_cases k : n ≤ hi
    · have H : Hid (rng n lo hi = true) := Lib.hid (by unfold rng; rw [decide_eq_true h, decide_eq_true k]; rfl)
      go_enter Tryd.func84, Tryd.ntmps84
      go_wp2_with fail
      go_ret
      exact ⟨ret_bool H.out.symm, rfl⟩
    · have H : Hid (rng n lo hi = false) := Lib.hid (by unfold rng; rw [decide_eq_false k, Bool.and_false])
      have hd : decide (n ≤ hi) = false := decide_eq_false k
      go_enter Tryd.func84, Tryd.ntmps84
      go_wp2_with fail
      go_ret
      exact ⟨ret_bool H.out.symm, rfl⟩
  · have H : Hid (rng n lo hi = false) := Lib.hid (by unfold rng; rw [decide_eq_false h, Bool.false_and])
    have hd : decide (lo ≤ n) = false := decide_eq_false h
    go_enter Tryd.func84, Tryd.ntmps84
    go_wp2_with fail
    go_ret
    exact ⟨ret_bool H.out.symm, rfl⟩
@[go_sem] theorem w_is_none_none (v : Value) (w : World) : (Instr.typeAssert (.iface 173 v) 171 173 true).run Tryd.prog w = .ok (.tuple #[v, .bool true]) w := by kernel_rfl
@[go_sem] theorem w_is_none_mark (v : Value) (w : World) : (Instr.typeAssert (.iface 175 v) 171 173 true).run Tryd.prog w = .ok (.tuple #[.agg #[], .bool false]) w := by kernel_rfl
@[go_sem] theorem w_is_none_cells (v : Value) (w : World) : (Instr.typeAssert (.iface 177 v) 171 173 true).run Tryd.prog w = .ok (.tuple #[.agg #[], .bool false]) w := by kernel_rfl
@[go_sem] theorem w_is_mark_mark (v : Value) (w : World) : (Instr.typeAssert (.iface 175 v) 171 175 true).run Tryd.prog w = .ok (.tuple #[v, .bool true]) w := by kernel_rfl
@[go_sem] theorem w_is_mark_cells (v : Value) (w : World) : (Instr.typeAssert (.iface 177 v) 171 175 true).run Tryd.prog w = .ok (.tuple #[.agg #[], .bool false]) w := by kernel_rfl
@[go_sem] theorem w_must_cells (v : Value) (w : World) : (Instr.typeAssert (.iface 177 v) 171 177 false).run Tryd.prog w = .ok v w := by kernel_rfl
@[go_sem] theorem w_is_cells_cells (v : Value) (w : World) : (Instr.typeAssert (.iface 177 v) 171 177 true).run Tryd.prog w = .ok (.tuple #[v, .bool true]) w := by kernel_rfl
@[go_sem] theorem w_is_cells_none (v : Value) (w : World) : (Instr.typeAssert (.iface 173 v) 171 177 true).run Tryd.prog w = .ok (.tuple #[.int .i64 0, .bool false]) w := by kernel_rfl
@[go_sem] theorem w_is_cells_mark (v : Value) (w : World) : (Instr.typeAssert (.iface 175 v) 171 177 true).run Tryd.prog w = .ok (.tuple #[.int .i64 0, .bool false]) w := by kernel_rfl
theorem kind_cases (r : Int) : (kindOf r = .iface 173 (.agg #[]) ∧ wid r = -1 ∧ adds r = 0) ∨ (kindOf r = .iface 175 (.agg #[]) ∧ wid r = 0 ∧ adds r = 0) ∨
    (kindOf r = .iface 177 (.int .i64 2) ∧ wid r = 2 ∧ adds r = 2) ∨ (kindOf r = .iface 177 (.int .i64 1) ∧ wid r = 1 ∧ adds r = 1) := by
  unfold kindOf wid adds
  cases isNone r <;> cases isMark r <;> cases isWide r <;> simp
theorem look_at (r : Int) (k : Value) (hk : kindOf r = k) (w : World) : Calls Tryd.prog 96 #[.int .i64 r] w fun e w' => e = .returned k ∧ w = w' := by
  subst hk; exact look_any r w
set_option maxHeartbeats 400000 in
theorem of_any (r : Int) (w : World) : Calls Tryd.prog 95 #[.int .i64 r] w fun e w' => e = .returned (.int .i64 (wid r)) ∧ Below w.heap.size w w' := by
  rcases kind_cases r with ⟨hk, hw, _⟩ | ⟨hk, hw, _⟩ | ⟨hk, hw, _⟩ | ⟨hk, hw, _⟩
  all_goals
    have HK := Lib.hid hk
    have HW := Lib.hid hw
    clear hk hw
    go_enter Tryd.func95, Tryd.ntmps95
    go_wp2_with fail
    refine (look_at r _ HK.out _).mono ?_; rintro e w' ⟨rfl, rfl⟩
    go_wp2_with fail
    go_ret
    exact ⟨ret_int HW.out.symm, by repeat (first | exact Below.refl _ _ | refine Below.alloc ?_ (Nat.le_refl _) _ | refine Below.alloc ?_ (by simp) _ | refine Below.setCell ?_ (by simp) _)⟩
end Row
end
section
open Go.RowKit
namespace Row
def avals (a : Look) : Array Value := #[.int .i64 a.fg, .int .i64 a.bg, .int .i64 a.flags]
def cvals (c : Cl) : List Value := [.int .i64 c.rune, .string ⟨c.comb.toArray⟩, .int .i64 c.wide, .int .i64 c.a.fg, .int .i64 c.a.bg, .int .i64 c.a.flags]
def cagg (c : Cl) : Value := .agg #[.int .i64 c.rune, .string ⟨c.comb.toArray⟩, .int .i64 c.wide, .int .i64 c.a.fg, .int .i64 c.a.bg, .int .i64 c.a.flags]
def flat (l : List Cl) : List Value := (l.map cvals).flatten
theorem flat_nil : flat [] = [] := rfl
theorem flat_cons (c : Cl) (l : List Cl) : flat (c :: l) = cvals c ++ flat l := rfl
theorem flat_append (a b : List Cl) : flat (a ++ b) = flat a ++ flat b := by unfold flat; rw [List.map_append, List.flatten_append]
theorem cvals_len (l : List Cl) : ∀ r ∈ l.map cvals, r.length = 6 := by
  intro r hr
  obtain ⟨c, _, rfl⟩ := List.mem_map.1 hr
  rfl
theorem flat_length (l : List Cl) : (flat l).length = l.length * 6 := by unfold flat; rw [flatten_len _ (cvals_len l), List.length_map]
theorem flat_get {l : List Cl} {i : Nat} (h : i < l.length) {j : Nat} (hj : j < 6) : (flat l)[i * 6 + j]? = (cvals (g l i))[j]? := by
  have hr : (l.map cvals)[i]? = some (cvals (g l i)) := by rw [List.getElem?_map, g_get h]; rfl
  have hj' : j < (cvals (g l i)).length := hj
  rw [List.getElem?_eq_getElem hj']
  exact flatten_get _ (cvals_len l) i _ hr j _ (List.getElem?_eq_getElem hj')
theorem flat_cells (l : List Cl) : ∀ u ∈ flat l, u.oneCell' = true := by
  intro u hu
  obtain ⟨r, hr, hu⟩ := List.mem_flatten.1 hu
  obtain ⟨c, _, rfl⟩ := List.mem_map.1 hr
  simp only [cvals, List.mem_cons, List.not_mem_nil, or_false] at hu
  rcases hu with rfl | rfl | rfl | rfl | rfl | rfl <;> rfl
theorem flat_set : ∀ (l : List Cl) (k : Nat) (_ : k < l.length) (c : Cl),
    ((((((flat l).set (k * 6) (.int .i64 c.rune)).set (k * 6 + 1) (.string ⟨c.comb.toArray⟩)).set (k * 6 + 2) (.int .i64 c.wide)).set (k * 6 + 3) (.int .i64 c.a.fg)).set (k * 6 + 4) (.int .i64 c.a.bg)).set (k * 6 + 5) (.int .i64 c.a.flags) = flat (l.set k c)
  | x :: l, 0, _, c => by
    show _ = cvals c ++ flat l
    rw [flat_cons]
    rfl
  | x :: l, k + 1, h, c => by
    have ih := flat_set l k (by simpa using h) c
    show _ = cvals x ++ flat (l.set k c)
    rw [← ih, flat_cons]
    have hx : (cvals x).length = 6 := rfl
    have e : ∀ (j : Nat) (t : List Value) (v : Value), (cvals x ++ t).set ((k + 1) * 6 + j) v = cvals x ++ t.set (k * 6 + j) v := by
      intro j t v
      rw [List.set_append_right _ _ (by rw [hx]; omega), hx, show (k + 1) * 6 + j - 6 = k * 6 + j from by omega]
    have e0 : ∀ (t : List Value) (v : Value), (cvals x ++ t).set ((k + 1) * 6) v = cvals x ++ t.set (k * 6) v := e 0
    rw [e0, e, e, e, e, e]
def Cs (w : World) (x : Value) (l : List Cl) : Prop := Recs w x 6 l.length (l.map cvals)
def OwnCs (w : World) (base : Nat) (v : Value) (l : List Cl) : Prop := w.ownsRow base 63 6 v l.length (flat l)
theorem OwnCs.cs {w : World} {base : Nat} {v : Value} {l : List Cl} (h : OwnCs w base v l) : Cs w v l := Recs.own h (List.length_map _) (cvals_len l)
theorem OwnCs.kept {w w' : World} {base : Nat} {v : Value} {l : List Cl} (h : OwnCs w base v l) (hb : Below w.heap.size w w') : OwnCs w' base v l :=
  World.ownsRow.kept (row := none) h ⟨hb.os, hb.tape, hb.output, hb.size, fun k hk _ => hb.block k hk⟩ (by cases v.ownBlock <;> simp)
theorem OwnCs.nil (w : World) (base : Nat) : OwnCs w base (.slice none 0 0) [] := World.ownsRow_nil _ _ _ _
theorem OwnCs.low {w : World} {base b2 : Nat} {v : Value} {l : List Cl} (h : OwnCs w base v l) (hb : b2 ≤ base) : OwnCs w b2 v l := Blk.low h hb
theorem OwnCs.lt {w : World} {base : Nat} {v : Value} {l : List Cl} (h : OwnCs w base v l) (k : Nat) (hk : v.ownBlock = some k) : base ≤ k ∧ k < w.heap.size := World.ownsRow.lt h k hk
theorem OwnCs.shape {w : World} {base : Nat} {v : Value} {l : List Cl} (h : OwnCs w base v l) : (v = .slice none 0 0 ∧ l = []) ∨ ∃ g cap, v = .slice (some ⟨g, 0, none⟩) l.length cap ∧ base ≤ g ∧ l.length ≤ cap := by
  rcases h.2 with ⟨rfl, h0⟩ | ⟨g, cap, cur, rfl, hb, hg, hc, _⟩
  · exact .inl ⟨rfl, List.eq_nil_of_length_eq_zero h0⟩
  · exact .inr ⟨g, cap, rfl, hb, hc⟩
theorem Cs.kept {w w' : World} {x : Value} {l : List Cl} (h : Cs w x l) (hb : Below w.heap.size w w') : Cs w' x l := Recs.kept h hb
theorem Cs.drewN {w : World} {x : Value} {l : List Cl} (h : Cs w x l) (q : Nat) : Cs (w.drewN q) x l := h
theorem Cs.nil (w : World) : Cs w (.slice none 0 0) [] := by
  show Recs w _ 6 0 []
  exact ⟨rfl, fun _ h => (by cases h), .inl ⟨rfl, rfl⟩⟩
theorem map_getD {l : List Cl} {k : Nat} (h : k < l.length) : (l.map cvals).getD k [] = cvals (g l k) := by
  rw [List.getD, List.getElem?_map, g_get h]; rfl
theorem Cs.form {w : World} {x : Value} {l : List Cl} (h : Cs w x l) : ∃ A c, x = .slice A l.length c ∧ ∀ k, k < l.length → ∃ ad, A = some ad ∧ At w (ad.add (k * 6)) (cvals (g l k)) := by
  obtain ⟨A, c, rfl, hc⟩ := Recs.form h
  refine ⟨A, c, rfl, fun k hk => ?_⟩
  obtain ⟨ad, h1, h2⟩ := hc k hk
  exact ⟨ad, h1, by rwa [map_getD hk] at h2⟩
theorem Cs.flat {w : World} {ad : Addr} {n c : Nat} {l : List Cl} (h : Cs w (.slice (some ad) n c) l) : n = l.length ∧ ∀ j u, (Row.flat l)[j]? = some u → w.cell? (ad.add j) = some u := by
  obtain ⟨A, c', e, hc⟩ := h.form
  injection e with e1 e2 e3
  subst e1
  refine ⟨e2, fun j u hu => ?_⟩
  have hj : j < l.length * 6 := by rw [← flat_length]; exact (List.getElem?_eq_some_iff.1 hu).1
  have hk : j / 6 < l.length := by omega
  obtain ⟨ad', e, hat⟩ := hc (j / 6) hk
  injection e with e
  subst e
  have hj6 : j % 6 < 6 := Nat.mod_lt _ (by decide)
  have hd : j = j / 6 * 6 + j % 6 := by omega
  have := hat (j % 6) u (by rw [hd, flat_get hk hj6] at hu; exact hu)
  rw [Go.Deep.add_add, ← hd] at this
  exact this
theorem Cs.of {w : World} {ad : Addr} {c : Nat} {l : List Cl} (h : ∀ j u, (Row.flat l)[j]? = some u → w.cell? (ad.add j) = some u) : Cs w (.slice (some ad) l.length c) l := by
  refine ⟨List.length_map _, cvals_len l, .inr ⟨ad, c, rfl, fun i r hr j u hu => ?_⟩⟩
  rw [Go.Deep.add_add]
  exact h _ u (flatten_get _ (cvals_len l) i r hr j u hu)
theorem cell_info : (Tryd.prog.info? 63).map (fun i => (i.zero, i.size, i.bytes)) = some (some (.agg #[.int .i64 0, .string ⟨#[]⟩, .int .i64 0, .int .i64 0, .int .i64 0, .int .i64 0]), 6, 56) := by kernel_rfl
theorem cell_row : ∃ i : TypeInfo, Tryd.prog.info? 63 = some i ∧ i.zero = some (.agg #[.int .i64 0, .string ⟨#[]⟩, .int .i64 0, .int .i64 0, .int .i64 0, .int .i64 0]) ∧ i.size = 6 ∧ i.bytes = 56 := by
  obtain ⟨i, h, h1, h2, h3⟩ := info_parts cell_info
  exact ⟨i, h, h1, h2, h3⟩
theorem run_append_cs {w : World} {base : Nat} {ty : TypeId} {v x : Value} {l r : List Cl} (hown : OwnCs w base v l) (hx : Cs w x r) (hl : l.length + r.length ≤ 1000000000) (hbase : base ≤ w.heap.size) :
    ∃ v' w', (Builtin.append_ #[28, 28] ty #[v, x]).run Tryd.prog w = .ok v' w' ∧ OwnCs w' base v' (l ++ r) ∧ w.grownBy w' v.ownBlock ∧ (v'.ownBlock = v.ownBlock ∨ v'.ownBlock = some w.heap.size) := by
  obtain ⟨i, hi, hz, h6, h56⟩ := cell_row
  rcases hx.2.2 with ⟨rfl, h0⟩ | ⟨ad, c, rfl, _⟩
  · have hr : r = [] := List.eq_nil_of_length_eq_zero h0
    subst hr
    exact ⟨v, w, run_append_owned_none (P := Tryd.prog) (w := w) base _ ty 63 i 6 Tryd.underlying28 hi v l.length _ hown, by rw [List.append_nil]; exact hown, World.grownBy.refl w _, .inl rfl⟩
  · obtain ⟨v', w', hr, h2, h3, _, h5⟩ := run_append_own_at (P := Tryd.prog) w base 28 ty 63 i _ 6 56 Tryd.underlying28 hi hz h6 h56 rfl (by decide) v l.length _ hown ad r.length c (flat r) (flat_length r) hx.flat.2 (flat_cells r) (by simp only [maxLen]; omega) (by omega) hbase
    exact ⟨v', w', hr, by unfold OwnCs; rw [List.length_append, flat_append]; exact h2, h3, h5⟩
theorem wp_append_cs {w : World} {ops : Array Oper} {rest : List Oper} {o : Oper} {a : Act} {Q : Exit → Act → World → Prop} {s x : Operand} (hgd : o.guard = none)
    (ho : o.op = .call { callee := .builtin .append, args := #[s, x], argTypes := #[28, 28] }) (base : Nat) (v y : Value) (l r : List Cl) (hs : a.eval s = v) (hown : OwnCs w base v l)
    (hy : a.eval x = y) (hx : Cs w y r) (hl : l.length + r.length ≤ 1000000000) (hbase : base ≤ w.heap.size)
    (h : ∀ v' w', OwnCs w' base v' (l ++ r) → w.grownBy w' v.ownBlock → (v'.ownBlock = v.ownBlock ∨ v'.ownBlock = some w.heap.size) → wpList Tryd.prog ops Q rest (a.put o.dst v') w') :
    wpList Tryd.prog ops Q (o :: rest) a w := by
  refine wpList_plain hgd fun K hK => ?_
  obtain ⟨v', w', hr, h2, h3, h4⟩ := run_append_cs (ty := o.type) hown hx hl hbase
  unfold Oper.wp execOp
  simp only [ho, resolve, invoke, builtin, Sem.run_bind, Sem.run_pure, Result.andThen_ok, List.map_toArray, List.map_cons, List.map_nil, hs, hy, hr]
  exact hK _ _ (h v' w' h2 h3 h4)
theorem below_cs {B : Nat} {a w w' : World} {v : Value} {l : List Cl} (h : Below B a w) (hg : w.grownBy w' v.ownBlock) (hB : B ≤ w.heap.size) (ho : OwnCs w B v l) : Below B a w' :=
  h.grown hg hB fun k hk => (ho.lt k hk).1
theorem Cs.one (w : World) (c : Cl) (e : TypeId) (cap : Nat) (arr : Array Value) (h : (cvals c).toArray = arr) : Cs (w.alloc (.cells arr e)) (.slice (some ⟨w.heap.size, 0, none⟩) 1 cap) [c] := by
  subst h
  refine Cs.of (l := [c]) fun j u hu => ?_
  have hl : (w.alloc (.cells (cvals c).toArray e)).heap[w.heap.size]? = some (.cells (cvals c).toArray e) := by
    show (w.heap.push _)[w.heap.size]? = _
    simp
  exact World.news_of_block hl j u (by simpa [Row.flat] using hu)
theorem take_succ_g {l : List Cl} {k : Nat} (h : k < l.length) : l.take (k + 1) = l.take k ++ [g l k] := by
  rw [List.take_succ_eq_append_getElem h, g_eq h]
set_option maxHeartbeats 800000 in
theorem copyCells_any (l : List Cl) (x : Value) (w : World) (hx : Cs w x l) (hn : l.length ≤ 100000000) :
    Calls Tryd.prog 51 #[x] w fun e w' => ∃ v, e = .returned v ∧ OwnCs w' w.heap.size v l ∧ Below w.heap.size w w' := by
  obtain ⟨A, c, rfl, ha⟩ := hx.form
  have ha' := Lib.hid ha
  clear ha hx
  go_enter Tryd.func51, Tryd.ntmps51
  go_wp2_with fail
  go_loopw [3, 4] (fun v i wr => ∃ k : Nat, k ≤ l.length ∧ i = .int .i64 k ∧ OwnCs wr w.heap.size v (l.take k) ∧ Below w.heap.size w wr) (fun _ i _ => l.length - (intOf i).toNat)
  case atStart => exact ⟨0, by omega, rfl, OwnCs.nil _ _, Below.refl _ _⟩
  case round =>
    obtain ⟨k, hk, rfl, hown, hbl⟩ := hrel
    by_cases hlt : k < l.length
    · obtain ⟨ad, rfl, K⟩ := ha'.out k hlt
      have K := K.kept hbl
      have HT := Lib.hid (take_succ_g hlt)
      have hlk : Hid ((l.take k).length = k) := Lib.hid (by rw [List.length_take]; omega)
      have HC : Hid (∀ (w : World) (cap : Nat), Cs (w.alloc (.cells (cvals (g l k)).toArray 63)) (.slice (some ⟨w.heap.size, 0, none⟩) 1 cap) [g l k]) := Lib.hid (fun w cap => Cs.one w _ _ _ _ rfl)
      generalize g l k = ev at K HT HC
      obtain ⟨rune, cb, wide, ⟨fg, bg, fl⟩⟩ := ev
      have h0 := K.head
      have h1 := K.next 0 rfl
      have h2 := K.next 1 rfl
      have h3 := K.next 2 rfl
      have h4 := K.next 3 rfl
      have h5 := K.next 4 rfl
      have HOW := Lib.hid hown
      clear K hown
      go_wp2_with (at_builtin; refine wp_append_cs rfl rfl w.heap.size _ _ (l.take k) _ rfl (HOW.out.kept ((Below.refl _ _).alloc (Nat.le_refl _) _)) rfl (HC.out _ _) (by rw [hlk.out]; simp; omega) (by simp; have := hbl.size; omega) ?_; intro v1 w1 ho1 hg1 hat1)
      have hbl2 : Below w.heap.size w w1 := (hbl.alloc hbl.size _).grown hg1 (by simp; have := hbl.size; omega) (fun j hj => (HOW.out.lt j hj).1)
      have HO2 := Lib.hid ho1
      clear ho1
      go_roundw
      case rel => exact ⟨k + 1, by omega, by go_num, by rw [HT.out]; exact HO2.out, hbl2⟩
      case measure => simp [intOf]; omega
    · have hkn : k = l.length := by omega
      subst hkn
      have HE : Hid (l.take l.length = l) := Lib.hid (List.take_of_length_le (Nat.le_refl _))
      go_wp2_with fail
      go_ret
      rw [HE.out] at hown
      exact ⟨_, rfl, hown, hbl⟩
@[go_sem] theorem neq_cell (r : Int) (cb : ByteArray) (x fg bg fl : Int) (w : World) :
    (binOp .neq 63 (.agg #[.int .i64 r, .string cb, .int .i64 x, .int .i64 fg, .int .i64 bg, .int .i64 fl]) (.agg #[.int .i64 r, .string cb, .int .i64 x, .int .i64 fg, .int .i64 bg, .int .i64 fl])).run Tryd.prog w = .ok (.bool false) w := by
  simp [go_sem]
end Row
end
section
open Go.RowKit
namespace Row
theorem OwnCs.n {w : World} {base b n cap : Nat} {l : List Cl} (h : OwnCs w base (.slice (some ⟨b, 0, none⟩) n cap) l) : n = l.length := by
  rcases h.shape with ⟨e, _⟩ | ⟨_, _, e, _⟩
  · injection e with e; cases e
  · injection e
theorem OwnCs.cell {w : World} {base b n cap : Nat} {l : List Cl} (h : OwnCs w base (.slice (some ⟨b, 0, none⟩) n cap) l) {k j : Nat} (hk : k < l.length) (hj : j < 6) :
    w.cell? ⟨b, k * 6 + j, none⟩ = (cvals (g l k))[j]? := by
  have hn : n = l.length := h.n
  subst hn
  rw [World.ownsRow.cellAt h (k * 6 + j) (by omega), flat_get hk hj]
theorem OwnCs.free {w : World} {base b n cap : Nat} {l : List Cl} (h : OwnCs w base (.slice (some ⟨b, 0, none⟩) n cap) l) (j : Nat) : w.frozen? ⟨b, j, none⟩ = false := by
  have hn : n = l.length := h.n
  subst hn
  exact World.ownsRow.frozenAt h j
def putCell (w : World) (b k : Nat) (c : Cl) : World :=
  (((((w.setCell ⟨b, k * 6, none⟩ (.int .i64 c.rune)).setCell ⟨b, k * 6 + 1, none⟩ (.string ⟨c.comb.toArray⟩)).setCell ⟨b, k * 6 + 2, none⟩ (.int .i64 c.wide)).setCell ⟨b, k * 6 + 3, none⟩ (.int .i64 c.a.fg)).setCell ⟨b, k * 6 + 4, none⟩ (.int .i64 c.a.bg)).setCell ⟨b, k * 6 + 5, none⟩ (.int .i64 c.a.flags)
theorem OwnCs.put {w : World} {base b n cap : Nat} {l : List Cl} (h : OwnCs w base (.slice (some ⟨b, 0, none⟩) n cap) l) {k : Nat} (hk : k < l.length) (c : Cl) :
    OwnCs (putCell w b k c) base (.slice (some ⟨b, 0, none⟩) n cap) (l.set k c) := by
  have hn : n = l.length := h.n
  subst hn
  have s0 := World.ownsRow.stored h (k * 6) (.int .i64 c.rune)
  have s1 := s0.1.stored (k * 6 + 1) (.string ⟨c.comb.toArray⟩)
  have s2 := s1.1.stored (k * 6 + 2) (.int .i64 c.wide)
  have s3 := s2.1.stored (k * 6 + 3) (.int .i64 c.a.fg)
  have s4 := s3.1.stored (k * 6 + 4) (.int .i64 c.a.bg)
  have s5 := s4.1.stored (k * 6 + 5) (.int .i64 c.a.flags)
  have e := s5.1
  rw [flat_set l k hk c] at e
  unfold OwnCs
  rw [List.length_set]
  exact e
theorem below_put {B b : Nat} {a w : World} (h : Below B a w) (hB : B ≤ b) (k : Nat) (c : Cl) : Below B a (putCell w b k c) :=
  (((((h.setCell hB _).setCell hB _).setCell hB _).setCell hB _).setCell hB _).setCell hB _
set_option maxHeartbeats 800000 in
theorem eqCells_same (l : List Cl) (x y : Value) (w : World) (hx : Cs w x l) (hy : Cs w y l) (hn : l.length ≤ 100000000) :
    Calls Tryd.prog 38 #[x, y] w fun e w' => e = .returned (.bool true) ∧ ∃ q, w' = w.drewN q := by
  obtain ⟨A, c, rfl, ha⟩ := hx.form
  obtain ⟨A', c', rfl, hb⟩ := hy.form
  have ha' := Lib.hid ha
  have hb' := Lib.hid hb
  clear ha hb hx hy
  go_enter Tryd.func38, Tryd.ntmps38
  go_wp2_with fail
  go_loopw [5] (fun i wr => ∃ k q : Nat, k ≤ l.length ∧ i = .int .i64 k ∧ wr = w.drewN q) (fun i _ => l.length - (intOf i).toNat)
  case atStart => exact ⟨0, 0, by omega, rfl, rfl⟩
  case round =>
    obtain ⟨k, q, hk, rfl, rfl⟩ := hrel
    by_cases hlt : k < l.length
    · obtain ⟨ad, rfl, K⟩ := ha'.out k hlt
      obtain ⟨ad', rfl, K'⟩ := hb'.out k hlt
      generalize g l k = ev at K K'
      obtain ⟨rune, cb, wide, ⟨fg, bg, fl⟩⟩ := ev
      have h0 := K.head
      have h1 := K.next 0 rfl
      have h2 := K.next 1 rfl
      have h3 := K.next 2 rfl
      have h4 := K.next 3 rfl
      have h5 := K.next 4 rfl
      have i0 := K'.head
      have i1 := K'.next 0 rfl
      have i2 := K'.next 1 rfl
      have i3 := K'.next 2 rfl
      have i4 := K'.next 3 rfl
      have i5 := K'.next 4 rfl
      clear K K'
      go_wp2_with fail
      go_quiet (fail)
      go_wp2_with fail
      go_roundw
      case rel => exact ⟨k + 1, _, by omega, by go_num, rfl⟩
      case measure => simp [intOf]; omega
    · go_wp2_with fail
      go_ret
      exact ⟨rfl, _, rfl⟩
set_option maxHeartbeats 400000 in
theorem blank_any (a : Look) (w : World) : Calls Tryd.prog 93 #[.agg #[.int .i64 a.fg, .int .i64 a.bg, .int .i64 a.flags]] w fun e w' => e = .returned (cagg (blank a)) ∧ Below w.heap.size w w' := by
  go_enter Tryd.func93, Tryd.ntmps93
  go_wp2_with fail
  go_returns
  exact ⟨rfl, by repeat (first | exact Below.refl _ _ | refine Below.alloc ?_ (Nat.le_refl _) _ | refine Below.alloc ?_ (by simp) _ | refine Below.setCell ?_ (by simp) _)⟩
set_option maxHeartbeats 400000 in
theorem refblank_any (a : Look) (w : World) : Calls Tryd.prog 50 #[.agg #[.int .i64 a.fg, .int .i64 a.bg, .int .i64 a.flags]] w fun e w' => e = .returned (cagg (blank a)) ∧ Below w.heap.size w w' := by
  go_enter Tryd.func50, Tryd.ntmps50
  go_wp2_with fail
  go_returns
  exact ⟨rfl, by repeat (first | exact Below.refl _ _ | refine Below.alloc ?_ (Nat.le_refl _) _ | refine Below.alloc ?_ (by simp) _ | refine Below.setCell ?_ (by simp) _)⟩
set_option maxHeartbeats 400000 in
theorem sec_any (a : Look) (w : World) : Calls Tryd.prog 90 #[.agg #[.int .i64 a.fg, .int .i64 a.bg, .int .i64 a.flags]] w fun e w' => e = .returned (cagg (sec a)) ∧ Below w.heap.size w w' := by
  go_enter Tryd.func90, Tryd.ntmps90
  go_wp2_with fail
  go_returns
  exact ⟨rfl, by repeat (first | exact Below.refl _ _ | refine Below.alloc ?_ (Nat.le_refl _) _ | refine Below.alloc ?_ (by simp) _ | refine Below.setCell ?_ (by simp) _)⟩
theorem box_cells {w : World} {b : Nat} {a : Look} (h : w.heap[b]? = some (.cells #[.int .i64 a.fg, .int .i64 a.bg, .int .i64 a.flags] 60 (0, 0))) :
    w.cell? ⟨b, 0, none⟩ = some (.int .i64 a.fg) ∧ w.cell? ⟨b, 1, none⟩ = some (.int .i64 a.bg) ∧ w.cell? ⟨b, 2, none⟩ = some (.int .i64 a.flags) :=
  ⟨Blk.cell h 0, Blk.cell h 1, Blk.cell h 2⟩
end Row
end
section
open Go.RowKit
namespace Row
theorem rngY {n lo hi : Int} (h : lo ≤ n ∧ n ≤ hi) : rng n lo hi = true := by unfold rng; rw [decide_eq_true h.1, decide_eq_true h.2]; rfl
theorem rngN {n lo hi : Int} (h : ¬ (lo ≤ n ∧ n ≤ hi)) : rng n lo hi = false := by
  unfold rng
  rw [Bool.and_eq_false_iff]
  by_cases k : lo ≤ n
  · exact .inr (decide_eq_false fun e => h ⟨k, e⟩)
  · exact .inl (decide_eq_false k)
def Rm (w : World) (x : Value) (l : List Cl) : Prop := Cs w x l ∧ ∃ A c, x = .slice A l.length c ∧ l.length ≤ c
theorem Rm.cs {w : World} {x : Value} {l : List Cl} (h : Rm w x l) : Cs w x l := h.1
theorem Rm.kept {w w' : World} {x : Value} {l : List Cl} (h : Rm w x l) (hb : Below w.heap.size w w') : Rm w' x l := ⟨h.1.kept hb, h.2⟩
theorem Rm.nil (w : World) : Rm w (.slice none 0 0) [] := ⟨Cs.nil w, none, 0, rfl, Nat.le_refl _⟩
theorem OwnCs.rm {w : World} {base : Nat} {v : Value} {l : List Cl} (h : OwnCs w base v l) : Rm w v l := by
  refine ⟨h.cs, ?_⟩
  rcases h.shape with ⟨rfl, rfl⟩ | ⟨g, cap, rfl, _, hc⟩
  · exact ⟨none, 0, rfl, Nat.le_refl _⟩
  · exact ⟨_, _, rfl, hc⟩
theorem Rm.room {w : World} {A : Option Addr} {n c : Nat} {l : List Cl} (h : Rm w (.slice A n c) l) : n = l.length ∧ l.length ≤ c := by
  obtain ⟨_, A', c', e, hc⟩ := h
  injection e with e1 e2 e3
  exact ⟨e2, by omega⟩
theorem flat_part {l : List Cl} {lo hi : Nat} (h1 : lo ≤ hi) (h2 : hi ≤ l.length) {j : Nat} {u : Value} (hu : (Row.flat ((l.drop lo).take (hi - lo)))[j]? = some u) : (Row.flat l)[lo * 6 + j]? = some u := by
  have hj : j < (Row.flat ((l.drop lo).take (hi - lo))).length := (List.getElem?_eq_some_iff.1 hu).1
  have hs : Row.flat l = Row.flat (l.take lo) ++ (Row.flat ((l.drop lo).take (hi - lo)) ++ Row.flat ((l.drop lo).drop (hi - lo))) := by
    rw [← flat_append, List.take_append_drop, ← flat_append, List.take_append_drop]
  have hl : (Row.flat (l.take lo)).length = lo * 6 := by rw [flat_length, List.length_take, Nat.min_eq_left (by omega)]
  rw [hs, List.getElem?_append_right (by omega), hl, Nat.add_sub_cancel_left, List.getElem?_append_left hj]
  exact hu
theorem Rm.span {w : World} {A : Option Addr} {n c : Nat} {l : List Cl} (h : Rm w (.slice A n c) l) (lo hi : Nat) (h1 : lo ≤ hi) (h2 : hi ≤ l.length) (i j : Int) (ei : i = lo) (ej : j = hi) :
    ∃ A' c', (∀ w' : World, (Instr.slice 28 (.slice A n c) (some (.int .i64 i)) (some (.int .i64 j)) none).run Tryd.prog w' = .ok (.slice A' (hi - lo) c') w') ∧ Rm w (.slice A' (hi - lo) c') ((l.drop lo).take (hi - lo)) := by
  subst ei; subst ej
  obtain ⟨en, hc⟩ := h.room
  have hu : Tryd.prog.underlying 28 = some (.slice (Tryd.prog.elem 28)) := by kernel_rfl
  have hlen : ((l.drop lo).take (hi - lo)).length = hi - lo := by rw [List.length_take, List.length_drop]; omega
  refine ⟨if c = lo then A else A.map (·.add (lo * 6)), c - lo, fun w' => ?_, ?_, ?_⟩
  · rw [run_slice_lh w' 28 A n c hu .i64 .i64 lo hi (by omega) (by omega) (by omega)]
    have hs : (sizeOf (Tryd.prog.elem 28)).run Tryd.prog w' = .ok 6 w' := by kernel_rfl
    rw [hs]
    simp [Result.andThen, sliced]
  · have hcs := h.cs
    rcases hcs.2.2 with ⟨e, h0⟩ | ⟨ad, c2, e, hcell⟩
    · injection e with e1 e2 e3
      subst e1; subst e3
      have h0 : l.length = 0 := h0
      have e4 : hi - lo = 0 := by omega
      have e5 : lo = 0 := by omega
      subst e5
      have : (l.drop 0).take (hi - 0) = [] := List.eq_nil_of_length_eq_zero (by rw [hlen]; exact e4)
      rw [this, e4, if_pos rfl]
      exact Cs.nil w
    · injection e with e1 e2 e3
      subst e1; subst e3
      by_cases hck : c = lo
      · rw [if_pos hck]
        have hd : (l.drop lo).take (hi - lo) = [] := List.eq_nil_of_length_eq_zero (by rw [hlen]; omega)
        have := Cs.of (w := w) (ad := ad) (c := c - lo) (l := (l.drop lo).take (hi - lo)) fun j u hu => by rw [hd] at hu; simp [Row.flat] at hu
        rwa [hlen] at this
      · rw [if_neg hck]
        have := Cs.of (w := w) (ad := ad.add (lo * 6)) (c := c - lo) (l := (l.drop lo).take (hi - lo)) fun j u hu => by
          rw [Go.Deep.add_add]
          subst en
          exact hcs.flat.2 (lo * 6 + j) u (flat_part h1 h2 hu)
        rwa [hlen] at this
  · exact ⟨_, _, by rw [hlen], by rw [hlen]; omega⟩
theorem Rm.row {w : World} {A : Option Addr} {n c : Nat} {l : List Cl} (h : Rm w (.slice A n c) l) (C i : Nat) (h2 : (i + 1) * C ≤ l.length) (p q : Int) (ep : p = ((i * C : Nat) : Int)) (eq : q = (((i + 1) * C : Nat) : Int)) :
    ∃ A' c', (∀ w' : World, (Instr.slice 28 (.slice A n c) (some (.int .i64 p)) (some (.int .i64 q)) none).run Tryd.prog w' = .ok (.slice A' C c') w') ∧ Rm w (.slice A' C c') (rowAt l C i) := by
  have e : (i + 1) * C - i * C = C := by rw [Nat.succ_mul]; omega
  obtain ⟨A', c', hr, hm⟩ := h.span (i * C) ((i + 1) * C) (by rw [Nat.succ_mul]; omega) h2 p q ep eq
  rw [e] at hr hm
  exact ⟨A', c', hr, hm⟩
theorem OwnCs.take {w : World} {base b n cap : Nat} {l : List Cl} (h : OwnCs w base (.slice (some ⟨b, 0, none⟩) n cap) l) (k : Nat) (hk : k ≤ l.length) : OwnCs w base (.slice (some ⟨b, 0, none⟩) k cap) (l.take k) := by
  have hn : n = l.length := h.n
  have hl : (l.take k).length = k := by rw [List.length_take]; omega
  refine ⟨by rw [flat_length], ?_⟩
  rcases h.2 with ⟨e, _⟩ | ⟨g', cap', cur, e, h1, h2, h3, h4, h5, h6⟩
  · injection e with e; cases e
  · injection e with e1 e2 e3
    injection e1 with e1
    injection e1 with e1
    subst e1; subst e3
    refine .inr ⟨b, cap, cur, by rw [hl], h1, h2, by omega, h4, h5, ?_⟩
    have e7 : Row.flat l = Row.flat (l.take k) ++ Row.flat (l.drop k) := by rw [← flat_append, List.take_append_drop]
    have e8 : (Row.flat l).take (k * 6) = Row.flat (l.take k) := by rw [e7, List.take_left' (by rw [flat_length, hl])]
    rw [hl, ← e8, ← h6, List.take_take, Nat.min_eq_left (by omega)]
theorem OwnCs.set {w : World} {base g : Nat} {v : Value} {l : List Cl} (h : OwnCs w base v l) (hg : g < base) (j : Nat) (u : Value) : OwnCs (w.setCell ⟨g, j, none⟩ u) base v l := by
  refine ⟨h.1, ?_⟩
  rcases h.2 with h0 | ⟨b, cap, cur, rfl, hb, hc, rest⟩
  · exact .inl h0
  · exact .inr ⟨b, cap, cur, rfl, hb, Blk.other hc (by omega) j u, rest⟩
theorem new_alloc (w : World) (o : Obj) (k : Nat) (h : w.heap.size = k) : (w.alloc o).heap[k]? = some o := by subst h; exact heap_alloc_new w o
theorem old_alloc {w : World} {k : Nat} {o : Obj} (h : w.heap[k]? = some o) (o' : Obj) : (w.alloc o').heap[k]? = some o := Blk.kept h ((Below.refl _ _).alloc (Nat.le_refl _) _)
abbrev gbox (R C : Int) (v : Value) : Obj := .cells #[.int .i64 R, .int .i64 C, v] 30 (0, 0)
def gput (w : World) (g : Nat) (R C : Int) (v : Value) : World := ((w.setCell ⟨g, 0, none⟩ (.int .i64 R)).setCell ⟨g, 1, none⟩ (.int .i64 C)).setCell ⟨g, 2, none⟩ v
theorem gput_box {w : World} {g : Nat} {R0 C0 : Int} {v0 : Value} (h : w.heap[g]? = some (gbox R0 C0 v0)) (R C : Int) (v : Value) : (gput w g R C v).heap[g]? = some (gbox R C v) := Blk.set (Blk.set (Blk.set h 0 _) 1 _) 2 _
theorem gput_other {w : World} {g b : Nat} {o : Obj} (h : w.heap[b]? = some o) (hn : b ≠ g) (R C : Int) (v : Value) : (gput w g R C v).heap[b]? = some o := Blk.other (Blk.other (Blk.other h hn _ _) hn _ _) hn _ _
theorem gput_own {w : World} {base g : Nat} {x : Value} {l : List Cl} (h : OwnCs w base x l) (hg : g < base) (R C : Int) (v : Value) : OwnCs (gput w g R C v) base x l := ((h.set hg _ _).set hg _ _).set hg _ _
theorem gput_below {B g : Nat} {a w : World} (h : Below B a w) (hB : B ≤ g) (R C : Int) (v : Value) : Below B a (gput w g R C v) := ((h.setCell hB _).setCell hB _).setCell hB _
end Row
end
end Go.Proofs.YtjcfbeiljdohcaaDoor
