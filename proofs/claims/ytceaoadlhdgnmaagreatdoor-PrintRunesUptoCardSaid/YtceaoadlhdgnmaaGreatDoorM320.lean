/- Joined texts: PrnPage, PrnLines. -/
import Derived.Test.YtceaoadlhdgnmaaGreatDoorM105
import Derived.Test.YtceaoadlhdgnmaaGreatDoorM107
import Derived.Deep.CutRange
import Derived.Deep.DeepCutAuto
namespace Go.Proofs.YtceaoadlhdgnmaaGreatDoor
set_option maxRecDepth 100000
section
open Go.RowKit
namespace Scr
open Go.Proofs.YtceaoadlhdgnmaaGreatDoor.Row Wid
def drawnL : List Nat := [9670, 9618, 9225, 9228, 9229, 9226, 176, 177, 9252, 9227, 9496, 9488, 9484, 9492, 9532, 9146, 9147, 9472, 9148, 9149, 9500, 9508, 9524, 9516, 9474, 8804, 8805, 960, 8800, 163, 183]
def drawnAt (r : Int) : Int := if 96 ≤ r ∧ r < 127 then (drawnL.getD (r - 96).toNat 0 : Nat) else r
theorem drawn_yes {j : Nat} {r : Int} (hj : j < 31) (h : 96 + (j : Int) = r) : drawnAt r = (drawnL.getD j 0 : Nat) := by
  subst h
  unfold drawnAt
  rw [if_pos (by omega), show ((96 + (j : Int)) - 96).toNat = j from by omega]
theorem drawn_no {r : Int} (h : r < 96 ∨ 127 ≤ r) : drawnAt r = r := if_neg (by omega)
def roomS (s : S) (n : Nat) : List Cl := bif hasB s.modes 2 then insertOf (lineS s) s.cur.col.toNat n s.cur.a else lineS s
theorem held_room (n : Nat) (a : Look) : Held (List.replicate n (Row.blank a)) := fun i hi => by
  rw [List.length_replicate] at hi
  have : g (List.replicate n (Row.blank a)) i = Row.blank a := by simp [g, hi]
  rw [this]
  exact Nat.zero_le _
theorem room_facts (s : S) (n : Nat) (L : LineFacts s) (ha : attrOk s.cur.a = true) (hf : s.cur.col.toNat + n ≤ (lineS s).length) : (roomS s n).length = (lineS s).length ∧ RowOk (roomS s n) ∧ Held (roomS s n) := by
  unfold roomS
  cases hasB s.modes 2
  · exact ⟨rfl, L.ok, L.held⟩
  · have h := insertOk L.ok ha hf
    refine ⟨h.2, h.1, ?_⟩
    show Held (insertOf (lineS s) s.cur.col.toNat n s.cur.a)
    unfold insertOf
    have hl := repl_length (l := lineS s) (low := (lineS s).length - n) (high := (lineS s).length) (by omega) (Nat.le_refl _) []
    rw [List.length_nil] at hl
    have h1 : Held (repl (lineS s) ((lineS s).length - n) (lineS s).length []) := held_repl L.held held_nil (by omega) (Nat.le_refl _)
    exact held_repl h1 (held_room n _) (Nat.le_refl _) (by omega)
def atCol (s : S) (c : Int) : S := { s with cur := { s.cur with col := c } }
theorem atCol_ok {s : S} (h : Ok s) (hw : s.cur.wrap = false) {c : Int} (h0 : 0 ≤ c) (h1 : c ≤ s.main.cols - 1) : Ok (atCol s c) := by
  refine ⟨h.m, h.o, h.r, h.c, ?_, h.k2, h.k3, h.g, h.b, h.n, h.t, h.l⟩
  have hk := h.k1
  unfold cursorB at hk
  unfold cursorB atCol
  simp only [Bool.and_eq_true] at hk ⊢
  exact ⟨hk.1, rng_iff.2 ⟨h0, h1⟩, by rw [hw]; rfl, hk.2.2.2⟩
theorem down_same {s : S} (h : Ok s) : (downS s).modes = s.modes ∧ (downS s).cur.wrap = false ∧ (downS s).cur.col = s.cur.col ∧ (downS s).cur.a = s.cur.a ∧ setOf (downS s).cur = setOf s.cur ∧ (downS s).main.cols = s.main.cols ∧ (downS s).title = s.title ∧ (downS s).top = s.top ∧ (downS s).bottom = s.bottom := by
  have f := h.facts
  unfold downS
  split
  · unfold putG
    cases hs : (noWrap s).swapped with
    | false =>
      rw [if_neg (by simp)]
      exact ⟨rfl, rfl, rfl, rfl, rfl, f.gc, rfl, rfl, rfl⟩
    | true =>
      rw [if_pos rfl]
      exact ⟨rfl, rfl, rfl, rfl, rfl, rfl, rfl, rfl, rfl⟩
  · exact ⟨rfl, rfl, rfl, rfl, rfl, rfl, rfl, rfl, rfl⟩
def wrapS (s : S) : S := atCol (downS s) 0
theorem wrapS_ok {s : S} (h : Ok s) : Ok (wrapS s) := by
  have f := h.facts
  have d := down_same h
  exact atCol_ok (downS_ok h) d.2.1 (Int.le_refl _) (by rw [d.2.2.2.2.2.1]; have := f.c1; omega)
theorem drawn_widths : ∀ j : Fin 31, wid (96 + (j.val : Int)) = 1 ∧ wid ((drawnL.getD j.val 0 : Nat) : Int) = 1 := of_decide_eq_true (by kernel_rfl)
theorem drawn_wid (r : Int) : wid (drawnAt r) = wid r := by
  unfold drawnAt
  split
  · rename_i h
    have hj := drawn_widths ⟨(r - 96).toNat, by omega⟩
    simp only at hj
    rw [hj.2]
    rw [show (96 : Int) + ((r - 96).toNat : Int) = r by omega] at hj
    exact hj.1.symm
  · rfl
def shownS (k : Cur) (r : Int) : Int := if setOf k = 1 then drawnAt r else r
theorem shown_wid (k : Cur) (r : Int) : wid (shownS k r) = wid r := by
  unfold shownS
  split
  · exact drawn_wid r
  · rfl
def bodyS (t : S) (r : Int) (n : Nat) : S := passed (withLine t (mid (roomS t n) t.cur.col.toNat (t.cur.col.toNat + n) (cellsOf (shownS t.cur r) t.cur.a))) (min (t.cur.col + n) (t.main.cols - 1)) (decide (t.cur.col + n = t.main.cols) && hasB t.modes 1) r
def writeS (s : S) (r : Int) (n : Nat) : S :=
  if s.main.cols < (n : Int) ∨ (¬ s.cur.col + n ≤ s.main.cols ∧ hasB s.modes 1 = false) then s
  else if hasB s.modes 1 = true ∧ (s.cur.wrap = true ∨ ¬ s.cur.col + n ≤ s.main.cols) then bodyS (wrapS s) r n else bodyS s r n
theorem bodyS_ok {t : S} (h : Ok t) {r : Int} {n : Nat} (hr : wid r = n) (hn : n = 1 ∨ n = 2) (hf : t.cur.col + n ≤ t.main.cols) : Ok (bodyS t r n) := by
  have f := h.facts
  have L := h.line
  have h12 : wid (shownS t.cur r) = 1 ∨ wid (shownS t.cur r) = 2 := by rw [shown_wid]; omega
  have hcl : (cellsOf (shownS t.cur r) t.cur.a).length = n := by have := cells_length (a := t.cur.a) h12; rw [shown_wid] at this; omega
  have hroom := room_facts t n L f.a (by rw [L.len]; have := L.cI; have := f.col0; omega)
  have hm := mid_row (k := t.cur.col.toNat) (n := n) hroom.2.1 (by rw [hroom.1, L.len]; have := L.cI; have := f.col0; omega) (good_cells h12 f.a) hcl
  have hw := withLine_ok h hm.1 (by rw [hm.2, hroom.1, L.len])
  obtain ⟨hc, hmo, hco⟩ := withLine_cur t (mid (roomS t n) t.cur.col.toNat (t.cur.col.toNat + n) (cellsOf (shownS t.cur r) t.cur.a))
  unfold bodyS
  generalize withLine t (mid (roomS t n) t.cur.col.toNat (t.cur.col.toNat + n) (cellsOf (shownS t.cur r) t.cur.a)) = u at hw hc hmo hco
  refine ⟨hw.m, hw.o, hw.r, hw.c, ?_, hw.k2, hw.k3, hw.g, hw.b, hw.n, hw.t, ?_⟩
  · have hk := hw.k1
    unfold cursorB at hk
    unfold cursorB passed
    simp only [Bool.and_eq_true] at hk ⊢
    have hc1 := f.c1
    have h0 := f.col0
    refine ⟨hk.1, rng_iff.2 ⟨?_, ?_⟩, ?_, hk.2.2.2⟩
    · show 0 ≤ min (t.cur.col + (n : Int)) (t.main.cols - 1); omega
    · show min (t.cur.col + (n : Int)) (t.main.cols - 1) ≤ u.main.cols - 1; rw [hco]; omega
    · show (!(decide (t.cur.col + (n : Int) = t.main.cols) && hasB t.modes 1) || (min (t.cur.col + (n : Int)) (t.main.cols - 1) == u.main.cols - 1)) = true
      by_cases he : t.cur.col + (n : Int) = t.main.cols
      · have : min (t.cur.col + (n : Int)) (t.main.cols - 1) = u.main.cols - 1 := by rw [hco]; omega
        rw [this]; simp
      · rw [decide_eq_false he]; rfl
  · show lastB r = true
    unfold lastB
    have : wid r = 1 ∨ wid r = 2 := by omega
    rcases this with e | e <;> rw [e] <;> simp
structure Keeps (s t : S) : Prop where
  modes : t.modes = s.modes
  title : t.title = s.title
  top : t.top = s.top
  bottom : t.bottom = s.bottom
theorem Keeps.refl (s : S) : Keeps s s := ⟨rfl, rfl, rfl, rfl⟩
theorem Keeps.trans {a b c : S} (h : Keeps a b) (k : Keeps b c) : Keeps a c := ⟨k.modes.trans h.modes, k.title.trans h.title, k.top.trans h.top, k.bottom.trans h.bottom⟩
theorem wrap_fits {s : S} (h : Ok s) {n : Nat} (hn : (n : Int) ≤ s.main.cols) : (wrapS s).cur.col + (n : Int) ≤ (wrapS s).main.cols := by
  have h1 : (wrapS s).cur.col = 0 := rfl
  have h2 : (wrapS s).main.cols = s.main.cols := (down_same h).2.2.2.2.2.1
  omega
theorem writeS_ok {s : S} (h : Ok s) {r : Int} {n : Nat} (hr : wid r = n) (hn : n = 1 ∨ n = 2) : Ok (writeS s r n) := by
  unfold writeS
  split
  · exact h
  · rename_i h1
    split
    · exact bodyS_ok (wrapS_ok h) hr hn (wrap_fits h (by omega))
    · rename_i h2
      refine bodyS_ok h hr hn ?_
      cases hb : hasB s.modes 1
      · rw [hb] at h1; exact Classical.byContradiction fun q => h1 (.inr ⟨q, rfl⟩)
      · rw [hb] at h2; exact Classical.byContradiction fun q => h2 ⟨rfl, .inr q⟩
end Scr
end
section
open Go.RowKit
namespace Scr
open Go.Proofs.YtceaoadlhdgnmaaGreatDoor.Row Wid
def drawnA : Array Value := (drawnL.map fun (n : Nat) => Value.int .i64 (n : Int)).toArray
theorem drawnA_at {j : Nat} (h : j < 31) : drawnA[j]? = some (.int .i64 (drawnL.getD j 0 : Nat)) := by
  have hl : drawnL.length = 31 := rfl
  unfold drawnA
  rw [List.getElem?_toArray, List.getElem?_map, List.getD_eq_getElem?_getD, List.getElem?_eq_getElem (by omega)]
  rfl
theorem lines_any (w : World) : Calls Tryz.prog 85 #[] w fun e w' => (∃ c, e = .returned (.slice (some ⟨w.heap.size, 0, none⟩) 31 c)) ∧ Hid (∀ j : Nat, j < 31 → w'.cell? ⟨w.heap.size, j, none⟩ = some (.int .i64 (drawnL.getD j 0 : Nat))) ∧ Below w.heap.size w w' := by
  go_enter Tryz.func85, Tryz.ntmps85
  go_wp2_with fail
  go_ret
  refine ⟨⟨_, rfl⟩, Lib.hid fun j hj => ?_, (Below.refl _ _).alloc (Nat.le_refl _) _⟩
  have q := Blk.cell (heap_alloc_new w (.cells drawnA 3)) j
  rw [drawnA_at hj] at q
  exact q
end Scr
end
end Go.Proofs.YtceaoadlhdgnmaaGreatDoor
