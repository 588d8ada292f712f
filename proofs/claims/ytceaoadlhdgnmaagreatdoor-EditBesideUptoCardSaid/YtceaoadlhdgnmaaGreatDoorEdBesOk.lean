/- That an edited screen may be: told again, where the plain text of edits was cut to what others use. -/
import Derived.Test.YtceaoadlhdgnmaaGreatDoorMRestS
import Derived.Test.YtceaoadlhdgnmaaGreatDoorM108
namespace Go.Proofs.YtceaoadlhdgnmaaGreatDoor
set_option maxRecDepth 100000
namespace Scr
open Go.Proofs.YtceaoadlhdgnmaaGreatDoor.Row Wid

theorem wipeS_okB {s : S} (h : Ok s) (lo hi : Int) : Ok (wipeS s lo hi) := by
  have f := h.facts
  have hs := wipeN_sides lo hi s.cur.a s.main.rows.toNat (seenG s)
  exact putG_ok h (wipeN_ok f.a lo hi _ _ f.g (by have := f.gr; have := f.r1; omega)) (hs.1.trans f.gr) (hs.2.trans f.gc)
theorem deleteS_okB {s : S} (h : Ok s) (n : Nat) : Ok (deleteS s n) := by
  have f := h.facts
  have L := h.line
  have hd := deleteOk (l := lineS s) (p := s.cur.col.toNat) (n := roomN s n) L.ok f.a (by rw [L.len]; unfold roomN; have := L.cI; have := f.col0; have := f.col1; omega)
  exact withLine_ok h hd.1 (by rw [hd.2, L.len])
theorem insertS_okB {s : S} (h : Ok s) (n : Nat) : Ok (insertS s n) := by
  have f := h.facts
  have L := h.line
  have hd := insertOk (l := lineS s) (p := s.cur.col.toNat) (n := roomN s n) L.ok f.a (by rw [L.len]; unfold roomN; have := L.cI; have := f.col0; have := f.col1; omega)
  exact withLine_ok h hd.1 (by rw [hd.2, L.len])
theorem pushS_okB {s : S} (h : Ok s) (n : Int) : Ok (pushS s n) := by
  unfold pushS; split
  · exact deleteS_okB h _
  · exact insertS_okB h _
theorem rollS_okB {s : S} (h : Ok s) (top n : Int) : Ok (rollS s top n) := by
  have f := h.facts
  exact putG_ok h (moveG_ok f.g (by have := f.top0; have := f.tb; omega) (by have := f.gr; have := f.bot; omega) _ f.a) f.gr f.gc
theorem col0_okB {s : S} (h : Ok s) (hw : s.cur.wrap = false) : Ok (col0 s) := by
  have f := h.facts
  refine ⟨h.m, h.o, h.r, h.c, ?_, h.k2, h.k3, h.g, h.b, h.n, h.t, h.l⟩
  have hk := h.k1
  unfold cursorB at hk
  unfold cursorB col0
  simp only [Bool.and_eq_true] at hk ⊢
  exact ⟨hk.1, rng_iff.2 ⟨by show (0 : Int) ≤ 0; omega, by show (0 : Int) ≤ s.main.cols - 1; have := f.c1; omega⟩, by show (!s.cur.wrap || _) = true; rw [hw]; rfl, hk.2.2.2⟩
theorem openS_okB {s : S} (h : Ok s) (hw : s.cur.wrap = false) (n : Int) : Ok (openS s n) := by
  unfold openS; split
  · exact h
  · exact col0_okB (rollS_okB h _ _) (by unfold rollS; rw [putG_wrap]; exact hw)
theorem doS_okB {s : S} (h : Ok s) (d : Deed) : Ok (doS s d) := by
  cases d with
  | scroll n => exact rollS_okB h _ _
  | wipe lo hi => exact wipeS_okB (noWrap_ok h) lo hi
  | shift n => exact pushS_okB (noWrap_ok h) n
  | lines n => exact openS_okB (noWrap_ok h) rfl n
theorem editS_okB {s : S} (h : Ok s) (key n : Int) : Ok (editS s key n) := doS_okB h _
end Scr
end Go.Proofs.YtceaoadlhdgnmaaGreatDoor
