/- Joined texts: EdBesP. -/
import Derived.Test.YtceaoadlhdgnmaaGreatDoorMRestS
namespace Go.Proofs.YtceaoadlhdgnmaaGreatDoor
set_option maxRecDepth 100000
section
namespace Scr
open Go.Proofs.YtceaoadlhdgnmaaGreatDoor.Row Wid
structure Bes (G H : Gr) (low high : Int) : Prop where
  r : H.rows = G.rows
  c : H.cols = G.cols
  at_ : ∀ i : Nat, (i : Int) < G.rows → ((i : Int) < low ∨ high < (i : Int)) → rowG H i = rowG G i
theorem Bes.refl (G : Gr) (low high : Int) : Bes G G low high := ⟨rfl, rfl, fun _ _ _ => rfl⟩
theorem Bes.wide {G H : Gr} {low high low' high' : Int} (h : Bes G H low high) (h1 : low' ≤ low) (h2 : high ≤ high') : Bes G H low' high' := ⟨h.r, h.c, fun i hi ho => h.at_ i hi (by omega)⟩
theorem Bes.trans {G H K : Gr} {low high : Int} (h : Bes G H low high) (k : Bes H K low high) : Bes G K low high :=
  ⟨k.r.trans h.r, k.c.trans h.c, fun i hi ho => (k.at_ i (by rw [h.r]; exact hi) ho).trans (h.at_ i hi ho)⟩
theorem bes_row {G : Gr} (h : gridB G = true) {i : Nat} (hi : (i : Int) < G.rows) {m : List Cl} (hl : m.length = G.cols.toNat) : Bes G (withRow G i m) i i := by
  obtain ⟨R, C, rs, rfl, hr, _⟩ := parts_of h
  have hiR : i < R := by have : (i : Int) < (R : Int) := hi; omega
  have e : withRow ⟨(R : Int), (C : Int), rs.flatten⟩ i m = ⟨(R : Int), (C : Int), (rs.set i m).flatten⟩ := by
    show (⟨(R : Int), (C : Int), overL rs.flatten (i * C) m⟩ : Gr) = _
    rw [overL_flat hr.even (by rw [hr.len]; exact hiR) hl]
  rw [e]
  refine ⟨rfl, rfl, fun j hj ho => ?_⟩
  have hjR : j < R := by have : (j : Int) < (R : Int) := hj; omega
  have he : Even C (rs.set i m) := by
    intro r hm
    rcases List.mem_or_eq_of_mem_set hm with hm | rfl
    · exact hr.even r hm
    · exact hl
  show Row.rowAt (rs.set i m).flatten C j = Row.rowAt rs.flatten C j
  rw [rowAt_flat he (by rw [List.length_set, hr.len]; exact hjR), rowAt_flat hr.even (by rw [hr.len]; exact hjR), rowOf_set_ne (by omega)]
theorem bes_wipeRow {G : Gr} (h : gridB G = true) {a : Look} (ha : attrOk a = true) (lo hi : Int) {i : Nat} (hi' : (i : Int) < G.rows) : Bes G (wipeRow lo hi a G i) i i := by
  unfold wipeRow
  by_cases e : loC lo G.cols i < hiC hi G.cols i
  · rw [if_pos e]
    have F := rowF h hi'
    have h1 : (0 : Int) ≤ loC lo G.cols i := by unfold loC; omega
    have h2 : hiC hi G.cols i ≤ G.cols := by unfold hiC; omega
    have h3 := F.cI
    exact bes_row h hi' (erase_row F.ok F.len ha (lo := (loC lo G.cols i).toNat) (hi := (hiC hi G.cols i).toNat) (by omega) (by omega)).2
  · rw [if_neg e]; exact Bes.refl _ _ _
theorem bes_wipeN {a : Look} (ha : attrOk a = true) {lo hi low high : Int} {G : Gr} (h : gridB G = true) (h12 : hi ≤ lo ∨ (low * G.cols ≤ lo ∧ hi ≤ (high + 1) * G.cols)) : ∀ k : Nat, (k : Int) ≤ G.rows → Bes G (wipeN lo hi a k G) low high
  | 0, _ => Bes.refl _ _ _
  | k + 1, hk => by
    have hs := wipeN_sides lo hi a k G
    have hB := bes_wipeN ha h h12 k (by omega)
    have hok := wipeN_ok ha lo hi k G h (by omega)
    have hc : (0 : Int) ≤ G.cols := by
      obtain ⟨R, C, rs, rfl, _, _⟩ := parts_of h
      exact Int.natCast_nonneg C
    refine hB.trans ?_
    by_cases hin : low ≤ (k : Int) ∧ (k : Int) ≤ high
    · exact (bes_wipeRow hok ha lo hi (i := k) (by rw [hs.1]; omega)).wide hin.1 hin.2
    · have hno : ¬ loC lo G.cols k < hiC hi G.cols k := by
        unfold loC hiC
        rcases h12 with h12 | ⟨h1, h2⟩
        · omega
        by_cases hlo : (k : Int) < low
        · have := Int.mul_le_mul_of_nonneg_right (show (k : Int) + 1 ≤ low by omega) hc
          rw [Int.add_mul, Int.one_mul] at this
          omega
        · have := Int.mul_le_mul_of_nonneg_right (show high + 1 ≤ (k : Int) by omega) hc
          omega
      show Bes _ (wipeRow lo hi a (wipeN lo hi a k G) k) _ _
      unfold wipeRow
      rw [hs.2, if_neg hno]
      exact Bes.refl _ _ _
theorem bes_move {G : Gr} (h : gridB G = true) {top bot : Int} (ht : 0 ≤ top) (h0 : 0 ≤ bot) (hb : bot < G.rows) (n : Int) {a : Look} (ha : attrOk a = true) : Bes G (moveG G top bot n a) top bot := by
  obtain ⟨R, C, rs, rfl, hr, _⟩ := parts_of h
  rw [moveG_parts hr]
  refine ⟨rfl, rfl, fun j hj ho => ?_⟩
  have hjR : j < R := by have : (j : Int) < (R : Int) := hj; omega
  have hbR : bot.toNat < R := by have : bot < (R : Int) := hb; omega
  have hm := moved_rws hr (top := top.toNat) hbR n ha
  show Row.rowAt (moved rs top.toNat bot.toNat n C a).flatten C j = Row.rowAt rs.flatten C j
  rw [rowAt_flat hm.even (by rw [hm.len]; exact hjR), rowAt_flat hr.even (by rw [hr.len]; exact hjR)]
  unfold moved
  rw [rowOf_map _ (by rw [hr.len]; exact hjR)]
  unfold movedRow
  rw [if_neg (by omega)]
def hidG (s : S) : Gr := if s.swapped then s.main else s.other
structure Beside (s t : S) (low high : Int) : Prop where
  sw : t.swapped = s.swapped
  hid : hidG t = hidG s
  seen : Bes (seenG s) (seenG t) low high
theorem beside_put {s : S} {G : Gr} {low high : Int} (h : Bes (seenG s) G low high) : Beside s (putG s G) low high := by
  refine ⟨?_, ?_, by rw [seenG_putG]; exact h⟩
  · unfold putG; split <;> rfl
  · unfold hidG putG
    cases hs : s.swapped with
    | false => simp
    | true => simp
theorem beside_self (s : S) (low high : Int) : Beside s s low high := ⟨rfl, rfl, Bes.refl _ _ _⟩
theorem beside_noWrap {s t : S} {low high : Int} (h : Beside (noWrap s) t low high) : Beside s t low high := ⟨h.sw, h.hid, h.seen⟩
theorem beside_col0 {s t : S} {low high : Int} (h : Beside s t low high) : Beside s (col0 t) low high := ⟨h.sw, h.hid, h.seen⟩
theorem beside_line {s : S} (h : Ok s) {m : List Cl} (hl : m.length = (seenG s).cols.toNat) : Beside s (withLine s m) s.cur.row s.cur.row := by
  have f := h.facts
  rw [withLine_put]
  have hb := bes_row f.g (i := s.cur.row.toNat) (by have := f.row0; have := f.row1; have := f.gr; omega) hl
  have e : ((s.cur.row.toNat : Nat) : Int) = s.cur.row := by have := f.row0; omega
  rw [e] at hb
  exact beside_put hb
theorem beside_push {s : S} (h : Ok s) (n : Int) : Beside s (pushS s n) s.cur.row s.cur.row := by
  have f := h.facts
  have L := h.line
  unfold pushS; split
  · have hd := deleteOk (l := lineS s) (p := s.cur.col.toNat) (n := roomN s (-n).toNat) L.ok f.a (by rw [L.len]; unfold roomN; have := L.cI; have := f.col0; have := f.col1; omega)
    exact beside_line h (by rw [hd.2, L.len])
  · have hd := insertOk (l := lineS s) (p := s.cur.col.toNat) (n := roomN s n.toNat) L.ok f.a (by rw [L.len]; unfold roomN; have := L.cI; have := f.col0; have := f.col1; omega)
    exact beside_line h (by rw [hd.2, L.len])
theorem beside_roll {s : S} (h : Ok s) {top : Int} (ht : 0 ≤ top) (n : Int) : Beside s (rollS s top n) top s.bottom := by
  have f := h.facts
  exact beside_put (bes_move f.g ht (by have := f.top0; have := f.tb; omega) (by have := f.gr; have := f.bot; omega) _ f.a)
theorem beside_open {s : S} (h : Ok s) (n : Int) : Beside s (openS s n) s.top s.bottom := by
  have f := h.facts
  unfold openS; split
  · exact beside_self _ _ _
  · rename_i e
    have hb := beside_roll h (top := s.cur.row) f.row0 n
    exact beside_col0 ⟨hb.sw, hb.hid, hb.seen.wide (by omega) (by omega)⟩
theorem beside_wipe {s : S} (h : Ok s) {lo hi : Int} (h12 : hi ≤ lo ∨ (s.cur.row * s.main.cols ≤ lo ∧ hi ≤ s.cur.row * s.main.cols + s.main.cols)) : Beside s (wipeS s lo hi) s.cur.row s.cur.row := by
  have f := h.facts
  refine beside_put (bes_wipeN f.a f.g ?_ _ (by have := f.gr; have := f.r1; omega))
  rw [f.gc, Int.add_mul, Int.one_mul]; exact h12
def lowS (s : S) (key : Int) : Int := if key = 76 ∨ key = 77 ∨ key = 83 ∨ key = 84 then s.top else s.cur.row
def highS (s : S) (key : Int) : Int := if key = 76 ∨ key = 77 ∨ key = 83 ∨ key = 84 then s.bottom else s.cur.row
theorem edit_beside {s : S} (h : Ok s) {key : Int} (hk : key ∈ [75, 88, 80, 64, 76, 77, 83, 84]) (n : Int) : Beside s (editS s key n) (lowS s key) (highS s key) := by
  have f := h.facts
  have hw := noWrap_ok h
  have hI : atI s = s.cur.row * s.main.cols + s.cur.col := rfl
  have hc0 := f.col0
  have hc1 := f.col1
  have ht := f.top0
  have hcols := f.c1
  simp only [List.mem_cons, List.not_mem_nil, or_false] at hk
  rcases hk with rfl | rfl | rfl | rfl | rfl | rfl | rfl | rfl
  · refine beside_noWrap (beside_wipe hw (s := noWrap s) ?_)
    show (wipedR (atI s) (s.cur.row * s.main.cols) (s.cur.row * s.main.cols + s.main.cols) n).2 ≤ (wipedR (atI s) (s.cur.row * s.main.cols) (s.cur.row * s.main.cols + s.main.cols) n).1 ∨ (s.cur.row * s.main.cols ≤ (wipedR (atI s) (s.cur.row * s.main.cols) (s.cur.row * s.main.cols + s.main.cols) n).1 ∧ (wipedR (atI s) (s.cur.row * s.main.cols) (s.cur.row * s.main.cols + s.main.cols) n).2 ≤ s.cur.row * s.main.cols + s.main.cols)
    rw [hI]
    generalize s.cur.row * s.main.cols = q
    unfold wipedR
    split
    · right; exact ⟨by show q ≤ q + s.cur.col; omega, Int.le_refl _⟩
    · split
      · right; exact ⟨Int.le_refl _, by show q + s.cur.col + 1 ≤ q + s.main.cols; omega⟩
      · split
        · right; exact ⟨Int.le_refl _, Int.le_refl _⟩
        · left; exact Int.le_refl _
  · refine beside_noWrap (beside_wipe hw (s := noWrap s) ?_)
    show min (atI s + max n 1) (s.cur.row * s.main.cols + s.main.cols) ≤ atI s ∨ (s.cur.row * s.main.cols ≤ atI s ∧ min (atI s + max n 1) (s.cur.row * s.main.cols + s.main.cols) ≤ s.cur.row * s.main.cols + s.main.cols)
    right
    exact ⟨by rw [hI]; omega, by omega⟩
  · exact beside_noWrap (beside_push hw _)
  · exact beside_noWrap (beside_push hw _)
  · exact beside_noWrap (beside_open hw _)
  · exact beside_noWrap (beside_open hw _)
  · exact beside_roll h ht _
  · exact beside_roll h ht _
end Scr
end
end Go.Proofs.YtceaoadlhdgnmaaGreatDoor
