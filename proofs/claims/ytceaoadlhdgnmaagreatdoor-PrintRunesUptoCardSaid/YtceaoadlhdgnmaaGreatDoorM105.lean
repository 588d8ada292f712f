/- Joined texts: ScrLine, PrnHere. -/
import Derived.Test.YtceaoadlhdgnmaaGreatDoorM43
import Derived.Test.YtceaoadlhdgnmaaGreatDoorM104
import Derived.BigQuiet
namespace Go.Proofs.YtceaoadlhdgnmaaGreatDoor
set_option maxRecDepth 100000
section
open Go.RowKit
namespace Scr
open Go.Proofs.YtceaoadlhdgnmaaGreatDoor.Row Wid
def seatO (s : S) : Nat := if s.swapped then 3 else 0
theorem seat_arr (s : S) (x y z : Value) : (sarr s x y z)[seatO s]? = some (.int .i64 (seenG s).rows) ∧ (sarr s x y z)[seatO s + 1]? = some (.int .i64 (seenG s).cols) ∧ (sarr s x y z)[seatO s + 2]? = some (seenX s x y) := by
  unfold seatO seenG seenX
  cases s.swapped
  · exact ⟨rfl, rfl, rfl⟩
  · exact ⟨rfl, rfl, rfl⟩
def putX (s : S) (x v : Value) : Value := if s.swapped then x else v
def putY (s : S) (y v : Value) : Value := if s.swapped then v else y
def pput (w : World) (b p : Nat) (R C : Int) (v : Value) : World := ((w.setCell ⟨b, p, none⟩ (.int .i64 R)).setCell ⟨b, p + 1, none⟩ (.int .i64 C)).setCell ⟨b, p + 2, none⟩ v
theorem pput_below {B b p : Nat} {a w : World} (h : Below B a w) (hB : B ≤ b) (R C : Int) (v : Value) : Below B a (pput w b p R C v) := ((h.setCell hB _).setCell hB _).setCell hB _
theorem pput_only {b p : Nat} {a w : World} (h : Only b a w) (R C : Int) (v : Value) : Only b a (pput w b p R C v) := ((h.set _ _).set _ _).set _ _
theorem Pn.seen {w : World} {b base : Nat} {s : S} {x y z v : Value} (h : Pn w b base s x y z) {G : Gr} (hv : OwnCs w base v G.cells) : Pn (pput w b (seatO s) G.rows G.cols v) b base (putG s G) (putX s x v) (putY s y v) z := by
  have ho : Own (pput w b (seatO s) G.rows G.cols v) base s x y z := ((h.own.set h.lt _ _).set h.lt _ _).set h.lt _ _
  have hv' : OwnCs (pput w b (seatO s) G.rows G.cols v) base v G.cells := ((hv.set h.lt _ _).set h.lt _ _).set h.lt _ _
  have hu : base ≤ (pput w b (seatO s) G.rows G.cols v).heap.size := by unfold pput; rw [size_set, size_set, size_set]; exact h.up
  cases hs : s.swapped with
  | false =>
    have e0 : seatO s = 0 := by unfold seatO; rw [hs]; rfl
    have e1 : putG s G = { s with main := G } := by unfold putG; rw [hs]; rfl
    have e2 : putX s x v = v := by unfold putX; rw [hs]; rfl
    have e3 : putY s y v = y := by unfold putY; rw [hs]; rfl
    rw [e0] at ho hv' hu ⊢
    rw [e1, e2, e3]
    exact ⟨h.box.putMain G.rows G.cols G.cells v, ⟨hv', ho.o, ho.t⟩, h.lt, hu⟩
  | true =>
    have e0 : seatO s = 3 := by unfold seatO; rw [hs]; rfl
    have e1 : putG s G = { s with other := G } := by unfold putG; rw [hs]; rfl
    have e2 : putX s x v = x := by unfold putX; rw [hs]; rfl
    have e3 : putY s y v = v := by unfold putY; rw [hs]; rfl
    rw [e0] at ho hv' hu ⊢
    rw [e1, e2, e3]
    exact ⟨h.box.putOther G.rows G.cols G.cells v, ⟨ho.m, hv', ho.t⟩, h.lt, hu⟩
def Apart (x y : Value) : Prop := ∀ k, x.ownBlock = some k → y.ownBlock ≠ some k
theorem put_apart {s : S} {x y v : Value} {B : Nat} (hx : ∀ k, x.ownBlock = some k → k < B) (hy : ∀ k, y.ownBlock = some k → k < B) (hv : ∀ k, v.ownBlock = some k → B ≤ k) : Apart (putX s x v) (putY s y v) := by
  unfold putX putY
  intro k h1 h2
  cases hs : s.swapped with
  | false =>
    rw [hs] at h1 h2
    have := hv k h1; have := hy k h2; omega
  | true =>
    rw [hs] at h1 h2
    have := hx k h1; have := hv k h2; omega
theorem bel_drewN (w : World) (n : Nat) : Below w.heap.size w (w.drewN n) := ⟨rfl, rfl, rfl, Nat.le_refl _, fun _ _ => rfl⟩
theorem pput_cell {w : World} {b p j : Nat} {R C : Int} {v : Value} (h3 : p ≤ 3) (hj : 5 < j) : (pput w b p R C v).cell? ⟨b, j, none⟩ = w.cell? ⟨b, j, none⟩ := by
  unfold pput
  rw [World.cell?_setCell_other _ _ _ _ (by intro e; injection e with _ e; omega), World.cell?_setCell_other _ _ _ _ (by intro e; injection e with _ e; omega), World.cell?_setCell_other _ _ _ _ (by intro e; injection e with _ e; omega)]
theorem Pn.lo {w : World} {b base : Nat} {s : S} {x y z : Value} (h : Pn w b base s x y z) : b ≤ w.heap.size := by have := h.lt; have := h.up; omega
theorem flat_take (l : List Cl) (k : Nat) : (flat l).take (k * 6) = flat (l.take k) := by
  rcases Nat.le_total k l.length with hk | hk
  · have hl : (flat (l.take k)).length = k * 6 := by rw [flat_length, List.length_take]; rw [Nat.min_eq_left hk]
    conv => lhs; rw [← List.take_append_drop k l, flat_append]
    rw [List.take_append_of_le_length (by omega), List.take_of_length_le (by omega)]
  · rw [List.take_of_length_le hk, List.take_of_length_le (by rw [flat_length]; exact Nat.mul_le_mul_right 6 hk)]
theorem flat_drop (l : List Cl) (k : Nat) (hk : k ≤ l.length) : (flat l).drop (k * 6) = flat (l.drop k) := by
  have hl : (flat (l.take k)).length = k * 6 := by rw [flat_length, List.length_take]; rw [Nat.min_eq_left hk]
  conv => lhs; rw [← List.take_append_drop k l, flat_append]
  rw [← hl, List.drop_left]
def overL (l : List Cl) (k : Nat) (r : List Cl) : List Cl := l.take k ++ (r ++ l.drop (k + r.length))
theorem overL_length {l r : List Cl} {k : Nat} (h : k + r.length ≤ l.length) : (overL l k r).length = l.length := by
  unfold overL
  rw [List.length_append, List.length_append, List.length_take, List.length_drop, Nat.min_eq_left (by omega)]
  omega
theorem run_copy_into {w : World} {ty : TypeId} {base g n cap k m dCap sCap : Nat} {a : Addr} {l r : List Cl} (h : OwnCs w base (.slice (some ⟨g, 0, none⟩) n cap) l) (hm : r.length = m) (hk : k + m ≤ l.length)
    (hsrc : ∀ j u, (flat r)[j]? = some u → w.cell? (a.add j) = some u) :
    ∃ w', (Builtin.copy_ #[27, 27] ty #[.slice (some ⟨g, k * 6, none⟩) m dCap, .slice (some a) m sCap]).run Tryz.prog w = .ok (goInt m) w' ∧ OwnCs w' base (.slice (some ⟨g, 0, none⟩) n cap) (overL l k r) ∧
      Only g w w' ∧ ∀ B w0, Below B w0 w → B ≤ g → Below B w0 w' := by
  obtain ⟨i, hi, hz, h6, h56⟩ := cell_row
  have hn : n = l.length := h.n
  subst hn
  rcases h.2 with ⟨e, _⟩ | ⟨g', cap', cur, e, hb, hg, hnc, hcm, hsz, htk⟩
  · injection e with e; cases e
  injection e with e1 e2 e3
  injection e1 with e1
  injection e1 with e1
  subst e1; subst e3
  have hfl : (flat r).length = m * 6 := by rw [flat_length, hm]
  have hrun := run_copy_wide (P := Tryz.prog) w 27 27 ty 57 g (k * 6) m dCap a m sCap cur _ (flat r) 6 m Tryz.underlying27 (by rw [hi]; simp [h6]) hg (by simp) hfl hsrc
    (by rw [hfl, hsz]; omega) (flat_cells r)
  have hrow := setRow_heap w g cur (cur.toList.take (k * 6) ++ flat r ++ cur.toList.drop (k * 6 + (flat r).length)).toArray _ _ hg
  have hlen : (cur.toList.take (k * 6) ++ flat r ++ cur.toList.drop (k * 6 + (flat r).length)).length = cur.size := by
    simp only [List.length_append, List.length_take, List.length_drop, Array.length_toList, hfl]
    omega
  refine ⟨_, hrun, ⟨?_, ?_⟩, ⟨by simp, fun q o hq ho => (setRow_other w g q _ hq).trans ho⟩, fun B w0 hb' hB => below_setRow hb' hB _⟩
  · rw [flat_length, overL_length (by omega)]
  · rw [overL_length (by omega)]
    refine .inr ⟨g, cap, _, rfl, hb, hrow, hnc, hcm, ?_, ?_⟩
    · rw [List.size_toArray, hlen, hsz]
    · show (cur.toList.take (k * 6) ++ flat r ++ cur.toList.drop (k * 6 + (flat r).length)).take (l.length * 6) = _
      unfold overL
      rw [flat_append, flat_append, List.append_assoc, hfl, hm]
      have e1 : cur.toList.take (k * 6) = flat (l.take k) := by
        rw [← flat_take, ← htk, List.take_take, Nat.min_eq_left (by omega)]
      have e2 : (cur.toList.drop (k * 6 + m * 6)).take (l.length * 6 - (k * 6 + m * 6)) = flat (l.drop (k + m)) := by
        rw [← flat_drop l (k + m) hk, ← htk, List.drop_take, Nat.add_mul]
      have h12 : (flat (l.take k) ++ flat r).length = k * 6 + m * 6 := by rw [List.length_append, hfl, flat_length, List.length_take, Nat.min_eq_left (by omega)]
      rw [e1, ← List.append_assoc (flat (l.take k)) (flat r), List.take_append, h12, List.take_of_length_le (l := flat (l.take k) ++ flat r) (by rw [h12]; omega), e2, List.append_assoc]
def lineAt (s : S) : Nat := s.cur.row.toNat * (seenG s).cols.toNat
def lineS (s : S) : List Cl := Row.rowAt (seenG s).cells (seenG s).cols.toNat s.cur.row.toNat
def withLine (s : S) (r : List Cl) : S := putG s { seenG s with cells := overL (seenG s).cells (lineAt s) r }
structure LineFacts (s : S) : Prop where
  fit : lineAt s + (seenG s).cols.toNat ≤ (seenG s).cells.length
  len : (lineS s).length = (seenG s).cols.toNat
  ok : RowOk (lineS s)
  held : Held (lineS s)
  c1 : 1 ≤ (seenG s).cols.toNat
  c40 : (seenG s).cols.toNat ≤ 40
  cI : ((seenG s).cols.toNat : Int) = s.main.cols
  at_ : (lineAt s : Int) = s.cur.row * s.main.cols
  a40 : lineAt s ≤ 1600
  rI : (s.cur.row.toNat : Int) = s.cur.row
theorem Ok.line {s : S} (h : Ok s) : LineFacts s := by
  have f := h.facts
  obtain ⟨R, C, rs, e, hr, _⟩ := parts_of f.g
  have hR : ((seenG s).rows) = (R : Int) := by rw [e]
  have hC : ((seenG s).cols) = (C : Int) := by rw [e]
  have hcn : (seenG s).cols.toNat = C := by rw [hC]; rfl
  have hcl : (seenG s).cells = rs.flatten := by rw [e]
  obtain ⟨i, hi⟩ := Int.eq_ofNat_of_zero_le f.row0
  have hin : s.cur.row.toNat = i := by rw [hi]; rfl
  have hiR : i < R := by have := f.row1; have := f.gr; omega
  have hm : (i + 1) * C ≤ rs.flatten.length := by rw [even_length hr.even, hr.len]; exact Nat.mul_le_mul_right C hiR
  have hla : lineAt s = i * C := by unfold lineAt; rw [hin, hcn]
  have hls : lineS s = rowOf rs i := by unfold lineS; rw [hcl, hcn, hin]; exact rowAt_flat hr.even (by rw [hr.len]; exact hiR)
  have hgc := f.gc
  have hok := hr.ok i hiR
  refine ⟨?_, ?_, by rw [hls]; exact hok, by rw [hls]; exact hok.held, by rw [hcn]; exact hr.c1, by rw [hcn]; exact hr.c40, by rw [hcn, ← hC]; exact hgc, ?_, ?_, by rw [hi]; rfl⟩
  · rw [hla, hcn, hcl]; rw [Nat.succ_mul] at hm; exact hm
  · rw [hls, hcn]; exact hr.rlen hiR
  · rw [hla, hi, ← hgc, hC]; simp
  · rw [hla]
    have := Nat.mul_le_mul (show i ≤ 40 by have := hr.r40; omega) hr.c40
    omega
theorem neB {w : World} {base b2 g n cap : Nat} {l : List Cl} {v : Value} {m : List Bool} (h : OwnCs w base (.slice (some ⟨g, 0, none⟩) n cap) l) (hb : Tab.OwnB w b2 v m) : v.ownBlock ≠ some g := by
  rcases hb.2 with ⟨rfl, _⟩ | ⟨g', cap', cur', rfl, _, hg, _⟩
  · exact fun q => by cases q
  · intro q
    have e : g' = g := Option.some.inj q
    subst e
    rcases h.2 with ⟨e, _⟩ | ⟨g2, cap2, cur2, e, _, hg2, _⟩
    · injection e with e; cases e
    · injection e with e1
      injection e1 with e1
      injection e1 with e1
      subst e1
      rw [hg] at hg2
      injection hg2 with e2
      injection e2 with _ e3
      exact absurd e3 (by decide)
theorem ownB_only {w w' : World} {base b : Nat} {v : Value} {l : List Bool} (h : Tab.OwnB w base v l) (ho : Only b w w') (hv : v.ownBlock ≠ some b) : Tab.OwnB w' base v l := by
  refine ⟨h.1, ?_⟩
  rcases h.2 with h0 | ⟨g, cap, cur, rfl, hb, hg, rest⟩
  · exact .inl h0
  · exact .inr ⟨g, cap, cur, rfl, hb, ho.2 g _ (fun e => hv (by subst e; rfl)) hg, rest⟩
theorem sarr_cells (s : S) (l : List Cl) (x y z : Value) : sarr (putG s { seenG s with cells := l }) x y z = sarr s x y z := by
  cases hs : s.swapped with
  | false =>
    have e : putG s { seenG s with cells := l } = { s with main := { s.main with cells := l } } := by unfold putG seenG; rw [hs]; rfl
    rw [e]; rfl
  | true =>
    have e : putG s { seenG s with cells := l } = { s with other := { s.other with cells := l } } := by unfold putG seenG; rw [hs]; rfl
    rw [e]; rfl
theorem Pn.over {w w' : World} {b base g n cap : Nat} {s : S} {x y z : Value} {l : List Cl} (h : Pn w b base s x y z) (hap : Apart x y) (hX : seenX s x y = .slice (some ⟨g, 0, none⟩) n cap) (ho : OwnCs w' base (.slice (some ⟨g, 0, none⟩) n cap) l) (hon : Only g w w') (hs : w.heap.size ≤ w'.heap.size) :
    Pn w' b base (putG s { seenG s with cells := l }) x y z := by
  have hg : base ≤ g := (ho.lt g rfl).1
  have hbox : SBox w' b (putG s { seenG s with cells := l }) x y z := by
    unfold SBox
    rw [sarr_cells]
    exact hon.2 b _ (by have := h.lt; omega) h.box
  refine ⟨hbox, ?_, h.lt, Nat.le_trans h.up hs⟩
  cases hw : s.swapped with
  | false =>
    have e : putG s { seenG s with cells := l } = { s with main := { s.main with cells := l } } := by unfold putG seenG; rw [hw]; rfl
    have ex : x = .slice (some ⟨g, 0, none⟩) n cap := by unfold seenX at hX; rw [hw] at hX; exact hX
    subst ex
    rw [e]
    exact ⟨ho, h.own.o.only hon (hap g rfl), ownB_only h.own.t hon (neB h.own.m h.own.t)⟩
  | true =>
    have e : putG s { seenG s with cells := l } = { s with other := { s.other with cells := l } } := by unfold putG seenG; rw [hw]; rfl
    have ey : y = .slice (some ⟨g, 0, none⟩) n cap := by unfold seenX at hX; rw [hw] at hX; exact hX
    subst ey
    rw [e]
    exact ⟨h.own.m.only hon (fun q => hap g q rfl), ho, ownB_only h.own.t hon (neB h.own.o h.own.t)⟩
theorem dal (w : World) (o : Obj) : Below w.heap.size w ((w.alloc o).drew) := ((Below.refl _ _).alloc (Nat.le_refl _) _).drew
theorem Pn.cells {w : World} {b base g n cap : Nat} {s : S} {x y z : Value} (h : Pn w b base s x y z) (hX : seenX s x y = .slice (some ⟨g, 0, none⟩) n cap) : OwnCs w base (.slice (some ⟨g, 0, none⟩) n cap) (seenG s).cells := by
  rw [← hX]
  unfold seenX seenG
  cases s.swapped
  · exact h.own.m
  · exact h.own.o
theorem Pn.line {w : World} {b base g n cap : Nat} {s : S} {x y z : Value} (h : Pn w b base s x y z) (hX : seenX s x y = .slice (some ⟨g, 0, none⟩) n cap) (hL : LineFacts s) (c : Nat) : Cs w (.slice (some ⟨g, lineAt s * 6, none⟩) (seenG s).cols.toNat c) (lineS s) := by
  have hc := (h.cells hX).cs
  have := Cs.of (w := w) (ad := ⟨g, lineAt s * 6, none⟩) (c := c) (l := lineS s) fun j u hu => by
    have e0 : (⟨g, 0, none⟩ : Addr).add (lineAt s * 6) = ⟨g, lineAt s * 6, none⟩ := by simp [Addr.add]; exact fun q => q.symm
    rw [← e0, Go.Deep.add_add]
    refine hc.flat.2 (lineAt s * 6 + j) u ?_
    have hl : lineS s = ((seenG s).cells.drop (lineAt s)).take (lineAt s + (seenG s).cols.toNat - lineAt s) := by
      unfold lineS Row.rowAt lineAt
      rw [Nat.add_sub_cancel_left]
    rw [hl] at hu
    exact flat_part (Nat.le_add_right _ _) hL.fit hu
  rwa [hL.len] at this
theorem overL_flat {C : Nat} {rs : List (List Cl)} (he : Even C rs) {i : Nat} (hi : i < rs.length) {r : List Cl} (hr : r.length = C) : overL rs.flatten (i * C) r = (rs.set i r).flatten := by
  unfold overL
  rw [hr, show i * C + C = (i + 1) * C by rw [Nat.succ_mul], take_flat he, drop_flat he, List.set_eq_take_append_cons_drop, if_pos hi, List.flatten_append, List.flatten_cons]
theorem withLine_ok {s : S} (h : Ok s) {m : List Cl} (hm : RowOk m) (hl : m.length = (seenG s).cols.toNat) : Ok (withLine s m) := by
  have f := h.facts
  unfold withLine
  refine putG_ok h ?_ f.gr f.gc
  obtain ⟨R, C, rs, e, hr, _⟩ := parts_of f.g
  obtain ⟨i, hi⟩ := Int.eq_ofNat_of_zero_le f.row0
  have hR : (seenG s).rows = (R : Int) := by rw [e]
  have hiR : i < R := by have := f.row1; have := f.gr; omega
  have hC : (seenG s).cols.toNat = C := by rw [e]; rfl
  have hla : lineAt s = i * C := by unfold lineAt; rw [hC, hi]; rfl
  rw [hC] at hl
  rw [hla, e]
  show gridB ⟨(R : Int), (C : Int), overL rs.flatten (i * C) m⟩ = true
  rw [overL_flat hr.even (by rw [hr.len]; exact hiR) hl]
  exact (gridB_iff _).2 (set_rws hr hiR hm hl).grid
theorem mid_row {l x : List Cl} {k n : Nat} (h : RowOk l) (hk : k + n ≤ l.length) (hx : Row.Good x) (hl : x.length = n) : RowOk (mid l k (k + n) x) ∧ (mid l k (k + n) x).length = l.length := by
  have hm := mid_length (show k ≤ k + n by omega) hk x
  have e : (mid l k (k + n) x).length = l.length := by omega
  exact ⟨⟨by rw [e]; exact h.1, by rw [e]; exact h.2.1, good_mid h.2.2 _ _ hx⟩, e⟩
end Scr
end
section
open Go.RowKit
namespace Scr
open Go.Proofs.YtceaoadlhdgnmaaGreatDoor.Row Wid
def hasB (n m : Int) : Bool := !(bits .and .i64 n m == 0)
def setOf (k : Cur) : Int := if k.shift = 0 then k.g0 else k.g1
def passed (s : S) (c : Int) (q : Bool) (r : Int) : S := { s with cur := { s.cur with col := c, wrap := q }, last := r }
theorem withLine_cur (s : S) (m : List Cl) : (withLine s m).cur = s.cur ∧ (withLine s m).modes = s.modes ∧ (withLine s m).main.cols = s.main.cols := by
  unfold withLine putG
  cases hs : s.swapped with
  | false => rw [if_neg (by simp)]; exact ⟨rfl, rfl, by unfold seenG; rw [hs]; rfl⟩
  | true => exact ⟨rfl, rfl, rfl⟩
def hereS (s : S) (r : Int) (n : Nat) : S := passed (withLine s (mid (lineS s) s.cur.col.toNat (s.cur.col.toNat + n) (cellsOf r s.cur.a))) (min (s.cur.col + n) (s.main.cols - 1)) (decide (s.cur.col + n = s.main.cols) && hasB s.modes 1) r
end Scr
end
end Go.Proofs.YtceaoadlhdgnmaaGreatDoor
