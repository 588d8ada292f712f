/- Joined texts: GrdResize, ScrSize, RowShort, GrdHeld, ScrOwn. -/
import Derived.Test.YtjcfbeiljdohcaaDoorJM22
import Derived.Deep.DeepCutAuto
import Derived.Deep.RegionLaw
import Derived.Deep.CutRange
namespace Go.Proofs.YtjcfbeiljdohcaaDoor
set_option maxRecDepth 100000
section
open Go.RowKit
namespace Row
structure Fits (wr : World) (cv : Nat → Value) (l : List Cl) (rs : List (List Cl)) (R C c m : Nat) (a : Look) (g k : Nat) (xs : List Ln) : Prop where
  len : xs.length = m
  done : ∀ j, j < k → ∃ v, xs.getD j default = .kept v (fitRow (rowOf rs j) c a) ∧ Rm wr v (fitRow (rowOf rs j) c a) ∧ Off g v
  left : ∀ j, k ≤ j → j < m → xs.getD j default = .kept (cv j) (rowAt l C j)
  old : ∀ i, i < R → Rm wr (cv i) (rowAt l C i) ∧ Off g (cv i)
theorem Fits.kept {wr w2 : World} {cv : Nat → Value} {l : List Cl} {rs : List (List Cl)} {R C c m g k : Nat} {a : Look} {xs : List Ln} (h : Fits wr cv l rs R C c m a g k xs) (hb : Below wr.heap.size wr w2) : Fits w2 cv l rs R C c m a g k xs :=
  ⟨h.len, fun j hj => by obtain ⟨v, e, h1, h2⟩ := h.done j hj; exact ⟨v, e, h1.kept hb, h2⟩, h.left, fun i hi => ⟨(h.old i hi).1.kept hb, (h.old i hi).2⟩⟩
theorem Fits.grown {wr w2 : World} {cv : Nat → Value} {l : List Cl} {rs : List (List Cl)} {R C c m g k : Nat} {a : Look} {xs : List Ln} (h : Fits wr cv l rs R C c m a g k xs) (hg : wr.grownBy w2 (some g)) : Fits w2 cv l rs R C c m a g k xs :=
  ⟨h.len, fun j hj => by obtain ⟨v, e, h1, h2⟩ := h.done j hj; exact ⟨v, e, h1.grown hg (fun k e => by cases e; exact h2), h2⟩, h.left, fun i hi => ⟨(h.old i hi).1.grown hg (fun k e => by cases e; exact (h.old i hi).2), (h.old i hi).2⟩⟩
theorem Fits.stored {wr : World} {cv : Nat → Value} {l : List Cl} {rs : List (List Cl)} {R C c m g k : Nat} {a : Look} {xs : List Ln} (h : Fits wr cv l rs R C c m a g k xs) (hk : k < m) {v : Value} (hv : Rm wr v (fitRow (rowOf rs k) c a)) (ho : Off g v) (u : Value) :
    Fits (wr.setCell ⟨g, k, none⟩ u) cv l rs R C c m a g (k + 1) (xs.set k (.kept v (fitRow (rowOf rs k) c a))) := by
  refine ⟨by rw [List.length_set]; exact h.len, fun j hj => ?_, fun j h1 h2 => ?_, fun i hi => ⟨(h.old i hi).1.set (h.old i hi).2 _ _, (h.old i hi).2⟩⟩
  · by_cases e : k = j
    · subst e
      exact ⟨v, getD_set_same (by rw [h.len]; exact hk) _, hv.set ho _ _, ho⟩
    · obtain ⟨v', e', h1, h2⟩ := h.done j (by omega)
      exact ⟨v', by rw [getD_set_ne e]; exact e', h1.set h2 _ _, h2⟩
  · rw [getD_set_ne (by omega)]; exact h.left j (by omega) h2
theorem Fits.start {wr : World} {cv : Nat → Value} {l : List Cl} {rs : List (List Cl)} {R C c m g : Nat} {a : Look} (hm : m ≤ R) (h : ∀ i, i < R → Rm wr (cv i) (rowAt l C i) ∧ Off g (cv i)) : Fits wr cv l rs R C c m a g 0 ((keptOf cv l C (List.range R)).take m) := by
  refine ⟨by rw [List.length_take, keptOf_length, List.length_range]; omega, fun j hj => absurd hj (by omega), fun j _ h2 => ?_, h⟩
  rw [← kept_get (cv := cv) (l := l) (C := C) (show j < R by omega)]
  simp [h2]
def Lined (w : World) (R C m : Nat) (x : Value) (a : Look) (l : List Cl) (s : Value) (wx : World) : Prop :=
  ∃ (cv : Nat → Value) (g gc : Nat), s = .slice (some ⟨g, 0, none⟩) m gc ∧ w.heap.size + 3 ≤ g ∧ Boxes3 w wx R C x a ∧ OwnL wx (w.heap.size + 3) (.slice (some ⟨g, 0, none⟩) R gc) (keptOf cv l C (List.range R)) ∧ (∀ i, i < R → Rm wx (cv i) (rowAt l C i) ∧ Off g (cv i))
end Row
end
section
open Go.RowKit
namespace Scr
open Go.Proofs.YtjcfbeiljdohcaaDoor.Row
theorem rowsOf_flatten {c : Nat} : ∀ {rs : List (List Cl)}, Even c rs → rowsOf c rs.length rs.flatten = rs
  | [], _ => rfl
  | r :: rs, h => by
    rw [List.length_cons, rowsOf, List.flatten_cons, List.take_left' h.head, List.drop_left' h.head, rowsOf_flatten h.tail]
theorem parts_of {G : Gr} (h : gridB G = true) : ∃ (R C : Nat) (rs : List (List Cl)), G = ⟨R, C, rs.flatten⟩ ∧ Rws R C rs ∧ ∀ r c, fitG G r c = ⟨r, c, (fitted rs r c plain).flatten⟩ := by
  obtain ⟨R, C, rs, rfl, hr⟩ := ((gridB_iff G).1 h).parted
  refine ⟨R, C, rs, rfl, hr, fun r c => ?_⟩
  unfold fitG
  show (⟨r, c, (fitted (rowsOf ((C : Int).toNat) ((R : Int).toNat) rs.flatten) r c plain).flatten⟩ : Gr) = _
  rw [Int.toNat_natCast, Int.toNat_natCast, ← hr.len, rowsOf_flatten hr.even]
structure Rz (w0 : World) (s : S) (x y z : Value) (w : World) : Prop where
  bel : Below w0.heap.size w0 w
  b0 : SBox w w0.heap.size s x y z
  b1 : w.heap[w0.heap.size + 1]? = some (.cells zarr 94 (0, 0))
theorem Rz.kept {w0 w w' : World} {s : S} {x y z : Value} (h : Rz w0 s x y z w) (hb : Below w.heap.size w w') : Rz w0 s x y z w' := ⟨h.bel.trans (hb.mono h.bel.size), h.b0.kept hb, Blk.kept h.b1 hb⟩
theorem Rz.up {w0 w : World} {s : S} {x y z : Value} (h : Rz w0 s x y z w) : w0.heap.size + 2 ≤ w.heap.size := Blk.lt h.b1
theorem Rz.start (w : World) (s : S) (x y z : Value) : Rz w s x y z ((w.alloc (.cells (sarr s x y z) 94)).alloc (.cells zarr 94)) :=
  ⟨(bel_alloc w _).alloc (by simp) _, heap_alloc2_old _ _ _, heap_alloc2_new _ _ _⟩
theorem Rz.main {w0 w : World} {s : S} {x y z : Value} (h : Rz w0 s x y z w) (R C : Int) (l : List Cl) (v : Value) : Rz w0 { s with main := ⟨R, C, l⟩ } v y z (gput w w0.heap.size R C v) :=
  ⟨gput_below h.bel (Nat.le_refl _) _ _ v, h.b0.putMain R C l v, gput_other h.b1 (by omega) _ _ _⟩
theorem Rz.other {w0 w : World} {s : S} {x y z : Value} (h : Rz w0 s x y z w) (R C : Int) (l : List Cl) (v : Value) : Rz w0 { s with other := ⟨R, C, l⟩ } x v z (oput w w0.heap.size R C v) :=
  ⟨oput_below h.bel (Nat.le_refl _) _ _ v, h.b0.putOther R C l v, oput_other h.b1 (by omega) _ _ _⟩
theorem Rz.tabs {w0 w : World} {s : S} {x y z : Value} (h : Rz w0 s x y z w) (l : List Bool) (v : Value) : Rz w0 { s with tabs := l } x y v (w.setCell ⟨w0.heap.size, 39, none⟩ v) :=
  ⟨h.bel.setCell (Nat.le_refl _) _, h.b0.putTabs l v, Blk.other h.b1 (by omega) _ _⟩
def kput (w : World) (b p : Nat) (n m : Int) (q : Bool) : World := ((w.setCell ⟨b, p, none⟩ (.int .i64 n)).setCell ⟨b, p + 1, none⟩ (.int .i64 m)).setCell ⟨b, p + 2, none⟩ (.bool q)
theorem SBox.putCur {w : World} {b : Nat} {s : S} {x y z : Value} (h : SBox w b s x y z) (n m : Int) (q : Bool) : SBox (kput w b 7 n m q) b { s with cur := { s.cur with row := n, col := m, wrap := q } } x y z := Blk.set (Blk.set (Blk.set h 7 _) 8 _) 9 _
theorem SBox.putSaved {w : World} {b : Nat} {s : S} {x y z : Value} (h : SBox w b s x y z) (n m : Int) (q : Bool) : SBox (kput w b 17 n m q) b { s with saved := { s.saved with row := n, col := m, wrap := q } } x y z := Blk.set (Blk.set (Blk.set h 17 _) 18 _) 19 _
theorem SBox.putToo {w : World} {b : Nat} {s : S} {x y z : Value} (h : SBox w b s x y z) (n m : Int) (q : Bool) : SBox (kput w b 27 n m q) b { s with too := { s.too with row := n, col := m, wrap := q } } x y z := Blk.set (Blk.set (Blk.set h 27 _) 28 _) 29 _
theorem kput_other {w : World} {g b p : Nat} {o : Obj} (h : w.heap[b]? = some o) (hn : b ≠ g) (n m : Int) (q : Bool) : (kput w g p n m q).heap[b]? = some o := Blk.other (Blk.other (Blk.other h hn _ _) hn _ _) hn _ _
theorem kput_below {B g p : Nat} {a w : World} (h : Below B a w) (hB : B ≤ g) (n m : Int) (q : Bool) : Below B a (kput w g p n m q) := ((h.setCell hB _).setCell hB _).setCell hB _
theorem kput_cs {w : World} {base g p : Nat} {x : Value} {l : List Cl} (h : OwnCs w base x l) (hg : g < base) (n m : Int) (q : Bool) : OwnCs (kput w g p n m q) base x l := ((h.set hg _ _).set hg _ _).set hg _ _
theorem kput_bs {w : World} {base g p : Nat} {x : Value} {l : List Bool} (h : Tab.OwnB w base x l) (hg : g < base) (n m : Int) (q : Bool) : Tab.OwnB (kput w g p n m q) base x l := ownB_set (ownB_set (ownB_set h hg _ _) hg _ _) hg _ _
theorem Rz.cur {w0 w : World} {s : S} {x y z : Value} (h : Rz w0 s x y z w) (n m : Int) (q : Bool) : Rz w0 { s with cur := { s.cur with row := n, col := m, wrap := q } } x y z (kput w w0.heap.size 7 n m q) :=
  ⟨kput_below h.bel (Nat.le_refl _) _ _ _, h.b0.putCur n m q, kput_other h.b1 (by omega) _ _ _⟩
theorem Rz.saved {w0 w : World} {s : S} {x y z : Value} (h : Rz w0 s x y z w) (n m : Int) (q : Bool) : Rz w0 { s with saved := { s.saved with row := n, col := m, wrap := q } } x y z (kput w w0.heap.size 17 n m q) :=
  ⟨kput_below h.bel (Nat.le_refl _) _ _ _, h.b0.putSaved n m q, kput_other h.b1 (by omega) _ _ _⟩
theorem Rz.too {w0 w : World} {s : S} {x y z : Value} (h : Rz w0 s x y z w) (n m : Int) (q : Bool) : Rz w0 { s with too := { s.too with row := n, col := m, wrap := q } } x y z (kput w w0.heap.size 27 n m q) :=
  ⟨kput_below h.bel (Nat.le_refl _) _ _ _, h.b0.putToo n m q, kput_other h.b1 (by omega) _ _ _⟩
end Scr
end
section
open Go.RowKit
namespace Row
open Utf Wid
theorem dec_four (l : List UInt8) : (dec l).2 ≤ 4 := by
  rcases decodeN_cases l.length (l.getD 0 0).toNat (l.getD 1 0).toNat (l.getD 2 0).toNat (l.getD 3 0).toNat (byte_lt _) (byte_lt _) (byte_lt _) (byte_lt _) with e | ⟨_, e⟩ | ⟨_, _, _, e⟩ | ⟨_, _, _, _, e⟩ | ⟨_, _, _, _, _, e⟩
  all_goals
    unfold dec
    rw [e]
    exact Nat.le_of_ble_eq_true rfl
theorem marks_long : ∀ (k : Nat) (l : List UInt8) (n : Nat), l.length ≤ k → marks l = some n → l.length ≤ 4 * n
  | 0, l, n, h, _ => by omega
  | k + 1, l, n, h, hm => by
    by_cases hl : l = []
    · subst hl; simp
    · rw [marks_step hl] at hm
      have h1 := dec_pos hl
      have h2 := dec_le hl
      have h4 := dec_four l
      by_cases hw : wid (dec l).1 = 0
      · rw [if_pos hw] at hm
        obtain ⟨m, hm', hmn⟩ := Option.map_eq_some_iff.1 hm
        have := marks_long k (l.drop (dec l).2) m (by rw [List.length_drop]; omega) hm'
        rw [List.length_drop] at this
        omega
      · rw [if_neg hw] at hm; cases hm
theorem combOk_short {m : List UInt8} (h : combOk m = true) : m.length ≤ 8 := by
  unfold combOk at h
  cases hm : marks m with
  | none => rw [hm] at h; cases h
  | some n =>
    rw [hm] at h
    have h2 : n ≤ 2 := of_decide_eq_true h
    have := marks_long m.length m n (Nat.le_refl _) hm
    omega
theorem good_texts {l : List Cl} (h : Good l) : ∀ i, i < l.length → (g l i).comb.length ≤ 8 := by
  intro i hi
  have hk := okAt_kind (h i hi)
  cases hc : combOk (g l i).comb with
  | true => exact combOk_short hc
  | false => exact absurd (kind_bad hc) hk
theorem RowOk.held {l : List Cl} (h : RowOk l) : Held l := fun i hi => by have := good_texts h.2.2 i hi; omega
end Row
end
section
open Go.RowKit
namespace Row
theorem flat_g {c : Nat} : ∀ {rs : List (List Cl)} (_ : Even c rs) (q j : Nat), q < rs.length → j < c → g rs.flatten (q * c + j) = g (rowOf rs q) j
  | [], _, q, j, h, _ => absurd h (by simp)
  | r :: rs, he, 0, j, _, hj => by
    rw [List.flatten_cons, Nat.zero_mul, Nat.zero_add, g_append_left (by rw [he.head]; exact hj)]; rfl
  | r :: rs, he, q + 1, j, h, hj => by
    rw [List.flatten_cons, g_append_right (by rw [he.head, Nat.succ_mul]; omega), he.head, show (q + 1) * c + j - c = q * c + j from by rw [Nat.succ_mul]; omega, flat_g he.tail q j (by simpa using h) hj]
    rfl
theorem split_at {c n i : Nat} (h : i < n * c) : ∃ q j, q < n ∧ j < c ∧ i = q * c + j := by
  have hc : 0 < c := by
    rcases Nat.eq_zero_or_pos c with e | e
    · subst e; simp at h
    · exact e
  refine ⟨i / c, i % c, Nat.div_lt_of_lt_mul (by rw [Nat.mul_comm]; exact h), Nat.mod_lt _ hc, ?_⟩
  have := Nat.div_add_mod i c
  rw [Nat.mul_comm c] at this
  omega
theorem Rws.short {R C : Nat} {rs : List (List Cl)} (h : Rws R C rs) : ∀ i, i < rs.flatten.length → (g rs.flatten i).comb.length ≤ 8 := by
  intro i hi
  rw [even_length h.even, h.len] at hi
  obtain ⟨q, j, hq, hj, rfl⟩ := split_at hi
  rw [flat_g h.even q j (by rw [h.len]; exact hq) hj]
  exact good_texts (h.ok q hq).2.2 j (by rw [h.rlen hq]; exact hj)
theorem Rws.held {R C : Nat} {rs : List (List Cl)} (h : Rws R C rs) : Held rs.flatten := fun i hi => by have := h.short i hi; omega
theorem back_cells {R C : Nat} {rs : List (List Cl)} (h : Rws R C rs) {n : Nat} {a : Look} (ha : attrOk a = true) {i : Nat} (h1 : n * C ≤ i) (h2 : i < R * C) :
    g (moved (moved rs 0 (R - 1) n C a) 0 (R - 1) (-(n : Int)) C a).flatten i = g rs.flatten i := by
  have hR := h.r1
  have m1 := moved_rws h (top := 0) (bot := R - 1) (by omega) (n : Int) ha
  have m2 := moved_rws m1 (top := 0) (bot := R - 1) (by omega) (-(n : Int)) ha
  obtain ⟨q, j, hq, hj, rfl⟩ := split_at h2
  have hnq : n ≤ q := by
    rcases Nat.lt_or_ge q n with e | e
    · exfalso
      have : (q + 1) * C ≤ n * C := Nat.mul_le_mul_right C e
      rw [Nat.succ_mul] at this
      omega
    · exact e
  rw [flat_g m2.even q j (by rw [m2.len]; exact hq) hj, flat_g h.even q j (by rw [h.len]; exact hq) hj]
  have := back_rows (rs := rs) (n := n) (c := C) (a := a) hnq (by rw [h.len]; exact hq)
  rw [h.len] at this
  rw [this]
end Row
end
section
namespace Scr
open Go.Proofs.YtjcfbeiljdohcaaDoor.Row
theorem mendEnd_fine {l : List Cl} (h : Row.Good l) : mendEnd l = l := by
  unfold mendEnd
  rw [if_neg]
  rintro ⟨h0, hw⟩
  have hl : 0 < l.length := List.length_pos_iff.2 h0
  have ho := h (l.length - 1) (by omega)
  rcases ho with q | ⟨_, q, _⟩ | ⟨q, _⟩
  · rw [kind_1 q] at hw; exact absurd hw (by decide)
  · omega
  · rw [kind_3w q] at hw; exact absurd hw (by decide)
theorem fit_id (l : List Cl) (a : Look) : fitRow l l.length a = l := by
  unfold fitRow
  rw [if_neg (by omega), Nat.sub_self, List.replicate_zero, List.append_nil]
theorem fit_back {l : List Cl} (h : Row.Good l) {n : Nat} (hn : l.length ≤ n) (a : Look) : fitRow (fitRow l n a) l.length a = l := by
  have e1 : fitRow l n a = l ++ List.replicate (n - l.length) (Row.blank a) := by
    unfold fitRow; rw [if_neg (by omega)]
  rw [e1]
  by_cases e : n = l.length
  · subst e
    rw [Nat.sub_self, List.replicate_zero, List.append_nil, fit_id]
  · unfold fitRow
    have hlen : (l ++ List.replicate (n - l.length) (Row.blank a)).length = n := by rw [List.length_append, List.length_replicate]; omega
    rw [hlen, if_pos (by omega), List.take_left' rfl, mendEnd_fine h, Nat.sub_eq_zero_of_le (by omega), List.replicate_zero, List.append_nil]
theorem fitted_id {R C : Nat} {rs : List (List Cl)} (h : Rws R C rs) (a : Look) : fitted rs R C a = rs := by
  refine rows_ext (by unfold fitted; rw [List.length_map, List.length_range, h.len]) fun i hi => ?_
  unfold fitted at hi ⊢
  rw [List.length_map, List.length_range] at hi
  rw [rowOf_map _ hi, if_pos (by rw [h.len]; exact hi)]
  have := h.rlen hi
  rw [← this, fit_id]
theorem fitted_len (rs : List (List Cl)) (r c : Nat) (a : Look) : (fitted rs r c a).length = r := by unfold fitted; rw [List.length_map, List.length_range]
theorem fitted_back {R C : Nat} {rs : List (List Cl)} (h : Rws R C rs) {r c : Nat} (hr : R ≤ r) (hc : C ≤ c) (a : Look) : fitted (fitted rs r c a) R C a = rs := by
  refine rows_ext (by rw [fitted_len, h.len]) fun i hi => ?_
  rw [fitted_len] at hi
  have e : rowOf (fitted (fitted rs r c a) R C a) i = fitRow (rowOf (fitted rs r c a) i) C a := by
    show rowOf ((List.range R).map _) i = _
    rw [rowOf_map _ hi, if_pos (by rw [fitted_len]; omega)]
  have e2 : rowOf (fitted rs r c a) i = fitRow (rowOf rs i) c a := by
    show rowOf ((List.range r).map _) i = _
    rw [rowOf_map _ (by omega), if_pos (by rw [h.len]; exact hi)]
  rw [e, e2]
  have hl := h.rlen hi
  have := fit_back (h.ok i hi).2.2 (n := c) (by omega) a
  rwa [hl] at this
theorem fitG_own {G : Gr} (h : gridB G = true) : fitG G G.rows.toNat G.cols.toNat = G := by
  obtain ⟨R, C, rs, rfl, hr, hf⟩ := parts_of h
  show fitG _ ((R : Int).toNat) ((C : Int).toNat) = _
  rw [Int.toNat_natCast, Int.toNat_natCast, hf R C, fitted_id hr]
theorem fitG_ok {G : Gr} (h : gridB G = true) {r c : Nat} (h1 : 1 ≤ r) (h2 : r ≤ 40) (h3 : 1 ≤ c) (h4 : c ≤ 40) : gridB (fitG G r c) = true := by
  obtain ⟨R, C, rs, rfl, hr, hf⟩ := parts_of h
  rw [hf r c]
  exact (gridB_iff _).2 (fitted_rws hr h1 h2 h3 h4 plain_ok).grid
theorem fitG_back {G : Gr} (h : gridB G = true) {r c : Nat} (h2 : r ≤ 40) (h4 : c ≤ 40) (hr : G.rows.toNat ≤ r) (hc : G.cols.toNat ≤ c) : fitG (fitG G r c) G.rows.toNat G.cols.toNat = G := by
  obtain ⟨R, C, rs, rfl, hw, hf⟩ := parts_of h
  have hr : R ≤ r := by simpa using hr
  have hc : C ≤ c := by simpa using hc
  have h1 := hw.r1
  have h3 := hw.c1
  have hg := fitted_rws hw (r := r) (c := c) (by omega) h2 (by omega) h4 plain_ok
  have hl : ((r : Nat) : Int).toNat = r := by simp
  have hlc : ((c : Nat) : Int).toNat = c := by simp
  rw [hf r c]
  unfold fitG
  show (⟨(((R : Int).toNat : Nat) : Int), (((C : Int).toNat : Nat) : Int), (fitted (rowsOf ((c : Int).toNat) ((r : Int).toNat) (fitted rs r c plain).flatten) ((R : Int).toNat) ((C : Int).toNat) plain).flatten⟩ : Gr) = _
  rw [hl, hlc, Int.toNat_natCast, Int.toNat_natCast]
  have e : rowsOf c r (fitted rs r c plain).flatten = fitted rs r c plain := by
    have := rowsOf_flatten hg.even
    rwa [fitted_len] at this
  rw [e, fitted_back hw hr hc]
theorem gridB_held {G : Gr} (h : gridB G = true) : Held G.cells := by
  obtain ⟨R, C, rs, rfl, hr, _⟩ := parts_of h
  exact hr.held
theorem gridB_small {G : Gr} (h : gridB G = true) : G.cells.length ≤ 1600 := by
  obtain ⟨R, C, rs, rfl, hr, _⟩ := parts_of h
  exact hr.small
structure Ok (s : S) : Prop where
  m : gridB s.main = true
  o : gridB s.other = true
  r : s.other.rows = s.main.rows
  c : s.other.cols = s.main.cols
  k1 : cursorB s.cur (s.main.rows - 1) (s.main.cols - 1) = true
  k2 : cursorB s.saved (s.main.rows - 1) (s.main.cols - 1) = true
  k3 : cursorB s.too (s.main.rows - 1) (s.main.cols - 1) = true
  g : marginsB s.top s.bottom s.main.rows = true
  b : (s.tabs.length : Int) = s.main.cols
  n : rng s.modes 0 1023 = true
  t : titleB s.title = true
  l : lastB s.last = true
theorem ok_iff (s : S) : okB s = true ↔ Ok s := by
  unfold okB
  simp only [Bool.and_eq_true, beq_iff_eq]
  exact ⟨fun ⟨a, b, c, d, e, f, g, h, i, j, k, l⟩ => ⟨a, b, c, d, e, f, g, h, i, j, k, l⟩, fun ⟨a, b, c, d, e, f, g, h, i, j, k, l⟩ => ⟨a, b, c, d, e, f, g, h, i, j, k, l⟩⟩
theorem cursor_fit {k : Cur} {m n : Int} (h : cursorB k m n = true) {r c : Nat} (h1 : 1 ≤ r) (h3 : 1 ≤ c) : cursorB (fitC k r c) ((r : Int) - 1) ((c : Int) - 1) = true := by
  unfold cursorB fitC at *
  simp only [Bool.and_eq_true] at h ⊢
  obtain ⟨h5, h6, _, h7⟩ := h
  have h5 := rng_iff.1 h5
  have h6 := rng_iff.1 h6
  exact ⟨rng_iff.2 ⟨by omega, by omega⟩, rng_iff.2 ⟨by omega, by omega⟩, rfl, h7⟩
theorem margins_full {r : Nat} (h : 1 ≤ r) : marginsB 0 ((r : Int) - 1) r = true := by
  unfold marginsB
  by_cases e : (r : Int) = 1
  · rw [if_pos e, e]; rfl
  · rw [if_neg e, decide_eq_true (by omega), decide_eq_true (show (0 : Int) < (r : Int) - 1 by omega), decide_eq_true (by omega)]; rfl
theorem Ok.fit {s : S} (h : Ok s) {r c : Nat} (h1 : 1 ≤ r) (h2 : r ≤ 40) (h3 : 1 ≤ c) (h4 : c ≤ 40) : Ok (resized s r c) :=
  ⟨fitG_ok h.m h1 h2 h3 h4, fitG_ok h.o h1 h2 h3 h4, rfl, rfl, cursor_fit h.k1 h1 h3, cursor_fit h.k2 h1 h3, cursor_fit h.k3 h1 h3, margins_full h1, by show ((Tab.grownOf s.tabs c).length : Int) = (c : Int); rw [Tab.grownOf_length], h.n, h.t, h.l⟩
theorem titleB_len {t : List UInt8} (h : titleB t = true) : t.length ≤ 64 := by
  unfold titleB at h
  rw [Bool.and_eq_true] at h
  exact of_decide_eq_true h.1
theorem Ok.holds {s : S} (h : Ok s) : Holds s := ⟨gridB_held h.m, gridB_held h.o, by have := titleB_len h.t; omega⟩
theorem newS_ok {r c : Nat} (h1 : 1 ≤ r) (h2 : r ≤ 40) (h3 : 1 ≤ c) (h4 : c ≤ 40) : Ok (newS r c) := by
  have hg : gridB (newG r c) = true := (gridB_iff _).2 (news_rws h1 h2 h3 h4 plain_ok).grid
  have hk : cursorB first ((r : Int) - 1) ((c : Int) - 1) = true := by
    unfold cursorB first
    simp only [Bool.and_eq_true]
    exact ⟨rng_iff.2 ⟨by omega, by omega⟩, rng_iff.2 ⟨by omega, by omega⟩, rfl, rfl, rfl, rfl, rfl⟩
  exact ⟨hg, hg, rfl, rfl, hk, hk, hk, margins_full h1, by show ((Tab.grownOf [] c).length : Int) = (c : Int); rw [Tab.grownOf_length], rfl, rfl, rfl⟩
end Scr
end
end Go.Proofs.YtjcfbeiljdohcaaDoor
