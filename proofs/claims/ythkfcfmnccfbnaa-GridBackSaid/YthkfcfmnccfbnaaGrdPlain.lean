/- Grids as plain data: rows of cells, one behind the other; which may be; how rows are taken, put, moved, cut and made longer. No program stands in this text. -/
import Derived.Test.YthkfcfmnccfbnaaRowPlain
namespace Go.Proofs.Ythkfcfmnccfbnaa
namespace Row


structure Gr where
  rows : Int
  cols : Int
  cells : List Cl
def rowAt (l : List Cl) (c i : Nat) : List Cl := (l.drop (i * c)).take c
def GridOk (G : Gr) : Prop := (1 ≤ G.rows ∧ G.rows ≤ 40) ∧ (1 ≤ G.cols ∧ G.cols ≤ 40) ∧ (G.cells.length : Int) = G.rows * G.cols ∧ ∀ i : Nat, (i : Int) < G.rows → RowOk (rowAt G.cells G.cols.toNat i)

/-! ### rows of one length -/
def Even (c : Nat) (rs : List (List Cl)) : Prop := ∀ r ∈ rs, r.length = c
theorem Even.tail {c : Nat} {r : List Cl} {rs : List (List Cl)} (h : Even c (r :: rs)) : Even c rs := fun x hx => h x (List.mem_cons_of_mem _ hx)
theorem Even.head {c : Nat} {r : List Cl} {rs : List (List Cl)} (h : Even c (r :: rs)) : r.length = c := h r (List.mem_cons_self ..)
theorem even_append {c : Nat} {a b : List (List Cl)} (ha : Even c a) (hb : Even c b) : Even c (a ++ b) := by
  intro r hr
  rcases List.mem_append.1 hr with h | h
  · exact ha r h
  · exact hb r h
theorem Even.take {c : Nat} {rs : List (List Cl)} (h : Even c rs) (k : Nat) : Even c (rs.take k) := fun r hr => h r (List.mem_of_mem_take hr)
theorem Even.drop {c : Nat} {rs : List (List Cl)} (h : Even c rs) (k : Nat) : Even c (rs.drop k) := fun r hr => h r (List.mem_of_mem_drop hr)
theorem even_length : ∀ {c : Nat} {rs : List (List Cl)}, Even c rs → rs.flatten.length = rs.length * c
  | c, [], _ => by simp
  | c, r :: rs, h => by
    rw [List.flatten_cons, List.length_append, even_length h.tail, h.head, List.length_cons, Nat.succ_mul, Nat.add_comm]
theorem take_flat : ∀ {c : Nat} {rs : List (List Cl)} (_ : Even c rs) (k : Nat), rs.flatten.take (k * c) = (rs.take k).flatten
  | c, [], _, k => by simp
  | c, r :: rs, h, 0 => by simp
  | c, r :: rs, h, k + 1 => by
    have hr := h.head
    rw [List.flatten_cons, List.take_succ_cons, List.flatten_cons, ← take_flat h.tail k, List.take_append, hr, Nat.succ_mul, Nat.add_sub_cancel, List.take_of_length_le (by omega)]
theorem drop_flat : ∀ {c : Nat} {rs : List (List Cl)} (_ : Even c rs) (k : Nat), rs.flatten.drop (k * c) = (rs.drop k).flatten
  | c, [], _, k => by simp
  | c, r :: rs, h, 0 => by simp
  | c, r :: rs, h, k + 1 => by
    have hr := h.head
    rw [List.flatten_cons, List.drop_succ_cons, ← drop_flat h.tail k, List.drop_append, hr, Nat.succ_mul, Nat.add_sub_cancel, List.drop_of_length_le (by omega), List.nil_append]
def rowOf (rs : List (List Cl)) (i : Nat) : List Cl := rs.getD i []
theorem rowOf_mem {rs : List (List Cl)} {i : Nat} (h : i < rs.length) : rowOf rs i ∈ rs := by
  unfold rowOf
  rw [List.getD_eq_getElem?_getD, List.getElem?_eq_getElem h]
  exact List.getElem_mem h
theorem rowAt_flat {c : Nat} {rs : List (List Cl)} (h : Even c rs) {i : Nat} (hi : i < rs.length) : rowAt rs.flatten c i = rowOf rs i := by
  unfold rowAt
  rw [drop_flat h, List.drop_eq_getElem_cons hi, List.flatten_cons]
  have hr : (rs[i]).length = c := h _ (List.getElem_mem hi)
  rw [List.take_left' hr]
  unfold rowOf
  rw [List.getD_eq_getElem?_getD, List.getElem?_eq_getElem hi]; rfl
/-- A list, parted. -/
def rowsOf (c : Nat) : Nat → List Cl → List (List Cl)
  | 0, _ => []
  | n + 1, l => l.take c :: rowsOf c n (l.drop c)
theorem rowsOf_length (c : Nat) : ∀ (n : Nat) (l : List Cl), (rowsOf c n l).length = n
  | 0, _ => rfl
  | n + 1, l => by rw [rowsOf, List.length_cons, rowsOf_length c n]
theorem rowsOf_flat (c : Nat) : ∀ (n : Nat) (l : List Cl), l.length = n * c → (rowsOf c n l).flatten = l
  | 0, l, h => by
    have : l = [] := List.eq_nil_of_length_eq_zero (by omega)
    subst this; rfl
  | n + 1, l, h => by
    rw [rowsOf, List.flatten_cons, rowsOf_flat c n (l.drop c) (by rw [List.length_drop, h, Nat.succ_mul, Nat.add_sub_cancel]), List.take_append_drop]
theorem rowsOf_even (c : Nat) : ∀ (n : Nat) (l : List Cl), l.length = n * c → Even c (rowsOf c n l)
  | 0, _, _ => fun r hr => by cases hr
  | n + 1, l, h => by
    intro r hr
    rw [rowsOf] at hr
    rcases List.mem_cons.1 hr with rfl | hr
    · rw [List.length_take, h, Nat.succ_mul]; omega
    · exact rowsOf_even c n (l.drop c) (by rw [List.length_drop, h, Nat.succ_mul, Nat.add_sub_cancel]) r hr
/-- A grid that may be, by its rows. -/
structure Rws (R C : Nat) (rs : List (List Cl)) : Prop where
  r1 : 1 ≤ R
  r40 : R ≤ 40
  c1 : 1 ≤ C
  c40 : C ≤ 40
  len : rs.length = R
  even : Even C rs
  ok : ∀ i, i < R → RowOk (rowOf rs i)
theorem Rws.grid {R C : Nat} {rs : List (List Cl)} (h : Rws R C rs) : GridOk ⟨R, C, rs.flatten⟩ := by
  refine ⟨⟨?_, ?_⟩, ⟨?_, ?_⟩, ?_, fun i hi => ?_⟩
  · have := h.r1; show (1 : Int) ≤ (R : Int); omega
  · have := h.r40; show (R : Int) ≤ 40; omega
  · have := h.c1; show (1 : Int) ≤ (C : Int); omega
  · have := h.c40; show (C : Int) ≤ 40; omega
  · show ((rs.flatten.length : Nat) : Int) = (R : Int) * (C : Int)
    rw [even_length h.even, h.len, Int.natCast_mul]
  · have hi : i < R := by have : (i : Int) < (R : Int) := hi; omega
    show RowOk (rowAt rs.flatten ((C : Int).toNat) i)
    rw [Int.toNat_natCast, rowAt_flat h.even (by rw [h.len]; exact hi)]
    exact h.ok i hi
theorem GridOk.parted {G : Gr} (h : GridOk G) : ∃ (R C : Nat) (rs : List (List Cl)), G = ⟨R, C, rs.flatten⟩ ∧ Rws R C rs := by
  obtain ⟨rows, cols, l⟩ := G
  obtain ⟨⟨h1, h2⟩, ⟨h3, h4⟩, hl, hr⟩ := h
  simp only at h1 h2 h3 h4 hl hr
  obtain ⟨R, rfl⟩ := Int.eq_ofNat_of_zero_le (show 0 ≤ rows by omega)
  obtain ⟨C, rfl⟩ := Int.eq_ofNat_of_zero_le (show 0 ≤ cols by omega)
  have hl : l.length = R * C := by rw [← Int.natCast_mul] at hl; omega
  have he := rowsOf_even C R l hl
  refine ⟨R, C, rowsOf C R l, by rw [rowsOf_flat C R l hl], by omega, by omega, by omega, by omega, rowsOf_length C R l, he, fun i hi => ?_⟩
  have := hr i (by omega)
  rw [Int.toNat_natCast] at this
  rw [← rowAt_flat he (by rw [rowsOf_length]; exact hi), rowsOf_flat C R l hl]
  exact this
theorem GridOk.iff_rows (G : Gr) : GridOk G ↔ ∃ (R C : Nat) (rs : List (List Cl)), G = ⟨R, C, rs.flatten⟩ ∧ Rws R C rs :=
  ⟨GridOk.parted, fun ⟨_, _, _, e, h⟩ => by subst e; exact h.grid⟩
theorem Rws.rlen {R C : Nat} {rs : List (List Cl)} (h : Rws R C rs) {i : Nat} (hi : i < R) : (rowOf rs i).length = C := h.even _ (rowOf_mem (by rw [h.len]; exact hi))
theorem Rws.small {R C : Nat} {rs : List (List Cl)} (h : Rws R C rs) : rs.flatten.length ≤ 1600 := by
  rw [even_length h.even, h.len]
  exact Nat.mul_le_mul h.r40 h.c40
/-- Rows that are told one by one. -/
theorem rows_ext {a b : List (List Cl)} (hl : a.length = b.length) (h : ∀ i, i < a.length → rowOf a i = rowOf b i) : a = b := by
  apply List.ext_getElem hl
  intro i h1 h2
  have := h i h1
  unfold rowOf at this
  rwa [List.getD_eq_getElem?_getD, List.getD_eq_getElem?_getD, List.getElem?_eq_getElem h1, List.getElem?_eq_getElem h2] at this
theorem rowOf_map {n : Nat} (f : Nat → List Cl) {i : Nat} (h : i < n) : rowOf ((List.range n).map f) i = f i := by
  simp [rowOf, h]
theorem even_of {c : Nat} {rs : List (List Cl)} (h : ∀ i, i < rs.length → (rowOf rs i).length = c) : Even c rs := by
  intro r hr
  obtain ⟨i, hi, rfl⟩ := List.getElem_of_mem hr
  have := h i hi
  unfold rowOf at this
  rwa [List.getD_eq_getElem?_getD, List.getElem?_eq_getElem hi] at this

/-! ### what is made of grids -/
def blankRow (c : Nat) (a : Look) : List Cl := List.replicate c (blank a)
theorem blankRow_length (c : Nat) (a : Look) : (blankRow c a).length = c := List.length_replicate
theorem blankRow_ok {c : Nat} {a : Look} (h1 : 1 ≤ c) (h2 : c ≤ 40) (ha : attrOk a = true) : RowOk (blankRow c a) := ⟨by rw [blankRow_length]; exact h1, by rw [blankRow_length]; exact h2, good_blanks ha c⟩
def news (r c : Nat) (a : Look) : List (List Cl) := List.replicate r (blankRow c a)
theorem news_flat (r c : Nat) (a : Look) : (news r c a).flatten = List.replicate (r * c) (blank a) := by
  unfold news blankRow
  rw [List.flatten_replicate_replicate]
theorem rowOf_news {r c i : Nat} {a : Look} (h : i < r) : rowOf (news r c a) i = blankRow c a := by simp [rowOf, news, h]
theorem news_rws {r c : Nat} {a : Look} (h1 : 1 ≤ r) (h2 : r ≤ 40) (h3 : 1 ≤ c) (h4 : c ≤ 40) (ha : attrOk a = true) : Rws r c (news r c a) := by
  refine ⟨h1, h2, h3, h4, List.length_replicate, fun x hx => ?_, fun i hi => ?_⟩
  · rw [(List.mem_replicate.1 hx).2]; exact blankRow_length c a
  · rw [rowOf_news hi]; exact blankRow_ok h3 h4 ha
/-- That row is another. -/
theorem rowOf_set_same {rs : List (List Cl)} {i : Nat} (h : i < rs.length) (x : List Cl) : rowOf (rs.set i x) i = x := by simp [rowOf, h]
theorem rowOf_set_ne {rs : List (List Cl)} {i j : Nat} (h : i ≠ j) (x : List Cl) : rowOf (rs.set i x) j = rowOf rs j := by simp [rowOf, List.getElem?_set_ne h]
theorem set_rws {R C : Nat} {rs : List (List Cl)} (h : Rws R C rs) {i : Nat} (hi : i < R) {x : List Cl} (hx : RowOk x) (hl : x.length = C) : Rws R C (rs.set i x) := by
  refine ⟨h.r1, h.r40, h.c1, h.c40, by rw [List.length_set]; exact h.len, fun r hr => ?_, fun j hj => ?_⟩
  · rcases List.mem_or_eq_of_mem_set hr with hr | rfl
    · exact h.even r hr
    · exact hl
  · by_cases e : i = j
    · subst e; rw [rowOf_set_same (by rw [h.len]; exact hi)]; exact hx
    · rw [rowOf_set_ne e]; exact h.ok j hj
/-- Rows from top to bottom go n up (down, where n is below 0). -/
def movedRow (rs : List (List Cl)) (top bot : Nat) (n : Int) (c : Nat) (a : Look) (i : Nat) : List Cl :=
  if top ≤ i ∧ i ≤ bot then (if (i : Int) + n < top ∨ (bot : Int) < i + n then blankRow c a else rowOf rs ((i : Int) + n).toNat) else rowOf rs i
def moved (rs : List (List Cl)) (top bot : Nat) (n : Int) (c : Nat) (a : Look) : List (List Cl) := (List.range rs.length).map (movedRow rs top bot n c a)
theorem moved_rws {R C : Nat} {rs : List (List Cl)} (h : Rws R C rs) {top bot : Nat} (hb : bot < R) (n : Int) {a : Look} (ha : attrOk a = true) : Rws R C (moved rs top bot n C a) := by
  have key : ∀ i, i < R → RowOk (movedRow rs top bot n C a i) ∧ (movedRow rs top bot n C a i).length = C := by
    intro i hi
    unfold movedRow
    split
    · split
      · exact ⟨blankRow_ok h.c1 h.c40 ha, blankRow_length C a⟩
      · have : ((i : Int) + n).toNat < R := by omega
        exact ⟨h.ok _ this, h.rlen this⟩
    · exact ⟨h.ok _ hi, h.rlen hi⟩
  have hl : (moved rs top bot n C a).length = R := by unfold moved; rw [List.length_map, List.length_range, h.len]
  refine ⟨h.r1, h.r40, h.c1, h.c40, hl, even_of fun i hi => ?_, fun i hi => ?_⟩
  · rw [hl] at hi
    unfold moved; rw [rowOf_map _ (by rw [h.len]; exact hi)]; exact (key i hi).2
  · unfold moved; rw [rowOf_map _ (by rw [h.len]; exact hi)]; exact (key i hi).1
/-- A row of another length: cut, its last half mended, or made longer. -/
def mendEnd (l : List Cl) : List Cl := if l ≠ [] ∧ (g l (l.length - 1)).wide = 1 then l.set (l.length - 1) (blank (g l (l.length - 1)).a) else l
def fitRow (l : List Cl) (n : Nat) (a : Look) : List Cl := (if n < l.length then mendEnd (l.take n) else l) ++ List.replicate (n - l.length) (blank a)
def fitted (rs : List (List Cl)) (r c : Nat) (a : Look) : List (List Cl) := (List.range r).map fun i => if i < rs.length then fitRow (rowOf rs i) c a else blankRow c a
theorem mendEnd_length (l : List Cl) : (mendEnd l).length = l.length := by
  unfold mendEnd; split
  · rw [List.length_set]
  · rfl
theorem fitRow_length (l : List Cl) (n : Nat) (a : Look) : (fitRow l n a).length = n := by
  unfold fitRow
  rw [List.length_append, List.length_replicate]
  split
  · rw [mendEnd_length, List.length_take]; omega
  · omega
theorem okAt_of {l m : List Cl} {i : Nat} (h : okAt l i) (h0 : g m i = g l i) (h1 : kind (g l i) = 2 → i + 1 < m.length ∧ g m (i + 1) = g l (i + 1)) (h2 : kind (g l i) = 3 → (g m (i - 1)).wide = (g l (i - 1)).wide) : okAt m i := by
  unfold okAt at h ⊢
  rw [h0]
  rcases h with h | ⟨k, h3, h4⟩ | ⟨k, h3, h4⟩
  · exact .inl h
  · obtain ⟨h5, h6⟩ := h1 k
    exact .inr (.inl ⟨k, h5, by rw [h6]; exact h4⟩)
  · exact .inr (.inr ⟨k, h3, by rw [h2 k]; exact h4⟩)
theorem g_take_lt {l : List Cl} {n i : Nat} (h : i < n) : g (l.take n) i = g l i := g_take h
theorem mendEnd_good {l : List Cl} (h : Good l) {n : Nat} (hn : n < l.length) (h1 : 1 ≤ n) : Good (mendEnd (l.take n)) := by
  have hlen : (l.take n).length = n := by rw [List.length_take]; omega
  have hlast : g (l.take n) (n - 1) = g l (n - 1) := g_take (by omega)
  intro i hi
  rw [mendEnd_length, hlen] at hi
  have ho := h i (by omega)
  by_cases hw : (g l (n - 1)).wide = 1
  · have he : mendEnd (l.take n) = (l.take n).set (n - 1) (blank (g l (n - 1)).a) := by
      unfold mendEnd
      rw [hlen, hlast, if_pos ⟨by intro e; rw [e] at hlen; simp at hlen; omega, hw⟩]
    rw [he]
    by_cases e : i = n - 1
    · subst e
      refine .inl ?_
      rw [g_set_same (by omega)]
      exact kind_blank (kind_attr (okAt_kind ho))
    · have h0 : g ((l.take n).set (n - 1) (blank (g l (n - 1)).a)) i = g l i := by rw [g_set_ne (by omega), g_take hi]
      refine okAt_of ho h0 (fun k => ?_) (fun k => ?_)
      · by_cases e2 : i + 1 = n - 1
        · exfalso
          obtain ⟨_, h5⟩ : i + 1 < l.length ∧ g l (i + 1) = sec (g l i).a := by
            rcases ho with q | ⟨_, q1, q2⟩ | ⟨q, _⟩
            · omega
            · exact ⟨q1, q2⟩
            · omega
          rw [e2] at h5
          rw [h5] at hw
          exact absurd (show (2 : Int) = 1 from hw) (by decide)
        · refine ⟨by rw [List.length_set, hlen]; omega, ?_⟩
          rw [g_set_ne (by omega), g_take (by omega)]
      · rw [g_set_ne (by omega), g_take (by omega)]
  · have he : mendEnd (l.take n) = l.take n := by
      unfold mendEnd
      rw [hlen, hlast, if_neg (fun q => hw q.2)]
    rw [he]
    refine okAt_of ho (g_take hi) (fun k => ?_) (fun k => by rw [g_take (by omega)])
    have hin : i + 1 < n := by
      by_cases e : i = n - 1
      · subst e; exact absurd (kind_2 k) hw
      · omega
    exact ⟨by omega, g_take hin⟩
theorem fitRow_ok {l : List Cl} (h : RowOk l) {n : Nat} (h1 : 1 ≤ n) (h2 : n ≤ 40) {a : Look} (ha : attrOk a = true) : RowOk (fitRow l n a) := by
  refine ⟨by rw [fitRow_length]; exact h1, by rw [fitRow_length]; exact h2, ?_⟩
  unfold fitRow
  by_cases hn : n < l.length
  · rw [if_pos hn, Nat.sub_eq_zero_of_le (by omega), List.replicate_zero, List.append_nil]
    exact mendEnd_good h.2.2 hn h1
  · rw [if_neg hn]
    exact good_append h.2.2 (good_blanks ha _)
theorem fitted_rws {R C : Nat} {rs : List (List Cl)} (h : Rws R C rs) {r c : Nat} (h1 : 1 ≤ r) (h2 : r ≤ 40) (h3 : 1 ≤ c) (h4 : c ≤ 40) {a : Look} (ha : attrOk a = true) : Rws r c (fitted rs r c a) := by
  have hl : (fitted rs r c a).length = r := by unfold fitted; rw [List.length_map, List.length_range]
  refine ⟨h1, h2, h3, h4, hl, even_of fun i hi => ?_, fun i hi => ?_⟩
  · rw [hl] at hi
    unfold fitted; rw [rowOf_map _ hi]
    split
    · exact fitRow_length _ _ _
    · exact blankRow_length _ _
  · unfold fitted; rw [rowOf_map _ hi]
    split
    · rename_i q
      exact fitRow_ok (h.ok i (by rw [← h.len]; exact q)) h3 h4 ha
    · exact blankRow_ok h3 h4 ha
end Row
end Go.Proofs.Ythkfcfmnccfbnaa
