/- Joined texts: PatMake, Src, Recs. -/
import Derived.Test.YtjcfbeiljdohcaaDoorJM3
import Derived.Deep.Slices
import Derived.Deep.Onto
import Derived.StillTailTactics
import Derived.Deep.RegionHeld3
namespace Go.Proofs.YtjcfbeiljdohcaaDoor
set_option maxRecDepth 100000
section
namespace Pat
open Go.Proofs.YtjcfbeiljdohcaaDoor.Row Go.Proofs.YtjcfbeiljdohcaaDoor.Scr
theorem rowsOf_back {c : Nat} : ∀ {rs : List (List Cl)}, Even c rs → rowsOf c rs.length rs.flatten = rs
  | [], _ => rfl
  | r :: rs, h => by
    have hr := h.head
    rw [List.length_cons, rowsOf, List.flatten_cons, List.take_left' hr, List.drop_left' hr, rowsOf_back h.tail]
def rowsV (G : Gr) : List (List Cl) := rowsOf G.cols.toNat G.rows.toNat G.cells
def rowsP (p : Pt) : List (List Cl) := rowsOf p.cols.toNat (hasR p).toNat p.cells
def ofN (l : List Nat) : List Int := l.map fun (i : Nat) => (i : Int)
def places (p : Pt) : List Nat := p.at_.map Int.toNat
theorem rng_yes {n lo hi : Int} : Row.rng n lo hi = true ↔ lo ≤ n ∧ n ≤ hi := by unfold Row.rng; rw [Bool.and_eq_true, decide_eq_true_eq, decide_eq_true_eq]
theorem ofN_back (l : List Nat) : (ofN l).map Int.toNat = l := by
  unfold ofN; rw [List.map_map, show (Int.toNat ∘ fun (i : Nat) => (i : Int)) = id from funext fun i => Int.toNat_natCast i, List.map_id]
theorem ofN_length (l : List Nat) : (ofN l).length = l.length := List.length_map _
def whole (v : Vw) : Pt := ⟨v.g.rows, v.g.cols, true, [], v.g.cells, v.row, v.col, v.modes, v.title⟩
def sameB (a b : Vw) : Bool := a.g.rows == b.g.rows && a.g.cols == b.g.cols
noncomputable def between (a b : Vw) : Pt :=
  if sameB a b = true then ⟨b.g.rows, b.g.cols, false, ofN (diff (rowsV a.g) (rowsV b.g)), ((diff (rowsV a.g) (rowsV b.g)).map (rowOf (rowsV b.g))).flatten, b.row, b.col, b.modes, b.title⟩ else whole b
def fitsB (v : Vw) (p : Pt) : Bool := p.all || (v.g.rows == p.rows && v.g.cols == p.cols)
def apply (v : Vw) (p : Pt) : Vw :=
  ⟨if p.all = true then ⟨p.rows, p.cols, p.cells⟩ else ⟨v.g.rows, v.g.cols, (putR (rowsV v.g) (places p) (rowsP p)).flatten⟩, p.row, p.col, p.modes, p.title⟩
def rowIn (p : Pt) (i : Nat) : List Cl := rowOf (rowsP p) ((places p).idxOf i)
def mixed (p q : Pt) (i : Nat) : List Cl := if i ∈ places q then rowIn q i else rowIn p i
def goesB (p q : Pt) : Bool := q.all || (p.rows == q.rows && p.cols == q.cols)
def compose (p q : Pt) : Pt :=
  if q.all = true then q
  else if p.all = true then ⟨q.rows, q.cols, true, [], (putR (rowsP p) (places q) (rowsP q)).flatten, q.row, q.col, q.modes, q.title⟩
  else ⟨q.rows, q.cols, false, ofN (joined q.rows.toNat (places p) (places q)), ((joined q.rows.toNat (places p) (places q)).map (mixed p q)).flatten, q.row, q.col, q.modes, q.title⟩
structure PtR (p : Pt) (R C : Nat) (l : List Nat) (rs : List (List Cl)) : Prop where
  rows : p.rows = (R : Int)
  cols : p.cols = (C : Int)
  at_ : p.at_ = ofN l
  cells : p.cells = rs.flatten
  even : Even C rs
  r1 : 1 ≤ R
  r40 : R ≤ 40
  c1 : 1 ≤ C
  c40 : C ≤ 40
  up : l.Pairwise (· < ·)
  lt : ∀ i ∈ l, i < R
  ok : ∀ r ∈ rs, RowOk r
  len : rs.length = if p.all = true then R else l.length
  none : p.all = true → l = []
def headB (p : Pt) : Bool := rng p.row 0 (p.rows - 1) && (rng p.col 0 (p.cols - 1) && (rng p.modes 0 1023 && titleB p.title))
theorem rise_iff (R : Nat) : ∀ (l : List Int) (lo : Nat), riseB (R : Int) (lo : Int) l = true ↔ ∃ m : List Nat, l = ofN m ∧ m.Pairwise (· < ·) ∧ ∀ i ∈ m, lo ≤ i ∧ i < R
  | [], lo => by
    constructor
    · intro _; exact ⟨[], rfl, List.Pairwise.nil, fun i hi => by cases hi⟩
    · intro _; rfl
  | x :: l, lo => by
    unfold riseB
    rw [Bool.and_eq_true, Bool.and_eq_true, decide_eq_true_eq, decide_eq_true_eq]
    constructor
    · rintro ⟨h1, h2, h3⟩
      obtain ⟨n, rfl⟩ := Int.eq_ofNat_of_zero_le (show 0 ≤ x by omega)
      obtain ⟨m, rfl, hm, hb⟩ := (rise_iff R l (n + 1)).1 h3
      refine ⟨n :: m, rfl, List.Pairwise.cons (fun i hi => by have := hb i hi; omega) hm, fun i hi => ?_⟩
      rcases List.mem_cons.1 hi with rfl | hi
      · omega
      · have := hb i hi; omega
    · rintro ⟨m, e, hm, hb⟩
      match m, e with
      | [], e => cases e
      | n :: m, e =>
        have e1 : x = (n : Int) := (List.cons.inj e).1
        have e2 : l = ofN m := (List.cons.inj e).2
        subst e1
        have hn := hb n (List.mem_cons_self ..)
        refine ⟨by omega, by omega, (rise_iff R l (n + 1)).2 ⟨m, e2, hm.tail, fun i hi => ?_⟩⟩
        have h1 := List.rel_of_pairwise_cons hm hi
        have h2 := hb i (List.mem_cons_of_mem _ hi)
        omega
theorem rowB_iff {l : List Cl} : rowB l = true ↔ RowOk l := by
  unfold rowB; exact @decide_eq_true_iff _ (Classical.propDecidable _)
theorem up_length : ∀ {l : List Nat} {R lo : Nat}, l.Pairwise (· < ·) → (∀ i ∈ l, lo ≤ i ∧ i < R) → l.length ≤ R - lo
  | [], _, _, _, _ => by simp
  | n :: l, R, lo, hp, hb => by
    have hn := hb n (List.mem_cons_self ..)
    have := up_length (l := l) (R := R) (lo := n + 1) hp.tail (fun i hi => by
      have h1 := List.rel_of_pairwise_cons hp hi
      have h2 := hb i (List.mem_cons_of_mem _ hi)
      omega)
    rw [List.length_cons]; omega
theorem patchB_iff (p : Pt) : patchB p = true ↔ headB p = true ∧ ∃ R C l rs, PtR p R C l rs := by
  obtain ⟨rows, cols, all, at_, cells, row, col, modes, title⟩ := p
  unfold patchB headB
  simp only [Bool.and_eq_true]
  constructor
  · rintro ⟨⟨hr, hc⟩, h1, h2, h3, h4, h5, h6, h7, h8, h9⟩
    refine ⟨⟨h1, h2, h3, h4⟩, ?_⟩
    have hr := rng_yes.1 hr
    have hc := rng_yes.1 hc
    obtain ⟨R, rfl⟩ := Int.eq_ofNat_of_zero_le (show 0 ≤ rows by omega)
    obtain ⟨C, rfl⟩ := Int.eq_ofNat_of_zero_le (show 0 ≤ cols by omega)
    obtain ⟨l, e, hup, hlt⟩ := (rise_iff R at_ 0).1 h8
    subst e
    have h6 := of_decide_eq_true h6
    have h7 := of_decide_eq_true h7
    obtain ⟨n, hn⟩ : ∃ n : Nat, hasR ⟨R, C, all, ofN l, cells, row, col, modes, title⟩ = (n : Int) := by
      unfold hasR
      cases all
      · exact ⟨l.length, by simp [ofN_length]⟩
      · exact ⟨R, rfl⟩
    rw [hn] at h7 h9
    have hl : cells.length = n * C := by rw [← Int.natCast_mul] at h7; omega
    have he := rowsOf_even C n cells hl
    refine ⟨R, C, l, rowsOf C n cells, rfl, rfl, rfl, (rowsOf_flat C n cells hl).symm, he, by omega, by omega, by omega, by omega, hup, fun i hi => (hlt i hi).2, fun r hmem => ?_, ?_, fun ha => ?_⟩
    · obtain ⟨i, hi, rfl⟩ := List.getElem_of_mem hmem
      have hi2 : i < n := by rwa [rowsOf_length] at hi
      rw [List.all_eq_true] at h9
      have := rowB_iff.1 (h9 i (by rw [List.mem_range]; omega))
      rw [Int.toNat_natCast] at this
      have e2 := rowAt_flat he (i := i) hi
      rw [rowsOf_flat C n cells hl] at e2
      rw [e2] at this
      unfold rowOf at this
      rwa [List.getD_eq_getElem?_getD, List.getElem?_eq_getElem hi] at this
    · rw [rowsOf_length]
      unfold hasR at hn
      cases all
      · simp only [Bool.false_eq_true, if_false, ofN_length] at hn ⊢; omega
      · simp only [if_true] at hn ⊢; omega
    · simp only at ha
      subst ha
      have : (ofN l).length = 0 := by simpa using h5
      rw [ofN_length] at this
      exact List.eq_nil_of_length_eq_zero this
  · rintro ⟨⟨h1, h2, h3, h4⟩, R, C, l, rs, h⟩
    obtain ⟨e1, e2, e3, e4, he, r1, r40, c1, c40, hup, hlt, hok, hlen, hno⟩ := h
    simp only at e1 e2 e3 e4 hlen hno
    subst e1; subst e2; subst e3; subst e4
    have hn : hasR ⟨R, C, all, ofN l, rs.flatten, row, col, modes, title⟩ = (rs.length : Int) := by
      unfold hasR
      cases all
      · simp only [Bool.false_eq_true, if_false, ofN_length] at hlen ⊢; omega
      · simp only [if_true] at hlen ⊢; omega
    have hlR : l.length ≤ R := by
      have := up_length (lo := 0) hup (fun i hi => ⟨Nat.zero_le _, hlt i hi⟩); omega
    refine ⟨⟨rng_yes.2 (by omega), rng_yes.2 (by omega)⟩, h1, h2, h3, h4, ?_, ?_, ?_, (rise_iff R _ 0).2 ⟨l, rfl, hup, fun i hi => ⟨Nat.zero_le _, hlt i hi⟩⟩, ?_⟩
    · cases all
      · rfl
      · rw [hno rfl]; rfl
    · rw [hn]; apply decide_eq_true
      cases all
      · simp only [Bool.false_eq_true, if_false] at hlen; omega
      · simp only [if_true] at hlen; omega
    · rw [hn, even_length he, Int.natCast_mul]; exact decide_eq_true rfl
    · rw [hn, Int.toNat_natCast, Int.toNat_natCast, List.all_eq_true]
      intro i hi
      rw [List.mem_range] at hi
      refine rowB_iff.2 ?_
      rw [rowAt_flat he hi]
      exact hok _ (rowOf_mem hi)
theorem PtR.placed {p : Pt} {R C : Nat} {l : List Nat} {rs : List (List Cl)} (h : PtR p R C l rs) : places p = l := by
  unfold places; rw [h.at_, ofN_back]
theorem PtR.has {p : Pt} {R C : Nat} {l : List Nat} {rs : List (List Cl)} (h : PtR p R C l rs) : (hasR p).toNat = rs.length := by
  unfold hasR
  have := h.len
  split at this
  · rename_i e; rw [if_pos e, h.rows]; omega
  · rename_i e; rw [if_neg e, h.at_, ofN_length]; omega
theorem PtR.parted {p : Pt} {R C : Nat} {l : List Nat} {rs : List (List Cl)} (h : PtR p R C l rs) : rowsP p = rs := by
  unfold rowsP; rw [h.has, h.cols, h.cells, Int.toNat_natCast, rowsOf_back h.even]
def headV (v : Vw) : Bool := rng v.row 0 (v.g.rows - 1) && (rng v.col 0 (v.g.cols - 1) && (rng v.modes 0 1023 && titleB v.title))
theorem gridB_iff {G : Gr} : gridB G = true ↔ GridOk G := by
  unfold gridB; exact @decide_eq_true_iff _ (Classical.propDecidable _)
theorem viewB_iff (v : Vw) : viewB v = true ↔ headV v = true ∧ ∃ (R C : Nat) (rs : List (List Cl)), v.g = ⟨(R : Int), (C : Int), rs.flatten⟩ ∧ Rws R C rs := by
  unfold viewB headV
  rw [Bool.and_eq_true, gridB_iff, GridOk.iff_rows]
  constructor
  · rintro ⟨⟨R, C, rs, e, h⟩, h2⟩; exact ⟨h2, R, C, rs, e, h⟩
  · rintro ⟨h2, R, C, rs, e, h⟩; exact ⟨⟨R, C, rs, e, h⟩, h2⟩
theorem rowsV_of {R C : Nat} {rs : List (List Cl)} (h : Rws R C rs) : rowsV ⟨(R : Int), (C : Int), rs.flatten⟩ = rs := by
  unfold rowsV
  simp only [Int.toNat_natCast]
  rw [← h.len, rowsOf_back h.even]
theorem diff_up (a b : List (List Cl)) : (diff a b).Pairwise (· < ·) := List.Pairwise.filter _ List.pairwise_lt_range
theorem joined_up (R : Nat) (l m : List Nat) : (joined R l m).Pairwise (· < ·) := List.Pairwise.filter _ List.pairwise_lt_range
theorem whole_ok {v : Vw} (hv : viewB v = true) : patchB (whole v) = true := by
  obtain ⟨hh, R, C, rs, e, h⟩ := (viewB_iff v).1 hv
  refine (patchB_iff _).2 ⟨hh, R, C, [], rs, ?_⟩
  refine ⟨by show v.g.rows = _; rw [e], by show v.g.cols = _; rw [e], rfl, by show v.g.cells = _; rw [e], h.even, h.r1, h.r40, h.c1, h.c40, List.Pairwise.nil, fun i hi => (by cases hi), fun r hr => ?_, h.len, fun _ => rfl⟩
  obtain ⟨i, hi, rfl⟩ := List.getElem_of_mem hr
  have := h.ok i (by rw [← h.len]; exact hi)
  unfold rowOf at this
  rwa [List.getD_eq_getElem?_getD, List.getElem?_eq_getElem hi] at this
theorem between_rows {a b : Vw} {R C : Nat} {rs ss : List (List Cl)} (ea : a.g = ⟨(R : Int), (C : Int), rs.flatten⟩) (eb : b.g = ⟨(R : Int), (C : Int), ss.flatten⟩) (hr : Rws R C rs) (hs : Rws R C ss) :
    between a b = ⟨R, C, false, ofN (diff rs ss), ((diff rs ss).map (rowOf ss)).flatten, b.row, b.col, b.modes, b.title⟩ := by
  unfold between
  have hs1 : sameB a b = true := by unfold sameB; rw [ea, eb]; simp
  rw [if_pos hs1, ea, eb, rowsV_of hr, rowsV_of hs]
theorem diff_even {C : Nat} {rs ss : List (List Cl)} (h : Even C ss) : Even C ((diff rs ss).map (rowOf ss)) := by
  intro r hr
  obtain ⟨i, hi, rfl⟩ := List.mem_map.1 hr
  exact h _ (rowOf_mem ((diff_mem rs ss i).1 hi).1)
theorem between_ptr {a b : Vw} {R C : Nat} {rs ss : List (List Cl)} (ea : a.g = ⟨(R : Int), (C : Int), rs.flatten⟩) (eb : b.g = ⟨(R : Int), (C : Int), ss.flatten⟩) (hr : Rws R C rs) (hs : Rws R C ss) :
    PtR (between a b) R C (diff rs ss) ((diff rs ss).map (rowOf ss)) := by
  rw [between_rows ea eb hr hs]
  refine ⟨rfl, rfl, rfl, rfl, diff_even hs.even, hs.r1, hs.r40, hs.c1, hs.c40, diff_up _ _, fun i hi => by rw [← hs.len]; exact ((diff_mem rs ss i).1 hi).1, fun r hm => ?_, by simp, fun h => by cases h⟩
  obtain ⟨i, hi, rfl⟩ := List.mem_map.1 hm
  exact hs.ok i (by rw [← hs.len]; exact ((diff_mem rs ss i).1 hi).1)
theorem same_rows {a b : Vw} {R C R' C' : Nat} {rs ss : List (List Cl)} (ea : a.g = ⟨(R : Int), (C : Int), rs.flatten⟩) (eb : b.g = ⟨(R' : Int), (C' : Int), ss.flatten⟩) : sameB a b = true ↔ R = R' ∧ C = C' := by
  unfold sameB; rw [ea, eb]; simp; omega
theorem between_ok {a b : Vw} (ha : viewB a = true) (hb : viewB b = true) : patchB (between a b) = true := by
  obtain ⟨_, R, C, rs, ea, hr⟩ := (viewB_iff a).1 ha
  obtain ⟨hh, R', C', ss, eb, hs⟩ := (viewB_iff b).1 hb
  cases q : sameB a b
  · have : between a b = whole b := by unfold between; rw [q]; rfl
    rw [this]; exact whole_ok hb
  · obtain ⟨rfl, rfl⟩ := (same_rows ea eb).1 q
    refine (patchB_iff _).2 ⟨?_, R, C, _, _, between_ptr ea eb hr hs⟩
    rw [between_rows ea eb hr hs]
    unfold headV at hh
    rw [eb] at hh
    exact hh
theorem between_fits (a b : Vw) : fitsB a (between a b) = true := by
  unfold fitsB between
  cases q : sameB a b
  · simp [whole]
  · unfold sameB at q; simpa using q
theorem apply_between {a b : Vw} (ha : viewB a = true) (hb : viewB b = true) : apply a (between a b) = b := by
  obtain ⟨_, R, C, rs, ea, hr⟩ := (viewB_iff a).1 ha
  obtain ⟨hh, R', C', ss, eb, hs⟩ := (viewB_iff b).1 hb
  cases q : sameB a b
  · have : between a b = whole b := by unfold between; rw [q]; rfl
    rw [this]
    unfold apply whole
    rfl
  · obtain ⟨rfl, rfl⟩ := (same_rows ea eb).1 q
    have hp := between_ptr ea eb hr hs
    unfold apply
    rw [hp.placed, hp.parted, between_rows ea eb hr hs, ea, rowsV_of hr]
    simp only [Bool.false_eq_true, if_false]
    rw [put_diff (by rw [hr.len, hs.len]), ← eb]
theorem nodup_of_up {l : List Nat} (h : l.Pairwise (· < ·)) : l.Nodup := h.imp fun h => by omega
theorem PtR.inLen {p : Pt} {R C : Nat} {l : List Nat} {rs : List (List Cl)} (h : PtR p R C l rs) (ha : p.all = false) : rs.length = l.length := by
  have := h.len; rw [ha] at this; exact this
theorem PtR.rowsIn {p : Pt} {R C : Nat} {l : List Nat} {rs : List (List Cl)} (h : PtR p R C l rs) (ha : p.all = false) : l.map (rowIn p) = rs := by
  have hl := h.inLen ha
  apply List.ext_getElem (by rw [List.length_map, hl])
  intro i h1 h2
  rw [List.getElem_map]
  have h3 : i < l.length := by rwa [List.length_map] at h1
  have e : rowIn p (l[i]'h3) = rowOf rs i := by
    unfold rowIn
    rw [h.placed, h.parted, (nodup_of_up h.up).idxOf_getElem i h3]
  rw [e]
  unfold rowOf
  rw [List.getD_eq_getElem?_getD, List.getElem?_eq_getElem h2]; rfl
theorem PtR.rowIn_mem {p : Pt} {R C : Nat} {l : List Nat} {rs : List (List Cl)} (h : PtR p R C l rs) (ha : p.all = false) {i : Nat} (hi : i ∈ l) : rowIn p i ∈ rs := by
  unfold rowIn
  rw [h.placed, h.parted]
  exact rowOf_mem (by rw [h.inLen ha]; exact List.idxOf_lt_length_iff.2 hi)
theorem compose_mixed {p q : Pt} {R C : Nat} {l m : List Nat} {rs ss : List (List Cl)} (hp : PtR p R C l rs) (hq : PtR q R C m ss) (ap : p.all = false) (aq : q.all = false) :
    compose p q = ⟨R, C, false, ofN (joined R l m), ((joined R l m).map (mixed p q)).flatten, q.row, q.col, q.modes, q.title⟩ := by
  unfold compose
  rw [ap, aq]
  simp only [Bool.false_eq_true, if_false]
  rw [hp.placed, hq.placed, hq.rows, hq.cols, Int.toNat_natCast]
theorem compose_over {p q : Pt} {R C : Nat} {l m : List Nat} {rs ss : List (List Cl)} (hp : PtR p R C l rs) (hq : PtR q R C m ss) (ap : p.all = true) (aq : q.all = false) :
    compose p q = ⟨R, C, true, [], (putR rs m ss).flatten, q.row, q.col, q.modes, q.title⟩ := by
  unfold compose
  rw [ap, aq]
  simp only [Bool.false_eq_true, if_false, if_true]
  rw [hq.placed, hp.parted, hq.parted, hq.rows, hq.cols]
theorem mixed_mem {p q : Pt} {R C : Nat} {l m : List Nat} {rs ss : List (List Cl)} (hp : PtR p R C l rs) (hq : PtR q R C m ss) (ap : p.all = false) (aq : q.all = false) {i : Nat} (hi : i ∈ joined R l m) : mixed p q i ∈ rs ∨ mixed p q i ∈ ss := by
  have hj := ((joined_mem R l m i).1 hi).2
  unfold mixed
  rw [hq.placed]
  by_cases e : i ∈ m
  · rw [if_pos e]; exact .inr (hq.rowIn_mem aq e)
  · rw [if_neg e]
    rcases hj with h | h
    · exact .inl (hp.rowIn_mem ap h)
    · exact absurd h e
theorem putR_mem : ∀ {l : List Nat} {xs rs : List (List Cl)} {r : List Cl}, r ∈ putR rs l xs → r ∈ rs ∨ r ∈ xs
  | [], xs, rs, r, h => .inl (by simpa [putR] using h)
  | _ :: _, [], rs, r, h => .inl (by simpa [putR] using h)
  | i :: l, x :: xs, rs, r, h => by
    unfold putR at h
    rcases putR_mem h with h | h
    · rcases List.mem_or_eq_of_mem_set h with h | h
      · exact .inl h
      · exact .inr (by rw [h]; exact List.mem_cons_self ..)
    · exact .inr (List.mem_cons_of_mem _ h)
theorem even_mem {C : Nat} {rs : List (List Cl)} (h : ∀ r ∈ rs, r.length = C) : Even C rs := h
theorem compose_ptr {p q : Pt} {R C : Nat} {l m : List Nat} {rs ss : List (List Cl)} (hp : PtR p R C l rs) (hq : PtR q R C m ss) : ∃ k ts, PtR (compose p q) R C k ts := by
  cases aq : q.all with
  | true =>
    have : compose p q = q := by unfold compose; rw [aq]; rfl
    rw [this]; exact ⟨m, ss, hq⟩
  | false =>
    cases ap : p.all with
    | true =>
      rw [compose_over hp hq ap aq]
      have hlen := hp.len
      rw [ap] at hlen
      refine ⟨[], putR rs m ss, rfl, rfl, rfl, rfl, fun r hr => ?_, hp.r1, hp.r40, hp.c1, hp.c40, List.Pairwise.nil, fun i hi => (by cases hi), fun r hr => ?_, ?_, fun _ => rfl⟩
      · rcases putR_mem hr with h | h
        · exact hp.even r h
        · exact hq.even r h
      · rcases putR_mem hr with h | h
        · exact hp.ok r h
        · exact hq.ok r h
      · show (putR rs m ss).length = R
        rw [putR_length]; exact hlen
    | false =>
      rw [compose_mixed hp hq ap aq]
      refine ⟨joined R l m, (joined R l m).map (mixed p q), rfl, rfl, rfl, rfl, fun r hr => ?_, hp.r1, hp.r40, hp.c1, hp.c40, joined_up R l m, fun i hi => ((joined_mem R l m i).1 hi).1, fun r hr => ?_, by simp, fun h => (by cases h)⟩
      · obtain ⟨i, hi, rfl⟩ := List.mem_map.1 hr
        rcases mixed_mem hp hq ap aq hi with h | h
        · exact hp.even _ h
        · exact hq.even _ h
      · obtain ⟨i, hi, rfl⟩ := List.mem_map.1 hr
        rcases mixed_mem hp hq ap aq hi with h | h
        · exact hp.ok _ h
        · exact hq.ok _ h
theorem compose_head {p q : Pt} (h : headB q = true) : headB (compose p q) = true := by
  unfold compose
  split
  · exact h
  · split
    · exact h
    · exact h
theorem goes_rows {p q : Pt} {R C R' C' : Nat} {l m : List Nat} {rs ss : List (List Cl)} (hp : PtR p R C l rs) (hq : PtR q R' C' m ss) (hg : goesB p q = true) (aq : q.all = false) : R = R' ∧ C = C' := by
  unfold goesB at hg
  rw [aq, hp.rows, hp.cols, hq.rows, hq.cols] at hg
  simp at hg; omega
theorem compose_ok {p q : Pt} (hp : patchB p = true) (hq : patchB q = true) (hg : goesB p q = true) : patchB (compose p q) = true := by
  obtain ⟨_, R, C, l, rs, hp⟩ := (patchB_iff p).1 hp
  obtain ⟨hh, R', C', m, ss, hq'⟩ := (patchB_iff q).1 hq
  cases aq : q.all with
  | true =>
    have : compose p q = q := by unfold compose; rw [aq]; rfl
    rw [this]; exact hq
  | false =>
    obtain ⟨rfl, rfl⟩ := goes_rows hp hq' hg aq
    obtain ⟨k, ts, h⟩ := compose_ptr hp hq'
    exact (patchB_iff _).2 ⟨compose_head hh, _, _, k, ts, h⟩
theorem apply_compose {v : Vw} {p q : Pt} (hv : viewB v = true) (hp : patchB p = true) (hq : patchB q = true) (hf : fitsB v p = true) (hg : goesB p q = true) :
    apply v (compose p q) = apply (apply v p) q := by
  obtain ⟨_, R, C, l, rs, hp⟩ := (patchB_iff p).1 hp
  obtain ⟨hh, R', C', m, ss, hq'⟩ := (patchB_iff q).1 hq
  obtain ⟨_, R0, C0, vs, ev, hvr⟩ := (viewB_iff v).1 hv
  cases aq : q.all with
  | true =>
    have : compose p q = q := by unfold compose; rw [aq]; rfl
    rw [this]
    unfold apply
    rw [aq]; rfl
  | false =>
    obtain ⟨rfl, rfl⟩ := goes_rows hp hq' hg aq
    cases ap : p.all with
    | true =>
      rw [compose_over hp hq' ap aq]
      have hlen := hp.len
      rw [ap] at hlen
      have hlen : rs.length = R := hlen
      have e : rowsV ⟨(R : Int), (C : Int), rs.flatten⟩ = rs := by
        unfold rowsV; simp only [Int.toNat_natCast]; rw [← hlen, rowsOf_back hp.even]
      unfold apply
      rw [aq, ap, hq'.placed, hq'.parted, hp.rows, hp.cols, hp.cells]
      simp only [Bool.false_eq_true, if_false, if_true]
      rw [e]
    | false =>
      have hR : R0 = R ∧ C0 = C := by
        unfold fitsB at hf
        rw [ap, ev, hp.rows, hp.cols] at hf
        simp at hf; omega
      obtain ⟨rfl, rfl⟩ := hR
      have e1 := compose_mixed hp hq' ap aq
      obtain ⟨k, ts, hc⟩ : ∃ k ts, PtR (compose p q) R0 C0 k ts ∧ k = joined R0 l m ∧ ts = (joined R0 l m).map (mixed p q) := by
        rw [e1]
        refine ⟨joined R0 l m, (joined R0 l m).map (mixed p q), ⟨rfl, rfl, rfl, rfl, fun r hr => ?_, hp.r1, hp.r40, hp.c1, hp.c40, joined_up _ l m, fun i hi => ((joined_mem _ l m i).1 hi).1, fun r hr => ?_, by simp, fun h => (by cases h)⟩, rfl, rfl⟩
        · obtain ⟨i, hi, rfl⟩ := List.mem_map.1 hr
          rcases mixed_mem hp hq' ap aq hi with h | h
          · exact hp.even _ h
          · exact hq'.even _ h
        · obtain ⟨i, hi, rfl⟩ := List.mem_map.1 hr
          rcases mixed_mem hp hq' ap aq hi with h | h
          · exact hp.ok _ h
          · exact hq'.ok _ h
      obtain ⟨hc, rfl, rfl⟩ := hc
      have e2 : (compose p q).all = false := by rw [e1]
      have h1 : apply v (compose p q) = ⟨⟨R0, C0, (putR vs (joined R0 l m) ((joined R0 l m).map (mixed p q))).flatten⟩, q.row, q.col, q.modes, q.title⟩ := by
        unfold apply
        rw [e2, hc.placed, hc.parted, ev, rowsV_of hvr, e1]
        rfl
      have h2 : apply v p = ⟨⟨R0, C0, (putR vs l rs).flatten⟩, p.row, p.col, p.modes, p.title⟩ := by
        unfold apply
        rw [ap, hp.placed, hp.parted, ev, rowsV_of hvr]
        rfl
      have he : Even C0 (putR vs l rs) := fun r hr => by
        rcases putR_mem hr with h | h
        · exact hvr.even r h
        · exact hp.even r h
      have e3 : rowsV ⟨(R0 : Int), (C0 : Int), (putR vs l rs).flatten⟩ = putR vs l rs := by
        unfold rowsV
        simp only [Int.toNat_natCast]
        have : (putR vs l rs).length = R0 := by rw [putR_length, hvr.len]
        have h4 := rowsOf_back he
        rw [this] at h4; exact h4
      rw [h1, h2]
      unfold apply
      rw [aq, hq'.placed, hq'.parted]
      simp only [Bool.false_eq_true, if_false]
      rw [e3]
      have h5 := put_joined (rowIn p) (rowIn q) (rs := vs) (l := l) (m := m) (fun i hi => by rw [hvr.len]; exact hp.lt i hi) (fun i hi => by rw [hvr.len]; exact hq'.lt i hi)
      rw [hvr.len, hp.rowsIn ap, hq'.rowsIn aq] at h5
      have h6 : (joined R0 l m).map (mixed p q) = (joined R0 l m).map fun i => if i ∈ m then rowIn q i else rowIn p i := by
        apply List.map_congr_left
        intro i _
        unfold mixed
        rw [hq'.placed]
      rw [h6, h5]
theorem apply_ok {v : Vw} {p : Pt} (hv : viewB v = true) (hp : patchB p = true) (hf : fitsB v p = true) : viewB (apply v p) = true := by
  obtain ⟨hh, R, C, l, rs, hp⟩ := (patchB_iff p).1 hp
  obtain ⟨_, R0, C0, vs, ev, hvr⟩ := (viewB_iff v).1 hv
  unfold headB at hh
  rw [hp.rows, hp.cols] at hh
  have rows : ∀ xs : List (List Cl), xs.length = R → Even C xs → (∀ r ∈ xs, RowOk r) → Rws R C xs := fun xs h1 h2 h3 =>
    ⟨hp.r1, hp.r40, hp.c1, hp.c40, h1, h2, fun i hi => h3 _ (rowOf_mem (by rw [h1]; exact hi))⟩
  cases ap : p.all with
  | true =>
    have hlen := hp.len
    rw [ap] at hlen
    have hlen : rs.length = R := hlen
    refine (viewB_iff _).2 ⟨?_, R, C, rs, ?_, rows rs hlen hp.even hp.ok⟩
    · unfold headV apply; rw [ap]; simp only [if_true]; rw [hp.rows, hp.cols]; exact hh
    · unfold apply; rw [ap]; simp only [if_true]; rw [hp.rows, hp.cols, hp.cells]
  | false =>
    have hR : R0 = R ∧ C0 = C := by
      unfold fitsB at hf
      rw [ap, ev, hp.rows, hp.cols] at hf
      simp at hf; omega
    obtain ⟨rfl, rfl⟩ := hR
    refine (viewB_iff _).2 ⟨?_, R0, C0, putR vs l rs, ?_, rows _ (by rw [putR_length, hvr.len]) (fun r hr => ?_) fun r hr => ?_⟩
    · unfold headV apply; rw [ap]; simp only [Bool.false_eq_true, if_false]; rw [ev]; exact hh
    · unfold apply; rw [ap, hp.placed, hp.parted]; simp only [Bool.false_eq_true, if_false]; rw [ev, rowsV_of hvr]
    · rcases putR_mem hr with h | h
      · exact hvr.even r h
      · exact hp.even r h
    · rcases putR_mem hr with h | h
      · obtain ⟨i, hi, rfl⟩ := List.getElem_of_mem h
        have := hvr.ok i (by rw [← hvr.len]; exact hi)
        unfold rowOf at this
        rwa [List.getD_eq_getElem?_getD, List.getElem?_eq_getElem hi] at this
      · exact hp.ok r h
end Pat
end
section
open Go.RowKit
theorem Src.form {w : World} {x : Value} {m : Nat} {news : List Value} (h : Src w x m news) : ∃ A c, x = .slice A m c ∧ ∀ k, k < m → ∃ ad, A = some ad ∧ w.cell? (ad.add k) = news[k]? := by
  rcases h with ⟨hl, ⟨rfl, h0⟩ | ⟨ad, c, rfl, hc⟩⟩
  · subst h0
    exact ⟨none, 0, rfl, fun k hk => absurd hk (by omega)⟩
  · refine ⟨some ad, c, rfl, fun k hk => ⟨ad, rfl, ?_⟩⟩
    have : news[k]? = some (news[k]'(by omega)) := List.getElem?_eq_getElem (by omega)
    rw [this]; exact hc k _ this
theorem Src.len {w : World} {x : Value} {m : Nat} {news : List Value} (h : Src w x m news) : news.length = m := h.1
theorem ints_get {l : List Int} {k : Nat} (h : k < l.length) : (ints l)[k]? = some (.int .i64 (l.getD k 0)) := by
  unfold ints; simp [h]
theorem eq_of_getD : ∀ {a b : List Int}, a.length = b.length → (∀ k, k < a.length → a.getD k 0 = b.getD k 0) → a = b
  | [], [], _, _ => rfl
  | x :: a, y :: b, hl, h => by
    have h0 : x = y := by simpa using h 0 (by simp)
    have : a = b := eq_of_getD (by simpa using hl) fun k hk => by simpa using h (k + 1) (by simpa using hk)
    rw [h0, this]
def Alike (a b : List Int) (k : Nat) : Prop := ∀ j, j < k → a.getD j 0 = b.getD j 0
theorem Alike.succ {a b : List Int} {k : Nat} (h : Alike a b k) (e : a.getD k 0 = b.getD k 0) : Alike a b (k + 1) := by
  intro j hj
  by_cases hjk : j = k
  · subst hjk; exact e
  · exact h j (by omega)
theorem drewN_drewN (w : World) (a b : Nat) : (w.drewN a).drewN b = w.drewN (a + b) := World.drewN_drewN w a b
theorem wp_append_ints_if {w : World} {ops : Array Oper} {rest : List Oper} {o : Oper} {a : Act} {Q : Exit → Act → World → Prop} {s x : Operand} (hgd : Region.wanted o (yielded ops a.tmps) = true)
    (ho : o.op = .call { callee := .builtin .append, args := #[s, x], argTypes := #[33, 33] }) (base : Nat) (v : Value) (n : Nat) (xs : List Int) (hs : a.eval s = v) (hown : w.ownsRow base 3 1 v n (ints xs))
    (y : Value) (m : Nat) (news : List Int) (hy : a.eval x = y) (hx : Src w y m (ints news)) (hb : n + m ≤ 1000000000) (hbase : base ≤ w.heap.size)
    (h : ∀ v' w', w'.ownsRow base 3 1 v' (n + m) (ints (xs ++ news)) → w.grownBy w' v.ownBlock → (v'.ownBlock = v.ownBlock ∨ v'.ownBlock = some w.heap.size) → wpList Tryd.prog ops Q rest (a.put o.dst v') w') :
    wpList Tryd.prog ops Q (o :: rest) a w := by
  obtain ⟨i, hi, hz, h1, h8⟩ := Tryd.int_row
  refine wpList_step fun K hK => ?_
  rw [if_pos hgd]
  obtain ⟨v', w', hr, h2, h3, h4⟩ := run_append_src (P := Tryd.prog) w base 33 o.type 3 i _ 8 Tryd.underlying33 hi hz h1 h8 rfl v n (ints xs) hown y m (ints news) hx (ints_cells _) (by simp only [maxLen]; omega) (by omega) hbase
  unfold Oper.wp execOp
  simp only [ho, resolve, invoke, builtin, Sem.run_bind, Sem.run_pure, Result.andThen_ok, List.map_toArray, List.map_cons, List.map_nil, hs, hy, hr]
  exact hK _ _ (h v' w' (by rw [ints_append]; exact h2) h3 h4)
theorem own_drewN {w : World} {B e n : Nat} {v : Value} {xs : List Value} (h : w.ownsRow B e 1 v n xs) (q : Nat) : (w.drewN q).ownsRow B e 1 v n xs := h
theorem Src.drewN {w : World} {x : Value} {m : Nat} {news : List Value} (h : Src w x m news) (q : Nat) : Src (w.drewN q) x m news := h
theorem add_block (ad : Addr) (k : Nat) : (ad.add k).block = ad.block := by unfold Addr.add; split <;> rfl
theorem cell_kept {w w' : World} {p : Addr} {u : Value} (hb : Below w.heap.size w w') (h : w.cell? p = some u) : w'.cell? p = some u := by
  rw [hb.cell (World.block_lt_of_cell? w p h)]; exact h
theorem Src.kept {w w' : World} {x : Value} {m : Nat} {news : List Value} (h : Src w x m news) (hb : Below w.heap.size w w') : Src w' x m news := by
  refine ⟨h.1, ?_⟩
  rcases h.2 with h0 | ⟨ad, c, rfl, hc⟩
  · exact .inl h0
  · exact .inr ⟨ad, c, rfl, fun j u hu => cell_kept hb (hc j u hu)⟩
theorem take_succ_getD {l : List Int} {k : Nat} (h : k < l.length) : l.take (k + 1) = l.take k ++ [l.getD k 0] := by
  rw [List.take_succ_eq_append_getElem h]; simp [h]
theorem Src.made (w : World) (xs : List Value) (e : TypeId) (n c : Nat) (h : xs.length = n) : Src (w.alloc (.cells xs.toArray e)) (.slice (some ⟨w.heap.size, 0, none⟩) n c) n xs :=
  ⟨h, .inr ⟨_, _, rfl, fun j u hu => by
    have hb : (w.alloc (.cells xs.toArray e)).heap[w.heap.size]? = some (.cells xs.toArray e) := by
      show (w.heap.push _)[w.heap.size]? = _
      simp
    have ha : (⟨w.heap.size, 0, none⟩ : Addr).add j = ⟨w.heap.size, j, none⟩ := by
      unfold Addr.add
      by_cases h0 : j = 0
      · subst h0; rfl
      · simp [h0]
    rw [ha]
    simp only [World.cell?, hb]
    simpa using hu⟩⟩
theorem Src.made_at (w : World) (b : Nat) (xs : List Value) (cs : Array Value) (e : TypeId) (n c : Nat) (hb : b = w.heap.size) (hc : xs.toArray = cs) (h : xs.length = n) : Src (w.alloc (.cells cs e)) (.slice (some ⟨b, 0, none⟩) n c) n xs := by
  subst hb; subst hc; exact Src.made w xs e n c h
end
section
open Go.RowKit
def At (w : World) (a : Addr) (cs : List Value) : Prop := ∀ j u, cs[j]? = some u → w.cell? (a.add j) = some u
theorem At.kept {w w' : World} {a : Addr} {cs : List Value} (h : At w a cs) (hb : Below w.heap.size w w') : At w' a cs := fun j u hu => cell_kept hb (h j u hu)
theorem At.head {w : World} {a : Addr} {u : Value} {cs : List Value} (h : At w a (u :: cs)) : w.cell? a = some u := by
  have := h 0 u rfl
  simpa [Addr.add] using this
theorem At.next {w : World} {a : Addr} {cs : List Value} (h : At w a cs) (j : Nat) {u : Value} (hu : cs[j + 1]? = some u) : w.cell? { block := a.block, off := a.off + (j + 1) } = some u := by
  have := h (j + 1) u hu
  simpa [Addr.add] using this
def Recs (w : World) (x : Value) (C n : Nat) (rs : List (List Value)) : Prop :=
  rs.length = n ∧ (∀ r ∈ rs, r.length = C) ∧ ((x = .slice none 0 0 ∧ n = 0) ∨ ∃ ad c, x = .slice (some ad) n c ∧ ∀ i r, rs[i]? = some r → At w (ad.add (i * C)) r)
theorem Recs.kept {w w' : World} {x : Value} {C n : Nat} {rs : List (List Value)} (h : Recs w x C n rs) (hb : Below w.heap.size w w') : Recs w' x C n rs := by
  refine ⟨h.1, h.2.1, ?_⟩
  rcases h.2.2 with h0 | ⟨ad, c, e, hc⟩
  · exact .inl h0
  · exact .inr ⟨ad, c, e, fun i r hr => (hc i r hr).kept hb⟩
theorem Recs.drewN {w : World} {x : Value} {C n : Nat} {rs : List (List Value)} (h : Recs w x C n rs) (q : Nat) : Recs (w.drewN q) x C n rs := h
theorem Recs.form {w : World} {x : Value} {C n : Nat} {rs : List (List Value)} (h : Recs w x C n rs) : ∃ A c, x = .slice A n c ∧ ∀ k, k < n → ∃ ad, A = some ad ∧ At w (ad.add (k * C)) (rs.getD k []) := by
  rcases h.2.2 with ⟨rfl, h0⟩ | ⟨ad, c, rfl, hc⟩
  · subst h0
    exact ⟨none, 0, rfl, fun k hk => absurd hk (by omega)⟩
  · refine ⟨some ad, c, rfl, fun k hk => ⟨ad, rfl, ?_⟩⟩
    have hk' : k < rs.length := by rw [h.1]; exact hk
    exact hc k _ (by simp [List.getD, hk'])
theorem flatten_get {C : Nat} : ∀ (rs : List (List Value)) (_ : ∀ r ∈ rs, r.length = C) (i : Nat) (r : List Value) (_ : rs[i]? = some r) (j : Nat) (u : Value) (_ : r[j]? = some u), rs.flatten[i * C + j]? = some u
  | [], _, i, r, hr, _, _, _ => by simp at hr
  | x :: rs, hl, 0, r, hr, j, u, hu => by
    obtain rfl : x = r := by simpa using hr
    have hj : j < x.length := (List.getElem?_eq_some_iff.1 hu).1
    rw [List.flatten_cons, Nat.zero_mul, Nat.zero_add, List.getElem?_append_left hj]; exact hu
  | x :: rs, hl, i + 1, r, hr, j, u, hu => by
    have hx : x.length = C := hl x (by simp)
    rw [List.flatten_cons, List.getElem?_append_right (by rw [hx, Nat.succ_mul]; omega)]
    rw [show (i + 1) * C + j - x.length = i * C + j from by rw [hx, Nat.succ_mul]; omega]
    exact flatten_get rs (fun r h => hl r (by simp [h])) i r (by simpa using hr) j u hu
theorem flatten_len {C : Nat} : ∀ (rs : List (List Value)) (_ : ∀ r ∈ rs, r.length = C), rs.flatten.length = rs.length * C
  | [], _ => by simp
  | x :: rs, hl => by
    rw [List.flatten_cons, List.length_append, flatten_len rs (fun r h => hl r (by simp [h])), hl x (by simp), List.length_cons, Nat.succ_mul]; omega
theorem Recs.own {w : World} {base : Nat} {e : TypeId} {C n : Nat} {v : Value} {rs : List (List Value)} (h : w.ownsRow base e C v n rs.flatten) (hn : rs.length = n) (hl : ∀ r ∈ rs, r.length = C) : Recs w v C n rs := by
  refine ⟨hn, hl, ?_⟩
  rcases h.2 with ⟨rfl, h0⟩ | ⟨g, cap, cur, rfl, _⟩
  · exact .inl ⟨rfl, h0⟩
  · refine .inr ⟨_, _, rfl, fun i r hr j u hu => ?_⟩
    rw [Go.Deep.add_add]
    exact h.cells (g := g) rfl _ _ (flatten_get rs hl i r hr j u hu)
theorem bcell {W w1 : World} (hb : Below W.heap.size W w1) : (∀ b o, b < W.heap.size → w1.cell? ⟨b, o, none⟩ = W.cell? ⟨b, o, none⟩) ∧ (∀ b o, b < W.heap.size → w1.frozen? ⟨b, o, none⟩ = W.frozen? ⟨b, o, none⟩) :=
  ⟨fun b o h => hb.cell (p := ⟨b, o, none⟩) h, fun b o h => hb.frozen (p := ⟨b, o, none⟩) h⟩
theorem own_shape {w : World} {base C : Nat} {e : TypeId} {v : Value} {n : Nat} {xs : List Value} (h : w.ownsRow base e C v n xs) : ∃ A c, v = .slice A n c := by
  rcases h.2 with ⟨rfl, h0⟩ | ⟨g, cap, cur, rfl, _⟩
  · subst h0; exact ⟨none, 0, rfl⟩
  · exact ⟨_, _, rfl⟩
end
end Go.Proofs.YtjcfbeiljdohcaaDoor
