/- Joined texts: GrdLine, GrdLib, GrdRep. -/
import Derived.Test.YtjcfbeiljdohcaaDoorJM13
import Derived.Lib.AppendZerosOnto
import Derived.Deep.RegionLaw
namespace Go.Proofs.YtjcfbeiljdohcaaDoor
set_option maxRecDepth 100000
section
open Go.RowKit
namespace Row
inductive Ln where
  | kept (v : Value) (r : List Cl)
  | empty (a : Look)
instance : Inhabited Ln := ⟨.empty ⟨0, 0, 0⟩⟩
def lv : Ln → Value
  | .kept v _ => .iface 155 v
  | .empty a => .iface 151 (.agg #[.int .i64 a.fg, .int .i64 a.bg, .int .i64 a.flags])
def lvs (l : List Ln) : List Value := l.map lv
theorem lvs_nil : lvs [] = [] := rfl
theorem lvs_append (a b : List Ln) : lvs (a ++ b) = lvs a ++ lvs b := List.map_append
theorem lvs_length (l : List Ln) : (lvs l).length = l.length := List.length_map _
theorem lvs_take (l : List Ln) (k : Nat) : lvs (l.take k) = (lvs l).take k := List.map_take
theorem lvs_drop (l : List Ln) (k : Nat) : lvs (l.drop k) = (lvs l).drop k := List.map_drop
theorem lv_cell (x : Ln) : (lv x).oneCell' = true := by cases x <;> rfl
theorem lvs_cells (l : List Ln) : ∀ u ∈ lvs l, u.oneCell' = true := by
  intro u hu
  obtain ⟨x, _, rfl⟩ := List.mem_map.1 hu
  exact lv_cell x
theorem lvs_get {l : List Ln} {k : Nat} (h : k < l.length) : (lvs l)[k]? = some (lv (l.getD k default)) := by
  unfold lvs; simp [h]
def lrow (c : Nat) : Ln → List Cl
  | .kept _ r => r
  | .empty a => blankRow c a
def LnOk (w : World) (c : Nat) : Ln → Prop
  | .kept v r => Rm w v r ∧ r.length = c
  | .empty a => attrOk a = true
theorem LnOk.kept {w w' : World} {c : Nat} {x : Ln} (h : LnOk w c x) (hb : Below w.heap.size w w') : LnOk w' c x := by
  cases x with
  | kept v r => exact ⟨h.1.kept hb, h.2⟩
  | empty a => exact h
def LnsOk (w : World) (c : Nat) (l : List Ln) : Prop := ∀ x ∈ l, LnOk w c x
theorem LnsOk.kept {w w' : World} {c : Nat} {l : List Ln} (h : LnsOk w c l) (hb : Below w.heap.size w w') : LnsOk w' c l := fun x hx => (h x hx).kept hb
theorem lrow_len {w : World} {c : Nat} {x : Ln} (h : LnOk w c x) : (lrow c x).length = c := by
  cases x with
  | kept v r => exact h.2
  | empty a => exact blankRow_length c a
def Sv (w : World) (x : Value) (l : List Ln) : Prop := Src w x l.length (lvs l) ∧ ∃ A c, x = .slice A l.length c ∧ l.length ≤ c
theorem Sv.kept {w w' : World} {x : Value} {l : List Ln} (h : Sv w x l) (hb : Below w.heap.size w w') : Sv w' x l := ⟨h.1.kept hb, h.2⟩
theorem Sv.room {w : World} {A : Option Addr} {n c : Nat} {l : List Ln} (h : Sv w (.slice A n c) l) : n = l.length ∧ l.length ≤ c := by
  obtain ⟨_, A', c', e, hc⟩ := h
  injection e with e1 e2 e3
  exact ⟨e2, by omega⟩
theorem Sv.get {w : World} {A : Option Addr} {n c : Nat} {l : List Ln} (h : Sv w (.slice A n c) l) {k : Nat} (hk : k < l.length) : ∃ ad, A = some ad ∧ w.cell? (ad.add k) = some (lv (l.getD k default)) := by
  obtain ⟨A', c', e, hf⟩ := h.1.form
  injection e with e1 e2 e3
  subst e1
  obtain ⟨ad, rfl, hc⟩ := hf k hk
  exact ⟨ad, rfl, by rw [hc, lvs_get hk]⟩
theorem line_slice : Tryd.prog.underlying 126 = some (.slice (Tryd.prog.elem 126)) := by kernel_rfl
theorem line_size (w' : World) : (sizeOf (Tryd.prog.elem 126)).run Tryd.prog w' = .ok 1 w' := by kernel_rfl
theorem Sv.mid {w : World} {A : Option Addr} {n c : Nat} {l : List Ln} (h : Sv w (.slice A n c) l) (lo hi : Nat) (h1 : lo ≤ hi) (h2 : hi ≤ l.length) :
    Sv w (.slice (if c = lo then A else A.map (·.add lo)) (hi - lo) (c - lo)) ((l.drop lo).take (hi - lo)) := by
  obtain ⟨en, hc⟩ := h.room
  have hlen : ((l.drop lo).take (hi - lo)).length = hi - lo := by rw [List.length_take, List.length_drop]; omega
  refine ⟨⟨by rw [lvs_length], ?_⟩, _, _, by rw [hlen], by rw [hlen]; omega⟩
  rcases h.1.2 with ⟨e, h0⟩ | ⟨ad, c2, e, hcell⟩
  · injection e with e1 e2 e3
    subst e1; subst e3
    left
    have : lo = 0 := by omega
    subst this
    exact ⟨by rw [if_pos rfl]; congr 1; omega, by rw [hlen]; omega⟩
  · injection e with e1 e2 e3
    subst e1; subst e3
    right
    by_cases hck : c = lo
    · rw [if_pos hck]
      refine ⟨ad, c - lo, by rw [hlen], fun j u hu => ?_⟩
      have hd : (l.drop lo).take (hi - lo) = [] := List.eq_nil_of_length_eq_zero (by rw [hlen]; omega)
      rw [hd] at hu; simp [lvs] at hu
    · rw [if_neg hck]
      refine ⟨ad.add lo, c - lo, by rw [hlen]; rfl, fun j u hu => ?_⟩
      rw [Go.Deep.add_add]
      refine hcell (lo + j) u ?_
      rw [lvs_take, lvs_drop] at hu
      have hj : j < hi - lo := by
        have := (List.getElem?_eq_some_iff.1 hu).1
        rw [List.length_take] at this; omega
      rw [List.getElem?_take_of_lt hj, List.getElem?_drop] at hu
      exact hu
theorem Sv.run_mid {w : World} {A : Option Addr} {n c : Nat} {l : List Ln} (h : Sv w (.slice A n c) l) (lo hi : Nat) (h1 : lo ≤ hi) (h2 : hi ≤ l.length) (w' : World) :
    (Instr.slice 126 (.slice A n c) (some (.int .i64 lo)) (some (.int .i64 hi)) none).run Tryd.prog w' = .ok (.slice (if c = lo then A else A.map (·.add lo)) (hi - lo) (c - lo)) w' := by
  obtain ⟨en, hc⟩ := h.room
  rw [run_slice_lh w' 126 A n c line_slice .i64 .i64 lo hi (by omega) (by omega) (by omega), line_size]
  simp [Result.andThen, sliced]
theorem Sv.from {w : World} {A : Option Addr} {n c : Nat} {l : List Ln} (h : Sv w (.slice A n c) l) (k : Nat) (hk : k ≤ l.length) :
    Sv w (.slice (if c = k then A else A.map (·.add k)) (n - k) (c - k)) (l.drop k) := by
  have := h.mid k l.length hk (Nat.le_refl _)
  rw [h.room.1]
  rwa [List.take_of_length_le (by rw [List.length_drop]; exact Nat.le_refl _)] at this
theorem Sv.run_from {w : World} {A : Option Addr} {n c : Nat} {l : List Ln} (h : Sv w (.slice A n c) l) (k : Nat) (hk : k ≤ l.length) (w' : World) :
    (Instr.slice 126 (.slice A n c) (some (.int .i64 k)) none none).run Tryd.prog w' = .ok (.slice (if c = k then A else A.map (·.add k)) (n - k) (c - k)) w' := by
  obtain ⟨en, hc⟩ := h.room
  rw [run_slice_l w' 126 A n c line_slice .i64 k (by omega) (by omega), line_size]
  simp [Result.andThen, sliced]
theorem Sv.upto {w : World} {A : Option Addr} {n c : Nat} {l : List Ln} (h : Sv w (.slice A n c) l) (k : Nat) (hk : k ≤ l.length) : Sv w (.slice A k c) (l.take k) := by
  obtain ⟨en, hc⟩ := h.room
  have hlen : (l.take k).length = k := by rw [List.length_take]; omega
  refine ⟨⟨by rw [lvs_length], ?_⟩, _, _, by rw [hlen], by rw [hlen]; omega⟩
  rcases h.1.2 with ⟨e, h0⟩ | ⟨ad, c2, e, hcell⟩
  · injection e with e1 e2 e3
    subst e1; subst e3
    left
    exact ⟨by congr 1; omega, by rw [hlen]; omega⟩
  · injection e with e1 e2 e3
    subst e1; subst e3
    right
    refine ⟨ad, c, by rw [hlen], fun j u hu => ?_⟩
    refine hcell j u ?_
    rw [lvs_take] at hu
    have hj : j < k := by
      have := (List.getElem?_eq_some_iff.1 hu).1
      rw [List.length_take] at this; omega
    rwa [List.getElem?_take_of_lt hj] at hu
theorem Sv.run_upto {w : World} {A : Option Addr} {n c : Nat} {l : List Ln} (h : Sv w (.slice A n c) l) (k : Nat) (hk : k ≤ l.length) (w' : World) :
    (Instr.slice 126 (.slice A n c) none (some (.int .i64 k)) none).run Tryd.prog w' = .ok (.slice A k c) w' := by
  obtain ⟨en, hc⟩ := h.room
  rw [run_slice_h w' 126 A n c line_slice .i64 k (by omega) (by omega), line_size]
  simp [Result.andThen, sliced]
  intro _
  cases A <;> simp [Addr.add]
def OwnL (w : World) (base : Nat) (v : Value) (l : List Ln) : Prop := w.ownsRow base 147 1 v l.length (lvs l)
theorem OwnL.sv {w : World} {base : Nat} {v : Value} {l : List Ln} (h : OwnL w base v l) : Sv w v l := by
  refine ⟨Src.own h, ?_⟩
  rcases h.2 with ⟨rfl, h0⟩ | ⟨g, cap, cur, rfl, _, _, hc, _⟩
  · exact ⟨none, 0, by rw [h0], by omega⟩
  · exact ⟨_, _, rfl, hc⟩
theorem OwnL.kept {w w' : World} {base : Nat} {v : Value} {l : List Ln} (h : OwnL w base v l) (hb : Below w.heap.size w w') : OwnL w' base v l := own_kept h hb
theorem OwnL.nil (w : World) (base : Nat) : OwnL w base (.slice none 0 0) [] := World.ownsRow_nil _ _ _ _
theorem OwnL.low {w : World} {base b2 : Nat} {v : Value} {l : List Ln} (h : OwnL w base v l) (hb : b2 ≤ base) : OwnL w b2 v l := Blk.low h hb
theorem OwnL.lt {w : World} {base : Nat} {v : Value} {l : List Ln} (h : OwnL w base v l) (k : Nat) (hk : v.ownBlock = some k) : base ≤ k ∧ k < w.heap.size := World.ownsRow.lt h k hk
theorem line_info : (Tryd.prog.info? 147).map (fun i => (i.zero, i.size, i.bytes)) = some (some .nilIface, 1, 16) := by kernel_rfl
theorem line_row : ∃ i : TypeInfo, Tryd.prog.info? 147 = some i ∧ i.zero = some .nilIface ∧ i.size = 1 ∧ i.bytes = 16 := by
  obtain ⟨i, h, h1, h2, h3⟩ := info_parts line_info
  exact ⟨i, h, h1, h2, h3⟩
theorem below_ln {B : Nat} {a w w' : World} {v : Value} {l : List Ln} (h : Below B a w) (hg : w.grownBy w' v.ownBlock) (hB : B ≤ w.heap.size) (ho : OwnL w B v l) : Below B a w' :=
  h.grown hg hB fun k hk => (ho.lt k hk).1
theorem wp_append_ln {w : World} {ops : Array Oper} {rest : List Oper} {o : Oper} {a : Act} {Q : Exit → Act → World → Prop} {s x : Operand} (hgd : o.guard = none)
    (ho : o.op = .call { callee := .builtin .append, args := #[s, x], argTypes := #[126, 126] }) (base : Nat) (v y : Value) (l r : List Ln) (hs : a.eval s = v) (hown : OwnL w base v l)
    (hy : a.eval x = y) (hx : Sv w y r) (hl : l.length + r.length ≤ 1000000000) (hbase : base ≤ w.heap.size)
    (h : ∀ v' w', OwnL w' base v' (l ++ r) → w.grownBy w' v.ownBlock → (v'.ownBlock = v.ownBlock ∨ v'.ownBlock = some w.heap.size) → wpList Tryd.prog ops Q rest (a.put o.dst v') w') :
    wpList Tryd.prog ops Q (o :: rest) a w := by
  obtain ⟨i, hi, hz, h1, h16⟩ := line_row
  refine wpList_append_src hgd ho base 147 i _ 16 Tryd.underlying126 hi hz h1 h16 rfl v l.length (lvs l) hs hown y r.length (lvs r) hy hx.1 (lvs_cells r) (by simp only [maxLen]; omega) (by omega) hbase fun v' w' h2 h3 h4 => ?_
  exact h v' w' (by unfold OwnL; rw [lvs_append, List.length_append]; exact h2) h3 h4
end Row
end
section
open Go.RowKit
namespace Row
theorem run_growL {w : World} {n : Nat} {ty : TypeId} (h0 : 0 < n) (hn : n ≤ 1000000) :
    ∃ cap w', (Builtin.append_ #[126, 3] ty #[.slice none 0 0, .int .i64 n]).run Tryd.prog w = .ok (.slice (some ⟨w.heap.size, 0, none⟩) n cap) w' ∧ n ≤ cap ∧ OwnL w' w.heap.size (.slice (some ⟨w.heap.size, 0, none⟩) 0 cap) [] ∧ Below w.heap.size w w' := by
  obtain ⟨i, hi, hz, h1, h16⟩ := line_row
  have hr := Lib.run_append_nil_zeros (P := Tryd.prog) w 126 3 ty 147 i _ .i64 .i64 Tryd.underlying126 Tryd.underlying3 hi hz n h0 (by rw [h1]; decide) (by omega) (by rw [h16]; omega)
  refine ⟨_, _, hr, ?_, ?_, ?_⟩
  · have := grownCap_ge w n 0 147; omega
  · have hge := grownCap_ge w n 0 147
    have hle := grownCap_le_maxLen w n 0 147 (by simp only [maxLen]; omega)
    generalize grownCap w n 0 147 = cap at hge hle
    refine ⟨rfl, .inr ⟨w.heap.size, cap, _, rfl, Nat.le_refl _, heap_alloc_new w.drew _, Nat.zero_le _, hle, ?_, rfl⟩⟩
    simp only [Array.size_append, size_zeroCells]
    show n * 1 + (cap - n) * 1 = cap * 1
    omega
  · exact ((Below.refl _ _).drew).alloc (Nat.le_refl _) _
def lensToL (ls : List (List Ln)) (k : Nat) : Nat := (ls.take k).flatten.length
theorem take_succ_lsL {ls : List (List Ln)} {k : Nat} (h : k < ls.length) : (ls.take (k + 1)).flatten = (ls.take k).flatten ++ ls.getD k [] := by
  rw [List.take_succ_eq_append_getElem h, List.flatten_append]; simp [List.getD, h]
theorem lensToL_le (ls : List (List Ln)) (k : Nat) : lensToL ls k ≤ ls.flatten.length := by
  unfold lensToL
  have h : ls.flatten = (ls.take k).flatten ++ (ls.drop k).flatten := by rw [← List.flatten_append, List.take_append_drop]
  rw [h, List.length_append]; omega
theorem run_append_ck {w : World} {base : Nat} {ty : TypeId} {v x : Value} {l r : List Cl} (hown : OwnCs w base v l) (hx : Cs w x r) (hl : l.length + r.length ≤ 1000000000) (hbase : base ≤ w.heap.size) :
    ∃ v' w', (Builtin.append_ #[155, 155] ty #[v, x]).run Tryd.prog w = .ok v' w' ∧ OwnCs w' base v' (l ++ r) ∧ w.grownBy w' v.ownBlock ∧ (v'.ownBlock = v.ownBlock ∨ v'.ownBlock = some w.heap.size) := by
  obtain ⟨i, hi, hz, h6, h56⟩ := cell_row
  rcases hx.2.2 with ⟨rfl, h0⟩ | ⟨ad, c, rfl, _⟩
  · have hr : r = [] := List.eq_nil_of_length_eq_zero h0
    subst hr
    exact ⟨v, w, run_append_owned_none (P := Tryd.prog) (w := w) base _ ty 63 i 6 Tryd.underlying155 hi v l.length _ hown, by rw [List.append_nil]; exact hown, World.grownBy.refl w _, .inl rfl⟩
  · obtain ⟨v', w', hr, h2, h3, _, h5⟩ := run_append_own_at (P := Tryd.prog) w base 155 ty 63 i _ 6 56 Tryd.underlying155 hi hz h6 h56 rfl (by decide) v l.length _ hown ad r.length c (flat r) (flat_length r) hx.flat.2 (flat_cells r) (by simp only [maxLen]; omega) (by omega) hbase
    exact ⟨v', w', hr, by unfold OwnCs; rw [List.length_append, flat_append]; exact h2, h3, h5⟩
theorem wp_append_ck {w : World} {ops : Array Oper} {rest : List Oper} {o : Oper} {a : Act} {Q : Exit → Act → World → Prop} {s x : Operand} (hgd : o.guard = none)
    (ho : o.op = .call { callee := .builtin .append, args := #[s, x], argTypes := #[155, 155] }) (base : Nat) (v y : Value) (l r : List Cl) (hs : a.eval s = v) (hown : OwnCs w base v l)
    (hy : a.eval x = y) (hx : Cs w y r) (hl : l.length + r.length ≤ 1000000000) (hbase : base ≤ w.heap.size)
    (h : ∀ v' w', OwnCs w' base v' (l ++ r) → w.grownBy w' v.ownBlock → (v'.ownBlock = v.ownBlock ∨ v'.ownBlock = some w.heap.size) → wpList Tryd.prog ops Q rest (a.put o.dst v') w') :
    wpList Tryd.prog ops Q (o :: rest) a w := by
  refine wpList_plain hgd fun K hK => ?_
  obtain ⟨v', w', hr, h2, h3, h4⟩ := run_append_ck (ty := o.type) hown hx hl hbase
  unfold Oper.wp execOp
  simp only [ho, resolve, invoke, builtin, Sem.run_bind, Sem.run_pure, Result.andThen_ok, List.map_toArray, List.map_cons, List.map_nil, hs, hy, hr]
  exact hK _ _ (h v' w' h2 h3 h4)
theorem run_growK {w : World} {n : Nat} {ty : TypeId} (h0 : 0 < n) (hn : n ≤ 1000000) :
    ∃ cap w', (Builtin.append_ #[155, 3] ty #[.slice none 0 0, .int .i64 n]).run Tryd.prog w = .ok (.slice (some ⟨w.heap.size, 0, none⟩) n cap) w' ∧ n ≤ cap ∧ OwnCs w' w.heap.size (.slice (some ⟨w.heap.size, 0, none⟩) 0 cap) [] ∧ Below w.heap.size w w' := by
  obtain ⟨i, hi, hz, h6, h56⟩ := cell_row
  have hr := Lib.run_append_nil_zeros (P := Tryd.prog) w 155 3 ty 63 i _ .i64 .i64 Tryd.underlying155 Tryd.underlying3 hi hz n h0 (by rw [h6]; decide) (by omega) (by rw [h56]; omega)
  refine ⟨_, _, hr, ?_, ?_, ?_⟩
  · have := grownCap_ge w n 0 63; omega
  · have hge := grownCap_ge w n 0 63
    have hle := grownCap_le_maxLen w n 0 63 (by simp only [maxLen]; omega)
    generalize grownCap w n 0 63 = cap at hge hle
    refine ⟨rfl, .inr ⟨w.heap.size, cap, _, rfl, Nat.le_refl _, heap_alloc_new w.drew _, Nat.zero_le _, hle, ?_, rfl⟩⟩
    simp only [Array.size_append, size_zeroCells]
    show n * 6 + (cap - n) * 6 = cap * 6
    omega
  · exact ((Below.refl _ _).drew).alloc (Nat.le_refl _) _
end Row
end
section
open Go.RowKit
namespace Row
def WholeL (w : World) (b : Nat) (vs : List Value) : Prop := w.heap[b]? = some (.cells vs.toArray 147 (0, 0))
theorem WholeL.own {w : World} {b : Nat} {l : List Ln} (h : WholeL w b (lvs l)) {base : Nat} (hb : base ≤ b) (hl : l.length ≤ 1000000) : OwnL w base (.slice (some ⟨b, 0, none⟩) l.length l.length) l := by
  refine ⟨by rw [lvs_length, Nat.mul_one], .inr ⟨b, l.length, _, rfl, hb, h, Nat.le_refl _, by simp only [maxLen]; omega, ?_, ?_⟩⟩
  · simp [lvs_length]
  · rw [Nat.mul_one, ← lvs_length]; simp
theorem WholeL.of {w : World} {base b n : Nat} {vs : List Value} (h : w.ownsRow base 147 1 (.slice (some ⟨b, 0, none⟩) n n) n vs) : WholeL w b vs := by
  rcases h.2 with ⟨e, _⟩ | ⟨b', cap, cur, e, _, hg, _, _, hs, ht⟩
  · injection e with e; cases e
  · injection e with e1 e2 e3
    injection e1 with e1
    injection e1 with e1
    subst e1
    subst e3
    unfold WholeL
    rw [hg]
    have : cur.toList = vs := by
      rw [← ht, List.take_of_length_le (by rw [Array.length_toList, hs]; exact Nat.le_refl _)]
    rw [← this]
theorem run_copy_ln {w : World} {ty : TypeId} {b k dLen dCap sLen sCap m : Nat} {a : Addr} {l r : List Value} (h : WholeL w b l) (hm : m = Nat.min sLen dLen) (hr : r.length = m) (hk : k + m ≤ l.length)
    (hsrc : ∀ j u, r[j]? = some u → w.cell? (a.add j) = some u) (h1 : ∀ v ∈ r, v.oneCell' = true) :
    ∃ w', (Builtin.copy_ #[126, 126] ty #[.slice (some ⟨b, k, none⟩) dLen dCap, .slice (some a) sLen sCap]).run Tryd.prog w = .ok (goInt m) w' ∧ WholeL w' b (l.take k ++ (r ++ l.drop (k + m))) ∧
      ∀ B w0, Below B w0 w → B ≤ b → Below B w0 w' := by
  obtain ⟨i, hi, hz, h1', h16⟩ := line_row
  have hrun := run_copy_wide (P := Tryd.prog) w 126 126 ty 147 b k dLen dCap a sLen sCap _ _ r 1 m Tryd.underlying126 (by rw [hi]; simp [h1']) h hm (by rw [hr, Nat.mul_one]) hsrc
    (by simp only [List.size_toArray]; rw [hr]; omega) h1
  refine ⟨_, hrun, ?_, fun B w0 hb hB => below_setRow hb hB _⟩
  have hrow := setRow_heap w b _ (l.toArray.toList.take k ++ r ++ l.toArray.toList.drop (k + r.length)).toArray _ _ h
  unfold WholeL
  rw [hrow, hr, List.append_assoc]
theorem wp_copy_ln {w : World} {ops : Array Oper} {rest : List Oper} {o : Oper} {a : Act} {Q : Exit → Act → World → Prop} {d s : Operand} (hgd : o.guard = none)
    (ho : o.op = .call { callee := .builtin .copy, args := #[d, s], argTypes := #[126, 126] }) (b k dLen dCap sLen sCap m : Nat) (ad : Addr) (l r : List Value)
    (hd : a.eval d = .slice (some ⟨b, k, none⟩) dLen dCap) (hs : a.eval s = .slice (some ad) sLen sCap) (h : WholeL w b l) (hm : m = Nat.min sLen dLen) (hr : r.length = m) (hk : k + m ≤ l.length)
    (hsrc : ∀ j u, r[j]? = some u → w.cell? (ad.add j) = some u) (h1 : ∀ v ∈ r, v.oneCell' = true)
    (hK : ∀ w', WholeL w' b (l.take k ++ (r ++ l.drop (k + m))) → (∀ B w0, Below B w0 w → B ≤ b → Below B w0 w') → wpList Tryd.prog ops Q rest (a.put o.dst (goInt m)) w') : wpList Tryd.prog ops Q (o :: rest) a w := by
  refine wpList_plain hgd fun K hK' => ?_
  obtain ⟨w', hrun, h1, h2⟩ := run_copy_ln (ty := o.type) (dCap := dCap) (sCap := sCap) h hm hr hk hsrc h1
  unfold Oper.wp execOp
  simp only [ho, resolve, invoke, builtin, Sem.run_bind, Sem.run_pure, Result.andThen_ok, List.map_toArray, List.map_cons, List.map_nil, hs, hd, hrun]
  exact hK' _ _ (hK w' h1 h2)
theorem step_copy_ln {w : World} {ops : Array Oper} {o : Oper} {a : Act} {K : Act → World → Prop} {Q : Exit → Act → World → Prop} {E : Prop} {d s : Operand} (hgd : o.guard = none)
    (ho : o.op = .call { callee := .builtin .copy, args := #[d, s], argTypes := #[126, 126] }) (b k dLen dCap sLen sCap m : Nat) (ad : Addr) (l r : List Value)
    (hd : a.eval d = .slice (some ⟨b, k, none⟩) dLen dCap) (hs : a.eval s = .slice (some ad) sLen sCap) (h : WholeL w b l) (hm : m = Nat.min sLen dLen) (hr : r.length = m) (hk : k + m ≤ l.length)
    (hsrc : ∀ j u, r[j]? = some u → w.cell? (ad.add j) = some u) (h1 : ∀ v ∈ r, v.oneCell' = true)
    (hK : ∀ w', WholeL w' b (l.take k ++ (r ++ l.drop (k + m))) → (∀ B w0, Below B w0 w → B ≤ b → Below B w0 w') → K (a.put o.dst (goInt m)) w') :
    if Region.wanted o (yielded ops a.tmps) = true then Oper.wp Tryd.prog o a w K Q else E := by
  have hw : Region.wanted o (yielded ops a.tmps) = true := by simp [Region.wanted, hgd]
  rw [if_pos hw]
  obtain ⟨w', hrun, h1, h2⟩ := run_copy_ln (ty := o.type) (dCap := dCap) (sCap := sCap) h hm hr hk hsrc h1
  unfold Oper.wp execOp
  simp only [ho, resolve, invoke, builtin, Sem.run_bind, Sem.run_pure, Result.andThen_ok, List.map_toArray, List.map_cons, List.map_nil, hs, hd, hrun]
  exact hK w' h1 h2
theorem WholeL.cell {w : World} {b : Nat} {l r t : List Value} (h : WholeL w b l) (e : l = r ++ t) : ∀ j u, r[j]? = some u → w.cell? ((⟨b, 0, none⟩ : Addr).add j) = some u := by
  intro j u hu
  have hj : j < r.length := (List.getElem?_eq_some_iff.1 hu).1
  have ha : (⟨b, 0, none⟩ : Addr).add j = ⟨b, j, none⟩ := by
    unfold Addr.add
    by_cases h0 : j = 0
    · subst h0; rfl
    · simp [h0]
  rw [ha, Blk.cell h, e]
  rw [List.getElem?_toArray, List.getElem?_append_left hj]
  exact hu
theorem madeL_zero (n : Nat) : (madeCells Value.nilIface.cells (n * 1)).toList = List.replicate n Value.nilIface := by
  apply List.ext_getElem?
  intro j
  by_cases hj : j < n
  · simp only [madeCells, Value.cells]
    rw [Array.getElem?_toList, Array.getElem?_map, Array.getElem?_range]
    simp [hj, Nat.mod_one]
  · rw [List.getElem?_eq_none (by rw [Array.length_toList, size_madeCells]; omega), List.getElem?_eq_none (by rw [List.length_replicate]; omega)]
theorem repL_step {n k m : Nat} (c z : Value) (hm : k + m ≤ n) :
    (List.replicate k c ++ List.replicate (n - k) z).take k ++ (List.replicate m c ++ (List.replicate k c ++ List.replicate (n - k) z).drop (k + m)) = List.replicate (k + m) c ++ List.replicate (n - (k + m)) z := by
  have hl : (List.replicate k c).length = k := List.length_replicate
  rw [List.take_append_of_le_length (by rw [hl]; exact Nat.le_refl _), List.take_of_length_le (by rw [hl]; exact Nat.le_refl _), List.drop_append, List.drop_of_length_le (by rw [hl]; omega), List.nil_append, hl, List.drop_replicate, ← List.append_assoc, List.replicate_append_replicate]
  congr 2
  omega
set_option maxHeartbeats 800000 in
theorem repeatL_any (c : Ln) (x : Value) (n : Nat) (w : World) (hx : Sv w x [c]) (hn : n ≤ 1000000) :
    Calls Tryd.prog 80 #[x, .int .i64 n] w fun e w' => ∃ v, e = .returned v ∧ OwnL w' w.heap.size v (List.replicate n c) ∧ Below w.heap.size w w' := by
  obtain ⟨i, hi, hz, h1, h16⟩ := line_row
  have hx0 := hx
  obtain ⟨_, A, cp, rfl, hcp⟩ := hx
  obtain ⟨ad, rfl, hA⟩ := hx0.get (k := 0) (by simp)
  have hone : ∀ k : Nat, ∀ u ∈ List.replicate k (lv c), u.oneCell' = true := fun k u hu => by rw [(List.mem_replicate.1 hu).2]; exact lv_cell c
  have HX := Lib.hid hx0
  clear hA hx0
  go_enter Tryd.func80, Tryd.ntmps80
  go_wp2_with fail
  refine (mul_one n hn _).mono ?_; rintro e w' ⟨rfl, rfl⟩
  obtain ⟨m, hm, hm1, hm0⟩ : ∃ m, m = Nat.min 1 n ∧ m ≤ n ∧ (m = 0 → n = 0) := ⟨_, rfl, Nat.min_le_right _ _, fun h => by have : Nat.min 1 n = min 1 n := rfl; omega⟩
  have hm2 : m ≤ 1 := by rw [hm]; exact Nat.min_le_left _ _
  have HSRC : Hid (∀ w' : World, Below w.heap.size w w' → ∀ j u, (List.replicate m (lv c))[j]? = some u → w'.cell? (ad.add j) = some u) := Lib.hid fun w' hb j u hu => by
    obtain ⟨ad', e, hc⟩ := (HX.out.kept hb).get (k := 0) (by simp)
    injection e with e
    subst e
    rcases (by omega : m = 0 ∨ m = 1) with e | e
    · rw [e] at hu; simp at hu
    · rw [e] at hu
      have hj : j = 0 := by
        have := (List.getElem?_eq_some_iff.1 hu).1
        simpa using this
      subst hj
      have : lv c = u := by simpa using hu
      subst this
      exact hc
  go_wp2_with (first
    | (at_make; refine wpList_make_full _ rfl _ _ _ rfl w.heap.size 147 i _ 1 Tryd.underlying126 hi hz h1 .i64 .i64 _ _ n rfl rfl (by go_num) (by go_num) (by rw [h16]; omega) (by simp only [maxLen]; omega) (Nat.le_refl _) ?_; intro w1 ho1 hg1; rw [madeL_zero] at ho1; have HW1 := Lib.hid (WholeL.of ho1); have HB1 : Hid (Below w.heap.size w w1) := Lib.hid ((Below.refl _ w).grown hg1 (Nat.le_refl _) (fun k hk => by cases hk)); clear ho1)
    | (with_reducible refine wp_copy_ln (o := ⟨some 33, _, _, _, _, _⟩) rfl rfl w.heap.size 0 n n 1 cp m ad (List.replicate n Value.nilIface) (List.replicate m (lv c)) rfl rfl HW1.out hm List.length_replicate (by rw [List.length_replicate]; omega) (HSRC.out _ HB1.out) (hone m) ?_; intro w2 hw2 hb2; have HW2 := Lib.hid hw2; have HB2 := Lib.hid (hb2 _ _ HB1.out (Nat.le_refl _)); clear hw2 hb2))
  have HW3 : Hid (WholeL w2 w.heap.size (List.replicate m (lv c) ++ List.replicate (n - m) Value.nilIface)) := Lib.hid (by
    have h := HW2.out
    rwa [List.take_zero, List.nil_append, Nat.zero_add, List.drop_replicate] at h)
  clear HW2
  go_loopw [8] (fun i wr => ∃ k : Nat, k ≤ n ∧ (k = 0 → n = 0) ∧ i = .int .i64 k ∧ Hid (WholeL wr w.heap.size (List.replicate k (lv c) ++ List.replicate (n - k) Value.nilIface)) ∧ Below w.heap.size w wr) (fun i _ => n - (intOf i).toNat)
  case atStart => exact ⟨m, hm1, hm0, by go_num, HW3, HB2.out⟩
  case round =>
    obtain ⟨k, hk, hk0, rfl, HW, hbl⟩ := hrel
    by_cases hlt : k < n
    · have hne : ¬ n = k := by omega
      obtain ⟨p, hp, hp1, hp2⟩ : ∃ p, p = Nat.min k (n - k) ∧ 0 < p ∧ k + p ≤ n := ⟨_, rfl, by have : Nat.min k (n - k) = min k (n - k) := rfl; omega, by have : Nat.min k (n - k) = min k (n - k) := rfl; omega⟩
      have hpk : p ≤ k := by rw [hp]; exact Nat.min_le_left _ _
      have HSR : Hid (∀ j u, (List.replicate p (lv c))[j]? = some u → wr.drew.cell? ((⟨w.heap.size, 0, none⟩ : Addr).add j) = some u) := Lib.hid (WholeL.cell (w := wr.drew) HW.out (t := List.replicate (k - p) (lv c) ++ List.replicate (n - k) Value.nilIface) (by rw [← List.append_assoc, List.replicate_append_replicate]; congr 2; omega))
      have HLL : Hid ((List.replicate k (lv c) ++ List.replicate (n - k) Value.nilIface).length = n) := Lib.hid (by simp; omega)
      have hwrap : IntKind.i64.wrap ((k : Int) + (p : Int)) = (k : Int) + (p : Int) := by rw [IntKind.wrap_i64]; omega
      have HPP := Lib.hid hp
      clear hp
      have HWD : Hid (WholeL wr.drew w.heap.size (List.replicate k (lv c) ++ List.replicate (n - k) Value.nilIface)) := Lib.hid HW.out
      have HBD : Hid (Below w.heap.size w wr.drew) := Lib.hid hbl.drew
      go_wp2_with fail
      go_region_law (refine step_copy_ln rfl rfl w.heap.size k (n - k) (n - k) k n p ⟨w.heap.size, 0, none⟩ (List.replicate k (lv c) ++ List.replicate (n - k) Value.nilIface) (List.replicate p (lv c)) (by go_simp) (by go_simp) HWD.out HPP.out List.length_replicate (by rw [HLL.out]; exact hp2) HSR.out (hone p) ?_; intro w3 hw3 hb3; have HW4 := Lib.hid hw3; have HB4 := Lib.hid (hb3 _ _ HBD.out (Nat.le_refl _)); clear hw3 hb3)
      have HW5 : Hid (WholeL w3 w.heap.size (List.replicate (k + p) (lv c) ++ List.replicate (n - (k + p)) Value.nilIface)) := Lib.hid (by rw [← repL_step (lv c) Value.nilIface hp2]; exact HW4.out)
      clear HW4
      go_simp
      go_wp2_with fail
      go_roundw
      case rel => exact ⟨k + p, hp2, by omega, by go_num, HW5, HB4.out⟩
      case measure => simp [intOf]; omega
    · have hkn : k = n := by omega
      subst hkn
      have HE : Hid (List.replicate k (lv c) ++ List.replicate (k - k) Value.nilIface = lvs (List.replicate k c)) := Lib.hid (by simp [lvs])
      have HO : Hid (OwnL wr w.heap.size (.slice (some ⟨w.heap.size, 0, none⟩) k k) (List.replicate k c)) := Lib.hid (by
        have h := HW.out
        rw [HE.out] at h
        have := h.own (Nat.le_refl w.heap.size) (by rw [List.length_replicate]; exact hn)
        rwa [List.length_replicate] at this)
      go_wp2_with fail
      go_ret
      exact ⟨_, rfl, HO.out, hbl⟩
end Row
end
end Go.Proofs.YtjcfbeiljdohcaaDoor
