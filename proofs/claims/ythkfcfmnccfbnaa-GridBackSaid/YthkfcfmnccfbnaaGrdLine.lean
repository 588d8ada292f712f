/- Lines of a grid in memory: kept ones and empty ones; slices of them and parts of those; append. -/
import Derived.Test.YthkfcfmnccfbnaaGrdMem
import Derived.Lib.AppendZerosOnto
namespace Go.Proofs.Ythkfcfmnccfbnaa
set_option maxRecDepth 100000
open Go.RowKit
namespace Row

inductive Ln where
  | kept (v : Value) (r : List Cl)
  | empty (a : Look)
instance : Inhabited Ln := ⟨.empty ⟨0, 0, 0⟩⟩
def lv : Ln → Value
  | .kept v _ => .iface 57 v
  | .empty a => .iface 68 (.agg #[.int .i64 a.fg, .int .i64 a.bg, .int .i64 a.flags])
def lvs (l : List Ln) : List Value := l.map lv
theorem lvs_nil : lvs [] = [] := rfl
theorem lvs_append (a b : List Ln) : lvs (a ++ b) = lvs a ++ lvs b := List.map_append
theorem lvs_length (l : List Ln) : (lvs l).length = l.length := List.length_map _
theorem lvs_take (l : List Ln) (k : Nat) : lvs (l.take k) = (lvs l).take k := List.map_take
theorem lvs_drop (l : List Ln) (k : Nat) : lvs (l.drop k) = (lvs l).drop k := List.map_drop
theorem lv_cell (x : Ln) : (lv x).oneCell' = true := by cases x <;> rfl
theorem lvs_cells (l : List Ln) : ∀ u ∈ lvs l, u.oneCell' = true := by
  intro u hu
  obtain ⟨x, _, rfl⟩ := List.mem_map.1 hu
  exact lv_cell x
theorem lvs_get {l : List Ln} {k : Nat} (h : k < l.length) : (lvs l)[k]? = some (lv (l.getD k default)) := by
  unfold lvs; simp [h]
def lrow (c : Nat) : Ln → List Cl
  | .kept _ r => r
  | .empty a => blankRow c a
def LnOk (w : World) (c : Nat) : Ln → Prop
  | .kept v r => Rm w v r ∧ r.length = c
  | .empty a => attrOk a = true
theorem LnOk.kept {w w' : World} {c : Nat} {x : Ln} (h : LnOk w c x) (hb : Below w.heap.size w w') : LnOk w' c x := by
  cases x with
  | kept v r => exact ⟨h.1.kept hb, h.2⟩
  | empty a => exact h
def LnsOk (w : World) (c : Nat) (l : List Ln) : Prop := ∀ x ∈ l, LnOk w c x
theorem LnsOk.kept {w w' : World} {c : Nat} {l : List Ln} (h : LnsOk w c l) (hb : Below w.heap.size w w') : LnsOk w' c l := fun x hx => (h x hx).kept hb
theorem lrow_len {w : World} {c : Nat} {x : Ln} (h : LnOk w c x) : (lrow c x).length = c := by
  cases x with
  | kept v r => exact h.2
  | empty a => exact blankRow_length c a

/-- A slice that reads as these lines, within its room. -/
def Sv (w : World) (x : Value) (l : List Ln) : Prop := Src w x l.length (lvs l) ∧ ∃ A c, x = .slice A l.length c ∧ l.length ≤ c
theorem Sv.kept {w w' : World} {x : Value} {l : List Ln} (h : Sv w x l) (hb : Below w.heap.size w w') : Sv w' x l := ⟨h.1.kept hb, h.2⟩
theorem Sv.room {w : World} {A : Option Addr} {n c : Nat} {l : List Ln} (h : Sv w (.slice A n c) l) : n = l.length ∧ l.length ≤ c := by
  obtain ⟨_, A', c', e, hc⟩ := h
  injection e with e1 e2 e3
  exact ⟨e2, by omega⟩
theorem Sv.get {w : World} {A : Option Addr} {n c : Nat} {l : List Ln} (h : Sv w (.slice A n c) l) {k : Nat} (hk : k < l.length) : ∃ ad, A = some ad ∧ w.cell? (ad.add k) = some (lv (l.getD k default)) := by
  obtain ⟨A', c', e, hf⟩ := h.1.form
  injection e with e1 e2 e3
  subst e1
  obtain ⟨ad, rfl, hc⟩ := hf k hk
  exact ⟨ad, rfl, by rw [hc, lvs_get hk]⟩
theorem line_slice : Try.prog.underlying 50 = some (.slice (Try.prog.elem 50)) := by kernel_rfl
theorem line_size (w' : World) : (sizeOf (Try.prog.elem 50)).run Try.prog w' = .ok 1 w' := by kernel_rfl
/-- A part of it. -/
theorem Sv.mid {w : World} {A : Option Addr} {n c : Nat} {l : List Ln} (h : Sv w (.slice A n c) l) (lo hi : Nat) (h1 : lo ≤ hi) (h2 : hi ≤ l.length) :
    Sv w (.slice (if c = lo then A else A.map (·.add lo)) (hi - lo) (c - lo)) ((l.drop lo).take (hi - lo)) := by
  obtain ⟨en, hc⟩ := h.room
  have hlen : ((l.drop lo).take (hi - lo)).length = hi - lo := by rw [List.length_take, List.length_drop]; omega
  refine ⟨⟨by rw [lvs_length], ?_⟩, _, _, by rw [hlen], by rw [hlen]; omega⟩
  rcases h.1.2 with ⟨e, h0⟩ | ⟨ad, c2, e, hcell⟩
  · injection e with e1 e2 e3
    subst e1; subst e3
    left
    have : lo = 0 := by omega
    subst this
    exact ⟨by rw [if_pos rfl]; congr 1; omega, by rw [hlen]; omega⟩
  · injection e with e1 e2 e3
    subst e1; subst e3
    right
    by_cases hck : c = lo
    · rw [if_pos hck]
      refine ⟨ad, c - lo, by rw [hlen], fun j u hu => ?_⟩
      have hd : (l.drop lo).take (hi - lo) = [] := List.eq_nil_of_length_eq_zero (by rw [hlen]; omega)
      rw [hd] at hu; simp [lvs] at hu
    · rw [if_neg hck]
      refine ⟨ad.add lo, c - lo, by rw [hlen]; rfl, fun j u hu => ?_⟩
      rw [Go.Deep.add_add]
      refine hcell (lo + j) u ?_
      rw [lvs_take, lvs_drop] at hu
      have hj : j < hi - lo := by
        have := (List.getElem?_eq_some_iff.1 hu).1
        rw [List.length_take] at this; omega
      rw [List.getElem?_take_of_lt hj, List.getElem?_drop] at hu
      exact hu
theorem Sv.run_mid {w : World} {A : Option Addr} {n c : Nat} {l : List Ln} (h : Sv w (.slice A n c) l) (lo hi : Nat) (h1 : lo ≤ hi) (h2 : hi ≤ l.length) (w' : World) :
    (Instr.slice 50 (.slice A n c) (some (.int .i64 lo)) (some (.int .i64 hi)) none).run Try.prog w' = .ok (.slice (if c = lo then A else A.map (·.add lo)) (hi - lo) (c - lo)) w' := by
  obtain ⟨en, hc⟩ := h.room
  rw [run_slice_lh w' 50 A n c line_slice .i64 .i64 lo hi (by omega) (by omega) (by omega), line_size]
  simp [Result.andThen, sliced]
theorem Sv.from {w : World} {A : Option Addr} {n c : Nat} {l : List Ln} (h : Sv w (.slice A n c) l) (k : Nat) (hk : k ≤ l.length) :
    Sv w (.slice (if c = k then A else A.map (·.add k)) (n - k) (c - k)) (l.drop k) := by
  have := h.mid k l.length hk (Nat.le_refl _)
  rw [h.room.1]
  rwa [List.take_of_length_le (by rw [List.length_drop]; exact Nat.le_refl _)] at this
theorem Sv.run_from {w : World} {A : Option Addr} {n c : Nat} {l : List Ln} (h : Sv w (.slice A n c) l) (k : Nat) (hk : k ≤ l.length) (w' : World) :
    (Instr.slice 50 (.slice A n c) (some (.int .i64 k)) none none).run Try.prog w' = .ok (.slice (if c = k then A else A.map (·.add k)) (n - k) (c - k)) w' := by
  obtain ⟨en, hc⟩ := h.room
  rw [run_slice_l w' 50 A n c line_slice .i64 k (by omega) (by omega), line_size]
  simp [Result.andThen, sliced]
theorem Sv.upto {w : World} {A : Option Addr} {n c : Nat} {l : List Ln} (h : Sv w (.slice A n c) l) (k : Nat) (hk : k ≤ l.length) : Sv w (.slice A k c) (l.take k) := by
  obtain ⟨en, hc⟩ := h.room
  have hlen : (l.take k).length = k := by rw [List.length_take]; omega
  refine ⟨⟨by rw [lvs_length], ?_⟩, _, _, by rw [hlen], by rw [hlen]; omega⟩
  rcases h.1.2 with ⟨e, h0⟩ | ⟨ad, c2, e, hcell⟩
  · injection e with e1 e2 e3
    subst e1; subst e3
    left
    exact ⟨by congr 1; omega, by rw [hlen]; omega⟩
  · injection e with e1 e2 e3
    subst e1; subst e3
    right
    refine ⟨ad, c, by rw [hlen], fun j u hu => ?_⟩
    refine hcell j u ?_
    rw [lvs_take] at hu
    have hj : j < k := by
      have := (List.getElem?_eq_some_iff.1 hu).1
      rw [List.length_take] at this; omega
    rwa [List.getElem?_take_of_lt hj] at hu
theorem Sv.run_upto {w : World} {A : Option Addr} {n c : Nat} {l : List Ln} (h : Sv w (.slice A n c) l) (k : Nat) (hk : k ≤ l.length) (w' : World) :
    (Instr.slice 50 (.slice A n c) none (some (.int .i64 k)) none).run Try.prog w' = .ok (.slice A k c) w' := by
  obtain ⟨en, hc⟩ := h.room
  rw [run_slice_h w' 50 A n c line_slice .i64 k (by omega) (by omega), line_size]
  simp [Result.andThen, sliced]
  intro _
  cases A <;> simp [Addr.add]

/-- The same in memory of the call's own. -/
def OwnL (w : World) (base : Nat) (v : Value) (l : List Ln) : Prop := w.ownsRow base 54 1 v l.length (lvs l)
theorem OwnL.sv {w : World} {base : Nat} {v : Value} {l : List Ln} (h : OwnL w base v l) : Sv w v l := by
  refine ⟨Src.own h, ?_⟩
  rcases h.2 with ⟨rfl, h0⟩ | ⟨g, cap, cur, rfl, _, _, hc, _⟩
  · exact ⟨none, 0, by rw [h0], by omega⟩
  · exact ⟨_, _, rfl, hc⟩
theorem OwnL.kept {w w' : World} {base : Nat} {v : Value} {l : List Ln} (h : OwnL w base v l) (hb : Below w.heap.size w w') : OwnL w' base v l := own_kept h hb
theorem OwnL.nil (w : World) (base : Nat) : OwnL w base (.slice none 0 0) [] := World.ownsRow_nil _ _ _ _
theorem OwnL.low {w : World} {base b2 : Nat} {v : Value} {l : List Ln} (h : OwnL w base v l) (hb : b2 ≤ base) : OwnL w b2 v l := Blk.low h hb
theorem OwnL.lt {w : World} {base : Nat} {v : Value} {l : List Ln} (h : OwnL w base v l) (k : Nat) (hk : v.ownBlock = some k) : base ≤ k ∧ k < w.heap.size := World.ownsRow.lt h k hk
theorem line_info : (Try.prog.info? 54).map (fun i => (i.zero, i.size, i.bytes)) = some (some .nilIface, 1, 16) := by kernel_rfl
theorem line_row : ∃ i : TypeInfo, Try.prog.info? 54 = some i ∧ i.zero = some .nilIface ∧ i.size = 1 ∧ i.bytes = 16 := by
  obtain ⟨i, h, h1, h2, h3⟩ := info_parts line_info
  exact ⟨i, h, h1, h2, h3⟩
theorem below_ln {B : Nat} {a w w' : World} {v : Value} {l : List Ln} (h : Below B a w) (hg : w.grownBy w' v.ownBlock) (hB : B ≤ w.heap.size) (ho : OwnL w B v l) : Below B a w' :=
  h.grown hg hB fun k hk => (ho.lt k hk).1
/-- append of lines. -/
theorem wp_append_ln {w : World} {ops : Array Oper} {rest : List Oper} {o : Oper} {a : Act} {Q : Exit → Act → World → Prop} {s x : Operand} (hgd : o.guard = none)
    (ho : o.op = .call { callee := .builtin .append, args := #[s, x], argTypes := #[50, 50] }) (base : Nat) (v y : Value) (l r : List Ln) (hs : a.eval s = v) (hown : OwnL w base v l)
    (hy : a.eval x = y) (hx : Sv w y r) (hl : l.length + r.length ≤ 1000000000) (hbase : base ≤ w.heap.size)
    (h : ∀ v' w', OwnL w' base v' (l ++ r) → w.grownBy w' v.ownBlock → (v'.ownBlock = v.ownBlock ∨ v'.ownBlock = some w.heap.size) → wpList Try.prog ops Q rest (a.put o.dst v') w') :
    wpList Try.prog ops Q (o :: rest) a w := by
  obtain ⟨i, hi, hz, h1, h16⟩ := line_row
  refine wpList_append_src hgd ho base 54 i _ 16 Try.underlying50 hi hz h1 h16 rfl v l.length (lvs l) hs hown y r.length (lvs r) hy hx.1 (lvs_cells r) (by simp only [maxLen]; omega) (by omega) hbase fun v' w' h2 h3 h4 => ?_
  exact h v' w' (by unfold OwnL; rw [lvs_append, List.length_append]; exact h2) h3 h4
end Row
end Go.Proofs.Ythkfcfmnccfbnaa
