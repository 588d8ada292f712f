/- Joined texts: GrdMoveP, GrdUp, RowFine, GrdAsk, GrdHeavy, GrdNew. -/
import Derived.Test.YtjcfbeiljdohcaaDoorJM17
import Derived.Test.YtjcfbeiljdohcaaDoorJM20
import Derived.Deep.RegionLaw
import Derived.Deep.Slices
namespace Go.Proofs.YtjcfbeiljdohcaaDoor
set_option maxRecDepth 100000
section
namespace Row
theorem rowOf_append_left {a b : List (List Cl)} {i : Nat} (h : i < a.length) : rowOf (a ++ b) i = rowOf a i := by
  simp [rowOf, List.getElem?_append_left h]
theorem rowOf_append_right {a b : List (List Cl)} {i : Nat} (h : a.length ≤ i) : rowOf (a ++ b) i = rowOf b (i - a.length) := by
  simp [rowOf, List.getElem?_append_right h]
theorem rowOf_take {a : List (List Cl)} {i k : Nat} (h : i < k) : rowOf (a.take k) i = rowOf a i := by
  simp [rowOf, h]
theorem rowOf_drop (a : List (List Cl)) (k i : Nat) : rowOf (a.drop k) i = rowOf a (k + i) := by
  simp [rowOf]
theorem rowOf_rep {n i : Nat} (r : List Cl) (h : i < n) : rowOf (List.replicate n r) i = r := by
  simp [rowOf, h]
theorem moved_length (rs : List (List Cl)) (top bot : Nat) (n : Int) (c : Nat) (a : Look) : (moved rs top bot n c a).length = rs.length := by
  unfold moved; rw [List.length_map, List.length_range]
theorem rowOf_moved {rs : List (List Cl)} {top bot : Nat} {n : Int} {c : Nat} {a : Look} {i : Nat} (h : i < rs.length) : rowOf (moved rs top bot n c a) i = movedRow rs top bot n c a i := by
  unfold moved; rw [rowOf_map _ h]
def upRows (rs : List (List Cl)) (top bot m c : Nat) (a : Look) : List (List Cl) :=
  rs.take top ++ ((rs.drop (top + m)).take (bot + 1 - (top + m)) ++ (List.replicate m (blankRow c a) ++ rs.drop (bot + 1)))
def downRows (rs : List (List Cl)) (top bot m c : Nat) (a : Look) : List (List Cl) :=
  rs.take top ++ (List.replicate m (blankRow c a) ++ ((rs.drop top).take (bot + 1 - m - top) ++ rs.drop (bot + 1)))
theorem up_rows {rs : List (List Cl)} {top bot m n c : Nat} {a : Look} (ht : top ≤ bot) (hb : bot < rs.length) (hm : m = min n (bot + 1 - top)) : upRows rs top bot m c a = moved rs top bot n c a := by
  have l1 : (rs.take top).length = top := by rw [List.length_take]; omega
  have l2 : ((rs.drop (top + m)).take (bot + 1 - (top + m))).length = bot + 1 - (top + m) := by rw [List.length_take, List.length_drop]; omega
  have l3 : (List.replicate m (blankRow c a)).length = m := List.length_replicate
  have l4 : (rs.drop (bot + 1)).length = rs.length - (bot + 1) := List.length_drop
  have hl : (upRows rs top bot m c a).length = rs.length := by unfold upRows; simp only [List.length_append, l1, l2, l3, l4]; omega
  refine rows_ext (by rw [hl, moved_length]) fun i hi => ?_
  rw [hl] at hi
  rw [rowOf_moved hi]
  unfold upRows movedRow
  by_cases h1 : i < top
  · rw [rowOf_append_left (by omega), rowOf_take h1, if_neg (by omega)]
  · rw [rowOf_append_right (by omega), l1]
    by_cases h2 : i ≤ bot
    · rw [if_pos (by omega)]
      by_cases h3 : i + m ≤ bot
      · rw [rowOf_append_left (by omega), rowOf_take (by omega), rowOf_drop, if_neg (by omega)]
        congr 1; omega
      · rw [rowOf_append_right (by omega), l2, rowOf_append_left (by omega), rowOf_rep _ (by omega), if_pos (by omega)]
    · rw [if_neg (by omega), rowOf_append_right (by omega), l2, rowOf_append_right (by omega), l3, rowOf_drop]
      congr 1; omega
theorem down_rows {rs : List (List Cl)} {top bot m n c : Nat} {a : Look} (ht : top ≤ bot) (hb : bot < rs.length) (hm : m = min n (bot + 1 - top)) : downRows rs top bot m c a = moved rs top bot (-(n : Int)) c a := by
  have l1 : (rs.take top).length = top := by rw [List.length_take]; omega
  have l2 : ((rs.drop top).take (bot + 1 - m - top)).length = bot + 1 - m - top := by rw [List.length_take, List.length_drop]; omega
  have l3 : (List.replicate m (blankRow c a)).length = m := List.length_replicate
  have l4 : (rs.drop (bot + 1)).length = rs.length - (bot + 1) := List.length_drop
  have hl : (downRows rs top bot m c a).length = rs.length := by unfold downRows; simp only [List.length_append, l1, l2, l3, l4]; omega
  refine rows_ext (by rw [hl, moved_length]) fun i hi => ?_
  rw [hl] at hi
  rw [rowOf_moved hi]
  unfold downRows movedRow
  by_cases h1 : i < top
  · rw [rowOf_append_left (by omega), rowOf_take h1, if_neg (by omega)]
  · rw [rowOf_append_right (by omega), l1]
    by_cases h2 : i ≤ bot
    · rw [if_pos (by omega)]
      by_cases h3 : i < top + m
      · rw [rowOf_append_left (by omega), rowOf_rep _ (by omega), if_pos (by omega)]
      · rw [rowOf_append_right (by omega), l3, rowOf_append_left (by omega), rowOf_take (by omega), rowOf_drop, if_neg (by omega)]
        congr 1; omega
    · rw [if_neg (by omega), rowOf_append_right (by omega), l3, rowOf_append_right (by omega), l2, rowOf_drop]
      congr 1; omega
theorem back_rows {rs : List (List Cl)} {n c : Nat} {a : Look} {i : Nat} (hn : n ≤ i) (hi : i < rs.length) :
    rowOf (moved (moved rs 0 (rs.length - 1) n c a) 0 (rs.length - 1) (-(n : Int)) c a) i = rowOf rs i := by
  rw [rowOf_moved (by rw [moved_length]; exact hi)]
  unfold movedRow
  rw [if_pos (by omega), if_neg (by omega), rowOf_moved (by omega)]
  unfold movedRow
  rw [if_pos (by omega), if_neg (by omega)]
  congr 1; omega
end Row
end
section
open Go.RowKit
namespace Row
structure Boxes3 (w w2 : World) (r c : Int) (x : Value) (a : Look) : Prop where
  two : Boxes w w2 r c x a
  z : w2.heap[w.heap.size + 2]? = some (gbox 0 0 (.slice none 0 0))
theorem Boxes3.new (w : World) (r c : Int) (x : Value) (a : Look) : Boxes3 w (((w.alloc (gbox r c x)).alloc (abox a)).alloc (gbox 0 0 (.slice none 0 0))) r c x a :=
  ⟨(Boxes.new w r c x a).alloc _, new_alloc _ _ _ (by simp)⟩
theorem Boxes3.kept {w w2 w3 : World} {r c : Int} {x : Value} {a : Look} (h : Boxes3 w w2 r c x a) (hb : Below w2.heap.size w2 w3) : Boxes3 w w3 r c x a := ⟨h.two.kept hb, Blk.kept h.z hb⟩
theorem Boxes3.drew {w w2 : World} {r c : Int} {x : Value} {a : Look} (h : Boxes3 w w2 r c x a) : Boxes3 w w2.drew r c x a := h.kept (Below.refl _ _).drew
theorem Boxes3.alloc {w w2 : World} {r c : Int} {x : Value} {a : Look} (h : Boxes3 w w2 r c x a) (o : Obj) : Boxes3 w (w2.alloc o) r c x a := h.kept ((Below.refl _ _).alloc (Nat.le_refl _) _)
theorem Boxes3.size {w w2 : World} {r c : Int} {x : Value} {a : Look} (h : Boxes3 w w2 r c x a) : w.heap.size + 3 ≤ w2.heap.size := Blk.lt h.z
theorem Boxes3.base : ∀ {w w2 : World} {r c : Int} {x : Value} {a : Look}, Boxes3 w w2 r c x a → w.heap.size ≤ w2.heap.size := fun h => h.two.below.size
theorem Sv.part_upto {w : World} {v : Value} {l : List Ln} (h : Sv w v l) (k : Nat) (hk : k ≤ l.length) :
    ∃ A' c', (∀ w' : World, (Instr.slice 126 v none (some (.int .i64 k)) none).run Tryd.prog w' = .ok (.slice A' k c') w') ∧ Sv w (.slice A' k c') (l.take k) := by
  obtain ⟨_, A, c, rfl, hc⟩ := h
  have h : Sv w (.slice A l.length c) l := ⟨by assumption, _, _, rfl, hc⟩
  exact ⟨A, c, h.run_upto k hk, h.upto k hk⟩
theorem Sv.part_from {w : World} {v : Value} {l : List Ln} (h : Sv w v l) (k : Nat) (hk : k ≤ l.length) :
    ∃ A' c', (∀ w' : World, (Instr.slice 126 v (some (.int .i64 k)) none none).run Tryd.prog w' = .ok (.slice A' (l.length - k) c') w') ∧ Sv w (.slice A' (l.length - k) c') (l.drop k) := by
  obtain ⟨_, A, c, rfl, hc⟩ := h
  have h : Sv w (.slice A l.length c) l := ⟨by assumption, _, _, rfl, hc⟩
  exact ⟨_, _, h.run_from k hk, h.from k hk⟩
theorem Sv.part_mid {w : World} {v : Value} {l : List Ln} (h : Sv w v l) (lo hi : Nat) (h1 : lo ≤ hi) (h2 : hi ≤ l.length) :
    ∃ A' c', (∀ w' : World, (Instr.slice 126 v (some (.int .i64 lo)) (some (.int .i64 hi)) none).run Tryd.prog w' = .ok (.slice A' (hi - lo) c') w') ∧ Sv w (.slice A' (hi - lo) c') ((l.drop lo).take (hi - lo)) := by
  obtain ⟨_, A, c, rfl, hc⟩ := h
  have h : Sv w (.slice A l.length c) l := ⟨by assumption, _, _, rfl, hc⟩
  exact ⟨_, _, h.run_mid lo hi h1 h2, h.mid lo hi h1 h2⟩
theorem four_of {w : World} {a b c d : Value} {p q r s : List Ln} (h1 : Sv w a p) (h2 : Sv w b q) (h3 : Sv w c r) (h4 : Sv w d s) : ∀ k, k < [p, q, r, s].length → Sv w ([a, b, c, d].getD k undef) ([p, q, r, s].getD k []) := by
  intro k hk
  have hk : k < 4 := hk
  rcases (by omega : k = 0 ∨ k = 1 ∨ k = 2 ∨ k = 3) with rfl | rfl | rfl | rfl
  · exact h1
  · exact h2
  · exact h3
  · exact h4
theorem rows_kept {R C : Nat} {rs : List (List Cl)} (h : Rws R C rs) (cv : Nat → Value) : rowsOfL C (keptOf cv rs.flatten C (List.range R)) = rs := by
  refine rows_ext (by unfold rowsOfL; rw [List.length_map, keptOf_length, List.length_range, h.len]) fun i hi => ?_
  unfold rowsOfL at hi ⊢
  rw [List.length_map, keptOf_length, List.length_range] at hi
  rw [← rowAt_flat h.even (by rw [h.len]; exact hi)]
  unfold rowOf keptOf
  simp [hi, lrow]
theorem kept_ok {w : World} {R C : Nat} {rs : List (List Cl)} (h : Rws R C rs) {cv : Nat → Value} (hcv : ∀ i, i < R → Rm w (cv i) (rowAt rs.flatten C i)) : LnsOk w C (keptOf cv rs.flatten C (List.range R)) := by
  intro x hx
  obtain ⟨i, hi, rfl⟩ := List.mem_map.1 hx
  have hi := List.mem_range.1 hi
  exact ⟨hcv i hi, by rw [rowAt_flat h.even (by rw [h.len]; exact hi)]; exact h.rlen hi⟩
def upLns (l : List Ln) (top bot m : Nat) (a : Look) : List Ln := [l.take top, (l.drop (top + m)).take (bot + 1 - (top + m)), List.replicate m (.empty a), l.drop (bot + 1)].flatten
def downLns (l : List Ln) (top bot m : Nat) (a : Look) : List Ln := [l.take top, List.replicate m (.empty a), (l.drop top).take (bot + 1 - m - top), l.drop (bot + 1)].flatten
theorem rowsOfL_append (c : Nat) (a b : List Ln) : rowsOfL c (a ++ b) = rowsOfL c a ++ rowsOfL c b := List.map_append
theorem rowsOfL_take (c k : Nat) (a : List Ln) : rowsOfL c (a.take k) = (rowsOfL c a).take k := List.map_take
theorem rowsOfL_drop (c k : Nat) (a : List Ln) : rowsOfL c (a.drop k) = (rowsOfL c a).drop k := List.map_drop
theorem rowsOfL_rep (c k : Nat) (a : Look) : rowsOfL c (List.replicate k (.empty a)) = List.replicate k (blankRow c a) := by unfold rowsOfL; rw [List.map_replicate]; rfl
theorem up_lns (l : List Ln) (top bot m c : Nat) (a : Look) : rowsOfL c (upLns l top bot m a) = upRows (rowsOfL c l) top bot m c a := by
  unfold upLns upRows
  simp only [List.flatten_cons, List.flatten_nil, List.append_nil, rowsOfL_append, rowsOfL_take, rowsOfL_drop, rowsOfL_rep]
theorem down_lns (l : List Ln) (top bot m c : Nat) (a : Look) : rowsOfL c (downLns l top bot m a) = downRows (rowsOfL c l) top bot m c a := by
  unfold downLns downRows
  simp only [List.flatten_cons, List.flatten_nil, List.append_nil, rowsOfL_append, rowsOfL_take, rowsOfL_drop, rowsOfL_rep]
theorem up_ok {w : World} {c : Nat} {l : List Ln} (h : LnsOk w c l) (top bot m : Nat) {a : Look} (ha : attrOk a = true) : LnsOk w c (upLns l top bot m a) := by
  intro x hx
  simp only [upLns, List.flatten_cons, List.flatten_nil, List.append_nil, List.mem_append] at hx
  rcases hx with hx | hx | hx | hx
  · exact h x (List.mem_of_mem_take hx)
  · exact h x (List.mem_of_mem_drop (List.mem_of_mem_take hx))
  · rw [(List.mem_replicate.1 hx).2]; exact ha
  · exact h x (List.mem_of_mem_drop hx)
theorem down_ok {w : World} {c : Nat} {l : List Ln} (h : LnsOk w c l) (top bot m : Nat) {a : Look} (ha : attrOk a = true) : LnsOk w c (downLns l top bot m a) := by
  intro x hx
  simp only [downLns, List.flatten_cons, List.flatten_nil, List.append_nil, List.mem_append] at hx
  rcases hx with hx | hx | hx | hx
  · exact h x (List.mem_of_mem_take hx)
  · rw [(List.mem_replicate.1 hx).2]; exact ha
  · exact h x (List.mem_of_mem_drop (List.mem_of_mem_take hx))
  · exact h x (List.mem_of_mem_drop hx)
theorem up_len {l : List Ln} {top bot m : Nat} (a : Look) (h1 : top + m ≤ bot + 1) (h2 : bot + 1 ≤ l.length) : (upLns l top bot m a).length = l.length := by
  simp only [upLns, List.flatten_cons, List.flatten_nil, List.append_nil, List.length_append, List.length_take, List.length_drop, List.length_replicate]; omega
theorem down_len {l : List Ln} {top bot m : Nat} (a : Look) (h1 : top + m ≤ bot + 1) (h2 : bot + 1 ≤ l.length) : (downLns l top bot m a).length = l.length := by
  simp only [downLns, List.flatten_cons, List.flatten_nil, List.append_nil, List.length_append, List.length_take, List.length_drop, List.length_replicate]; omega
end Row
end
section
open Go.ChangeShapes Go.WideShapes Go.RowKit Go.Deep
namespace RowF
def Reads (bnd : Nat) (P : Program) (w : World) : Nat → TypeId → List Value → Prop
  | 0, _, _ => False
  | n + 1, t, cs => match P.underlying t with
    | some (.int k) => ∃ m, cs = [.int k m] ∧ (Lit.int k m).wf = true
    | some .bool => ∃ b, cs = [.bool b]
    | some .string => ∃ s : ByteArray, cs = [.string s] ∧ s.size ≤ bnd
    | some (.slice e) => cs = [.slice none 0 0] ∨ ∃ a len cap, cs = [.slice (some a) len cap] ∧ len * P.bytesOf e ≤ reachBytes ∧ (len ≤ cap ∧ len ≤ maxLen) ∧
        ∀ i, i < len → ∃ es : List Value, es.length = P.cellsOf e ∧ (∀ j u, es[j]? = some u → w.cell? (a.add (i * P.cellsOf e + j)) = some u) ∧ Reads bnd P w n e es
    | some (.struct fs) => cs.length = P.cellsOf t ∧ ∀ (i : Nat) (f : Field), fs[i]? = some f → Reads bnd P w n f.type ((cs.drop f.offset).take (P.cellsOf f.type))
    | _ => True
def Fine (bnd : Nat) (P : Program) (w : World) (t : TypeId) (cs : List Value) : Prop := ∃ n, Reads bnd P w n t cs
section
variable {bnd : Nat} {P : Program} {w w' : World} {t e : TypeId} {cs : List Value}
theorem Reads.kept (hb : Below w.heap.size w w') : ∀ (n : Nat) (t : TypeId) (cs : List Value), Reads bnd P w n t cs → Reads bnd P w' n t cs
  | 0, _, _, h => h
  | n + 1, t, cs, h => by
    unfold Reads at h ⊢
    revert h
    split <;> intro h
    · exact h
    · exact h
    · exact h
    · rcases h with h | ⟨a, len, cap, h1, h2, h3, h4⟩
      · exact .inl h
      · exact .inr ⟨a, len, cap, h1, h2, h3, fun i hi => by
          obtain ⟨es, g1, g2, g3⟩ := h4 i hi
          exact ⟨es, g1, fun j u hu => cell_kept hb (g2 j u hu), Reads.kept hb n _ es g3⟩⟩
    · exact ⟨h.1, fun i f hf => Reads.kept hb n _ _ (h.2 i f hf)⟩
    · trivial
theorem Fine.kept (h : Fine bnd P w t cs) (hb : Below w.heap.size w w') : Fine bnd P w' t cs := by
  obtain ⟨n, h⟩ := h; exact ⟨n, Reads.kept hb n t cs h⟩
theorem Fine.int {k : IntKind} (hu : P.underlying t = some (.int k)) (h : Fine bnd P w t cs) : ∃ m, cs = [.int k m] ∧ (Lit.int k m).wf = true := by
  obtain ⟨n, h⟩ := h
  cases n with
  | zero => exact h.elim
  | succ n => simpa only [Reads, hu] using h
theorem Fine.bool (hu : P.underlying t = some .bool) (h : Fine bnd P w t cs) : ∃ b, cs = [.bool b] := by
  obtain ⟨n, h⟩ := h
  cases n with
  | zero => exact h.elim
  | succ n => simpa only [Reads, hu] using h
theorem Fine.string (hu : P.underlying t = some .string) (h : Fine bnd P w t cs) : ∃ s : ByteArray, cs = [.string s] ∧ s.size ≤ bnd := by
  obtain ⟨n, h⟩ := h
  cases n with
  | zero => exact h.elim
  | succ n => simpa only [Reads, hu] using h
theorem Fine.slice (hu : P.underlying t = some (.slice e)) (h : Fine bnd P w t cs) : cs = [.slice none 0 0] ∨ ∃ a len cap, cs = [.slice (some a) len cap] ∧ len * P.bytesOf e ≤ reachBytes ∧ (len ≤ cap ∧ len ≤ maxLen) ∧
    ∀ i, i < len → ∃ es : List Value, es.length = P.cellsOf e ∧ (∀ j u, es[j]? = some u → w.cell? (a.add (i * P.cellsOf e + j)) = some u) ∧ Fine bnd P w e es := by
  obtain ⟨n, h⟩ := h
  cases n with
  | zero => exact h.elim
  | succ n =>
    simp only [Reads, hu] at h
    rcases h with h | ⟨a, len, cap, h1, h2, h3, h4⟩
    · exact .inl h
    · exact .inr ⟨a, len, cap, h1, h2, h3, fun i hi => by
        obtain ⟨es, g1, g2, g3⟩ := h4 i hi
        exact ⟨es, g1, g2, n, g3⟩⟩
theorem Fine.len {fs : Array Field} (hu : P.underlying t = some (.struct fs)) (h : Fine bnd P w t cs) : cs.length = P.cellsOf t := by
  obtain ⟨n, h⟩ := h
  cases n with
  | zero => exact h.elim
  | succ n => simp only [Reads, hu] at h; exact h.1
theorem Fine.field {fs : Array Field} (hu : P.underlying t = some (.struct fs)) (h : Fine bnd P w t cs) (i : Nat) {f : Field} (hf : fs[i]? = some f) : Fine bnd P w f.type ((cs.drop f.offset).take (P.cellsOf f.type)) := by
  obtain ⟨n, h⟩ := h
  cases n with
  | zero => exact h.elim
  | succ n => simp only [Reads, hu] at h; exact ⟨n, h.2 i f hf⟩
theorem Fine.part {fs : Array Field} (hu : P.underlying t = some (.struct fs)) (h : Fine bnd P w t cs) (i : Nat) {f : Field} {t' : TypeId} {o c : Nat} (hf : fs[i]? = some f) (ht : f.type = t') (ho : f.offset = o) (hc : P.cellsOf t' = c) : Fine bnd P w t' ((cs.drop o).take c) := by
  subst ht; subst ho; subst hc; exact h.field hu i hf
end
section
variable {bnd : Nat} {H : Type} {enc : TypeId × Value → H} {P : Program} {w : World}
theorem weights_mem_all {e : TypeId} : ∀ {l : List (DataW H)} {d : DataW H}, d ∈ l → ∀ n ∈ d.weights P e, n ∈ DataW.weightsAll P e l
  | x :: r, d, h, n, hn => by
    simp only [DataW.weightsAll, List.mem_append]
    cases List.mem_cons.1 h with
    | inl e => subst e; exact .inl hn
    | inr e => exact .inr (weights_mem_all e n hn)
theorem weights_mem_each : ∀ {ts : List TypeId} {l : List (DataW H)} {i : Nat} {t : TypeId} {d : DataW H}, ts[i]? = some t → l[i]? = some d → ∀ n ∈ d.weights P t, n ∈ DataW.weightsEach P ts l
  | [], _, i, _, _, ht, _, _, _ => by simp at ht
  | _ :: _, [], i, _, _, _, hd, _, _ => by simp at hd
  | t' :: ts, d' :: l, 0, t, d, ht, hd, n, hn => by
    obtain rfl : t' = t := by simpa using ht
    obtain rfl : d' = d := by simpa using hd
    simp only [DataW.weightsEach, List.mem_append]; exact .inl hn
  | t' :: ts, d' :: l, i + 1, t, d, ht, hd, n, hn => by
    simp only [DataW.weightsEach, List.mem_append]
    exact .inr (weights_mem_each (i := i) (by simpa using ht) (by simpa using hd) n hn)
theorem bulk_part {d : DataW H} {l : List (DataW H)} (h : d ∈ l) : Rows.uptoBulk d ≤ Rows.uptoBulkAll l := by
  induction l with
  | nil => cases h
  | cons x r ih =>
    simp only [Rows.uptoBulkAll]
    cases List.mem_cons.1 h with
    | inl e => subst e; omega
    | inr e => have := ih e; omega
theorem reads_of : ∀ (n : Nat) (t : TypeId) (cs : List Value) (y : DataW H × List MemPlace), DataW.trod enc P w 0 (fun _ => true) true n t cs = some y → (∀ k ∈ y.1.weights P t, k ≤ reachBytes) → (Rows.uptoBulk y.1 ≤ bnd ∨ reachBytes ≤ bnd) → Reads bnd P w n t cs
  | 0, t, cs, y, h, _, _ => by simp [DataW.trod] at h
  | n + 1, t, cs, y, h, hw, hbk => by
    unfold Reads
    split
    · rename_i k hu
      obtain ⟨m, h1, _, h2⟩ := DataW.trod_int hu h
      exact ⟨m, h1, h2⟩
    · rename_i hu
      obtain ⟨b, h1, _⟩ := DataW.trod_bool hu h
      exact ⟨b, h1⟩
    · rename_i hu
      obtain ⟨s, h1, h2, _⟩ := DataW.trod_string hu h
      refine ⟨s, h1, ?_⟩
      subst h2
      have h3 := hw s.data.toList.length (by simp [DataW.weights])
      have h3 : s.size ≤ reachBytes := h3
      rcases hbk with hb | hb
      · have : Rows.uptoBulk (DataW.lit (H := H) (.string s.data.toList)) = s.size + 1 := by simp [Rows.uptoBulk]
        have hb : Rows.uptoBulk (DataW.lit (H := H) (.string s.data.toList)) ≤ bnd := hb
        omega
      · omega
    · rename_i e hu
      rcases DataW.trod_slice hu h with ⟨h0, _⟩ | ⟨a, len, cap, elems, rest, m, hm, rfl, rfl, hb, hl, hmx, hlen, hel, hsp, hns⟩
      · exact .inl h0
      · obtain rfl : n = m := by omega
        have hwl := hw ((elems.length + rest.length) * P.bytesOf e) (by simp [DataW.weights, hu])
        refine .inr ⟨a, len, cap, rfl, ?_, ⟨hl, by omega⟩, fun i hi => ?_⟩
        · refine Nat.le_trans (Nat.mul_le_mul_right _ ?_) hwl
          omega
        · have hx := hel i hi
          have hei : elems[i]? = some (elems[i]'(by omega)) := List.getElem?_eq_getElem (by omega)
          rw [hei] at hx
          obtain ⟨cs', hc, ht⟩ := Option.bind_eq_some_iff.1 hx
          obtain ⟨_, hcl, hat⟩ := World.cells?_some hc
          refine ⟨cs', hcl, fun j u hu => ?_, reads_of n e cs' _ ht (fun k hk => hw k ?_) ?_⟩
          · have hj : j < P.cellsOf e := by
              have := (List.getElem?_eq_some_iff.1 hu).1
              omega
            rw [← Go.Deep.add_add, hat j hj, hu]
          · simp only [DataW.weights, hu, List.mem_cons, List.mem_append]
            exact .inr (.inl (weights_mem_all (List.mem_map.2 ⟨_, List.getElem_mem (by omega), rfl⟩) k hk))
          · refine hbk.imp (fun hb => Nat.le_trans ?_ hb) id
            simp only [Rows.uptoBulk]
            exact Nat.le_trans (bulk_part (List.mem_map.2 ⟨_, List.getElem_mem (by omega), rfl⟩)) (Nat.le_trans (Nat.le_add_right _ _) (Nat.le_succ _))
    · rename_i fs hu
      obtain ⟨xs, m, hm, rfl, hl, hlen, hf⟩ := DataW.trod_struct hu h
      obtain rfl : n = m := by omega
      refine ⟨hl, fun i f hfi => ?_⟩
      have hx := hf i f hfi
      have hi : i < fs.size := (Array.getElem?_eq_some_iff.1 hfi).1
      have hxi : xs[i]? = some (xs[i]'(by omega)) := List.getElem?_eq_getElem (by omega)
      rw [hxi] at hx
      refine reads_of n f.type _ _ hx (fun k hk => hw k ?_) ?_
      · simp only [DataW.weights, hu]
        refine weights_mem_each (i := i) (t := f.type) (d := (xs[i]'(by omega)).1) ?_ ?_ k hk
        · rw [List.getElem?_map, Array.getElem?_toList, hfi]; rfl
        · rw [List.getElem?_map, hxi]; rfl
      · refine hbk.imp (fun hb => Nat.le_trans ?_ hb) id
        simp only [Rows.uptoBulk]
        exact Nat.le_trans (bulk_part (List.mem_map.2 ⟨_, List.getElem_mem (by omega), rfl⟩)) (Nat.le_succ _)
    · trivial
theorem fine_of {t : TypeId} {ts : List TypeId} {v : Value} {d : DataW H} {p : List MemPlace} (h : DataW.Trod enc P w 0 (fun _ => true) true t v d p)
    (hsz : (DataW.weightsEach P (t :: ts) [d]).all (· ≤ reachBytes) = true) (hbk : Rows.uptoBulk d ≤ bnd ∨ reachBytes ≤ bnd) : Fine bnd P w t v.cells.toList := by
  obtain ⟨n, hn⟩ := h
  refine ⟨n, reads_of n t _ _ hn (fun k hk => ?_) hbk⟩
  have := List.all_eq_true.1 hsz k (by simp only [DataW.weightsEach, List.mem_append]; exact .inl hk)
  simpa using this
end
theorem list_of {α : Type} (d : α) {Q : Nat → α → Prop} : ∀ (n : Nat), (∀ i, i < n → ∃ a, Q i a) → ∃ l : List α, l.length = n ∧ ∀ i, i < n → Q i (l.getD i d)
  | 0, _ => ⟨[], rfl, fun i hi => absurd hi (by omega)⟩
  | n + 1, h => by
    obtain ⟨l, hl, hq⟩ := list_of d n fun i hi => h i (by omega)
    obtain ⟨a, ha⟩ := h n (by omega)
    refine ⟨l ++ [a], by simp [hl], fun i hi => ?_⟩
    by_cases e : i = n
    · subst e; subst hl; simpa [List.getD] using ha
    · have := hq i (by omega)
      simp only [List.getD, List.getElem?_append_left (show i < l.length by omega)] at this ⊢
      exact this
theorem i64_bd {m : Int} (h : (Lit.int .i64 m).wf = true) : -9223372036854775808 ≤ m ∧ m ≤ 9223372036854775807 := by
  simp [Lit.wf] at h
  exact ⟨Int.le_trans (by decide) h.1, h.2⟩
theorem arg_fine {bnd : Nat} {H : Type} {enc : TypeId × Value → H} {P : Program} {W : World} {r : Reach} {b0 : Nat} {t : TypeId} {ts : List TypeId} {fs : Array Field} {v0 : Value} {d0 : DataW H} {p : List MemPlace} (hu : P.underlying t = some (.struct fs)) (hv : Value.okWide P W r b0 t v0)
    (h : DataW.Trod enc P W 0 (fun _ => true) true t v0 d0 p) (hsz : (DataW.weightsEach P (t :: ts) [d0]).all (· ≤ reachBytes) = true) (hbk : Rows.uptoBulk d0 ≤ bnd ∨ reachBytes ≤ bnd) : ∃ cs : List Value, v0 = .agg cs.toArray ∧ Fine bnd P W t cs := by
  obtain ⟨cs, rfl, _⟩ := okWide_struct hu hv
  exact ⟨cs.toList, by simp, fine_of h hsz hbk⟩
end RowF
end
section
open Go.ChangeShapes Go.WideShapes Go.RowKit
namespace Row
structure ActG where
  doo : Int
  i : Int
  k : Int
  n : Int
  a : Look
  v : Value
  r : List Cl
def actVals (t : ActG) : List Value := [.int .i64 t.doo, .int .i64 t.i, .int .i64 t.k, .int .i64 t.n, .int .i64 t.a.fg, .int .i64 t.a.bg, .int .i64 t.a.flags, t.v]
def noAct : ActG := ⟨0, 0, 0, 0, ⟨0, 0, 0⟩, .slice none 0 0, []⟩
def I64 (n : Int) : Prop := -9223372036854775808 ≤ n ∧ n ≤ 9223372036854775807
def ActFits (t : ActG) : Prop := I64 t.doo ∧ I64 t.i ∧ I64 t.k ∧ I64 t.n
def Texted (bnd : Nat) (l : List Cl) : Prop := l.length ≤ 140737488355328 ∧ ∀ i, i < l.length → (g l i).comb.length ≤ bnd
def Acts (bnd : Nat) (w : World) (x : Value) (l : List ActG) : Prop := Recs w x 8 l.length (l.map actVals) ∧ ∀ k, k < l.length → Rm w (l.getD k noAct).v (l.getD k noAct).r ∧ Texted bnd (l.getD k noAct).r ∧ ActFits (l.getD k noAct)
theorem Acts.kept {bnd : Nat} {w w' : World} {x : Value} {l : List ActG} (h : Acts bnd w x l) (hb : Below w.heap.size w w') : Acts bnd w' x l := ⟨Recs.kept h.1 hb, fun k hk => ⟨(h.2 k hk).1.kept hb, (h.2 k hk).2⟩⟩
theorem Acts.form {bnd : Nat} {w : World} {x : Value} {l : List ActG} (h : Acts bnd w x l) : ∃ A c, x = .slice A l.length c ∧ ∀ k, k < l.length → ∃ ad, A = some ad ∧ At w (ad.add (k * 8)) (actVals (l.getD k noAct)) := by
  obtain ⟨A, c, rfl, hf⟩ := Recs.form h.1
  refine ⟨A, c, rfl, fun k hk => ?_⟩
  obtain ⟨ad, rfl, ha⟩ := hf k hk
  refine ⟨ad, rfl, ?_⟩
  have e : (l.map actVals).getD k [] = actVals (l.getD k noAct) := by simp [List.getD, hk]
  rw [e] at ha; exact ha
theorem Tryd.cellsCell : Tryd.prog.cellsOf 63 = 6 := by kernel_rfl
theorem Tryd.bytesCell : Tryd.prog.bytesOf 63 = 56 := by kernel_rfl
theorem Tryd.cellsAttr : Tryd.prog.cellsOf 60 = 3 := by kernel_rfl
theorem Tryd.cellsInt : Tryd.prog.cellsOf 3 = 1 := by kernel_rfl
theorem Tryd.cellsStr : Tryd.prog.cellsOf 9 = 1 := by kernel_rfl
theorem Tryd.cellsCells : Tryd.prog.cellsOf 28 = 1 := by kernel_rfl
theorem Tryd.cellsGrid : Tryd.prog.cellsOf 30 = 3 := by kernel_rfl
open RowF
theorem one_int {bnd : Nat} {W : World} {v : Value} (h : Fine bnd Tryd.prog W 3 [v]) : ∃ n, v = .int .i64 n ∧ I64 n := by
  obtain ⟨x, e, hw⟩ := h.int Tryd.underlying3
  exact ⟨x, by simpa using e, i64_bd hw⟩
theorem open_attr {bnd : Nat} {W : World} {cs : List Value} (h : Fine bnd Tryd.prog W 60 cs) : ∃ a : Look, cs = [.int .i64 a.fg, .int .i64 a.bg, .int .i64 a.flags] := by
  have hl := h.len Tryd.underlying60
  rw [Tryd.cellsAttr] at hl
  match cs, hl with
  | [a, b, c], _ =>
    obtain ⟨x, rfl, _⟩ := one_int (h.part Tryd.underlying60 0 rfl rfl rfl Tryd.cellsInt : Fine bnd Tryd.prog W 3 [a])
    obtain ⟨y, rfl, _⟩ := one_int (h.part Tryd.underlying60 1 rfl rfl rfl Tryd.cellsInt : Fine bnd Tryd.prog W 3 [b])
    obtain ⟨z, rfl, _⟩ := one_int (h.part Tryd.underlying60 2 rfl rfl rfl Tryd.cellsInt : Fine bnd Tryd.prog W 3 [c])
    exact ⟨⟨x, y, z⟩, rfl⟩
theorem open_cell {bnd : Nat} {W : World} {cs : List Value} (h : Fine bnd Tryd.prog W 63 cs) : ∃ c : Cl, cs = cvals c ∧ c.comb.length ≤ bnd := by
  have hl := h.len Tryd.underlying63
  rw [Tryd.cellsCell] at hl
  match cs, hl with
  | [a, b, c, d, e, f], _ =>
    obtain ⟨x, rfl, _⟩ := one_int (h.part Tryd.underlying63 0 rfl rfl rfl Tryd.cellsInt : Fine bnd Tryd.prog W 3 [a])
    have h1 : Fine bnd Tryd.prog W 9 [b] := h.part Tryd.underlying63 1 rfl rfl rfl Tryd.cellsStr
    obtain ⟨s, e1, hs⟩ := h1.string Tryd.underlying9
    obtain rfl : b = .string s := by simpa using e1
    obtain ⟨y, rfl, _⟩ := one_int (h.part Tryd.underlying63 2 rfl rfl rfl Tryd.cellsInt : Fine bnd Tryd.prog W 3 [c])
    obtain ⟨q, e2⟩ := open_attr (h.part Tryd.underlying63 3 rfl rfl rfl Tryd.cellsAttr : Fine bnd Tryd.prog W 60 [d, e, f])
    obtain ⟨rfl, rfl, rfl⟩ : d = .int .i64 q.fg ∧ e = .int .i64 q.bg ∧ f = .int .i64 q.flags := by simpa using e2
    refine ⟨⟨x, s.data.toList, y, q⟩, ?_, hs⟩
    obtain ⟨⟨l⟩⟩ := s
    rfl
theorem open_cells {bnd : Nat} {W : World} {v : Value} (h : Fine bnd Tryd.prog W 28 [v]) : ∃ l : List Cl, Rm W v l ∧ Texted bnd l := by
  rcases h.slice Tryd.underlying28 with h0 | ⟨a, len, cap, h1, h2, h3, h4⟩
  · obtain rfl : v = .slice none 0 0 := by simpa using h0
    exact ⟨[], Rm.nil W, by simp, fun i hi => absurd hi (by simp)⟩
  · obtain rfl : v = .slice (some a) len cap := by simpa using h1
    obtain ⟨l, hl, hq⟩ := list_of dflt (Q := fun i q => At W (a.add (i * 6)) (cvals q) ∧ q.comb.length ≤ bnd) len fun i hi => by
      obtain ⟨es, g1, g2, g3⟩ := h4 i hi
      obtain ⟨q, rfl, hb⟩ := open_cell g3
      refine ⟨q, fun j u hu => ?_, hb⟩
      have := g2 j u hu
      rw [Tryd.cellsCell] at this
      rw [Go.Deep.add_add]; exact this
    subst hl
    rw [Tryd.bytesCell] at h2
    refine ⟨l, ⟨⟨by simp, cvals_len l, .inr ⟨a, cap, by simp, fun i r hr => ?_⟩⟩, _, _, rfl, h3.1⟩, ?_, fun i hi => (hq i hi).2⟩
    · have hi : i < l.length := by
        have := (List.getElem?_eq_some_iff.1 hr).1
        simpa using this
      have e : r = cvals (l.getD i dflt) := by
        have := hr
        simp [hi] at this
        simp [List.getD, hi, ← this]
      rw [e]; exact (hq i hi).1
    · unfold reachBytes at h2; omega
end Row
end
section
open Go.RowKit
namespace Row
def Weighed (l : List Cl) (t : List ActG) (w : World) (e : Ending) (w' : World) : Prop :=
  ∃ b : Bool, e = .returned (.bool b) ∧ (b = false → l.length ≤ 3000 ∧ t.length ≤ 3000 ∧ ∀ k, k < t.length → (t.getD k noAct).r.length ≤ 3000) ∧ Below w.heap.size w w'
end Row
end
section
open Go.RowKit
namespace Row
theorem empties_ok (w : World) (r c : Nat) {a : Look} (ha : attrOk a = true) : LnsOk w c (List.replicate r (.empty a)) := fun x hx => by rw [(List.mem_replicate.1 hx).2]; exact ha
set_option maxHeartbeats 4000000 in
theorem new_fits (r c : Nat) (a : Look) (w : World) (ha : attrOk a = true) (h1 : 1 ≤ r) (h2 : r ≤ 40) (h3 : 1 ≤ c) (h4 : c ≤ 40) :
    Calls Tryd.prog 54 #[.int .i64 r, .int .i64 c, .agg #[.int .i64 a.fg, .int .i64 a.bg, .int .i64 a.flags]] w fun e w' =>
      ∃ v, e = .returned (.tuple #[.agg #[.int .i64 r, .int .i64 c, v], .int .i64 0]) ∧ OwnCs w' w.heap.size v (news r c a).flatten ∧ Below w.heap.size w w' := by
  have HSD : Hid (sidesOk (r : Int) (c : Int) = true) := Lib.hid ((sidesOk_iff _ _).2 ⟨⟨by omega, by omega⟩, by omega, by omega⟩)
  have HPT := Lib.hid (fun w' => paints_at a true ha w')
  have HEM := Lib.hid (fun w' => empties_any r a w' (by omega))
  have HLA := Lib.hid (fun v w' (k : Sv w' v (List.replicate r (.empty a))) => (show _ from laid_any (List.replicate r (.empty a)) c v w' k (empties_ok w' r c ha) h3 h4 (by rw [List.length_replicate]; exact h2)))
  rw [List.length_replicate, rowsOfL_rep] at HLA
  obtain ⟨res, HRS⟩ : ∃ q, Hid ((news r c a).flatten = q) := ⟨_, Lib.hid rfl⟩
  have HLA : Hid (∀ (v : Value) (w' : World), Sv w' v (List.replicate r (.empty a)) → Calls Tryd.prog 66 #[v, .int .i64 c] w' fun e w'' => ∃ v', e = .returned (.agg #[.int .i64 r, .int .i64 c, v']) ∧ OwnCs w'' w'.heap.size v' res ∧ Below w'.heap.size w' w'') := Lib.hid (by rw [← HRS.out]; exact HLA.out)
  have hW := ((Below.refl w.heap.size w).alloc (Nat.le_refl _) (abox a)).alloc (by simp) (gbox 0 0 (.slice none 0 0))
  have HW := Lib.hid hW
  have HA : Hid (((w.alloc (abox a)).alloc (gbox 0 0 (.slice none 0 0))).heap[w.heap.size]? = some (abox a)) := Lib.hid (old_alloc (new_alloc _ _ _ rfl) _)
  have HZ : Hid (((w.alloc (abox a)).alloc (gbox 0 0 (.slice none 0 0))).heap[w.heap.size + 1]? = some (gbox 0 0 (.slice none 0 0))) := Lib.hid (new_alloc _ _ _ (by simp))
  clear ha hW
  go_enter Tryd.func54, Tryd.ntmps54
  go_wp2_with fail
  refine (sides_at _ _ _ HSD.out _).mono ?_; rintro e w' ⟨rfl, rfl⟩
  go_wp2_with fail
  refine (HPT.out _).mono ?_; rintro e w2 ⟨rfl, hb2⟩
  have HA2 := Lib.hid (Blk.kept HA.out hb2)
  have HZ2 := Lib.hid (Blk.kept HZ.out hb2)
  have HW2 := Lib.hid (HW.out.trans (hb2.mono HW.out.size))
  obtain ⟨k0, k1, k2⟩ := box_cells HA2.out
  clear hb2 HA HZ HW
  go_wp2_with fail
  refine (HEM.out _).mono ?_; rintro e w3 ⟨v3, rfl, ho3, hb3⟩
  have HZ3 := Lib.hid (Blk.kept HZ2.out hb3)
  have HW3 := Lib.hid (HW2.out.trans (hb3.mono HW2.out.size))
  have HS3 := Lib.hid ho3.sv
  clear hb3 ho3 k0 k1 k2
  go_wp2_with fail
  refine (HLA.out _ _ HS3.out).mono ?_; rintro e w7 ⟨v7, rfl, ho7, hb7⟩
  obtain ⟨A8, e8, rfl⟩ := own_shape ho7
  have HZ7 := Lib.hid (Blk.kept HZ3.out hb7)
  have HW7 := Lib.hid (HW3.out.trans (hb7.mono HW3.out.size))
  have HO7 := Lib.hid (ho7.low (show w.heap.size + 2 ≤ w3.heap.size from Blk.lt HZ3.out))
  have z0 : w7.cell? ⟨w.heap.size + 1, 0, none⟩ = some (.int .i64 0) := Blk.cell HZ7.out 0
  have z1 : w7.cell? ⟨w.heap.size + 1, 1, none⟩ = some (.int .i64 0) := Blk.cell HZ7.out 1
  have z2 : w7.cell? ⟨w.heap.size + 1, 2, none⟩ = some (.slice none 0 0) := Blk.cell HZ7.out 2
  have y0 : w7.frozen? ⟨w.heap.size + 1, 0, none⟩ = false := Blk.free HZ7.out 0
  have y1 : w7.frozen? ⟨w.heap.size + 1, 1, none⟩ = false := Blk.free HZ7.out 1
  have y2 : w7.frozen? ⟨w.heap.size + 1, 2, none⟩ = false := Blk.free HZ7.out 2
  have HF := Lib.hid (gput_box HZ7.out r c (.slice A8 res.length e8))
  have HO8 : Hid (OwnCs (gput w7 (w.heap.size + 1) r c (.slice A8 res.length e8)) (w.heap.size + 2) (.slice A8 res.length e8) res) := Lib.hid (gput_own HO7.out (Nat.lt_succ_self _) _ _ _)
  have HB8 : Hid (Below w.heap.size w (gput w7 (w.heap.size + 1) r c (.slice A8 res.length e8))) := Lib.hid (gput_below HW7.out (by omega) _ _ _)
  clear ho7 hb7
  go_wp2_with fail
  show bodyPost _ _ _ _ _ (gput w7 (w.heap.size + 1) r c (.slice A8 res.length e8))
  clear z0 z1 z2 y0 y1 y2
  generalize gput w7 (w.heap.size + 1) r c (.slice A8 res.length e8) = wF at HF HO8 HB8 ⊢
  have z0 : wF.cell? ⟨w.heap.size + 1, 0, none⟩ = some (.int .i64 r) := Blk.cell HF.out 0
  have z1 : wF.cell? ⟨w.heap.size + 1, 1, none⟩ = some (.int .i64 c) := Blk.cell HF.out 1
  have z2 : wF.cell? ⟨w.heap.size + 1, 2, none⟩ = some (.slice A8 res.length e8) := Blk.cell HF.out 2
  exact bodyPost_ret (v := .tuple #[.agg #[.int .i64 r, .int .i64 c, .slice A8 res.length e8], .int .i64 0]) (by simp [results, Tryd.results54, go_sem, z0, z1, z2]) rfl ⟨_, rfl, by rw [HRS.out]; exact HO8.out.low (by omega), HB8.out⟩
end Row
end
end Go.Proofs.YtjcfbeiljdohcaaDoor
