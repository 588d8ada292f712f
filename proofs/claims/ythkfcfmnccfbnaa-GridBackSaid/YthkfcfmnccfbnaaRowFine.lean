/- An argument of plain data, read one level at a time, its texts within a bound: the form's reach, or the bulk of what came in. -/
import Derived.Test.YthkfcfmnccfbnaaLaw
import Derived.Test.YthkfcfmnccfbnaaSrc
import Derived.Deep.Slices
namespace Go.Proofs.Ythkfcfmnccfbnaa
open Go.ChangeShapes Go.WideShapes Go.RowKit Go.Deep

namespace RowF
/-- These cells hold data of type t, within the form's reach. -/
def Reads (bnd : Nat) (P : Program) (w : World) : Nat → TypeId → List Value → Prop
  | 0, _, _ => False
  | n + 1, t, cs => match P.underlying t with
    | some (.int k) => ∃ m, cs = [.int k m] ∧ (Lit.int k m).wf = true
    | some .bool => ∃ b, cs = [.bool b]
    | some .string => ∃ s : ByteArray, cs = [.string s] ∧ s.size ≤ bnd
    | some (.slice e) => cs = [.slice none 0 0] ∨ ∃ a len cap, cs = [.slice (some a) len cap] ∧ len * P.bytesOf e ≤ reachBytes ∧ (len ≤ cap ∧ len ≤ maxLen) ∧
        ∀ i, i < len → ∃ es : List Value, es.length = P.cellsOf e ∧ (∀ j u, es[j]? = some u → w.cell? (a.add (i * P.cellsOf e + j)) = some u) ∧ Reads bnd P w n e es
    | some (.struct fs) => cs.length = P.cellsOf t ∧ ∀ (i : Nat) (f : Field), fs[i]? = some f → Reads bnd P w n f.type ((cs.drop f.offset).take (P.cellsOf f.type))
    | _ => True
def Fine (bnd : Nat) (P : Program) (w : World) (t : TypeId) (cs : List Value) : Prop := ∃ n, Reads bnd P w n t cs

section
variable {bnd : Nat} {P : Program} {w w' : World} {t e : TypeId} {cs : List Value}
theorem Reads.kept (hb : Below w.heap.size w w') : ∀ (n : Nat) (t : TypeId) (cs : List Value), Reads bnd P w n t cs → Reads bnd P w' n t cs
  | 0, _, _, h => h
  | n + 1, t, cs, h => by
    unfold Reads at h ⊢
    revert h
    split <;> intro h
    · exact h
    · exact h
    · exact h
    · rcases h with h | ⟨a, len, cap, h1, h2, h3, h4⟩
      · exact .inl h
      · exact .inr ⟨a, len, cap, h1, h2, h3, fun i hi => by
          obtain ⟨es, g1, g2, g3⟩ := h4 i hi
          exact ⟨es, g1, fun j u hu => cell_kept hb (g2 j u hu), Reads.kept hb n _ es g3⟩⟩
    · exact ⟨h.1, fun i f hf => Reads.kept hb n _ _ (h.2 i f hf)⟩
    · trivial
theorem Fine.kept (h : Fine bnd P w t cs) (hb : Below w.heap.size w w') : Fine bnd P w' t cs := by
  obtain ⟨n, h⟩ := h; exact ⟨n, Reads.kept hb n t cs h⟩
theorem Fine.int {k : IntKind} (hu : P.underlying t = some (.int k)) (h : Fine bnd P w t cs) : ∃ m, cs = [.int k m] ∧ (Lit.int k m).wf = true := by
  obtain ⟨n, h⟩ := h
  cases n with
  | zero => exact h.elim
  | succ n => simpa only [Reads, hu] using h
theorem Fine.bool (hu : P.underlying t = some .bool) (h : Fine bnd P w t cs) : ∃ b, cs = [.bool b] := by
  obtain ⟨n, h⟩ := h
  cases n with
  | zero => exact h.elim
  | succ n => simpa only [Reads, hu] using h
theorem Fine.string (hu : P.underlying t = some .string) (h : Fine bnd P w t cs) : ∃ s : ByteArray, cs = [.string s] ∧ s.size ≤ bnd := by
  obtain ⟨n, h⟩ := h
  cases n with
  | zero => exact h.elim
  | succ n => simpa only [Reads, hu] using h
theorem Fine.slice (hu : P.underlying t = some (.slice e)) (h : Fine bnd P w t cs) : cs = [.slice none 0 0] ∨ ∃ a len cap, cs = [.slice (some a) len cap] ∧ len * P.bytesOf e ≤ reachBytes ∧ (len ≤ cap ∧ len ≤ maxLen) ∧
    ∀ i, i < len → ∃ es : List Value, es.length = P.cellsOf e ∧ (∀ j u, es[j]? = some u → w.cell? (a.add (i * P.cellsOf e + j)) = some u) ∧ Fine bnd P w e es := by
  obtain ⟨n, h⟩ := h
  cases n with
  | zero => exact h.elim
  | succ n =>
    simp only [Reads, hu] at h
    rcases h with h | ⟨a, len, cap, h1, h2, h3, h4⟩
    · exact .inl h
    · exact .inr ⟨a, len, cap, h1, h2, h3, fun i hi => by
        obtain ⟨es, g1, g2, g3⟩ := h4 i hi
        exact ⟨es, g1, g2, n, g3⟩⟩
theorem Fine.len {fs : Array Field} (hu : P.underlying t = some (.struct fs)) (h : Fine bnd P w t cs) : cs.length = P.cellsOf t := by
  obtain ⟨n, h⟩ := h
  cases n with
  | zero => exact h.elim
  | succ n => simp only [Reads, hu] at h; exact h.1
theorem Fine.field {fs : Array Field} (hu : P.underlying t = some (.struct fs)) (h : Fine bnd P w t cs) (i : Nat) {f : Field} (hf : fs[i]? = some f) : Fine bnd P w f.type ((cs.drop f.offset).take (P.cellsOf f.type)) := by
  obtain ⟨n, h⟩ := h
  cases n with
  | zero => exact h.elim
  | succ n => simp only [Reads, hu] at h; exact ⟨n, h.2 i f hf⟩
theorem Fine.part {fs : Array Field} (hu : P.underlying t = some (.struct fs)) (h : Fine bnd P w t cs) (i : Nat) {f : Field} {t' : TypeId} {o c : Nat} (hf : fs[i]? = some f) (ht : f.type = t') (ho : f.offset = o) (hc : P.cellsOf t' = c) : Fine bnd P w t' ((cs.drop o).take c) := by
  subst ht; subst ho; subst hc; exact h.field hu i hf
end

section
variable {bnd : Nat} {H : Type} {enc : TypeId × Value → H} {P : Program} {w : World}
theorem weights_mem_all {e : TypeId} : ∀ {l : List (DataW H)} {d : DataW H}, d ∈ l → ∀ n ∈ d.weights P e, n ∈ DataW.weightsAll P e l
  | x :: r, d, h, n, hn => by
    simp only [DataW.weightsAll, List.mem_append]
    cases List.mem_cons.1 h with
    | inl e => subst e; exact .inl hn
    | inr e => exact .inr (weights_mem_all e n hn)
theorem weights_mem_each : ∀ {ts : List TypeId} {l : List (DataW H)} {i : Nat} {t : TypeId} {d : DataW H}, ts[i]? = some t → l[i]? = some d → ∀ n ∈ d.weights P t, n ∈ DataW.weightsEach P ts l
  | [], _, i, _, _, ht, _, _, _ => by simp at ht
  | _ :: _, [], i, _, _, _, hd, _, _ => by simp at hd
  | t' :: ts, d' :: l, 0, t, d, ht, hd, n, hn => by
    obtain rfl : t' = t := by simpa using ht
    obtain rfl : d' = d := by simpa using hd
    simp only [DataW.weightsEach, List.mem_append]; exact .inl hn
  | t' :: ts, d' :: l, i + 1, t, d, ht, hd, n, hn => by
    simp only [DataW.weightsEach, List.mem_append]
    exact .inr (weights_mem_each (i := i) (by simpa using ht) (by simpa using hd) n hn)
theorem bulk_part {d : DataW H} {l : List (DataW H)} (h : d ∈ l) : Rows.uptoBulk d ≤ Rows.uptoBulkAll l := by
  induction l with
  | nil => cases h
  | cons x r ih =>
    simp only [Rows.uptoBulkAll]
    cases List.mem_cons.1 h with
    | inl e => subst e; omega
    | inr e => have := ih e; omega
/-- What the form reads is fine. -/
theorem reads_of : ∀ (n : Nat) (t : TypeId) (cs : List Value) (y : DataW H × List MemPlace), DataW.trod enc P w 0 (fun _ => true) true n t cs = some y → (∀ k ∈ y.1.weights P t, k ≤ reachBytes) → (Rows.uptoBulk y.1 ≤ bnd ∨ reachBytes ≤ bnd) → Reads bnd P w n t cs
  | 0, t, cs, y, h, _, _ => by simp [DataW.trod] at h
  | n + 1, t, cs, y, h, hw, hbk => by
    unfold Reads
    split
    · rename_i k hu
      obtain ⟨m, h1, _, h2⟩ := DataW.trod_int hu h
      exact ⟨m, h1, h2⟩
    · rename_i hu
      obtain ⟨b, h1, _⟩ := DataW.trod_bool hu h
      exact ⟨b, h1⟩
    · rename_i hu
      obtain ⟨s, h1, h2, _⟩ := DataW.trod_string hu h
      refine ⟨s, h1, ?_⟩
      subst h2
      have h3 := hw s.data.toList.length (by simp [DataW.weights])
      have h3 : s.size ≤ reachBytes := h3
      rcases hbk with hb | hb
      · have : Rows.uptoBulk (DataW.lit (H := H) (.string s.data.toList)) = s.size + 1 := by simp [Rows.uptoBulk]
        have hb : Rows.uptoBulk (DataW.lit (H := H) (.string s.data.toList)) ≤ bnd := hb
        omega
      · omega
    · rename_i e hu
      rcases DataW.trod_slice hu h with ⟨h0, _⟩ | ⟨a, len, cap, elems, rest, m, hm, rfl, rfl, hb, hl, hmx, hlen, hel, hsp, hns⟩
      · exact .inl h0
      · obtain rfl : n = m := by omega
        have hwl := hw ((elems.length + rest.length) * P.bytesOf e) (by simp [DataW.weights, hu])
        refine .inr ⟨a, len, cap, rfl, ?_, ⟨hl, by omega⟩, fun i hi => ?_⟩
        · refine Nat.le_trans (Nat.mul_le_mul_right _ ?_) hwl
          omega
        · have hx := hel i hi
          have hei : elems[i]? = some (elems[i]'(by omega)) := List.getElem?_eq_getElem (by omega)
          rw [hei] at hx
          obtain ⟨cs', hc, ht⟩ := Option.bind_eq_some_iff.1 hx
          obtain ⟨_, hcl, hat⟩ := World.cells?_some hc
          refine ⟨cs', hcl, fun j u hu => ?_, reads_of n e cs' _ ht (fun k hk => hw k ?_) ?_⟩
          · have hj : j < P.cellsOf e := by
              have := (List.getElem?_eq_some_iff.1 hu).1
              omega
            rw [← Go.Deep.add_add, hat j hj, hu]
          · simp only [DataW.weights, hu, List.mem_cons, List.mem_append]
            exact .inr (.inl (weights_mem_all (List.mem_map.2 ⟨_, List.getElem_mem (by omega), rfl⟩) k hk))
          · refine hbk.imp (fun hb => Nat.le_trans ?_ hb) id
            simp only [Rows.uptoBulk]
            exact Nat.le_trans (bulk_part (List.mem_map.2 ⟨_, List.getElem_mem (by omega), rfl⟩)) (Nat.le_trans (Nat.le_add_right _ _) (Nat.le_succ _))
    · rename_i fs hu
      obtain ⟨xs, m, hm, rfl, hl, hlen, hf⟩ := DataW.trod_struct hu h
      obtain rfl : n = m := by omega
      refine ⟨hl, fun i f hfi => ?_⟩
      have hx := hf i f hfi
      have hi : i < fs.size := (Array.getElem?_eq_some_iff.1 hfi).1
      have hxi : xs[i]? = some (xs[i]'(by omega)) := List.getElem?_eq_getElem (by omega)
      rw [hxi] at hx
      refine reads_of n f.type _ _ hx (fun k hk => hw k ?_) ?_
      · simp only [DataW.weights, hu]
        refine weights_mem_each (i := i) (t := f.type) (d := (xs[i]'(by omega)).1) ?_ ?_ k hk
        · rw [List.getElem?_map, Array.getElem?_toList, hfi]; rfl
        · rw [List.getElem?_map, hxi]; rfl
      · refine hbk.imp (fun hb => Nat.le_trans ?_ hb) id
        simp only [Rows.uptoBulk]
        exact Nat.le_trans (bulk_part (List.mem_map.2 ⟨_, List.getElem_mem (by omega), rfl⟩)) (Nat.le_succ _)
    · trivial
theorem fine_of {t : TypeId} {ts : List TypeId} {v : Value} {d : DataW H} {p : List MemPlace} (h : DataW.Trod enc P w 0 (fun _ => true) true t v d p)
    (hsz : (DataW.weightsEach P (t :: ts) [d]).all (· ≤ reachBytes) = true) (hbk : Rows.uptoBulk d ≤ bnd ∨ reachBytes ≤ bnd) : Fine bnd P w t v.cells.toList := by
  obtain ⟨n, hn⟩ := h
  refine ⟨n, reads_of n t _ _ hn (fun k hk => ?_) hbk⟩
  have := List.all_eq_true.1 hsz k (by simp only [DataW.weightsEach, List.mem_append]; exact .inl hk)
  simpa using this
end
/-- One of each: a list of them. -/
theorem list_of {α : Type} (d : α) {Q : Nat → α → Prop} : ∀ (n : Nat), (∀ i, i < n → ∃ a, Q i a) → ∃ l : List α, l.length = n ∧ ∀ i, i < n → Q i (l.getD i d)
  | 0, _ => ⟨[], rfl, fun i hi => absurd hi (by omega)⟩
  | n + 1, h => by
    obtain ⟨l, hl, hq⟩ := list_of d n fun i hi => h i (by omega)
    obtain ⟨a, ha⟩ := h n (by omega)
    refine ⟨l ++ [a], by simp [hl], fun i hi => ?_⟩
    by_cases e : i = n
    · subst e; subst hl; simpa [List.getD] using ha
    · have := hq i (by omega)
      simp only [List.getD, List.getElem?_append_left (show i < l.length by omega)] at this ⊢
      exact this
theorem i64_bd {m : Int} (h : (Lit.int .i64 m).wf = true) : -9223372036854775808 ≤ m ∧ m ≤ 9223372036854775807 := by
  simp [Lit.wf] at h
  exact ⟨Int.le_trans (by decide) h.1, h.2⟩
/-- A slice of numbers that came in. -/
theorem arg_fine {bnd : Nat} {H : Type} {enc : TypeId × Value → H} {P : Program} {W : World} {r : Reach} {b0 : Nat} {t : TypeId} {ts : List TypeId} {fs : Array Field} {v0 : Value} {d0 : DataW H} {p : List MemPlace} (hu : P.underlying t = some (.struct fs)) (hv : Value.okWide P W r b0 t v0)
    (h : DataW.Trod enc P W 0 (fun _ => true) true t v0 d0 p) (hsz : (DataW.weightsEach P (t :: ts) [d0]).all (· ≤ reachBytes) = true) (hbk : Rows.uptoBulk d0 ≤ bnd ∨ reachBytes ≤ bnd) : ∃ cs : List Value, v0 = .agg cs.toArray ∧ Fine bnd P W t cs := by
  obtain ⟨cs, rfl, _⟩ := okWide_struct hu hv
  exact ⟨cs.toList, by simp, fine_of h hsz hbk⟩
end RowF
end Go.Proofs.Ythkfcfmnccfbnaa
