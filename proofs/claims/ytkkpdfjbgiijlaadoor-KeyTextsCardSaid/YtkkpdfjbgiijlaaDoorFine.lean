/- An argument of plain data, read one level at a time: numbers, bools, texts, slices, structs; kept where only new blocks came. -/
import Derived.Test.YtkkpdfjbgiijlaaDoorLaw
import Derived.Test.YtkkpdfjbgiijlaaDoorSrc
import Derived.Deep.Slices
namespace Go.Proofs.YtkkpdfjbgiijlaaDoor
open Go.ChangeShapes Go.WideShapes Go.RowKit Go.Deep

/-- These cells hold data of type t, within the form's reach. -/
def Reads (P : Program) (w : World) : Nat → TypeId → List Value → Prop
  | 0, _, _ => False
  | n + 1, t, cs => match P.underlying t with
    | some (.int k) => ∃ m, cs = [.int k m] ∧ (Lit.int k m).wf = true
    | some .bool => ∃ b, cs = [.bool b]
    | some .string => ∃ s : ByteArray, cs = [.string s] ∧ s.size ≤ reachBytes
    | some (.slice e) => cs = [.slice none 0 0] ∨ ∃ a len cap, cs = [.slice (some a) len cap] ∧ len * P.bytesOf e ≤ reachBytes ∧ (len ≤ cap ∧ len ≤ maxLen) ∧
        ∀ i, i < len → ∃ es : List Value, es.length = P.cellsOf e ∧ (∀ j u, es[j]? = some u → w.cell? (a.add (i * P.cellsOf e + j)) = some u) ∧ Reads P w n e es
    | some (.struct fs) => cs.length = P.cellsOf t ∧ ∀ (i : Nat) (f : Field), fs[i]? = some f → Reads P w n f.type ((cs.drop f.offset).take (P.cellsOf f.type))
    | _ => True
def Fine (P : Program) (w : World) (t : TypeId) (cs : List Value) : Prop := ∃ n, Reads P w n t cs

section
variable {P : Program} {w w' : World} {t e : TypeId} {cs : List Value}
theorem Reads.kept (hb : Below w.heap.size w w') : ∀ (n : Nat) (t : TypeId) (cs : List Value), Reads P w n t cs → Reads P w' n t cs
  | 0, _, _, h => h
  | n + 1, t, cs, h => by
    unfold Reads at h ⊢
    revert h
    split <;> intro h
    · exact h
    · exact h
    · exact h
    · rcases h with h | ⟨a, len, cap, h1, h2, h3, h4⟩
      · exact .inl h
      · exact .inr ⟨a, len, cap, h1, h2, h3, fun i hi => by
          obtain ⟨es, g1, g2, g3⟩ := h4 i hi
          exact ⟨es, g1, fun j u hu => cell_kept hb (g2 j u hu), Reads.kept hb n _ es g3⟩⟩
    · exact ⟨h.1, fun i f hf => Reads.kept hb n _ _ (h.2 i f hf)⟩
    · trivial
theorem Fine.kept (h : Fine P w t cs) (hb : Below w.heap.size w w') : Fine P w' t cs := by
  obtain ⟨n, h⟩ := h; exact ⟨n, Reads.kept hb n t cs h⟩
theorem Fine.int {k : IntKind} (hu : P.underlying t = some (.int k)) (h : Fine P w t cs) : ∃ m, cs = [.int k m] ∧ (Lit.int k m).wf = true := by
  obtain ⟨n, h⟩ := h
  cases n with
  | zero => exact h.elim
  | succ n => simpa only [Reads, hu] using h
theorem Fine.bool (hu : P.underlying t = some .bool) (h : Fine P w t cs) : ∃ b, cs = [.bool b] := by
  obtain ⟨n, h⟩ := h
  cases n with
  | zero => exact h.elim
  | succ n => simpa only [Reads, hu] using h
theorem Fine.string (hu : P.underlying t = some .string) (h : Fine P w t cs) : ∃ s : ByteArray, cs = [.string s] ∧ s.size ≤ reachBytes := by
  obtain ⟨n, h⟩ := h
  cases n with
  | zero => exact h.elim
  | succ n => simpa only [Reads, hu] using h
theorem Fine.slice (hu : P.underlying t = some (.slice e)) (h : Fine P w t cs) : cs = [.slice none 0 0] ∨ ∃ a len cap, cs = [.slice (some a) len cap] ∧ len * P.bytesOf e ≤ reachBytes ∧ (len ≤ cap ∧ len ≤ maxLen) ∧
    ∀ i, i < len → ∃ es : List Value, es.length = P.cellsOf e ∧ (∀ j u, es[j]? = some u → w.cell? (a.add (i * P.cellsOf e + j)) = some u) ∧ Fine P w e es := by
  obtain ⟨n, h⟩ := h
  cases n with
  | zero => exact h.elim
  | succ n =>
    simp only [Reads, hu] at h
    rcases h with h | ⟨a, len, cap, h1, h2, h3, h4⟩
    · exact .inl h
    · exact .inr ⟨a, len, cap, h1, h2, h3, fun i hi => by
        obtain ⟨es, g1, g2, g3⟩ := h4 i hi
        exact ⟨es, g1, g2, n, g3⟩⟩
theorem Fine.len {fs : Array Field} (hu : P.underlying t = some (.struct fs)) (h : Fine P w t cs) : cs.length = P.cellsOf t := by
  obtain ⟨n, h⟩ := h
  cases n with
  | zero => exact h.elim
  | succ n => simp only [Reads, hu] at h; exact h.1
theorem Fine.field {fs : Array Field} (hu : P.underlying t = some (.struct fs)) (h : Fine P w t cs) (i : Nat) {f : Field} (hf : fs[i]? = some f) : Fine P w f.type ((cs.drop f.offset).take (P.cellsOf f.type)) := by
  obtain ⟨n, h⟩ := h
  cases n with
  | zero => exact h.elim
  | succ n => simp only [Reads, hu] at h; exact ⟨n, h.2 i f hf⟩
theorem Fine.part {fs : Array Field} (hu : P.underlying t = some (.struct fs)) (h : Fine P w t cs) (i : Nat) {f : Field} {t' : TypeId} {o c : Nat} (hf : fs[i]? = some f) (ht : f.type = t') (ho : f.offset = o) (hc : P.cellsOf t' = c) : Fine P w t' ((cs.drop o).take c) := by
  subst ht; subst ho; subst hc; exact h.field hu i hf
end

section
variable {H : Type} {enc : TypeId × Value → H} {P : Program} {w : World}
theorem weights_mem_all {e : TypeId} : ∀ {l : List (DataW H)} {d : DataW H}, d ∈ l → ∀ n ∈ d.weights P e, n ∈ DataW.weightsAll P e l
  | x :: r, d, h, n, hn => by
    simp only [DataW.weightsAll, List.mem_append]
    cases List.mem_cons.1 h with
    | inl e => subst e; exact .inl hn
    | inr e => exact .inr (weights_mem_all e n hn)
theorem weights_mem_each : ∀ {ts : List TypeId} {l : List (DataW H)} {i : Nat} {t : TypeId} {d : DataW H}, ts[i]? = some t → l[i]? = some d → ∀ n ∈ d.weights P t, n ∈ DataW.weightsEach P ts l
  | [], _, i, _, _, ht, _, _, _ => by simp at ht
  | _ :: _, [], i, _, _, _, hd, _, _ => by simp at hd
  | t' :: ts, d' :: l, 0, t, d, ht, hd, n, hn => by
    obtain rfl : t' = t := by simpa using ht
    obtain rfl : d' = d := by simpa using hd
    simp only [DataW.weightsEach, List.mem_append]; exact .inl hn
  | t' :: ts, d' :: l, i + 1, t, d, ht, hd, n, hn => by
    simp only [DataW.weightsEach, List.mem_append]
    exact .inr (weights_mem_each (i := i) (by simpa using ht) (by simpa using hd) n hn)
/-- What the form reads is fine. -/
theorem reads_of : ∀ (n : Nat) (t : TypeId) (cs : List Value) (y : DataW H × List MemPlace), DataW.trod enc P w 0 (fun _ => true) true n t cs = some y → (∀ k ∈ y.1.weights P t, k ≤ reachBytes) → Reads P w n t cs
  | 0, t, cs, y, h, _ => by simp [DataW.trod] at h
  | n + 1, t, cs, y, h, hw => by
    unfold Reads
    split
    · rename_i k hu
      obtain ⟨m, h1, _, h2⟩ := DataW.trod_int hu h
      exact ⟨m, h1, h2⟩
    · rename_i hu
      obtain ⟨b, h1, _⟩ := DataW.trod_bool hu h
      exact ⟨b, h1⟩
    · rename_i hu
      obtain ⟨s, h1, h2, _⟩ := DataW.trod_string hu h
      refine ⟨s, h1, ?_⟩
      subst h2
      have := hw s.data.toList.length (by simp [DataW.weights])
      simpa using this
    · rename_i e hu
      rcases DataW.trod_slice hu h with ⟨h0, _⟩ | ⟨a, len, cap, elems, rest, m, hm, rfl, rfl, hb, hl, hmx, hlen, hel, hsp, hns⟩
      · exact .inl h0
      · obtain rfl : n = m := by omega
        have hwl := hw ((elems.length + rest.length) * P.bytesOf e) (by simp [DataW.weights, hu])
        refine .inr ⟨a, len, cap, rfl, ?_, ⟨hl, by omega⟩, fun i hi => ?_⟩
        · refine Nat.le_trans (Nat.mul_le_mul_right _ ?_) hwl
          omega
        · have hx := hel i hi
          have hei : elems[i]? = some (elems[i]'(by omega)) := List.getElem?_eq_getElem (by omega)
          rw [hei] at hx
          obtain ⟨cs', hc, ht⟩ := Option.bind_eq_some_iff.1 hx
          obtain ⟨_, hcl, hat⟩ := World.cells?_some hc
          refine ⟨cs', hcl, fun j u hu => ?_, reads_of n e cs' _ ht fun k hk => hw k ?_⟩
          · have hj : j < P.cellsOf e := by
              have := (List.getElem?_eq_some_iff.1 hu).1
              omega
            rw [← Go.Deep.add_add, hat j hj, hu]
          · simp only [DataW.weights, hu, List.mem_cons, List.mem_append]
            exact .inr (.inl (weights_mem_all (List.mem_map.2 ⟨_, List.getElem_mem (by omega), rfl⟩) k hk))
    · rename_i fs hu
      obtain ⟨xs, m, hm, rfl, hl, hlen, hf⟩ := DataW.trod_struct hu h
      obtain rfl : n = m := by omega
      refine ⟨hl, fun i f hfi => ?_⟩
      have hx := hf i f hfi
      have hi : i < fs.size := (Array.getElem?_eq_some_iff.1 hfi).1
      have hxi : xs[i]? = some (xs[i]'(by omega)) := List.getElem?_eq_getElem (by omega)
      rw [hxi] at hx
      refine reads_of n f.type _ _ hx fun k hk => hw k ?_
      simp only [DataW.weights, hu]
      refine weights_mem_each (i := i) (t := f.type) (d := (xs[i]'(by omega)).1) ?_ ?_ k hk
      · rw [List.getElem?_map, Array.getElem?_toList, hfi]; rfl
      · rw [List.getElem?_map, hxi]; rfl
    · trivial
theorem fine_of {t : TypeId} {ts : List TypeId} {v : Value} {d : DataW H} {p : List MemPlace} (h : DataW.Trod enc P w 0 (fun _ => true) true t v d p)
    (hsz : (DataW.weightsEach P (t :: ts) [d]).all (· ≤ reachBytes) = true) : Fine P w t v.cells.toList := by
  obtain ⟨n, hn⟩ := h
  refine ⟨n, reads_of n t _ _ hn fun k hk => ?_⟩
  have := List.all_eq_true.1 hsz k (by simp only [DataW.weightsEach, List.mem_append]; exact .inl hk)
  simpa using this
end
/-- One of each: a list of them. -/
theorem list_of {α : Type} (d : α) {Q : Nat → α → Prop} : ∀ (n : Nat), (∀ i, i < n → ∃ a, Q i a) → ∃ l : List α, l.length = n ∧ ∀ i, i < n → Q i (l.getD i d)
  | 0, _ => ⟨[], rfl, fun i hi => absurd hi (by omega)⟩
  | n + 1, h => by
    obtain ⟨l, hl, hq⟩ := list_of d n fun i hi => h i (by omega)
    obtain ⟨a, ha⟩ := h n (by omega)
    refine ⟨l ++ [a], by simp [hl], fun i hi => ?_⟩
    by_cases e : i = n
    · subst e; subst hl; simpa [List.getD] using ha
    · have := hq i (by omega)
      simp only [List.getD, List.getElem?_append_left (show i < l.length by omega)] at this ⊢
      exact this
theorem i64_bd {m : Int} (h : (Lit.int .i64 m).wf = true) : -9223372036854775808 ≤ m ∧ m ≤ 9223372036854775807 := by
  simp [Lit.wf] at h
  exact ⟨Int.le_trans (by decide) h.1, h.2⟩
/-- A slice of numbers that came in. -/
theorem Fine.numbers {w : World} {t e : TypeId} {v : Value} {P : Program} (hu : P.underlying t = some (.slice e)) (he : P.underlying e = some (.int .i64)) (hc : P.cellsOf e = 1) (hb : P.bytesOf e = 8) (h : Fine P w t [v]) :
    ∃ xs : List Int, Src w v xs.length (ints xs) ∧ xs.length * 8 ≤ reachBytes ∧ ∀ i, i < xs.length → -9223372036854775808 ≤ xs.getD i 0 ∧ xs.getD i 0 ≤ 9223372036854775807 := by
  rcases h.slice hu with h0 | ⟨a, len, cap, h1, h2, _, h4⟩
  · obtain rfl : v = .slice none 0 0 := by simpa using h0
    exact ⟨[], ⟨rfl, .inl ⟨rfl, rfl⟩⟩, by simp, fun i hi => absurd hi (by simp)⟩
  · obtain rfl : v = .slice (some a) len cap := by simpa using h1
    obtain ⟨xs, hl, hq⟩ := list_of (0 : Int) (Q := fun i m => w.cell? (a.add i) = some (.int .i64 m) ∧ (Lit.int .i64 m).wf = true) len fun i hi => by
      obtain ⟨es, g1, g2, g3⟩ := h4 i hi
      obtain ⟨m, rfl, hm⟩ := g3.int he
      refine ⟨m, ?_, hm⟩
      have := g2 0 _ rfl
      rwa [hc, Nat.mul_one, Nat.add_zero] at this
    subst hl
    rw [hb] at h2
    refine ⟨xs, ⟨ints_length _, .inr ⟨a, cap, rfl, fun j u hu => ?_⟩⟩, h2, fun i hi => i64_bd (hq i hi).2⟩
    have hj : j < xs.length := by
      have := (List.getElem?_eq_some_iff.1 hu).1
      rwa [ints_length] at this
    rw [ints_get hj] at hu
    rw [(hq j hj).1, hu]
/-- A slice of numbers that came in, and how much room it has. -/
theorem Fine.numbersC {w : World} {t e : TypeId} {v : Value} {P : Program} (hu : P.underlying t = some (.slice e)) (he : P.underlying e = some (.int .i64)) (hc : P.cellsOf e = 1) (hb : P.bytesOf e = 8) (h : Fine P w t [v]) :
    ∃ xs : List Int, (Src w v xs.length (ints xs) ∧ ∃ A c, v = .slice A xs.length c ∧ xs.length ≤ c) ∧ xs.length * 8 ≤ reachBytes ∧ ∀ i, i < xs.length → -9223372036854775808 ≤ xs.getD i 0 ∧ xs.getD i 0 ≤ 9223372036854775807 := by
  rcases h.slice hu with h0 | ⟨a, len, cap, h1, h2, h3, h4⟩
  · obtain rfl : v = .slice none 0 0 := by simpa using h0
    exact ⟨[], ⟨⟨rfl, .inl ⟨rfl, rfl⟩⟩, none, 0, rfl, by simp⟩, by simp, fun i hi => absurd hi (by simp)⟩
  · obtain rfl : v = .slice (some a) len cap := by simpa using h1
    obtain ⟨xs, hl, hq⟩ := list_of (0 : Int) (Q := fun i m => w.cell? (a.add i) = some (.int .i64 m) ∧ (Lit.int .i64 m).wf = true) len fun i hi => by
      obtain ⟨es, g1, g2, g3⟩ := h4 i hi
      obtain ⟨m, rfl, hm⟩ := g3.int he
      refine ⟨m, ?_, hm⟩
      have := g2 0 _ rfl
      rwa [hc, Nat.mul_one, Nat.add_zero] at this
    subst hl
    rw [hb] at h2
    refine ⟨xs, ⟨⟨ints_length _, .inr ⟨a, cap, rfl, fun j u hu => ?_⟩⟩, some a, cap, rfl, h3.1⟩, h2, fun i hi => i64_bd (hq i hi).2⟩
    have hj : j < xs.length := by
      have := (List.getElem?_eq_some_iff.1 hu).1
      rwa [ints_length] at this
    rw [ints_get hj] at hu
    rw [(hq j hj).1, hu]
/-- A slice of texts that came in. -/
theorem Fine.texts {w : World} {t e : TypeId} {v : Value} {P : Program} (hu : P.underlying t = some (.slice e)) (he : P.underlying e = some .string) (hc : P.cellsOf e = 1) (hb : P.bytesOf e = 16) (h : Fine P w t [v]) :
    ∃ ss : List ByteArray, Src w v ss.length (ss.map Value.string) ∧ ss.length * 16 ≤ reachBytes ∧ ∀ i, i < ss.length → (ss.getD i ByteArray.empty).size ≤ reachBytes := by
  rcases h.slice hu with h0 | ⟨a, len, cap, h1, h2, _, h4⟩
  · obtain rfl : v = .slice none 0 0 := by simpa using h0
    exact ⟨[], ⟨rfl, .inl ⟨rfl, rfl⟩⟩, by simp, fun i hi => absurd hi (by simp)⟩
  · obtain rfl : v = .slice (some a) len cap := by simpa using h1
    obtain ⟨ss, hl, hq⟩ := list_of ByteArray.empty (Q := fun i m => w.cell? (a.add i) = some (.string m) ∧ m.size ≤ reachBytes) len fun i hi => by
      obtain ⟨es, g1, g2, g3⟩ := h4 i hi
      obtain ⟨m, rfl, hm⟩ := g3.string he
      refine ⟨m, ?_, hm⟩
      have := g2 0 _ rfl
      rwa [hc, Nat.mul_one, Nat.add_zero] at this
    subst hl
    rw [hb] at h2
    refine ⟨ss, ⟨List.length_map _, .inr ⟨a, cap, rfl, fun j u hu => ?_⟩⟩, h2, fun i hi => (hq i hi).2⟩
    have hj : j < ss.length := by
      have := (List.getElem?_eq_some_iff.1 hu).1
      rwa [List.length_map] at this
    rw [(hq j hj).1, ← hu]
    simp [List.getD, hj]
/-- The one argument of a law, fine. -/
theorem arg_fine {H : Type} {enc : TypeId × Value → H} {P : Program} {W : World} {r : Reach} {b0 : Nat} {t : TypeId} {ts : List TypeId} {fs : Array Field} {v0 : Value} {d0 : DataW H} {p : List MemPlace} (hu : P.underlying t = some (.struct fs)) (hv : Value.okWide P W r b0 t v0)
    (h : DataW.Trod enc P W 0 (fun _ => true) true t v0 d0 p) (hsz : (DataW.weightsEach P (t :: ts) [d0]).all (· ≤ reachBytes) = true) : ∃ cs : List Value, v0 = .agg cs.toArray ∧ Fine P W t cs := by
  obtain ⟨cs, rfl, _⟩ := okWide_struct hu hv
  exact ⟨cs.toList, by simp, fine_of h hsz⟩
end Go.Proofs.YtkkpdfjbgiijlaaDoor
