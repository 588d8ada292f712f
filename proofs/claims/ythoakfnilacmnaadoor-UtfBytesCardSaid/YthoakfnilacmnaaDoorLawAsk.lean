/- The argument of this seat's laws, a struct of one slice of texts: opened to its texts, with their bounds. -/
import Derived.Test.YthoakfnilacmnaaDoorLaw
namespace Go.Proofs.YthoakfnilacmnaaDoor
open Go.ChangeShapes Go.WideShapes Go.RowKit

theorem Tryd.cellsStr : Tryd.prog.cellsOf 9 = 1 := by kernel_rfl
theorem Tryd.cellsAsk : Tryd.prog.cellsOf 24 = 1 := by kernel_rfl
theorem Tryd.cellsTexts : Tryd.prog.cellsOf 22 = 1 := by kernel_rfl
theorem Tryd.bytesStr : Tryd.prog.bytesOf 9 = 16 := by kernel_rfl
section
variable {H : Type} {enc : TypeId × Value → H} {W : World}
theorem weights_all {P : Program} {e : TypeId} : ∀ {l : List (DataW H)} {d : DataW H}, d ∈ l → ∀ n ∈ d.weights P e, n ∈ DataW.weightsAll P e l
  | x :: r, d, h, n, hn => by
    simp only [DataW.weightsAll, List.mem_append]
    cases List.mem_cons.1 h with
    | inl e => subst e; exact .inl hn
    | inr e => exact .inr (weights_all e n hn)
theorem open_texts {v : Value} {y : DataW H × List MemPlace} {fuel : Nat} (h : DataW.trod enc Tryd.prog W 0 (fun _ => true) true fuel 22 [v] = some y) (hsz : ∀ n ∈ y.1.weights Tryd.prog 22, n ≤ reachBytes) :
    ∃ ss, Strs W v ss ∧ ss.length ≤ 140737488355328 ∧ ∀ k, k < ss.length → (ss.getD k ByteArray.empty).size ≤ 140737488355328 := by
  rcases open_strings Tryd.underlying22 Tryd.underlying9 Tryd.cellsStr h with ⟨hcs, _⟩ | ⟨a, len, cap, ss, hcs, _, hl, _, hz, hx, hcell, _⟩
  · obtain rfl : v = .slice none 0 0 := by simpa using hcs
    exact ⟨[], ⟨rfl, .inl ⟨rfl, rfl⟩⟩, by simp, fun k hk => by simp at hk⟩
  · obtain rfl : v = .slice (some a) len cap := by simpa using hcs
    simp only [if_true] at hz
    have hlen : (ss.take len).length = len := by rw [List.length_take]; omega
    have hget : ∀ k, k < len → (ss.take len).getD k ByteArray.empty = ss.getD k ByteArray.empty := fun k hk => by
      simp [List.getD, List.getElem?_take_of_lt hk]
    rw [hx] at hsz
    refine ⟨ss.take len, ⟨by rw [List.length_map], .inr ⟨a, cap, by rw [hlen], fun j u hu => ?_⟩⟩, ?_, fun k hk => ?_⟩
    · have hj : j < len := by
        have := (List.getElem?_eq_some_iff.1 hu).1
        rw [List.length_map] at this; omega
      rw [hcell j (by omega), ← hget j hj]
      rw [← hu]
      simp [List.getD, show j < ss.length by omega, hj]
    · have := hsz (((strs (H := H) (ss.take len)).length + (strs (H := H) (ss.drop len)).length) * Tryd.prog.bytesOf 9) (by simp [DataW.weights, Tryd.underlying22])
      rw [Tryd.bytesStr] at this
      simp only [strs, List.length_map, List.length_drop, reachBytes] at this
      omega
    · rw [hlen] at hk
      have hmem : (DataW.lit (H := H) (.string (ss.getD k ByteArray.empty).data.toList)) ∈ strs (H := H) (ss.take len) := by
        unfold strs
        refine List.mem_map.2 ⟨ss.getD k ByteArray.empty, ?_, rfl⟩
        rw [← hget k hk]
        have : k < (ss.take len).length := by omega
        simp only [List.getD, List.getElem?_eq_getElem this, Option.getD_some]
        exact List.getElem_mem this
      have := hsz (ss.getD k ByteArray.empty).data.toList.length (by
        simp only [DataW.weights, Tryd.underlying22]
        refine List.mem_cons_of_mem _ (List.mem_append.2 (.inl (weights_all hmem _ ?_)))
        simp [DataW.weights])
      rw [hget k hk]
      simp only [reachBytes] at this
      exact Nat.le_trans this (by decide)
theorem open_ask {b0 : Nat} {ts : List TypeId} {v0 : Value} {d0 : DataW H} {p : List MemPlace} (hv : Value.okWide Tryd.prog W .any b0 24 v0) (h : DataW.Trod enc Tryd.prog W 0 (fun _ => true) true 24 v0 d0 p)
    (hsz : (DataW.weightsEach Tryd.prog (24 :: ts) [d0]).all (· ≤ reachBytes) = true) :
    ∃ x ss, v0 = .agg #[x] ∧ Strs W x ss ∧ ss.length ≤ 140737488355328 ∧ ∀ k, k < ss.length → (ss.getD k ByteArray.empty).size ≤ 140737488355328 := by
  obtain ⟨cs, rfl, hcs⟩ := okWide_struct Tryd.underlying24 hv
  rw [Tryd.cellsAsk] at hcs
  obtain ⟨l⟩ := cs
  match l, hcs with
  | [c0], _ =>
    obtain ⟨fuel, hf⟩ := h
    obtain ⟨y0, n, hx, _, hg⟩ := trod_struct1 Tryd.underlying24 hf
    have hg' : DataW.trod enc Tryd.prog W 0 (fun _ => true) true n 22 [c0] = some y0 := by
      simpa [Value.cells, Tryd.cellsTexts] using hg
    obtain ⟨rfl, rfl⟩ : d0 = .agg [y0.1] ∧ p = y0.2 := by simpa using hx
    obtain ⟨ss, hs, hn, hk⟩ := open_texts hg' (fun n hn => by
      have := List.all_eq_true.1 hsz n (by
        show n ∈ (DataW.agg [y0.1]).weights Tryd.prog 24 ++ DataW.weightsEach Tryd.prog ts []
        refine List.mem_append.2 (.inl ?_)
        simp only [DataW.weights, Tryd.underlying24]
        simpa [DataW.weightsEach] using hn)
      simpa using this)
    exact ⟨c0, ss, rfl, hs, hn, hk⟩
end
end Go.Proofs.YthoakfnilacmnaaDoor
