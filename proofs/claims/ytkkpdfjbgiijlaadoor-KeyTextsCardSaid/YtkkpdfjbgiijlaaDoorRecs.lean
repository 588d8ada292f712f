/- Slices of structs: each element's cells, read where they lie. -/
import Derived.Test.YtkkpdfjbgiijlaaDoorSrc
import Derived.Deep.Slices
import Derived.Deep.Onto
import Derived.StillTailTactics
import Derived.Deep.RegionHeld3
namespace Go.Proofs.YtkkpdfjbgiijlaaDoor
set_option maxRecDepth 100000
open Go.RowKit

/-- These values lie from there on, cell by cell. -/
def At (w : World) (a : Addr) (cs : List Value) : Prop := ∀ j u, cs[j]? = some u → w.cell? (a.add j) = some u
theorem At.kept {w w' : World} {a : Addr} {cs : List Value} (h : At w a cs) (hb : Below w.heap.size w w') : At w' a cs := fun j u hu => cell_kept hb (h j u hu)
theorem At.head {w : World} {a : Addr} {u : Value} {cs : List Value} (h : At w a (u :: cs)) : w.cell? a = some u := by
  have := h 0 u rfl
  simpa [Addr.add] using this
/-- The spelling that a walk gives to the cells behind the first. -/
theorem At.next {w : World} {a : Addr} {cs : List Value} (h : At w a cs) (j : Nat) {u : Value} (hu : cs[j + 1]? = some u) : w.cell? { block := a.block, off := a.off + (j + 1) } = some u := by
  have := h (j + 1) u hu
  simpa [Addr.add] using this
/-- A slice of structs of C cells: element i's cells are rs's i-th list. -/
def Recs (w : World) (x : Value) (C n : Nat) (rs : List (List Value)) : Prop :=
  rs.length = n ∧ (∀ r ∈ rs, r.length = C) ∧ ((x = .slice none 0 0 ∧ n = 0) ∨ ∃ ad c, x = .slice (some ad) n c ∧ ∀ i r, rs[i]? = some r → At w (ad.add (i * C)) r)
theorem Recs.kept {w w' : World} {x : Value} {C n : Nat} {rs : List (List Value)} (h : Recs w x C n rs) (hb : Below w.heap.size w w') : Recs w' x C n rs := by
  refine ⟨h.1, h.2.1, ?_⟩
  rcases h.2.2 with h0 | ⟨ad, c, e, hc⟩
  · exact .inl h0
  · exact .inr ⟨ad, c, e, fun i r hr => (hc i r hr).kept hb⟩
theorem Recs.drewN {w : World} {x : Value} {C n : Nat} {rs : List (List Value)} (h : Recs w x C n rs) (q : Nat) : Recs (w.drewN q) x C n rs := h
/-- By its parts, nil let in. -/
theorem Recs.form {w : World} {x : Value} {C n : Nat} {rs : List (List Value)} (h : Recs w x C n rs) : ∃ A c, x = .slice A n c ∧ ∀ k, k < n → ∃ ad, A = some ad ∧ At w (ad.add (k * C)) (rs.getD k []) := by
  rcases h.2.2 with ⟨rfl, h0⟩ | ⟨ad, c, rfl, hc⟩
  · subst h0
    exact ⟨none, 0, rfl, fun k hk => absurd hk (by omega)⟩
  · refine ⟨some ad, c, rfl, fun k hk => ⟨ad, rfl, ?_⟩⟩
    have hk' : k < rs.length := by rw [h.1]; exact hk
    exact hc k _ (by simp [List.getD, hk'])
theorem flatten_get {C : Nat} : ∀ (rs : List (List Value)) (_ : ∀ r ∈ rs, r.length = C) (i : Nat) (r : List Value) (_ : rs[i]? = some r) (j : Nat) (u : Value) (_ : r[j]? = some u), rs.flatten[i * C + j]? = some u
  | [], _, i, r, hr, _, _, _ => by simp at hr
  | x :: rs, hl, 0, r, hr, j, u, hu => by
    obtain rfl : x = r := by simpa using hr
    have hj : j < x.length := (List.getElem?_eq_some_iff.1 hu).1
    rw [List.flatten_cons, Nat.zero_mul, Nat.zero_add, List.getElem?_append_left hj]; exact hu
  | x :: rs, hl, i + 1, r, hr, j, u, hu => by
    have hx : x.length = C := hl x (by simp)
    rw [List.flatten_cons, List.getElem?_append_right (by rw [hx, Nat.succ_mul]; omega)]
    rw [show (i + 1) * C + j - x.length = i * C + j from by rw [hx, Nat.succ_mul]; omega]
    exact flatten_get rs (fun r h => hl r (by simp [h])) i r (by simpa using hr) j u hu
theorem flatten_len {C : Nat} : ∀ (rs : List (List Value)) (_ : ∀ r ∈ rs, r.length = C), rs.flatten.length = rs.length * C
  | [], _ => by simp
  | x :: rs, hl => by
    rw [List.flatten_cons, List.length_append, flatten_len rs (fun r h => hl r (by simp [h])), hl x (by simp), List.length_cons, Nat.succ_mul]; omega
/-- What the call owns it reads. -/
theorem Recs.own {w : World} {base : Nat} {e : TypeId} {C n : Nat} {v : Value} {rs : List (List Value)} (h : w.ownsRow base e C v n rs.flatten) (hn : rs.length = n) (hl : ∀ r ∈ rs, r.length = C) : Recs w v C n rs := by
  refine ⟨hn, hl, ?_⟩
  rcases h.2 with ⟨rfl, h0⟩ | ⟨g, cap, cur, rfl, _⟩
  · exact .inl ⟨rfl, h0⟩
  · refine .inr ⟨_, _, rfl, fun i r hr j u hu => ?_⟩
    rw [Go.Deep.add_add]
    exact h.cells (g := g) rfl _ _ (flatten_get rs hl i r hr j u hu)
/-- Behind a call: all old cells and marks read as before. -/
theorem bcell {W w1 : World} (hb : Below W.heap.size W w1) : (∀ b o, b < W.heap.size → w1.cell? ⟨b, o, none⟩ = W.cell? ⟨b, o, none⟩) ∧ (∀ b o, b < W.heap.size → w1.frozen? ⟨b, o, none⟩ = W.frozen? ⟨b, o, none⟩) :=
  ⟨fun b o h => hb.cell (p := ⟨b, o, none⟩) h, fun b o h => hb.frozen (p := ⟨b, o, none⟩) h⟩
theorem own_shape {w : World} {base C : Nat} {e : TypeId} {v : Value} {n : Nat} {xs : List Value} (h : w.ownsRow base e C v n xs) : ∃ A c, v = .slice A n c := by
  rcases h.2 with ⟨rfl, h0⟩ | ⟨g, cap, cur, rfl, _⟩
  · subst h0; exact ⟨none, 0, rfl⟩
  · exact ⟨_, _, rfl⟩
end Go.Proofs.YtkkpdfjbgiijlaaDoor
