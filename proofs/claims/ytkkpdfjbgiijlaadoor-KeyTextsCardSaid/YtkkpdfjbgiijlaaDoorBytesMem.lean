/- Slices of bytes of the call's own: appended, told as a text. -/
import Derived.Test.YtkkpdfjbgiijlaaDoorBlk
import Derived.Test.YtkkpdfjbgiijlaaDoorRecs
namespace Go.Proofs.YtkkpdfjbgiijlaaDoor
set_option maxRecDepth 100000
open Go.RowKit
namespace Byt

def bvals (l : List UInt8) : List Value := l.map fun b => .int .u8 (b.toNat : Int)
theorem bvals_length (l : List UInt8) : (bvals l).length = l.length := List.length_map _
theorem bvals_append (a b : List UInt8) : bvals (a ++ b) = bvals a ++ bvals b := List.map_append
theorem bvals_cells (l : List UInt8) : ∀ u ∈ bvals l, u.oneCell' = true := by
  intro u hu
  obtain ⟨_, _, rfl⟩ := List.mem_map.1 hu
  rfl
theorem bvals_get {l : List UInt8} {k : Nat} (h : k < l.length) : (bvals l)[k]? = some (.int .u8 ((l.getD k 0).toNat : Int)) := by
  unfold bvals; simp [h]
def OwnB8 (w : World) (base : Nat) (v : Value) (l : List UInt8) : Prop := w.ownsRow base 5 1 v l.length (bvals l)
theorem OwnB8.nil (w : World) (base : Nat) : OwnB8 w base (.slice none 0 0) [] := World.ownsRow_nil _ _ _ _
theorem OwnB8.kept {w w' : World} {base : Nat} {v : Value} {l : List UInt8} (h : OwnB8 w base v l) (hb : Below w.heap.size w w') : OwnB8 w' base v l := own_kept h hb
theorem OwnB8.src {w : World} {base : Nat} {v : Value} {l : List UInt8} (h : OwnB8 w base v l) : Src w v l.length (bvals l) := Src.own h
theorem OwnB8.shape {w : World} {base : Nat} {v : Value} {l : List UInt8} (h : OwnB8 w base v l) : ∃ A c, v = .slice A l.length c := own_shape h
/-- A list under way, of the call's own. -/
structure StB (B : Nat) (w1 wr : World) (v : Value) (xs : List UInt8) : Prop where
  own : OwnB8 wr B v xs
  bel : Below B w1 wr
  up : B ≤ wr.heap.size
theorem StB.drewN {B : Nat} {w1 wr : World} {v : Value} {xs : List UInt8} (h : StB B w1 wr v xs) (q : Nat) : StB B w1 (wr.drewN q) v xs := ⟨h.own, below_drewN h.bel q, h.up⟩
theorem StB.drew {B : Nat} {w1 wr : World} {v : Value} {xs : List UInt8} (h : StB B w1 wr v xs) : StB B w1 wr.drew v xs := ⟨h.own, h.bel.drew, h.up⟩
theorem StB.kept {B : Nat} {w1 wr w2 : World} {v : Value} {xs : List UInt8} (h : StB B w1 wr v xs) (hb : Below wr.heap.size wr w2) : StB B w1 w2 v xs :=
  ⟨h.own.kept hb, h.bel.trans (hb.mono h.up), Nat.le_trans h.up hb.size⟩
theorem StB.alloc {B : Nat} {w1 wr : World} {v : Value} {xs : List UInt8} (h : StB B w1 wr v xs) (o : Obj) : StB B w1 (wr.alloc o) v xs := h.kept ((Below.refl _ _).alloc (Nat.le_refl _) _)
theorem StB.grown {B : Nat} {w1 wr w2 : World} {v v2 : Value} {xs ys : List UInt8} (h : StB B w1 wr v xs) (h2 : OwnB8 w2 B v2 ys) (hg : wr.grownBy w2 v.ownBlock) : StB B w1 w2 v2 ys :=
  ⟨h2, below_own h.bel hg h.up h.own, Nat.le_trans h.up hg.size⟩
theorem byte_info : (Tryd.prog.info? 5).map (fun i => (i.zero, i.size, i.bytes)) = some (some (.int .u8 0), 1, 1) := by kernel_rfl
theorem byte_row : ∃ i : TypeInfo, Tryd.prog.info? 5 = some i ∧ i.zero = some (.int .u8 0) ∧ i.size = 1 ∧ i.bytes = 1 := by
  obtain ⟨i, h, h1, h2, h3⟩ := info_parts byte_info
  exact ⟨i, h, h1, h2, h3⟩
/-- append of bytes to bytes of the call's own. -/
theorem wp_append_bytes {w : World} {ops : Array Oper} {rest : List Oper} {o : Oper} {a : Act} {Q : Exit → Act → World → Prop} {s x : Operand} (hgd : o.guard = none)
    (ho : o.op = .call { callee := .builtin .append, args := #[s, x], argTypes := #[56, 56] }) (base : Nat) (v : Value) (xs : List UInt8) (hs : a.eval s = v) (hown : OwnB8 w base v xs)
    (y : Value) (news : List UInt8) (hy : a.eval x = y) (hx : Src w y news.length (bvals news)) (hb : xs.length + news.length ≤ 1000000000) (hbase : base ≤ w.heap.size)
    (h : ∀ v' w', OwnB8 w' base v' (xs ++ news) → w.grownBy w' v.ownBlock → (v'.ownBlock = v.ownBlock ∨ v'.ownBlock = some w.heap.size) → wpList Tryd.prog ops Q rest (a.put o.dst v') w') :
    wpList Tryd.prog ops Q (o :: rest) a w := by
  obtain ⟨i, hi, hz, h1, h8⟩ := byte_row
  refine wpList_append_src hgd ho base 5 i _ 1 Tryd.underlying56 hi hz h1 h8 rfl v xs.length (bvals xs) hs hown y news.length (bvals news) hy hx (bvals_cells _) (by simp only [maxLen]; omega) (by omega) hbase fun v' w' h2 h3 h4 => ?_
  exact h v' w' (by unfold OwnB8; rw [bvals_append, List.length_append]; exact h2) h3 h4
theorem own_app {w : World} {base : Nat} {v : Value} {xs news : List UInt8} {n m : Nat} (h : w.ownsRow base 5 1 v (n + m) (bvals xs ++ bvals news)) (hn : n = xs.length) (hm : m = news.length) : OwnB8 w base v (xs ++ news) := by
  subst hn; subst hm; unfold OwnB8; rw [bvals_append, List.length_append]; exact h
/-- .. told as a text. -/
theorem run_text {w : World} {base : Nat} {v : Value} {l : List UInt8} (h : OwnB8 w base v l) : (convert 56 9 v).run Tryd.prog w = .ok (.string ⟨l.toArray⟩) w := by
  have hs : Tryd.prog.underlying 56 = some (.slice 5) := Tryd.underlying56
  rcases h.2 with ⟨rfl, h0⟩ | ⟨g, cap, cur, rfl, _⟩
  · have : l = [] := List.eq_nil_of_length_eq_zero h0
    subst this
    exact run_convert_bytes_nil w 56 5 hs Tryd.underlying5 0 0 9 Tryd.underlying9
  · have hc := h.cells (g := g) rfl
    have := run_convert_bytes_back (P := Tryd.prog) w 56 9 5 ⟨g, 0, none⟩ cap l hs Tryd.underlying5 Tryd.underlying9 (fun j hj => by
      have e := hc j _ (bvals_get hj)
      rw [e]; simp [hj])
    exact this
end Byt
end Go.Proofs.YtkkpdfjbgiijlaaDoor
