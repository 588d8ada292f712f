/- Joined texts: PatRefC. -/
import Derived.Test.YtjcfbeiljdohcaaGreatDoorJB31
namespace Go.Proofs.YtjcfbeiljdohcaaGreatDoor
set_option maxRecDepth 100000
section
open Go.RowKit
namespace Pat
open Go.Proofs.YtjcfbeiljdohcaaGreatDoor.Row Go.Proofs.YtjcfbeiljdohcaaGreatDoor.Scr Agb
theorem putR_snoc : ∀ {l : List Nat} {xs rs : List (List Cl)} (i : Nat) (r : List Cl), l.length = xs.length → putR rs (l ++ [i]) (xs ++ [r]) = (putR rs l xs).set i r
  | [], [], rs, i, r, _ => by simp [putR]
  | a :: l, x :: xs, rs, i, r, h => by
    show putR (rs.set a x) (l ++ [i]) (xs ++ [r]) = (putR (rs.set a x) l xs).set i r
    exact putR_snoc i r (by simpa using h)
  | [], _ :: _, _, _, _, h => by cases h
  | _ :: _, [], _, _, _, h => by cases h
theorem putR_even {C : Nat} {l : List Nat} {xs rs : List (List Cl)} (h1 : Even C rs) (h2 : Even C xs) : Even C (putR rs l xs) := fun r hr => by
  rcases putR_mem hr with h | h
  · exact h1 r h
  · exact h2 r h
structure Bv (w0 : World) (bx : List (Nat × Obj)) (b3 : Nat) (v : Vw) (x : Value) (w : World) : Prop where
  bel : Below w0.heap.size w0 w
  bs : ∀ q ∈ bx, w.heap[q.1]? = some q.2 ∧ q.1 < b3
  h3 : w.heap[b3]? = some (vbox v x)
  oc : OwnCs w (b3 + 1) x v.g.cells
  lo : w0.heap.size ≤ b3
theorem Bv.up {w0 w : World} {bx : List (Nat × Obj)} {b3 : Nat} {v : Vw} {x : Value} (h : Bv w0 bx b3 v x w) : b3 + 1 ≤ w.heap.size := Blk.lt h.h3
theorem Bv.kept {w0 w w' : World} {bx : List (Nat × Obj)} {b3 : Nat} {v : Vw} {x : Value} (h : Bv w0 bx b3 v x w) (hb : Below w.heap.size w w') : Bv w0 bx b3 v x w' :=
  ⟨h.bel.trans (hb.mono h.bel.size), fun q hq => ⟨Blk.kept (h.bs q hq).1 hb, (h.bs q hq).2⟩, Blk.kept h.h3 hb, row_kept h.oc hb, h.lo⟩
theorem Bv.drew {w0 w : World} {bx : List (Nat × Obj)} {b3 : Nat} {v : Vw} {x : Value} (h : Bv w0 bx b3 v x w) : Bv w0 bx b3 v x w.drew := ⟨h.bel.drew, h.bs, h.h3, h.oc, h.lo⟩
theorem Bv.putG {w0 w w' : World} {bx : List (Nat × Obj)} {b3 : Nat} {v : Vw} {x x' : Value} (h : Bv w0 bx b3 v x w) (hb : Below w.heap.size w w') {l : List Cl} (ho : OwnCs w' (b3 + 1) x' l) (R C : Int) :
    Bv w0 bx b3 { v with g := ⟨R, C, l⟩ } x' (gput w' b3 R C x') := by
  have k := h.kept hb
  exact ⟨gput_below k.bel k.lo _ _ _, fun q hq => ⟨gput_other (k.bs q hq).1 (by have := (k.bs q hq).2; omega) _ _ _, (k.bs q hq).2⟩, Blk.set (Blk.set (Blk.set k.h3 0 _) 1 _) 2 _, gput_own ho (Nat.lt_succ_self _) _ _ _, k.lo⟩
set_option maxHeartbeats 6400000 in
theorem refApply_t (R0 C0 R C : Nat) (p0 q0 m0 p q m : Int) (T0 : ByteArray) (t : List UInt8) (f : Bool) (l1 l2 : List Cl) (nn : List Int) (ln : List Nat) (vs rs : List (List Cl)) (Ax Au Ay : Option Addr) (cx cu cy : Nat) (g : Gr) (w : World)
    (hx : Rm w (.slice Ax l1.length cx) l1) (hu : Sl w (.slice Au nn.length cu) nn) (hy : Rm w (.slice Ay l2.length cy) l2) (hl1 : vs.flatten = l1) (hl2 : rs.flatten = l2) (hnn : nn = ofN ln) (hv : Rws R0 C0 vs) (he : Even C rs) (hC : C ≤ 40) (hR : R ≤ 40) (hrl : rs.length ≤ 40)
    (hall : f = true → g = ⟨R, C, l2⟩) (hnot : f = false → R0 = R ∧ C0 = C ∧ rs.length = ln.length ∧ (∀ i ∈ ln, i < R) ∧ g = ⟨R, C, (putR vs ln rs).flatten⟩) :
    Calls Tryz.prog 23 #[.agg #[.int .i64 R0, .int .i64 C0, .slice Ax l1.length cx, .int .i64 p0, .int .i64 q0, .int .i64 m0, .string T0], .agg #[.int .i64 R, .int .i64 C, .bool f, .slice Au nn.length cu, .slice Ay l2.length cy, .int .i64 p, .int .i64 q, .int .i64 m, .string ⟨t.toArray⟩]] w fun e w' => ∃ v, e = .returned (.agg #[.int .i64 g.rows, .int .i64 g.cols, v, .int .i64 p, .int .i64 q, .int .i64 m, .string ⟨t.toArray⟩]) ∧ OwnCs w' w.heap.size v g.cells ∧ Below w.heap.size w w' := by
  have HX := Lib.hid hx
  have HU := Lib.hid hu
  have HY := Lib.hid hy
  have HL1 := Lib.hid hl1
  have HL2 := Lib.hid hl2
  have HNN := Lib.hid hnn
  have HV := Lib.hid hv
  have HE := Lib.hid he
  have hl2n : l2.length ≤ 1600 := by rw [← hl2, even_length he]; exact Nat.mul_le_mul hrl hC
  have hl1n : l1.length ≤ 1600 := by rw [← hl1]; exact hv.small
  obtain ⟨b1, hb1⟩ : ∃ b, w.heap.size + 1 = b := ⟨_, rfl⟩
  obtain ⟨b2, hb2⟩ : ∃ b, b1 + 1 = b := ⟨_, rfl⟩
  obtain ⟨b3, hb3⟩ : ∃ b, b2 + 1 = b := ⟨_, rfl⟩
  have HLT : Hid (w.heap.size < b1 ∧ b1 < b2 ∧ b2 < b3) := Lib.hid (by omega)
  have HLO : Hid (w.heap.size ≤ b3 + 1) := Lib.hid (by omega)
  clear hx hu hy hl1 hl2 hnn hv he
  cases f with
  | true =>
    have HG := Lib.hid (hall rfl)
    clear hall hnot
    have HD0 : Hid (Bv w [(w.heap.size, .cells #[.int .i64 R0, .int .i64 C0, .slice Ax l1.length cx, .int .i64 p0, .int .i64 q0, .int .i64 m0, .string T0] 31 (0, 0)), (b1, .cells #[.int .i64 R, .int .i64 C, .bool true, .slice Au nn.length cu, .slice Ay l2.length cy, .int .i64 p, .int .i64 q, .int .i64 m, .string ⟨t.toArray⟩] 36 (0, 0)), (b2, .cells #[.int .i64 0, .int .i64 0, .slice none 0 0, .int .i64 0, .int .i64 0, .int .i64 0, .string ⟨#[]⟩] 31 (0, 0))] b3 (⟨⟨0, 0, []⟩, p, q, m, t⟩ : Vw) (.slice none 0 0) ((((w.alloc (.cells #[.int .i64 R0, .int .i64 C0, .slice Ax l1.length cx, .int .i64 p0, .int .i64 q0, .int .i64 m0, .string T0] 31 (0, 0))).alloc (.cells #[.int .i64 R, .int .i64 C, .bool true, .slice Au nn.length cu, .slice Ay l2.length cy, .int .i64 p, .int .i64 q, .int .i64 m, .string ⟨t.toArray⟩] 36 (0, 0))).alloc (.cells #[.int .i64 0, .int .i64 0, .slice none 0 0, .int .i64 0, .int .i64 0, .int .i64 0, .string ⟨#[]⟩] 31 (0, 0))).alloc (.cells #[.int .i64 0, .int .i64 0, .slice none 0 0, .int .i64 p, .int .i64 q, .int .i64 m, .string ⟨t.toArray⟩] 31 (0, 0)))) := Lib.hid (by
      have hs1 : (w.alloc (.cells #[.int .i64 R0, .int .i64 C0, .slice Ax l1.length cx, .int .i64 p0, .int .i64 q0, .int .i64 m0, .string T0] 31 (0, 0))).heap.size = b1 := by rw [← hb1]; simp
      have hs2 : ((w.alloc (.cells #[.int .i64 R0, .int .i64 C0, .slice Ax l1.length cx, .int .i64 p0, .int .i64 q0, .int .i64 m0, .string T0] 31 (0, 0))).alloc (.cells #[.int .i64 R, .int .i64 C, .bool true, .slice Au nn.length cu, .slice Ay l2.length cy, .int .i64 p, .int .i64 q, .int .i64 m, .string ⟨t.toArray⟩] 36 (0, 0))).heap.size = b2 := by rw [← hb2, ← hs1]; simp
      have hs3 : (((w.alloc (.cells #[.int .i64 R0, .int .i64 C0, .slice Ax l1.length cx, .int .i64 p0, .int .i64 q0, .int .i64 m0, .string T0] 31 (0, 0))).alloc (.cells #[.int .i64 R, .int .i64 C, .bool true, .slice Au nn.length cu, .slice Ay l2.length cy, .int .i64 p, .int .i64 q, .int .i64 m, .string ⟨t.toArray⟩] 36 (0, 0))).alloc (.cells #[.int .i64 0, .int .i64 0, .slice none 0 0, .int .i64 0, .int .i64 0, .int .i64 0, .string ⟨#[]⟩] 31 (0, 0))).heap.size = b3 := by rw [← hb3, ← hs2]; simp
      refine ⟨((((Below.refl _ _).alloc (Nat.le_refl _) _).alloc (by rw [hs1]; omega) _).alloc (by rw [hs2]; omega) _).alloc (by rw [hs3]; omega) _, fun q hq => ?_, new_alloc _ _ _ hs3, World.ownsRow_nil _ _ _ _, by omega⟩
      simp only [List.mem_cons, List.not_mem_nil, or_false] at hq
      rcases hq with rfl | rfl | rfl
      · exact ⟨old_alloc (old_alloc (old_alloc (new_alloc _ _ _ rfl) _) _) _, by show w.heap.size < b3; omega⟩
      · exact ⟨old_alloc (old_alloc (new_alloc _ _ _ hs1) _) _, by show b1 < b3; omega⟩
      · exact ⟨old_alloc (new_alloc _ _ _ hs2) _, by show b2 < b3; omega⟩)
    have hq3 : (((w.alloc (.cells #[.int .i64 R0, .int .i64 C0, .slice Ax l1.length cx, .int .i64 p0, .int .i64 q0, .int .i64 m0, .string T0] 31 (0, 0))).alloc (.cells #[.int .i64 R, .int .i64 C, .bool true, .slice Au nn.length cu, .slice Ay l2.length cy, .int .i64 p, .int .i64 q, .int .i64 m, .string ⟨t.toArray⟩] 36 (0, 0))).alloc (.cells #[.int .i64 0, .int .i64 0, .slice none 0 0, .int .i64 0, .int .i64 0, .int .i64 0, .string ⟨#[]⟩] 31 (0, 0))).heap[b1]? = some (.cells #[.int .i64 R, .int .i64 C, .bool true, .slice Au nn.length cu, .slice Ay l2.length cy, .int .i64 p, .int .i64 q, .int .i64 m, .string ⟨t.toArray⟩] 36 (0, 0)) := old_alloc (new_alloc _ _ _ (by rw [← hb1]; simp)) _
    have hq4 := (HD0.out.bs (b1, .cells #[.int .i64 R, .int .i64 C, .bool true, .slice Au nn.length cu, .slice Ay l2.length cy, .int .i64 p, .int .i64 q, .int .i64 m, .string ⟨t.toArray⟩] 36 (0, 0)) (by simp)).1
    have x5 : (((w.alloc (.cells #[.int .i64 R0, .int .i64 C0, .slice Ax l1.length cx, .int .i64 p0, .int .i64 q0, .int .i64 m0, .string T0] 31 (0, 0))).alloc (.cells #[.int .i64 R, .int .i64 C, .bool true, .slice Au nn.length cu, .slice Ay l2.length cy, .int .i64 p, .int .i64 q, .int .i64 m, .string ⟨t.toArray⟩] 36 (0, 0))).alloc (.cells #[.int .i64 0, .int .i64 0, .slice none 0 0, .int .i64 0, .int .i64 0, .int .i64 0, .string ⟨#[]⟩] 31 (0, 0))).cell? ⟨b1, 5, none⟩ = some (.int .i64 p) := Blk.cell hq3 5
    have x6 : (((w.alloc (.cells #[.int .i64 R0, .int .i64 C0, .slice Ax l1.length cx, .int .i64 p0, .int .i64 q0, .int .i64 m0, .string T0] 31 (0, 0))).alloc (.cells #[.int .i64 R, .int .i64 C, .bool true, .slice Au nn.length cu, .slice Ay l2.length cy, .int .i64 p, .int .i64 q, .int .i64 m, .string ⟨t.toArray⟩] 36 (0, 0))).alloc (.cells #[.int .i64 0, .int .i64 0, .slice none 0 0, .int .i64 0, .int .i64 0, .int .i64 0, .string ⟨#[]⟩] 31 (0, 0))).cell? ⟨b1, 6, none⟩ = some (.int .i64 q) := Blk.cell hq3 6
    have x7 : (((w.alloc (.cells #[.int .i64 R0, .int .i64 C0, .slice Ax l1.length cx, .int .i64 p0, .int .i64 q0, .int .i64 m0, .string T0] 31 (0, 0))).alloc (.cells #[.int .i64 R, .int .i64 C, .bool true, .slice Au nn.length cu, .slice Ay l2.length cy, .int .i64 p, .int .i64 q, .int .i64 m, .string ⟨t.toArray⟩] 36 (0, 0))).alloc (.cells #[.int .i64 0, .int .i64 0, .slice none 0 0, .int .i64 0, .int .i64 0, .int .i64 0, .string ⟨#[]⟩] 31 (0, 0))).cell? ⟨b1, 7, none⟩ = some (.int .i64 m) := Blk.cell hq3 7
    have x8 : (((w.alloc (.cells #[.int .i64 R0, .int .i64 C0, .slice Ax l1.length cx, .int .i64 p0, .int .i64 q0, .int .i64 m0, .string T0] 31 (0, 0))).alloc (.cells #[.int .i64 R, .int .i64 C, .bool true, .slice Au nn.length cu, .slice Ay l2.length cy, .int .i64 p, .int .i64 q, .int .i64 m, .string ⟨t.toArray⟩] 36 (0, 0))).alloc (.cells #[.int .i64 0, .int .i64 0, .slice none 0 0, .int .i64 0, .int .i64 0, .int .i64 0, .string ⟨#[]⟩] 31 (0, 0))).cell? ⟨b1, 8, none⟩ = some (.string ⟨t.toArray⟩) := Blk.cell hq3 8
    have x2 : ((((w.alloc (.cells #[.int .i64 R0, .int .i64 C0, .slice Ax l1.length cx, .int .i64 p0, .int .i64 q0, .int .i64 m0, .string T0] 31 (0, 0))).alloc (.cells #[.int .i64 R, .int .i64 C, .bool true, .slice Au nn.length cu, .slice Ay l2.length cy, .int .i64 p, .int .i64 q, .int .i64 m, .string ⟨t.toArray⟩] 36 (0, 0))).alloc (.cells #[.int .i64 0, .int .i64 0, .slice none 0 0, .int .i64 0, .int .i64 0, .int .i64 0, .string ⟨#[]⟩] 31 (0, 0))).alloc (.cells #[.int .i64 0, .int .i64 0, .slice none 0 0, .int .i64 p, .int .i64 q, .int .i64 m, .string ⟨t.toArray⟩] 31 (0, 0))).cell? ⟨b1, 2, none⟩ = some (.bool true) := Blk.cell hq4 2
    clear hq3 hq4
    go_enter Tryz.func23, Tryz.ntmps23
    go_upto_region 3 with (fail)
    clear hb1 hb2 hb3 x5 x6 x7 x8 x2
    have hP := (HD0.out.bs (b1, .cells #[.int .i64 R, .int .i64 C, .bool true, .slice Au nn.length cu, .slice Ay l2.length cy, .int .i64 p, .int .i64 q, .int .i64 m, .string ⟨t.toArray⟩] 36 (0, 0)) (by simp)).1
    have HD0 := Lib.hid HD0.out.drew
    have s0 : ((((w.alloc (.cells #[.int .i64 R0, .int .i64 C0, .slice Ax l1.length cx, .int .i64 p0, .int .i64 q0, .int .i64 m0, .string T0] 31 (0, 0))).alloc (.cells #[.int .i64 R, .int .i64 C, .bool true, .slice Au nn.length cu, .slice Ay l2.length cy, .int .i64 p, .int .i64 q, .int .i64 m, .string ⟨t.toArray⟩] 36 (0, 0))).alloc (.cells #[.int .i64 0, .int .i64 0, .slice none 0 0, .int .i64 0, .int .i64 0, .int .i64 0, .string ⟨#[]⟩] 31 (0, 0))).alloc (.cells #[.int .i64 0, .int .i64 0, .slice none 0 0, .int .i64 p, .int .i64 q, .int .i64 m, .string ⟨t.toArray⟩] 31 (0, 0))).drew.cell? ⟨b1, 0, none⟩ = some (.int .i64 R) ∧ ((((w.alloc (.cells #[.int .i64 R0, .int .i64 C0, .slice Ax l1.length cx, .int .i64 p0, .int .i64 q0, .int .i64 m0, .string T0] 31 (0, 0))).alloc (.cells #[.int .i64 R, .int .i64 C, .bool true, .slice Au nn.length cu, .slice Ay l2.length cy, .int .i64 p, .int .i64 q, .int .i64 m, .string ⟨t.toArray⟩] 36 (0, 0))).alloc (.cells #[.int .i64 0, .int .i64 0, .slice none 0 0, .int .i64 0, .int .i64 0, .int .i64 0, .string ⟨#[]⟩] 31 (0, 0))).alloc (.cells #[.int .i64 0, .int .i64 0, .slice none 0 0, .int .i64 p, .int .i64 q, .int .i64 m, .string ⟨t.toArray⟩] 31 (0, 0))).drew.cell? ⟨b1, 1, none⟩ = some (.int .i64 C) ∧ ((((w.alloc (.cells #[.int .i64 R0, .int .i64 C0, .slice Ax l1.length cx, .int .i64 p0, .int .i64 q0, .int .i64 m0, .string T0] 31 (0, 0))).alloc (.cells #[.int .i64 R, .int .i64 C, .bool true, .slice Au nn.length cu, .slice Ay l2.length cy, .int .i64 p, .int .i64 q, .int .i64 m, .string ⟨t.toArray⟩] 36 (0, 0))).alloc (.cells #[.int .i64 0, .int .i64 0, .slice none 0 0, .int .i64 0, .int .i64 0, .int .i64 0, .string ⟨#[]⟩] 31 (0, 0))).alloc (.cells #[.int .i64 0, .int .i64 0, .slice none 0 0, .int .i64 p, .int .i64 q, .int .i64 m, .string ⟨t.toArray⟩] 31 (0, 0))).drew.cell? ⟨b1, 4, none⟩ = some (.slice Ay l2.length cy) := ⟨Blk.cell hP 0, Blk.cell hP 1, Blk.cell hP 4⟩
    clear hP
    refine wp_region_held_drew (S := fun w' => w'.cell? ⟨b1, 0, none⟩ = some (.int .i64 R) ∧ w'.cell? ⟨b1, 1, none⟩ = some (.int .i64 C) ∧ w'.cell? ⟨b1, 4, none⟩ = some (.slice Ay l2.length cy)) (by kernel_rfl) s0 (fun hHeld => ?_)
    generalize ((((w.alloc (.cells #[.int .i64 R0, .int .i64 C0, .slice Ax l1.length cx, .int .i64 p0, .int .i64 q0, .int .i64 m0, .string T0] 31 (0, 0))).alloc (.cells #[.int .i64 R, .int .i64 C, .bool true, .slice Au nn.length cu, .slice Ay l2.length cy, .int .i64 p, .int .i64 q, .int .i64 m, .string ⟨t.toArray⟩] 36 (0, 0))).alloc (.cells #[.int .i64 0, .int .i64 0, .slice none 0 0, .int .i64 0, .int .i64 0, .int .i64 0, .string ⟨#[]⟩] 31 (0, 0))).alloc (.cells #[.int .i64 0, .int .i64 0, .slice none 0 0, .int .i64 p, .int .i64 q, .int .i64 m, .string ⟨t.toArray⟩] 31 (0, 0))).drew = wd at HD0 s0 ⊢
    refine wpAnyH_take (i := 0) (v := ?_) rfl (by kernel_rfl) (by kernel_rfl) (by kernel_rfl) (fun _ _ _ h => h) (Or.inl ⟨by rfl, ?_⟩) (by assumption) ?_
    rotate_left
    · intro w' hSw; first | (go_simp; done) | (go_simp; with_reducible rfl)
    simp only [Act.put, List.getElem_toArray, List.getElem_cons_zero, List.setIfInBounds_toArray, List.set_cons_zero, List.set_cons_succ]
    refine wpAnyH_take (i := 1) (v := ?_) rfl (by kernel_rfl) (by kernel_rfl) (by kernel_rfl) (fun _ _ _ h => h) (Or.inl ⟨by rfl, ?_⟩) (by assumption) ?_
    rotate_left
    · intro w' hSw; first | (go_simp; done) | (go_simp; with_reducible rfl)
    simp only [Act.put, List.getElem_toArray, List.getElem_cons_zero, List.getElem_cons_succ, List.setIfInBounds_toArray, List.set_cons_zero, List.set_cons_succ]
    refine wpAnyH_take (i := 2) (v := ?_) rfl (by kernel_rfl) (by kernel_rfl) (by kernel_rfl) (fun _ _ _ h => h) (Or.inl ⟨by rfl, ?_⟩) (by assumption) ?_
    rotate_left
    · intro w' hSw; first | (go_simp; done) | (go_simp; with_reducible rfl)
    simp only [Act.put, List.getElem_toArray, List.getElem_cons_zero, List.getElem_cons_succ, List.setIfInBounds_toArray, List.set_cons_zero, List.set_cons_succ]
    refine wpAnyH_take (i := 3) (v := ?_) rfl (by kernel_rfl) (by kernel_rfl) (by kernel_rfl) (fun _ _ _ h => h) (Or.inl ⟨by rfl, ?_⟩) (by assumption) ?_
    rotate_left
    · intro w' hSw; first | (go_simp; done) | (go_simp; with_reducible rfl)
    simp only [Act.put, List.getElem_toArray, List.getElem_cons_zero, List.getElem_cons_succ, List.setIfInBounds_toArray, List.set_cons_zero, List.set_cons_succ]
    refine wpAnyH_take (i := 4) (v := ?_) rfl (by kernel_rfl) (by kernel_rfl) (by kernel_rfl) (fun _ _ _ h => h) (Or.inl ⟨by rfl, ?_⟩) (by assumption) ?_
    rotate_left
    · intro w' hSw; first | (go_simp; done) | (go_simp; with_reducible rfl)
    simp only [Act.put, List.getElem_toArray, List.getElem_cons_zero, List.getElem_cons_succ, List.setIfInBounds_toArray, List.set_cons_zero, List.set_cons_succ]
    refine wpAnyH_take (i := 5) (v := ?_) rfl (by kernel_rfl) (by kernel_rfl) (by kernel_rfl) (fun _ _ _ h => h) (Or.inl ⟨by rfl, ?_⟩) (by assumption) ?_
    rotate_left
    · intro w' hSw; first | (go_simp; done) | (go_simp; with_reducible rfl)
    simp only [Act.put, List.getElem_toArray, List.getElem_cons_zero, List.getElem_cons_succ, List.setIfInBounds_toArray, List.set_cons_zero, List.set_cons_succ]
    refine wpAnyH_ready (rs := [6]) (by kernel_rfl) (by simp) ?_
    refine AllReadyH.cons rfl (fun K hK => ?_) ?_
    · go_simp
      go_at_call 35
      refine (copyCells_any l2 (.slice Ay l2.length cy) wd (HY.out.kept HD0.out.bel).cs (by omega)).mono ?_; rintro e w5 ⟨v, rfl, ho, hb⟩
      obtain ⟨Ag, cg, rfl⟩ := own_shape ho
      have HOG : Hid (OwnCs w5 (b3 + 1) (.slice Ag l2.length cg) l2) := Lib.hid (ho.low HD0.out.up)
      have HD5 := Lib.hid (HD0.out.kept hb)
      have HDG := Lib.hid (HD0.out.putG hb HOG.out R C)
      have hP := (HD5.out.bs (b1, .cells #[.int .i64 R, .int .i64 C, .bool true, .slice Au nn.length cu, .slice Ay l2.length cy, .int .i64 p, .int .i64 q, .int .i64 m, .string ⟨t.toArray⟩] 36 (0, 0)) (by simp)).1
      have q5 : w5.cell? ⟨b1, 0, none⟩ = some (.int .i64 R) ∧ w5.cell? ⟨b1, 1, none⟩ = some (.int .i64 C) ∧ w5.cell? ⟨b1, 4, none⟩ = some (.slice Ay l2.length cy) := ⟨Blk.cell hP 0, Blk.cell hP 1, Blk.cell hP 4⟩
      clear ho hb hP HOG
      refine hK.out _ _ q5 (fun hHeld => ?_)
      clear hK K
      refine wpAnyH_take (i := 7) (v := ?_) rfl (by kernel_rfl) (by kernel_rfl) (by kernel_rfl) (fun _ _ _ h => h) (Or.inl ⟨by rfl, ?_⟩) (by assumption) ?_
      rotate_left
      · intro w' hSw; first | (go_simp; done) | (go_simp; with_reducible rfl)
      simp only [Act.put, List.getElem_toArray, List.getElem_cons_zero, List.getElem_cons_succ, List.setIfInBounds_toArray, List.set_cons_zero, List.set_cons_succ]
      refine wpAnyH_take (i := 8) (v := ?_) rfl (by kernel_rfl) (by kernel_rfl) (by kernel_rfl) (fun _ _ _ h => h) (Or.inl ⟨by rfl, ?_⟩) (by assumption) ?_
      rotate_left
      · intro w' hSw; first | (go_simp; done) | (go_simp; with_reducible rfl)
      simp only [Act.put, List.getElem_toArray, List.getElem_cons_zero, List.getElem_cons_succ, List.setIfInBounds_toArray, List.set_cons_zero, List.set_cons_succ]
      refine wpAnyH_ready (rs := [9]) (by kernel_rfl) (by simp) ?_
      refine AllReadyH.cons rfl (fun K hK => ?_) ?_
      · have z0 : w5.cell? ⟨b3, 0, none⟩ = some (.int .i64 0) := Blk.cell HD5.out.h3 0
        have z1 : w5.cell? ⟨b3, 1, none⟩ = some (.int .i64 0) := Blk.cell HD5.out.h3 1
        have z2 : w5.cell? ⟨b3, 2, none⟩ = some (.slice none 0 0) := Blk.cell HD5.out.h3 2
        have y0 := Blk.free HD5.out.h3 0
        have y1 := Blk.free HD5.out.h3 1
        have y2 := Blk.free HD5.out.h3 2
        go_simp
        change K _ (gput w5 b3 R C (.slice Ag l2.length cg))
        clear z0 z1 z2 y0 y1 y2
        have hP := (HDG.out.bs (b1, .cells #[.int .i64 R, .int .i64 C, .bool true, .slice Au nn.length cu, .slice Ay l2.length cy, .int .i64 p, .int .i64 q, .int .i64 m, .string ⟨t.toArray⟩] 36 (0, 0)) (by simp)).1
        have q6 : (gput w5 b3 R C (.slice Ag l2.length cg)).cell? ⟨b1, 0, none⟩ = some (.int .i64 R) ∧ (gput w5 b3 R C (.slice Ag l2.length cg)).cell? ⟨b1, 1, none⟩ = some (.int .i64 C) ∧ (gput w5 b3 R C (.slice Ag l2.length cg)).cell? ⟨b1, 4, none⟩ = some (.slice Ay l2.length cy) := ⟨Blk.cell hP 0, Blk.cell hP 1, Blk.cell hP 4⟩
        clear hP
        refine hK.out _ _ q6 (fun hHeld => ?_)
        clear hK K
        refine wpAnyH_done (by kernel_rfl) ?_ _
        generalize gput w5 b3 R C (.slice Ag l2.length cg) = wv at HDG ⊢
        have HD : Hid (Bv w [(w.heap.size, .cells #[.int .i64 R0, .int .i64 C0, .slice Ax l1.length cx, .int .i64 p0, .int .i64 q0, .int .i64 m0, .string T0] 31 (0, 0)), (b1, .cells #[.int .i64 R, .int .i64 C, .bool true, .slice Au nn.length cu, .slice Ay l2.length cy, .int .i64 p, .int .i64 q, .int .i64 m, .string ⟨t.toArray⟩] 36 (0, 0)), (b2, .cells #[.int .i64 0, .int .i64 0, .slice none 0 0, .int .i64 0, .int .i64 0, .int .i64 0, .string ⟨#[]⟩] 31 (0, 0))] b3 (⟨⟨(R : Int), (C : Int), l2⟩, p, q, m, t⟩ : Vw) (.slice Ag l2.length cg) wv) := HDG
        clear HDG HD5
        go_upto_region 4 with (fail)
        have hB2 := Lib.hid (HD.out.bs (b2, .cells #[.int .i64 0, .int .i64 0, .slice none 0 0, .int .i64 0, .int .i64 0, .int .i64 0, .string ⟨#[]⟩] 31 (0, 0)) (by simp)).1
        have HD3 : Hid (wv.heap[b3]? = some (.cells #[.int .i64 R, .int .i64 C, .slice Ag l2.length cg, .int .i64 p, .int .i64 q, .int .i64 m, .string ⟨t.toArray⟩] 31 (0, 0))) := Lib.hid HD.out.h3
        have HDO := Lib.hid HD.out.oc
        have HDB := Lib.hid HD.out.bel
        go_wp2_with (first
          | (refine wp_loadV rfl rfl rfl HD3.out ?_)
          | (refine wp_storeV (T := fun w' => w'.heap[b2]? = some (.cells #[.int .i64 R, .int .i64 C, .slice Ag l2.length cg, .int .i64 p, .int .i64 q, .int .i64 m, .string ⟨t.toArray⟩] 31 (0, 0)) ∧ OwnCs w' (b3 + 1) (.slice Ag l2.length cg) l2 ∧ Below w.heap.size w w') rfl rfl rfl rfl rfl hB2.out (fun w' h => ⟨h.box, h.row HDO.out (by have := HLT.out; omega), h.below _ _ (by have := HLT.out; omega) HDB.out⟩) ?_; intro wF HF))
        refine bodyPost_ret (v := .agg #[.int .i64 R, .int .i64 C, .slice Ag l2.length cg, .int .i64 p, .int .i64 q, .int .i64 m, .string ⟨t.toArray⟩]) (ret1A aggView Tryz.results23 rfl HF.out.1 rfl) rfl ⟨_, by rw [HG.out], by rw [HG.out]; exact HF.out.2.1.low HLO.out, HF.out.2.2⟩
      exact AllReadyH.nil
    exact AllReadyH.nil
  | false =>
    have HG := Lib.hid (hnot rfl)
    clear hall hnot
    obtain ⟨rfl, rfl⟩ : R = R0 ∧ C = C0 := ⟨HG.out.1.symm, HG.out.2.1.symm⟩
    have HD0 : Hid (Bv w [(w.heap.size, .cells #[.int .i64 R, .int .i64 C, .slice Ax l1.length cx, .int .i64 p0, .int .i64 q0, .int .i64 m0, .string T0] 31 (0, 0)), (b1, .cells #[.int .i64 R, .int .i64 C, .bool false, .slice Au nn.length cu, .slice Ay l2.length cy, .int .i64 p, .int .i64 q, .int .i64 m, .string ⟨t.toArray⟩] 36 (0, 0)), (b2, .cells #[.int .i64 0, .int .i64 0, .slice none 0 0, .int .i64 0, .int .i64 0, .int .i64 0, .string ⟨#[]⟩] 31 (0, 0))] b3 (⟨⟨0, 0, []⟩, p, q, m, t⟩ : Vw) (.slice none 0 0) ((((w.alloc (.cells #[.int .i64 R, .int .i64 C, .slice Ax l1.length cx, .int .i64 p0, .int .i64 q0, .int .i64 m0, .string T0] 31 (0, 0))).alloc (.cells #[.int .i64 R, .int .i64 C, .bool false, .slice Au nn.length cu, .slice Ay l2.length cy, .int .i64 p, .int .i64 q, .int .i64 m, .string ⟨t.toArray⟩] 36 (0, 0))).alloc (.cells #[.int .i64 0, .int .i64 0, .slice none 0 0, .int .i64 0, .int .i64 0, .int .i64 0, .string ⟨#[]⟩] 31 (0, 0))).alloc (.cells #[.int .i64 0, .int .i64 0, .slice none 0 0, .int .i64 p, .int .i64 q, .int .i64 m, .string ⟨t.toArray⟩] 31 (0, 0)))) := Lib.hid (by
      have hs1 : (w.alloc (.cells #[.int .i64 R, .int .i64 C, .slice Ax l1.length cx, .int .i64 p0, .int .i64 q0, .int .i64 m0, .string T0] 31 (0, 0))).heap.size = b1 := by rw [← hb1]; simp
      have hs2 : ((w.alloc (.cells #[.int .i64 R, .int .i64 C, .slice Ax l1.length cx, .int .i64 p0, .int .i64 q0, .int .i64 m0, .string T0] 31 (0, 0))).alloc (.cells #[.int .i64 R, .int .i64 C, .bool false, .slice Au nn.length cu, .slice Ay l2.length cy, .int .i64 p, .int .i64 q, .int .i64 m, .string ⟨t.toArray⟩] 36 (0, 0))).heap.size = b2 := by rw [← hb2, ← hs1]; simp
      have hs3 : (((w.alloc (.cells #[.int .i64 R, .int .i64 C, .slice Ax l1.length cx, .int .i64 p0, .int .i64 q0, .int .i64 m0, .string T0] 31 (0, 0))).alloc (.cells #[.int .i64 R, .int .i64 C, .bool false, .slice Au nn.length cu, .slice Ay l2.length cy, .int .i64 p, .int .i64 q, .int .i64 m, .string ⟨t.toArray⟩] 36 (0, 0))).alloc (.cells #[.int .i64 0, .int .i64 0, .slice none 0 0, .int .i64 0, .int .i64 0, .int .i64 0, .string ⟨#[]⟩] 31 (0, 0))).heap.size = b3 := by rw [← hb3, ← hs2]; simp
      refine ⟨((((Below.refl _ _).alloc (Nat.le_refl _) _).alloc (by rw [hs1]; omega) _).alloc (by rw [hs2]; omega) _).alloc (by rw [hs3]; omega) _, fun q hq => ?_, new_alloc _ _ _ hs3, World.ownsRow_nil _ _ _ _, by omega⟩
      simp only [List.mem_cons, List.not_mem_nil, or_false] at hq
      rcases hq with rfl | rfl | rfl
      · exact ⟨old_alloc (old_alloc (old_alloc (new_alloc _ _ _ rfl) _) _) _, by show w.heap.size < b3; omega⟩
      · exact ⟨old_alloc (old_alloc (new_alloc _ _ _ hs1) _) _, by show b1 < b3; omega⟩
      · exact ⟨old_alloc (new_alloc _ _ _ hs2) _, by show b2 < b3; omega⟩)
    have hq3 : (((w.alloc (.cells #[.int .i64 R, .int .i64 C, .slice Ax l1.length cx, .int .i64 p0, .int .i64 q0, .int .i64 m0, .string T0] 31 (0, 0))).alloc (.cells #[.int .i64 R, .int .i64 C, .bool false, .slice Au nn.length cu, .slice Ay l2.length cy, .int .i64 p, .int .i64 q, .int .i64 m, .string ⟨t.toArray⟩] 36 (0, 0))).alloc (.cells #[.int .i64 0, .int .i64 0, .slice none 0 0, .int .i64 0, .int .i64 0, .int .i64 0, .string ⟨#[]⟩] 31 (0, 0))).heap[b1]? = some (.cells #[.int .i64 R, .int .i64 C, .bool false, .slice Au nn.length cu, .slice Ay l2.length cy, .int .i64 p, .int .i64 q, .int .i64 m, .string ⟨t.toArray⟩] 36 (0, 0)) := old_alloc (new_alloc _ _ _ (by rw [← hb1]; simp)) _
    have hq4 := (HD0.out.bs (b1, .cells #[.int .i64 R, .int .i64 C, .bool false, .slice Au nn.length cu, .slice Ay l2.length cy, .int .i64 p, .int .i64 q, .int .i64 m, .string ⟨t.toArray⟩] 36 (0, 0)) (by simp)).1
    have x5 : (((w.alloc (.cells #[.int .i64 R, .int .i64 C, .slice Ax l1.length cx, .int .i64 p0, .int .i64 q0, .int .i64 m0, .string T0] 31 (0, 0))).alloc (.cells #[.int .i64 R, .int .i64 C, .bool false, .slice Au nn.length cu, .slice Ay l2.length cy, .int .i64 p, .int .i64 q, .int .i64 m, .string ⟨t.toArray⟩] 36 (0, 0))).alloc (.cells #[.int .i64 0, .int .i64 0, .slice none 0 0, .int .i64 0, .int .i64 0, .int .i64 0, .string ⟨#[]⟩] 31 (0, 0))).cell? ⟨b1, 5, none⟩ = some (.int .i64 p) := Blk.cell hq3 5
    have x6 : (((w.alloc (.cells #[.int .i64 R, .int .i64 C, .slice Ax l1.length cx, .int .i64 p0, .int .i64 q0, .int .i64 m0, .string T0] 31 (0, 0))).alloc (.cells #[.int .i64 R, .int .i64 C, .bool false, .slice Au nn.length cu, .slice Ay l2.length cy, .int .i64 p, .int .i64 q, .int .i64 m, .string ⟨t.toArray⟩] 36 (0, 0))).alloc (.cells #[.int .i64 0, .int .i64 0, .slice none 0 0, .int .i64 0, .int .i64 0, .int .i64 0, .string ⟨#[]⟩] 31 (0, 0))).cell? ⟨b1, 6, none⟩ = some (.int .i64 q) := Blk.cell hq3 6
    have x7 : (((w.alloc (.cells #[.int .i64 R, .int .i64 C, .slice Ax l1.length cx, .int .i64 p0, .int .i64 q0, .int .i64 m0, .string T0] 31 (0, 0))).alloc (.cells #[.int .i64 R, .int .i64 C, .bool false, .slice Au nn.length cu, .slice Ay l2.length cy, .int .i64 p, .int .i64 q, .int .i64 m, .string ⟨t.toArray⟩] 36 (0, 0))).alloc (.cells #[.int .i64 0, .int .i64 0, .slice none 0 0, .int .i64 0, .int .i64 0, .int .i64 0, .string ⟨#[]⟩] 31 (0, 0))).cell? ⟨b1, 7, none⟩ = some (.int .i64 m) := Blk.cell hq3 7
    have x8 : (((w.alloc (.cells #[.int .i64 R, .int .i64 C, .slice Ax l1.length cx, .int .i64 p0, .int .i64 q0, .int .i64 m0, .string T0] 31 (0, 0))).alloc (.cells #[.int .i64 R, .int .i64 C, .bool false, .slice Au nn.length cu, .slice Ay l2.length cy, .int .i64 p, .int .i64 q, .int .i64 m, .string ⟨t.toArray⟩] 36 (0, 0))).alloc (.cells #[.int .i64 0, .int .i64 0, .slice none 0 0, .int .i64 0, .int .i64 0, .int .i64 0, .string ⟨#[]⟩] 31 (0, 0))).cell? ⟨b1, 8, none⟩ = some (.string ⟨t.toArray⟩) := Blk.cell hq3 8
    have x2 : ((((w.alloc (.cells #[.int .i64 R, .int .i64 C, .slice Ax l1.length cx, .int .i64 p0, .int .i64 q0, .int .i64 m0, .string T0] 31 (0, 0))).alloc (.cells #[.int .i64 R, .int .i64 C, .bool false, .slice Au nn.length cu, .slice Ay l2.length cy, .int .i64 p, .int .i64 q, .int .i64 m, .string ⟨t.toArray⟩] 36 (0, 0))).alloc (.cells #[.int .i64 0, .int .i64 0, .slice none 0 0, .int .i64 0, .int .i64 0, .int .i64 0, .string ⟨#[]⟩] 31 (0, 0))).alloc (.cells #[.int .i64 0, .int .i64 0, .slice none 0 0, .int .i64 p, .int .i64 q, .int .i64 m, .string ⟨t.toArray⟩] 31 (0, 0))).cell? ⟨b1, 2, none⟩ = some (.bool false) := Blk.cell hq4 2
    clear hq3 hq4
    go_enter Tryz.func23, Tryz.ntmps23
    go_upto_region 5 with (fail)
    clear hb1 hb2 hb3 x5 x6 x7 x8 x2
    generalize ((((w.alloc (.cells #[.int .i64 R, .int .i64 C, .slice Ax l1.length cx, .int .i64 p0, .int .i64 q0, .int .i64 m0, .string T0] 31 (0, 0))).alloc (.cells #[.int .i64 R, .int .i64 C, .bool false, .slice Au nn.length cu, .slice Ay l2.length cy, .int .i64 p, .int .i64 q, .int .i64 m, .string ⟨t.toArray⟩] 36 (0, 0))).alloc (.cells #[.int .i64 0, .int .i64 0, .slice none 0 0, .int .i64 0, .int .i64 0, .int .i64 0, .string ⟨#[]⟩] 31 (0, 0))).alloc (.cells #[.int .i64 0, .int .i64 0, .slice none 0 0, .int .i64 p, .int .i64 q, .int .i64 m, .string ⟨t.toArray⟩] 31 (0, 0))) = wa at HD0 ⊢
    have hV := (HD0.out.bs (w.heap.size, .cells #[.int .i64 R, .int .i64 C, .slice Ax l1.length cx, .int .i64 p0, .int .i64 q0, .int .i64 m0, .string T0] 31 (0, 0)) (by simp)).1
    have c0 : wa.cell? ⟨w.heap.size, 0, none⟩ = some (.int .i64 R) := Blk.cell hV 0
    have c1 : wa.cell? ⟨w.heap.size, 1, none⟩ = some (.int .i64 C) := Blk.cell hV 1
    have c2 : wa.cell? ⟨w.heap.size, 2, none⟩ = some (.slice Ax l1.length cx) := Blk.cell hV 2
    clear hV
    go_wp2_with fail
    refine (copyGrid_any R C l1 (.slice Ax l1.length cx) wa (HX.out.kept HD0.out.bel).cs (by omega)).mono ?_; rintro e w5 ⟨v, rfl, ho, hb⟩
    obtain ⟨Ag, cg, rfl⟩ := own_shape ho
    have HD5 := Lib.hid (HD0.out.kept hb)
    have HB : Hid (Bv w [(w.heap.size, .cells #[.int .i64 R, .int .i64 C, .slice Ax l1.length cx, .int .i64 p0, .int .i64 q0, .int .i64 m0, .string T0] 31 (0, 0)), (b1, .cells #[.int .i64 R, .int .i64 C, .bool false, .slice Au nn.length cu, .slice Ay l2.length cy, .int .i64 p, .int .i64 q, .int .i64 m, .string ⟨t.toArray⟩] 36 (0, 0)), (b2, .cells #[.int .i64 0, .int .i64 0, .slice none 0 0, .int .i64 0, .int .i64 0, .int .i64 0, .string ⟨#[]⟩] 31 (0, 0))] b3 (⟨⟨(R : Int), (C : Int), l1⟩, p, q, m, t⟩ : Vw) (.slice Ag l1.length cg) (((w5.setCell ⟨b3, 0, none⟩ (.int .i64 R)).setCell ⟨b3, 1, none⟩ (.int .i64 C)).setCell ⟨b3, 2, none⟩ (.slice Ag l1.length cg))) := Lib.hid (HD0.out.putG hb (ho.low HD0.out.up) R C)
    have z0 : w5.cell? ⟨b3, 0, none⟩ = some (.int .i64 0) := Blk.cell HD5.out.h3 0
    have z1 : w5.cell? ⟨b3, 1, none⟩ = some (.int .i64 0) := Blk.cell HD5.out.h3 1
    have z2 : w5.cell? ⟨b3, 2, none⟩ = some (.slice none 0 0) := Blk.cell HD5.out.h3 2
    have y0 := Blk.free HD5.out.h3 0
    have y1 := Blk.free HD5.out.h3 1
    have y2 := Blk.free HD5.out.h3 2
    clear c0 c1 c2 ho hb HD0 HD5
    go_upto_region 6 with (fail)
    clear z0 z1 z2 y0 y1 y2
    generalize (((w5.setCell ⟨b3, 0, none⟩ (.int .i64 R)).setCell ⟨b3, 1, none⟩ (.int .i64 C)).setCell ⟨b3, 2, none⟩ (.slice Ag l1.length cg)) = wb at HB ⊢
    have hnl : nn.length = ln.length := by rw [HNN.out, ofN_length]
    have HNL := Lib.hid hnl
    have hln : nn.length ≤ 40 := by have := HG.out.2.2.1; omega
    clear hnl
    go_wp2_with fail
    go_loopw [6] (fun i wr => ∃ (k : Nat) (v : Value), k ≤ nn.length ∧ i = .int .i64 k ∧ Hid (Bv w [(w.heap.size, .cells #[.int .i64 R, .int .i64 C, .slice Ax l1.length cx, .int .i64 p0, .int .i64 q0, .int .i64 m0, .string T0] 31 (0, 0)), (b1, .cells #[.int .i64 R, .int .i64 C, .bool false, .slice Au nn.length cu, .slice Ay l2.length cy, .int .i64 p, .int .i64 q, .int .i64 m, .string ⟨t.toArray⟩] 36 (0, 0)), (b2, .cells #[.int .i64 0, .int .i64 0, .slice none 0 0, .int .i64 0, .int .i64 0, .int .i64 0, .string ⟨#[]⟩] 31 (0, 0))] b3 (⟨⟨(R : Int), (C : Int), (putR vs (ln.take k) (rs.take k)).flatten⟩, p, q, m, t⟩ : Vw) v wr)) (fun i _ => nn.length - (intOf i).toNat)
    case atStart => exact ⟨0, _, by omega, rfl, by rw [List.take_zero, List.take_zero, show putR vs [] [] = vs by simp [putR], HL1.out]; exact HB⟩
    case round =>
      obtain ⟨k, v, hk, rfl, HD⟩ := hrel
      have HGE : Hid ((putR vs (ln.take k) (rs.take k)).flatten.length = R * C) := Lib.hid (by
        rw [even_length (putR_even HV.out.even (HE.out.take k)), putR_length, HV.out.len])
      have HEV : Hid (Even C (putR vs (ln.take k) (rs.take k))) := Lib.hid (putR_even HV.out.even (HE.out.take k))
      have HLV : Hid ((putR vs (ln.take k) (rs.take k)).length = R) := Lib.hid (by rw [putR_length, HV.out.len])
      have HFIN : Hid (k = nn.length → putR vs (ln.take k) (rs.take k) = putR vs ln rs) := Lib.hid fun e => by
        rw [List.take_of_length_le (by have := HNL.out; omega), List.take_of_length_le (by have := HNL.out; have := HG.out.2.2.1; omega)]
      have HSTEP : Hid (∀ (h : k < ln.length) (h2 : k < rs.length), putR vs (ln.take (k + 1)) (rs.take (k + 1)) = (putR vs (ln.take k) (rs.take k)).set ln[k] rs[k]) := Lib.hid fun h h2 => by
        rw [List.take_succ_eq_append_getElem h, List.take_succ_eq_append_getElem h2, putR_snoc _ _ (by rw [List.length_take, List.length_take]; have := HG.out.2.2.1; omega)]
      generalize putR vs (ln.take k) (rs.take k) = pr at HD HGE HEV HLV HFIN HSTEP
      obtain ⟨gl, hgl⟩ : ∃ l, pr.flatten = l := ⟨_, rfl⟩
      rw [hgl] at HD HGE
      have HGL := Lib.hid hgl
      clear hgl
      obtain ⟨Ag, cg, rfl⟩ := own_shape HD.out.oc
      have hP := (HD.out.bs (b1, .cells #[.int .i64 R, .int .i64 C, .bool false, .slice Au nn.length cu, .slice Ay l2.length cy, .int .i64 p, .int .i64 q, .int .i64 m, .string ⟨t.toArray⟩] 36 (0, 0)) (by simp)).1
      have e3 : wr.cell? ⟨b1, 3, none⟩ = some (.slice Au nn.length cu) := Blk.cell hP 3
      clear hP
      by_cases hlt : k < nn.length
      · have hk1 : k < ln.length := by rw [← HNL.out]; exact hlt
        have hk2 : k < rs.length := by rw [HG.out.2.2.1]; exact hk1
        obtain ⟨ik, hik⟩ : ∃ i, ln[k] = i := ⟨_, rfl⟩
        obtain ⟨rk, hrk⟩ : ∃ r, rs[k] = r := ⟨_, rfl⟩
        have hiR : ik < R := by rw [← hik]; exact HG.out.2.2.2.1 _ (List.getElem_mem hk1)
        have hrl : rk.length = C := by rw [← hrk]; exact HE.out _ (List.getElem_mem hk2)
        have hnk : nn.getD k 0 = (ik : Int) := by rw [HNN.out, ← hik]; unfold ofN; simp [hk1]
        have HNX : Hid ((putR vs (ln.take (k + 1)) (rs.take (k + 1))).flatten = putting gl rk (ik * C) C) := Lib.hid (by
          rw [HSTEP.out hk1 hk2, hik, hrk, ← HGL.out, putting_row HEV.out (by rw [HLV.out]; exact hiR) hrl])
        obtain ⟨an, rfl, hE⟩ := HU.out.get k hlt
        rw [hnk] at hE
        have hi1 : (k + 1) * C ≤ l2.length := by rw [← HL2.out, even_length HE.out]; exact Nat.mul_le_mul_right _ hk2
        obtain ⟨A', c', hs, hm⟩ := HY.out.row C k hi1 _ _ rfl rfl
        have hrow : Row.rowAt l2 C k = rk := by rw [← HL2.out, rowAt_flat HE.out hk2, ← hrk]; unfold rowOf; simp [hk2]
        rw [hrow] at hm
        have HMR := Lib.hid hm
        have HWI : Hid (∀ W, Bv w [(w.heap.size, .cells #[.int .i64 R, .int .i64 C, .slice Ax l1.length cx, .int .i64 p0, .int .i64 q0, .int .i64 m0, .string T0] 31 (0, 0)), (b1, .cells #[.int .i64 R, .int .i64 C, .bool false, .slice (some an) nn.length cu, .slice Ay l2.length cy, .int .i64 p, .int .i64 q, .int .i64 m, .string ⟨t.toArray⟩] 36 (0, 0)), (b2, .cells #[.int .i64 0, .int .i64 0, .slice none 0 0, .int .i64 0, .int .i64 0, .int .i64 0, .string ⟨#[]⟩] 31 (0, 0))] b3 (⟨⟨(R : Int), (C : Int), gl⟩, p, q, m, t⟩ : Vw) (.slice Ag gl.length cg) W → Calls Tryz.prog 52 #[.agg #[.int .i64 R, .int .i64 C, .slice Ag gl.length cg], .int .i64 ik, .slice A' C c'] W fun e w' => ∃ v, e = .returned (.agg #[.int .i64 R, .int .i64 C, v]) ∧ OwnCs w' W.heap.size v (putting gl rk (ik * C) C) ∧ Below W.heap.size W w') := Lib.hid fun W hW =>
          refWith_any R C ik gl rk (.slice Ag gl.length cg) (.slice A' C c') W hC (by omega) (by rw [HGE.out]; exact Nat.mul_le_mul_right _ hiR) (by rw [HGE.out]; exact Nat.le_trans (Nat.mul_le_mul hR hC) (by decide)) (OwnCs.cs hW.oc) (HMR.out.kept hW.bel).cs hrl
        obtain ⟨pl, hpl⟩ : ∃ l, putting gl rk (ik * C) C = l := ⟨_, rfl⟩
        rw [hpl] at HNX HWI
        have HEC := Lib.hid hE
        have HQ : Hid (∀ (v : Vw) (x : Value) (W : World), Bv w [(w.heap.size, .cells #[.int .i64 R, .int .i64 C, .slice Ax l1.length cx, .int .i64 p0, .int .i64 q0, .int .i64 m0, .string T0] 31 (0, 0)), (b1, .cells #[.int .i64 R, .int .i64 C, .bool false, .slice (some an) nn.length cu, .slice Ay l2.length cy, .int .i64 p, .int .i64 q, .int .i64 m, .string ⟨t.toArray⟩] 36 (0, 0)), (b2, .cells #[.int .i64 0, .int .i64 0, .slice none 0 0, .int .i64 0, .int .i64 0, .int .i64 0, .string ⟨#[]⟩] 31 (0, 0))] b3 v x W → W.cell? ⟨b1, 1, none⟩ = some (.int .i64 C) ∧ W.cell? ⟨b1, 3, none⟩ = some (.slice (some an) nn.length cu) ∧ W.cell? ⟨b1, 4, none⟩ = some (.slice Ay l2.length cy) ∧ W.cell? (an.add k) = some (.int .i64 ik)) := Lib.hid fun v x W hW => by
          have hP := (hW.bs (b1, .cells #[.int .i64 R, .int .i64 C, .bool false, .slice (some an) nn.length cu, .slice Ay l2.length cy, .int .i64 p, .int .i64 q, .int .i64 m, .string ⟨t.toArray⟩] 36 (0, 0)) (by simp)).1
          exact ⟨Blk.cell hP 1, Blk.cell hP 3, Blk.cell hP 4, cell_kept hW.bel HEC.out⟩
        have hsm : (k + 1) * C ≤ 40 * 40 := Nat.mul_le_mul (by omega) hC
        obtain ⟨i1, hi1'⟩ : ∃ q, k + 1 = q := ⟨_, rfl⟩
        have hle : k * C ≤ i1 * C := Nat.mul_le_mul_right _ (by omega)
        rw [hi1'] at hs hsm
        obtain ⟨pk, hpk⟩ : ∃ q, k * C = q := ⟨_, rfl⟩
        obtain ⟨qk, hqk⟩ : ∃ q, i1 * C = q := ⟨_, rfl⟩
        have x1 : IntKind.i64.wrap ((k : Int) + 1) = (i1 : Int) := by rw [IntKind.wrap_i64]; omega
        have x2 : IntKind.i64.wrap ((k : Int) * (C : Int)) = (pk : Int) := by rw [← Int.natCast_mul, hpk, IntKind.wrap_i64]; omega
        have x3 : IntKind.i64.wrap ((i1 : Int) * (C : Int)) = (qk : Int) := by rw [← Int.natCast_mul, hqk, IntKind.wrap_i64]; omega
        rw [hpk, hqk] at hs
        have HD9 := Lib.hid HD.out.drew
        have s0 := HQ.out _ _ _ HD9.out
        have HI1 := Lib.hid hi1'
        clear hpk hqk hle hsm hi1' hi1 hm hrow hE hnk hrl hiR hik hrk HSTEP HFIN HEV HLV HGE HGL HD hpl hk1 hk2
        go_upto_region 9 with (fail)
        clear e3
        refine wp_region_held_drew (S := fun w' => w'.cell? ⟨b1, 1, none⟩ = some (.int .i64 C) ∧ w'.cell? ⟨b1, 3, none⟩ = some (.slice (some an) nn.length cu) ∧ w'.cell? ⟨b1, 4, none⟩ = some (.slice Ay l2.length cy) ∧ w'.cell? (an.add k) = some (.int .i64 ik)) (by kernel_rfl) s0 (fun hHeld => ?_)
        generalize wr.drew = wd at HD9 s0 ⊢
        refine wpAnyH_take (i := 0) (v := ?_) rfl (by kernel_rfl) (by kernel_rfl) (by kernel_rfl) (fun _ _ _ h => h) (Or.inl ⟨by rfl, ?_⟩) (by assumption) ?_
        rotate_left
        · intro w' hSw; first | (go_simp; done) | (go_simp; with_reducible rfl)
        simp only [Act.put, List.getElem_toArray, List.getElem_cons_zero, List.setIfInBounds_toArray, List.set_cons_zero, List.set_cons_succ]
        refine wpAnyH_take (i := 2) (v := ?_) rfl (by kernel_rfl) (by kernel_rfl) (by kernel_rfl) (fun _ _ _ h => h) (Or.inl ⟨by rfl, ?_⟩) (by assumption) ?_
        rotate_left
        · intro w' hSw; first | (go_simp; done) | (go_simp; with_reducible rfl)
        simp only [Act.put, List.getElem_toArray, List.getElem_cons_zero, List.getElem_cons_succ, List.setIfInBounds_toArray, List.set_cons_zero, List.set_cons_succ]
        refine wpAnyH_take (i := 3) (v := ?_) rfl (by kernel_rfl) (by kernel_rfl) (by kernel_rfl) (fun _ _ _ h => h) (Or.inl ⟨by rfl, ?_⟩) (by assumption) ?_
        rotate_left
        · intro w' hSw; first | (go_simp; done) | (go_simp; with_reducible rfl)
        simp only [Act.put, List.getElem_toArray, List.getElem_cons_zero, List.getElem_cons_succ, List.setIfInBounds_toArray, List.set_cons_zero, List.set_cons_succ]
        refine wpAnyH_take (i := 4) (v := ?_) rfl (by kernel_rfl) (by kernel_rfl) (by kernel_rfl) (fun _ _ _ h => h) (Or.inl ⟨by rfl, ?_⟩) (by assumption) ?_
        rotate_left
        · intro w' hSw; first | (go_simp; done) | (go_simp; with_reducible rfl)
        simp only [Act.put, List.getElem_toArray, List.getElem_cons_zero, List.getElem_cons_succ, List.setIfInBounds_toArray, List.set_cons_zero, List.set_cons_succ]
        refine wpAnyH_take (i := 5) (v := ?_) rfl (by kernel_rfl) (by kernel_rfl) (by kernel_rfl) (fun _ _ _ h => h) (Or.inl ⟨by rfl, ?_⟩) (by assumption) ?_
        rotate_left
        · intro w' hSw; first | (go_simp; done) | (go_simp; with_reducible rfl)
        simp only [Act.put, List.getElem_toArray, List.getElem_cons_zero, List.getElem_cons_succ, List.setIfInBounds_toArray, List.set_cons_zero, List.set_cons_succ]
        refine wpAnyH_take (i := 6) (v := ?_) rfl (by kernel_rfl) (by kernel_rfl) (by kernel_rfl) (fun _ _ _ h => h) (Or.inl ⟨by rfl, ?_⟩) (by assumption) ?_
        rotate_left
        · intro w' hSw; first | (go_simp; done) | (go_simp; with_reducible rfl)
        simp only [Act.put, List.getElem_toArray, List.getElem_cons_zero, List.getElem_cons_succ, List.setIfInBounds_toArray, List.set_cons_zero, List.set_cons_succ]
        refine wpAnyH_take (i := 7) (v := ?_) rfl (by kernel_rfl) (by kernel_rfl) (by kernel_rfl) (fun _ _ _ h => h) (Or.inl ⟨by rfl, ?_⟩) (by assumption) ?_
        rotate_left
        · intro w' hSw; first | (go_simp; done) | (go_simp; with_reducible rfl)
        simp only [Act.put, List.getElem_toArray, List.getElem_cons_zero, List.getElem_cons_succ, List.setIfInBounds_toArray, List.set_cons_zero, List.set_cons_succ]
        refine wpAnyH_take (i := 8) (v := ?_) rfl (by kernel_rfl) (by kernel_rfl) (by kernel_rfl) (fun _ _ _ h => h) (Or.inl ⟨by rfl, ?_⟩) (by assumption) ?_
        rotate_left
        · intro w' hSw; first | (go_simp; done) | (go_simp; with_reducible rfl)
        simp only [Act.put, List.getElem_toArray, List.getElem_cons_zero, List.getElem_cons_succ, List.setIfInBounds_toArray, List.set_cons_zero, List.set_cons_succ]
        refine wpAnyH_take (i := 9) (v := ?_) rfl (by kernel_rfl) (by kernel_rfl) (by kernel_rfl) (fun _ _ _ h => h) (Or.inl ⟨by rfl, ?_⟩) (by assumption) ?_
        rotate_left
        · intro w' hSw; first | (go_simp; done) | (go_simp; with_reducible rfl)
        simp only [Act.put, List.getElem_toArray, List.getElem_cons_zero, List.getElem_cons_succ, List.setIfInBounds_toArray, List.set_cons_zero, List.set_cons_succ]
        refine wpAnyH_take (i := 10) (v := ?_) rfl (by kernel_rfl) (by kernel_rfl) (by kernel_rfl) (fun _ _ _ h => h) (Or.inl ⟨by rfl, ?_⟩) (by assumption) ?_
        rotate_left
        · intro w' hSw; first | (go_simp; done) | (go_simp; with_reducible rfl)
        simp only [Act.put, List.getElem_toArray, List.getElem_cons_zero, List.getElem_cons_succ, List.setIfInBounds_toArray, List.set_cons_zero, List.set_cons_succ]
        refine wpAnyH_take (i := 11) (v := ?_) rfl (by kernel_rfl) (by kernel_rfl) (by kernel_rfl) (fun _ _ _ h => h) (Or.inl ⟨by rfl, ?_⟩) (by assumption) ?_
        rotate_left
        · intro w' hSw; first | (go_simp; done) | (go_simp; with_reducible rfl)
        simp only [Act.put, List.getElem_toArray, List.getElem_cons_zero, List.getElem_cons_succ, List.setIfInBounds_toArray, List.set_cons_zero, List.set_cons_succ]
        refine wpAnyH_take (i := 12) (v := ?_) rfl (by kernel_rfl) (by kernel_rfl) (by kernel_rfl) (fun _ _ _ h => h) (Or.inl ⟨by rfl, ?_⟩) (by assumption) ?_
        rotate_left
        · intro w' hSw; first | (go_simp; done) | (go_simp; with_reducible rfl)
        simp only [Act.put, List.getElem_toArray, List.getElem_cons_zero, List.getElem_cons_succ, List.setIfInBounds_toArray, List.set_cons_zero, List.set_cons_succ]
        refine wpAnyH_take (i := 13) (v := ?_) rfl (by kernel_rfl) (by kernel_rfl) (by kernel_rfl) (fun _ _ _ h => h) (Or.inl ⟨by rfl, ?_⟩) (by assumption) ?_
        rotate_left
        · intro w' hSw; first | (go_simp; done) | (go_simp; with_reducible rfl)
        simp only [Act.put, List.getElem_toArray, List.getElem_cons_zero, List.getElem_cons_succ, List.setIfInBounds_toArray, List.set_cons_zero, List.set_cons_succ]
        refine wpAnyH_take (i := 14) (v := ?_) rfl (by kernel_rfl) (by kernel_rfl) (by kernel_rfl) (fun _ _ _ h => h) (Or.inl ⟨by rfl, ?_⟩) (by assumption) ?_
        rotate_left
        · intro w' hSw; first | (go_simp; done) | (go_simp; with_reducible rfl)
        simp only [Act.put, List.getElem_toArray, List.getElem_cons_zero, List.getElem_cons_succ, List.setIfInBounds_toArray, List.set_cons_zero, List.set_cons_succ]
        refine wpAnyH_take (i := 15) (v := ?_) rfl (by kernel_rfl) (by kernel_rfl) (by kernel_rfl) (fun _ _ _ h => h) (Or.inl ⟨by rfl, ?_⟩) (by assumption) ?_
        rotate_left
        · intro w' hSw; first | (go_simp; done) | (go_simp; with_reducible rfl)
        simp only [Act.put, List.getElem_toArray, List.getElem_cons_zero, List.getElem_cons_succ, List.setIfInBounds_toArray, List.set_cons_zero, List.set_cons_succ]
        refine wpAnyH_take (i := 16) (v := ?_) rfl (by kernel_rfl) (by kernel_rfl) (by kernel_rfl) (fun _ _ _ h => h) (Or.inl ⟨by rfl, ?_⟩) (by assumption) ?_
        rotate_left
        · intro w' hSw; first | (go_simp; done) | (go_simp; with_reducible rfl)
        simp only [Act.put, List.getElem_toArray, List.getElem_cons_zero, List.getElem_cons_succ, List.setIfInBounds_toArray, List.set_cons_zero, List.set_cons_succ]
        refine wpAnyH_take (i := 17) (v := ?_) rfl (by kernel_rfl) (by kernel_rfl) (by kernel_rfl) (fun _ _ _ h => h) (Or.inl ⟨by rfl, ?_⟩) (by assumption) ?_
        rotate_left
        · intro w' hSw; first | (go_simp; done) | (go_simp; with_reducible rfl)
        simp only [Act.put, List.getElem_toArray, List.getElem_cons_zero, List.getElem_cons_succ, List.setIfInBounds_toArray, List.set_cons_zero, List.set_cons_succ]
        refine wpAnyH_take (i := 18) (v := ?_) rfl (by kernel_rfl) (by kernel_rfl) (by kernel_rfl) (fun _ _ _ h => h) (Or.inl ⟨by rfl, ?_⟩) (by assumption) ?_
        rotate_left
        · intro w' hSw; first | (go_simp; done) | (go_simp; with_reducible rfl)
        simp only [Act.put, List.getElem_toArray, List.getElem_cons_zero, List.getElem_cons_succ, List.setIfInBounds_toArray, List.set_cons_zero, List.set_cons_succ]
        refine wpAnyH_ready (rs := [1]) (by kernel_rfl) (by simp) ?_
        refine AllReadyH.cons rfl (fun K hK => ?_) ?_
        · have z0 : wd.cell? ⟨b3, 0, none⟩ = some (.int .i64 R) := Blk.cell HD9.out.h3 0
          have z1 : wd.cell? ⟨b3, 1, none⟩ = some (.int .i64 C) := Blk.cell HD9.out.h3 1
          have z2 : wd.cell? ⟨b3, 2, none⟩ = some (.slice Ag gl.length cg) := Blk.cell HD9.out.h3 2
          go_simp
          clear z0 z1 z2
          refine hK.out _ _ s0 (fun hHeld => ?_)
          clear hK K
          refine wpAnyH_ready (rs := [19]) (by kernel_rfl) (by simp) ?_
          refine AllReadyH.cons rfl (fun K hK => ?_) ?_
          · go_simp
            go_at_call 52
            refine (HWI.out wd HD9.out).mono ?_; rintro e w5 ⟨v, rfl, ho, hb⟩
            obtain ⟨A9, c9, rfl⟩ := own_shape ho
            have HOG : Hid (OwnCs w5 (b3 + 1) (.slice A9 pl.length c9) pl) := Lib.hid (ho.low HD9.out.up)
            have HD5 := Lib.hid (HD9.out.kept hb)
            have HDN : Hid (Bv w [(w.heap.size, .cells #[.int .i64 R, .int .i64 C, .slice Ax l1.length cx, .int .i64 p0, .int .i64 q0, .int .i64 m0, .string T0] 31 (0, 0)), (b1, .cells #[.int .i64 R, .int .i64 C, .bool false, .slice (some an) nn.length cu, .slice Ay l2.length cy, .int .i64 p, .int .i64 q, .int .i64 m, .string ⟨t.toArray⟩] 36 (0, 0)), (b2, .cells #[.int .i64 0, .int .i64 0, .slice none 0 0, .int .i64 0, .int .i64 0, .int .i64 0, .string ⟨#[]⟩] 31 (0, 0))] b3 (⟨⟨(R : Int), (C : Int), pl⟩, p, q, m, t⟩ : Vw) (.slice A9 pl.length c9) (gput w5 b3 R C (.slice A9 pl.length c9))) := Lib.hid (HD9.out.putG hb HOG.out R C)
            have s5 : w5.cell? ⟨b1, 1, none⟩ = some (.int .i64 C) ∧ w5.cell? ⟨b1, 3, none⟩ = some (.slice (some an) nn.length cu) ∧ w5.cell? ⟨b1, 4, none⟩ = some (.slice Ay l2.length cy) ∧ w5.cell? (an.add k) = some (.int .i64 ik) := HQ.out _ _ _ HD5.out
            clear ho hb HOG
            refine hK.out _ _ s5 (fun hHeld => ?_)
            clear hK K
            refine wpAnyH_take (i := 20) (v := ?_) rfl (by kernel_rfl) (by kernel_rfl) (by kernel_rfl) (fun _ _ _ h => h) (Or.inl ⟨by rfl, ?_⟩) (by assumption) ?_
            rotate_left
            · intro w' hSw; first | (go_simp; done) | (go_simp; with_reducible rfl)
            simp only [Act.put, List.getElem_toArray, List.getElem_cons_zero, List.getElem_cons_succ, List.setIfInBounds_toArray, List.set_cons_zero, List.set_cons_succ]
            refine wpAnyH_ready (rs := [21]) (by kernel_rfl) (by simp) ?_
            refine AllReadyH.cons rfl (fun K hK => ?_) ?_
            · have z0 : w5.cell? ⟨b3, 0, none⟩ = some (.int .i64 R) := Blk.cell HD5.out.h3 0
              have z1 : w5.cell? ⟨b3, 1, none⟩ = some (.int .i64 C) := Blk.cell HD5.out.h3 1
              have z2 : w5.cell? ⟨b3, 2, none⟩ = some (.slice Ag gl.length cg) := Blk.cell HD5.out.h3 2
              have y0 := Blk.free HD5.out.h3 0
              have y1 := Blk.free HD5.out.h3 1
              have y2 := Blk.free HD5.out.h3 2
              go_simp
              change K _ (gput w5 b3 R C (.slice A9 pl.length c9))
              clear z0 z1 z2 y0 y1 y2 s5 HD5
              generalize gput w5 b3 R C (.slice A9 pl.length c9) = w6 at HDN ⊢
              have s6 : w6.cell? ⟨b1, 1, none⟩ = some (.int .i64 C) ∧ w6.cell? ⟨b1, 3, none⟩ = some (.slice (some an) nn.length cu) ∧ w6.cell? ⟨b1, 4, none⟩ = some (.slice Ay l2.length cy) ∧ w6.cell? (an.add k) = some (.int .i64 ik) := HQ.out _ _ _ HDN.out
              refine hK.out _ _ s6 (fun hHeld => ?_)
              clear hK K
              refine wpAnyH_done (by kernel_rfl) ?_ _
              clear HD9 HQ s0 s6
              go_wp2_with fail
              go_roundw
              case rel => exact ⟨i1, _, by have := HI1.out; omega, rfl, by rw [← HI1.out, HNX.out]; exact HDN⟩
              case measure => have := HI1.out; simp [intOf]; omega
            exact AllReadyH.nil
          exact AllReadyH.nil
        exact AllReadyH.nil
      · obtain rfl : k = nn.length := by omega
        go_upto_region 10 with (fail)
        clear e3
        obtain ⟨wv, hwv⟩ : ∃ wv, wv = wr := ⟨_, rfl⟩
        subst hwv
        have hB2 := Lib.hid (HD.out.bs (b2, .cells #[.int .i64 0, .int .i64 0, .slice none 0 0, .int .i64 0, .int .i64 0, .int .i64 0, .string ⟨#[]⟩] 31 (0, 0)) (by simp)).1
        have HD3 : Hid (wv.heap[b3]? = some (.cells #[.int .i64 R, .int .i64 C, .slice Ag gl.length cg, .int .i64 p, .int .i64 q, .int .i64 m, .string ⟨t.toArray⟩] 31 (0, 0))) := Lib.hid HD.out.h3
        have HDO := Lib.hid HD.out.oc
        have HDB := Lib.hid HD.out.bel
        go_wp2_with (first
          | (refine wp_loadV rfl rfl rfl HD3.out ?_)
          | (refine wp_storeV (T := fun w' => w'.heap[b2]? = some (.cells #[.int .i64 R, .int .i64 C, .slice Ag gl.length cg, .int .i64 p, .int .i64 q, .int .i64 m, .string ⟨t.toArray⟩] 31 (0, 0)) ∧ OwnCs w' (b3 + 1) (.slice Ag gl.length cg) gl ∧ Below w.heap.size w w') rfl rfl rfl rfl rfl hB2.out (fun w' h => ⟨h.box, h.row HDO.out (by have := HLT.out; omega), h.below _ _ (by have := HLT.out; omega) HDB.out⟩) ?_; intro wF HF))
        have HFG : Hid ((putR vs ln rs).flatten = gl) := Lib.hid (by rw [← HFIN.out (by first | rfl | trivial)]; exact HGL.out)
        refine bodyPost_ret (v := .agg #[.int .i64 R, .int .i64 C, .slice Ag gl.length cg, .int .i64 p, .int .i64 q, .int .i64 m, .string ⟨t.toArray⟩]) (ret1A aggView Tryz.results23 rfl HF.out.1 rfl) rfl ⟨_, by rw [HG.out.2.2.2.2, HFG.out], by rw [HG.out.2.2.2.2, HFG.out]; exact HF.out.2.1.low HLO.out, HF.out.2.2⟩
theorem refApply_any (v : Vw) (p : Pt) (x u y : Value) (w : World) (hx : Rm w x v.g.cells) (hu : Sl w u p.at_) (hy : Rm w y p.cells) (hv : viewB v = true) (hp : patchB p = true) (hf : fitsB v p = true) :
    Calls Tryz.prog 23 #[vagg v x, pagg p u y] w fun e w' => ∃ z, e = .returned (vagg (apply v p) z) ∧ OwnCs w' w.heap.size z (apply v p).g.cells ∧ Below w.heap.size w w' := by
  obtain ⟨_, R0, C0, vs, ev, hvr⟩ := (viewB_iff v).1 hv
  obtain ⟨_, R, C, ln, rs, hpr⟩ := (patchB_iff p).1 hp
  obtain ⟨Ax, cx, rfl, _⟩ := id hx.2
  obtain ⟨Au, cu, rfl, _⟩ := id hu.room
  obtain ⟨Ay, cy, rfl, _⟩ := id hy.2
  have hlen : rs.length ≤ 40 := by
    have h1 := hpr.len
    have h2 := up_length (lo := 0) hpr.up (fun i hi => ⟨Nat.zero_le _, hpr.lt i hi⟩)
    have h3 := hpr.r40
    split at h1 <;> omega
  have e1 := hpr.rows
  have e2 := hpr.cols
  have e3 := hpr.at_
  have e4 := hpr.cells
  obtain ⟨⟨r0, k0, l0⟩, p0, q0, m0, t0⟩ := v
  simp only [Gr.mk.injEq] at ev
  obtain ⟨rfl, rfl, rfl⟩ := ev
  obtain ⟨pr, pc, f, at_, cells, pp, pq, pm, pt⟩ := p
  simp only at e1 e2 e3 e4
  subst e1; subst e2; subst e3; subst e4
  refine refApply_t R0 C0 R C p0 q0 m0 pp pq pm ⟨t0.toArray⟩ pt f vs.flatten rs.flatten (ofN ln) ln vs rs Ax Au Ay cx cu cy (apply ⟨⟨(R0 : Int), (C0 : Int), vs.flatten⟩, p0, q0, m0, t0⟩ ⟨R, C, f, ofN ln, rs.flatten, pp, pq, pm, pt⟩).g w hx hu hy rfl rfl rfl hvr hpr.even hpr.c40 hpr.r40 hlen (fun h => ?_) fun h => ?_
  · subst h; rfl
  · subst h
    have hRC : R0 = R ∧ C0 = C := by
      unfold fitsB at hf
      simp at hf; omega
    obtain ⟨rfl, rfl⟩ := hRC
    refine ⟨rfl, rfl, hpr.inLen rfl, hpr.lt, ?_⟩
    unfold apply
    rw [hpr.placed, hpr.parted]
    simp only [Bool.false_eq_true, if_false]
    rw [rowsV_of hvr]
end Pat
end
end Go.Proofs.YtjcfbeiljdohcaaGreatDoor
