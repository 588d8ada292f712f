/- Joined texts: PdLines. -/
import Derived.Test.YtjcfbeiljdohcaaDoorJM26
import Derived.Test.YtjcfbeiljdohcaaDoorJM27
import Derived.Test.YtjcfbeiljdohcaaDoorJM28
import Derived.Maps.AppendAt
import Derived.RangeFuncBox
namespace Go.Proofs.YtjcfbeiljdohcaaDoor
set_option maxRecDepth 100000
section
open Go.RowKit
namespace Pat
open Go.Proofs.YtjcfbeiljdohcaaDoor.Row Go.Proofs.YtjcfbeiljdohcaaDoor.Scr Agb
attribute [local go_sem] Oper.semAt_some
def lineTo (cv : Nat → Value) (fr : Nat → List Cl) (l : List Nat) (R : Nat) : Nat → List Li
  | 0 => List.replicate R none
  | k + 1 => (lineTo cv fr l R k).set (l.getD k 0) (some (cv k, fr k))
theorem lineTo_length (cv : Nat → Value) (fr : Nat → List Cl) (l : List Nat) (R : Nat) : ∀ k, (lineTo cv fr l R k).length = R
  | 0 => List.length_replicate
  | k + 1 => by unfold lineTo; rw [List.length_set]; exact lineTo_length cv fr l R k
theorem lineTo_ok {w : World} {c n : Nat} {cv : Nat → Value} {fr : Nat → List Cl} (l : List Nat) (R : Nat) (h : ∀ k, k < n → Rm w (cv k) (fr k) ∧ (fr k).length = c) : ∀ k, k ≤ n → LisOk w c (lineTo cv fr l R k)
  | 0, _ => fun x hx y e => by
    have : x = none := (List.mem_replicate.1 hx).2
    rw [this] at e; cases e
  | k + 1, hk => fun x hx y e => by
    rcases List.mem_or_eq_of_mem_set hx with q | q
    · exact lineTo_ok l R h k (by omega) x q y e
    · rw [q] at e
      injection e with e
      subst e
      exact h k (by omega)
theorem lineTo_bare (T : Nat → List Cl) (cv : Nat → Value) (fr : Nat → List Cl) (l : List Nat) (R : Nat) (h : ∀ k, k < l.length → T (l.getD k 0) = fr k) : ∀ k, k ≤ l.length → (lineTo cv fr l R k).map bare = putL T (List.replicate R Option.none) (l.take k)
  | 0, _ => by unfold lineTo; rw [List.map_replicate]; rfl
  | k + 1, hk => by
    have hk' : k < l.length := by omega
    unfold lineTo
    rw [List.map_set, lineTo_bare T cv fr l R h k (by omega), List.take_succ_eq_append_getElem hk', putL_snoc]
    have e : l.getD k 0 = l[k] := by simp [List.getD, hk']
    have := h k hk'
    rw [e] at this ⊢
    rw [this]; rfl
def lineOf (cv : Nat → Value) (fr : Nat → List Cl) (l : List Nat) (R : Nat) (is : List Nat) : List Li :=
  is.zipIdx.foldl (fun L x => L.set (l.getD x.2 0) (some (cv x.1, fr x.1))) (List.replicate R none)
theorem lineOf_snoc (cv : Nat → Value) (fr : Nat → List Cl) (l : List Nat) (R : Nat) (is : List Nat) (i : Nat) : lineOf cv fr l R (is ++ [i]) = (lineOf cv fr l R is).set (l.getD is.length 0) (some (cv i, fr i)) := by
  unfold lineOf; rw [List.zipIdx_append, List.foldl_append]; simp
theorem lineOf_range (cv : Nat → Value) (fr : Nat → List Cl) (l : List Nat) (R : Nat) : ∀ k, lineOf cv fr l R (List.range k) = lineTo cv fr l R k
  | 0 => rfl
  | k + 1 => by rw [List.range_succ, lineOf_snoc, lineOf_range cv fr l R k, List.length_range]; rfl
theorem lineOf_length (cv : Nat → Value) (fr : Nat → List Cl) (l : List Nat) (R : Nat) (is : List Nat) : (lineOf cv fr l R is).length = R := by
  unfold lineOf
  generalize is.zipIdx = xs
  suffices h : ∀ L : List Li, L.length = R → (xs.foldl (fun L x => L.set (l.getD x.2 0) (some (cv x.1, fr x.1))) L).length = R from h _ List.length_replicate
  induction xs with
  | nil => exact fun L h => h
  | cons x xs ih => intro L h; exact ih _ (by rw [List.length_set]; exact h)
open Classical in
noncomputable def nextV (V : Value) : Value := if h : ∃ V', ∀ w' : World, (Instr.slice 33 V (some (.int .i64 1)) none none).run Tryd.prog w' = .ok V' w' then Classical.choose h else undef
noncomputable def tailV (v : Value) : Nat → Value
  | 0 => v
  | k + 1 => nextV (tailV v k)
theorem tailV_all {w : World} {v : Value} {nn : List Int} (h : Sl w v nn) : ∀ k, k ≤ nn.length → Sl w (tailV v k) (nn.drop k) ∧ (∀ g, Clear g v → Clear g (tailV v k)) ∧ (k < nn.length → ∀ w' : World, (Instr.slice 33 (tailV v k) (some (.int .i64 1)) none none).run Tryd.prog w' = .ok (tailV v (k + 1)) w')
  | 0, hk => by
    have h0 : Sl w (tailV v 0) (nn.drop 0) := h
    refine ⟨h0, fun g q => q, fun hlt => ?_⟩
    obtain ⟨A, c, e, _⟩ := h.room
    have h2 : Sl w (.slice A nn.length c) nn := e ▸ h
    obtain ⟨V, h1, _, _⟩ := h2.tail 1 (by omega) 1 rfl
    have hx : ∃ V', ∀ w' : World, (Instr.slice 33 (tailV v 0) (some (.int .i64 1)) none none).run Tryd.prog w' = .ok V' w' := ⟨V, by show ∀ w' : World, (Instr.slice 33 v _ _ _).run _ w' = _; rw [e]; exact h1⟩
    have : tailV v 1 = Classical.choose hx := by show nextV (tailV v 0) = _; unfold nextV; rw [dif_pos hx]
    rw [this]; exact Classical.choose_spec hx
  | k + 1, hk => by
    obtain ⟨h1, h2, h3⟩ := tailV_all h k (by omega)
    have h3 := h3 (by omega)
    obtain ⟨A, c, e, _⟩ := h1.room
    have h4 : Sl w (.slice A (nn.drop k).length c) (nn.drop k) := e ▸ h1
    obtain ⟨V, q1, q2, q3⟩ := h4.tail 1 (by rw [List.length_drop]; omega) 1 rfl
    have hV : tailV v (k + 1) = V := by
      have a := h3 w
      rw [e] at a
      have b := q1 w
      rw [a] at b
      injection b
    have hs : Sl w (tailV v (k + 1)) (nn.drop (k + 1)) := by rw [hV]; rw [List.drop_drop] at q2; exact q2
    refine ⟨hs, fun g q => by rw [hV]; exact q3 g (e ▸ h2 g q), fun hlt => ?_⟩
    obtain ⟨A', c', e', _⟩ := hs.room
    have h5 : Sl w (.slice A' (nn.drop (k + 1)).length c') (nn.drop (k + 1)) := e' ▸ hs
    obtain ⟨V', r1, _, _⟩ := h5.tail 1 (by rw [List.length_drop]; omega) 1 rfl
    have hx : ∃ V', ∀ w' : World, (Instr.slice 33 (tailV v (k + 1)) (some (.int .i64 1)) none none).run Tryd.prog w' = .ok V' w' := ⟨V', by rw [e']; exact r1⟩
    have : tailV v (k + 2) = Classical.choose hx := by show nextV (tailV v (k + 1)) = _; unfold nextV; rw [dif_pos hx]
    rw [this]; exact Classical.choose_spec hx
def LP (w w0 : World) (base bl bt cap R : Nat) (v : Value) (cv : Nat → Value) (fr : Nat → List Cl) (l : List Nat) (is : List Nat) (W : World) : Prop :=
  (∀ g, g < w0.heap.size → g ≠ bl → g ≠ bt → W.heap[g]? = w0.heap[g]?) ∧ (OwnP W base (.slice (some ⟨bl, 0, none⟩) R cap) (lineOf cv fr l R is) ∧ (Boxed W bt 33 (tailV v is.length) ∧ (Below w.heap.size w W ∧ w0.heap.size ≤ W.heap.size)))
theorem LP.from {β : Type} (f : β → List Nat) {w w0 : World} {base bl bt cap R : Nat} {v : Value} {cv : Nat → Value} {fr : Nat → List Cl} {l : List Nat} (h1 : w.heap.size ≤ w0.heap.size) (h2 : bl < w0.heap.size) (h3 : bt < w0.heap.size) :
    OwnFrom w0.heap.size (fun (s : β) W => LP w w0 base bl bt cap R v cv fr l (f s) W) := by
  rintro s W W' row ⟨a, b, c, d, e⟩ hg hr
  have hne : ∀ g, g < w0.heap.size → some g ≠ row := fun g hgl q => by
    have := (hr g q.symm).1
    omega
  refine ⟨fun g q1 q2 q3 => by rw [hg.block g (by omega) (hne g q1)]; exact a g q1 q2 q3, ?_, c.kept hg (hne bt h3), d.grown hg (by omega) (fun k q => by have := (hr k q).1; omega), Nat.le_trans e hg.size⟩
  exact World.ownsRow.kept b hg (.inr (fun q => hne bl h2 q))
set_option maxHeartbeats 4000000 in
theorem lines_t (R C : Nat) (f : Bool) (p q m : Int) (T : ByteArray) (u0 : Value) (Ax : Option Addr) (cx n : Nat) (cl : List Cl) (ln : List Nat) (nn : List Int) (hnn : nn = ofN ln) (wb w : World) (hb : Below wb.heap.size wb w) (hx : Rm wb (.slice Ax cl.length cx) cl) (hR1 : 1 ≤ R) (hR : R ≤ 40) (hn : n ≤ R) (hC1 : 1 ≤ C) (hC : C ≤ 40) (hl : cl.length = n * C) (hln : ln.length = n) (hlt : ∀ i ∈ ln, i < R)
    (hrw : ∀ W, Below w.heap.size w W → Calls Tryd.prog 35 #[.agg #[.int .i64 R, .int .i64 C, .bool f, u0, .slice Ax cl.length cx, .int .i64 p, .int .i64 q, .int .i64 m, .string T]] W fun e w' => ∃ v, e = .returned v ∧ Sl w' v nn ∧ (ln ≠ [] → ∀ g, w.heap.size ≤ g → (g < W.heap.size ∨ w'.heap.size ≤ g) → Clear g v) ∧ Below W.heap.size W w') :
    Calls Tryd.prog 18 #[.agg #[.int .i64 R, .int .i64 C, .bool f, u0, .slice Ax cl.length cx, .int .i64 p, .int .i64 q, .int .i64 m, .string T]] w fun e w' => ∃ v cv, e = .returned v ∧ OwnP w' w.heap.size v (lineTo cv (Row.rowAt cl C) ln R n) ∧ (∀ i, i < n → Rm wb (cv i) (Row.rowAt cl C i)) ∧ Below w.heap.size w w' := by
  have hm : n * C ≤ 1600 := Nat.mul_le_mul (show n ≤ 40 by omega) hC
  obtain ⟨_, A, cp, he, hcp⟩ := id hx
  injection he with e1 e2 e3
  subst e1; subst e3
  obtain ⟨cv, hcv⟩ : ∃ cv, Chunks wb Ax cl.length cx cl n C cv := chunks_some hx n C hl hC1
  have hA : Ax = none → n = 0 ∧ cx = 0 := fun e => by
    subst e
    rcases hx.cs.2.2 with ⟨e2, h0⟩ | ⟨ad, c2, e2, _⟩
    · injection e2 with _ _ e3
      refine ⟨?_, e3⟩
      rcases Nat.eq_zero_or_pos n with h | h
      · exact h
      · have := Nat.mul_pos h hC1; omega
    · injection e2 with e3; cases e3
  rw [hl] at hx hcv hcp hrw ⊢
  have HCV := Lib.hid hcv
  have HRW := Lib.hid hrw
  have HLT := Lib.hid hlt
  have HLN := Lib.hid hln
  have HA := Lib.hid hA
  obtain ⟨mm, hmm⟩ : ∃ mm, mm = n * C := ⟨_, rfl⟩
  have HM := Lib.hid hmm
  rw [← hmm] at hcp hm HRW ⊢
  have hlast := Lib.hid (show ∀ w', Below w.heap.size w w' → ∀ v, OwnP w' w.heap.size v (lineTo cv (Row.rowAt cl C) ln R n) → ∃ v' cv', Ending.returned v = .returned v' ∧ OwnP w' w.heap.size v' (lineTo cv' (Row.rowAt cl C) ln R n) ∧ (∀ i, i < n → Rm wb (cv' i) (Row.rowAt cl C i)) ∧ Below w.heap.size w w' from fun w' hb v ho => ⟨v, cv, rfl, ho, fun i hi => (hcv i hi).2, hb⟩)
  have HBW := Lib.hid hb
  have HNN := Lib.hid hnn
  have HNL : Hid (nn.length = n) := Lib.hid (by rw [hnn, ofN_length, hln])
  clear hnn
  clear hcv hx hmm hl hrw hlt hln hA hb
  refine (callsIn_wide (n := 6)).1 ?_
  refine callsIn_of_wp_marks Tryd.func18 rfl trivial ?_ rfl
  simp only [Tryd.ntmps18, List.size_toArray, List.length_cons, List.length_nil, Nat.reduceAdd, Nat.reduceSub, Array.replicate_succ, Array.replicate_zero, List.push_toArray, List.append_toArray, List.nil_append, List.cons_append]
  have HRP := Lib.hid (fun W (h : Pv W (.slice (some ⟨w.heap.size + 1, 0, none⟩) 1 1) [none]) => repeatP_any none (.slice (some ⟨w.heap.size + 1, 0, none⟩) 1 1) R W h (by omega))
  have HPV : Hid (Pv ((w.alloc (.cells #[.int .i64 R, .int .i64 C, .bool f, u0, .slice Ax mm cx, .int .i64 p, .int .i64 q, .int .i64 m, .string T] 35 (0, 0))).alloc (.cells #[.iface 71 (.agg #[])] 69 (0, 0))) (.slice (some ⟨w.heap.size + 1, 0, none⟩) 1 1) [none]) := Lib.hid (by
    have h := Src.one (w.alloc (.cells #[.int .i64 R, .int .i64 C, .bool f, u0, .slice Ax mm cx, .int .i64 p, .int .i64 q, .int .i64 m, .string T] 35 (0, 0))) (li none) 69 1
    rw [World.size_alloc] at h
    exact ⟨h, _, _, rfl, Nat.le_refl _⟩)
  have HB0 : Hid (Below w.heap.size w ((w.alloc (.cells #[.int .i64 R, .int .i64 C, .bool f, u0, .slice Ax mm cx, .int .i64 p, .int .i64 q, .int .i64 m, .string T] 35 (0, 0))).alloc (.cells #[.iface 71 (.agg #[])] 69 (0, 0)))) := Lib.hid (((Below.refl _ _).alloc (Nat.le_refl _) _).alloc (by simp) _)
  have HP0 : Hid (((w.alloc (.cells #[.int .i64 R, .int .i64 C, .bool f, u0, .slice Ax mm cx, .int .i64 p, .int .i64 q, .int .i64 m, .string T] 35 (0, 0))).alloc (.cells #[.iface 71 (.agg #[])] 69 (0, 0))).heap[w.heap.size]? = some (.cells #[.int .i64 R, .int .i64 C, .bool f, u0, .slice Ax mm cx, .int .i64 p, .int .i64 q, .int .i64 m, .string T] 35 (0, 0))) := Lib.hid (old_alloc (new_alloc _ _ _ rfl) _)
  gi_wp2_with (first
    | (refine ⟨trivial, ?_⟩; gi_at_call 34; refine (callsIn_wide.2 (HRP.out _ HPV.out)).mono ?_; rintro e w1 ⟨vl, rfl, hol, hbl⟩; obtain ⟨bl, cap, rfl, hbl1, hbl2⟩ := hol.shape (by rw [List.length_replicate]; omega); rw [List.length_replicate] at hbl2 hol ⊢; have hp1 := Blk.kept HP0.out hbl; have g0 : w1.cell? ⟨w.heap.size, 0, none⟩ = some (.int .i64 R) := Blk.cell hp1 0; have g1 : w1.cell? ⟨w.heap.size, 1, none⟩ = some (.int .i64 C) := Blk.cell hp1 1; have g2 : w1.cell? ⟨w.heap.size, 2, none⟩ = some (.bool f) := Blk.cell hp1 2; have g3 : w1.cell? ⟨w.heap.size, 3, none⟩ = some u0 := Blk.cell hp1 3; have g4 : w1.cell? ⟨w.heap.size, 4, none⟩ = some (.slice Ax mm cx) := Blk.cell hp1 4; have g5 : w1.cell? ⟨w.heap.size, 5, none⟩ = some (.int .i64 p) := Blk.cell hp1 5; have g6 : w1.cell? ⟨w.heap.size, 6, none⟩ = some (.int .i64 q) := Blk.cell hp1 6; have g7 : w1.cell? ⟨w.heap.size, 7, none⟩ = some (.int .i64 m) := Blk.cell hp1 7; have g8 : w1.cell? ⟨w.heap.size, 8, none⟩ = some (.string T) := Blk.cell hp1 8; have HP1 := Lib.hid hp1; have HB1 : Hid (Below w.heap.size w w1) := Lib.hid (HB0.out.trans (hbl.mono HB0.out.size)); have HOL : Hid (OwnP w1 w.heap.size (.slice (some ⟨bl, 0, none⟩) R cap) (List.replicate R none)) := Lib.hid (hol.low (by simp; omega)); have HLB : Hid (w.heap.size + 2 ≤ bl) := Lib.hid (by have h := hbl1; simp only [World.size_alloc] at h; omega); have hlt1 : w.heap.size < w1.heap.size := Blk.lt hp1; clear hol hbl hbl1 hp1)
    | (refine ⟨trivial, ?_⟩; gi_at_call 35; refine (callsIn_wide.2 (HRW.out _ (HB1.out.alloc HB1.out.size _))).mono ?_; rintro e w2 ⟨vat, rfl, hsl, hcl, hb2⟩; obtain ⟨Aat, cat, rfl, _⟩ := id hsl.room; rw [HNL.out] at hsl hcl ⊢; have hp2 := Blk.kept (old_alloc HP1.out (.cells #[.slice (some ⟨bl, 0, none⟩) R cap] 51 (0, 0))) hb2; have j0 : w2.cell? ⟨w.heap.size, 0, none⟩ = some (.int .i64 R) := Blk.cell hp2 0; have j1 : w2.cell? ⟨w.heap.size, 1, none⟩ = some (.int .i64 C) := Blk.cell hp2 1; have j2 : w2.cell? ⟨w.heap.size, 2, none⟩ = some (.bool f) := Blk.cell hp2 2; have j3 : w2.cell? ⟨w.heap.size, 3, none⟩ = some u0 := Blk.cell hp2 3; have j4 : w2.cell? ⟨w.heap.size, 4, none⟩ = some (.slice Ax mm cx) := Blk.cell hp2 4; have j5 : w2.cell? ⟨w.heap.size, 5, none⟩ = some (.int .i64 p) := Blk.cell hp2 5; have j6 : w2.cell? ⟨w.heap.size, 6, none⟩ = some (.int .i64 q) := Blk.cell hp2 6; have j7 : w2.cell? ⟨w.heap.size, 7, none⟩ = some (.int .i64 m) := Blk.cell hp2 7; have j8 : w2.cell? ⟨w.heap.size, 8, none⟩ = some (.string T) := Blk.cell hp2 8; have HSL := Lib.hid hsl; have HCL := Lib.hid hcl; have HBX : Hid (w2.heap[w1.heap.size]? = some (.cells #[.slice (some ⟨bl, 0, none⟩) R cap] 51 (0, 0))) := Lib.hid (Blk.kept (new_alloc _ _ _ rfl) hb2); have HOL2 := Lib.hid ((HOL.out.kept ((Below.refl _ _).alloc (Nat.le_refl _) (.cells #[.slice (some ⟨bl, 0, none⟩) R cap] 51 (0, 0)))).kept hb2); have HB2 := Lib.hid ((HB1.out.alloc HB1.out.size (.cells #[.slice (some ⟨bl, 0, none⟩) R cap] 51 (0, 0))).trans (hb2.mono (by have := HB1.out.size; rw [World.size_alloc]; omega))); have hlt2 : w.heap.size < w2.heap.size := Blk.lt hp2; have HSZ : Hid (w1.heap.size + 1 ≤ w2.heap.size) := Lib.hid (by have := hb2.size; rwa [World.size_alloc] at this); clear hsl hcl hb2 hp2 g0 g1 g2 g3 g4 g5 g6 g7 g8)
    | (refine ⟨trivial, ?_⟩; gi_at_call 36; refine (callsIn_wide.2 (chunk_any _ _ _ C hC1 _)).mono ?_; rintro e w' ⟨rfl, rfl⟩))
  clear j0 j1 j2 j3 j4 j5 j6 j7 j8
  have hn40 : n ≤ 40 := Nat.le_trans hn hR
  have hbl1 : bl < w1.heap.size := (World.ownsRow.lt HOL.out bl rfl).2
  have hsz0 : (((w2.alloc (.cells #[.slice Aat n cat] 33 (0, 0))).alloc (.cells #[.slice Ax mm cx] 28 (0, 0))).alloc (.cells #[.int .i64 C] 3 (0, 0))).heap.size = w2.heap.size + 3 := by simp
  have hbl2 := ((((Below.refl w2.heap.size w2).alloc (Nat.le_refl _) (.cells #[.slice Aat n cat] 33 (0, 0))).alloc (by simp) (.cells #[.slice Ax mm cx] 28 (0, 0))).alloc (by simp; omega) (.cells #[.int .i64 C] 3 (0, 0)))
  have hB0 : Below w.heap.size w (((w2.alloc (.cells #[.slice Aat n cat] 33 (0, 0))).alloc (.cells #[.slice Ax mm cx] 28 (0, 0))).alloc (.cells #[.int .i64 C] 3 (0, 0))) := HB2.out.trans (hbl2.mono HB2.out.size)
  have hbx0 : (((w2.alloc (.cells #[.slice Aat n cat] 33 (0, 0))).alloc (.cells #[.slice Ax mm cx] 28 (0, 0))).alloc (.cells #[.int .i64 C] 3 (0, 0))).heap[w1.heap.size]? = some (.cells #[.slice (some ⟨bl, 0, none⟩) R cap] 51 (0, 0)) := Blk.kept HBX.out hbl2
  have hbt0 : Boxed (((w2.alloc (.cells #[.slice Aat n cat] 33 (0, 0))).alloc (.cells #[.slice Ax mm cx] 28 (0, 0))).alloc (.cells #[.int .i64 C] 3 (0, 0))) w2.heap.size 33 (.slice Aat n cat) := ((Boxed.new w2 _ _).alloc _).alloc _
  have hc1 : Boxed (((w2.alloc (.cells #[.slice Aat n cat] 33 (0, 0))).alloc (.cells #[.slice Ax mm cx] 28 (0, 0))).alloc (.cells #[.int .i64 C] 3 (0, 0))) (w2.heap.size + 1) 28 (.slice Ax mm cx) := Boxed.alloc (by have := Boxed.new (w2.alloc (.cells #[.slice Aat n cat] 33 (0, 0))) 28 (.slice Ax mm cx); rwa [World.size_alloc] at this) _
  have hc2 : Boxed (((w2.alloc (.cells #[.slice Aat n cat] 33 (0, 0))).alloc (.cells #[.slice Ax mm cx] 28 (0, 0))).alloc (.cells #[.int .i64 C] 3 (0, 0))) (w2.heap.size + 1 + 1) 3 (.int .i64 C) := by
    have := Boxed.new ((w2.alloc (.cells #[.slice Aat n cat] 33 (0, 0))).alloc (.cells #[.slice Ax mm cx] 28 (0, 0))) 3 (.int .i64 C); rwa [World.size_alloc, World.size_alloc] at this
  have hO0 : OwnP (((w2.alloc (.cells #[.slice Aat n cat] 33 (0, 0))).alloc (.cells #[.slice Ax mm cx] 28 (0, 0))).alloc (.cells #[.int .i64 C] 3 (0, 0))) w.heap.size (.slice (some ⟨bl, 0, none⟩) R cap) (List.replicate R none) := HOL2.out.kept hbl2
  have hS0 : Sl (((w2.alloc (.cells #[.slice Aat n cat] 33 (0, 0))).alloc (.cells #[.slice Ax mm cx] 28 (0, 0))).alloc (.cells #[.int .i64 C] 3 (0, 0))) (.slice Aat n cat) nn := HSL.out.kept hbl2
  have HCL2 : Hid (ln ≠ [] → Clear bl (.slice Aat n cat) ∧ Clear w2.heap.size (.slice Aat n cat)) := Lib.hid fun h => ⟨HCL.out h bl (by have := HLB.out; omega) (.inl (by rw [World.size_alloc]; omega)), HCL.out h w2.heap.size (by omega) (.inr (Nat.le_refl _))⟩
  have hsz1 := HSZ.out
  clear HOL2 HSL HBX HB2 HCL HPV HB0 HP0 HP1 HB1 HRP HRW hbl2 HOL
  generalize (((w2.alloc (.cells #[.slice Aat n cat] 33 (0, 0))).alloc (.cells #[.slice Ax mm cx] 28 (0, 0))).alloc (.cells #[.int .i64 C] 3 (0, 0))) = w0 at hsz0 hB0 hbx0 hbt0 hc1 hc2 hO0 hS0 ⊢
  generalize hb1e : w1.heap.size = b3 at hbl1 hbx0 hsz1 ⊢
  generalize hb2e : w2.heap.size = b at hsz0 hbt0 hc1 hc2 hsz1 hlt2 HCL2 ⊢
  have HTV := Lib.hid (fun k hk => tailV_all hS0 k hk)
  have HTL : Hid (tailV (.slice Aat n cat) 0 = .slice Aat n cat) := Lib.hid rfl
  have q2 := hc1.cell
  have q3 := hc2.cell
  have hbB0 := hB0
  rw [HM.out] at q2
  refine wpIn_rangeFunc_ownG rfl (by omega) (gf := 49) (lb := #[.pointer (some ⟨b + 1, 0, none⟩), .pointer (some ⟨b + 1 + 1, 0, none⟩)]) rfl trivial (enters_of Tryd.func49 (by kernel_rfl) rfl)
    (chunkA_stops (6 - 1) (by omega) (b + 1) (b + 1 + 1) Ax n C cx hn40 hC1 hC (by rw [← HM.out]; exact hcp) HA.out cv (fun i hi => (HCV.out i hi).1) w0 (by omega) (by omega) q2 q3) (fun h k => h.trans k) (two_b (by omega) (by omega)) (Below.refl _ _) (fun _ => rfl)
    (fun pre W => LP w w0 w.heap.size bl b cap R (.slice Aat n cat) cv (Row.rowAt cl C) ln (pre.map (·.1)) W)
    (fun _ _ _ => False)
    (LP.from (fun pre : List (Lt n) => pre.map (·.1)) hB0.size (by omega) (by omega))
    (fun _ _ _ _ _ hs _ _ => hs)
    ⟨fun _ _ _ _ => rfl, hO0, hbt0, hB0, Nat.le_refl _⟩
    (fun y => { tmps := #[.agg #[.int .i64 R, .int .i64 C, .bool f, u0, .slice Ax mm cx, .int .i64 p, .int .i64 q, .int .i64 m, .string T], .pointer (some ⟨w.heap.size, 0, none⟩), .slice none 0 0, .pointer (some ⟨b3, 0, none⟩), .pointer (some ⟨b, 0, none⟩), cv y.1, .agg #[], .iface 71 (.agg #[]), .slice (some ⟨w.heap.size + 1, 0, none⟩) 1 1, .pointer (some ⟨w.heap.size, 0, none⟩), .int .i64 R, .slice (some ⟨bl, 0, none⟩) R cap,
      .agg #[.int .i64 R, .int .i64 C, .bool f, u0, .slice Ax mm cx, .int .i64 p, .int .i64 q, .int .i64 m, .string T], .slice Aat n cat, .pointer (some ⟨w.heap.size, 4, none⟩), .slice Ax mm cx, .pointer (some ⟨w.heap.size, 1, none⟩), .int .i64 C,
      .func (.func 49) #[] #[.pointer (some ⟨b + 1, 0, none⟩), .pointer (some ⟨b + 1 + 1, 0, none⟩)], cv y.1, undef, undef, undef, undef, undef, undef, undef, undef, undef, undef], defers := [] }) ?assign ?body ?done ?stop
  case assign =>
    intro l x W K hK
    gi_wp2
    exact hK
  case body =>
    rintro l' pre ⟨i, hi'⟩ W ⟨hag, hown, hbt, hBW, hSZ⟩ hlt
    have hpl : (pre.map (·.1)).length = pre.length := List.length_map _
    rw [hpl] at hbt
    have hkn : pre.length < nn.length := by rw [HNL.out]; exact hlt
    obtain ⟨hs, hcl, hrun⟩ := HTV.out pre.length (by omega)
    obtain ⟨hs2, _, _⟩ := HTV.out (pre.length + 1) (by omega)
    have hrun := hrun hkn
    obtain ⟨A1, c1, e1, _⟩ := hs.room
    obtain ⟨A2, c2, e2, _⟩ := hs2.room
    have hne : ln ≠ [] := fun e => by have := HLN.out; rw [e] at this; simp at this; omega
    have hcb := hcl bl (HCL2.out hne).1
    have hct := hcl b (HCL2.out hne).2
    rw [e1] at hs hcb hct hbt hrun
    rw [e2] at hrun
    obtain ⟨ad, rfl, hE⟩ := hs.get 0 (by rw [List.length_drop]; omega)
    have hnb : ad.block ≠ bl := hcb ad _ _ rfl
    have hnt : ad.block ≠ b := hct ad _ _ rfl
    have hE : W.cell? ad = some (.int .i64 ((ln.getD pre.length 0 : Nat) : Int)) := by
      have h0 : ad.add 0 = ad := by unfold Addr.add; simp
      rw [h0] at hE
      have hbl : ad.block < w0.heap.size := World.block_lt_of_cell? _ _ hE
      have : W.cell? ad = w0.cell? ad := by unfold World.cell?; rw [hag ad.block hbl hnb hnt]
      rw [this, hE]
      have hkl : pre.length < ln.length := by rw [HLN.out]; exact hlt
      congr 2
      rw [HNN.out]
      unfold ofN
      simp [List.getD, hkl]
    have hiR : ln.getD pre.length 0 < R := HLT.out _ (by
      have hkl : pre.length < ln.length := by rw [HLN.out]; exact hlt
      rw [List.getD_eq_getElem?_getD, List.getElem?_eq_getElem hkl]; exact List.getElem_mem hkl)
    have HSN : Hid (lineOf cv (Row.rowAt cl C) ln R ((pre ++ [(⟨i, hi'⟩ : Lt n)]).map (·.1)) = (lineOf cv (Row.rowAt cl C) ln R (pre.map (·.1))).set (ln.getD pre.length 0) (some (cv i, Row.rowAt cl C i))) := Lib.hid (by
      rw [List.map_append, List.map_singleton, lineOf_snoc, List.length_map])
    have HLL : Hid ((lineOf cv (Row.rowAt cl C) ln R (pre.map (·.1))).length = R) := Lib.hid (lineOf_length _ _ _ _ _)
    have HE2 : Hid (tailV (.slice Aat n cat) ((pre ++ [(⟨i, hi'⟩ : Lt n)]).map (·.1)).length = .slice A2 (nn.drop (pre.length + 1)).length c2) := Lib.hid (by rw [List.length_map, List.length_append, List.length_singleton]; exact e2)
    generalize ln.getD pre.length 0 = i0 at hE hiR HSN
    have hco := hown.cell (k := i0) (by rw [HLL.out]; exact hiR)
    have hfo := hown.free i0
    have hput := hown.put i0 (some (cv i, Row.rowAt cl C i))
    rw [← HSN.out] at hput
    have HPUT := Lib.hid hput
    obtain ⟨oT, ov, hov⟩ : ∃ T v, li ((lineOf cv (Row.rowAt cl C) ln R (pre.map (·.1))).getD i0 default) = .iface T v := by
      cases (lineOf cv (Row.rowAt cl C) ln R (pre.map (·.1))).getD i0 default with
      | none => exact ⟨_, _, rfl⟩
      | some z => exact ⟨_, _, rfl⟩
    rw [hov] at hco
    have hbx : Boxed W b3 51 (.slice (some ⟨bl, 0, none⟩) R cap) := (hag b3 (by omega) (by omega) (by omega)).trans hbx0
    have hx1 : Boxed W (b + 1) 28 (.slice Ax mm cx) := (hag (b + 1) (by omega) (by omega) (by omega)).trans hc1
    have hx2 : Boxed W (b + 1 + 1) 3 (.int .i64 C) := (hag (b + 1 + 1) (by omega) (by omega) (by omega)).trans hc2
    have hb3c := hbx.cell
    have hbtc := hbt.cell
    have hbtf := hbt.frozen
    have hbne : ¬ bl = b := by omega
    have hbne2 : ¬ b = bl := by omega
    have hlen1 : (nn.drop pre.length).length = n - pre.length := by rw [List.length_drop, HNL.out]
    have hpos : 0 < n - pre.length := by omega
    rw [hlen1] at hbtc hrun
    have HAG := Lib.hid hag
    have HBT := Lib.hid hbt
    have HBW2 := Lib.hid hBW
    have HX1 := Lib.hid hx1
    have HX2 := Lib.hid hx2
    clear hag hbt hBW hx1 hx2 hown hput hov hs hs2 hcl e1 e2 hcb hct HSN
    generalize (nn.drop (pre.length + 1)).length = n2 at hrun HE2
    generalize n - pre.length = n1 at hlen1 hrun hbtc hpos
    gi_wp2
    refine wpIn_region_any (by kernel_rfl) ?_
    change wpAnyIn _ _ _ _ _ _ _ _ _ (World.drew _)
    refine Msk.anyIn_mask (fun l a wd => l.size = 11 ∧ Msk.Stay a 30 [(3, Value.pointer (some ⟨b3, 0, none⟩)), (4, .pointer (some ⟨b, 0, none⟩)), (5, cv i)] ∧ Msk.Has l a [(0, 20, Value.slice (some ⟨bl, 0, none⟩) R cap), (1, 21, .slice (some ad) n1 c1), (2, 22, .pointer (some ad)), (3, 23, .int .i64 (i0 : Int)), (4, 24, cv i), (5, 25, .iface 76 (cv i)), (6, 26, .slice (some ad) n1 c1), (7, 27, .slice A2 n2 c2), (8, 28, .pointer (some ⟨bl, i0, none⟩))] ∧ (l.getD 9 false = true → ∀ j ∈ [0, 1, 2, 3, 4, 5, 8], l.getD j false = true) ∧ (l.getD 10 false = true → ∀ j, j < 10 → l.getD j false = true) ∧ wd = if l.getD 10 false = true then ((W.drew.setCell ⟨bl, i0, none⟩ (.iface 76 (cv i))).setCell ⟨b, 0, none⟩ (.slice A2 n2 c2)) else if l.getD 9 false = true then (W.drew.setCell ⟨bl, i0, none⟩ (.iface 76 (cv i))) else W.drew) ?sz ?step ?fin _ _ _ _ (List.range 11) (by simp) Msk.start ⟨by simp, ⟨by simp, ?st⟩, ?has, ?h9, ?h10, ?hw⟩
    case sz => exact fun l a wd h => h.1
    case st => intro x hx; simp only [List.mem_cons, List.not_mem_nil, or_false] at hx; rcases hx with rfl | rfl | rfl <;> rfl
    case has => intro x hx hb; simp only [List.mem_cons, List.not_mem_nil, or_false] at hx; rcases hx with rfl | rfl | rfl | rfl | rfl | rfl | rfl | rfl | rfl <;> cases hb
    case h9 => intro hb; cases hb
    case h10 => intro hb; cases hb
    case hw => rfl
    case fin =>
      rintro l a wd ⟨hls, hst, hhas, h9, h10, rfl⟩ hr
      have hall := Msk.all_come (Msk.low_of (by kernel_rfl)) (by rw [hls]; rfl) hr
      rw [if_pos (hall 10 (by decide))]
      have hk2 : KeepsOthers W ((W.drew.setCell ⟨bl, i0, none⟩ (.iface 76 (cv i))).setCell ⟨b, 0, none⟩ (.slice A2 n2 c2)) := ((⟨Nat.le_refl _, fun _ _ h _ => h⟩ : KeepsOthers W W.drew).trans (KeepsOthers.setCell _ _ _)).trans (KeepsOthers.setCell _ _ _)
      have hy1 : Boxed ((W.drew.setCell ⟨bl, i0, none⟩ (.iface 76 (cv i))).setCell ⟨b, 0, none⟩ (.slice A2 n2 c2)) (b + 1) 28 (.slice Ax mm cx) := Blk.other (Blk.other (w := W.drew) HX1.out (by omega) _ _) (by omega) _ _
      have hy2 : Boxed ((W.drew.setCell ⟨bl, i0, none⟩ (.iface 76 (cv i))).setCell ⟨b, 0, none⟩ (.slice A2 n2 c2)) (b + 1 + 1) 3 (.int .i64 C) := Blk.other (Blk.other (w := W.drew) HX2.out (by omega) _ _) (by omega) _ _
      have hyb : Boxed ((W.drew.setCell ⟨bl, i0, none⟩ (.iface 76 (cv i))).setCell ⟨b, 0, none⟩ (.slice A2 n2 c2)) b 33 (.slice A2 n2 c2) := Blk.set (Blk.other (w := W.drew) HBT.out (by omega) _ _) 0 _
      have hyo : OwnP ((W.drew.setCell ⟨bl, i0, none⟩ (.iface 76 (cv i))).setCell ⟨b, 0, none⟩ (.slice A2 n2 c2)) w.heap.size (.slice (some ⟨bl, 0, none⟩) R cap) (lineOf cv (Row.rowAt cl C) ln R ((pre ++ [(⟨i, hi'⟩ : Lt n)]).map (·.1))) := HPUT.out.other (g := b) (by intro q; exact hbne (by injection q)) 0 (.slice A2 n2 c2)
      have hyw : Below w.heap.size w ((W.drew.setCell ⟨bl, i0, none⟩ (.iface 76 (cv i))).setCell ⟨b, 0, none⟩ (.slice A2 n2 c2)) := (HBW2.out.drew.setCell (p := ⟨bl, i0, none⟩) (by have := HLB.out; show w.heap.size ≤ bl; omega) _).setCell (p := ⟨b, 0, none⟩) (by show w.heap.size ≤ b; omega) _
      have hys : w0.heap.size ≤ ((W.drew.setCell ⟨bl, i0, none⟩ (.iface 76 (cv i))).setCell ⟨b, 0, none⟩ (.slice A2 n2 c2)).heap.size := by rw [World.size_setCell, World.size_setCell]; exact hSZ
      have hyg : ∀ g, g < w0.heap.size → g ≠ bl → g ≠ b → ((W.drew.setCell ⟨bl, i0, none⟩ (.iface 76 (cv i))).setCell ⟨b, 0, none⟩ (.slice A2 n2 c2)).heap[g]? = w0.heap[g]? := fun g q1 q2 q3 => by
        rw [← HAG.out g q1 q2 q3]
        have hlt : g < W.heap.size := Nat.lt_of_lt_of_le q1 hSZ
        obtain ⟨ob, hob⟩ : ∃ ob, W.heap[g]? = some ob := ⟨_, Array.getElem?_eq_getElem hlt⟩
        rw [hob]
        exact Blk.other (Blk.other (w := W.drew) hob q2 _ _) q3 _ _
      generalize ((W.drew.setCell ⟨bl, i0, none⟩ (.iface 76 (cv i))).setCell ⟨b, 0, none⟩ (.slice A2 n2 c2)) = wz at hk2 hy1 hy2 hyb hyo hyw hys hyg ⊢
      clear hst hhas h9 h10 hall hr hls
      gi_wp2
      refine ⟨hk2.from _, ⟨hy1.trans HX1.out.symm, hy2.trans HX2.out.symm⟩, hyg, hyo, ?_, hyw, hys⟩
      rw [HE2.out]; exact hyb
    case step =>
      rintro j o l a wd hM ⟨hls, hst, hhas, h9, h10, hwd⟩ K hK
      have hj : j < 11 := by have := hM.lt; omega
      have e3 := hst.2 _ (List.mem_cons_self ..)
      have e4 := hst.2 _ (List.mem_cons_of_mem _ (List.mem_cons_self ..))
      have e5 := hst.2 _ (List.mem_cons_of_mem _ (List.mem_cons_of_mem _ (List.mem_cons_self ..)))
      have q3 := Msk.eval_of e3
      have q4 := Msk.eval_of e4
      have q5 := Msk.eval_of e5
      simp only at e3 e4 e5 q3 q4 q5
      rcases (by omega : j = 0 ∨ j = 1 ∨ j = 2 ∨ j = 3 ∨ j = 4 ∨ j = 5 ∨ j = 6 ∨ j = 7 ∨ j = 8 ∨ j = 9 ∨ j = 10) with rfl | rfl | rfl | rfl | rfl | rfl | rfl | rfl | rfl | rfl | rfl
      · have ho := hM.op
        simp only [List.getElem?_toArray, List.getElem?_cons_zero, Option.some.injEq] at ho
        subst ho
        have n9 : l.getD 9 false = false := by
          cases e : l.getD 9 false with
          | false => rfl
          | true => have := h9 e 0 (by simp); rw [hM.un] at this; cases this
        have n10 : l.getD 10 false = false := by
          cases e : l.getD 10 false with
          | false => rfl
          | true => have := h10 e 0 (by decide); rw [hM.un] at this; cases this
        have HWD := Lib.hid hwd
        rw [n9, n10] at hwd
        simp only [Bool.false_eq_true, if_false] at hwd
        subst hwd
        go_simp
        exact hK _ _ ⟨by rw [Array.size_setIfInBounds]; exact hls, hst.put (d := 20) (v := Value.slice (some ⟨bl, 0, none⟩) R cap) (by intro x hx; simp only [List.mem_cons, List.not_mem_nil, or_false] at hx; rcases hx with rfl | rfl | rfl <;> simp), hhas.put (d := 20) (v := Value.slice (some ⟨bl, 0, none⟩) R cap) hM.lt (by decide) hst.1 (by intro x hx; simp only [List.mem_cons, List.not_mem_nil, or_false] at hx; rcases hx with rfl | rfl | rfl | rfl | rfl | rfl | rfl | rfl | rfl <;> exact ⟨fun e => by first | rfl | (simp at e), fun e => by first | exact absurd rfl e | simp⟩), fun hb j hj => getD_set_true (h9 (by rwa [Msk.getD_put hM.lt, if_neg (by decide)] at hb) j hj), fun hb j hj => getD_set_true (h10 (by rwa [Msk.getD_put hM.lt, if_neg (by decide)] at hb) j hj), by rw [Msk.getD_put hM.lt, Msk.getD_put hM.lt, if_neg (show ¬ (10 : Nat) = 0 by decide), if_neg (show ¬ (9 : Nat) = 0 by decide)]; exact HWD.out⟩
      · have ho := hM.op
        simp only [List.getElem?_toArray, List.getElem?_cons_zero, List.getElem?_cons_succ, Option.some.injEq] at ho
        subst ho
        have n9 : l.getD 9 false = false := by
          cases e : l.getD 9 false with
          | false => rfl
          | true => have := h9 e 1 (by simp); rw [hM.un] at this; cases this
        have n10 : l.getD 10 false = false := by
          cases e : l.getD 10 false with
          | false => rfl
          | true => have := h10 e 1 (by decide); rw [hM.un] at this; cases this
        have HWD := Lib.hid hwd
        rw [n9, n10] at hwd
        simp only [Bool.false_eq_true, if_false] at hwd
        subst hwd
        go_simp
        exact hK _ _ ⟨by rw [Array.size_setIfInBounds]; exact hls, hst.put (d := 21) (v := .slice (some ad) n1 c1) (by intro x hx; simp only [List.mem_cons, List.not_mem_nil, or_false] at hx; rcases hx with rfl | rfl | rfl <;> simp), hhas.put (d := 21) (v := .slice (some ad) n1 c1) hM.lt (by decide) hst.1 (by intro x hx; simp only [List.mem_cons, List.not_mem_nil, or_false] at hx; rcases hx with rfl | rfl | rfl | rfl | rfl | rfl | rfl | rfl | rfl <;> exact ⟨fun e => by first | rfl | (simp at e), fun e => by first | exact absurd rfl e | simp⟩), fun hb j hj => getD_set_true (h9 (by rwa [Msk.getD_put hM.lt, if_neg (by decide)] at hb) j hj), fun hb j hj => getD_set_true (h10 (by rwa [Msk.getD_put hM.lt, if_neg (by decide)] at hb) j hj), by rw [Msk.getD_put hM.lt, Msk.getD_put hM.lt, if_neg (show ¬ (10 : Nat) = 1 by decide), if_neg (show ¬ (9 : Nat) = 1 by decide)]; exact HWD.out⟩
      · have ho := hM.op
        simp only [List.getElem?_toArray, List.getElem?_cons_zero, List.getElem?_cons_succ, Option.some.injEq] at ho
        subst ho
        have hb1 := hM.has 1 (by rfl)
        have r1 := hhas _ (List.mem_cons_of_mem _ (List.mem_cons_self ..)) hb1
        have u1 := Msk.eval_of r1
        simp only at r1 u1
        have HWD := Lib.hid hwd
        clear hwd
        go_simp
        exact hK _ _ ⟨by rw [Array.size_setIfInBounds]; exact hls, hst.put (d := 22) (v := .pointer (some ad)) (by intro x hx; simp only [List.mem_cons, List.not_mem_nil, or_false] at hx; rcases hx with rfl | rfl | rfl <;> simp), hhas.put (d := 22) (v := .pointer (some ad)) hM.lt (by decide) hst.1 (by intro x hx; simp only [List.mem_cons, List.not_mem_nil, or_false] at hx; rcases hx with rfl | rfl | rfl | rfl | rfl | rfl | rfl | rfl | rfl <;> exact ⟨fun e => by first | rfl | (simp at e), fun e => by first | exact absurd rfl e | simp⟩), fun hb j hj => getD_set_true (h9 (by rwa [Msk.getD_put hM.lt, if_neg (by decide)] at hb) j hj), fun hb j hj => getD_set_true (h10 (by rwa [Msk.getD_put hM.lt, if_neg (by decide)] at hb) j hj), by rw [Msk.getD_put hM.lt, Msk.getD_put hM.lt, if_neg (show ¬ (10 : Nat) = 2 by decide), if_neg (show ¬ (9 : Nat) = 2 by decide)]; exact HWD.out⟩
      · have ho := hM.op
        simp only [List.getElem?_toArray, List.getElem?_cons_zero, List.getElem?_cons_succ, Option.some.injEq] at ho
        subst ho
        have hb2 := hM.has 2 (by rfl)
        have r2 := hhas _ (List.mem_cons_of_mem _ (List.mem_cons_of_mem _ (List.mem_cons_self ..))) hb2
        have u2 := Msk.eval_of r2
        simp only at r2 u2
        have n9 : l.getD 9 false = false := by
          cases e : l.getD 9 false with
          | false => rfl
          | true => have := h9 e 3 (by simp); rw [hM.un] at this; cases this
        have n10 : l.getD 10 false = false := by
          cases e : l.getD 10 false with
          | false => rfl
          | true => have := h10 e 3 (by decide); rw [hM.un] at this; cases this
        have HWD := Lib.hid hwd
        rw [n9, n10] at hwd
        simp only [Bool.false_eq_true, if_false] at hwd
        subst hwd
        go_simp
        exact hK _ _ ⟨by rw [Array.size_setIfInBounds]; exact hls, hst.put (d := 23) (v := .int .i64 (i0 : Int)) (by intro x hx; simp only [List.mem_cons, List.not_mem_nil, or_false] at hx; rcases hx with rfl | rfl | rfl <;> simp), hhas.put (d := 23) (v := .int .i64 (i0 : Int)) hM.lt (by decide) hst.1 (by intro x hx; simp only [List.mem_cons, List.not_mem_nil, or_false] at hx; rcases hx with rfl | rfl | rfl | rfl | rfl | rfl | rfl | rfl | rfl <;> exact ⟨fun e => by first | rfl | (simp at e), fun e => by first | exact absurd rfl e | simp⟩), fun hb j hj => getD_set_true (h9 (by rwa [Msk.getD_put hM.lt, if_neg (by decide)] at hb) j hj), fun hb j hj => getD_set_true (h10 (by rwa [Msk.getD_put hM.lt, if_neg (by decide)] at hb) j hj), by rw [Msk.getD_put hM.lt, Msk.getD_put hM.lt, if_neg (show ¬ (10 : Nat) = 3 by decide), if_neg (show ¬ (9 : Nat) = 3 by decide)]; exact HWD.out⟩
      · have ho := hM.op
        simp only [List.getElem?_toArray, List.getElem?_cons_zero, List.getElem?_cons_succ, Option.some.injEq] at ho
        subst ho
        have HWD := Lib.hid hwd
        clear hwd
        go_simp
        exact hK _ _ ⟨by rw [Array.size_setIfInBounds]; exact hls, hst.put (d := 24) (v := cv i) (by intro x hx; simp only [List.mem_cons, List.not_mem_nil, or_false] at hx; rcases hx with rfl | rfl | rfl <;> simp), hhas.put (d := 24) (v := cv i) hM.lt (by decide) hst.1 (by intro x hx; simp only [List.mem_cons, List.not_mem_nil, or_false] at hx; rcases hx with rfl | rfl | rfl | rfl | rfl | rfl | rfl | rfl | rfl <;> exact ⟨fun e => by first | rfl | (simp at e), fun e => by first | exact absurd rfl e | simp⟩), fun hb j hj => getD_set_true (h9 (by rwa [Msk.getD_put hM.lt, if_neg (by decide)] at hb) j hj), fun hb j hj => getD_set_true (h10 (by rwa [Msk.getD_put hM.lt, if_neg (by decide)] at hb) j hj), by rw [Msk.getD_put hM.lt, Msk.getD_put hM.lt, if_neg (show ¬ (10 : Nat) = 4 by decide), if_neg (show ¬ (9 : Nat) = 4 by decide)]; exact HWD.out⟩
      · have ho := hM.op
        simp only [List.getElem?_toArray, List.getElem?_cons_zero, List.getElem?_cons_succ, Option.some.injEq] at ho
        subst ho
        have hb4 := hM.has 4 (by rfl)
        have r4 := hhas _ (List.mem_cons_of_mem _ (List.mem_cons_of_mem _ (List.mem_cons_of_mem _ (List.mem_cons_of_mem _ (List.mem_cons_self ..))))) hb4
        have u4 := Msk.eval_of r4
        simp only at r4 u4
        have HWD := Lib.hid hwd
        clear hwd
        go_simp
        exact hK _ _ ⟨by rw [Array.size_setIfInBounds]; exact hls, hst.put (d := 25) (v := .iface 76 (cv i)) (by intro x hx; simp only [List.mem_cons, List.not_mem_nil, or_false] at hx; rcases hx with rfl | rfl | rfl <;> simp), hhas.put (d := 25) (v := .iface 76 (cv i)) hM.lt (by decide) hst.1 (by intro x hx; simp only [List.mem_cons, List.not_mem_nil, or_false] at hx; rcases hx with rfl | rfl | rfl | rfl | rfl | rfl | rfl | rfl | rfl <;> exact ⟨fun e => by first | rfl | (simp at e), fun e => by first | exact absurd rfl e | simp⟩), fun hb j hj => getD_set_true (h9 (by rwa [Msk.getD_put hM.lt, if_neg (by decide)] at hb) j hj), fun hb j hj => getD_set_true (h10 (by rwa [Msk.getD_put hM.lt, if_neg (by decide)] at hb) j hj), by rw [Msk.getD_put hM.lt, Msk.getD_put hM.lt, if_neg (show ¬ (10 : Nat) = 5 by decide), if_neg (show ¬ (9 : Nat) = 5 by decide)]; exact HWD.out⟩
      · have ho := hM.op
        simp only [List.getElem?_toArray, List.getElem?_cons_zero, List.getElem?_cons_succ, Option.some.injEq] at ho
        subst ho
        have n10 : l.getD 10 false = false := by
          cases e : l.getD 10 false with
          | false => rfl
          | true => have := h10 e 6 (by decide); rw [hM.un] at this; cases this
        have HWD := Lib.hid hwd
        have hld : wd.cell? ⟨b, 0, none⟩ = some (.slice (some ad) n1 c1) := by
          rw [hwd, n10]
          simp only [Bool.false_eq_true, if_false]
          split
          · exact (Blk.cell (Blk.other (w := W.drew) HBT.out (by omega) _ _ : (W.drew.setCell ⟨bl, i0, none⟩ (.iface 76 (cv i))).heap[b]? = some (.cells #[.slice (some ad) (nn.drop pre.length).length c1] 33 (0, 0))) 0).trans (by rw [hlen1]; rfl)
          · exact hbtc
        clear hwd
        go_simp
        exact hK _ _ ⟨by rw [Array.size_setIfInBounds]; exact hls, hst.put (d := 26) (v := .slice (some ad) n1 c1) (by intro x hx; simp only [List.mem_cons, List.not_mem_nil, or_false] at hx; rcases hx with rfl | rfl | rfl <;> simp), hhas.put (d := 26) (v := .slice (some ad) n1 c1) hM.lt (by decide) hst.1 (by intro x hx; simp only [List.mem_cons, List.not_mem_nil, or_false] at hx; rcases hx with rfl | rfl | rfl | rfl | rfl | rfl | rfl | rfl | rfl <;> exact ⟨fun e => by first | rfl | (simp at e), fun e => by first | exact absurd rfl e | simp⟩), fun hb j hj => getD_set_true (h9 (by rwa [Msk.getD_put hM.lt, if_neg (by decide)] at hb) j hj), fun hb j hj => getD_set_true (h10 (by rwa [Msk.getD_put hM.lt, if_neg (by decide)] at hb) j hj), by rw [Msk.getD_put hM.lt, Msk.getD_put hM.lt, if_neg (show ¬ (10 : Nat) = 6 by decide), if_neg (show ¬ (9 : Nat) = 6 by decide)]; exact HWD.out⟩
      · have ho := hM.op
        simp only [List.getElem?_toArray, List.getElem?_cons_zero, List.getElem?_cons_succ, Option.some.injEq] at ho
        subst ho
        have hb6 := hM.has 6 (by rfl)
        have r6 := hhas _ (List.mem_cons_of_mem _ (List.mem_cons_of_mem _ (List.mem_cons_of_mem _ (List.mem_cons_of_mem _ (List.mem_cons_of_mem _ (List.mem_cons_of_mem _ (List.mem_cons_self ..))))))) hb6
        have u6 := Msk.eval_of r6
        simp only at r6 u6
        have HWD := Lib.hid hwd
        clear hwd
        go_simp
        exact hK _ _ ⟨by rw [Array.size_setIfInBounds]; exact hls, hst.put (d := 27) (v := .slice A2 n2 c2) (by intro x hx; simp only [List.mem_cons, List.not_mem_nil, or_false] at hx; rcases hx with rfl | rfl | rfl <;> simp), hhas.put (d := 27) (v := .slice A2 n2 c2) hM.lt (by decide) hst.1 (by intro x hx; simp only [List.mem_cons, List.not_mem_nil, or_false] at hx; rcases hx with rfl | rfl | rfl | rfl | rfl | rfl | rfl | rfl | rfl <;> exact ⟨fun e => by first | rfl | (simp at e), fun e => by first | exact absurd rfl e | simp⟩), fun hb j hj => getD_set_true (h9 (by rwa [Msk.getD_put hM.lt, if_neg (by decide)] at hb) j hj), fun hb j hj => getD_set_true (h10 (by rwa [Msk.getD_put hM.lt, if_neg (by decide)] at hb) j hj), by rw [Msk.getD_put hM.lt, Msk.getD_put hM.lt, if_neg (show ¬ (10 : Nat) = 7 by decide), if_neg (show ¬ (9 : Nat) = 7 by decide)]; exact HWD.out⟩
      · have ho := hM.op
        simp only [List.getElem?_toArray, List.getElem?_cons_zero, List.getElem?_cons_succ, Option.some.injEq] at ho
        subst ho
        have hb0 := hM.has 0 (by rfl)
        have r0 := hhas _ (List.mem_cons_self ..) hb0
        have u0 := Msk.eval_of r0
        simp only at r0 u0
        have hb3 := hM.has 3 (by rfl)
        have r3 := hhas _ (List.mem_cons_of_mem _ (List.mem_cons_of_mem _ (List.mem_cons_of_mem _ (List.mem_cons_self ..)))) hb3
        have u3 := Msk.eval_of r3
        simp only at r3 u3
        have HWD := Lib.hid hwd
        clear hwd
        go_simp
        exact hK _ _ ⟨by rw [Array.size_setIfInBounds]; exact hls, hst.put (d := 28) (v := .pointer (some ⟨bl, i0, none⟩)) (by intro x hx; simp only [List.mem_cons, List.not_mem_nil, or_false] at hx; rcases hx with rfl | rfl | rfl <;> simp), hhas.put (d := 28) (v := .pointer (some ⟨bl, i0, none⟩)) hM.lt (by decide) hst.1 (by intro x hx; simp only [List.mem_cons, List.not_mem_nil, or_false] at hx; rcases hx with rfl | rfl | rfl | rfl | rfl | rfl | rfl | rfl | rfl <;> exact ⟨fun e => by first | rfl | (simp at e), fun e => by first | exact absurd rfl e | simp⟩), fun hb j hj => getD_set_true (h9 (by rwa [Msk.getD_put hM.lt, if_neg (by decide)] at hb) j hj), fun hb j hj => getD_set_true (h10 (by rwa [Msk.getD_put hM.lt, if_neg (by decide)] at hb) j hj), by rw [Msk.getD_put hM.lt, Msk.getD_put hM.lt, if_neg (show ¬ (10 : Nat) = 8 by decide), if_neg (show ¬ (9 : Nat) = 8 by decide)]; exact HWD.out⟩
      · have ho := hM.op
        simp only [List.getElem?_toArray, List.getElem?_cons_zero, List.getElem?_cons_succ, Option.some.injEq] at ho
        subst ho
        have hb8 := hM.has 8 (by rfl)
        have r8 := hhas _ (List.mem_cons_of_mem _ (List.mem_cons_of_mem _ (List.mem_cons_of_mem _ (List.mem_cons_of_mem _ (List.mem_cons_of_mem _ (List.mem_cons_of_mem _ (List.mem_cons_of_mem _ (List.mem_cons_of_mem _ (List.mem_cons_self ..))))))))) hb8
        have u8 := Msk.eval_of r8
        simp only at r8 u8
        have hb5 := hM.has 5 (by rfl)
        have r5 := hhas _ (List.mem_cons_of_mem _ (List.mem_cons_of_mem _ (List.mem_cons_of_mem _ (List.mem_cons_of_mem _ (List.mem_cons_of_mem _ (List.mem_cons_self ..)))))) hb5
        have u5 := Msk.eval_of r5
        simp only at r5 u5
        have n9 := hM.un
        have n10 : l.getD 10 false = false := by
          cases e : l.getD 10 false with
          | false => rfl
          | true => have := h10 e 9 (by decide); rw [hM.un] at this; cases this
        have HWD := Lib.hid hwd
        rw [n9, n10] at hwd
        simp only [Bool.false_eq_true, if_false] at hwd
        subst hwd
        go_simp
        exact hK _ _ ⟨by rw [Array.size_setIfInBounds]; exact hls, hst, hhas.none hM.lt (by intro x hx; simp only [List.mem_cons, List.not_mem_nil, or_false] at hx; rcases hx with rfl | rfl | rfl | rfl | rfl | rfl | rfl | rfl | rfl <;> simp), fun _ j hj => getD_set_true (by simp only [List.mem_cons, List.not_mem_nil, or_false] at hj; rcases hj with rfl | rfl | rfl | rfl | rfl | rfl | rfl <;> exact hM.has _ (by rfl)), fun hb j hj => getD_set_true (h10 (by rwa [Msk.getD_put hM.lt, if_neg (by decide)] at hb) j hj), by rw [Msk.getD_put hM.lt, Msk.getD_put hM.lt, if_neg (show ¬ (10 : Nat) = 9 by decide), n10]; rfl⟩
      · have ho := hM.op
        simp only [List.getElem?_toArray, List.getElem?_cons_zero, List.getElem?_cons_succ, Option.some.injEq] at ho
        subst ho
        have hb7 := hM.has 7 (by rfl)
        have r7 := hhas _ (List.mem_cons_of_mem _ (List.mem_cons_of_mem _ (List.mem_cons_of_mem _ (List.mem_cons_of_mem _ (List.mem_cons_of_mem _ (List.mem_cons_of_mem _ (List.mem_cons_of_mem _ (List.mem_cons_self ..)))))))) hb7
        have u7 := Msk.eval_of r7
        simp only at r7 u7
        have n10 := hM.un
        have n9 := hM.has 9 (by rfl)
        have HWD := Lib.hid hwd
        rw [n9, n10] at hwd
        simp only [Bool.false_eq_true, if_false, if_true] at hwd
        subst hwd
        go_simp
        exact hK _ _ ⟨by rw [Array.size_setIfInBounds]; exact hls, hst, hhas.none hM.lt (by intro x hx; simp only [List.mem_cons, List.not_mem_nil, or_false] at hx; rcases hx with rfl | rfl | rfl | rfl | rfl | rfl | rfl | rfl | rfl <;> simp), fun hb j hj => getD_set_true (h9 (by rwa [Msk.getD_put hM.lt, if_neg (by decide)] at hb) j hj), fun _ j hj => getD_set_true (by rcases (by omega : j = 0 ∨ j = 1 ∨ j = 2 ∨ j = 3 ∨ j = 4 ∨ j = 5 ∨ j = 6 ∨ j = 7 ∨ j = 8 ∨ j = 9) with rfl | rfl | rfl | rfl | rfl | rfl | rfl | rfl | rfl | rfl <;> exact hM.has _ (by rfl)), by rw [Msk.getD_put hM.lt]; rfl⟩
  case done =>
    rintro D ys W hD hS ⟨hag, hown, hbt, hBW, hSZ⟩ hK
    have hbx : Boxed W b3 51 (.slice (some ⟨bl, 0, none⟩) R cap) := (hag b3 (by omega) (by omega) (by omega)).trans hbx0
    have hc := hbx.cell
    rw [show ys.map (·.1) = List.range n from hS, lineOf_range] at hown
    gi_wp2
    refine ⟨by simp, .inl ⟨_, _, rfl, run_takeDeferred hK, ?_⟩⟩
    refine ⟨_, results_tmp rfl _ _ _, ?_⟩
    exact hlast.out (W.putObj D (.deferred none)) (hBW.trans (belowK_b (w := w) (Nat.le_refl _) W D _ _ (by have := hB0.size; omega) hK rfl rfl)) _ (ownsRow_putObj hown _ hK rfl)
  case stop =>
    rintro D c pre W _ _ h _
    exact h.elim
end Pat
end
end Go.Proofs.YtjcfbeiljdohcaaDoor
