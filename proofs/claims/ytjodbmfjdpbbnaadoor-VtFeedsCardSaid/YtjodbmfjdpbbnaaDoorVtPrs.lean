/- The laws' argument: states (or not) and texts; a slice of states read one by one, and put behind a state; how heavy it is. -/
import Derived.Test.YtjodbmfjdpbbnaaDoorVtHelp
import Derived.Test.YtjodbmfjdpbbnaaDoorFine
import Derived.Test.YtjodbmfjdpbbnaaDoorTexts
import Derived.BigQuiet
namespace Go.Proofs.YtjodbmfjdpbbnaaDoor
set_option maxRecDepth 100000
open Go.ChangeShapes Go.WideShapes Go.RowKit
namespace Vl
open Vt

/-- A state's cells. -/
def psVals (p : Ps) (pv : Value) : List Value := [.int .i64 p.state, .string ⟨p.part.toArray⟩, pv, .string ⟨p.inter.toArray⟩, .string ⟨p.text.toArray⟩]
/-- A slice of states that reads as a list. -/
def Prs (w : World) (x : Value) (l : List Ps) : Prop :=
  ∃ pvs : List Value, pvs.length = l.length ∧ Recs w x 5 l.length (List.zipWith psVals l pvs) ∧ ∀ k, k < l.length → Src w (pvs.getD k undef) (l.getD k (none_ 0)).params.length (ints (l.getD k (none_ 0)).params)
theorem Prs.kept {w w' : World} {x : Value} {l : List Ps} (h : Prs w x l) (hb : Below w.heap.size w w') : Prs w' x l := by
  obtain ⟨pvs, h1, h2, h3⟩ := h
  exact ⟨pvs, h1, h2.kept hb, fun k hk => (h3 k hk).kept hb⟩
/-- By its parts. -/
theorem Prs.form {w : World} {x : Value} {l : List Ps} (h : Prs w x l) : ∃ A c, x = .slice A l.length c ∧ ∀ k, k < l.length → ∃ ad pv, A = some ad ∧ At w (ad.add (k * 5)) (psVals (l.getD k (none_ 0)) pv) ∧ Src w pv (l.getD k (none_ 0)).params.length (ints (l.getD k (none_ 0)).params) := by
  obtain ⟨pvs, h1, h2, h3⟩ := h
  obtain ⟨A, c, rfl, hf⟩ := h2.form
  refine ⟨A, c, rfl, fun k hk => ?_⟩
  obtain ⟨ad, rfl, ha⟩ := hf k hk
  refine ⟨ad, pvs.getD k undef, rfl, ?_, h3 k hk⟩
  have e : (List.zipWith psVals l pvs).getD k [] = psVals (l.getD k (none_ 0)) (pvs.getD k undef) := by
    have hp : k < pvs.length := by omega
    simp [List.getD, List.getElem?_zipWith, hk, hp]
  rw [e] at ha; exact ha

theorem str_of (s : ByteArray) : (⟨s.data.toList.toArray⟩ : ByteArray) = s := by cases s; simp
/-- How long a state's parts may be. -/
structure Slim (p : Ps) (T : Nat) : Prop where
  part : p.part.length ≤ T
  params : p.params.length ≤ T
  inter : p.inter.length ≤ T
  text : p.text.length ≤ T
theorem Tryd.cellsParse : Tryd.prog.cellsOf 31 = 5 := by kernel_rfl
theorem Tryd.bytesParse : Tryd.prog.bytesOf 31 = 80 := by kernel_rfl
theorem Tryd.cellsInt : Tryd.prog.cellsOf 3 = 1 := by kernel_rfl
theorem Tryd.bytesInt : Tryd.prog.bytesOf 3 = 8 := by kernel_rfl
theorem Tryd.cellsStr2 : Tryd.prog.cellsOf 9 = 1 := by kernel_rfl
theorem Tryd.cellsNums : Tryd.prog.cellsOf 29 = 1 := by kernel_rfl
theorem Tryd.cellsPrs : Tryd.prog.cellsOf 22 = 1 := by kernel_rfl
theorem Tryd.cellsAsk1 : Tryd.prog.cellsOf 25 = 1 := by kernel_rfl
theorem Tryd.cellsAsk3 : Tryd.prog.cellsOf 27 = 2 := by kernel_rfl
theorem Tryd.cellsTexts1 : Tryd.prog.cellsOf 23 = 1 := by kernel_rfl
theorem Tryd.bytesStr1 : Tryd.prog.bytesOf 9 = 16 := by kernel_rfl
theorem one_cell {cs : List Value} (h : cs.length = 1) : ∃ v, cs = [v] := by
  match cs, h with
  | [v], _ => exact ⟨v, rfl⟩
/-- A state that came in. -/
theorem open_parse {W : World} {cs : List Value} (h : Fine Tryd.prog W 31 cs) : ∃ (p : Ps) (pv : Value), cs = psVals p pv ∧ Src W pv p.params.length (ints p.params) ∧ Slim p 140737488355328 := by
  have hl := h.len Tryd.underlying31
  rw [Tryd.cellsParse] at hl
  match cs, hl with
  | [a, b, c, d, e], _ =>
    have h0 : Fine Tryd.prog W 3 [a] := h.part Tryd.underlying31 0 rfl rfl rfl Tryd.cellsInt
    have h1 : Fine Tryd.prog W 9 [b] := h.part Tryd.underlying31 1 rfl rfl rfl Tryd.cellsStr2
    have h2 : Fine Tryd.prog W 29 [c] := h.part Tryd.underlying31 2 rfl rfl rfl Tryd.cellsNums
    have h3 : Fine Tryd.prog W 9 [d] := h.part Tryd.underlying31 3 rfl rfl rfl Tryd.cellsStr2
    have h4 : Fine Tryd.prog W 9 [e] := h.part Tryd.underlying31 4 rfl rfl rfl Tryd.cellsStr2
    obtain ⟨s, e0, _⟩ := h0.int Tryd.underlying3
    obtain ⟨pa, e1, z1⟩ := h1.string Tryd.underlying9
    obtain ⟨xs, hx, zx, _⟩ := h2.numbers Tryd.underlying29 Tryd.underlying3 Tryd.cellsInt Tryd.bytesInt
    obtain ⟨it, e3, z3⟩ := h3.string Tryd.underlying9
    obtain ⟨tx, e4, z4⟩ := h4.string Tryd.underlying9
    obtain rfl : a = .int .i64 s := by simpa using e0
    obtain rfl : b = .string pa := by simpa using e1
    obtain rfl : d = .string it := by simpa using e3
    obtain rfl : e = .string tx := by simpa using e4
    refine ⟨⟨s, pa.data.toList, xs, it.data.toList, tx.data.toList⟩, c, ?_, hx, ?_⟩
    · simp only [psVals, str_of]
    · unfold reachBytes at z1 zx z3 z4
      exact ⟨by show pa.size ≤ _; omega, by show xs.length ≤ _; omega, by show it.size ≤ _; omega, by show tx.size ≤ _; omega⟩
/-- States that came in. -/
theorem open_parses {W : World} {v : Value} (h : Fine Tryd.prog W 22 [v]) : ∃ l : List Ps, Prs W v l ∧ l.length ≤ 140737488355328 ∧ ∀ k, k < l.length → Slim (l.getD k (none_ 0)) 140737488355328 := by
  rcases h.slice Tryd.underlying22 with h0 | ⟨a, len, cap, h1, h2, _, h4⟩
  · obtain rfl : v = .slice none 0 0 := by simpa using h0
    exact ⟨[], ⟨[], rfl, ⟨rfl, by simp, .inl ⟨rfl, rfl⟩⟩, fun k hk => absurd hk (by simp)⟩, by simp, fun k hk => absurd hk (by simp)⟩
  · obtain rfl : v = .slice (some a) len cap := by simpa using h1
    obtain ⟨l, hl, hq⟩ := list_of ((none_ 0, undef) : Ps × Value) (Q := fun i q => At W (a.add (i * 5)) (psVals q.1 q.2) ∧ Src W q.2 q.1.params.length (ints q.1.params) ∧ Slim q.1 140737488355328) len fun i hi => by
      obtain ⟨es, g1, g2, g3⟩ := h4 i hi
      obtain ⟨p, pv, rfl, hs, hz⟩ := open_parse g3
      refine ⟨(p, pv), fun j u hu => ?_, hs, hz⟩
      have := g2 j u hu
      rw [Tryd.cellsParse] at this
      rw [Go.Deep.add_add]; exact this
    subst hl
    rw [Tryd.bytesParse] at h2
    have hg : ∀ k, k < l.length → (l.map Prod.fst).getD k (none_ 0) = (l.getD k (none_ 0, undef)).1 ∧ (l.map Prod.snd).getD k undef = (l.getD k (none_ 0, undef)).2 := fun k hk => by simp [List.getD, hk]
    refine ⟨l.map Prod.fst, ⟨l.map Prod.snd, by simp, ⟨by simp, ?_, .inr ⟨a, cap, by simp, fun i r hr => ?_⟩⟩, fun k hk => ?_⟩, ?_, fun k hk => ?_⟩
    · intro r hr
      obtain ⟨i, hi, rfl⟩ := List.getElem_of_mem hr
      simp [psVals]
    · have hi : i < l.length := by
        have := (List.getElem?_eq_some_iff.1 hr).1
        simpa using this
      obtain ⟨q1, _⟩ := hq i hi
      have e : r = psVals (l.getD i (none_ 0, undef)).1 (l.getD i (none_ 0, undef)).2 := by
        have := hr
        simp [hi] at this
        simp [List.getD, hi, ← this]
      rw [e]; exact q1
    · rw [List.length_map] at hk
      rw [(hg k hk).1, (hg k hk).2]
      exact (hq k hk).2.1
    · unfold reachBytes at h2
      rw [List.length_map]; omega
    · rw [List.length_map] at hk
      rw [(hg k hk).1]
      exact (hq k hk).2.2
/-- The laws' argument. -/
theorem open_ask {W : World} {cs : List Value} (h : Fine Tryd.prog W 27 cs) : ∃ x y, cs = [x, y] ∧ (∃ l : List Ps, Prs W x l ∧ l.length ≤ 140737488355328 ∧ ∀ k, k < l.length → Slim (l.getD k (none_ 0)) 140737488355328) ∧
    ∃ ss : List ByteArray, Strs W y ss ∧ ss.length ≤ 140737488355328 ∧ ∀ k, k < ss.length → (ss.getD k ByteArray.empty).size ≤ 140737488355328 := by
  have hl := h.len Tryd.underlying27
  rw [Tryd.cellsAsk3] at hl
  match cs, hl with
  | [x, y], _ =>
    have h0 : Fine Tryd.prog W 22 [x] := h.part Tryd.underlying27 0 rfl rfl rfl Tryd.cellsPrs
    have h1 : Fine Tryd.prog W 25 [y] := h.part Tryd.underlying27 1 rfl rfl rfl Tryd.cellsAsk1
    have h2 : Fine Tryd.prog W 23 [y] := h1.part Tryd.underlying25 0 rfl rfl rfl Tryd.cellsTexts1
    obtain ⟨ss, hs, hn, hk⟩ := h2.texts Tryd.underlying23 Tryd.underlying9 Tryd.cellsStr2 Tryd.bytesStr1
    exact ⟨x, y, rfl, open_parses h0, ss, hs, by unfold reachBytes at hn; omega, fun k hk' => by have := hk k hk'; unfold reachBytes at this; omega⟩

/-! ### states put behind states of the call's own -/
theorem parse_info : (Tryd.prog.info? 31).map (fun i => (i.zero, i.size, i.bytes)) = some (some (.agg #[.int .i64 0, .string ⟨#[]⟩, .slice none 0 0, .string ⟨#[]⟩, .string ⟨#[]⟩]), 5, 80) := by kernel_rfl
theorem parse_row : ∃ i : TypeInfo, Tryd.prog.info? 31 = some i ∧ i.zero = some (.agg #[.int .i64 0, .string ⟨#[]⟩, .slice none 0 0, .string ⟨#[]⟩, .string ⟨#[]⟩]) ∧ i.size = 5 ∧ i.bytes = 80 := by
  obtain ⟨i, h, h1, h2, h3⟩ := info_parts parse_info
  exact ⟨i, h, h1, h2, h3⟩
theorem psVals_one {p : Ps} {pv : Value} (h : ∃ A n c, pv = .slice A n c) : ∀ u ∈ psVals p pv, u.oneCell' = true := by
  obtain ⟨A, n, c, rfl⟩ := h
  intro u hu
  simp only [psVals, List.mem_cons, List.not_mem_nil, or_false] at hu
  rcases hu with rfl | rfl | rfl | rfl | rfl <;> rfl
/-- A row of the call's own, of states: it reads as them. -/
theorem Prs.own {w : World} {base : Nat} {v : Value} {l : List Ps} {pvs : List Value} (hl : pvs.length = l.length) (h : w.ownsRow base 31 5 v l.length (List.zipWith psVals l pvs).flatten)
    (hs : ∀ k, k < l.length → Src w (pvs.getD k undef) (l.getD k (none_ 0)).params.length (ints (l.getD k (none_ 0)).params)) : Prs w v l := by
  refine ⟨pvs, hl, Recs.own h (by simp [hl]) ?_, hs⟩
  intro r hr
  obtain ⟨i, hi, rfl⟩ := List.getElem_of_mem hr
  simp [psVals]
theorem psVals_rows {l : List Ps} {pvs : List Value} : ∀ r ∈ List.zipWith psVals l pvs, r.length = 5 := by
  intro r hr
  obtain ⟨i, hi, rfl⟩ := List.getElem_of_mem hr
  simp [psVals]
/-- Cells of a list of rows, wherever they lie one behind the other. -/
theorem rows_cells {w : World} {ad : Addr} {rs : List (List Value)} (hl : ∀ r ∈ rs, r.length = 5) (h : ∀ i r, rs[i]? = some r → At w (ad.add (i * 5)) r) (j : Nat) (u : Value) (hu : rs.flatten[j]? = some u) : w.cell? (ad.add j) = some u := by
  have hj : j < rs.flatten.length := (List.getElem?_eq_some_iff.1 hu).1
  rw [flatten_len rs hl] at hj
  have hi : j / 5 < rs.length := by omega
  have hr : rs[j / 5]? = some (rs[j / 5]'hi) := List.getElem?_eq_getElem hi
  have hk : j % 5 < (rs[j / 5]'hi).length := by rw [hl _ (List.getElem_mem hi)]; omega
  have hx : (rs[j / 5]'hi)[j % 5]? = some ((rs[j / 5]'hi)[j % 5]'hk) := List.getElem?_eq_getElem hk
  have hf := flatten_get rs hl (j / 5) _ hr (j % 5) _ hx
  have ej : j / 5 * 5 + j % 5 = j := by omega
  rw [ej, hu] at hf
  injection hf with hf
  have := h (j / 5) _ hr (j % 5) _ hx
  rw [Go.Deep.add_add, ej, ← hf] at this
  exact this
/-- append of states that came in to states of the call's own. -/
theorem wp_append_prs {w : World} {ops : Array Oper} {rest : List Oper} {o : Oper} {a : Act} {Q : Exit → Act → World → Prop} {s x : Operand} (hgd : o.guard = none)
    (ho : o.op = .call { callee := .builtin .append, args := #[s, x], argTypes := #[22, 22] }) (wb : World) (hbw : Below wb.heap.size wb w) (v : Value) (l : List Ps) (pvs : List Value) (hs : a.eval s = v) (hlen : pvs.length = l.length)
    (hown : w.ownsRow wb.heap.size 31 5 v l.length (List.zipWith psVals l pvs).flatten) (hps : ∀ k, k < l.length → Src wb (pvs.getD k undef) (l.getD k (none_ 0)).params.length (ints (l.getD k (none_ 0)).params))
    (y : Value) (m : List Ps) (hy : a.eval x = y) (hx : Prs wb y m) (hb : l.length + m.length ≤ 1000000000)
    (h : ∀ v' w', Prs w' v' (l ++ m) → Below wb.heap.size wb w' → wpList Tryd.prog ops Q rest (a.put o.dst v') w') :
    wpList Tryd.prog ops Q (o :: rest) a w := by
  obtain ⟨i, hi, hz, h5, h80⟩ := parse_row
  have hbase : wb.heap.size ≤ w.heap.size := hbw.size
  obtain ⟨pvs2, g1, g2, g3⟩ := hx
  refine wpList_plain hgd fun K hK => ?_
  rcases g2.2.2 with ⟨rfl, h0⟩ | ⟨ad, c, rfl, hc⟩
  · have hm : m = [] := List.eq_nil_of_length_eq_zero h0
    subst hm
    have hr := run_append_owned_none (P := Tryd.prog) (w := w) wb.heap.size 22 o.type 31 i 5 Tryd.underlying22 hi v l.length _ hown
    unfold Oper.wp execOp
    simp only [ho, resolve, invoke, builtin, Sem.run_bind, Sem.run_pure, Result.andThen_ok, List.map_toArray, List.map_cons, List.map_nil, hs, hy, hr]
    refine hK _ _ (h v w ?_ hbw)
    rw [List.append_nil]
    exact Prs.own hlen hown (fun k hk => (hps k hk).kept hbw)
  · have hrl : (List.zipWith psVals m pvs2).length = m.length := by simp [g1]
    obtain ⟨v', w', hr, h2, h3, _, _⟩ := run_append_own_at (P := Tryd.prog) w wb.heap.size 22 o.type 31 i _ 5 80 Tryd.underlying22 hi hz h5 h80 rfl (by decide) v l.length _ hown ad m.length c (List.zipWith psVals m pvs2).flatten
      (by rw [flatten_len _ psVals_rows, hrl]) (fun j u hu => cell_kept hbw (rows_cells psVals_rows hc j u hu)) (fun u hu => by
        obtain ⟨r, hr, hur⟩ := List.mem_flatten.1 hu
        obtain ⟨k, hk, rfl⟩ := List.getElem_of_mem hr
        have hkm : k < m.length := by rw [hrl] at hk; exact hk
        have hkp : k < pvs2.length := by omega
        simp only [List.getElem_zipWith] at hur
        obtain ⟨A, c', hA, _⟩ := (g3 k hkm).form
        have hA' : pvs2[k] = .slice A (m.getD k (none_ 0)).params.length c' := by rw [← hA]; simp [List.getD, hkp]
        exact psVals_one ⟨A, _, c', hA'⟩ u hur) (by simp only [maxLen]; omega) (by omega) hbase
    unfold Oper.wp execOp
    simp only [ho, resolve, invoke, builtin, Sem.run_bind, Sem.run_pure, Result.andThen_ok, List.map_toArray, List.map_cons, List.map_nil, hs, hy, hr]
    have hB : Below wb.heap.size wb w' := hbw.grown h3 hbase (fun k hk => (hown.lt k hk).1)
    refine hK _ _ (h v' w' ?_ hB)
    refine Prs.own (base := wb.heap.size) (pvs := pvs ++ pvs2) (by simp [hlen, g1]) ?_ (fun k hk => ?_)
    · rw [List.length_append, List.zipWith_append hlen.symm, List.flatten_append]; exact h2
    · by_cases hkl : k < l.length
      · have := (hps k hkl).kept hB
        simp only [List.getD, List.getElem?_append_left hkl, List.getElem?_append_left (show k < pvs.length by omega)] at this ⊢
        exact this
      · have hk2 : k - l.length < m.length := by rw [List.length_append] at hk; omega
        have := (g3 (k - l.length) hk2).kept hB
        simp only [List.getD, List.getElem?_append_right (show l.length ≤ k by omega), List.getElem?_append_right (show pvs.length ≤ k by omega), hlen] at this ⊢
        exact this

/-! ### how heavy it is -/
/-- Light enough to be played. -/
structure Few (l : List Ps) (ss : List ByteArray) : Prop where
  n : l.length ≤ 2000
  slim : ∀ k, k < l.length → Slim (l.getD k (none_ 0)) 2000
  light : Light ss ss.length 4000
def Weight (l : List Ps) (k T : Nat) : Prop := l.length ≤ T ∧ ∀ j, j < k → Slim (l.getD j (none_ 0)) T
set_option maxHeartbeats 3200000 in
theorem heavy3_any {x y : Value} (l : List Ps) (ss : List ByteArray) (w : World) (hx : Prs w x l) (hn : l.length ≤ 140737488355328) (hz : ∀ k, k < l.length → Slim (l.getD k (none_ 0)) 140737488355328)
    (hy : Strs w y ss) (hny : ss.length ≤ 140737488355328) (hzy : ∀ k, k < ss.length → (ss.getD k ByteArray.empty).size ≤ 140737488355328) :
    Calls Tryd.prog 6 #[.agg #[x, y]] w fun e w' => (∃ b : Bool, e = .returned (.bool b) ∧ (b = false → Few l ss)) ∧ Below w.heap.size w w' := by
  obtain ⟨A, c, rfl, hA⟩ := hx.form
  obtain ⟨A', c', rfl, _⟩ := hy.at_
  have HA := Lib.hid hA
  have HZ := Lib.hid hz
  have HY := Lib.hid hy
  have HNY := Lib.hid hny
  have HZY := Lib.hid hzy
  have hb0 : Below w.heap.size w (w.alloc (.cells #[.slice A l.length c, .slice A' ss.length c'] 27)) := (Below.refl _ _).alloc (Nat.le_refl _) _
  have hblk := heap_alloc_new w (.cells #[.slice A l.length c, .slice A' ss.length c'] 27)
  clear hA hz hx hy hny hzy
  go_enter Tryd.func6, Tryd.ntmps6
  go_wp2_with fail
  obtain ⟨wo, hwo⟩ : ∃ wo, w.alloc (.cells #[.slice A l.length c, .slice A' ss.length c'] 27) = wo := ⟨_, rfl⟩
  rw [hwo] at hb0 hblk ⊢
  clear hwo
  have q0 : wo.cell? ⟨w.heap.size, 0, none⟩ = some (.slice A l.length c) := by simp only [World.cell?, hblk]; rfl
  have q1 : wo.cell? ⟨w.heap.size, 1, none⟩ = some (.slice A' ss.length c') := by simp only [World.cell?, hblk]; rfl
  have HB0 := Lib.hid hb0
  clear hb0 hblk
  go_loopw [3, 4] (fun t i wr => ∃ (k T q : Nat), k ≤ l.length ∧ i = .int .i64 k ∧ t = .int .i64 T ∧ T ≤ 140737488355328 * 5 + 1048576 ∧ Hid (Weight l k T) ∧ wr = wo.drewN q) (fun _ i _ => l.length - (intOf i).toNat)
  case atStart => exact ⟨0, l.length, 0, by omega, rfl, rfl, by omega, Lib.hid ⟨Nat.le_refl _, fun j hj => absurd hj (by omega)⟩, rfl⟩
  case round =>
    obtain ⟨k, T, q, hk, rfl, rfl, hT, HW, rfl⟩ := hrel
    have hbq : Below w.heap.size w (wo.drewN q) := below_drewN HB0.out q
    by_cases hb : T < 1048576
    · have hb1 : decide ((T : Int) < 1048576) = true := decide_eq_true (by omega)
      by_cases hlt : k < l.length
      · obtain ⟨ad, pv, rfl, K, hs⟩ := HA.out k hlt
        have hzk := HZ.out k hlt
        have HL : Hid (Weight l (k + 1) (T + (l.getD k (none_ 0)).params.length + (l.getD k (none_ 0)).text.length + (l.getD k (none_ 0)).inter.length + (l.getD k (none_ 0)).part.length)) := Lib.hid ⟨by have := HW.out.1; omega, fun j hj => by
          by_cases e : j = k
          · subst e; exact ⟨by omega, by omega, by omega, by omega⟩
          · have := HW.out.2 j (by omega)
            exact ⟨by have := this.part; omega, by have := this.params; omega, by have := this.inter; omega, by have := this.text; omega⟩⟩
        generalize l.getD k (none_ 0) = p at K hs hzk HL
        obtain ⟨s, a, n, i, t⟩ := p
        obtain ⟨A9, c9, rfl, _⟩ := hs.form
        have K := K.kept HB0.out
        have h0 := K.head
        have h1 := K.next 0 rfl
        have h2 := K.next 1 rfl
        have h3 := K.next 2 rfl
        have h4 := K.next 3 rfl
        have z1 : a.length ≤ 140737488355328 := hzk.part
        have z2 : n.length ≤ 140737488355328 := hzk.params
        have z3 : i.length ≤ 140737488355328 := hzk.inter
        have z4 : t.length ≤ 140737488355328 := hzk.text
        have w1 : IntKind.i64.wrap ((T : Int) + n.length) = (T : Int) + n.length := IntWalk.i64_in _ (by omega)
        have w2 : IntKind.i64.wrap ((T : Int) + n.length + t.length) = (T : Int) + n.length + t.length := IntWalk.i64_in _ (by omega)
        have w3 : IntKind.i64.wrap ((T : Int) + n.length + t.length + i.length) = (T : Int) + n.length + t.length + i.length := IntWalk.i64_in _ (by omega)
        have w4 : IntKind.i64.wrap ((T : Int) + n.length + t.length + i.length + a.length) = (T : Int) + n.length + t.length + i.length + a.length := IntWalk.i64_in _ (by omega)
        simp only at HL
        clear K hs hzk
        go_wp2_with fail
        go_quiet (fail)
        go_wp2_with fail
        go_roundw
        case rel => exact ⟨k + 1, T + n.length + t.length + i.length + a.length, _, by omega, by go_num, by first | rfl | go_num, by omega, HL, rfl⟩
        case measure => simp [intOf]; omega
      · have hkl : k = l.length := by omega
        have hd : decide (k < l.length) = false := decide_eq_false hlt
        by_cases h2 : 2000 < T
        · have hd2 : decide (2000 < (T : Int)) = true := decide_eq_true (by omega)
          clear hlt
          go_wp2_with fail
          go_ret
          exact ⟨⟨true, rfl, fun h => by cases h⟩, hbq⟩
        · have hd2 : decide (2000 < (T : Int)) = false := decide_eq_false (by omega)
          have HF : Hid (Light ss ss.length 4000 → Few l ss) := Lib.hid fun hl => ⟨by have := HW.out.1; omega, fun j hj => by
            have := HW.out.2 j (by omega)
            exact ⟨by have := this.part; omega, by have := this.params; omega, by have := this.inter; omega, by have := this.text; omega⟩, hl⟩
          clear hlt
          go_wp2_with fail
          refine (heavy_any ss _ (Src.kept HY.out hbq) HNY.out HZY.out).mono ?_
          rintro e w1 ⟨⟨b, rfl, hL⟩, hb1⟩
          have HL := Lib.hid hL
          clear hL
          go_wp2_with fail
          go_ret
          exact ⟨⟨b, rfl, fun h => HF.out (HL.out h)⟩, hbq.trans (hb1.mono hbq.size)⟩
    · have hb1 : decide ((T : Int) < 1048576) = false := decide_eq_false (by omega)
      have hd2 : decide (2000 < (T : Int)) = true := decide_eq_true (by omega)
      by_cases hlt : k < l.length
      · clear hb
        go_wp2_with fail
        go_ret
        exact ⟨⟨true, rfl, fun h => by cases h⟩, hbq⟩
      · have hd : decide (k < l.length) = false := decide_eq_false hlt
        clear hb hlt
        go_wp2_with fail
        go_ret
        exact ⟨⟨true, rfl, fun h => by cases h⟩, hbq⟩
end Vl
end Go.Proofs.YtjodbmfjdpbbnaaDoor
