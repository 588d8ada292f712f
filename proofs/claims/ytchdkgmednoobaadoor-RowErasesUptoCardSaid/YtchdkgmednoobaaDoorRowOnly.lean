/- A list of acts, each made one of a kind, and the law on single acts of it. -/
import Derived.Test.YtchdkgmednoobaaDoorRowExact
namespace Go.Proofs.YtchdkgmednoobaaDoor
set_option maxRecDepth 100000
open Go.RowKit
namespace Row
open Utf Wid

/-- Acts in memory of the call's own. -/
def OwnActs (w : World) (base : Nat) (v : Value) (l : List ActL) : Prop := w.ownsRow base 35 7 v l.length (l.map actVals).flatten
theorem acts_len (l : List ActL) : ∀ r ∈ l.map actVals, r.length = 7 := by
  intro r hr
  obtain ⟨q, _, rfl⟩ := List.mem_map.1 hr
  rfl
theorem OwnActs.acts {w : World} {base : Nat} {v : Value} {l : List ActL} (h : OwnActs w base v l) : Acts w v l := Recs.own h (List.length_map _) (acts_len l)
theorem OwnActs.nil (w : World) (base : Nat) : OwnActs w base (.slice none 0 0) [] := World.ownsRow_nil _ _ _ _
theorem OwnActs.lt {w : World} {base : Nat} {v : Value} {l : List ActL} (h : OwnActs w base v l) (k : Nat) (hk : v.ownBlock = some k) : base ≤ k ∧ k < w.heap.size := World.ownsRow.lt h k hk
theorem OwnActs.kept {w w' : World} {base : Nat} {v : Value} {l : List ActL} (h : OwnActs w base v l) (hb : Below w.heap.size w w') : OwnActs w' base v l :=
  World.ownsRow.kept (row := none) h ⟨hb.os, hb.tape, hb.output, hb.size, fun k hk _ => hb.block k hk⟩ (by cases v.ownBlock <;> simp)
theorem OwnActs.set {w : World} {base g : Nat} {v : Value} {l : List ActL} (h : OwnActs w base v l) (hg : g < base) (j : Nat) (u : Value) : OwnActs (w.setCell ⟨g, j, none⟩ u) base v l := by
  refine ⟨h.1, ?_⟩
  rcases h.2 with h0 | ⟨b, cap, cur, rfl, hb, hc, rest⟩
  · exact .inl h0
  · exact .inr ⟨b, cap, cur, rfl, hb, Blk.other hc (by omega) j u, rest⟩
theorem act_info : (Tryd.prog.info? 35).map (fun i => (i.zero, i.size, i.bytes)) = some (some (.agg #[.int .i64 0, .int .i64 0, .int .i64 0, .int .i64 0, .int .i64 0, .int .i64 0, .int .i64 0]), 7, 56) := by kernel_rfl
theorem act_row : ∃ i : TypeInfo, Tryd.prog.info? 35 = some i ∧ i.zero = some (.agg #[.int .i64 0, .int .i64 0, .int .i64 0, .int .i64 0, .int .i64 0, .int .i64 0, .int .i64 0]) ∧ i.size = 7 ∧ i.bytes = 56 := by
  obtain ⟨i, h, h1, h2, h3⟩ := info_parts act_info
  exact ⟨i, h, h1, h2, h3⟩
/-- append of an act. -/
theorem wp_append_act {w : World} {ops : Array Oper} {rest : List Oper} {o : Oper} {a : Act} {Q : Exit → Act → World → Prop} {s x : Operand} (hgd : o.guard = none)
    (ho : o.op = .call { callee := .builtin .append, args := #[s, x], argTypes := #[23, 23] }) (base : Nat) (v : Value) (ad : Addr) (c : Nat) (l : List ActL) (q : ActL) (hs : a.eval s = v) (hown : OwnActs w base v l)
    (hy : a.eval x = .slice (some ad) 1 c) (hx : ∀ j u, (actVals q)[j]? = some u → w.cell? (ad.add j) = some u) (hl : (l.length + 1) * 56 ≤ 140737488355328) (hbase : base ≤ w.heap.size)
    (h : ∀ v' w', OwnActs w' base v' (l ++ [q]) → w.grownBy w' v.ownBlock → wpList Tryd.prog ops Q rest (a.put o.dst v') w') :
    wpList Tryd.prog ops Q (o :: rest) a w := by
  obtain ⟨i, hi, hz, h7, h56⟩ := act_row
  refine wpList_plain hgd fun K hK => ?_
  obtain ⟨v', w', hr, h2, h3, _, h5⟩ := run_append_own_at (P := Tryd.prog) w base 23 o.type 35 i _ 7 56 Tryd.underlying23 hi hz h7 h56 rfl (by decide) v l.length _ hown ad 1 c (actVals q) rfl hx (fun u hu => by
    simp only [actVals, List.mem_cons, List.not_mem_nil, or_false] at hu
    rcases hu with rfl | rfl | rfl | rfl | rfl | rfl | rfl <;> rfl) (by simp only [maxLen]; omega) hl hbase
  unfold Oper.wp execOp
  simp only [ho, resolve, invoke, builtin, Sem.run_bind, Sem.run_pure, Result.andThen_ok, List.map_toArray, List.map_cons, List.map_nil, hs, hy, hr]
  refine hK _ _ (h v' w' ?_ h3)
  unfold OwnActs
  rw [List.length_append, List.map_append, List.flatten_append]
  simpa using h2
theorem act_cells (w : World) (q : ActL) (arr : Array Value) (h : (actVals q).toArray = arr) : ∀ j u, (actVals q)[j]? = some u → (w.alloc (.cells arr 35)).cell? ((⟨w.heap.size, 0, none⟩ : Addr).add j) = some u := by
  subst h
  intro j u hu
  have hl : (w.alloc (.cells (actVals q).toArray 35)).heap[w.heap.size]? = some (.cells (actVals q).toArray 35 (0, 0)) := heap_alloc_new _ _
  exact World.news_of_block hl j u (by simpa using hu)
theorem act_cells2 (w : World) (o : Obj) (q : ActL) (arr : Array Value) (h : (actVals q).toArray = arr) : ∀ j u, (actVals q)[j]? = some u → ((w.alloc o).alloc (.cells arr 35)).cell? ((⟨w.heap.size + 1, 0, none⟩ : Addr).add j) = some u := by
  have e : (w.alloc o).heap.size = w.heap.size + 1 := by simp
  rw [← e]
  exact act_cells (w.alloc o) q arr h
/-- Of that kind. -/
def setDo (d : Int) (t : ActL) : ActL := { t with doo := d }
theorem take_map_succ (d : Int) {t : List ActL} {k : Nat} (h : k < t.length) : (t.take (k + 1)).map (setDo d) = (t.take k).map (setDo d) ++ [setDo d (t.getD k noAct)] := by
  rw [List.take_succ_eq_append_getElem h, List.map_append]
  simp [List.getD, h]
theorem map_do (d : Int) (t : List ActL) : ∀ k, k < (t.map (setDo d)).length → ((t.map (setDo d)).getD k noAct).doo = d := by
  intro k hk
  rw [List.length_map] at hk
  simp [List.getD, hk, setDo]

set_option maxHeartbeats 4000000 in
theorem only_any {x y : Value} (d : Int) (hd : d = 0 ∨ d = 4) (l : List Cl) (t : List ActL) (w : World) (hx : Cs w x l) (hy : Acts w y t) (hn : l.length ≤ 140737488355328) (hm : t.length * 56 ≤ 140737488355328) (hs : Bnd l) (hT : Tabs w) :
    Calls Tryd.prog 17 #[.agg #[x, y], .int .i64 d] w fun e w' => e = .returned (.bool true) ∧ Below w.heap.size w w' := by
  have HX := Lib.hid hx
  have HT := Lib.hid hT
  have HEX := Lib.hid (fun w' v u (h1 : Cs w' v l) (h2 : Acts w' u (t.map (setDo d))) (h3 : Tabs w') => rowExact_any d hd l (t.map (setDo d)) w' h1 h2 hn (by rw [List.length_map]; omega) hs h3 (map_do d t))
  have HM := Lib.hid hm
  obtain ⟨M, hM⟩ : ∃ q, t.map (setDo d) = q := ⟨_, rfl⟩
  rw [hM] at HEX
  have HMM := Lib.hid hM
  clear hM
  obtain ⟨A, c, rfl, _⟩ := hx.form
  obtain ⟨A', c', rfl, hact⟩ := hy.form
  have HA := Lib.hid hact
  have HB1 : Hid (Below w.heap.size w (w.alloc (.cells #[.slice A l.length c, .slice A' t.length c'] 25))) := Lib.hid ((Below.refl _ _).alloc (Nat.le_refl _) _)
  have HK1 : Hid ((w.alloc (.cells #[.slice A l.length c, .slice A' t.length c'] 25)).heap[w.heap.size]? = some (.cells #[.slice A l.length c, .slice A' t.length c'] 25 (0, 0))) := Lib.hid (heap_alloc_new _ _)
  have hsz : (w.alloc (.cells #[.slice A l.length c, .slice A' t.length c'] 25)).heap.size = w.heap.size + 1 := by simp
  have HB2 : Hid (Below w.heap.size w ((w.alloc (.cells #[.slice A l.length c, .slice A' t.length c'] 25)).alloc (.cells #[.slice A l.length c, .slice none 0 0] 25))) := Lib.hid (HB1.out.alloc (by omega) _)
  have HK2 := Lib.hid (Blk.kept (w' := (w.alloc (.cells #[.slice A l.length c, .slice A' t.length c'] 25)).alloc (.cells #[.slice A l.length c, .slice none 0 0] 25)) HK1.out ((Below.refl _ _).alloc (Nat.le_refl _) _))
  have HG2 : Hid (((w.alloc (.cells #[.slice A l.length c, .slice A' t.length c'] 25)).alloc (.cells #[.slice A l.length c, .slice none 0 0] 25)).heap[w.heap.size + 1]? = some (.cells #[.slice A l.length c, .slice none 0 0] 25 (0, 0))) := Lib.hid (by rw [← hsz]; exact heap_alloc_new _ _)
  clear hx hy hact hT hs hd hm hn hsz HB1 HK1
  go_enter Tryd.func17, Tryd.ntmps17
  go_wp2_with fail
  obtain ⟨gq, hgq⟩ : ∃ q, w.heap.size + 1 = q := ⟨_, rfl⟩
  rw [hgq] at HG2
  rw [hgq]
  generalize (w.alloc (.cells #[.slice A l.length c, .slice A' t.length c'] 25)).alloc (.cells #[.slice A l.length c, .slice none 0 0] 25) = w2 at HB2 HK2 HG2 ⊢
  have HLG : Hid (w.heap.size < gq) := Lib.hid (by omega)
  clear hgq
  go_loopw [6] (fun i wr => ∃ (k : Nat) (v : Value), k ≤ t.length ∧ i = .int .i64 k ∧ Hid (OwnActs wr (gq + 1) v ((t.take k).map (setDo d))) ∧ Hid (wr.heap[gq]? = some (.cells #[.slice A l.length c, v] 25 (0, 0))) ∧ Hid (Below gq w2 wr)) (fun i _ => t.length - (intOf i).toNat)
  case atStart => exact ⟨0, .slice none 0 0, by omega, rfl, Lib.hid (OwnActs.nil _ _), HG2, Lib.hid (Below.refl _ _)⟩
  case round =>
    obtain ⟨k, v, hk, rfl, HOW, HQ, HBL⟩ := hrel
    have HBW : Hid (Below w.heap.size w wr) := Lib.hid (HB2.out.trans (HBL.out.mono (Nat.le_of_lt HLG.out)))
    have hkk := (HBL.out.block _ HLG.out).trans HK2.out
    have c1 : wr.cell? ⟨w.heap.size, 1, none⟩ = some (.slice A' t.length c') := Blk.cell hkk 1
    have zk := Blk.lt hkk
    have zq := Blk.lt HQ.out
    obtain ⟨A2, c2, e1⟩ := own_shape HOW.out
    subst e1
    have q0 : wr.cell? ⟨gq, 0, none⟩ = some (.slice A l.length c) := Blk.cell HQ.out 0
    have q1 : wr.cell? ⟨gq, 1, none⟩ = some (.slice A2 ((t.take k).map (setDo d)).length c2) := Blk.cell HQ.out 1
    clear hkk
    by_cases hlt : k < t.length
    · obtain ⟨ad, e1, hat⟩ := HA.out k hlt
      subst e1
      have hat := hat.kept HBW.out
      have HTK := Lib.hid (take_map_succ d hlt)
      have hlk : Hid (((t.take k).map (setDo d)).length = k) := Lib.hid (by rw [List.length_map, List.length_take]; omega)
      generalize t.getD k noAct = act at hat HTK
      obtain ⟨doo, at_, nn, rr, a⟩ := act
      have a0 : _ = some (Value.int .i64 doo) := hat.head
      have a1 : _ = some (Value.int .i64 at_) := hat.next 0 rfl
      have a2 : _ = some (Value.int .i64 nn) := hat.next 1 rfl
      have a3 : _ = some (Value.int .i64 rr) := hat.next 2 rfl
      have a4 : _ = some (Value.int .i64 a.fg) := hat.next 3 rfl
      have a5 : _ = some (Value.int .i64 a.bg) := hat.next 4 rfl
      have a6 : _ = some (Value.int .i64 a.flags) := hat.next 5 rfl
      clear hat
      generalize (t.take k).map (setDo d) = L0 at HTK HOW HQ hlk q1 ⊢
      have HTK : Hid ((t.take (k + 1)).map (setDo d) = L0 ++ [⟨d, at_, nn, rr, a⟩]) := HTK
      have hkm : k < 4000000000000 := by have := HM.out; omega
      have HLEN : Hid ((L0 ++ [(⟨d, at_, nn, rr, a⟩ : ActL)]).length = L0.length + 1) := Lib.hid (by simp)
      go_wp2_with (at_builtin; refine wp_append_act rfl rfl (gq + 1) _ _ _ L0 ⟨d, at_, nn, rr, a⟩ rfl (HOW.out.kept (((Below.refl _ _).alloc (Nat.le_refl _) _).alloc (by simp) _)) rfl (act_cells2 _ _ _ _ rfl) (by have := hlk.out; have := HM.out; omega) (by simp; omega) ?_; intro v1 w1 ho1 hg1; have hbw := (((Below.refl (gq + 1) wr).alloc (by omega) _).alloc (by simp; omega) _).grown hg1 (by simp; omega) (fun j hj => (HOW.out.lt j hj).1); have hq1 := (hbw.block gq (Nat.lt_succ_self _)).trans HQ.out; have hf1 := Blk.free hq1 1; have hc1 : w1.cell? ⟨gq, 1, none⟩ = some (.slice A2 L0.length c2) := Blk.cell hq1 1; obtain ⟨A3, c3, e1⟩ := own_shape ho1; go_must (rw [HLEN.out] at e1); subst e1)
      have HO1 := Lib.hid ho1
      have HQ1 := Lib.hid hq1
      have HBB := Lib.hid hbw
      clear ho1 hg1 hbw hq1
      go_roundw
      case rel => exact ⟨k + 1, _, by omega, by go_num, Lib.hid (by rw [HTK.out]; exact HO1.out.set (Nat.lt_succ_self _) 1 _), Lib.hid (Blk.set HQ1.out 1 _), Lib.hid ((HBL.out.trans (HBB.out.mono (Nat.le_succ _))).setCell (p := ⟨gq, 1, none⟩) (Nat.le_refl _) _)⟩
      case measure => simp [intOf]; omega
    · have hkn : k = t.length := by omega
      subst hkn
      have hE : (t.take t.length).map (setDo d) = M := by rw [List.take_of_length_le (Nat.le_refl _)]; exact HMM.out
      have HAC := Lib.hid HOW.out.acts
      rw [hE] at HAC q1
      clear hE HQ HOW
      go_wp2_with fail
      refine (HEX.out _ _ _ (HX.out.kept HBW.out) HAC.out (HT.out.kept HBW.out)).mono ?_; rintro e wZ ⟨rfl, hbZ⟩
      have HBZ : Hid (Below w.heap.size w wZ) := Lib.hid (HBW.out.trans (hbZ.mono HBW.out.size))
      clear hbZ
      go_wp2_with fail
      go_ret
      exact ⟨rfl, HBZ.out⟩

set_option maxHeartbeats 800000 in
theorem puts_any {x y : Value} (l : List Cl) (t : List ActL) (w : World) (hx : Cs w x l) (hy : Acts w y t) (hn : l.length ≤ 140737488355328) (hm : t.length * 56 ≤ 140737488355328) (hs : Bnd l) (hT : Tabs w) :
    Calls Tryd.prog 4 #[.agg #[x, y]] w fun e w' => e = .returned (.bool true) ∧ Below w.heap.size w w' := by
  have HB1 : Hid (Below w.heap.size w (w.alloc (.cells #[x, y] 25))) := Lib.hid ((Below.refl _ _).alloc (Nat.le_refl _) _)
  have HO := Lib.hid (only_any 0 (.inl rfl) l t (w.alloc (.cells #[x, y] 25)) (hx.kept HB1.out) (hy.kept HB1.out) hn hm hs (hT.kept HB1.out))
  obtain ⟨A, c, rfl, _⟩ := hx.form
  obtain ⟨A', c', rfl, _⟩ := hy.form
  clear hx hy hT hs hm hn
  go_enter Tryd.func4, Tryd.ntmps4
  go_wp2_with fail
  refine HO.out.mono ?_; rintro e wZ ⟨rfl, hbZ⟩
  have HBZ : Hid (Below w.heap.size w wZ) := Lib.hid (HB1.out.trans (hbZ.mono HB1.out.size))
  clear hbZ HO
  go_wp2_with fail
  go_ret
  exact ⟨rfl, HBZ.out⟩

set_option maxHeartbeats 800000 in
theorem erases_any {x y : Value} (l : List Cl) (t : List ActL) (w : World) (hx : Cs w x l) (hy : Acts w y t) (hn : l.length ≤ 140737488355328) (hm : t.length * 56 ≤ 140737488355328) (hs : Bnd l) (hT : Tabs w) :
    Calls Tryd.prog 5 #[.agg #[x, y]] w fun e w' => e = .returned (.bool true) ∧ Below w.heap.size w w' := by
  have HB1 : Hid (Below w.heap.size w (w.alloc (.cells #[x, y] 25))) := Lib.hid ((Below.refl _ _).alloc (Nat.le_refl _) _)
  have HO := Lib.hid (only_any 4 (.inr rfl) l t (w.alloc (.cells #[x, y] 25)) (hx.kept HB1.out) (hy.kept HB1.out) hn hm hs (hT.kept HB1.out))
  obtain ⟨A, c, rfl, _⟩ := hx.form
  obtain ⟨A', c', rfl, _⟩ := hy.form
  clear hx hy hT hs hm hn
  go_enter Tryd.func5, Tryd.ntmps5
  go_wp2_with fail
  refine HO.out.mono ?_; rintro e wZ ⟨rfl, hbZ⟩
  have HBZ : Hid (Below w.heap.size w wZ) := Lib.hid (HB1.out.trans (hbZ.mono HB1.out.size))
  clear hbZ HO
  go_wp2_with fail
  go_ret
  exact ⟨rfl, HBZ.out⟩
end Row
end Go.Proofs.YtchdkgmednoobaaDoor
