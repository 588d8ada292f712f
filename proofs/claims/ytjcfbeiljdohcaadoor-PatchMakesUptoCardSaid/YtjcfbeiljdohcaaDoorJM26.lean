/- Joined texts: PdWith, PdRows. -/
import Derived.Test.YtjcfbeiljdohcaaDoorJM25
namespace Go.Proofs.YtjcfbeiljdohcaaDoor
set_option maxRecDepth 100000
section
open Go.RowKit
namespace Pat
open Go.Proofs.YtjcfbeiljdohcaaDoor.Row Go.Proofs.YtjcfbeiljdohcaaDoor.Scr Agb
@[go_sem] theorem p_tt (v : Value) (w : World) : (Instr.typeAssert (.iface 76 v) 69 76 true).run Tryd.prog w = .ok (.tuple #[v, .bool true]) w := by kernel_rfl
@[go_sem] theorem p_st (v : Value) (w : World) : (Instr.typeAssert (.iface 71 v) 69 76 true).run Tryd.prog w = .ok (.tuple #[.slice none 0 0, .bool false]) w := by kernel_rfl
@[go_sem] theorem p_tm (v : Value) (w : World) : (Instr.typeAssert (.iface 76 v) 69 76 false).run Tryd.prog w = .ok v w := by kernel_rfl
@[go_sem] theorem p_ts (v : Value) (w : World) : (Instr.typeAssert (.iface 76 v) 69 71 true).run Tryd.prog w = .ok (.tuple #[.agg #[], .bool false]) w := by kernel_rfl
@[go_sem] theorem p_ss (v : Value) (w : World) : (Instr.typeAssert (.iface 71 v) 69 71 true).run Tryd.prog w = .ok (.tuple #[v, .bool true]) w := by kernel_rfl
theorem ofN_more (l : List Nat) (k : Nat) : ofN (l ++ [k]) = ofN l ++ [(k : Int)] := by unfold ofN; simp
theorem append_told (ty : TypeId) (v x : Value) (w : World) : (Builtin.append_ #[28, 76] ty #[v, x]).run Tryd.prog w = (Builtin.append_ #[28, 28] ty #[v, x]).run Tryd.prog w := by
  have hs : (sizeOf 63).run Tryd.prog w = .ok 6 w := by kernel_rfl
  cases v <;> simp [Builtin.append_, run_underlying Tryd.underlying28, run_underlying Tryd.underlying76, hs]
theorem wp_append_ct {w : World} {ops : Array Oper} {rest : List Oper} {o : Oper} {a : Act} {Q : Exit → Act → World → Prop} {s x : Operand} (hgd : o.guard = none)
    (ho : o.op = .call { callee := .builtin .append, args := #[s, x], argTypes := #[28, 76] }) (base : Nat) (v y : Value) (l r : List Cl) (hs : a.eval s = v) (hown : OwnCs w base v l)
    (hy : a.eval x = y) (hx : Cs w y r) (hl : l.length + r.length ≤ 1000000000) (hbase : base ≤ w.heap.size)
    (h : ∀ v' w', OwnCs w' base v' (l ++ r) → w.grownBy w' v.ownBlock → (v'.ownBlock = v.ownBlock ∨ v'.ownBlock = some w.heap.size) → wpList Tryd.prog ops Q rest (a.put o.dst v') w') :
    wpList Tryd.prog ops Q (o :: rest) a w := by
  refine wpList_plain hgd fun K hK => ?_
  obtain ⟨v', w', hr, h2, h3, h4⟩ := run_append_cs (ty := o.type) hown hx hl hbase
  rw [← append_told] at hr
  unfold Oper.wp execOp
  simp only [ho, resolve, invoke, builtin, Sem.run_bind, Sem.run_pure, Result.andThen_ok, List.map_toArray, List.map_cons, List.map_nil, hs, hy, hr]
  exact hK _ _ (h v' w' h2 h3 h4)
structure Bw (w0 : World) (bx : List (Nat × Obj)) (b3 B : Nat) (p : Pt) (u v : Value) (w : World) : Prop where
  bel : Below w0.heap.size w0 w
  bs : ∀ q ∈ bx, w.heap[q.1]? = some q.2 ∧ q.1 < B ∧ q.1 ≠ b3
  h3 : w.heap[b3]? = some (pbox p u v)
  lt3 : b3 < B
  on : OwnN w B u p.at_
  oc : OwnCs w B v p.cells
  lo : w0.heap.size ≤ b3
  up : B ≤ w.heap.size
section
variable {w0 w w' : World} {bx : List (Nat × Obj)} {b3 B : Nat} {p : Pt} {u v : Value}
theorem Bw.kept (h : Bw w0 bx b3 B p u v w) (hb : Below w.heap.size w w') : Bw w0 bx b3 B p u v w' :=
  ⟨h.bel.trans (hb.mono h.bel.size), fun q hq => ⟨Blk.kept (h.bs q hq).1 hb, (h.bs q hq).2⟩, Blk.kept h.h3 hb, h.lt3, h.on.kept hb, row_kept h.oc hb, h.lo, Nat.le_trans h.up hb.size⟩
theorem Bw.drewN (h : Bw w0 bx b3 B p u v w) (q : Nat) : Bw w0 bx b3 B p u v (w.drewN q) := ⟨below_drewN h.bel q, h.bs, h.h3, h.lt3, h.on, h.oc, h.lo, h.up⟩
theorem Bw.pushN (h : Bw w0 bx b3 B p u v w) {u' : Value} {l : List Int} (ho : OwnN w' B u' l) (hg : w.grownBy w' u.ownBlock) : Bw w0 bx b3 B { p with at_ := l } u' v (w'.setCell ⟨b3, 3, none⟩ u') := by
  have h3 := box_grown h.h3 hg h.on h.lt3
  refine ⟨(below_own h.bel hg (Nat.le_trans h.lo (Nat.le_trans (Nat.le_of_lt h.lt3) h.up)) (Blk.low h.on (Nat.le_trans h.lo (Nat.le_of_lt h.lt3)))).setCell (p := ⟨b3, 3, none⟩) h.lo _, fun q hq => ?_, Blk.set h3 3 _, h.lt3, ho.set h.lt3 _ _, OwnCs.set ?_ h.lt3 _ _, h.lo, by rw [World.size_setCell]; exact Nat.le_trans h.up hg.size⟩
  · have hq2 := h.bs q hq
    exact ⟨Blk.other (box_grown hq2.1 hg h.on hq2.2.1) hq2.2.2 _ _, hq2.2⟩
  · exact World.ownsRow.kept h.oc hg (own_apart h.oc h.on (by decide))
theorem Bw.pushC (h : Bw w0 bx b3 B p u v w) {v' : Value} {l : List Cl} (ho : OwnCs w' B v' l) (hg : w.grownBy w' v.ownBlock) : Bw w0 bx b3 B { p with cells := l } u v' (w'.setCell ⟨b3, 4, none⟩ v') := by
  have h3 := box_grown h.h3 hg h.oc h.lt3
  refine ⟨(below_cs h.bel hg (Nat.le_trans h.lo (Nat.le_trans (Nat.le_of_lt h.lt3) h.up)) (h.oc.low (Nat.le_trans h.lo (Nat.le_of_lt h.lt3)))).setCell (p := ⟨b3, 4, none⟩) h.lo _, fun q hq => ?_, Blk.set h3 4 _, h.lt3, OwnN.set ?_ h.lt3 _ _, OwnCs.set ho h.lt3 _ _, h.lo, by rw [World.size_setCell]; exact Nat.le_trans h.up hg.size⟩
  · have hq2 := h.bs q hq
    exact ⟨Blk.other (box_grown hq2.1 hg h.oc hq2.2.1) hq2.2.2 _ _, hq2.2⟩
  · exact World.ownsRow.kept h.on hg (own_apart h.on h.oc (by decide))
end
set_option maxHeartbeats 3200000 in
theorem with_true (R C p q m : Int) (t : List UInt8) (u0 x0 : Value) (L : List Li) (P : Nat → Bool) (fn : Nat → List Cl) (c : Nat) (A : Option Addr) (cap : Nat) (w : World) (hy : Pv w (.slice A L.length cap) L) (hL : LisOk w c L) (hP : L.map bare = mkL L.length P fn) (hn : L.length ≤ 40) (hc : c ≤ 40) :
    Calls Tryd.prog 21 #[.agg #[.int .i64 R, .int .i64 C, .bool true, u0, x0, .int .i64 p, .int .i64 q, .int .i64 m, .string ⟨t.toArray⟩], .slice A L.length cap] w fun e w' => ∃ u v, e = .returned (pagg (⟨R, C, true, [], ((toldTo L.length P).map fn).flatten, p, q, m, t⟩ : Pt) u v) ∧ OwnN w' w.heap.size u [] ∧ OwnCs w' w.heap.size v ((toldTo L.length P).map fn).flatten ∧ Below w.heap.size w w' := by
  have HP : Hid (∀ k, k < L.length → bare (L.getD k default) = if P k = true then some (fn k) else none) := Lib.hid fun k hk => by
    have h := mkL_get L.length P fn hk
    rw [← hP, List.getD_eq_getElem?_getD, List.getElem?_map, List.getElem?_eq_getElem hk] at h
    rw [List.getD_eq_getElem?_getD, List.getElem?_eq_getElem hk]
    exact h
  have HLE : Hid (∀ k, k < L.length → P k = true → (fn k).length = c) := Lib.hid fun k hk hp => by
    have h := HP.out k hk
    rw [if_pos hp] at h
    have hm : L.getD k default ∈ L := by rw [List.getD_eq_getElem?_getD, List.getElem?_eq_getElem hk]; exact List.getElem_mem hk
    have ho := hL _ hm
    generalize L.getD k default = ln at h ho
    cases ln with
    | none => cases h
    | some y =>
      have h : some y.2 = some (fn k) := h
      injection h with h
      rw [← h]
      exact (ho y rfl).2
  have HFL := Lib.hid (fun k (hk : k ≤ L.length) => toldTo_flat (R := L.length) (C := c) (P := P) (f := fn) HLE.out hk hn hc)
  have HY := Lib.hid hy
  have HL := Lib.hid hL
  clear hy hL hP
  have HBD : Hid (Bw w [(w.heap.size + 1, .cells #[.int .i64 0, .int .i64 0, .bool false, .slice none 0 0, .slice none 0 0, .int .i64 0, .int .i64 0, .int .i64 0, .string ⟨#[]⟩] 35 (0, 0))] w.heap.size (w.heap.size + 2) (⟨R, C, true, [], ((toldTo 0 P).map fn).flatten, p, q, m, t⟩ : Pt) nilS nilS ((w.alloc (.cells #[.int .i64 R, .int .i64 C, .bool true, .slice none 0 0, .slice none 0 0, .int .i64 p, .int .i64 q, .int .i64 m, .string ⟨t.toArray⟩] 35 (0, 0))).alloc (.cells #[.int .i64 0, .int .i64 0, .bool false, .slice none 0 0, .slice none 0 0, .int .i64 0, .int .i64 0, .int .i64 0, .string ⟨#[]⟩] 35 (0, 0)))) := Lib.hid (by
    refine ⟨((Below.refl w.heap.size w).alloc (Nat.le_refl _) _).alloc (by simp) _, fun q hq => ?_, old_alloc (new_alloc _ _ _ rfl) _, by omega, OwnN.nil _ _, World.ownsRow_nil _ _ _ _, Nat.le_refl _, by simp⟩
    simp only [List.mem_cons, List.not_mem_nil, or_false] at hq
    subst hq
    exact ⟨new_alloc _ _ _ (by simp), by simp, by simp⟩)
  obtain ⟨n, hnn⟩ : ∃ n, L.length = n := ⟨_, rfl⟩
  have HN := Lib.hid hnn
  rw [hnn] at hn ⊢
  clear hnn
  go_enter Tryd.func21, Tryd.ntmps21
  go_upto_region 2 with (fail)
  generalize (w.alloc (.cells #[.int .i64 R, .int .i64 C, .bool true, .slice none 0 0, .slice none 0 0, .int .i64 p, .int .i64 q, .int .i64 m, .string ⟨t.toArray⟩] 35 (0, 0))).alloc (.cells #[.int .i64 0, .int .i64 0, .bool false, .slice none 0 0, .slice none 0 0, .int .i64 0, .int .i64 0, .int .i64 0, .string ⟨#[]⟩] 35 (0, 0)) = w4 at HBD ⊢
  go_wp2_with fail
  go_loopw [13] (fun i wr => ∃ (k : Nat) (u v : Value), k ≤ n ∧ i = .int .i64 k ∧ Hid (Bw w [(w.heap.size + 1, .cells #[.int .i64 0, .int .i64 0, .bool false, .slice none 0 0, .slice none 0 0, .int .i64 0, .int .i64 0, .int .i64 0, .string ⟨#[]⟩] 35 (0, 0))] w.heap.size (w.heap.size + 2) (⟨R, C, true, [], ((toldTo k P).map fn).flatten, p, q, m, t⟩ : Pt) u v wr)) (fun i _ => n - (intOf i).toNat)
  case atStart => exact ⟨0, _, _, by omega, rfl, HBD⟩
  case round =>
    obtain ⟨k, u, v, hk, rfl, HD⟩ := hrel
    have HFK := Lib.hid (HFL.out k (by rw [HN.out]; exact hk))
    obtain ⟨fl, hfl⟩ : ∃ d, ((toldTo k P).map fn).flatten = d := ⟨_, rfl⟩
    rw [hfl] at HD HFK
    have HFE := Lib.hid hfl
    clear hfl
    by_cases hlt : k < n
    · have hlt' : k < L.length := by rw [HN.out]; exact hlt
      obtain ⟨ad, rfl, hE⟩ := (HY.out.kept HD.out.bel).get hlt'
      have HK := Lib.hid (HP.out k hlt')
      have HLO := Lib.hid ((HL.out _ (show L.getD k default ∈ L by rw [List.getD_eq_getElem?_getD, List.getElem?_eq_getElem hlt']; exact List.getElem_mem hlt')).kept HD.out.bel)
      generalize L.getD k default = ln at hE HK HLO
      clear hlt'
      cases ln with
      | none =>
        have HF : Hid (P k = false) := Lib.hid (by
          have h := HK.out
          cases hp : P k
          · rfl
          · rw [hp] at h; cases h)
        change wr.cell? (ad.add k) = some (.iface 71 (.agg #[])) at hE
        have HNO := Lib.hid (toldTo_no HF.out)
        clear HK HLO HF
        go_wp2_with fail
        go_roundw
        case rel => exact ⟨k + 1, u, v, by omega, by go_num, by rw [HNO.out, HFE.out]; exact HD⟩
        case measure => simp [intOf]; omega
      | some y =>
        obtain ⟨yv, yr⟩ := y
        have HF : Hid (P k = true ∧ fn k = yr) := Lib.hid (by
          have h := HK.out
          cases hp : P k
          · rw [hp] at h; cases h
          · rw [hp] at h
            have h : some yr = some (fn k) := h
            injection h with h
            exact ⟨rfl, h.symm⟩)
        have HRM : Hid (Rm wr yv yr) := Lib.hid (HLO.out _ rfl).1
        have HRL : Hid (yr.length ≤ 40) := Lib.hid (by have := (HLO.out _ rfl).2; simp only at this; omega)
        obtain ⟨yA, yc, rfl, _⟩ := id HRM.out.2
        have HYES := Lib.hid (toldTo_yes HF.out.1)
        have HFY := Lib.hid HF.out.2
        change wr.cell? (ad.add k) = some (.iface 76 (.slice yA yr.length yc)) at hE
        clear HK HLO HF
        obtain ⟨Av, cv, rfl⟩ := own_shape HD.out.oc
        have e4 : wr.cell? ⟨w.heap.size, 4, none⟩ = some (.slice Av fl.length cv) := Blk.cell HD.out.h3 4
        go_upto_region 8 with (at_builtin; refine wp_append_ct rfl rfl (w.heap.size + 2) (.slice Av fl.length cv) _ fl yr rfl HD.out.oc rfl HRM.out.cs (by have := HFK.out; have := HRL.out; omega) HD.out.up ?_; intro v' w11 ho11 hg11 hat11; have h11 := box_grown HD.out.h3 hg11 HD.out.oc HD.out.lt3; have z4 : w11.cell? ⟨w.heap.size, 4, none⟩ = some (.slice Av fl.length cv) := Blk.cell h11 4; have y4 := Blk.free h11 4; obtain ⟨A11, c11, rfl⟩ := own_shape ho11; rw [List.length_append] at ho11; have HDM : Hid (Bw w [(w.heap.size + 1, .cells #[.int .i64 0, .int .i64 0, .bool false, .slice none 0 0, .slice none 0 0, .int .i64 0, .int .i64 0, .int .i64 0, .string ⟨#[]⟩] 35 (0, 0))] w.heap.size (w.heap.size + 2) (⟨R, C, true, [], fl ++ yr, p, q, m, t⟩ : Pt) u (.slice A11 (fl.length + yr.length) c11) (w11.setCell ⟨w.heap.size, 4, none⟩ (.slice A11 (fl.length + yr.length) c11))) := Lib.hid (HD.out.pushC (l := fl ++ yr) ho11 hg11); clear h11 ho11 hg11 hat11 HD)
        clear z4 y4 e4 hE
        generalize (w11.setCell ⟨w.heap.size, 4, none⟩ (.slice A11 (fl.length + yr.length) c11)) = w10 at HDM ⊢
        have a2 : w10.cell? ⟨w.heap.size, 2, none⟩ = some (.bool true) := Blk.cell HDM.out.h3 2
        go_wp2_with fail
        go_roundw
        case rel => exact ⟨k + 1, u, (.slice A11 (fl.length + yr.length) c11), by omega, by go_num, by rw [HYES.out, List.map_append, List.flatten_append, List.map_singleton, HFY.out, List.flatten_singleton, HFE.out]; exact HDM⟩
        case measure => simp [intOf]; omega
    · obtain rfl : k = n := by omega
      have hB2 := Lib.hid (HD.out.bs (w.heap.size + 1, .cells #[.int .i64 0, .int .i64 0, .bool false, .slice none 0 0, .slice none 0 0, .int .i64 0, .int .i64 0, .int .i64 0, .string ⟨#[]⟩] 35 (0, 0)) (by simp)).1
      obtain ⟨Au, cu, rfl⟩ := own_shape HD.out.on
      obtain ⟨Av, cv, rfl⟩ := own_shape HD.out.oc
      have HD3 : Hid (wr.heap[w.heap.size]? = some (.cells #[.int .i64 R, .int .i64 C, .bool true, .slice Au ([] : List Int).length cu, .slice Av fl.length cv, .int .i64 p, .int .i64 q, .int .i64 m, .string ⟨t.toArray⟩] 35 (0, 0))) := Lib.hid HD.out.h3
      go_upto_region 11 with (fail)
      go_wp2_with (first
        | (refine wp_loadP rfl rfl rfl HD3.out ?_)
        | (refine wp_storeP (T := fun w' => w'.heap[w.heap.size + 1]? = some (.cells #[.int .i64 R, .int .i64 C, .bool true, .slice Au ([] : List Int).length cu, .slice Av fl.length cv, .int .i64 p, .int .i64 q, .int .i64 m, .string ⟨t.toArray⟩] 35 (0, 0)) ∧ OwnN w' (w.heap.size + 2) (.slice Au ([] : List Int).length cu) [] ∧ OwnCs w' (w.heap.size + 2) (.slice Av fl.length cv) fl ∧ Below w.heap.size w w') rfl rfl rfl rfl rfl hB2.out (fun w' h => ⟨h.box, h.row HD.out.on (by omega), h.row HD.out.oc (by omega), h.below _ _ (by omega) HD.out.bel⟩) ?_; intro wF HF))
      rw [HFE.out]
      refine bodyPost_ret (v := .agg #[.int .i64 R, .int .i64 C, .bool true, .slice Au ([] : List Int).length cu, .slice Av fl.length cv, .int .i64 p, .int .i64 q, .int .i64 m, .string ⟨t.toArray⟩]) (ret1A aggPatch Tryd.results21 rfl HF.out.1 rfl) rfl ⟨_, _, rfl, HF.out.2.1.low (by omega), HF.out.2.2.1.low (by omega), HF.out.2.2.2⟩
set_option maxHeartbeats 3200000 in
theorem with_false (R C p q m : Int) (t : List UInt8) (u0 x0 : Value) (L : List Li) (P : Nat → Bool) (fn : Nat → List Cl) (c : Nat) (A : Option Addr) (cap : Nat) (w : World) (hy : Pv w (.slice A L.length cap) L) (hL : LisOk w c L) (hP : L.map bare = mkL L.length P fn) (hn : L.length ≤ 40) (hc : c ≤ 40) :
    Calls Tryd.prog 21 #[.agg #[.int .i64 R, .int .i64 C, .bool false, u0, x0, .int .i64 p, .int .i64 q, .int .i64 m, .string ⟨t.toArray⟩], .slice A L.length cap] w fun e w' => ∃ u v, e = .returned (pagg (⟨R, C, false, (ofN (toldTo L.length P)), ((toldTo L.length P).map fn).flatten, p, q, m, t⟩ : Pt) u v) ∧ OwnN w' w.heap.size u (ofN (toldTo L.length P)) ∧ OwnCs w' w.heap.size v ((toldTo L.length P).map fn).flatten ∧ Below w.heap.size w w' := by
  have HP : Hid (∀ k, k < L.length → bare (L.getD k default) = if P k = true then some (fn k) else none) := Lib.hid fun k hk => by
    have h := mkL_get L.length P fn hk
    rw [← hP, List.getD_eq_getElem?_getD, List.getElem?_map, List.getElem?_eq_getElem hk] at h
    rw [List.getD_eq_getElem?_getD, List.getElem?_eq_getElem hk]
    exact h
  have HLE : Hid (∀ k, k < L.length → P k = true → (fn k).length = c) := Lib.hid fun k hk hp => by
    have h := HP.out k hk
    rw [if_pos hp] at h
    have hm : L.getD k default ∈ L := by rw [List.getD_eq_getElem?_getD, List.getElem?_eq_getElem hk]; exact List.getElem_mem hk
    have ho := hL _ hm
    generalize L.getD k default = ln at h ho
    cases ln with
    | none => cases h
    | some y =>
      have h : some y.2 = some (fn k) := h
      injection h with h
      rw [← h]
      exact (ho y rfl).2
  have HFL := Lib.hid (fun k (hk : k ≤ L.length) => toldTo_flat (R := L.length) (C := c) (P := P) (f := fn) HLE.out hk hn hc)
  have HY := Lib.hid hy
  have HL := Lib.hid hL
  clear hy hL hP
  have HBD : Hid (Bw w [(w.heap.size + 1, .cells #[.int .i64 0, .int .i64 0, .bool false, .slice none 0 0, .slice none 0 0, .int .i64 0, .int .i64 0, .int .i64 0, .string ⟨#[]⟩] 35 (0, 0))] w.heap.size (w.heap.size + 2) (⟨R, C, false, (ofN (toldTo 0 P)), ((toldTo 0 P).map fn).flatten, p, q, m, t⟩ : Pt) nilS nilS ((w.alloc (.cells #[.int .i64 R, .int .i64 C, .bool false, .slice none 0 0, .slice none 0 0, .int .i64 p, .int .i64 q, .int .i64 m, .string ⟨t.toArray⟩] 35 (0, 0))).alloc (.cells #[.int .i64 0, .int .i64 0, .bool false, .slice none 0 0, .slice none 0 0, .int .i64 0, .int .i64 0, .int .i64 0, .string ⟨#[]⟩] 35 (0, 0)))) := Lib.hid (by
    refine ⟨((Below.refl w.heap.size w).alloc (Nat.le_refl _) _).alloc (by simp) _, fun q hq => ?_, old_alloc (new_alloc _ _ _ rfl) _, by omega, OwnN.nil _ _, World.ownsRow_nil _ _ _ _, Nat.le_refl _, by simp⟩
    simp only [List.mem_cons, List.not_mem_nil, or_false] at hq
    subst hq
    exact ⟨new_alloc _ _ _ (by simp), by simp, by simp⟩)
  obtain ⟨n, hnn⟩ : ∃ n, L.length = n := ⟨_, rfl⟩
  have HN := Lib.hid hnn
  rw [hnn] at hn ⊢
  clear hnn
  go_enter Tryd.func21, Tryd.ntmps21
  go_upto_region 2 with (fail)
  generalize (w.alloc (.cells #[.int .i64 R, .int .i64 C, .bool false, .slice none 0 0, .slice none 0 0, .int .i64 p, .int .i64 q, .int .i64 m, .string ⟨t.toArray⟩] 35 (0, 0))).alloc (.cells #[.int .i64 0, .int .i64 0, .bool false, .slice none 0 0, .slice none 0 0, .int .i64 0, .int .i64 0, .int .i64 0, .string ⟨#[]⟩] 35 (0, 0)) = w4 at HBD ⊢
  go_wp2_with fail
  go_loopw [13] (fun i wr => ∃ (k : Nat) (u v : Value), k ≤ n ∧ i = .int .i64 k ∧ Hid (Bw w [(w.heap.size + 1, .cells #[.int .i64 0, .int .i64 0, .bool false, .slice none 0 0, .slice none 0 0, .int .i64 0, .int .i64 0, .int .i64 0, .string ⟨#[]⟩] 35 (0, 0))] w.heap.size (w.heap.size + 2) (⟨R, C, false, (ofN (toldTo k P)), ((toldTo k P).map fn).flatten, p, q, m, t⟩ : Pt) u v wr)) (fun i _ => n - (intOf i).toNat)
  case atStart => exact ⟨0, _, _, by omega, rfl, HBD⟩
  case round =>
    obtain ⟨k, u, v, hk, rfl, HD⟩ := hrel
    have HFK := Lib.hid (HFL.out k (by rw [HN.out]; exact hk))
    obtain ⟨fl, hfl⟩ : ∃ d, ((toldTo k P).map fn).flatten = d := ⟨_, rfl⟩
    rw [hfl] at HD HFK
    have HFE := Lib.hid hfl
    clear hfl
    obtain ⟨dn, hdn⟩ : ∃ d, ofN (toldTo k P) = d := ⟨_, rfl⟩
    have HLD : Hid (dn.length ≤ k) := Lib.hid (by rw [← hdn, ofN_length]; exact toldTo_len k P)
    rw [hdn] at HD
    have HDE := Lib.hid hdn
    clear hdn
    by_cases hlt : k < n
    · have hlt' : k < L.length := by rw [HN.out]; exact hlt
      obtain ⟨ad, rfl, hE⟩ := (HY.out.kept HD.out.bel).get hlt'
      have HK := Lib.hid (HP.out k hlt')
      have HLO := Lib.hid ((HL.out _ (show L.getD k default ∈ L by rw [List.getD_eq_getElem?_getD, List.getElem?_eq_getElem hlt']; exact List.getElem_mem hlt')).kept HD.out.bel)
      generalize L.getD k default = ln at hE HK HLO
      clear hlt'
      cases ln with
      | none =>
        have HF : Hid (P k = false) := Lib.hid (by
          have h := HK.out
          cases hp : P k
          · rfl
          · rw [hp] at h; cases h)
        change wr.cell? (ad.add k) = some (.iface 71 (.agg #[])) at hE
        have HNO := Lib.hid (toldTo_no HF.out)
        clear HK HLO HF
        go_wp2_with fail
        go_roundw
        case rel => exact ⟨k + 1, u, v, by omega, by go_num, by rw [HNO.out, HDE.out, HFE.out]; exact HD⟩
        case measure => simp [intOf]; omega
      | some y =>
        obtain ⟨yv, yr⟩ := y
        have HF : Hid (P k = true ∧ fn k = yr) := Lib.hid (by
          have h := HK.out
          cases hp : P k
          · rw [hp] at h; cases h
          · rw [hp] at h
            have h : some yr = some (fn k) := h
            injection h with h
            exact ⟨rfl, h.symm⟩)
        have HRM : Hid (Rm wr yv yr) := Lib.hid (HLO.out _ rfl).1
        have HRL : Hid (yr.length ≤ 40) := Lib.hid (by have := (HLO.out _ rfl).2; simp only at this; omega)
        obtain ⟨yA, yc, rfl, _⟩ := id HRM.out.2
        have HYES := Lib.hid (toldTo_yes HF.out.1)
        have HFY := Lib.hid HF.out.2
        change wr.cell? (ad.add k) = some (.iface 76 (.slice yA yr.length yc)) at hE
        clear HK HLO HF
        obtain ⟨Av, cv, rfl⟩ := own_shape HD.out.oc
        have e4 : wr.cell? ⟨w.heap.size, 4, none⟩ = some (.slice Av fl.length cv) := Blk.cell HD.out.h3 4
        go_upto_region 8 with (at_builtin; refine wp_append_ct rfl rfl (w.heap.size + 2) (.slice Av fl.length cv) _ fl yr rfl HD.out.oc rfl HRM.out.cs (by have := HFK.out; have := HRL.out; omega) HD.out.up ?_; intro v' w11 ho11 hg11 hat11; have h11 := box_grown HD.out.h3 hg11 HD.out.oc HD.out.lt3; have z4 : w11.cell? ⟨w.heap.size, 4, none⟩ = some (.slice Av fl.length cv) := Blk.cell h11 4; have y4 := Blk.free h11 4; obtain ⟨A11, c11, rfl⟩ := own_shape ho11; rw [List.length_append] at ho11; have HDM : Hid (Bw w [(w.heap.size + 1, .cells #[.int .i64 0, .int .i64 0, .bool false, .slice none 0 0, .slice none 0 0, .int .i64 0, .int .i64 0, .int .i64 0, .string ⟨#[]⟩] 35 (0, 0))] w.heap.size (w.heap.size + 2) (⟨R, C, false, dn, fl ++ yr, p, q, m, t⟩ : Pt) u (.slice A11 (fl.length + yr.length) c11) (w11.setCell ⟨w.heap.size, 4, none⟩ (.slice A11 (fl.length + yr.length) c11))) := Lib.hid (HD.out.pushC (l := fl ++ yr) ho11 hg11); clear h11 ho11 hg11 hat11 HD)
        clear z4 y4 e4 hE
        generalize (w11.setCell ⟨w.heap.size, 4, none⟩ (.slice A11 (fl.length + yr.length) c11)) = w10 at HDM ⊢
        have a2 : w10.cell? ⟨w.heap.size, 2, none⟩ = some (.bool false) := Blk.cell HDM.out.h3 2
        obtain ⟨Au, cu, rfl⟩ := own_shape HDM.out.on
        have e3 : w10.cell? ⟨w.heap.size, 3, none⟩ = some (.slice Au dn.length cu) := Blk.cell HDM.out.h3 3
        have HSR : Hid (∀ cap : Nat, Src (w10.alloc (.cells #[.int .i64 k] 3)) (.slice (some ⟨w10.heap.size, 0, none⟩) 1 cap) 1 (ints [(k : Int)])) := Lib.hid fun cap => Src.made w10 (ints [(k : Int)]) 3 1 cap rfl
        have HDA := Lib.hid (HDM.out.kept ((Below.refl _ _).alloc (Nat.le_refl _) (.cells #[.int .i64 k] 3)))
        have hon : OwnN (w10.alloc (.cells #[.int .i64 k] 3)) (w.heap.size + 2) (.slice Au dn.length cu) dn := HDA.out.on
        clear HDM
        go_wp2_with (at_builtin; refine wp_append_ints rfl rfl (w.heap.size + 2) (.slice Au dn.length cu) _ dn rfl hon _ 1 [(k : Int)] rfl (HSR.out _) (by have := HLD.out; omega) HDA.out.up ?_; intro u' w9 ho9 hg9 hat9; have h9 := box_grown HDA.out.h3 hg9 HDA.out.on HDA.out.lt3; have z3 : w9.cell? ⟨w.heap.size, 3, none⟩ = some (.slice Au dn.length cu) := Blk.cell h9 3; have y3 := Blk.free h9 3; obtain ⟨A9, c9, rfl⟩ := own_shape ho9; have HDN : Hid (Bw w [(w.heap.size + 1, .cells #[.int .i64 0, .int .i64 0, .bool false, .slice none 0 0, .slice none 0 0, .int .i64 0, .int .i64 0, .int .i64 0, .string ⟨#[]⟩] 35 (0, 0))] w.heap.size (w.heap.size + 2) (⟨R, C, false, dn ++ [(k : Int)], fl ++ yr, p, q, m, t⟩ : Pt) (.slice A9 (dn.length + 1) c9) (.slice A11 (fl.length + yr.length) c11) (w9.setCell ⟨w.heap.size, 3, none⟩ (.slice A9 (dn.length + 1) c9))) := Lib.hid (HDA.out.pushN (l := dn ++ [(k : Int)]) (by unfold OwnN; rw [List.length_append]; exact ho9) hg9); clear h9 ho9 hg9 hat9 HDA hon)
        go_roundw
        case rel => exact ⟨k + 1, (.slice A9 (dn.length + 1) c9), (.slice A11 (fl.length + yr.length) c11), by omega, by go_num, by rw [HYES.out, ofN_more, List.map_append, List.flatten_append, List.map_singleton, HFY.out, List.flatten_singleton, HDE.out, HFE.out]; exact HDN⟩
        case measure => simp [intOf]; omega
    · obtain rfl : k = n := by omega
      have hB2 := Lib.hid (HD.out.bs (w.heap.size + 1, .cells #[.int .i64 0, .int .i64 0, .bool false, .slice none 0 0, .slice none 0 0, .int .i64 0, .int .i64 0, .int .i64 0, .string ⟨#[]⟩] 35 (0, 0)) (by simp)).1
      obtain ⟨Au, cu, rfl⟩ := own_shape HD.out.on
      obtain ⟨Av, cv, rfl⟩ := own_shape HD.out.oc
      have HD3 : Hid (wr.heap[w.heap.size]? = some (.cells #[.int .i64 R, .int .i64 C, .bool false, .slice Au dn.length cu, .slice Av fl.length cv, .int .i64 p, .int .i64 q, .int .i64 m, .string ⟨t.toArray⟩] 35 (0, 0))) := Lib.hid HD.out.h3
      go_upto_region 11 with (fail)
      go_wp2_with (first
        | (refine wp_loadP rfl rfl rfl HD3.out ?_)
        | (refine wp_storeP (T := fun w' => w'.heap[w.heap.size + 1]? = some (.cells #[.int .i64 R, .int .i64 C, .bool false, .slice Au dn.length cu, .slice Av fl.length cv, .int .i64 p, .int .i64 q, .int .i64 m, .string ⟨t.toArray⟩] 35 (0, 0)) ∧ OwnN w' (w.heap.size + 2) (.slice Au dn.length cu) dn ∧ OwnCs w' (w.heap.size + 2) (.slice Av fl.length cv) fl ∧ Below w.heap.size w w') rfl rfl rfl rfl rfl hB2.out (fun w' h => ⟨h.box, h.row HD.out.on (by omega), h.row HD.out.oc (by omega), h.below _ _ (by omega) HD.out.bel⟩) ?_; intro wF HF))
      rw [HFE.out, HDE.out]
      refine bodyPost_ret (v := .agg #[.int .i64 R, .int .i64 C, .bool false, .slice Au dn.length cu, .slice Av fl.length cv, .int .i64 p, .int .i64 q, .int .i64 m, .string ⟨t.toArray⟩]) (ret1A aggPatch Tryd.results21 rfl HF.out.1 rfl) rfl ⟨_, _, rfl, HF.out.2.1.low (by omega), HF.out.2.2.1.low (by omega), HF.out.2.2.2⟩
theorem with_any (pt : Pt) (u0 x0 : Value) (L : List Li) (P : Nat → Bool) (fn : Nat → List Cl) (c : Nat) (y : Value) (w : World) (hy : Pv w y L) (hL : LisOk w c L) (hP : L.map bare = mkL L.length P fn) (hn : L.length ≤ 40) (hc : c ≤ 40) :
    Calls Tryd.prog 21 #[pagg pt u0 x0, y] w fun e w' => ∃ u v, e = .returned (pagg (withP pt L.length P fn) u v) ∧ OwnN w' w.heap.size u (withP pt L.length P fn).at_ ∧ OwnCs w' w.heap.size v (withP pt L.length P fn).cells ∧ Below w.heap.size w w' := by
  obtain ⟨A, cap, rfl, _⟩ := id hy.2
  obtain ⟨R, C, f, a, cl, p, q, m, t⟩ := pt
  cases f with
  | true => exact with_true R C p q m t u0 x0 L P fn c A cap w hy hL hP hn hc
  | false => exact with_false R C p q m t u0 x0 L P fn c A cap w hy hL hP hn hc
end Pat
end
section
open Go.RowKit
namespace Pat
open Go.Proofs.YtjcfbeiljdohcaaDoor.Row Go.Proofs.YtjcfbeiljdohcaaDoor.Scr Agb
def rkTo (R k : Nat) : List Int := (List.range R).map fun (i : Nat) => if i < k then (i : Int) else 0
theorem rkTo_length (R k : Nat) : (rkTo R k).length = R := by unfold rkTo; simp
theorem rkTo_get {R k i : Nat} (h : i < R) : (rkTo R k).getD i 0 = if i < k then (i : Int) else 0 := by unfold rkTo; simp [List.getD, h]
theorem int_ext {a b : List Int} (h : a.length = b.length) (k : ∀ i, i < a.length → a.getD i 0 = b.getD i 0) : a = b := by
  apply List.ext_getElem h
  intro i h1 h2
  have := k i h1
  simpa [List.getD, h1, h2] using this
theorem rkTo_zero (R : Nat) : rkTo R 0 = List.replicate R 0 := int_ext (by rw [rkTo_length, List.length_replicate]) fun i hi => by
  rw [rkTo_length] at hi
  rw [rkTo_get hi, if_neg (by omega)]; simp [List.getD, hi]
theorem rkTo_all (R : Nat) : rkTo R R = ofN (List.range R) := int_ext (by rw [rkTo_length, ofN_length, List.length_range]) fun i hi => by
  rw [rkTo_length] at hi
  rw [rkTo_get hi, if_pos hi]; unfold ofN; simp [List.getD, hi]
theorem rkTo_succ {R k : Nat} (h : k < R) : rkTo R (k + 1) = (rkTo R k).set k (k : Int) := int_ext (by rw [List.length_set, rkTo_length, rkTo_length]) fun i hi => by
  rw [rkTo_length] at hi
  rw [rkTo_get hi]
  by_cases e : i = k
  · subst e
    rw [if_pos (by omega)]; simp [List.getD, rkTo_length, hi]
  · have h2 : ((rkTo R k).set k (k : Int)).getD i 0 = (rkTo R k).getD i 0 := by simp [List.getD, List.getElem?_set_ne (fun q => e q.symm)]
    rw [h2, rkTo_get hi]
    by_cases q : i < k
    · rw [if_pos q, if_pos (by omega)]
    · rw [if_neg q, if_neg (by omega)]
theorem pmake_ints (n : Nat) (hn : n ≤ 1000000) (w : World) : ∃ wm, (Instr.makeSlice 33 (.int .i64 n) (.int .i64 n)).run Tryd.prog w = .ok (.slice (some ⟨w.heap.size, 0, none⟩) n n) wm ∧
    wm.ownsRow w.heap.size 3 1 (.slice (some ⟨w.heap.size, 0, none⟩) n n) n (ints (List.replicate n 0)) ∧ Below w.heap.size w wm := by
  obtain ⟨i, hi, hz, h1, h2⟩ := Tryd.int_row
  obtain ⟨wm, hr, ho, hg⟩ := run_make_full (P := Tryd.prog) w w.heap.size 33 3 i _ 1 Tryd.underlying33 hi hz h1 .i64 .i64 n (by rw [h2]; omega) (by simp only [maxLen]; omega) (Nat.le_refl _)
  refine ⟨wm, hr, ?_, ⟨hg.os, hg.tape, hg.output, hg.size, fun k hk => hg.block k hk (by simp)⟩⟩
  rw [Nat.mul_one, show (Value.int .i64 0).cells = #[.int .i64 0] from rfl, toList_madeCells_one] at ho
  unfold ints
  rw [List.map_replicate]; exact ho
set_option maxHeartbeats 1600000 in
theorem rows_all (R : Nat) (C p q m : Int) (T : ByteArray) (u x : Value) (w : World) (hR : R ≤ 40) :
    Calls Tryd.prog 35 #[.agg #[.int .i64 R, .int .i64 C, .bool true, u, x, .int .i64 p, .int .i64 q, .int .i64 m, .string T]] w fun e w' => ∃ v, e = .returned v ∧ OwnN w' w.heap.size v (ofN (List.range R)) ∧ Below w.heap.size w w' := by
  have hB0 := (Below.refl w.heap.size w).alloc (Nat.le_refl _) (.cells #[.int .i64 R, .int .i64 C, .bool true, u, x, .int .i64 p, .int .i64 q, .int .i64 m, .string T] 35 (0, 0))
  have hsz : (w.alloc (.cells #[.int .i64 R, .int .i64 C, .bool true, u, x, .int .i64 p, .int .i64 q, .int .i64 m, .string T] 35 (0, 0))).heap.size = w.heap.size + 1 := World.size_alloc _ _
  obtain ⟨wm, hm, ho, hb⟩ := pmake_ints R (by omega) (w.alloc (.cells #[.int .i64 R, .int .i64 C, .bool true, u, x, .int .i64 p, .int .i64 q, .int .i64 m, .string T] 35 (0, 0)))
  rw [hsz] at hm ho hb
  have HB := Lib.hid (hB0.trans (hb.mono (Nat.le_succ _)))
  have HO : Hid (wm.ownsRow (w.heap.size + 1) 3 1 (.slice (some ⟨w.heap.size + 1, 0, none⟩) R R) R (ints (rkTo R 0))) := Lib.hid (by rw [rkTo_zero]; exact ho)
  clear hB0 hb ho hsz
  go_enter Tryd.func35, Tryd.ntmps35
  go_wp2_with fail
  clear hm
  go_loopw [15] (fun i wr => ∃ k : Nat, k ≤ R ∧ i = .int .i64 k ∧ Hid (wr.ownsRow (w.heap.size + 1) 3 1 (.slice (some ⟨w.heap.size + 1, 0, none⟩) R R) R (ints (rkTo R k))) ∧ Hid (Below w.heap.size w wr)) (fun i _ => R - (intOf i).toNat)
  case atStart => exact ⟨0, by omega, rfl, HO, HB⟩
  case round =>
    obtain ⟨k, hk, rfl, HOR, HBR⟩ := hrel
    by_cases hlt : k < R
    · have hc := World.ownsRow.cellAt HOR.out k (by omega)
      have hf := World.ownsRow.frozenAt HOR.out k
      have hg : (ints (rkTo R k))[k]? = some (.int .i64 ((rkTo R k).getD k 0)) := by unfold ints; simp [List.getD, rkTo_length, hlt]
      rw [hg] at hc
      generalize (rkTo R k).getD k 0 = z at hc
      have HS : Hid ((wr.setCell ⟨w.heap.size + 1, k, none⟩ (.int .i64 k)).ownsRow (w.heap.size + 1) 3 1 (.slice (some ⟨w.heap.size + 1, 0, none⟩) R R) R (ints (rkTo R (k + 1)))) := Lib.hid (by
        have s := (World.ownsRow.stored HOR.out k (.int .i64 k)).1
        rw [rkTo_succ hlt]
        have e : ints ((rkTo R k).set k (k : Int)) = (ints (rkTo R k)).set k (.int .i64 k) := by unfold ints; rw [List.map_set]
        rw [e]; exact s)
      have HBS := Lib.hid (HBR.out.setCell (p := ⟨w.heap.size + 1, k, none⟩) (Nat.le_succ _) (.int .i64 k))
      clear hg
      go_wp2_with fail
      go_roundw
      case rel => exact ⟨k + 1, by omega, by go_num, HS, HBS⟩
      case measure => simp [intOf]; omega
    · obtain rfl : k = R := by omega
      have HF : Hid (OwnN wr w.heap.size (.slice (some ⟨w.heap.size + 1, 0, none⟩) k k) (ofN (List.range k))) := Lib.hid (by
        unfold OwnN
        rw [ofN_length, List.length_range, ← rkTo_all]
        exact Blk.low HOR.out (Nat.le_succ _))
      go_wp2_with fail
      go_ret
      exact ⟨_, rfl, HF.out, HBR.out⟩
theorem rows_some (R C p q m : Int) (T : ByteArray) (u x : Value) (w : World) :
    Calls Tryd.prog 35 #[.agg #[.int .i64 R, .int .i64 C, .bool false, u, x, .int .i64 p, .int .i64 q, .int .i64 m, .string T]] w fun e w' => e = .returned u ∧ Below w.heap.size w w' := by
  have HB := Lib.hid ((Below.refl w.heap.size w).alloc (Nat.le_refl _) (.cells #[.int .i64 R, .int .i64 C, .bool false, u, x, .int .i64 p, .int .i64 q, .int .i64 m, .string T] 35 (0, 0)))
  go_enter Tryd.func35, Tryd.ntmps35
  go_wp2_with fail
  go_ret
  exact ⟨rfl, HB.out⟩
end Pat
end
end Go.Proofs.YtjcfbeiljdohcaaDoor
