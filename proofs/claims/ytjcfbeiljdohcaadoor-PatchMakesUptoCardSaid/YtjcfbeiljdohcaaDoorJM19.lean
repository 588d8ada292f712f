/- Joined texts: GrdLaid. -/
import Derived.Test.YtjcfbeiljdohcaaDoorJM18
import Derived.Deep.RegionLaw
namespace Go.Proofs.YtjcfbeiljdohcaaDoor
set_option maxRecDepth 100000
section
open Go.RowKit
namespace Row
@[go_sem] theorem l_kk (v : Value) (w : World) : (Instr.typeAssert (.iface 155 v) 147 155 true).run Tryd.prog w = .ok (.tuple #[v, .bool true]) w := by kernel_rfl
@[go_sem] theorem l_ek (v : Value) (w : World) : (Instr.typeAssert (.iface 151 v) 147 155 true).run Tryd.prog w = .ok (.tuple #[.slice none 0 0, .bool false]) w := by kernel_rfl
@[go_sem] theorem l_ee (v : Value) (w : World) : (Instr.typeAssert (.iface 151 v) 147 151 false).run Tryd.prog w = .ok v w := by kernel_rfl
@[go_sem] theorem l_mk (v : Value) (w : World) : (Instr.typeAssert (.iface 155 v) 147 155 false).run Tryd.prog w = .ok v w := by kernel_rfl
@[go_sem] theorem f_look (x y z : Int) (w : World) : (Instr.field 151 (.agg #[.int .i64 x, .int .i64 y, .int .i64 z]) 0).run Tryd.prog w = .ok (.agg #[.int .i64 x, .int .i64 y, .int .i64 z]) w := by kernel_rfl
set_option maxHeartbeats 800000 in
theorem cells_of (c : Nat) (x : Ln) (w : World) (hx : LnOk w c x) (h1 : 1 ≤ c) (h2 : c ≤ 40) :
    Calls Tryd.prog 79 #[lv x, .int .i64 c] w fun e w' => ∃ v, e = .returned v ∧ Cs w' v (lrow c x) ∧ Below w.heap.size w w' := by
  cases x with
  | kept v r =>
    obtain ⟨⟨hcs, A, cp, rfl, _⟩, hl⟩ := hx
    subst hl
    have HX := Lib.hid hcs
    clear hcs
    show Calls Tryd.prog _ #[.iface 155 (.slice A r.length cp), .int .i64 r.length] _ _
    go_enter Tryd.func79, Tryd.ntmps79
    go_wp2_with fail
    go_ret
    exact ⟨_, rfl, HX.out, Below.refl _ _⟩
  | empty a =>
    have HBK := Lib.hid (fun w' => gridBlanks_any c a w' h1 h2 hx)
    clear hx
    show Calls Tryd.prog _ #[.iface 151 (.agg #[.int .i64 a.fg, .int .i64 a.bg, .int .i64 a.flags]), .int .i64 c] _ _
    go_enter Tryd.func79, Tryd.ntmps79
    go_wp2_with fail
    refine (HBK.out _).mono ?_; rintro e w2 ⟨v, rfl, ho, hb2⟩
    have HO := Lib.hid ho
    have HB2 := Lib.hid hb2
    clear ho hb2
    go_wp2_with fail
    go_ret
    exact ⟨v, rfl, HO.out.cs, HB2.out⟩
theorem Sv.one (w : World) (x : Ln) (arr : Array Value) (h : #[lv x] = arr) : Sv (w.alloc (.cells arr 147)) (.slice (some ⟨w.heap.size, 0, none⟩) 1 1) [x] := by
  subst h
  exact ⟨Src.one w (lv x) 147 1, _, _, rfl, Nat.le_refl _⟩
set_option maxHeartbeats 800000 in
theorem empties_any (n : Nat) (a : Look) (w : World) (hn : n ≤ 1000000) :
    Calls Tryd.prog 67 #[.int .i64 n, .agg #[.int .i64 a.fg, .int .i64 a.bg, .int .i64 a.flags]] w fun e w' => ∃ v, e = .returned v ∧ OwnL w' w.heap.size v (List.replicate n (.empty a)) ∧ Below w.heap.size w w' := by
  have HR := Lib.hid (fun x w' (h : Sv w' x [.empty a]) => repeatL_any (.empty a) x n w' h hn)
  have HS : Hid (Sv ((w.alloc (.cells #[.int .i64 a.fg, .int .i64 a.bg, .int .i64 a.flags] 60)).alloc (.cells #[.iface 151 (.agg #[.int .i64 a.fg, .int .i64 a.bg, .int .i64 a.flags])] 147)) (.slice (some ⟨w.heap.size + 1, 0, none⟩) 1 1) [.empty a]) := Lib.hid (by
    have h := Sv.one (w.alloc (.cells #[.int .i64 a.fg, .int .i64 a.bg, .int .i64 a.flags] 60)) (.empty a) _ rfl
    rwa [World.size_alloc] at h)
  go_enter Tryd.func67, Tryd.ntmps67
  go_wp2_with fail
  refine (HR.out _ _ HS.out).mono ?_; rintro e w2 ⟨v, rfl, ho2, hb2⟩
  have HO2 : Hid (OwnL w2 w.heap.size v (List.replicate n (.empty a))) := Lib.hid (ho2.low (by simp; omega))
  have HB2 : Hid (Below w.heap.size w w2) := Lib.hid ((((Below.refl _ _).alloc (Nat.le_refl _) _).alloc (by simp) _).trans (hb2.mono (by simp; omega)))
  clear ho2 hb2
  go_wp2_with fail
  go_ret
  exact ⟨v, rfl, HO2.out, HB2.out⟩
theorem step_append_cs {w : World} {ops : Array Oper} {o : Oper} {a : Act} {K : Act → World → Prop} {Q : Exit → Act → World → Prop} {E : Prop} {s x : Operand} (hgd : o.guard = none)
    (ho : o.op = .call { callee := .builtin .append, args := #[s, x], argTypes := #[28, 28] }) (base : Nat) (v y : Value) (l r : List Cl) (hs : a.eval s = v) (hown : OwnCs w base v l)
    (hy : a.eval x = y) (hx : Cs w y r) (hl : l.length + r.length ≤ 1000000000) (hbase : base ≤ w.heap.size)
    (hK : ∀ v' w', OwnCs w' base v' (l ++ r) → w.grownBy w' v.ownBlock → (v'.ownBlock = v.ownBlock ∨ v'.ownBlock = some w.heap.size) → K (a.put o.dst v') w') :
    if Region.wanted o (yielded ops a.tmps) = true then Oper.wp Tryd.prog o a w K Q else E := by
  have hw : Region.wanted o (yielded ops a.tmps) = true := by simp [Region.wanted, hgd]
  rw [if_pos hw]
  obtain ⟨v', w', hr, h2, h3, h4⟩ := run_append_cs (ty := o.type) hown hx hl hbase
  unfold Oper.wp execOp
  simp only [ho, resolve, invoke, builtin, Sem.run_bind, Sem.run_pure, Result.andThen_ok, List.map_toArray, List.map_cons, List.map_nil, hs, hy, hr]
  exact hK _ _ h2 h3 h4
theorem OwnCs.not_box {w : World} {base b : Nat} {v : Value} {l : List Cl} {cs : Array Value} {T : TypeId} (h : OwnCs w base v l) (hb : w.heap[b]? = some (.cells cs T (0, 0))) (hT : T ≠ 63) : some b ≠ v.ownBlock := by
  rcases h.2 with ⟨rfl, _⟩ | ⟨g, cap, cur, rfl, _, hg, _⟩
  · simp [Value.ownBlock]
  · intro e
    obtain rfl : b = g := by simpa [Value.ownBlock] using e
    rw [hb] at hg
    injection hg with hg
    injection hg with _ hg
    exact hT hg
theorem OwnCs.setBox {w : World} {base b : Nat} {v : Value} {l : List Cl} {cs : Array Value} {T : TypeId} (h : OwnCs w base v l) (hb : w.heap[b]? = some (.cells cs T (0, 0))) (hT : T ≠ 63) (j : Nat) (u : Value) : OwnCs (w.setCell ⟨b, j, none⟩ u) base v l := by
  have hn := h.not_box hb hT
  refine ⟨h.1, ?_⟩
  rcases h.2 with h0 | ⟨g, cap, cur, rfl, hg, hc, rest⟩
  · exact .inl h0
  · exact .inr ⟨g, cap, cur, rfl, hg, Blk.other hc (fun e => hn (by rw [e]; rfl)) j u, rest⟩
theorem box_grown {w w' : World} {row : Option Nat} {b : Nat} {o : Obj} (hb : w.heap[b]? = some o) (hg : w.grownBy w' row) (hn : some b ≠ row) : w'.heap[b]? = some o := (hg.block b (Blk.lt hb) hn).trans hb
def rowsOfL (c : Nat) (ls : List Ln) : List (List Cl) := ls.map (lrow c)
theorem rows_small {w : World} {c : Nat} {ls : List Ln} (h : LnsOk w c ls) : (rowsOfL c ls).flatten.length = ls.length * c := by
  have : Even c (rowsOfL c ls) := fun r hr => by
    obtain ⟨x, hx, rfl⟩ := List.mem_map.1 hr
    exact lrow_len (h x hx)
  rw [even_length this]; unfold rowsOfL; rw [List.length_map]
theorem rows_succ {c k : Nat} {ls : List Ln} (h : k < ls.length) : (rowsOfL c (ls.take (k + 1))).flatten = (rowsOfL c (ls.take k)).flatten ++ lrow c (ls.getD k default) := by
  unfold rowsOfL
  rw [List.take_succ_eq_append_getElem h, List.map_append, List.flatten_append]
  simp [List.getD, h]
set_option maxHeartbeats 4000000 in
theorem laid_any (ls : List Ln) (c : Nat) (x : Value) (w : World) (hx : Sv w x ls) (hok : LnsOk w c ls) (h1 : 1 ≤ c) (h2 : c ≤ 40) (hl : ls.length ≤ 40) :
    Calls Tryd.prog 66 #[x, .int .i64 c] w fun e w' => ∃ v, e = .returned (.agg #[.int .i64 ls.length, .int .i64 c, v]) ∧ OwnCs w' w.heap.size v (rowsOfL c ls).flatten ∧ Below w.heap.size w w' := by
  obtain ⟨i, hi, hz, h6, h56⟩ := cell_row
  have HX := Lib.hid hx
  obtain ⟨_, A, cp, rfl, hcp⟩ := hx
  have hm : ls.length * c ≤ 1600 := Nat.mul_le_mul hl h2
  obtain ⟨m, hmm⟩ : ∃ m, m = ls.length * c := ⟨_, rfl⟩
  have hw : IntKind.i64.wrap ((ls.length : Int) * (c : Int)) = (m : Int) := by rw [hmm, ← Int.natCast_mul, IntKind.wrap_i64]; omega
  have HSM : Hid (∀ k, (rowsOfL c (ls.take k)).flatten.length ≤ 1600) := Lib.hid fun k => by
    rw [rows_small (w := w) (c := c) (fun x hx => hok x (List.mem_of_mem_take hx)), List.length_take]
    exact Nat.le_trans (Nat.mul_le_mul (Nat.le_trans (Nat.min_le_right _ _) hl) h2) (by omega)
  have HOK := Lib.hid hok
  have hm2 : m ≤ 1600 := by omega
  clear hmm hm hok
  go_enter Tryd.func66, Tryd.ntmps66
  go_wp2_with (at_make; refine wpList_make_own _ rfl _ _ _ rfl (w.heap.size + 1) 63 i _ 6 Tryd.underlying28 hi hz h6 .i64 .i64 (m : Int) m rfl rfl rfl (by rw [h56]; omega) (by simp only [maxLen]; omega) (by simp) ?_; intro w1 ho1 hg1; have HO1 : Hid (OwnCs w1 (w.heap.size + 1) (.slice (some ⟨(w.alloc (gbox 0 0 (.slice none 0 0))).heap.size, 0, none⟩) 0 m) []) := Lib.hid ho1; have HB1 : Hid (Below (w.heap.size + 1) (w.alloc (gbox 0 0 (.slice none 0 0))) w1) := Lib.hid ((Below.refl _ _).grown hg1 (by simp) (fun k hk => by cases hk)); clear ho1 hg1)
  have hsz := HB1.out.size
  rw [World.size_alloc] at hsz HO1
  have HZ : Hid ((w1.alloc (gbox ls.length c (.slice (some ⟨w.heap.size + 1, 0, none⟩) 0 m))).heap[w.heap.size]? = some (gbox 0 0 (.slice none 0 0))) := Lib.hid (old_alloc ((HB1.out.block w.heap.size (by omega)).trans (new_alloc _ _ _ rfl)) _)
  have HN : Hid ((w1.alloc (gbox ls.length c (.slice (some ⟨w.heap.size + 1, 0, none⟩) 0 m))).heap[w1.heap.size]? = some (gbox ls.length c (.slice (some ⟨w.heap.size + 1, 0, none⟩) 0 m))) := Lib.hid (new_alloc _ _ _ rfl)
  have HO2 : Hid (OwnCs (w1.alloc (gbox ls.length c (.slice (some ⟨w.heap.size + 1, 0, none⟩) 0 m))) (w.heap.size + 1) (.slice (some ⟨w.heap.size + 1, 0, none⟩) 0 m) []) := Lib.hid (HO1.out.kept ((Below.refl _ _).alloc (Nat.le_refl _) _))
  have HBW : Hid (Below w.heap.size w (w1.alloc (gbox ls.length c (.slice (some ⟨w.heap.size + 1, 0, none⟩) 0 m)))) := Lib.hid ((((Below.refl _ _).alloc (Nat.le_refl _) _).trans (HB1.out.mono (Nat.le_succ _))).alloc (by omega) _)
  have hszW : (w1.alloc (gbox ls.length c (.slice (some ⟨w.heap.size + 1, 0, none⟩) 0 m))).heap.size = w1.heap.size + 1 := World.size_alloc _ _
  generalize w1.alloc (gbox ls.length c (.slice (some ⟨w.heap.size + 1, 0, none⟩) 0 m)) = wa at HZ HN HO2 HBW hszW ⊢
  generalize w1.heap.size = b at HN hsz hszW ⊢
  clear HO1 HB1 hw
  go_loopw [19] (fun i wr => ∃ (k : Nat) (v : Value), k ≤ ls.length ∧ i = .int .i64 k ∧ Hid (OwnCs wr (w.heap.size + 1) v (rowsOfL c (ls.take k)).flatten) ∧ Hid (wr.heap[b]? = some (gbox ls.length c v)) ∧ Hid (wr.heap[w.heap.size]? = some (gbox 0 0 (.slice none 0 0))) ∧ Hid (Below w.heap.size w wr) ∧ wa.heap.size ≤ wr.heap.size) (fun i _ => ls.length - (intOf i).toNat)
  case atStart => exact ⟨0, _, by omega, rfl, HO2, HN, HZ, HBW, Nat.le_refl _⟩
  case round =>
    obtain ⟨k, v, hk, rfl, HO, HB, HR, HW, hsw⟩ := hrel
    by_cases hlt : k < ls.length
    · obtain ⟨ad, rfl, hld⟩ := (HX.out.kept HW.out).get hlt
      have HLO := Lib.hid ((HOK.out _ (show ls.getD k default ∈ ls by rw [List.getD_eq_getElem?_getD, List.getElem?_eq_getElem hlt]; exact List.getElem_mem hlt)).kept HW.out)
      have HLN : Hid ((lrow c (ls.getD k default)).length = c) := Lib.hid (lrow_len HLO.out)
      have HSC := Lib.hid (rows_succ (c := c) hlt)
      have HSK := Lib.hid (HSM.out k)
      obtain ⟨nx, HNX⟩ : ∃ q, Hid ((rowsOfL c (ls.take (k + 1))).flatten = q) := ⟨_, Lib.hid rfl⟩
      rw [HNX.out] at HSC
      generalize (rowsOfL c (ls.take k)).flatten = pre at HO HSC HSK
      generalize ls.getD k default = ln at hld HLO HLN HSC
      obtain ⟨Av, cv, rfl⟩ := own_shape HO.out
      have hpl := HSK.out
      generalize pre.length = pl at HO HB hpl
      have HLD : Hid (LnOk wr.drew c ln) := HLO
      have q2 : wr.cell? ⟨b, 2, none⟩ = some (.slice Av pl cv) := Blk.cell HB.out 2
      have HCL := Lib.hid (fun w' (h : LnOk w' c ln) => cells_of c ln w' h h1 h2)
      have hblt := Blk.lt HB.out
      have h6i := Lib.hid h6
      clear hi hz h6 h56 h6i
      go_wp2_with fail
      go_region_law (first
        | (refine step_append_cs rfl rfl (w.heap.size + 1) (.slice Av pl cv) v3 pre (lrow c ln) (by simp [Act.eval]) HO3.out (by simp [Act.eval]) HC3.out (by rw [HLN.out]; have := HSK.out; omega) (by omega) ?_; intro v4 w4 ho4 hg4 hat4; obtain ⟨A4, c4, rfl⟩ := own_shape ho4; have HO4 := Lib.hid ho4; have HB4 := Lib.hid (box_grown HB3.out hg4 (HO3.out.not_box HB3.out (by decide))); have HR4 := Lib.hid (box_grown HR3.out hg4 (HO3.out.not_box HR3.out (by decide))); have HW4 := Lib.hid (below_cs HW3.out hg4 (Nat.le_trans (Nat.le_succ _) (Nat.le_trans (by omega) hs3)) (HO3.out.low (Nat.le_succ _))); have hs4 : w3.heap.size ≤ w4.heap.size := hg4.size; have s2 : w4.cell? ⟨b, 2, none⟩ = some (.slice Av pl cv) := Blk.cell HB4.out 2; have t2 := Blk.free HB4.out 2; clear ho4 hg4 hat4)
        | (go_simp; go_at_call 79; refine (HCL.out _ HLD.out).mono ?_; rintro e w3 ⟨v3, rfl, hcs3, hb3⟩; have hb3' : Below wr.heap.size wr w3 := (Below.refl _ _).drew.trans hb3; have HC3 := Lib.hid hcs3; have HO3 := Lib.hid (HO.out.kept hb3'); have HB3 := Lib.hid (Blk.kept HB.out hb3'); have HR3 := Lib.hid (Blk.kept HR.out hb3'); have HW3 := Lib.hid (HW.out.trans (hb3'.mono HW.out.size)); have hs3 : wr.heap.size ≤ w3.heap.size := hb3'.size; have r2 : w3.cell? ⟨b, 2, none⟩ = some (.slice Av pl cv) := Blk.cell HB3.out 2; clear hcs3 hb3 hb3'))
      all_goals
        have HO5 : Hid (OwnCs (w4.setCell ⟨b, 2, none⟩ (.slice A4 (pre.length + (lrow c ln).length) c4)) (w.heap.size + 1) (.slice A4 (pre.length + (lrow c ln).length) c4) nx) := Lib.hid (by
          rw [HSC.out]
          have h := HO4.out.setBox HB4.out (by decide) 2 (.slice A4 (pre.length + (lrow c ln).length) c4)
          rwa [List.length_append] at h)
        have HB5 : Hid ((w4.setCell ⟨b, 2, none⟩ (.slice A4 (pre.length + (lrow c ln).length) c4)).heap[b]? = some (gbox ls.length c (.slice A4 (pre.length + (lrow c ln).length) c4))) := Lib.hid (Blk.set HB4.out 2 _)
        have HR5 : Hid ((w4.setCell ⟨b, 2, none⟩ (.slice A4 (pre.length + (lrow c ln).length) c4)).heap[w.heap.size]? = some (gbox 0 0 (.slice none 0 0))) := Lib.hid (Blk.other HR4.out (by omega) 2 _)
        have HW5 : Hid (Below w.heap.size w (w4.setCell ⟨b, 2, none⟩ (.slice A4 (pre.length + (lrow c ln).length) c4))) := Lib.hid (HW4.out.setCell (p := ⟨b, 2, none⟩) (Nat.le_trans (Nat.le_succ _) hsz) _)
        have hs5 : wa.heap.size ≤ (w4.setCell ⟨b, 2, none⟩ (.slice A4 (pre.length + (lrow c ln).length) c4)).heap.size := by rw [World.size_setCell]; omega
        clear q2 r2 s2 t2 hld
        generalize w4.setCell ⟨b, 2, none⟩ (.slice A4 (pre.length + (lrow c ln).length) c4) = w5 at HO5 HB5 HR5 HW5 hs5 ⊢
        go_wp2_with fail
        go_roundw
        case rel => exact ⟨k + 1, _, by omega, by go_num, by rw [HNX.out]; exact HO5, HB5, HR5, HW5, hs5⟩
        case measure => simp [intOf]; omega
    · have hkn : k = ls.length := by omega
      subst hkn
      obtain ⟨Av, cv, rfl⟩ := own_shape HO.out
      have HE : Hid ((rowsOfL c (ls.take ls.length)).flatten = (rowsOfL c ls).flatten) := Lib.hid (by rw [List.take_of_length_le (Nat.le_refl _)])
      rw [HE.out] at HO HB
      have hq0 : wr.cell? ⟨b, 0, none⟩ = some (.int .i64 ls.length) := Blk.cell HB.out 0
      have hq1 : wr.cell? ⟨b, 1, none⟩ = some (.int .i64 c) := Blk.cell HB.out 1
      have hq2 : wr.cell? ⟨b, 2, none⟩ = some (.slice Av (rowsOfL c ls).flatten.length cv) := Blk.cell HB.out 2
      have r0 : wr.cell? ⟨w.heap.size, 0, none⟩ = some (.int .i64 0) := Blk.cell HR.out 0
      have r1 : wr.cell? ⟨w.heap.size, 1, none⟩ = some (.int .i64 0) := Blk.cell HR.out 1
      have r2 : wr.cell? ⟨w.heap.size, 2, none⟩ = some (.slice none 0 0) := Blk.cell HR.out 2
      have s0 := Blk.free HR.out 0
      have s1 := Blk.free HR.out 1
      have s2 := Blk.free HR.out 2
      obtain ⟨res, HRS⟩ : ∃ q, Hid ((rowsOfL c ls).flatten = q) := ⟨_, Lib.hid rfl⟩
      rw [HRS.out] at HO HB hq2
      generalize hrl : res.length = rl at HO HB hq2
      have HF := Lib.hid (gput_box HR.out ls.length c (.slice Av rl cv))
      have HO3 : Hid (OwnCs (gput wr w.heap.size ls.length c (.slice Av rl cv)) (w.heap.size + 1) (.slice Av rl cv) res) := Lib.hid (gput_own HO.out (Nat.lt_succ_self _) _ _ _)
      have HB3 : Hid (Below w.heap.size w (gput wr w.heap.size ls.length c (.slice Av rl cv))) := Lib.hid (gput_below HW.out (Nat.le_refl _) _ _ _)
      go_wp2_with fail
      show bodyPost _ _ _ _ _ (gput wr w.heap.size ls.length c (.slice Av rl cv))
      clear r0 r1 r2 s0 s1 s2 hq0 hq1 hq2
      generalize gput wr w.heap.size ls.length c (.slice Av rl cv) = wF at HF HO3 HB3 ⊢
      have z0 : wF.cell? ⟨w.heap.size, 0, none⟩ = some (.int .i64 ls.length) := Blk.cell HF.out 0
      have z1 : wF.cell? ⟨w.heap.size, 1, none⟩ = some (.int .i64 c) := Blk.cell HF.out 1
      have z2 : wF.cell? ⟨w.heap.size, 2, none⟩ = some (.slice Av rl cv) := Blk.cell HF.out 2
      exact bodyPost_ret (v := .agg #[.int .i64 ls.length, .int .i64 c, .slice Av rl cv]) (by simp [results, Tryd.results66, go_sem, z0, z1, z2]) rfl ⟨_, rfl, by rw [HRS.out]; exact HO3.out.low (Nat.le_succ _), HB3.out⟩
end Row
end
end Go.Proofs.YtjcfbeiljdohcaaDoor
