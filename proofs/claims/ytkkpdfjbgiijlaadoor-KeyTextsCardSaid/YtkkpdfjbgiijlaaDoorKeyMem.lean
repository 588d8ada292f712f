/- Slices of structs of three numbers (api.Key) in memory: read, of the call's own, appended, held against each other, copied; as an argument. -/
import Derived.Test.YtkkpdfjbgiijlaaDoorTri
import Derived.Test.YtkkpdfjbgiijlaaDoorBlk
import Derived.Test.YtkkpdfjbgiijlaaDoorRecs
import Derived.Test.YtkkpdfjbgiijlaaDoorFine
namespace Go.Proofs.YtkkpdfjbgiijlaaDoor
set_option maxRecDepth 100000
open Go.RowKit Tri
namespace KeyM

/-- A slice that reads as these. -/
def Ts (w : World) (x : Value) (l : List T3) : Prop := Recs w x 3 l.length (l.map tvals)
/-- The same in memory of the call's own. -/
def OwnTs (w : World) (base : Nat) (v : Value) (l : List T3) : Prop := w.ownsRow base 32 3 v l.length (flat l)
theorem OwnTs.ts {w : World} {base : Nat} {v : Value} {l : List T3} (h : OwnTs w base v l) : Ts w v l := Recs.own h (List.length_map _) (tvals_len l)
theorem OwnTs.kept {w w' : World} {base : Nat} {v : Value} {l : List T3} (h : OwnTs w base v l) (hb : Below w.heap.size w w') : OwnTs w' base v l :=
  World.ownsRow.kept (row := none) h ⟨hb.os, hb.tape, hb.output, hb.size, fun k hk _ => hb.block k hk⟩ (by cases v.ownBlock <;> simp)
theorem OwnTs.nil (w : World) (base : Nat) : OwnTs w base (.slice none 0 0) [] := World.ownsRow_nil _ _ _ _
theorem OwnTs.low {w : World} {base b2 : Nat} {v : Value} {l : List T3} (h : OwnTs w base v l) (hb : b2 ≤ base) : OwnTs w b2 v l := Blk.low h hb
theorem OwnTs.lt {w : World} {base : Nat} {v : Value} {l : List T3} (h : OwnTs w base v l) (k : Nat) (hk : v.ownBlock = some k) : base ≤ k ∧ k < w.heap.size := World.ownsRow.lt h k hk
theorem Ts.kept {w w' : World} {x : Value} {l : List T3} (h : Ts w x l) (hb : Below w.heap.size w w') : Ts w' x l := Recs.kept h hb
theorem Ts.drewN {w : World} {x : Value} {l : List T3} (h : Ts w x l) (q : Nat) : Ts (w.drewN q) x l := h
theorem Ts.nil (w : World) : Ts w (.slice none 0 0) [] := by
  show Recs w _ 3 0 []
  exact ⟨rfl, fun _ h => (by cases h), .inl ⟨rfl, rfl⟩⟩
/-- By its parts. -/
theorem Ts.form {w : World} {x : Value} {l : List T3} (h : Ts w x l) : ∃ A c, x = .slice A l.length c ∧ ∀ k, k < l.length → ∃ ad, A = some ad ∧ At w (ad.add (k * 3)) (tvals (g l k)) := by
  obtain ⟨A, c, rfl, hc⟩ := Recs.form h
  refine ⟨A, c, rfl, fun k hk => ?_⟩
  obtain ⟨ad, h1, h2⟩ := hc k hk
  exact ⟨ad, h1, by rwa [map_getD hk] at h2⟩
theorem Ts.shape {w : World} {x : Value} {l : List T3} (h : Ts w x l) : ∃ A c, x = .slice A l.length c := by
  obtain ⟨A, c, e, _⟩ := h.form
  exact ⟨A, c, e⟩
/-- All its cells, from where it begins on. -/
theorem Ts.flat {w : World} {ad : Addr} {n c : Nat} {l : List T3} (h : Ts w (.slice (some ad) n c) l) : n = l.length ∧ ∀ j u, (Tri.flat l)[j]? = some u → w.cell? (ad.add j) = some u := by
  obtain ⟨A, c', e, hc⟩ := h.form
  injection e with e1 e2 e3
  subst e1
  refine ⟨e2, fun j u hu => ?_⟩
  have hj : j < l.length * 3 := by rw [← flat_length]; exact (List.getElem?_eq_some_iff.1 hu).1
  have hk : j / 3 < l.length := by omega
  obtain ⟨ad', e, hat⟩ := hc (j / 3) hk
  injection e with e
  subst e
  have hj6 : j % 3 < 3 := Nat.mod_lt _ (by decide)
  have hd : j = j / 3 * 3 + j % 3 := by omega
  have := hat (j % 3) u (by rw [hd, flat_get hk hj6] at hu; exact hu)
  rw [Go.Deep.add_add, ← hd] at this
  exact this
/-- What begins there and holds these cells reads so. -/
theorem Ts.of {w : World} {ad : Addr} {c : Nat} {l : List T3} (h : ∀ j u, (Tri.flat l)[j]? = some u → w.cell? (ad.add j) = some u) : Ts w (.slice (some ad) l.length c) l := by
  refine ⟨List.length_map _, tvals_len l, .inr ⟨ad, c, rfl, fun i r hr j u hu => ?_⟩⟩
  rw [Go.Deep.add_add]
  exact h _ u (flatten_get _ (tvals_len l) i r hr j u hu)
theorem tri_info : (Tryd.prog.info? 32).map (fun i => (i.zero, i.size, i.bytes)) = some (some (.agg #[.int .i64 0, .int .i64 0, .int .i64 0]), 3, 24) := by kernel_rfl
theorem tri_row : ∃ i : TypeInfo, Tryd.prog.info? 32 = some i ∧ i.zero = some (.agg #[.int .i64 0, .int .i64 0, .int .i64 0]) ∧ i.size = 3 ∧ i.bytes = 24 := by
  obtain ⟨i, h, h1, h2, h3⟩ := info_parts tri_info
  exact ⟨i, h, h1, h2, h3⟩
/-- append, as the machine runs it. -/
theorem run_append_ts {w : World} {base : Nat} {ty : TypeId} {v x : Value} {l r : List T3} (hown : OwnTs w base v l) (hx : Ts w x r) (hl : l.length + r.length ≤ 1000000000) (hbase : base ≤ w.heap.size) :
    ∃ v' w', (Builtin.append_ #[22, 22] ty #[v, x]).run Tryd.prog w = .ok v' w' ∧ OwnTs w' base v' (l ++ r) ∧ w.grownBy w' v.ownBlock ∧ (v'.ownBlock = v.ownBlock ∨ v'.ownBlock = some w.heap.size) := by
  obtain ⟨i, hi, hz, h6, h56⟩ := tri_row
  rcases hx.2.2 with ⟨rfl, h0⟩ | ⟨ad, c, rfl, _⟩
  · have hr : r = [] := List.eq_nil_of_length_eq_zero h0
    subst hr
    exact ⟨v, w, run_append_owned_none (P := Tryd.prog) (w := w) base _ ty 32 i 3 Tryd.underlying22 hi v l.length _ hown, by rw [List.append_nil]; exact hown, World.grownBy.refl w _, .inl rfl⟩
  · obtain ⟨v', w', hr, h2, h3, _, h5⟩ := run_append_own_at (P := Tryd.prog) w base 22 ty 32 i _ 3 24 Tryd.underlying22 hi hz h6 h56 rfl (by decide) v l.length _ hown ad r.length c (Tri.flat r) (flat_length r) hx.flat.2 (flat_cells r) (by simp only [maxLen]; omega) (by omega) hbase
    exact ⟨v', w', hr, by unfold OwnTs; rw [List.length_append, flat_append]; exact h2, h3, h5⟩
theorem wp_append_ts {w : World} {ops : Array Oper} {rest : List Oper} {o : Oper} {a : Act} {Q : Exit → Act → World → Prop} {s x : Operand} (hgd : o.guard = none)
    (ho : o.op = .call { callee := .builtin .append, args := #[s, x], argTypes := #[22, 22] }) (base : Nat) (v y : Value) (l r : List T3) (hs : a.eval s = v) (hown : OwnTs w base v l)
    (hy : a.eval x = y) (hx : Ts w y r) (hl : l.length + r.length ≤ 1000000000) (hbase : base ≤ w.heap.size)
    (h : ∀ v' w', OwnTs w' base v' (l ++ r) → w.grownBy w' v.ownBlock → (v'.ownBlock = v.ownBlock ∨ v'.ownBlock = some w.heap.size) → wpList Tryd.prog ops Q rest (a.put o.dst v') w') :
    wpList Tryd.prog ops Q (o :: rest) a w := by
  refine wpList_plain hgd fun K hK => ?_
  obtain ⟨v', w', hr, h2, h3, h4⟩ := run_append_ts (ty := o.type) hown hx hl hbase
  unfold Oper.wp execOp
  simp only [ho, resolve, invoke, builtin, Sem.run_bind, Sem.run_pure, Result.andThen_ok, List.map_toArray, List.map_cons, List.map_nil, hs, hy, hr]
  exact hK _ _ (h v' w' h2 h3 h4)
theorem below_ts {B : Nat} {a w w' : World} {v : Value} {l : List T3} (h : Below B a w) (hg : w.grownBy w' v.ownBlock) (hB : B ≤ w.heap.size) (ho : OwnTs w B v l) : Below B a w' :=
  h.grown hg hB fun k hk => (ho.lt k hk).1
/-- One just made. -/
theorem Ts.one (w : World) (c : T3) (e : TypeId) (cap : Nat) (arr : Array Value) (h : (tvals c).toArray = arr) : Ts (w.alloc (.cells arr e)) (.slice (some ⟨w.heap.size, 0, none⟩) 1 cap) [c] := by
  subst h
  refine Ts.of (l := [c]) fun j u hu => ?_
  have hl : (w.alloc (.cells (tvals c).toArray e)).heap[w.heap.size]? = some (.cells (tvals c).toArray e) := by
    show (w.heap.push _)[w.heap.size]? = _
    simp
  exact World.news_of_block hl j u (by simpa [Tri.flat] using hu)

set_option maxHeartbeats 800000 in
theorem copy_any (l : List T3) (x : Value) (w : World) (hx : Ts w x l) (hn : l.length ≤ 100000000) :
    Calls Tryd.prog 13 #[x] w fun e w' => ∃ v, e = .returned v ∧ OwnTs w' w.heap.size v l ∧ Below w.heap.size w w' := by
  obtain ⟨A, c, rfl, ha⟩ := hx.form
  have ha' := Lib.hid ha
  clear ha hx
  go_enter Tryd.func13, Tryd.ntmps13
  go_wp2_with fail
  go_loopw [3, 4] (fun v i wr => ∃ k : Nat, k ≤ l.length ∧ i = .int .i64 k ∧ OwnTs wr w.heap.size v (l.take k) ∧ Below w.heap.size w wr) (fun _ i _ => l.length - (intOf i).toNat)
  case atStart => exact ⟨0, by omega, rfl, OwnTs.nil _ _, Below.refl _ _⟩
  case round =>
    obtain ⟨k, hk, rfl, hown, hbl⟩ := hrel
    by_cases hlt : k < l.length
    · obtain ⟨ad, rfl, K⟩ := ha'.out k hlt
      have K := K.kept hbl
      have HT := Lib.hid (take_succ_g hlt)
      have hlk : Hid ((l.take k).length = k) := Lib.hid (by rw [List.length_take]; omega)
      have HC : Hid (∀ (w : World) (cap : Nat), Ts (w.alloc (.cells (tvals (g l k)).toArray 32)) (.slice (some ⟨w.heap.size, 0, none⟩) 1 cap) [g l k]) := Lib.hid (fun w cap => Ts.one w _ _ _ _ rfl)
      generalize g l k = ev at K HT HC
      obtain ⟨p, q, r⟩ := ev
      have h0 := K.head
      have h1 := K.next 0 rfl
      have h2 := K.next 1 rfl
      have HOW := Lib.hid hown
      clear K hown
      go_wp2_with (at_builtin; refine wp_append_ts rfl rfl w.heap.size _ _ (l.take k) _ rfl (HOW.out.kept ((Below.refl _ _).alloc (Nat.le_refl _) _)) rfl (HC.out _ _) (by rw [hlk.out]; simp; omega) (by simp; have := hbl.size; omega) ?_; intro v1 w1 ho1 hg1 hat1)
      have hbl2 : Below w.heap.size w w1 := (hbl.alloc hbl.size _).grown hg1 (by simp; have := hbl.size; omega) (fun j hj => (HOW.out.lt j hj).1)
      have HO2 := Lib.hid ho1
      clear ho1
      go_roundw
      case rel => exact ⟨k + 1, by omega, by go_num, by rw [HT.out]; exact HO2.out, hbl2⟩
      case measure => simp [intOf]; omega
    · have hkn : k = l.length := by omega
      subst hkn
      have HE : Hid (l.take l.length = l) := Lib.hid (List.take_of_length_le (Nat.le_refl _))
      go_wp2_with fail
      go_ret
      rw [HE.out] at hown
      exact ⟨_, rfl, hown, hbl⟩

/-- Two of them held against each other. -/
theorem neq_tri (a b c p q r : Int) (w : World) :
    (binOp .neq 32 (.agg #[.int .i64 a, .int .i64 b, .int .i64 c]) (.agg #[.int .i64 p, .int .i64 q, .int .i64 r])).run Tryd.prog w = .ok (.bool (!decide ((⟨a, b, c⟩ : T3) = ⟨p, q, r⟩))) w := by
  by_cases h1 : a = p <;> by_cases h2 : b = q <;> by_cases h3 : c = r <;> simp [go_sem, h1, h2, h3]
set_option maxHeartbeats 800000 in
theorem eq_any (l m : List T3) (x y : Value) (w : World) (hx : Ts w x l) (hy : Ts w y m) (hn : l.length ≤ 100000000) :
    Calls Tryd.prog 17 #[x, y] w fun e w' => e = .returned (.bool (decide (l = m))) ∧ ∃ q, w' = w.drewN q := by
  obtain ⟨A, c, rfl, ha⟩ := hx.form
  obtain ⟨A', c', rfl, hb⟩ := hy.form
  have ha' := Lib.hid ha
  have hb' := Lib.hid hb
  clear ha hb hx hy
  by_cases hnm : l.length = m.length
  · obtain ⟨n, hl⟩ : ∃ n, l.length = n := ⟨_, rfl⟩
    have hl2 : m.length = n := by omega
    have HX := Lib.hid hl
    have HY := Lib.hid hl2
    rw [hl] at hn
    clear hnm
    rw [hl, hl2]
    clear hl hl2
    go_enter Tryd.func17, Tryd.ntmps17
    go_wp2_with fail
    go_loopw [5] (fun i wr => ∃ k q : Nat, k ≤ n ∧ i = .int .i64 k ∧ Hid (∀ j, j < k → g l j = g m j) ∧ wr = w.drewN q) (fun i _ => n - (intOf i).toNat)
    case atStart => exact ⟨0, 0, by omega, rfl, Lib.hid fun j h => by omega, rfl⟩
    case round =>
      obtain ⟨k, q, hk, rfl, hal, rfl⟩ := hrel
      by_cases hlt : k < n
      · obtain ⟨ad, rfl, K⟩ := ha'.out k (by rw [HX.out]; exact hlt)
        obtain ⟨ad', rfl, K'⟩ := hb'.out k (by rw [HY.out]; exact hlt)
        by_cases he : g l k = g m k
        · have HA : Hid (∀ j, j < k + 1 → g l j = g m j) := Lib.hid fun j hj => by
            by_cases e : j = k
            · rw [e]; exact he
            · exact hal.out j (by omega)
          rw [← he] at K'
          clear he
          generalize g l k = ev at K K'
          obtain ⟨p, r, s⟩ := ev
          have h0 := K.head
          have h1 := K.next 0 rfl
          have h2 := K.next 1 rfl
          have i0 := K'.head
          have i1 := K'.next 0 rfl
          have i2 := K'.next 1 rfl
          have hq : ∀ W : World, (binOp .neq 32 (.agg #[.int .i64 p, .int .i64 r, .int .i64 s]) (.agg #[.int .i64 p, .int .i64 r, .int .i64 s])).run Tryd.prog W = .ok (.bool false) W := fun W => by rw [neq_tri, decide_eq_true rfl]; rfl
          clear K K'
          go_wp2_with fail
          go_quiet (fail)
          go_wp2_with fail
          go_roundw
          case rel => exact ⟨k + 1, _, by omega, by go_num, HA, rfl⟩
          case measure => simp [intOf]; omega
        · have HF : Hid (decide (l = m) = false) := Lib.hid (decide_eq_false fun e => he (by rw [e]))
          have hd := decide_eq_false he
          clear he
          generalize g l k = ev at K hd
          generalize g m k = ev' at K' hd
          obtain ⟨p, r, s⟩ := ev
          obtain ⟨p', r', s'⟩ := ev'
          have hq : ∀ W : World, (binOp .neq 32 (.agg #[.int .i64 p, .int .i64 r, .int .i64 s]) (.agg #[.int .i64 p', .int .i64 r', .int .i64 s'])).run Tryd.prog W = .ok (.bool true) W := fun W => by rw [neq_tri, hd]; rfl
          clear hd
          have h0 := K.head
          have h1 := K.next 0 rfl
          have h2 := K.next 1 rfl
          have i0 := K'.head
          have i1 := K'.next 0 rfl
          have i2 := K'.next 1 rfl
          clear K K'
          go_wp2_with fail
          go_quiet (fail)
          go_wp2_with fail
          go_ret
          exact ⟨ret_bool HF.out.symm, _, World.drewN_drewN _ _ _⟩
      · have HF : Hid (decide (l = m) = true) := Lib.hid (decide_eq_true (eq_of_g (by rw [HX.out, HY.out]) fun j hj => hal.out j (by have := HX.out; omega)))
        go_wp2_with fail
        go_ret
        exact ⟨ret_bool HF.out.symm, _, rfl⟩
  · have hb1 : ((l.length : Int) != (m.length : Int)) = true := by rw [bne_iff_ne]; omega
    have HF : Hid (decide (l = m) = false) := Lib.hid (decide_eq_false fun e => hnm (by rw [e]))
    clear hnm
    go_enter Tryd.func17, Tryd.ntmps17
    go_wp2_with fail
    go_ret
    exact ⟨ret_bool HF.out.symm, 0, rfl⟩
/-- As an argument. -/
theorem fine_ts {w : World} {v : Value} (h : Fine Tryd.prog w 22 [v]) :
    ∃ l : List T3, Ts w v l ∧ l.length * 24 ≤ reachBytes ∧ (∀ i, i < l.length → (g l i).Small) ∧ (∃ A c, v = .slice A l.length c ∧ l.length ≤ c) := by
  rcases h.slice Tryd.underlying22 with h0 | ⟨a, len, cap, h1, h2, h3, h4⟩
  · obtain rfl : v = .slice none 0 0 := by simpa using h0
    exact ⟨[], Ts.nil _, by simp, fun i hi => absurd hi (by simp), none, 0, rfl, by simp⟩
  · obtain rfl : v = .slice (some a) len cap := by simpa using h1
    have hC : Tryd.prog.cellsOf 32 = 3 := by kernel_rfl
    have hB : Tryd.prog.bytesOf 32 = 24 := by kernel_rfl
    rw [hB] at h2
    obtain ⟨xs, hl, hq⟩ := list_of (⟨0, 0, 0⟩ : T3) (Q := fun i m => At w (a.add (i * 3)) (tvals m) ∧ m.Small) len fun i hi => by
      obtain ⟨es, g1, g2, g3⟩ := h4 i hi
      rw [hC] at g1 g2
      have hu := Tryd.underlying32
      obtain ⟨p, hp, hp1⟩ := (g3.part hu 0 (t' := 3) (o := 0) (c := 1) rfl rfl rfl (by kernel_rfl)).int Tryd.underlying3
      obtain ⟨q, hq, hq1⟩ := (g3.part hu 1 (t' := 3) (o := 1) (c := 1) rfl rfl rfl (by kernel_rfl)).int Tryd.underlying3
      obtain ⟨r, hr, hr1⟩ := (g3.part hu 2 (t' := 3) (o := 2) (c := 1) rfl rfl rfl (by kernel_rfl)).int Tryd.underlying3
      match es, g1 with
      | [e0, e1, e2], _ =>
        simp only [List.drop_zero, List.take_succ_cons, List.take_zero, List.drop_succ_cons, List.cons.injEq, and_true] at hp hq hr
        subst hp; subst hq; subst hr
        refine ⟨⟨p, q, r⟩, fun j u hu => ?_, i64_bd hp1, i64_bd hq1, i64_bd hr1⟩
        rw [Go.Deep.add_add]
        exact g2 j u hu
    subst hl
    refine ⟨xs, ⟨List.length_map _, tvals_len xs, .inr ⟨a, cap, rfl, fun i r hr => ?_⟩⟩, h2, fun i hi => ?_, some a, cap, rfl, h3.1⟩
    · have hi : i < xs.length := by
        have := (List.getElem?_eq_some_iff.1 hr).1
        rwa [List.length_map] at this
      have e := (hq i hi).1
      rw [List.getElem?_map, g_get hi] at hr
      injection hr with hr
      subst hr
      exact e
    · exact (hq i hi).2
end KeyM
end Go.Proofs.YtkkpdfjbgiijlaaDoor
