/- Slices of truths in memory: read within their room; their tail and their front; appended; held against each other, copied, turned. -/
import Derived.Test.YtenhgkhonaglaaaTabPlain
import Derived.Test.YtenhgkhonaglaaaBlk
import Derived.Lib.Walk
namespace Go.Proofs.Ytenhgkhonaglaaa
set_option maxRecDepth 100000
open Go.RowKit
namespace Tab

/-- A slice that reads as these truths, within its room. -/
structure Bl (w : World) (x : Value) (l : List Bool) : Prop where
  src : Src w x l.length (bools l)
  room : ∃ A c, x = .slice A l.length c ∧ l.length ≤ c
theorem Bl.kept {w w' : World} {x : Value} {l : List Bool} (h : Bl w x l) (hb : Below w.heap.size w w') : Bl w' x l := ⟨h.src.kept hb, h.room⟩
theorem Bl.nil (w : World) : Bl w (.slice none 0 0) [] := ⟨⟨rfl, .inl ⟨rfl, rfl⟩⟩, none, 0, rfl, by simp⟩
/-- The call's own. -/
def OwnB (w : World) (base : Nat) (x : Value) (l : List Bool) : Prop := w.ownsRow base 4 1 x l.length (bools l)
theorem OwnB.nil (w : World) (base : Nat) : OwnB w base (.slice none 0 0) [] := World.ownsRow_nil _ _ _ _
theorem OwnB.kept {w w' : World} {base : Nat} {x : Value} {l : List Bool} (h : OwnB w base x l) (hb : Below w.heap.size w w') : OwnB w' base x l := own_kept h hb
theorem OwnB.low {w : World} {base b2 : Nat} {x : Value} {l : List Bool} (h : OwnB w base x l) (hb : b2 ≤ base) : OwnB w b2 x l := Blk.low h hb
theorem OwnB.bl {w : World} {base : Nat} {x : Value} {l : List Bool} (h : OwnB w base x l) : Bl w x l := by
  refine ⟨Src.own h, ?_⟩
  rcases h.2 with ⟨rfl, h0⟩ | ⟨g, cap, cur, rfl, _, _, hc, _⟩
  · exact ⟨none, 0, by rw [h0], by omega⟩
  · exact ⟨_, _, rfl, hc⟩
/-- By its cells. -/
theorem Bl.get {w : World} {A : Option Addr} {n c : Nat} {l : List Bool} (h : Bl w (.slice A n c) l) : ∀ k, k < l.length → ∃ ad, A = some ad ∧ w.cell? (ad.add k) = some (.bool (l.getD k false)) := by
  intro k hk
  obtain ⟨A', c', e, hf⟩ := h.src.form
  injection e with e1 e2 e3
  subst e1
  obtain ⟨ad, rfl, hc⟩ := hf k hk
  exact ⟨ad, rfl, by rw [hc, bools_get hk]⟩
theorem Bl.shape {w : World} {x : Value} {l : List Bool} (h : Bl w x l) : ∃ A c, x = .slice A l.length c := by
  obtain ⟨A, c, e, _⟩ := h.room
  exact ⟨A, c, e⟩
theorem bools_drop (l : List Bool) (k : Nat) : (bools l).drop k = bools (l.drop k) := by unfold bools; rw [List.map_drop]
theorem bools_take (l : List Bool) (k : Nat) : (bools l).take k = bools (l.take k) := by unfold bools; rw [List.map_take]
/-- Its tail: the value is one, whatever world it is cut in. -/
theorem Bl.tail {w : World} {A : Option Addr} {n c : Nat} {l : List Bool} (h : Bl w (.slice A n c) l) (k : Nat) (hk : k ≤ l.length) (i : Int) (hi : i = k) :
    ∃ V, (∀ w' : World, (Instr.slice 41 (.slice A n c) (some (.int .i64 i)) none none).run Try.prog w' = .ok V w') ∧ Bl w V (l.drop k) := by
  obtain ⟨A', c', e, hc⟩ := h.room
  injection e with e1 e2 e3
  subst e1; subst e2; subst e3; subst hi
  have hu : Try.prog.underlying 41 = some (.slice (Try.prog.elem 41)) := by kernel_rfl
  refine ⟨.slice (if c = k then A else A.map (·.add k)) (l.length - k) (c - k), fun w' => ?_, ⟨⟨by rw [bools_length], ?_⟩, ?_⟩⟩
  · rw [run_slice_l w' 41 A l.length c hu .i64 k (by omega) (by omega)]
    have hs : (sizeOf (Try.prog.elem 41)).run Try.prog w' = .ok 1 w' := by kernel_rfl
    rw [hs]
    simp [Result.andThen, sliced]
  · rw [List.length_drop]
    rcases h.src.2 with ⟨e, h0⟩ | ⟨ad, c2, e, hcell⟩
    · injection e with e1 e2 e3
      subst e1; subst e3
      left
      refine ⟨?_, by omega⟩
      have : k = 0 := by omega
      subst this
      simp [h0]
    · injection e with e1 e2 e3
      subst e1; subst e3
      right
      by_cases hck : c = k
      · rw [if_pos hck]
        refine ⟨ad, c - k, rfl, fun j u hu => ?_⟩
        have : l.drop k = [] := List.drop_eq_nil_of_le (by omega)
        rw [this] at hu
        simp [bools] at hu
      · rw [if_neg hck]
        refine ⟨ad.add k, c - k, rfl, fun j u hu => ?_⟩
        rw [Go.Deep.add_add]
        refine hcell (k + j) u ?_
        rw [← bools_drop, List.getElem?_drop] at hu
        exact hu
  · exact ⟨_, _, by rw [List.length_drop], by rw [List.length_drop]; omega⟩
/-- Its front. -/
theorem Bl.front {w : World} {A : Option Addr} {n c : Nat} {l : List Bool} (h : Bl w (.slice A n c) l) (k : Nat) (hk : k ≤ l.length) (i : Int) (hi : i = k) :
    ∃ V, (∀ w' : World, (Instr.slice 41 (.slice A n c) none (some (.int .i64 i)) none).run Try.prog w' = .ok V w') ∧ Bl w V (l.take k) := by
  obtain ⟨A', c', e, hc⟩ := h.room
  injection e with e1 e2 e3
  subst e1; subst e2; subst e3; subst hi
  have hu : Try.prog.underlying 41 = some (.slice (Try.prog.elem 41)) := by kernel_rfl
  have hlk : (l.take k).length = k := by rw [List.length_take]; omega
  refine ⟨.slice A k c, fun w' => ?_, ⟨⟨by rw [bools_length], ?_⟩, ?_⟩⟩
  · rw [run_slice_h w' 41 A l.length c hu .i64 k (by omega) (by omega)]
    have hs : (sizeOf (Try.prog.elem 41)).run Try.prog w' = .ok 1 w' := by kernel_rfl
    rw [hs]
    simp [Result.andThen, sliced]
    intro _
    cases A <;> simp [Addr.add]
  · rw [hlk]
    rcases h.src.2 with ⟨e, h0⟩ | ⟨ad, c2, e, hcell⟩
    · injection e with e1 e2 e3
      subst e1; subst e3
      left
      refine ⟨?_, by omega⟩
      have : k = 0 := by omega
      subst this
      rfl
    · injection e with e1 e2 e3
      subst e1; subst e3
      right
      refine ⟨ad, c, rfl, fun j u hu => hcell j u ?_⟩
      rw [← bools_take] at hu
      have hj : j < ((bools l).take k).length := (List.getElem?_eq_some_iff.1 hu).1
      rw [List.length_take] at hj
      rw [List.getElem?_take_of_lt (by omega)] at hu
      exact hu
  · exact ⟨_, _, by rw [hlk], by rw [hlk]; omega⟩

theorem Try.bool_info : (Try.prog.info? 4).map (fun i => (i.zero, i.size, i.bytes)) = some (some (.bool false), 1, 1) := by kernel_rfl
theorem Try.bool_row : ∃ i : TypeInfo, Try.prog.info? 4 = some i ∧ i.zero = some (.bool false) ∧ i.size = 1 ∧ i.bytes = 1 := by
  obtain ⟨i, h, h1, h2, h3⟩ := info_parts Try.bool_info
  exact ⟨i, h, h1, h2, h3⟩
/-- append of truths to truths of the call's own. -/
theorem wp_append_bools {w : World} {ops : Array Oper} {rest : List Oper} {o : Oper} {a : Act} {Q : Exit → Act → World → Prop} {s x : Operand} (hgd : o.guard = none)
    (ho : o.op = .call { callee := .builtin .append, args := #[s, x], argTypes := #[41, 41] }) (base : Nat) (v : Value) (xs : List Bool) (hs : a.eval s = v) (hown : OwnB w base v xs)
    (y : Value) (news : List Bool) (hy : a.eval x = y) (hx : Src w y news.length (bools news)) (hb : xs.length + news.length ≤ 1000000000) (hbase : base ≤ w.heap.size)
    (h : ∀ v' w', OwnB w' base v' (xs ++ news) → w.grownBy w' v.ownBlock → (v'.ownBlock = v.ownBlock ∨ v'.ownBlock = some w.heap.size) → wpList Try.prog ops Q rest (a.put o.dst v') w') :
    wpList Try.prog ops Q (o :: rest) a w := by
  obtain ⟨i, hi, hz, h1, h8⟩ := Try.bool_row
  refine wpList_append_src hgd ho base 4 i _ 1 Try.underlying41 hi hz h1 h8 rfl v xs.length (bools xs) hs hown y news.length (bools news) hy hx (bools_cells _) (by simp only [maxLen]; omega) (by omega) hbase fun v' w' h2 h3 h4 => ?_
  exact h v' w' (by unfold OwnB; rw [bools_append, List.length_append]; exact h2) h3 h4

set_option maxHeartbeats 400000 in
theorem eqBools_any {u v : Value} (xs ys : List Bool) (w : World) (hx : Bl w u xs) (hy : Bl w v ys) (hn : xs.length ≤ 1000000000) :
    Calls Try.prog 27 #[u, v] w fun e w' => e = .returned (.bool (decide (xs = ys))) ∧ Below w.heap.size w w' := by
  obtain ⟨A, c, rfl⟩ := hx.shape
  obtain ⟨A', c', rfl⟩ := hy.shape
  by_cases hnm : xs.length = ys.length
  · have ha' := Lib.hid hx.get
    have hb' := Lib.hid hy.get
    have HL := Lib.hid hnm
    obtain ⟨n, hl⟩ : ∃ n, xs.length = n := ⟨_, rfl⟩
    have hl2 : ys.length = n := by omega
    have HX := Lib.hid hl
    have HY := Lib.hid hl2
    rw [hl] at hn
    clear hx hy hnm
    rw [hl, hl2]
    clear hl hl2
    go_enter Try.func27, Try.ntmps27
    go_wp2_with fail
    go_loopw [5] (fun i wr => ∃ k q : Nat, k ≤ n ∧ i = .int .i64 k ∧ Hid (∀ j, j < k → xs.getD j false = ys.getD j false) ∧ wr = w.drewN q) (fun i _ => n - (intOf i).toNat)
    case atStart => exact ⟨0, 0, by omega, rfl, Lib.hid fun j h => by omega, rfl⟩
    case round =>
      obtain ⟨k, q, hk, rfl, hal, rfl⟩ := hrel
      by_cases hlt : k < n
      · obtain ⟨ad, rfl, h1⟩ := ha'.out k (by rw [HX.out]; exact hlt)
        obtain ⟨ad', rfl, h2⟩ := hb'.out k (by rw [HY.out]; exact hlt)
        by_cases he : xs.getD k false = ys.getD k false
        · have HA : Hid (∀ j, j < k + 1 → xs.getD j false = ys.getD j false) := Lib.hid fun j hj => by
            by_cases hjk : j = k
            · rw [hjk]; exact he
            · exact hal.out j (by omega)
          rw [← he] at h2
          clear he
          generalize xs.getD k false = p at h1 h2
          have hb1 : (p != p) = false := by simp
          go_wp2_with fail
          go_quiet (fail)
          go_wp2_with fail
          go_roundw
          case rel => exact ⟨k + 1, _, by omega, by go_num, HA, rfl⟩
          case measure => simp [intOf]; omega
        · have HF : Hid (decide (xs = ys) = false) := Lib.hid (decide_eq_false fun e => he (by rw [e]))
          have hb1 : (xs.getD k false != ys.getD k false) = true := by rw [bne_iff_ne]; exact he
          clear he
          generalize xs.getD k false = p at h1 hb1
          generalize ys.getD k false = p' at h2 hb1
          have hpp : (p = true ∧ p' = false) ∨ (p = false ∧ p' = true) := by revert hb1; cases p <;> cases p' <;> decide
          clear hb1
          rcases hpp with ⟨rfl, rfl⟩ | ⟨rfl, rfl⟩
          all_goals
            go_wp2_with fail
            go_quiet (fail)
            go_wp2_with fail
            go_ret
            exact ⟨ret_bool HF.out.symm, by rw [World.drewN_drewN]; exact below_drewN (Below.refl _ _) _⟩
      · have HF : Hid (decide (xs = ys) = true) := Lib.hid (decide_eq_true (eq_of_bools HL.out fun j hj => hal.out j (by have := HX.out; omega)))
        go_wp2_with fail
        go_ret
        exact ⟨ret_bool HF.out.symm, below_drewN (Below.refl _ _) _⟩
  · have hb1 : ((xs.length : Int) != (ys.length : Int)) = true := by rw [bne_iff_ne]; omega
    have HF : Hid (decide (xs = ys) = false) := Lib.hid (decide_eq_false fun e => hnm (by rw [e]))
    clear hx hy hnm
    clear hn
    generalize xs.length = n at hb1 ⊢
    generalize ys.length = m at hb1 ⊢
    go_enter Try.func27, Try.ntmps27
    go_wp2_with fail
    go_ret
    exact ⟨ret_bool HF.out.symm, Below.refl _ _⟩
theorem eqBools_same {u v : Value} (xs ys : List Bool) (w : World) (hx : Bl w u xs) (hy : Bl w v ys) (he : xs = ys) (hn : xs.length ≤ 1000000000) :
    Calls Try.prog 27 #[u, v] w fun e w' => e = .returned (.bool true) ∧ Below w.heap.size w w' :=
  (eqBools_any xs ys w hx hy hn).mono fun e w' h => ⟨by rw [h.1]; simp [he], h.2⟩

set_option maxHeartbeats 400000 in
theorem copyBools_any {u : Value} (xs : List Bool) (w : World) (hx : Bl w u xs) (hn : xs.length ≤ 1000000) :
    Calls Try.prog 14 #[u] w fun e w' => ∃ v, e = .returned v ∧ OwnB w' w.heap.size v xs ∧ Below w.heap.size w w' := by
  obtain ⟨A, c, rfl⟩ := hx.shape
  have ha' := Lib.hid hx.get
  obtain ⟨n, hl⟩ : ∃ n, xs.length = n := ⟨_, rfl⟩
  have HL := Lib.hid hl
  rw [hl] at hn ⊢
  clear hx hl
  go_enter Try.func14, Try.ntmps14
  go_wp2_with fail
  go_loopw [3, 4] (fun v i wr => ∃ k : Nat, k ≤ n ∧ i = .int .i64 k ∧ Hid (OwnB wr w.heap.size v (xs.take k)) ∧ Below w.heap.size w wr) (fun _ i _ => n - (intOf i).toNat)
  case atStart => exact ⟨0, by omega, rfl, Lib.hid (OwnB.nil _ _), Below.refl _ _⟩
  case round =>
    obtain ⟨k, hk, rfl, hown, hbl⟩ := hrel
    by_cases hlt : k < n
    · obtain ⟨ad, rfl, h1⟩ := ha'.out k (by rw [HL.out]; exact hlt)
      have h1 := cell_kept hbl h1
      have HT := Lib.hid (take_succ_bool (l := xs) (k := k) (by rw [HL.out]; exact hlt))
      have hlk : (xs.take k).length = k := by rw [List.length_take, HL.out]; omega
      have HK := Lib.hid hlk
      clear hlk
      generalize xs.getD k false = p at h1 HT
      go_wp2_with (at_builtin; refine wp_append_bools rfl rfl w.heap.size _ (xs.take k) rfl (hown.out.alloc _) _ [p] rfl (Src.one wr _ _ _) (by rw [HK.out]; simp; omega) (by simp; have := hbl.size; omega) ?_; intro v1 w1 ho1 hg1 hat1)
      go_roundw
      case rel => exact ⟨k + 1, by omega, by go_num, Lib.hid (by rw [HT.out]; exact ho1), below_own (hbl.alloc hbl.size _) hg1 (by simp; have := hbl.size; omega) (hown.out.alloc _)⟩
      case measure => simp [intOf]; omega
    · have hkn : k = n := by omega
      subst hkn
      have HE : Hid (xs.take k = xs) := Lib.hid (List.take_of_length_le (by have := HL.out; omega))
      go_wp2_with fail
      go_ret
      have ho := hown.out
      rw [HE.out] at ho
      exact ⟨_, rfl, ho, hbl⟩

set_option maxHeartbeats 400000 in
/-- Turned, each: nothing below has. -/
theorem boolsOver_any {u : Value} {base : Nat} (l : List Bool) (w : World) (hx : OwnB w base u l) (hn : l.length ≤ 1000000) :
    Calls Try.prog 28 #[u] w fun e w' => e = .returned (.tuple #[]) ∧ Below base w w' := by
  have hv : u = .slice none 0 0 ∧ l.length = 0 ∨ ∃ g cap, u = .slice (some ⟨g, 0, none⟩) l.length cap ∧ base ≤ g := by
    rcases hx.2 with h0 | ⟨g, cap, cur, h0, hb, _⟩
    · exact .inl h0
    · exact .inr ⟨g, cap, h0, hb⟩
  rcases hv with ⟨rfl, h0⟩ | ⟨g, cap, rfl, hbase⟩
  · clear hx
    go_enter Try.func28, Try.ntmps28
    go_wp2_with fail
    go_rounds 1
    go_end0
    exact ⟨rfl, Below.refl _ _⟩
  · unfold OwnB at hx
    have hbl : ∀ k, k < l.length → ∃ b, (bools l)[k]? = some (.bool b) := fun k hk => ⟨_, bools_get hk⟩
    generalize bools l = xs0 at hx hbl
    have HB0 := Lib.hid hbl
    clear hbl
    generalize l.length = n at hx hn HB0 ⊢
    go_enter Try.func28, Try.ntmps28
    go_wp2_with fail
    go_loopw [2] (fun i wr => ∃ (k : Nat) (ys : List Value), k ≤ n ∧ i = .int .i64 k ∧ wr.ownsRow base 4 1 (.slice (some ⟨g, 0, none⟩) n cap) n ys ∧ Hid (∀ j, j < n → ∃ b, ys[j]? = some (.bool b)) ∧ Below base w wr) (fun i _ => n - (intOf i).toNat)
    case atStart => exact ⟨0, xs0, by omega, rfl, hx, HB0, Below.refl _ _⟩
    case round =>
      obtain ⟨k, ys, hk, rfl, hown, HB, hbl⟩ := hrel
      by_cases hlt : k < n
      · obtain ⟨b, hys⟩ := HB.out k hlt
        have hc := hown.cellAt k (by omega)
        rw [hys] at hc
        have hf := hown.frozenAt k
        have hst := hown.stored k (.bool !b)
        have HB2 : Hid (∀ j, j < n → ∃ b', (ys.set k (.bool !b))[j]? = some (.bool b')) := Lib.hid fun j hj => by
          by_cases hjk : k = j
          · subst hjk; exact ⟨!b, by rw [List.getElem?_set_self (by have := hown.1; omega)]⟩
          · obtain ⟨b', h'⟩ := HB.out j hj
            exact ⟨b', by rw [List.getElem?_set_ne hjk]; exact h'⟩
        clear hys
        go_wp2_with fail
        go_roundw
        case rel => exact ⟨k + 1, _, by omega, by go_num, hst.1, HB2, hbl.setCell hbase _⟩
        case measure => simp [intOf]; omega
      · go_wp2_with fail
        go_end0
        exact ⟨rfl, hbl⟩
end Tab
end Go.Proofs.Ytenhgkhonaglaaa
