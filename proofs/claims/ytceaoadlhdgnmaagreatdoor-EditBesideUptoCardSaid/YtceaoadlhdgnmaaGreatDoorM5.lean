/- Joined texts: RowLib, RowLib2, RowRep, RowOps, RowOps2, RowPut, RowErase, GrdSmall, GrdLine, GrdEq. -/
import Derived.Test.YtceaoadlhdgnmaaGreatDoorM4
import Derived.Lib.AppendZerosOnto
import Derived.Lib.SliceRun
import Derived.Lib.Walk
import Derived.Lib.Mul64
import Derived.Laws.BitsAllLaws
import Derived.Laws.CopyOwn
import Derived.Deep.RegionLaw
import Derived.Deep.RegionHeld3
namespace Go.Proofs.YtceaoadlhdgnmaaGreatDoor
set_option maxRecDepth 100000
section
open Go.RowKit
namespace Row
@[go_sem] theorem eql_nil (w : World) (a : Option Addr) (n c n' c' : Nat) : (binOp .eql 27 (.slice a n c) (.slice none n' c')).run Tryz.prog w = .ok (.bool a.isNone) w := Lib.run_eql_slice_nil w _ _ a n c n' c' Tryz.underlying27
set_option maxHeartbeats 800000 in
theorem clone_any (l : List Cl) (x : Value) (w : World) (hx : Cs w x l) (hn : l.length ≤ 1000000) :
    Calls Tryz.prog 100 #[x] w fun e w' => ∃ v, e = .returned v ∧ OwnCs w' w.heap.size v l ∧ Below w.heap.size w w' := by
  rcases hx.2.2 with ⟨rfl, h0⟩ | ⟨ad, c, rfl, _⟩
  · have hl : l = [] := List.eq_nil_of_length_eq_zero h0
    subst hl
    go_enter Tryz.func100, Tryz.ntmps100
    go_wp2_with fail
    go_ret
    exact ⟨_, rfl, OwnCs.nil _ _, Below.refl _ _⟩
  · have HX := Lib.hid hx
    clear hx
    go_enter Tryz.func100, Tryz.ntmps100
    go_wp2_with (at_builtin; refine wp_append_cs rfl rfl w.heap.size _ _ [] l rfl (World.ownsRow_made w #[] 0 (Nat.le_refl _) (Nat.zero_le _) rfl) rfl (HX.out.kept ((Below.refl _ _).alloc (Nat.le_refl _) _)) (by simp; omega) (by simp) ?_; intro v1 w1 ho1 hg1 hat1)
    go_ret
    refine ⟨_, rfl, ho1, ?_⟩
    exact ((Below.refl _ w).alloc (Nat.le_refl _) _).grown hg1 (by simp) (by intro k hk; have hk : some w.heap.size = some k := hk; injection hk with hk; omega)
end Row
end
section
open Go.RowKit
namespace Row
set_option maxHeartbeats 1600000 in
theorem mul64_one (n : Nat) (hn : n ≤ 1000000) (w : World) :
    Calls Tryz.prog 217 #[.int .u64 1, .int .u64 n] w fun e w' => e = .returned (.tuple #[.int .u64 0, .int .u64 n]) ∧ w = w' := by
  have h1 : bits .and .u64 1 4294967295 = 1 := by decide
  have h0 : bits .and .u64 0 4294967295 = 0 := by decide
  have h2 : bits .and .u64 (n : Int) 4294967295 = n := by
    have := u64_and_nat n 4294967295 (by omega) (by omega)
    rw [show ((4294967295 : Nat) : Int) = 4294967295 from rfl] at this
    rw [this]
    congr 1
    rw [show (4294967295 : Nat) = 2 ^ 32 - 1 from rfl, Nat.and_two_pow_sub_one_eq_mod]
    exact Nat.mod_eq_of_lt (by omega)
  have hq : (n : Int) / 4294967296 = 0 := by omega
  go_enter Tryz.func217, Tryz.ntmps217
  go_wp2_with fail
  go_ret2
  exact ⟨rfl, rfl⟩
theorem mul_one (n : Nat) (hn : n ≤ 1000000) (w : World) :
    Calls Tryz.prog 204 #[.int .u64 1, .int .u64 n] w fun e w' => e = .returned (.tuple #[.int .u64 0, .int .u64 n]) ∧ w = w' := by
  go_enter Tryz.func204, Tryz.ntmps204
  go_wp2_with fail
  refine (mul64_one n hn _).mono ?_; rintro e w' ⟨rfl, rfl⟩
  go_wp2_with fail
  go_ret2
  exact ⟨rfl, rfl⟩
theorem run_copy_wide {P : Program} (w : World) (dT sT ty elem : TypeId) (g o dLen dCap : Nat) (a : Addr) (sLen sCap : Nat) (cur : Array Value) (t : TypeId) (cs : List Value) (sz m : Nat)
    (hu : P.underlying dT = some (.slice elem)) (hs : (P.info? elem).map (·.size) = some sz)
    (hg : w.heap[g]? = some (.cells cur t (0, 0))) (hm : m = Nat.min sLen dLen) (hn : cs.length = m * sz)
    (hsrc : ∀ j v, cs[j]? = some v → w.cell? (a.add j) = some v) (hfit : o + cs.length ≤ cur.size) (h1 : ∀ v ∈ cs, v.oneCell' = true) :
    (Builtin.copy_ #[dT, sT] ty #[.slice (some ⟨g, o, none⟩) dLen dCap, .slice (some a) sLen sCap]).run P w =
      .ok (goInt m) (w.setRow g (cur.toList.take o ++ cs ++ cur.toList.drop (o + cs.length)).toArray) := by
  have hl := run_loadCells_list (P := P) w a cs hsrc
  have hst := run_storeCells_at P g o t cs 0 cur w hg (by simpa using hfit) h1
  cases hq : P.info? elem with
  | none => simp [hq] at hs
  | some i =>
    have hi : i.size = sz := by simpa [hq] using hs
    simp [Builtin.copy_, run_underlying hu, Builtin.lenOf, Builtin.firstCells, sizeOf, typeInfo, hq, hi, ← hm, ← hn, hl, hst]
theorem run_grow {w : World} {n : Nat} {ty : TypeId} (h0 : 0 < n) (hn : n ≤ 1000000) :
    ∃ cap w', (Builtin.append_ #[27, 3] ty #[.slice none 0 0, .int .i64 n]).run Tryz.prog w = .ok (.slice (some ⟨w.heap.size, 0, none⟩) n cap) w' ∧ n ≤ cap ∧ OwnCs w' w.heap.size (.slice (some ⟨w.heap.size, 0, none⟩) 0 cap) [] ∧ Below w.heap.size w w' := by
  obtain ⟨i, hi, hz, h6, h56⟩ := cell_row
  have hr := Lib.run_append_nil_zeros (P := Tryz.prog) w 27 3 ty 57 i _ .i64 .i64 Tryz.underlying27 Tryz.underlying3 hi hz n h0 (by rw [h6]; decide) (by omega) (by rw [h56]; omega)
  refine ⟨_, _, hr, ?_, ?_, ?_⟩
  · have := grownCap_ge w n 0 57; omega
  · have hge := grownCap_ge w n 0 57
    have hle := grownCap_le_maxLen w n 0 57 (by simp only [maxLen]; omega)
    generalize grownCap w n 0 57 = cap at hge hle
    refine ⟨rfl, .inr ⟨w.heap.size, cap, _, rfl, Nat.le_refl _, heap_alloc_new w.drew _, Nat.zero_le _, hle, ?_, rfl⟩⟩
    simp only [Array.size_append, size_zeroCells]
    show n * 6 + (cap - n) * 6 = cap * 6
    omega
  · exact ((Below.refl _ _).drew).alloc (Nat.le_refl _) _
set_option maxHeartbeats 800000 in
theorem grow_any (n : Nat) (hn : n ≤ 1000000) (w : World) :
    Calls Tryz.prog 218 #[.slice none 0 0, .int .i64 n] w fun e w' => ∃ v, e = .returned v ∧ OwnCs w' w.heap.size v [] ∧ Below w.heap.size w w' := by
  by_cases h0 : 0 < n
  · obtain ⟨cap, w1, hr, hcap, ho, hb⟩ := run_grow (w := w) (ty := 27) h0 hn
    have HO := Lib.hid ho
    have HB := Lib.hid hb
    clear ho hb
    go_enter Tryz.func218, Tryz.ntmps218
    go_wp2_with (at_builtin; refine Lib.wpList_append_run _ rfl _ _ _ _ rfl _ _ rfl rfl _ _ hr ?_)
    go_ret
    exact ⟨_, rfl, HO.out, HB.out⟩
  · have h0 : n = 0 := by omega
    subst h0
    go_enter Tryz.func218, Tryz.ntmps218
    go_wp2_with fail
    go_ret
    exact ⟨_, rfl, OwnCs.nil _ _, Below.refl _ _⟩
def lensTo (ls : List (List Cl)) (k : Nat) : Nat := (ls.take k).flatten.length
theorem take_succ_ls {ls : List (List Cl)} {k : Nat} (h : k < ls.length) : (ls.take (k + 1)).flatten = (ls.take k).flatten ++ ls.getD k [] := by
  rw [List.take_succ_eq_append_getElem h, List.flatten_append]; simp [List.getD, h]
theorem lensTo_le (ls : List (List Cl)) (k : Nat) : lensTo ls k ≤ ls.flatten.length := by
  unfold lensTo
  have h : ls.flatten = (ls.take k).flatten ++ (ls.drop k).flatten := by rw [← List.flatten_append, List.take_append_drop]
  rw [h, List.length_append]; omega
set_option maxHeartbeats 1600000 in
theorem concat_any (ls : List (List Cl)) (xs : List Value) (x : Value) (w : World) (hxl : xs.length = ls.length) (hx : Src w x xs.length xs) (hc : ∀ k, k < ls.length → Cs w (xs.getD k undef) (ls.getD k [])) (hb : ls.flatten.length ≤ 1000000) (hl : ls.length ≤ 1000) :
    Calls Tryz.prog 209 #[x] w fun e w' => ∃ v, e = .returned v ∧ OwnCs w' w.heap.size v ls.flatten ∧ Below w.heap.size w w' := by
  obtain ⟨A, c, rfl, ha⟩ := hx.form
  rw [hxl] at ha ⊢
  have HA : Hid (∀ k, k < ls.length → ∃ ad, A = some ad ∧ w.cell? (ad.add k) = some (xs.getD k undef)) := Lib.hid fun k hk => by
    obtain ⟨ad, h1, h2⟩ := ha k hk
    exact ⟨ad, h1, by rw [h2]; simp [List.getD, hxl, hk]⟩
  have HC := Lib.hid hc
  have HLE := Lib.hid (lensTo_le ls)
  have HB := Lib.hid hb
  clear ha hx hc hb
  go_enter Tryz.func209, Tryz.ntmps209
  go_wp2_with fail
  go_loopw [3, 11] (fun s i wr => ∃ k : Nat, k ≤ ls.length ∧ i = .int .i64 k ∧ s = .int .i64 (lensTo ls k) ∧ w = wr) (fun _ i _ => ls.length - (intOf i).toNat)
  case atStart => exact ⟨0, by omega, rfl, rfl, rfl⟩
  case round =>
    obtain ⟨k, hk, rfl, rfl, rfl⟩ := hrel
    by_cases hlt : k < ls.length
    · obtain ⟨ad, rfl, h1⟩ := HA.out k hlt
      obtain ⟨A2, c2, e2, _⟩ := (HC.out k hlt).form
      rw [e2] at h1
      have HT : Hid (lensTo ls (k + 1) = lensTo ls k + (ls.getD k []).length) := Lib.hid (by unfold lensTo; rw [take_succ_ls hlt, List.length_append])
      have hle := HLE.out (k + 1)
      have hbb := HB.out
      rw [HT.out] at hle
      generalize (ls.getD k []).length = m at h1 HT hle
      generalize lensTo ls k = s at HT hle
      clear e2
      go_wp2_with fail
      go_roundw
      case rel => exact ⟨k + 1, by omega, by go_num, by rw [HT.out]; go_num, by first | rfl | trivial⟩
      case measure => simp [intOf]; omega
    · have hkn : k = ls.length := by omega
      subst hkn
      have hle := HLE.out ls.length
      have hbb := HB.out
      generalize lensTo ls ls.length = s at hle
      go_wp2_with fail
      refine (grow_any s (by omega) _).mono ?_
      rintro e w1 ⟨v1, rfl, ho1, hb1⟩
      have HO1 := Lib.hid ho1
      have HB1 := Lib.hid hb1
      clear ho1 hb1
      go_wp2_with fail
      go_loopw [6, 27] (fun v i wr => ∃ k : Nat, k ≤ ls.length ∧ i = .int .i64 k ∧ OwnCs wr w.heap.size v (ls.take k).flatten ∧ Below w.heap.size w wr) (fun _ i _ => ls.length - (intOf i).toNat)
      case atStart => exact ⟨0, by omega, rfl, HO1.out, HB1.out⟩
      case round =>
        obtain ⟨k, hk, rfl, hown, hbl⟩ := hrel
        by_cases hlt : k < ls.length
        · obtain ⟨ad, rfl, h1⟩ := HA.out k hlt
          have h1 := cell_kept hbl h1
          have HCK := Lib.hid ((HC.out k hlt).kept hbl)
          have HT := Lib.hid (take_succ_ls hlt)
          have HLN : Hid ((ls.take k).flatten.length + (ls.getD k []).length ≤ 1000000) := Lib.hid (by
            have := HLE.out (k + 1); unfold lensTo at this; rw [take_succ_ls hlt, List.length_append] at this; omega)
          generalize xs.getD k undef = y at h1 HCK
          generalize ls.getD k [] = r at HCK HT HLN
          have HOW := Lib.hid hown
          clear hown
          go_wp2_with (at_builtin; refine wp_append_cs rfl rfl w.heap.size _ _ (ls.take k).flatten r rfl HOW.out rfl HCK.out (by have := HLN.out; omega) hbl.size ?_; intro v2 w2 ho2 hg2 hat2)
          have hbl2 : Below w.heap.size w w2 := below_cs hbl hg2 hbl.size HOW.out
          have HO2 := Lib.hid ho2
          clear ho2
          go_roundw
          case rel => exact ⟨k + 1, by omega, by go_num, by rw [HT.out]; exact HO2.out, hbl2⟩
          case measure => simp [intOf]; omega
        · have hkn : k = ls.length := by omega
          subst hkn
          have HE : Hid (ls.take ls.length = ls) := Lib.hid (List.take_of_length_le (Nat.le_refl _))
          go_wp2_with fail
          go_ret
          rw [HE.out] at hown
          exact ⟨_, rfl, hown, hbl⟩
end Row
end
section
open Go.RowKit
namespace Row
def Whole (w : World) (b : Nat) (l : List Cl) : Prop := w.heap[b]? = some (.cells (flat l).toArray 57 (0, 0))
theorem Whole.own {w : World} {b : Nat} {l : List Cl} (h : Whole w b l) {base : Nat} (hb : base ≤ b) (hl : l.length ≤ 1000000) : OwnCs w base (.slice (some ⟨b, 0, none⟩) l.length l.length) l := by
  refine ⟨flat_length l, .inr ⟨b, l.length, _, rfl, hb, h, Nat.le_refl _, by simp only [maxLen]; omega, ?_, ?_⟩⟩
  · simp [flat_length]
  · rw [← flat_length]; simp
theorem Whole.of {w : World} {base b : Nat} {l : List Cl} (h : w.ownsRow base 57 6 (.slice (some ⟨b, 0, none⟩) l.length l.length) l.length (flat l)) : Whole w b l := by
  rcases h.2 with ⟨e, _⟩ | ⟨b', cap, cur, e, _, hg, _, _, hs, ht⟩
  · injection e with e; cases e
  · injection e with e1 e2 e3
    injection e1 with e1
    injection e1 with e1
    subst e1
    subst e3
    unfold Whole
    rw [hg]
    have : cur.toList = flat l := by
      rw [← ht, List.take_of_length_le (by rw [Array.length_toList, hs]; exact Nat.le_refl _)]
    rw [← this]
theorem run_copy_cs {w : World} {ty : TypeId} {b k dLen dCap sLen sCap m : Nat} {a : Addr} {l r : List Cl} (h : Whole w b l) (hm : m = Nat.min sLen dLen) (hr : r.length = m) (hk : k + m ≤ l.length)
    (hsrc : ∀ j u, (flat r)[j]? = some u → w.cell? (a.add j) = some u) :
    ∃ w', (Builtin.copy_ #[27, 27] ty #[.slice (some ⟨b, k * 6, none⟩) dLen dCap, .slice (some a) sLen sCap]).run Tryz.prog w = .ok (goInt m) w' ∧ Whole w' b (l.take k ++ (r ++ l.drop (k + m))) ∧
      ∀ B w0, Below B w0 w → B ≤ b → Below B w0 w' := by
  obtain ⟨i, hi, hz, h6, h56⟩ := cell_row
  have hrun := run_copy_wide (P := Tryz.prog) w 27 27 ty 57 b (k * 6) dLen dCap a sLen sCap _ _ (flat r) 6 m Tryz.underlying27 (by rw [hi]; simp [h6]) h hm (by rw [flat_length, hr]) hsrc
    (by simp only [List.size_toArray, flat_length]; rw [hr]; omega) (flat_cells r)
  refine ⟨_, hrun, ?_, fun B w0 hb hB => below_setRow hb hB _⟩
  have hrow := setRow_heap w b _ ((flat l).toArray.toList.take (k * 6) ++ flat r ++ (flat l).toArray.toList.drop (k * 6 + (flat r).length)).toArray _ _ h
  unfold Whole
  rw [hrow]
  have e1 : (flat l).take (k * 6) = flat (l.take k) := by
    have hs : l = l.take k ++ l.drop k := (List.take_append_drop k l).symm
    have hl : (flat (l.take k)).length = k * 6 := by rw [flat_length, List.length_take]; rw [Nat.min_eq_left (by omega)]
    conv => lhs; rw [hs, flat_append]
    rw [List.take_append_of_le_length (by omega), List.take_of_length_le (by omega)]
  have e2 : (flat l).drop (k * 6 + (flat r).length) = flat (l.drop (k + m)) := by
    have hs : l = l.take (k + m) ++ l.drop (k + m) := (List.take_append_drop (k + m) l).symm
    have hl : (flat (l.take (k + m))).length = k * 6 + (flat r).length := by rw [flat_length, flat_length, List.length_take, hr]; rw [Nat.min_eq_left (by omega)]; omega
    conv => lhs; rw [hs, flat_append]
    rw [← hl, List.drop_left]
  rw [e1, e2, List.append_assoc, ← flat_append, ← flat_append]
theorem wp_copy_cs {w : World} {ops : Array Oper} {rest : List Oper} {o : Oper} {a : Act} {Q : Exit → Act → World → Prop} {d s : Operand} (hgd : o.guard = none)
    (ho : o.op = .call { callee := .builtin .copy, args := #[d, s], argTypes := #[27, 27] }) (b k dLen dCap sLen sCap m off : Nat) (ad : Addr) (l r : List Cl)
    (hd : a.eval d = .slice (some ⟨b, off, none⟩) dLen dCap) (hs : a.eval s = .slice (some ad) sLen sCap) (hoff : off = k * 6) (h : Whole w b l) (hm : m = Nat.min sLen dLen) (hr : r.length = m) (hk : k + m ≤ l.length)
    (hsrc : ∀ j u, (flat r)[j]? = some u → w.cell? (ad.add j) = some u)
    (hK : ∀ w', Whole w' b (l.take k ++ (r ++ l.drop (k + m))) → (∀ B w0, Below B w0 w → B ≤ b → Below B w0 w') → wpList Tryz.prog ops Q rest (a.put o.dst (goInt m)) w') : wpList Tryz.prog ops Q (o :: rest) a w := by
  subst hoff
  refine wpList_plain hgd fun K hK' => ?_
  obtain ⟨w', hrun, h1, h2⟩ := run_copy_cs (ty := o.type) (dCap := dCap) (sCap := sCap) h hm hr hk hsrc
  unfold Oper.wp execOp
  simp only [ho, resolve, invoke, builtin, Sem.run_bind, Sem.run_pure, Result.andThen_ok, List.map_toArray, List.map_cons, List.map_nil, hs, hd, hrun]
  exact hK' _ _ (hK w' h1 h2)
theorem step_copy_cs {w : World} {ops : Array Oper} {o : Oper} {a : Act} {K : Act → World → Prop} {Q : Exit → Act → World → Prop} {E : Prop} {d s : Operand} (hgd : o.guard = none)
    (ho : o.op = .call { callee := .builtin .copy, args := #[d, s], argTypes := #[27, 27] }) (b k dLen dCap sLen sCap m off : Nat) (ad : Addr) (l r : List Cl)
    (hd : a.eval d = .slice (some ⟨b, off, none⟩) dLen dCap) (hs : a.eval s = .slice (some ad) sLen sCap) (hoff : off = k * 6) (h : Whole w b l) (hm : m = Nat.min sLen dLen) (hr : r.length = m) (hk : k + m ≤ l.length)
    (hsrc : ∀ j u, (flat r)[j]? = some u → w.cell? (ad.add j) = some u)
    (hK : ∀ w', Whole w' b (l.take k ++ (r ++ l.drop (k + m))) → (∀ B w0, Below B w0 w → B ≤ b → Below B w0 w') → K (a.put o.dst (goInt m)) w') :
    if Region.wanted o (yielded ops a.tmps) = true then Oper.wp Tryz.prog o a w K Q else E := by
  subst hoff
  have hw : Region.wanted o (yielded ops a.tmps) = true := by simp [Region.wanted, hgd]
  rw [if_pos hw]
  obtain ⟨w', hrun, h1, h2⟩ := run_copy_cs (ty := o.type) (dCap := dCap) (sCap := sCap) h hm hr hk hsrc
  unfold Oper.wp execOp
  simp only [ho, resolve, invoke, builtin, Sem.run_bind, Sem.run_pure, Result.andThen_ok, List.map_toArray, List.map_cons, List.map_nil, hs, hd, hrun]
  exact hK w' h1 h2
theorem Whole.cell {w : World} {b : Nat} {l r t : List Cl} (h : Whole w b l) (e : l = r ++ t) : ∀ j u, (flat r)[j]? = some u → w.cell? ((⟨b, 0, none⟩ : Addr).add j) = some u := by
  intro j u hu
  have hj : j < (flat r).length := (List.getElem?_eq_some_iff.1 hu).1
  have ha : (⟨b, 0, none⟩ : Addr).add j = ⟨b, j, none⟩ := by
    unfold Addr.add
    by_cases h0 : j = 0
    · subst h0; rfl
    · simp [h0]
  rw [ha, Blk.cell h, e, flat_append]
  rw [List.getElem?_toArray, List.getElem?_append_left hj]
  exact hu
def zero : Cl := ⟨0, [], 0, ⟨0, 0, 0⟩⟩
theorem made_zero (n : Nat) : (madeCells (Value.agg #[.int .i64 0, .string ⟨#[]⟩, .int .i64 0, .int .i64 0, .int .i64 0, .int .i64 0]).cells (n * 6)).toList = flat (List.replicate n zero) := by
  apply List.ext_getElem?
  intro j
  by_cases hj : j < n * 6
  · have hk : j / 6 < (List.replicate n zero).length := by rw [List.length_replicate]; omega
    have h6 : j % 6 < 6 := Nat.mod_lt _ (by decide)
    have e := flat_get hk h6
    rw [show j / 6 * 6 + j % 6 = j from by omega] at e
    rw [e]
    have hg : g (List.replicate n zero) (j / 6) = zero := by rw [g_eq hk, List.getElem_replicate]
    rw [hg]
    simp only [madeCells, Value.cells]
    rw [Array.getElem?_toList, Array.getElem?_map, Array.getElem?_range]
    simp [hj]
    have : j % 6 = 0 ∨ j % 6 = 1 ∨ j % 6 = 2 ∨ j % 6 = 3 ∨ j % 6 = 4 ∨ j % 6 = 5 := by omega
    rcases this with h | h | h | h | h | h <;> rw [h] <;> rfl
  · rw [List.getElem?_eq_none (by rw [Array.length_toList, size_madeCells]; omega), List.getElem?_eq_none (by rw [flat_length, List.length_replicate]; omega)]
theorem rep_step {n k m : Nat} (c z : Cl) (hm : k + m ≤ n) :
    (List.replicate k c ++ List.replicate (n - k) z).take k ++ (List.replicate m c ++ (List.replicate k c ++ List.replicate (n - k) z).drop (k + m)) = List.replicate (k + m) c ++ List.replicate (n - (k + m)) z := by
  have hl : (List.replicate k c).length = k := List.length_replicate
  rw [List.take_append_of_le_length (by rw [hl]; exact Nat.le_refl _), List.take_of_length_le (by rw [hl]; exact Nat.le_refl _), List.drop_append, List.drop_of_length_le (by rw [hl]; omega), List.nil_append, hl, List.drop_replicate, ← List.append_assoc, List.replicate_append_replicate]
  congr 2
  omega
set_option maxHeartbeats 800000 in
theorem repeat_any (c : Cl) (x : Value) (n : Nat) (w : World) (hx : Cs w x [c]) (hn : n ≤ 1000000) :
    Calls Tryz.prog 210 #[x, .int .i64 n] w fun e w' => ∃ v, e = .returned v ∧ OwnCs w' w.heap.size v (List.replicate n c) ∧ Below w.heap.size w w' := by
  obtain ⟨i, hi, hz, h6, h56⟩ := cell_row
  have hx0 := hx
  obtain ⟨A, cp, rfl, hA⟩ := hx.form
  obtain ⟨ad, rfl, _⟩ := hA 0 (by simp)
  have HX := Lib.hid hx0
  clear hA hx hx0
  go_enter Tryz.func210, Tryz.ntmps210
  go_wp2_with fail
  refine (mul_one n hn _).mono ?_; rintro e w' ⟨rfl, rfl⟩
  obtain ⟨m, hm, hm1, hm0⟩ : ∃ m, m = Nat.min 1 n ∧ m ≤ n ∧ (m = 0 → n = 0) := ⟨_, rfl, Nat.min_le_right _ _, fun h => by have : Nat.min 1 n = min 1 n := rfl; omega⟩
  have hm2 : m ≤ 1 := by rw [hm]; exact Nat.min_le_left _ _
  have HSRC : Hid (∀ w' : World, Below w.heap.size w w' → ∀ j u, (flat (List.replicate m c))[j]? = some u → w'.cell? (ad.add j) = some u) := Lib.hid fun w' hb j u hu => by
    have hc := (HX.out.kept hb).flat.2
    rcases (by omega : m = 0 ∨ m = 1) with e | e
    · rw [e] at hu; simp [flat] at hu
    · rw [e] at hu; exact hc j u hu
  go_wp2_with (first
    | (at_make; refine wpList_make_full _ rfl _ _ _ rfl w.heap.size 57 i _ 6 Tryz.underlying27 hi hz h6 .i64 .i64 _ _ n rfl rfl (by go_num) (by go_num) (by rw [h56]; omega) (by simp only [maxLen]; omega) (Nat.le_refl _) ?_; intro w1 ho1 hg1; rw [made_zero] at ho1; have HW1 := Lib.hid (Whole.of (l := List.replicate n zero) (by rw [List.length_replicate]; exact ho1)); have HB1 : Hid (Below w.heap.size w w1) := Lib.hid ((Below.refl _ w).grown hg1 (Nat.le_refl _) (fun k hk => by cases hk)); clear ho1)
    | (with_reducible refine wp_copy_cs (o := ⟨some 33, _, _, _, _, _⟩) rfl rfl w.heap.size 0 n n 1 cp m 0 ad (List.replicate n zero) (List.replicate m c) rfl rfl rfl HW1.out hm List.length_replicate (by rw [List.length_replicate]; omega) (HSRC.out _ HB1.out) ?_; intro w2 hw2 hb2; have HW2 := Lib.hid hw2; have HB2 := Lib.hid (hb2 _ _ HB1.out (Nat.le_refl _)); clear hw2 hb2))
  have HW3 : Hid (Whole w2 w.heap.size (List.replicate m c ++ List.replicate (n - m) zero)) := Lib.hid (by
    have h := HW2.out
    rwa [List.take_zero, List.nil_append, Nat.zero_add, List.drop_replicate] at h)
  clear HW2
  go_loopw [8] (fun i wr => ∃ k : Nat, k ≤ n ∧ (k = 0 → n = 0) ∧ i = .int .i64 k ∧ Hid (Whole wr w.heap.size (List.replicate k c ++ List.replicate (n - k) zero)) ∧ Below w.heap.size w wr) (fun i _ => n - (intOf i).toNat)
  case atStart => exact ⟨m, hm1, hm0, by go_num, HW3, HB2.out⟩
  case round =>
    obtain ⟨k, hk, hk0, rfl, HW, hbl⟩ := hrel
    by_cases hlt : k < n
    · have hne : ¬ n = k := by omega
      obtain ⟨p, hp, hp1, hp2⟩ : ∃ p, p = Nat.min k (n - k) ∧ 0 < p ∧ k + p ≤ n := ⟨_, rfl, by have : Nat.min k (n - k) = min k (n - k) := rfl; omega, by have : Nat.min k (n - k) = min k (n - k) := rfl; omega⟩
      have hpk : p ≤ k := by rw [hp]; exact Nat.min_le_left _ _
      have HSR : Hid (∀ j u, (flat (List.replicate p c))[j]? = some u → wr.drew.cell? ((⟨w.heap.size, 0, none⟩ : Addr).add j) = some u) := Lib.hid (Whole.cell (w := wr.drew) HW.out (t := List.replicate (k - p) c ++ List.replicate (n - k) zero) (by rw [← List.append_assoc, List.replicate_append_replicate]; congr 2; omega))
      have HLL : Hid ((List.replicate k c ++ List.replicate (n - k) zero).length = n) := Lib.hid (by simp; omega)
      have hwrap : IntKind.i64.wrap ((k : Int) + (p : Int)) = (k : Int) + (p : Int) := by rw [IntKind.wrap_i64]; omega
      have HPP := Lib.hid hp
      clear hp
      have HWD : Hid (Whole wr.drew w.heap.size (List.replicate k c ++ List.replicate (n - k) zero)) := Lib.hid HW.out
      have HBD : Hid (Below w.heap.size w wr.drew) := Lib.hid hbl.drew
      go_wp2_with fail
      go_region_law (refine step_copy_cs rfl rfl w.heap.size k (n - k) (n - k) k n p (k * 6) ⟨w.heap.size, 0, none⟩ (List.replicate k c ++ List.replicate (n - k) zero) (List.replicate p c) (by go_simp) (by go_simp) rfl HWD.out HPP.out List.length_replicate (by rw [HLL.out]; exact hp2) HSR.out ?_; intro w3 hw3 hb3; have HW4 := Lib.hid hw3; have HB4 := Lib.hid (hb3 _ _ HBD.out (Nat.le_refl _)); clear hw3 hb3)
      have HW5 : Hid (Whole w3 w.heap.size (List.replicate (k + p) c ++ List.replicate (n - (k + p)) zero)) := Lib.hid (by rw [← rep_step c zero hp2]; exact HW4.out)
      clear HW4
      go_simp
      go_wp2_with fail
      go_roundw
      case rel => exact ⟨k + p, hp2, by omega, by go_num, HW5, HB4.out⟩
      case measure => simp [intOf]; omega
    · have hkn : k = n := by omega
      subst hkn
      have HE : Hid (List.replicate k c ++ List.replicate (k - k) zero = List.replicate k c) := Lib.hid (by simp)
      have HO : Hid (OwnCs wr w.heap.size (.slice (some ⟨w.heap.size, 0, none⟩) k k) (List.replicate k c)) := Lib.hid (by
        have h := HW.out
        rw [HE.out] at h
        have := h.own (Nat.le_refl w.heap.size) (by rw [List.length_replicate]; exact hn)
        rwa [List.length_replicate] at this)
      go_wp2_with fail
      go_ret
      exact ⟨_, rfl, HO.out, hbl⟩
end Row
end
section
open Go.RowKit
namespace Row
open Utf Wid
theorem held_cut {l : List Cl} (h : Held l) (p : Nat) : Held (cutL l p) := by
  intro i hi
  rw [cutL_length] at hi
  rw [cutL_g]
  split
  · exact Nat.zero_le _
  · exact h i hi
theorem Cs.upto {w : World} {A : Option Addr} {n c : Nat} {l : List Cl} (h : Cs w (.slice A n c) l) (hc : n ≤ c) (k : Nat) (hk : k ≤ l.length) :
    (∀ w' : World, (Instr.slice 27 (.slice A n c) none (some (.int .i64 k)) none).run Tryz.prog w' = .ok (.slice A k c) w') ∧ Cs w (.slice A k c) (l.take k) := by
  obtain ⟨A', c', e, hf⟩ := h.form
  injection e with e1 e2 e3
  subst e1; subst e2; subst e3
  have hu : Tryz.prog.underlying 27 = some (.slice (Tryz.prog.elem 27)) := by kernel_rfl
  refine ⟨fun w' => ?_, ?_⟩
  · rw [run_slice_h w' 27 A l.length c hu .i64 k (by omega) (by omega)]
    have hs : (sizeOf (Tryz.prog.elem 27)).run Tryz.prog w' = .ok 6 w' := by kernel_rfl
    rw [hs]
    simp [Result.andThen, sliced]
    intro _
    cases A <;> simp [Addr.add]
  · have hl : (l.take k).length = k := by rw [List.length_take]; omega
    rcases h.2.2 with ⟨e, h0⟩ | ⟨ad, c2, e, hcell⟩
    · injection e with e1 e2 e3
      subst e1; subst e3
      have : k = 0 := by omega
      subst this
      exact Cs.nil w
    · injection e with e1 e2 e3
      subst e1; subst e3
      have := Cs.of (w := w) (ad := ad) (c := c) (l := l.take k) fun j u hu => by
        refine h.flat.2 j u ?_
        have hj : j < (Row.flat (l.take k)).length := (List.getElem?_eq_some_iff.1 hu).1
        have hs : Row.flat l = Row.flat (l.take k) ++ Row.flat (l.drop k) := by rw [← flat_append, List.take_append_drop]
        rw [hs, List.getElem?_append_left hj]; exact hu
      rwa [hl] at this
theorem Cs.from {w : World} {A : Option Addr} {n c : Nat} {l : List Cl} (h : Cs w (.slice A n c) l) (hc : n ≤ c) (k : Nat) (hk : k ≤ l.length) :
    Cs w (.slice (if c = k then A else A.map (fun x => x.add (k * 6))) (n - k) (c - k)) (l.drop k) := by
  obtain ⟨A', c', e, hf⟩ := h.form
  injection e with e1 e2 e3
  subst e1; subst e2; subst e3
  have hl : (l.drop k).length = l.length - k := List.length_drop
  rcases h.2.2 with ⟨e, h0⟩ | ⟨ad, c2, e, hcell⟩
  · injection e with e1 e2 e3
    subst e1; subst e3
    have h0 : l.length = 0 := h0
    have hl0 : l = [] := List.eq_nil_of_length_eq_zero h0
    subst hl0
    have hk0 : k = 0 := by simpa using hk
    subst hk0
    simp only [List.length_nil] at h0 ⊢
    exact Cs.nil w
  · injection e with e1 e2 e3
    subst e1; subst e3
    by_cases hck : c = k
    · rw [if_pos hck]
      have hd : l.drop k = [] := List.drop_eq_nil_of_le (by omega)
      have := Cs.of (w := w) (ad := ad) (c := c - k) (l := l.drop k) fun j u hu => by rw [hd] at hu; simp [Row.flat] at hu
      rwa [hl] at this
    · rw [if_neg hck]
      have := Cs.of (w := w) (ad := ad.add (k * 6)) (c := c - k) (l := l.drop k) fun j u hu => by
        rw [Go.Deep.add_add]
        refine h.flat.2 (k * 6 + j) u ?_
        have hlt : (Row.flat (l.take k)).length = k * 6 := by rw [flat_length, List.length_take, Nat.min_eq_left hk]
        have hs : Row.flat l = Row.flat (l.take k) ++ Row.flat (l.drop k) := by rw [← flat_append, List.take_append_drop]
        rw [hs, List.getElem?_append_right (by omega), hlt, show k * 6 + j - k * 6 = j from by omega]
        exact hu
      rwa [hl] at this
theorem OwnCs.room {w : World} {base n c : Nat} {A : Option Addr} {l : List Cl} (h : OwnCs w base (.slice A n c) l) : n ≤ c := by
  rcases h.shape with ⟨e, _⟩ | ⟨b, cap, e, _, hc⟩
  · injection e with e1 e2 e3; omega
  · injection e with e1 e2 e3; omega
set_option maxHeartbeats 800000 in
theorem blanks_any (n : Nat) (a : Look) (w : World) (hn : n ≤ 1000) :
    Calls Tryz.prog 193 #[.int .i64 n, .agg #[.int .i64 a.fg, .int .i64 a.bg, .int .i64 a.flags]] w fun e w' => ∃ v, e = .returned v ∧ OwnCs w' w.heap.size v (List.replicate n (blank a)) ∧ Below w.heap.size w w' := by
  have HB : Hid (∀ w', Calls Tryz.prog 211 #[.agg #[.int .i64 a.fg, .int .i64 a.bg, .int .i64 a.flags]] w' fun e w'' => e = .returned (.agg #[.int .i64 32, .string ⟨#[]⟩, .int .i64 0, .int .i64 (-1), .int .i64 a.bg, .int .i64 0]) ∧ Below w'.heap.size w' w'') := Lib.hid (fun w' => blank_any a w')
  have HR := Lib.hid (fun x w' (h : Cs w' x [blank a]) => repeat_any (blank a) x n w' h (by omega))
  have HO : Hid (∀ w' : World, Cs (w'.alloc (.cells #[.int .i64 32, .string ⟨#[]⟩, .int .i64 0, .int .i64 (-1), .int .i64 a.bg, .int .i64 0] 57)) (.slice (some ⟨w'.heap.size, 0, none⟩) 1 1) [blank a]) := Lib.hid fun w' => Cs.one w' (blank a) _ 1 _ rfl
  go_enter Tryz.func193, Tryz.ntmps193
  go_wp2_with fail
  refine (HB.out _).mono ?_; rintro e w1 ⟨rfl, hb1⟩
  have HB1 : Hid (Below w.heap.size w w1) := Lib.hid (((Below.refl _ _).alloc (Nat.le_refl _) _).trans (hb1.mono (by simp)))
  clear hb1
  go_wp2_with fail
  refine (HR.out _ _ (HO.out w1)).mono ?_; rintro e w2 ⟨v, rfl, ho2, hb2⟩
  have HO2 : Hid (OwnCs w2 w.heap.size v (List.replicate n (blank a))) := Lib.hid (ho2.low (by have := HB1.out.size; simp; omega))
  have HB2 : Hid (Below w.heap.size w w2) := Lib.hid ((HB1.out.alloc HB1.out.size _).trans (hb2.mono (by have := HB1.out.size; simp; omega)))
  clear ho2 hb2
  go_wp2_with fail
  go_ret
  exact ⟨v, rfl, HO2.out, HB2.out⟩
set_option maxHeartbeats 800000 in
theorem fit_any (l : List Cl) (a : Look) (b : Bool) (x : Value) (w : World) (hx : Cs w x l) (hs : Held l) (hl : l.length ≤ 1000000) (hb : b = true ↔ RowOk l ∧ attrOk a = true) :
    Calls Tryz.prog 194 #[x, .agg #[.int .i64 a.fg, .int .i64 a.bg, .int .i64 a.flags]] w fun e w' => e = .returned (.bool b) ∧ Below w.heap.size w w' := by
  have hb0 : Below w.heap.size w (w.alloc (.cells #[.int .i64 a.fg, .int .i64 a.bg, .int .i64 a.flags] 31)) := (Below.refl _ _).alloc (Nat.le_refl _) _
  have HB0 := Lib.hid hb0
  have hblk : (w.alloc (.cells #[.int .i64 a.fg, .int .i64 a.bg, .int .i64 a.flags] 31)).heap[w.heap.size]? = some (.cells #[.int .i64 a.fg, .int .i64 a.bg, .int .i64 a.flags] 31 (0, 0)) := heap_alloc_new _ _
  have HK := Lib.hid hblk
  have HX := Lib.hid (hx.kept hb0)
  by_cases hr : RowOk l
  · have HC := Lib.hid (fun w' (h : Cs w' x l) => rowCheck_any l true x w' h hs hl ⟨fun _ => hr, fun _ => rfl⟩)
    have HCK := Lib.hid (fun w' => check_any a (attrOk a) rfl w')
    have hbb : b = attrOk a := by
      cases b
      · cases h : attrOk a
        · rfl
        · exact absurd (hb.2 ⟨hr, h⟩) (by decide)
      · exact ((hb.1 rfl).2).symm
    subst hbb
    clear hb hx hs hr hb0 hblk
    generalize attrOk a = q at HCK ⊢
    cases q
    all_goals
      go_enter Tryz.func194, Tryz.ntmps194
      go_wp2_with fail
      refine (HC.out _ HX.out).mono ?_; rintro e w1 ⟨rfl, hb1⟩
      have HB1 : Hid (Below w.heap.size w w1) := Lib.hid (HB0.out.trans (hb1.mono (by simp)))
      have hk1 := Blk.kept HK.out hb1
      have k0 := Blk.cell hk1 0
      have k1 := Blk.cell hk1 1
      have k2 := Blk.cell hk1 2
      simp only [List.getElem?_toArray, List.getElem?_cons_zero, List.getElem?_cons_succ] at k0 k1 k2
      clear hb1 hk1
      go_wp2_with fail
      refine (HCK.out _).mono ?_; rintro e w2 ⟨rfl, hb2⟩
      have HB2 : Hid (Below w.heap.size w w2) := Lib.hid (HB1.out.trans (hb2.mono HB1.out.size))
      clear hb2
      go_wp2_with fail
      go_ret
      exact ⟨rfl, HB2.out⟩
  · have HC := Lib.hid (fun w' (h : Cs w' x l) => rowCheck_any l false x w' h hs hl ⟨(fun h => by cases h), fun h => absurd h hr⟩)
    have hbf : b = false := by
      cases b
      · rfl
      · exact absurd (hb.1 rfl).1 hr
    subst hbf
    clear hb hx hs hr hb0 hblk
    go_enter Tryz.func194, Tryz.ntmps194
    go_wp2_with fail
    refine (HC.out _ HX.out).mono ?_; rintro e w1 ⟨rfl, hb1⟩
    have HB1 : Hid (Below w.heap.size w w1) := Lib.hid (HB0.out.trans (hb1.mono (by simp)))
    clear hb1
    go_wp2_with fail
    go_ret
    exact ⟨rfl, HB1.out⟩
end Row
end
section
open Go.RowKit
namespace Row
open Utf Wid
theorem repl_nil {l : List Cl} (p : Nat) : repl l p p [] = l := by unfold repl; rw [if_pos ⟨rfl, rfl⟩]
set_option maxHeartbeats 1600000 in
theorem replaced_none (l : List Cl) (p : Nat) (x y : Value) (w : World) (hx : Cs w x l) (hy : Cs w y []) (hl : l.length ≤ 1000) :
    Calls Tryz.prog 192 #[x, .int .i64 p, .int .i64 p, y] w fun e w' => ∃ v, e = .returned v ∧ OwnCs w' w.heap.size v l ∧ Below w.heap.size w w' := by
  obtain ⟨A, c, rfl, _⟩ := hy.form
  have HCL := Lib.hid (clone_any l x w hx (by omega))
  clear hx hy
  go_enter Tryz.func192, Tryz.ntmps192
  go_wp2_with fail
  refine HCL.out.mono ?_; rintro e w1 ⟨v, rfl, ho1, hb1⟩
  have HO1 := Lib.hid ho1
  have HB1 := Lib.hid hb1
  clear ho1 hb1
  go_wp2_with fail
  go_ret
  exact ⟨v, rfl, HO1.out, HB1.out⟩
theorem three {w : World} {a b c : Value} {p q r : List Cl} (h1 : Cs w a p) (h2 : Cs w b q) (h3 : Cs w c r) : ∀ k, k < [p, q, r].length → Cs w ([a, b, c].getD k undef) ([p, q, r].getD k []) := by
  intro k hk
  have hk : k < 3 := hk
  rcases (by omega : k = 0 ∨ k = 1 ∨ k = 2) with rfl | rfl | rfl
  · exact h1
  · exact h2
  · exact h3
set_option maxHeartbeats 1600000 in
theorem replaced_mid (l r : List Cl) (low high : Nat) (x y : Value) (w : World) (hx : Cs w x l) (hy : Cs w y r) (hg : Good l) (hs : Held l) (hl : l.length ≤ 1000) (hr : r.length ≤ 1000) (h1 : low ≤ high) (h2 : high ≤ l.length) (hne : low ≠ high ∨ r ≠ []) :
    Calls Tryz.prog 192 #[x, .int .i64 low, .int .i64 high, y] w fun e w' => ∃ v, e = .returned v ∧ OwnCs w' w.heap.size v (mid l low high r) ∧ Below w.heap.size w w' := by
  obtain ⟨A, c, rfl, _⟩ := hy.form
  have HY := Lib.hid hy
  have HCL := Lib.hid (clone_any l x w hx (by omega))
  have HC1 := Lib.hid (fun v w' (h : OwnCs w' w.heap.size v l) (hb : w.heap.size ≤ w'.heap.size) => cut_any l w.heap.size v low w' h hb hg hs (by omega) (by omega))
  have hg1 := good_cut hg low
  have hs1 := held_cut hs low
  have hl1 := cutL_length l low
  have HC2 := Lib.hid (fun v w' (h : OwnCs w' w.heap.size v (cutL l low)) (hb : w.heap.size ≤ w'.heap.size) => cut_any (cutL l low) w.heap.size v high w' h hb hg1 hs1 (by omega) (by omega))
  have hl2 := cutL_length (cutL l low) high
  have hmid : mid l low high r = ([(cutL (cutL l low) high).take low, r, (cutL (cutL l low) high).drop high] : List (List Cl)).flatten := by simp [mid]
  have HM := Lib.hid hmid
  have hml := mid_length h1 h2 r
  rw [hmid] at hml
  generalize cutL (cutL l low) high = m at HC2 hl2 HM hml
  have hlm : m.length = l.length := by omega
  have HCC := Lib.hid (fun (xs : List Value) x w' hxl hxx hcc => concat_any [m.take low, r, m.drop high] xs x w' hxl hxx hcc (by omega) (by simp))
  have hd : (low == high && r.length == 0) = false := by
    rcases hne with h | h
    · rw [(beq_eq_false_iff_ne).2 h]; rfl
    · rw [(beq_eq_false_iff_ne).2 (fun e => h (List.eq_nil_of_length_eq_zero e)), Bool.and_false]
  by_cases hlh : low = high
  · subst hlh
    have hr0 : r ≠ [] := by
      rcases hne with h | h
      · exact absurd rfl h
      · exact h
    have hb1 : ((r.length : Int) == 0) = false := by rw [beq_eq_false_iff_ne]; exact fun e => hr0 (List.eq_nil_of_length_eq_zero (by omega))
    clear hr0
    clear hx hy hne hd hmid hg hs hg1 hs1 hml
    go_enter Tryz.func192, Tryz.ntmps192
    go_wp2_with fail
    refine HCL.out.mono ?_; rintro e w1 ⟨v, rfl, ho1, hb1⟩
    have HO1 := Lib.hid ho1
    have HB1 := Lib.hid hb1
    clear ho1 hb1
    go_wp2_with fail
    refine (HC1.out _ _ HO1.out HB1.out.size).mono ?_; rintro e w2 ⟨rfl, ho2, hb2⟩
    have HO2 := Lib.hid ho2
    have HB2 : Hid (Below w.heap.size w w2) := Lib.hid (HB1.out.trans hb2)
    clear ho2 hb2
    go_wp2_with fail
    refine (HC2.out _ _ HO2.out HB2.out.size).mono ?_; rintro e w3 ⟨rfl, ho3, hb3⟩
    have HO3 := Lib.hid ho3
    have HB3 : Hid (Below w.heap.size w w3) := Lib.hid (HB2.out.trans hb3)
    have hcs := ho3.cs
    clear ho3 hb3
    obtain ⟨A2, c2, e2, _⟩ := hcs.form
    subst e2
    rw [hlm] at HO3 hcs
    have hroom := HO3.out.room
    have hlc : low ≤ c2 := by omega
    have hhl : low ≤ l.length := by omega
    obtain ⟨_, hcs1⟩ := hcs.upto hroom low (by omega)
    have hcs2 := hcs.from hroom low (by omega)
    have HV1 := Lib.hid hcs1
    have HV2 := Lib.hid hcs2
    clear hcs hcs1 hcs2
    go_wp2_with fail
    have HBD : Hid (Below w3.heap.size w3 (w3.drew.alloc (.cells #[.slice A2 low c2, .slice A r.length c, (.slice (if c2 = low then A2 else A2.map (fun x => x.add (low * 6))) (l.length - low) (c2 - low))] 27))) := Lib.hid ((Below.refl _ _).drew.alloc (Nat.le_refl _) _)
    have HBW : Hid (Below w.heap.size w (w3.drew.alloc (.cells #[.slice A2 low c2, .slice A r.length c, (.slice (if c2 = low then A2 else A2.map (fun x => x.add (low * 6))) (l.length - low) (c2 - low))] 27))) := Lib.hid (HB3.out.trans (HBD.out.mono HB3.out.size))
    have HCALL := Lib.hid (HCC.out [.slice A2 low c2, .slice A r.length c, (.slice (if c2 = low then A2 else A2.map (fun x => x.add (low * 6))) (l.length - low) (c2 - low))] (.slice (some ⟨w3.heap.size, 0, none⟩) 3 3) (w3.drew.alloc (.cells #[.slice A2 low c2, .slice A r.length c, (.slice (if c2 = low then A2 else A2.map (fun x => x.add (low * 6))) (l.length - low) (c2 - low))] 27)) rfl (Src.made_at w3.drew _ _ _ _ _ _ rfl rfl rfl) (three (HV1.out.kept HBD.out) ((HY.out.kept HB3.out).kept HBD.out) (HV2.out.kept HBD.out)))
    go_region_law (first
      | (go_simp; go_at_call 209; refine HCALL.out.mono ?_; rintro e w4 ⟨v4, rfl, ho4, hb4⟩; have HO4 : Hid (OwnCs w4 w.heap.size v4 (mid l low low r)) := Lib.hid (by rw [HM.out]; exact ho4.low HBW.out.size); have HB4 : Hid (Below w.heap.size w w4) := Lib.hid (HBW.out.trans (hb4.mono HBW.out.size)); clear ho4 hb4))
    all_goals
      go_simp
      go_wp2_with fail
      all_goals
        go_ret
        exact ⟨_, rfl, HO4.out, HB4.out⟩
  · have hb1 : ((low : Int) == (high : Int)) = false := by rw [beq_eq_false_iff_ne]; omega
    clear hx hy hne hd hmid hg hs hg1 hs1 hml
    go_enter Tryz.func192, Tryz.ntmps192
    go_wp2_with fail
    refine HCL.out.mono ?_; rintro e w1 ⟨v, rfl, ho1, hb1⟩
    have HO1 := Lib.hid ho1
    have HB1 := Lib.hid hb1
    clear ho1 hb1
    go_wp2_with fail
    refine (HC1.out _ _ HO1.out HB1.out.size).mono ?_; rintro e w2 ⟨rfl, ho2, hb2⟩
    have HO2 := Lib.hid ho2
    have HB2 : Hid (Below w.heap.size w w2) := Lib.hid (HB1.out.trans hb2)
    clear ho2 hb2
    go_wp2_with fail
    refine (HC2.out _ _ HO2.out HB2.out.size).mono ?_; rintro e w3 ⟨rfl, ho3, hb3⟩
    have HO3 := Lib.hid ho3
    have HB3 : Hid (Below w.heap.size w w3) := Lib.hid (HB2.out.trans hb3)
    have hcs := ho3.cs
    clear ho3 hb3
    obtain ⟨A2, c2, e2, _⟩ := hcs.form
    subst e2
    rw [hlm] at HO3 hcs
    have hroom := HO3.out.room
    have hlc : low ≤ c2 := by omega
    have hhl : high ≤ l.length := by omega
    obtain ⟨_, hcs1⟩ := hcs.upto hroom low (by omega)
    have hcs2 := hcs.from hroom high (by omega)
    have HV1 := Lib.hid hcs1
    have HV2 := Lib.hid hcs2
    clear hcs hcs1 hcs2
    go_wp2_with fail
    have HBD : Hid (Below w3.heap.size w3 (w3.drew.alloc (.cells #[.slice A2 low c2, .slice A r.length c, (.slice (if c2 = high then A2 else A2.map (fun x => x.add (high * 6))) (l.length - high) (c2 - high))] 27))) := Lib.hid ((Below.refl _ _).drew.alloc (Nat.le_refl _) _)
    have HBW : Hid (Below w.heap.size w (w3.drew.alloc (.cells #[.slice A2 low c2, .slice A r.length c, (.slice (if c2 = high then A2 else A2.map (fun x => x.add (high * 6))) (l.length - high) (c2 - high))] 27))) := Lib.hid (HB3.out.trans (HBD.out.mono HB3.out.size))
    have HCALL := Lib.hid (HCC.out [.slice A2 low c2, .slice A r.length c, (.slice (if c2 = high then A2 else A2.map (fun x => x.add (high * 6))) (l.length - high) (c2 - high))] (.slice (some ⟨w3.heap.size, 0, none⟩) 3 3) (w3.drew.alloc (.cells #[.slice A2 low c2, .slice A r.length c, (.slice (if c2 = high then A2 else A2.map (fun x => x.add (high * 6))) (l.length - high) (c2 - high))] 27)) rfl (Src.made_at w3.drew _ _ _ _ _ _ rfl rfl rfl) (three (HV1.out.kept HBD.out) ((HY.out.kept HB3.out).kept HBD.out) (HV2.out.kept HBD.out)))
    go_region_law (first
      | (go_simp; go_at_call 209; refine HCALL.out.mono ?_; rintro e w4 ⟨v4, rfl, ho4, hb4⟩; have HO4 : Hid (OwnCs w4 w.heap.size v4 (mid l low high r)) := Lib.hid (by rw [HM.out]; exact ho4.low HBW.out.size); have HB4 : Hid (Below w.heap.size w w4) := Lib.hid (HBW.out.trans (hb4.mono HBW.out.size)); clear ho4 hb4))
    all_goals
      go_simp
      go_wp2_with fail
      all_goals
        go_ret
        exact ⟨_, rfl, HO4.out, HB4.out⟩
theorem replaced_any (l r : List Cl) (low high : Nat) (x y : Value) (w : World) (hx : Cs w x l) (hy : Cs w y r) (hg : Good l) (hs : Held l) (hl : l.length ≤ 1000) (hr : r.length ≤ 1000) (h1 : low ≤ high) (h2 : high ≤ l.length) :
    Calls Tryz.prog 192 #[x, .int .i64 low, .int .i64 high, y] w fun e w' => ∃ v, e = .returned v ∧ OwnCs w' w.heap.size v (repl l low high r) ∧ Below w.heap.size w w' := by
  by_cases h : low = high ∧ r = []
  · obtain ⟨rfl, rfl⟩ := h
    rw [repl_nil]
    exact replaced_none l low x y w hx hy hl
  · have hm : repl l low high r = mid l low high r := by unfold repl; rw [if_neg h]
    rw [hm]
    refine replaced_mid l r low high x y w hx hy hg hs hl hr h1 h2 ?_
    by_cases hlh : low = high
    · exact .inr fun e => h ⟨hlh, e⟩
    · exact .inl hlh
end Row
end
section
open Go.RowKit
namespace Row
open Utf Wid
theorem rng_yes {n lo hi : Int} (h : lo ≤ n) (k : n ≤ hi) : rng n lo hi = true := by unfold rng; rw [decide_eq_true h, decide_eq_true k]; rfl
theorem rng_no {n lo hi : Int} (h : ¬ (lo ≤ n ∧ n ≤ hi)) : rng n lo hi = false := by
  unfold rng
  rw [Bool.and_eq_false_iff]
  by_cases k : lo ≤ n
  · exact .inr (decide_eq_false fun k2 => h ⟨k, k2⟩)
  · exact .inl (decide_eq_false k)
def attrV (a : Look) : Value := .agg #[.int .i64 a.fg, .int .i64 a.bg, .int .i64 a.flags]
theorem fit_yes {l : List Cl} {a : Look} (h : RowOk l) (ha : attrOk a = true) (hs : Held l) (hl : l.length ≤ 1000) (x : Value) (w : World) (hx : Cs w x l) :
    Calls Tryz.prog 194 #[x, .agg #[.int .i64 a.fg, .int .i64 a.bg, .int .i64 a.flags]] w fun e w' => e = .returned (.bool true) ∧ Below w.heap.size w w' :=
  fit_any l a true x w hx hs (by omega) ⟨fun _ => ⟨h, ha⟩, fun _ => rfl⟩
theorem box_kept {w w1 : World} {a : Look} (hb : Below (w.alloc (.cells #[.int .i64 a.fg, .int .i64 a.bg, .int .i64 a.flags] 31)).heap.size (w.alloc (.cells #[.int .i64 a.fg, .int .i64 a.bg, .int .i64 a.flags] 31)) w1) :
    w1.heap[w.heap.size]? = some (.cells #[.int .i64 a.fg, .int .i64 a.bg, .int .i64 a.flags] 31 (0, 0)) ∧ Below w.heap.size w w1 :=
  ⟨Blk.kept (heap_alloc_new _ _) hb, ((Below.refl _ _).alloc (Nat.le_refl _) _).trans (hb.mono (by simp))⟩
end Row
end
section
open Go.RowKit
namespace Row
open Utf Wid
set_option maxHeartbeats 1600000 in
theorem erase_fits (l : List Cl) (a : Look) (low high : Nat) (x : Value) (w : World) (hx : Cs w x l) (hs : Held l) (hl : l.length ≤ 1000) (h : RowOk l) (ha : attrOk a = true) (h1 : low ≤ high) (h2 : high ≤ l.length) :
    Calls Tryz.prog 175 #[x, .int .i64 low, .int .i64 high, .agg #[.int .i64 a.fg, .int .i64 a.bg, .int .i64 a.flags]] w fun e w' => ∃ v, e = .returned (.tuple #[v, .int .i64 0]) ∧ OwnCs w' w.heap.size v (repl l low high (List.replicate (high - low) (blank a))) ∧ Below w.heap.size w w' := by
  have hb0 : Below w.heap.size w (w.alloc (.cells #[.int .i64 a.fg, .int .i64 a.bg, .int .i64 a.flags] 31)) := (Below.refl _ _).alloc (Nat.le_refl _) _
  have HX0 := Lib.hid hx
  have HX := Lib.hid (hx.kept hb0)
  have HF := Lib.hid (fun w' (k : Cs w' x l) => fit_yes h ha hs hl x w' k)
  have HR : Hid (rng (low : Int) 0 (high : Int) = true) := Lib.hid (rng_yes (by omega) (by omega))
  have hd : decide (l.length < high) = false := decide_eq_false (by omega)
  have HBK := Lib.hid (fun w' => blanks_any (high - low) a w' (by omega))
  have HRP := Lib.hid (fun y w' (k1 : Cs w' x l) (k2 : Cs w' y (List.replicate (high - low) (blank a))) => replaced_any l (List.replicate (high - low) (blank a)) low high x y w' k1 k2 h.2.2 hs hl (by rw [List.length_replicate]; omega) h1 h2)
  have hwrap : IntKind.i64.wrap ((high : Int) - (low : Int)) = ((high - low : Nat) : Int) := by rw [IntKind.wrap_i64]; omega
  generalize repl l low high (List.replicate (high - low) (blank a)) = res at HRP ⊢
  generalize List.replicate (high - low) (blank a) = bs at HBK HRP
  generalize high - low = m at HBK hwrap
  obtain ⟨A, c, rfl, _⟩ := hx.form
  clear hx hs h hb0 ha h1 h2
  go_enter Tryz.func175, Tryz.ntmps175
  go_wp2_with fail
  refine (HF.out _ HX.out).mono ?_; rintro e w2 ⟨rfl, hb2⟩
  obtain ⟨hk2, hbw⟩ := box_kept hb2
  have HB2 := Lib.hid hbw
  obtain ⟨k0, k1, k2⟩ := box_cells hk2
  clear hb2 hbw hk2
  go_wp2_with fail
  refine (rowIn_at _ _ _ _ HR.out _).mono ?_; rintro e w' ⟨rfl, rfl⟩
  go_wp2_with fail
  refine (HBK.out _).mono ?_; rintro e w3 ⟨v3, rfl, ho3, hb3⟩
  have HB3 : Hid (Below w.heap.size w w3) := Lib.hid (HB2.out.trans (hb3.mono HB2.out.size))
  have HC3 := Lib.hid ho3.cs
  clear ho3 hb3
  go_wp2_with fail
  refine (HRP.out _ _ (HX0.out.kept HB3.out) HC3.out).mono ?_; rintro e w4 ⟨v4, rfl, ho4, hb4⟩
  have HO4 : Hid (OwnCs w4 w.heap.size v4 res) := Lib.hid (ho4.low HB3.out.size)
  have HB4 : Hid (Below w.heap.size w w4) := Lib.hid (HB3.out.trans (hb4.mono HB3.out.size))
  clear ho4 hb4
  go_wp2_with fail
  go_ret2
  exact ⟨v4, rfl, HO4.out, HB4.out⟩
set_option maxHeartbeats 1600000 in
theorem rowBlank_fits (n : Nat) (a : Look) (w : World) (h1 : 1 ≤ n) (h2 : n ≤ 40) (ha : attrOk a = true) :
    Calls Tryz.prog 178 #[.int .i64 n, .agg #[.int .i64 a.fg, .int .i64 a.bg, .int .i64 a.flags]] w fun e w' => ∃ v, e = .returned (.tuple #[v, .int .i64 0]) ∧ OwnCs w' w.heap.size v (List.replicate n (blank a)) ∧ Below w.heap.size w w' := by
  have HR : Hid (rng (n : Int) 1 40 = true) := Lib.hid (rng_yes (by omega) (by omega))
  have HCK := Lib.hid (fun w' => check_any a true ha w')
  have HBK := Lib.hid (fun w' => blanks_any n a w' (by omega))
  clear ha
  go_enter Tryz.func178, Tryz.ntmps178
  go_wp2_with fail
  refine (rowIn_at _ _ _ _ HR.out _).mono ?_; rintro e w' ⟨rfl, rfl⟩
  go_wp2_with fail
  refine (HCK.out _).mono ?_; rintro e w2 ⟨rfl, hb2⟩
  obtain ⟨hk2, hbw⟩ := box_kept hb2
  have HB2 := Lib.hid hbw
  obtain ⟨k0, k1, k2⟩ := box_cells hk2
  clear hb2 hbw hk2
  go_wp2_with fail
  refine (HBK.out _).mono ?_; rintro e w3 ⟨v3, rfl, ho3, hb3⟩
  have HB3 : Hid (Below w.heap.size w w3) := Lib.hid (HB2.out.trans (hb3.mono HB2.out.size))
  have HO3 : Hid (OwnCs w3 w.heap.size v3 (List.replicate n (blank a))) := Lib.hid (ho3.low HB2.out.size)
  clear ho3 hb3
  go_wp2_with fail
  go_ret2
  exact ⟨v3, rfl, HO3.out, HB3.out⟩
set_option maxHeartbeats 1600000 in
theorem rowBlank_no (n : Int) (a : Look) (w : World) (h : ¬ ((1 ≤ n ∧ n ≤ 40) ∧ attrOk a = true)) :
    Calls Tryz.prog 178 #[.int .i64 n, .agg #[.int .i64 a.fg, .int .i64 a.bg, .int .i64 a.flags]] w fun e w' => e = .returned (.tuple #[.slice none 0 0, .int .i64 1]) ∧ Below w.heap.size w w' := by
  by_cases hn : 1 ≤ n ∧ n ≤ 40
  · have HR : Hid (rng n 1 40 = true) := Lib.hid (rng_yes (by omega) (by omega))
    have HCK := Lib.hid (fun w' => check_any a false (by cases q : attrOk a; rfl; exact absurd ⟨hn, q⟩ h) w')
    clear h hn
    go_enter Tryz.func178, Tryz.ntmps178
    go_wp2_with fail
    refine (rowIn_at _ _ _ _ HR.out _).mono ?_; rintro e w' ⟨rfl, rfl⟩
    go_wp2_with fail
    refine (HCK.out _).mono ?_; rintro e w2 ⟨rfl, hb2⟩
    obtain ⟨_, hbw⟩ := box_kept hb2
    have HB2 := Lib.hid hbw
    clear hb2 hbw
    go_wp2_with fail
    go_ret2
    exact ⟨rfl, HB2.out⟩
  · have HR : Hid (rng n 1 40 = false) := Lib.hid (rng_no hn)
    clear h hn
    go_enter Tryz.func178, Tryz.ntmps178
    go_wp2_with fail
    refine (rowIn_at _ _ _ _ HR.out _).mono ?_; rintro e w' ⟨rfl, rfl⟩
    go_wp2_with fail
    go_ret2
    exact ⟨rfl, (Below.refl _ _).alloc (Nat.le_refl _) _⟩
end Row
end
section
open Go.RowKit
namespace Row
theorem gridIn_at (n lo hi : Int) (b : Bool) (hb : rng n lo hi = b) (w : World) : Calls Tryz.prog 177 #[.int .i64 n, .int .i64 lo, .int .i64 hi] w fun e w' => e = .returned (.bool b) ∧ w = w' := by
  subst hb
  by_cases h : lo ≤ n
  · by_cases k : n ≤ hi
    · have H : Hid (rng n lo hi = true) := Lib.hid (by unfold rng; rw [decide_eq_true h, decide_eq_true k]; rfl)
      go_enter Tryz.func177, Tryz.ntmps177
      go_wp2_with fail
      go_ret
      exact ⟨ret_bool H.out.symm, rfl⟩
    · have H : Hid (rng n lo hi = false) := Lib.hid (by unfold rng; rw [decide_eq_false k, Bool.and_false])
      have hd : decide (n ≤ hi) = false := decide_eq_false k
      go_enter Tryz.func177, Tryz.ntmps177
      go_wp2_with fail
      go_ret
      exact ⟨ret_bool H.out.symm, rfl⟩
  · have H : Hid (rng n lo hi = false) := Lib.hid (by unfold rng; rw [decide_eq_false h, Bool.false_and])
    have hd : decide (lo ≤ n) = false := decide_eq_false h
    go_enter Tryz.func177, Tryz.ntmps177
    go_wp2_with fail
    go_ret
    exact ⟨ret_bool H.out.symm, rfl⟩
def sidesOk (r c : Int) : Bool := rng r 1 40 && rng c 1 40
theorem sidesOk_iff (r c : Int) : sidesOk r c = true ↔ (1 ≤ r ∧ r ≤ 40) ∧ (1 ≤ c ∧ c ≤ 40) := by unfold sidesOk rng; simp [and_assoc]
theorem sides_at (r c : Int) (b : Bool) (hb : sidesOk r c = b) (w : World) : Calls Tryz.prog 149 #[.int .i64 r, .int .i64 c] w fun e w' => e = .returned (.bool b) ∧ w = w' := by
  subst hb
  cases h1 : rng r 1 40 with
  | false =>
    have H1 := Lib.hid h1
    have H : Hid (sidesOk r c = false) := Lib.hid (by unfold sidesOk; rw [h1]; rfl)
    clear h1
    go_enter Tryz.func149, Tryz.ntmps149
    go_wp2_with fail
    refine (gridIn_at _ _ _ _ H1.out _).mono ?_; rintro e w' ⟨rfl, rfl⟩
    go_wp2_with fail
    go_ret
    exact ⟨ret_bool H.out.symm, rfl⟩
  | true =>
    have H1 := Lib.hid h1
    have H : Hid (sidesOk r c = rng c 1 40) := Lib.hid (by unfold sidesOk; rw [h1]; rfl)
    clear h1
    go_enter Tryz.func149, Tryz.ntmps149
    go_wp2_with fail
    refine (gridIn_at r _ _ _ H1.out _).mono ?_; rintro e w' ⟨rfl, rfl⟩
    go_wp2_with fail
    refine (gridIn_at c _ _ _ rfl _).mono ?_; rintro e w' ⟨rfl, rfl⟩
    go_wp2_with fail
    go_ret
    exact ⟨ret_bool H.out.symm, rfl⟩
set_option maxHeartbeats 800000 in
theorem paints_at (a : Look) (b : Bool) (hb : attrOk a = b) (w : World) : Calls Tryz.prog 150 #[.agg #[.int .i64 a.fg, .int .i64 a.bg, .int .i64 a.flags]] w fun e w' => e = .returned (.bool b) ∧ Below w.heap.size w w' := by
  have HB0 : Hid (Below w.heap.size w (w.alloc (.cells #[.int .i64 a.fg, .int .i64 a.bg, .int .i64 a.flags] 31))) := Lib.hid ((Below.refl _ _).alloc (Nat.le_refl _) _)
  cases b with
  | true =>
    have HBK := Lib.hid (fun w' => rowBlank_fits 1 a w' (by omega) (by omega) hb)
    clear hb
    go_enter Tryz.func150, Tryz.ntmps150
    go_wp2_with fail
    refine (HBK.out _).mono ?_; rintro e w2 ⟨v, rfl, ho, hb2⟩
    have HB2 : Hid (Below w.heap.size w w2) := Lib.hid (HB0.out.trans (hb2.mono (by simp)))
    clear ho hb2
    go_wp2_with fail
    go_ret
    exact ⟨rfl, HB2.out⟩
  | false =>
    have HBK := Lib.hid (fun w' => rowBlank_no 1 a w' (by rw [hb]; simp))
    clear hb
    go_enter Tryz.func150, Tryz.ntmps150
    go_wp2_with fail
    refine (HBK.out _).mono ?_; rintro e w2 ⟨rfl, hb2⟩
    have HB2 : Hid (Below w.heap.size w w2) := Lib.hid (HB0.out.trans (hb2.mono (by simp)))
    clear hb2
    go_wp2_with fail
    go_ret
    exact ⟨rfl, HB2.out⟩
set_option maxHeartbeats 800000 in
theorem gridBlanks_any (n : Nat) (a : Look) (w : World) (h1 : 1 ≤ n) (h2 : n ≤ 40) (ha : attrOk a = true) :
    Calls Tryz.prog 203 #[.int .i64 n, .agg #[.int .i64 a.fg, .int .i64 a.bg, .int .i64 a.flags]] w fun e w' => ∃ v, e = .returned v ∧ OwnCs w' w.heap.size v (blankRow n a) ∧ Below w.heap.size w w' := by
  have HB0 : Hid (Below w.heap.size w (w.alloc (.cells #[.int .i64 a.fg, .int .i64 a.bg, .int .i64 a.flags] 31))) := Lib.hid ((Below.refl _ _).alloc (Nat.le_refl _) _)
  have HBK := Lib.hid (fun w' => rowBlank_fits n a w' h1 h2 ha)
  clear ha
  go_enter Tryz.func203, Tryz.ntmps203
  go_wp2_with fail
  refine (HBK.out _).mono ?_; rintro e w2 ⟨v, rfl, ho, hb2⟩
  have HB2 : Hid (Below w.heap.size w w2) := Lib.hid (HB0.out.trans (hb2.mono (by simp)))
  have HO : Hid (OwnCs w2 w.heap.size v (blankRow n a)) := Lib.hid (ho.low (by simp))
  clear ho hb2
  go_wp2_with fail
  go_ret
  exact ⟨v, rfl, HO.out, HB2.out⟩
end Row
end
section
open Go.RowKit
namespace Row
inductive Ln where
  | kept (v : Value) (r : List Cl)
  | empty (a : Look)
instance : Inhabited Ln := ⟨.empty ⟨0, 0, 0⟩⟩
def lv : Ln → Value
  | .kept v _ => .iface 234 v
  | .empty a => .iface 211 (.agg #[.int .i64 a.fg, .int .i64 a.bg, .int .i64 a.flags])
def lvs (l : List Ln) : List Value := l.map lv
theorem lvs_append (a b : List Ln) : lvs (a ++ b) = lvs a ++ lvs b := List.map_append
theorem lvs_length (l : List Ln) : (lvs l).length = l.length := List.length_map _
theorem lvs_take (l : List Ln) (k : Nat) : lvs (l.take k) = (lvs l).take k := List.map_take
theorem lvs_drop (l : List Ln) (k : Nat) : lvs (l.drop k) = (lvs l).drop k := List.map_drop
theorem lv_cell (x : Ln) : (lv x).oneCell' = true := by cases x <;> rfl
theorem lvs_cells (l : List Ln) : ∀ u ∈ lvs l, u.oneCell' = true := by
  intro u hu
  obtain ⟨x, _, rfl⟩ := List.mem_map.1 hu
  exact lv_cell x
theorem lvs_get {l : List Ln} {k : Nat} (h : k < l.length) : (lvs l)[k]? = some (lv (l.getD k default)) := by
  unfold lvs; simp [h]
def lrow (c : Nat) : Ln → List Cl
  | .kept _ r => r
  | .empty a => blankRow c a
def LnOk (w : World) (c : Nat) : Ln → Prop
  | .kept v r => Rm w v r ∧ r.length = c
  | .empty a => attrOk a = true
theorem LnOk.kept {w w' : World} {c : Nat} {x : Ln} (h : LnOk w c x) (hb : Below w.heap.size w w') : LnOk w' c x := by
  cases x with
  | kept v r => exact ⟨h.1.kept hb, h.2⟩
  | empty a => exact h
def LnsOk (w : World) (c : Nat) (l : List Ln) : Prop := ∀ x ∈ l, LnOk w c x
theorem LnsOk.kept {w w' : World} {c : Nat} {l : List Ln} (h : LnsOk w c l) (hb : Below w.heap.size w w') : LnsOk w' c l := fun x hx => (h x hx).kept hb
theorem lrow_len {w : World} {c : Nat} {x : Ln} (h : LnOk w c x) : (lrow c x).length = c := by
  cases x with
  | kept v r => exact h.2
  | empty a => exact blankRow_length c a
def Sv (w : World) (x : Value) (l : List Ln) : Prop := Src w x l.length (lvs l) ∧ ∃ A c, x = .slice A l.length c ∧ l.length ≤ c
theorem Sv.kept {w w' : World} {x : Value} {l : List Ln} (h : Sv w x l) (hb : Below w.heap.size w w') : Sv w' x l := ⟨h.1.kept hb, h.2⟩
theorem Sv.room {w : World} {A : Option Addr} {n c : Nat} {l : List Ln} (h : Sv w (.slice A n c) l) : n = l.length ∧ l.length ≤ c := by
  obtain ⟨_, A', c', e, hc⟩ := h
  injection e with e1 e2 e3
  exact ⟨e2, by omega⟩
theorem Sv.get {w : World} {A : Option Addr} {n c : Nat} {l : List Ln} (h : Sv w (.slice A n c) l) {k : Nat} (hk : k < l.length) : ∃ ad, A = some ad ∧ w.cell? (ad.add k) = some (lv (l.getD k default)) := by
  obtain ⟨A', c', e, hf⟩ := h.1.form
  injection e with e1 e2 e3
  subst e1
  obtain ⟨ad, rfl, hc⟩ := hf k hk
  exact ⟨ad, rfl, by rw [hc, lvs_get hk]⟩
theorem line_slice : Tryz.prog.underlying 167 = some (.slice (Tryz.prog.elem 167)) := by kernel_rfl
theorem line_size (w' : World) : (sizeOf (Tryz.prog.elem 167)).run Tryz.prog w' = .ok 1 w' := by kernel_rfl
theorem Sv.mid {w : World} {A : Option Addr} {n c : Nat} {l : List Ln} (h : Sv w (.slice A n c) l) (lo hi : Nat) (h1 : lo ≤ hi) (h2 : hi ≤ l.length) :
    Sv w (.slice (if c = lo then A else A.map (·.add lo)) (hi - lo) (c - lo)) ((l.drop lo).take (hi - lo)) := by
  obtain ⟨en, hc⟩ := h.room
  have hlen : ((l.drop lo).take (hi - lo)).length = hi - lo := by rw [List.length_take, List.length_drop]; omega
  refine ⟨⟨by rw [lvs_length], ?_⟩, _, _, by rw [hlen], by rw [hlen]; omega⟩
  rcases h.1.2 with ⟨e, h0⟩ | ⟨ad, c2, e, hcell⟩
  · injection e with e1 e2 e3
    subst e1; subst e3
    left
    have : lo = 0 := by omega
    subst this
    exact ⟨by rw [if_pos rfl]; congr 1; omega, by rw [hlen]; omega⟩
  · injection e with e1 e2 e3
    subst e1; subst e3
    right
    by_cases hck : c = lo
    · rw [if_pos hck]
      refine ⟨ad, c - lo, by rw [hlen], fun j u hu => ?_⟩
      have hd : (l.drop lo).take (hi - lo) = [] := List.eq_nil_of_length_eq_zero (by rw [hlen]; omega)
      rw [hd] at hu; simp [lvs] at hu
    · rw [if_neg hck]
      refine ⟨ad.add lo, c - lo, by rw [hlen]; rfl, fun j u hu => ?_⟩
      rw [Go.Deep.add_add]
      refine hcell (lo + j) u ?_
      rw [lvs_take, lvs_drop] at hu
      have hj : j < hi - lo := by
        have := (List.getElem?_eq_some_iff.1 hu).1
        rw [List.length_take] at this; omega
      rw [List.getElem?_take_of_lt hj, List.getElem?_drop] at hu
      exact hu
theorem Sv.run_mid {w : World} {A : Option Addr} {n c : Nat} {l : List Ln} (h : Sv w (.slice A n c) l) (lo hi : Nat) (h1 : lo ≤ hi) (h2 : hi ≤ l.length) (w' : World) :
    (Instr.slice 167 (.slice A n c) (some (.int .i64 lo)) (some (.int .i64 hi)) none).run Tryz.prog w' = .ok (.slice (if c = lo then A else A.map (·.add lo)) (hi - lo) (c - lo)) w' := by
  obtain ⟨en, hc⟩ := h.room
  rw [run_slice_lh w' 167 A n c line_slice .i64 .i64 lo hi (by omega) (by omega) (by omega), line_size]
  simp [Result.andThen, sliced]
theorem Sv.from {w : World} {A : Option Addr} {n c : Nat} {l : List Ln} (h : Sv w (.slice A n c) l) (k : Nat) (hk : k ≤ l.length) :
    Sv w (.slice (if c = k then A else A.map (·.add k)) (n - k) (c - k)) (l.drop k) := by
  have := h.mid k l.length hk (Nat.le_refl _)
  rw [h.room.1]
  rwa [List.take_of_length_le (by rw [List.length_drop]; exact Nat.le_refl _)] at this
theorem Sv.run_from {w : World} {A : Option Addr} {n c : Nat} {l : List Ln} (h : Sv w (.slice A n c) l) (k : Nat) (hk : k ≤ l.length) (w' : World) :
    (Instr.slice 167 (.slice A n c) (some (.int .i64 k)) none none).run Tryz.prog w' = .ok (.slice (if c = k then A else A.map (·.add k)) (n - k) (c - k)) w' := by
  obtain ⟨en, hc⟩ := h.room
  rw [run_slice_l w' 167 A n c line_slice .i64 k (by omega) (by omega), line_size]
  simp [Result.andThen, sliced]
theorem Sv.upto {w : World} {A : Option Addr} {n c : Nat} {l : List Ln} (h : Sv w (.slice A n c) l) (k : Nat) (hk : k ≤ l.length) : Sv w (.slice A k c) (l.take k) := by
  obtain ⟨en, hc⟩ := h.room
  have hlen : (l.take k).length = k := by rw [List.length_take]; omega
  refine ⟨⟨by rw [lvs_length], ?_⟩, _, _, by rw [hlen], by rw [hlen]; omega⟩
  rcases h.1.2 with ⟨e, h0⟩ | ⟨ad, c2, e, hcell⟩
  · injection e with e1 e2 e3
    subst e1; subst e3
    left
    exact ⟨by congr 1; omega, by rw [hlen]; omega⟩
  · injection e with e1 e2 e3
    subst e1; subst e3
    right
    refine ⟨ad, c, by rw [hlen], fun j u hu => ?_⟩
    refine hcell j u ?_
    rw [lvs_take] at hu
    have hj : j < k := by
      have := (List.getElem?_eq_some_iff.1 hu).1
      rw [List.length_take] at this; omega
    rwa [List.getElem?_take_of_lt hj] at hu
theorem Sv.run_upto {w : World} {A : Option Addr} {n c : Nat} {l : List Ln} (h : Sv w (.slice A n c) l) (k : Nat) (hk : k ≤ l.length) (w' : World) :
    (Instr.slice 167 (.slice A n c) none (some (.int .i64 k)) none).run Tryz.prog w' = .ok (.slice A k c) w' := by
  obtain ⟨en, hc⟩ := h.room
  rw [run_slice_h w' 167 A n c line_slice .i64 k (by omega) (by omega), line_size]
  simp [Result.andThen, sliced]
  intro _
  cases A <;> simp [Addr.add]
def OwnL (w : World) (base : Nat) (v : Value) (l : List Ln) : Prop := w.ownsRow base 207 1 v l.length (lvs l)
theorem OwnL.sv {w : World} {base : Nat} {v : Value} {l : List Ln} (h : OwnL w base v l) : Sv w v l := by
  refine ⟨Src.own h, ?_⟩
  rcases h.2 with ⟨rfl, h0⟩ | ⟨g, cap, cur, rfl, _, _, hc, _⟩
  · exact ⟨none, 0, by rw [h0], by omega⟩
  · exact ⟨_, _, rfl, hc⟩
theorem OwnL.kept {w w' : World} {base : Nat} {v : Value} {l : List Ln} (h : OwnL w base v l) (hb : Below w.heap.size w w') : OwnL w' base v l := own_kept h hb
theorem OwnL.nil (w : World) (base : Nat) : OwnL w base (.slice none 0 0) [] := World.ownsRow_nil _ _ _ _
theorem OwnL.low {w : World} {base b2 : Nat} {v : Value} {l : List Ln} (h : OwnL w base v l) (hb : b2 ≤ base) : OwnL w b2 v l := Blk.low h hb
theorem OwnL.lt {w : World} {base : Nat} {v : Value} {l : List Ln} (h : OwnL w base v l) (k : Nat) (hk : v.ownBlock = some k) : base ≤ k ∧ k < w.heap.size := World.ownsRow.lt h k hk
theorem line_info : (Tryz.prog.info? 207).map (fun i => (i.zero, i.size, i.bytes)) = some (some .nilIface, 1, 16) := by kernel_rfl
theorem line_row : ∃ i : TypeInfo, Tryz.prog.info? 207 = some i ∧ i.zero = some .nilIface ∧ i.size = 1 ∧ i.bytes = 16 := by
  obtain ⟨i, h, h1, h2, h3⟩ := info_parts line_info
  exact ⟨i, h, h1, h2, h3⟩
theorem below_ln {B : Nat} {a w w' : World} {v : Value} {l : List Ln} (h : Below B a w) (hg : w.grownBy w' v.ownBlock) (hB : B ≤ w.heap.size) (ho : OwnL w B v l) : Below B a w' :=
  h.grown hg hB fun k hk => (ho.lt k hk).1
theorem wp_append_ln {w : World} {ops : Array Oper} {rest : List Oper} {o : Oper} {a : Act} {Q : Exit → Act → World → Prop} {s x : Operand} (hgd : o.guard = none)
    (ho : o.op = .call { callee := .builtin .append, args := #[s, x], argTypes := #[167, 167] }) (base : Nat) (v y : Value) (l r : List Ln) (hs : a.eval s = v) (hown : OwnL w base v l)
    (hy : a.eval x = y) (hx : Sv w y r) (hl : l.length + r.length ≤ 1000000000) (hbase : base ≤ w.heap.size)
    (h : ∀ v' w', OwnL w' base v' (l ++ r) → w.grownBy w' v.ownBlock → (v'.ownBlock = v.ownBlock ∨ v'.ownBlock = some w.heap.size) → wpList Tryz.prog ops Q rest (a.put o.dst v') w') :
    wpList Tryz.prog ops Q (o :: rest) a w := by
  obtain ⟨i, hi, hz, h1, h16⟩ := line_row
  refine wpList_append_src hgd ho base 207 i _ 16 Tryz.underlying167 hi hz h1 h16 rfl v l.length (lvs l) hs hown y r.length (lvs r) hy hx.1 (lvs_cells r) (by simp only [maxLen]; omega) (by omega) hbase fun v' w' h2 h3 h4 => ?_
  exact h v' w' (by unfold OwnL; rw [lvs_append, List.length_append]; exact h2) h3 h4
end Row
end
section
open Go.RowKit
namespace Row
theorem eqGrid_same (R C : Int) (l : List Cl) (x y : Value) (w : World) (hx : Cs w x l) (hy : Cs w y l) (hn : l.length ≤ 100000000) :
    Calls Tryz.prog 47 #[.agg #[.int .i64 R, .int .i64 C, x], .agg #[.int .i64 R, .int .i64 C, y]] w fun e w' => e = .returned (.bool true) ∧ Below w.heap.size w w' := by
  have hW := ((Below.refl w.heap.size w).alloc (Nat.le_refl _) (gbox R C x)).alloc (by simp) (gbox R C y)
  have HC : Hid (Calls Tryz.prog 104 #[x, y] ((w.alloc (gbox R C x)).alloc (gbox R C y)) fun e w' => e = .returned (.bool true) ∧ Below w.heap.size w w') :=
    Lib.hid ((eqCells_same l x y _ (hx.kept hW) (hy.kept hW) hn).mono fun e w' ⟨h1, q, h2⟩ => ⟨h1, by subst h2; exact below_drewN hW q⟩)
  obtain ⟨A, c, rfl, _⟩ := hx.form
  obtain ⟨A', c', rfl, _⟩ := hy.form
  clear hx hy hW
  go_enter Tryz.func47, Tryz.ntmps47
  go_wp2_with fail
  refine HC.out.mono ?_; rintro e w1 ⟨rfl, hb⟩
  have HB := Lib.hid hb
  clear hb
  go_wp2_with fail
  go_ret
  exact ⟨rfl, HB.out⟩
end Row
end
end Go.Proofs.YtceaoadlhdgnmaaGreatDoor
