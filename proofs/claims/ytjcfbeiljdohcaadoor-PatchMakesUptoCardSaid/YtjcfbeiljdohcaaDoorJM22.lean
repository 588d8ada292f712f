/- Joined texts: GrdBad, TabRef, TabLib, TabNew, TabSet, ScrNew, GrdFit, GrdRes. -/
import Derived.Test.YtjcfbeiljdohcaaDoorJM21
import Derived.Shelf.Strings.BuilderRune
import Derived.Shelf.Strings.BuilderF
import Derived.Lib.SliceRun
import Derived.Laws.CopyRow
import Derived.Laws.CopyOwn
import Derived.Deep.DeepCutAuto
namespace Go.Proofs.YtjcfbeiljdohcaaDoor
set_option maxRecDepth 100000
section
open Go.RowKit
namespace Row
def MvOk (G : Gr) (top bot n : Int) (a : Look) : Prop := GridOk G ∧ attrOk a = true ∧ (0 ≤ top ∧ top ≤ bot) ∧ bot < G.rows ∧ (0 ≤ n ∧ n ≤ 9999)
theorem gzero {w : World} {b : Nat} (h : w.heap[b]? = some (gbox 0 0 (.slice none 0 0))) : w.cell? ⟨b, 0, none⟩ = some (.int .i64 0) ∧ w.cell? ⟨b, 1, none⟩ = some (.int .i64 0) ∧ w.cell? ⟨b, 2, none⟩ = some (.slice none 0 0) ∧ w.frozen? ⟨b, 0, none⟩ = false ∧ w.frozen? ⟨b, 1, none⟩ = false ∧ w.frozen? ⟨b, 2, none⟩ = false :=
  ⟨Blk.cell h 0, Blk.cell h 1, Blk.cell h 2, Blk.free h 0, Blk.free h 1, Blk.free h 2⟩
set_option maxHeartbeats 4000000 in
theorem new_wide (a : Look) (r c : Int) (w : World) (h : sidesOk r c = false) :
    Calls Tryd.prog 54 #[.int .i64 r, .int .i64 c, .agg #[.int .i64 a.fg, .int .i64 a.bg, .int .i64 a.flags]] w fun e w' => e = .returned (.tuple #[.agg #[.int .i64 0, .int .i64 0, .slice none 0 0], .int .i64 1]) ∧ Below w.heap.size w w' := by
  have HSD := Lib.hid h
  have HW0 : Hid (Below w.heap.size w ((w.alloc (abox a)).alloc (gbox 0 0 (.slice none 0 0)))) := Lib.hid (((Below.refl w.heap.size w).alloc (Nat.le_refl _) (abox a)).alloc (by simp) (gbox 0 0 (.slice none 0 0)))
  have HZ0 : Hid (((w.alloc (abox a)).alloc (gbox 0 0 (.slice none 0 0))).heap[w.heap.size + 1]? = some (gbox 0 0 (.slice none 0 0))) := Lib.hid (new_alloc _ _ _ (by simp))
  clear h
  go_enter Tryd.func54, Tryd.ntmps54
  go_wp2_with fail
  refine (sides_at _ _ _ HSD.out _).mono ?_; rintro e w' ⟨rfl, rfl⟩
  have HZ := HZ0
  have HW := HW0
  generalize (w.alloc (abox a)).alloc (gbox 0 0 (.slice none 0 0)) = w1 at HZ HW HZ0 HW0 ⊢
  obtain ⟨z0, z1, z2, y0, y1, y2⟩ := gzero HZ.out
  have HF := Lib.hid (gput_box HZ.out 0 0 (.slice none 0 0))
  have HB8 : Hid (Below w.heap.size w (gput w1 (w.heap.size + 1) 0 0 (.slice none 0 0))) := Lib.hid (gput_below HW.out (by omega) _ _ _)
  go_wp2_with fail
  show bodyPost _ _ _ _ _ (gput w1 (w.heap.size + 1) 0 0 (.slice none 0 0))
  clear z0 z1 z2 y0 y1 y2
  generalize gput w1 (w.heap.size + 1) 0 0 (.slice none 0 0) = wF at HF HB8 ⊢
  have z0 : wF.cell? ⟨w.heap.size + 1, 0, none⟩ = some (.int .i64 0) := Blk.cell HF.out 0
  have z1 : wF.cell? ⟨w.heap.size + 1, 1, none⟩ = some (.int .i64 0) := Blk.cell HF.out 1
  have z2 : wF.cell? ⟨w.heap.size + 1, 2, none⟩ = some (.slice none 0 0) := Blk.cell HF.out 2
  exact bodyPost_ret (v := .tuple #[.agg #[.int .i64 0, .int .i64 0, .slice none 0 0], .int .i64 1]) (by simp [results, Tryd.results54, go_sem, z0, z1, z2]) rfl ⟨rfl, HB8.out⟩
set_option maxHeartbeats 4000000 in
theorem new_unseen (a : Look) (r c : Int) (w : World) (hd : sidesOk r c = true) (h : attrOk a = false) :
    Calls Tryd.prog 54 #[.int .i64 r, .int .i64 c, .agg #[.int .i64 a.fg, .int .i64 a.bg, .int .i64 a.flags]] w fun e w' => e = .returned (.tuple #[.agg #[.int .i64 0, .int .i64 0, .slice none 0 0], .int .i64 1]) ∧ Below w.heap.size w w' := by
  have HSD := Lib.hid hd
  have HW0 : Hid (Below w.heap.size w ((w.alloc (abox a)).alloc (gbox 0 0 (.slice none 0 0)))) := Lib.hid (((Below.refl w.heap.size w).alloc (Nat.le_refl _) (abox a)).alloc (by simp) (gbox 0 0 (.slice none 0 0)))
  have HZ0 : Hid (((w.alloc (abox a)).alloc (gbox 0 0 (.slice none 0 0))).heap[w.heap.size + 1]? = some (gbox 0 0 (.slice none 0 0))) := Lib.hid (new_alloc _ _ _ (by simp))
  have HPT := Lib.hid (fun w' => paints_at a false h w')
  clear h hd
  go_enter Tryd.func54, Tryd.ntmps54
  go_wp2_with fail
  refine (sides_at _ _ _ HSD.out _).mono ?_; rintro e w' ⟨rfl, rfl⟩
  go_wp2_with fail
  refine (HPT.out _).mono ?_; rintro e w1 ⟨rfl, hb1⟩
  have HZ := Lib.hid (Blk.kept HZ0.out hb1)
  have HW := Lib.hid (HW0.out.trans (hb1.mono HW0.out.size))
  clear hb1
  obtain ⟨z0, z1, z2, y0, y1, y2⟩ := gzero HZ.out
  have HF := Lib.hid (gput_box HZ.out 0 0 (.slice none 0 0))
  have HB8 : Hid (Below w.heap.size w (gput w1 (w.heap.size + 1) 0 0 (.slice none 0 0))) := Lib.hid (gput_below HW.out (by omega) _ _ _)
  go_wp2_with fail
  show bodyPost _ _ _ _ _ (gput w1 (w.heap.size + 1) 0 0 (.slice none 0 0))
  clear z0 z1 z2 y0 y1 y2
  generalize gput w1 (w.heap.size + 1) 0 0 (.slice none 0 0) = wF at HF HB8 ⊢
  have z0 : wF.cell? ⟨w.heap.size + 1, 0, none⟩ = some (.int .i64 0) := Blk.cell HF.out 0
  have z1 : wF.cell? ⟨w.heap.size + 1, 1, none⟩ = some (.int .i64 0) := Blk.cell HF.out 1
  have z2 : wF.cell? ⟨w.heap.size + 1, 2, none⟩ = some (.slice none 0 0) := Blk.cell HF.out 2
  exact bodyPost_ret (v := .tuple #[.agg #[.int .i64 0, .int .i64 0, .slice none 0 0], .int .i64 1]) (by simp [results, Tryd.results54, go_sem, z0, z1, z2]) rfl ⟨rfl, HB8.out⟩
end Row
end
section
open Go.RowKit
namespace Tab
theorem nextOf_step {l : List Bool} {a n : Nat} (h : a + 1 < l.length) : nextOf l a (n + 1) = nextOf l (a + 1) (if l.getD (a + 1) false then n else n + 1) := by
  unfold nextOf
  rw [drop_bool h]
  simp only [far]
  omega
theorem grownOf_get {l : List Bool} {n k : Nat} (h : l.length ≤ k) (hk : k < n) : (grownOf l n).getD k false = stopAt k := by
  unfold grownOf
  rw [List.take_of_length_le (by omega), List.getD_eq_getElem?_getD, List.getElem?_append_right h, List.getElem?_map, List.getElem?_range' (by omega)]
  simp only [Option.map_some, Option.getD_some]
  congr 1
  omega
theorem grownOf_take (l : List Bool) (n k : Nat) (h : k ≤ l.length) (hn : k ≤ n) : (grownOf l n).take k = l.take k := by
  unfold grownOf
  rw [List.take_append_of_le_length (by rw [List.length_take]; omega), List.take_take, Nat.min_eq_left hn]
def lenOf : Value → Nat
  | .slice _ n _ => n
  | _ => 0
theorem OwnB.lenOf_ {w : World} {base : Nat} {x : Value} {l : List Bool} (h : OwnB w base x l) : lenOf x = l.length := by
  obtain ⟨A, c, rfl⟩ := h.bl.shape; rfl
end Tab
end
section
open Go.RowKit
namespace Tab
theorem rune_byte (t : Bool) : Lib.runeCells (if t then 124 else 46) = Lib.byteCells [mark t] := by cases t <;> rfl
@[go_sem] theorem eql_nil (w : World) (a : Option Addr) (n c n' c' : Nat) : (binOp .eql 92 (.slice a n c) (.slice none n' c')).run Tryd.prog w = .ok (.bool a.isNone) w := Lib.run_eql_slice_nil w _ _ a n c n' c' Tryd.underlying92
end Tab
end
section
open Go.RowKit
namespace Tab
def Whole (w : World) (b : Nat) (l : List Bool) : Prop := w.heap[b]? = some (.cells (bools l).toArray 4 (0, 0))
theorem Whole.own {w : World} {b : Nat} {l : List Bool} (h : Whole w b l) {base : Nat} (hb : base ≤ b) (hl : l.length ≤ 1000000) : OwnB w base (.slice (some ⟨b, 0, none⟩) l.length l.length) l := by
  refine ⟨by rw [bools_length, Nat.mul_one], .inr ⟨b, l.length, _, rfl, hb, h, Nat.le_refl _, by simp only [maxLen]; omega, ?_, ?_⟩⟩
  · simp [bools_length]
  · rw [Nat.mul_one, ← bools_length l]; simp
theorem Whole.of {w : World} {base b : Nat} {l : List Bool} (h : w.ownsRow base 4 1 (.slice (some ⟨b, 0, none⟩) l.length l.length) l.length (bools l)) : Whole w b l := by
  rcases h.2 with ⟨e, _⟩ | ⟨b', cap, cur, e, _, hg, _, _, hs, ht⟩
  · injection e with e; cases e
  · injection e with e1 e2 e3
    injection e1 with e1
    injection e1 with e1
    subst e1
    subst e3
    unfold Whole
    rw [hg]
    have : cur.toList = bools l := by
      rw [← ht, List.take_of_length_le (by rw [Array.length_toList, hs]; exact Nat.le_refl _)]
    rw [← this]
theorem made_false (n : Nat) : (madeCells (Value.bool false).cells (n * 1)).toList = bools (List.replicate n false) := by
  apply List.ext_getElem?
  intro j
  simp only [madeCells, Value.cells, Nat.mul_one]
  rw [Array.getElem?_toList, Array.getElem?_map]
  unfold bools
  rw [List.getElem?_map]
  by_cases hj : j < n
  · simp [hj, Nat.mod_one]
  · simp [hj]
theorem run_copy_bools {w : World} {ty : TypeId} {b n : Nat} {x : Value} {l : List Bool} (h : Whole w b (List.replicate n false)) (hx : Bl w x l) (hl : l.length ≤ n) :
    ∃ w', (Builtin.copy_ #[92, 92] ty #[.slice (some ⟨b, 0, none⟩) n n, x]).run Tryd.prog w = .ok (goInt l.length) w' ∧ Whole w' b (l ++ List.replicate (n - l.length) false) ∧ ∀ B w0, Below B w0 w → B ≤ b → Below B w0 w' := by
  obtain ⟨i, hi, hz, h1, h8⟩ := Tryd.bool_row
  rcases hx.src.2 with ⟨rfl, h0⟩ | ⟨ad, c, rfl, hc⟩
  · have hl0 : l = [] := List.eq_nil_of_length_eq_zero h0
    subst hl0
    exact ⟨w, run_copy_nil Tryd.prog w 92 92 ty 4 _ n n Tryd.underlying92 (by rw [hi]; rfl), by simpa using h, fun _ _ hb _ => hb⟩
  · have hrun := run_copy_row (P := Tryd.prog) w 92 92 ty 4 b 0 n n ad l.length c _ _ (bools l) Tryd.underlying92 (by rw [hi]; simp [h1]) h
      (by rw [bools_length]; exact (Nat.min_eq_left hl).symm) hc (by simp [bools_length]; exact hl) (bools_cells l)
    rw [bools_length] at hrun
    refine ⟨_, hrun, ?_, fun B w0 hb hB => below_setRow hb hB _⟩
    have hrow := setRow_heap w b _ ((bools (List.replicate n false)).toArray.toList.take 0 ++ bools l ++ (bools (List.replicate n false)).toArray.toList.drop (0 + l.length)).toArray _ _ h
    unfold Whole
    rw [hrow, List.take_zero, List.nil_append, Nat.zero_add, bools_drop, List.drop_replicate, bools_append]
theorem wp_copy_bools {w : World} {ops : Array Oper} {rest : List Oper} {o : Oper} {a : Act} {Q : Exit → Act → World → Prop} {d s : Operand} (hgd : o.guard = none)
    (ho : o.op = .call { callee := .builtin .copy, args := #[d, s], argTypes := #[92, 92] }) (b n : Nat) (x : Value) (l : List Bool)
    (hd : a.eval d = .slice (some ⟨b, 0, none⟩) n n) (hs : a.eval s = x) (h : Whole w b (List.replicate n false)) (hx : Bl w x l) (hl : l.length ≤ n)
    (hK : ∀ w', Whole w' b (l ++ List.replicate (n - l.length) false) → (∀ B w0, Below B w0 w → B ≤ b → Below B w0 w') → wpList Tryd.prog ops Q rest (a.put o.dst (goInt l.length)) w') : wpList Tryd.prog ops Q (o :: rest) a w := by
  refine wpList_plain hgd fun K hK' => ?_
  obtain ⟨w', hrun, h1, h2⟩ := run_copy_bools (ty := o.type) h hx hl
  unfold Oper.wp execOp
  simp only [ho, resolve, invoke, builtin, Sem.run_bind, Sem.run_pure, Result.andThen_ok, List.map_toArray, List.map_cons, List.map_nil, hs, hd, hrun]
  exact hK' _ _ (hK w' h1 h2)
def laidTo (l : List Bool) (n k : Nat) : List Bool := (grownOf l n).take k ++ List.replicate (n - k) false
theorem laidTo_length (l : List Bool) {n k : Nat} (h : k ≤ n) : (laidTo l n k).length = n := by
  unfold laidTo
  rw [List.length_append, List.length_take, grownOf_length, List.length_replicate]; omega
theorem laidTo_set (l : List Bool) {n k : Nat} (h : k < n) (hl : l.length ≤ k) : (laidTo l n k).set k (stopAt k) = laidTo l n (k + 1) := by
  unfold laidTo
  have hk : ((grownOf l n).take k).length = k := by rw [List.length_take, grownOf_length]; omega
  rw [take_succ_bool (l := grownOf l n) (k := k) (by rw [grownOf_length]; exact h), grownOf_get hl h, List.set_append_right _ _ (by omega), hk, Nat.sub_self, show n - k = (n - (k + 1)) + 1 from by omega, List.replicate_succ, List.set_cons_zero, List.append_assoc]
  rfl
theorem laidTo_start (l : List Bool) {n : Nat} (h : l.length ≤ n) : laidTo l n l.length = l ++ List.replicate (n - l.length) false := by
  unfold laidTo
  rw [grownOf_take l n l.length (Nat.le_refl _) h, List.take_length]
theorem laidTo_full (l : List Bool) (n : Nat) : laidTo l n n = grownOf l n := by
  unfold laidTo
  rw [List.take_of_length_le (by rw [grownOf_length]; exact Nat.le_refl _)]; simp
theorem Whole.set {w : World} {b : Nat} {l : List Bool} (h : Whole w b l) (k : Nat) (t : Bool) : Whole (w.setCell ⟨b, k, none⟩ (.bool t)) b (l.set k t) := by
  have := Blk.set h k (.bool t)
  unfold Whole
  rw [this]
  congr 2
  simp [bools, List.map_set]
theorem stop_rem (k : Nat) : (((k : Int) % 8) == 0) = decide (k % 8 = 0) := by rw [Bool.eq_iff_iff, beq_iff_eq, decide_eq_true_eq]; omega
set_option maxHeartbeats 1600000 in
theorem grown_any (l : List Bool) (n : Nat) (x : Value) (w : World) (hx : Bl w x l) (hl : l.length ≤ n) (hn : n ≤ 1000000) :
    Calls Tryd.prog 69 #[x, .int .i64 n] w fun e w' => ∃ v, e = .returned v ∧ OwnB w' w.heap.size v (grownOf l n) ∧ Below w.heap.size w w' := by
  obtain ⟨i, hi, hz, h1, h8⟩ := Tryd.bool_row
  have HX := Lib.hid hx
  have HL := Lib.hid hl
  have HST := Lib.hid (laidTo_start l hl)
  have HSET := Lib.hid (fun k (h : k < n) (hk : l.length ≤ k) => laidTo_set l h hk)
  have HLEN := Lib.hid (fun k (h : k ≤ n) => laidTo_length l h)
  have HFU := Lib.hid (laidTo_full l n)
  clear hx hl
  go_enter Tryd.func69, Tryd.ntmps69
  go_wp2_with (first
    | (at_make; refine wpList_make_full _ rfl _ _ _ rfl w.heap.size 4 i _ 1 Tryd.underlying92 hi hz h1 .i64 .i64 _ _ n rfl rfl (by go_num) (by go_num) (by rw [h8]; omega) (by simp only [maxLen]; omega) (Nat.le_refl _) ?_; intro w1 ho1 hg1; rw [made_false] at ho1; have HW1 := Lib.hid (Whole.of (l := List.replicate n false) (by rw [List.length_replicate]; exact ho1)); have HB1 : Hid (Below w.heap.size w w1) := Lib.hid ((Below.refl _ w).grown hg1 (Nat.le_refl _) (fun k hk => by cases hk)); clear ho1)
    | (with_reducible refine wp_copy_bools (o := ⟨some 11, _, _, _, _, _⟩) rfl rfl w.heap.size n x l rfl rfl HW1.out (HX.out.kept HB1.out) HL.out ?_; intro w2 hw2 hb2; have HW2 := Lib.hid hw2; have HB2 := Lib.hid (hb2 _ _ HB1.out (Nat.le_refl _)); clear hw2 hb2))
  rw [← HST.out] at HW2
  go_loopw [6] (fun j wr => ∃ k : Nat, l.length ≤ k ∧ k ≤ n ∧ j = .int .i64 k ∧ Hid (Whole wr w.heap.size (laidTo l n k)) ∧ Below w.heap.size w wr) (fun j _ => n - (intOf j).toNat)
  case atStart => exact ⟨l.length, Nat.le_refl _, HL.out, rfl, HW2, HB2.out⟩
  case round =>
    obtain ⟨k, hlk, hk, rfl, HW, hb⟩ := hrel
    by_cases hlt : k < n
    · have hfz := Blk.free HW.out k
      have hcl : wr.cell? ⟨w.heap.size, k, none⟩ = some (.bool ((laidTo l n k).getD k false)) := by
        rw [Blk.cell HW.out k, List.getElem?_toArray, bools_get (by rw [HLEN.out k hk]; exact hlt)]
      have HW3 := Lib.hid (HW.out.set k (stopAt k))
      rw [HSET.out k hlt hlk] at HW3
      have HB3 := Lib.hid (hb.setCell (p := ⟨w.heap.size, k, none⟩) (Nat.le_refl _) (.bool (stopAt k)))
      generalize (laidTo l n k).getD k false = old at hcl
      by_cases h0 : 0 < k
      · have hs : stopAt k = decide (k % 8 = 0) := by unfold stopAt; rw [decide_eq_true h0]; rfl
        have hr := stop_rem k
        rw [hs] at HW3 HB3
        clear hs
        generalize decide (k % 8 = 0) = st at hr HW3 HB3
        go_wp2_with fail
        go_roundw
        case rel => exact ⟨k + 1, by omega, by omega, by go_num, HW3, HB3.out⟩
        case measure => simp [intOf]; omega
      · have hs : stopAt k = false := by unfold stopAt; rw [decide_eq_false h0]; rfl
        rw [hs] at HW3 HB3
        clear hs
        go_wp2_with fail
        go_roundw
        case rel => exact ⟨k + 1, by omega, by omega, by go_num, HW3, HB3.out⟩
        case measure => simp [intOf]; omega
    · have hkn : k = n := by omega
      subst hkn
      have HO : Hid (OwnB wr w.heap.size (.slice (some ⟨w.heap.size, 0, none⟩) k k) (grownOf l k)) := Lib.hid (by
        have h := HW.out
        rw [HFU.out] at h
        have := h.own (Nat.le_refl w.heap.size) (by rw [grownOf_length]; exact hn)
        rwa [grownOf_length] at this)
      go_wp2_with fail
      go_ret
      exact ⟨_, rfl, HO.out, hb⟩
end Tab
end
section
open Go.RowKit
namespace Tab
def anewOf (n : Int) : List Bool := if rng n 1 40 then grownOf [] n.toNat else []
set_option maxHeartbeats 800000 in
theorem new_any (n : Int) (w : World) :
    Calls Tryd.prog 56 #[.int .i64 n] w fun e w' => ∃ v, e = .returned (.tuple #[v, .int .i64 (codeOf (rng n 1 40))]) ∧ OwnB w' w.heap.size v (anewOf n) ∧ Below w.heap.size w w' := by
  have HC := Lib.hid (columns_any n w)
  by_cases h : rng n 1 40 = true
  · have hr := rng_yes.1 h
    obtain ⟨n, rfl⟩ := Int.eq_ofNat_of_zero_le (show 0 ≤ n by omega)
    have HA : Hid (anewOf n = grownOf [] n) := Lib.hid (by unfold anewOf; rw [h]; rfl)
    have HG := Lib.hid (grown_any [] n (.slice none 0 0) w (Bl.nil w) (Nat.zero_le _) (by omega))
    rw [h] at HC ⊢
    rw [HA.out]
    clear h hr HA
    go_enter Tryd.func56, Tryd.ntmps56
    go_wp2_with fail
    refine HC.out.mono ?_; rintro e w' ⟨rfl, rfl⟩
    go_wp2_with fail
    refine HG.out.mono ?_; rintro e w1 ⟨v, rfl, ho, hb⟩
    go_wp2_with fail
    go_ret2
    exact ⟨v, rfl, ho, hb⟩
  · have h : rng n 1 40 = false := by simpa using h
    have HA : Hid (anewOf n = []) := Lib.hid (by unfold anewOf; rw [h]; rfl)
    rw [h] at HC ⊢
    rw [HA.out]
    clear h HA
    go_enter Tryd.func56, Tryd.ntmps56
    go_wp2_with fail
    refine HC.out.mono ?_; rintro e w' ⟨rfl, rfl⟩
    go_wp2_with fail
    go_ret2
    exact ⟨_, rfl, OwnB.nil _ _, Below.refl _ _⟩
theorem grownOf_cut (l : List Bool) (n : Nat) : grownOf (l.take (min n l.length)) n = grownOf l n := by
  unfold grownOf
  rw [List.take_take, List.length_take, Nat.min_assoc, Nat.min_self]
  rcases Nat.le_total n l.length with h | h
  · rw [Nat.min_eq_left h, Nat.min_self, Nat.sub_self, show n - l.length = 0 from by omega]; rfl
  · rw [Nat.min_eq_right h, Nat.min_eq_right h, List.take_of_length_le (Nat.le_refl _), List.take_of_length_le h]
def cutOk (l : List Bool) (n : Int) : Bool := okB l && rng n 1 40
def cutOf (l : List Bool) (n : Int) : List Bool := if cutOk l n then grownOf l n.toNat else []
def setOk (l : List Bool) (a : Int) : Bool := okB l && rng a 0 (l.length - 1)
def setOf (l : List Bool) (a : Int) (t : Bool) : List Bool := if setOk l a then l.set a.toNat t else []
theorem setOf_same {l : List Bool} {a : Int} (h : setOk l a = true) (t : Bool) : (setOf l a t).length = l.length := by unfold setOf; rw [if_pos h, List.length_set]
end Tab
end
section
open Go.RowKit
namespace Scr
open Go.Proofs.YtjcfbeiljdohcaaDoor.Row
theorem anew_is {c : Nat} (h1 : 1 ≤ c) (h2 : c ≤ 40) : Tab.anewOf (c : Int) = Tab.grownOf [] c ∧ Tab.codeOf (Tab.rng (c : Int) 1 40) = 0 := by
  have h : Tab.rng (c : Int) 1 40 = true := Tab.rng_yes.2 ⟨by omega, by omega⟩
  unfold Tab.anewOf
  rw [h]
  exact ⟨rfl, rfl⟩
theorem bel_alloc' (w : World) (o : Obj) : Below w.heap.size w (w.alloc o) := (Below.refl _ _).alloc (Nat.le_refl _) _
theorem bel0 (w : World) : Below w.heap.size w (w.alloc (.cells zarr 94)) := (Below.refl _ _).alloc (Nat.le_refl _) _
structure Nw (w0 w : World) : Prop where
  bel : Below w0.heap.size w0 w
  box : w.heap[w0.heap.size]? = some (.cells zarr 94 (0, 0))
theorem Nw.kept {w0 w w' : World} (h : Nw w0 w) (hb : Below w.heap.size w w') : Nw w0 w' := ⟨h.bel.trans (hb.mono h.bel.size), Blk.kept h.box hb⟩
theorem Nw.up {w0 w : World} (h : Nw w0 w) : w0.heap.size + 1 ≤ w.heap.size := Blk.lt h.box
theorem Nw.start (w : World) : Nw w (w.alloc (.cells zarr 94)) := ⟨bel0 w, heap_alloc_new _ _⟩
structure NwM (w0 : World) (r c : Nat) (b : Nat) (X : Value) (w : World) : Prop where
  n : Nw w0 w
  bx : w.heap[b]? = some (gbox r c X)
  m : OwnCs w (w0.heap.size + 1) X (news r c plain).flatten
theorem NwM.kept {w0 w w' : World} {r c b : Nat} {X : Value} (h : NwM w0 r c b X w) (hb : Below w.heap.size w w') : NwM w0 r c b X w' := ⟨h.n.kept hb, Blk.kept h.bx hb, h.m.kept hb⟩
theorem NwM.make {w0 w : World} (h : Nw w0 w) (r c : Nat) {X : Value} (hm : OwnCs w (w0.heap.size + 1) X (news r c plain).flatten) : NwM w0 r c w.heap.size X (w.alloc (gbox r c X)) :=
  ⟨h.kept (bel_alloc' w _), heap_alloc_new _ _, hm.kept (bel_alloc' w _)⟩
structure NwO (w0 : World) (r c : Nat) (b b' : Nat) (X Y : Value) (w : World) : Prop where
  n : NwM w0 r c b X w
  bx : w.heap[b']? = some (gbox r c Y)
  m : OwnCs w (w0.heap.size + 1) Y (news r c plain).flatten
theorem NwO.kept {w0 w w' : World} {r c b b' : Nat} {X Y : Value} (h : NwO w0 r c b b' X Y w) (hb : Below w.heap.size w w') : NwO w0 r c b b' X Y w' := ⟨h.n.kept hb, Blk.kept h.bx hb, h.m.kept hb⟩
theorem NwO.make {w0 w : World} {r c b : Nat} {X : Value} (h : NwM w0 r c b X w) {Y : Value} (hm : OwnCs w (w0.heap.size + 1) Y (news r c plain).flatten) : NwO w0 r c b w.heap.size X Y (w.alloc (gbox r c Y)) :=
  ⟨h.kept (bel_alloc' w _), heap_alloc_new _ _, hm.kept (bel_alloc' w _)⟩
structure NwT (w0 : World) (r c : Nat) (b b' : Nat) (X Y Z : Value) (w : World) : Prop where
  n : NwO w0 r c b b' X Y w
  m : Tab.OwnB w (w0.heap.size + 1) Z (Tab.grownOf [] c)
theorem NwT.kept {w0 w w' : World} {r c b b' : Nat} {X Y Z : Value} (h : NwT w0 r c b b' X Y Z w) (hb : Below w.heap.size w w') : NwT w0 r c b b' X Y Z w' := ⟨h.n.kept hb, h.m.kept hb⟩
set_option maxHeartbeats 6400000 in
theorem new_any (r c : Nat) (w : World) (h1 : 1 ≤ r) (h2 : r ≤ 40) (h3 : 1 ≤ c) (h4 : c ≤ 40) :
    Calls Tryd.prog 44 #[.int .i64 r, .int .i64 c] w fun e w' => ∃ x y z, e = .returned (.tuple #[sv (newS r c) x y z, .int .i64 0]) ∧ Own w' w.heap.size (newS r c) x y z ∧ Below w.heap.size w w' := by
  have HG := Lib.hid (fun W => new_fits r c plain W plain_ok h1 h2 h3 h4)
  have HT := Lib.hid (fun W => Tab.new_any (c : Int) W)
  rw [(anew_is h3 h4).1, (anew_is h3 h4).2] at HT
  have hw : IntKind.i64.wrap ((r : Int) - 1) = (r : Int) - 1 := by rw [IntKind.wrap_i64]; omega
  have H0 := Lib.hid (Nw.start w)
  clear h1 h2 h3 h4
  go_enter Tryd.func44, Tryd.ntmps44
  go_wp2_with (refine wp_allocS (n := w.heap.size) rfl rfl rfl ?_)
  refine (plain_any _).mono ?_; rintro e w1 ⟨rfl, hb⟩
  have H1 := Lib.hid (H0.out.kept hb)
  clear hb H0
  go_wp2_with fail
  refine (HG.out _).mono ?_; rintro e w2 ⟨x, rfl, ho, hb⟩
  obtain ⟨Ax, cx, rfl, _⟩ := ho.rm.2
  have H2 := Lib.hid (H1.out.kept hb)
  have HX := Lib.hid (ho.low H1.out.up)
  clear hb ho H1
  generalize hn : (news r c plain).flatten.length = n
  rw [hn] at HX
  have HN := Lib.hid hn
  clear hn
  go_wp2_with fail
  have H3 := Lib.hid (NwM.make H2.out r c HX.out)
  clear HX H2
  refine (plain_any _).mono ?_; rintro e w3 ⟨rfl, hb⟩
  have H4 := Lib.hid (H3.out.kept hb)
  clear hb H3
  generalize w2.heap.size = b at H4 ⊢
  clear w2
  go_wp2_with fail
  refine (HG.out _).mono ?_; rintro e w4 ⟨y, rfl, ho, hb⟩
  obtain ⟨Ay, cy, rfl, _⟩ := ho.rm.2
  rw [HN.out] at *
  have H5 := Lib.hid (NwO.make (H4.out.kept hb) (ho.low H4.out.n.up))
  clear hb ho H4
  go_wp2_with fail
  refine (HT.out _).mono ?_; rintro e w5 ⟨z, rfl, ho, hb⟩
  obtain ⟨Az, cz, rfl, _⟩ := ho.bl.room
  have H6 : Hid (NwT w r c b w4.heap.size (.slice Ax n cx) (.slice Ay n cy) (.slice Az (Tab.grownOf [] c).length cz) w5) := Lib.hid ⟨H5.out.kept hb, ho.low H5.out.n.n.up⟩
  clear hb ho H5
  generalize w4.heap.size = b' at H6 ⊢
  clear w4
  go_wp2_with fail
  refine (plain_any _).mono ?_; rintro e w6 ⟨rfl, hb⟩
  have H7 := Lib.hid (H6.out.kept hb)
  clear hb H6
  have x0 : w6.cell? ⟨b, 0, none⟩ = some (.int .i64 r) := Blk.cell H7.out.n.n.bx 0
  have x1 : w6.cell? ⟨b, 1, none⟩ = some (.int .i64 c) := Blk.cell H7.out.n.n.bx 1
  have x2 : w6.cell? ⟨b, 2, none⟩ = some (.slice Ax n cx) := Blk.cell H7.out.n.n.bx 2
  have y0 : w6.cell? ⟨b', 0, none⟩ = some (.int .i64 r) := Blk.cell H7.out.n.bx 0
  have y1 : w6.cell? ⟨b', 1, none⟩ = some (.int .i64 c) := Blk.cell H7.out.n.bx 1
  have y2 : w6.cell? ⟨b', 2, none⟩ = some (.slice Ay n cy) := Blk.cell H7.out.n.bx 2
  have lb : b < w6.heap.size := Blk.lt H7.out.n.n.bx
  have lb' : b' < w6.heap.size := Blk.lt H7.out.n.bx
  have HZ := Lib.hid (old_alloc H7.out.n.n.n.box)
  generalize (Tab.grownOf [] c).length = m at H7 ⊢
  go_wp2_with (refine wp_storeS (b := w.heap.size) (A := sarr (newS r c) (.slice Ax n cx) (.slice Ay n cy) (.slice Az m cz)) rfl rfl rfl rfl rfl (sarr_one rfl rfl rfl) (HZ.out _) rfl ?_; intro w7 h7)
  refine bodyPost_ret (ret2S (s := newS r c) rfl rfl h7.box rfl) rfl ?_
  have H8 := H7.out.kept (bel_alloc' w6 (.cells #[.int .i64 0, .int .i64 0, .bool false, .int .i64 (-1), .int .i64 (-1), .int .i64 0, .int .i64 0, .int .i64 0, .int .i64 0, .bool false] 91))
  exact ⟨_, _, _, rfl, Own.low ⟨h7.cs H8.n.n.m (by omega), h7.cs H8.n.m (by omega), h7.bs H8.m (by omega)⟩ (by omega), h7.below _ _ (Nat.le_refl _) H8.n.n.n.bel⟩
end Scr
end
section
open Go.RowKit
namespace Row
theorem cutL_end {l : List Cl} {p : Nat} (h : l.length ≤ p) : cutL l p = l := by unfold cutL; rw [if_neg (by omega)]
theorem fit_same {l : List Cl} (a : Look) : fitRow l l.length a = l := by
  unfold fitRow; rw [if_neg (Nat.lt_irrefl _), Nat.sub_self]; simp
theorem fit_long {l : List Cl} {n : Nat} (h : l.length < n) (a : Look) : fitRow l n a = l ++ List.replicate (n - l.length) (blank a) := by
  unfold fitRow; rw [if_neg (by omega)]
theorem fit_cut {l : List Cl} (hg : Good l) {n : Nat} (h1 : 1 ≤ n) (h : n ≤ l.length) (a : Look) : (repl l n l.length (List.replicate (l.length - n) (blank a))).take n = fitRow l n a := by
  rcases Nat.lt_or_ge n l.length with hn | hn
  · have hr : repl l n l.length (List.replicate (l.length - n) (blank a)) = mid l n l.length (List.replicate (l.length - n) (blank a)) := by
      unfold repl; rw [if_neg (by omega)]
    rw [hr]
    unfold mid
    rw [cutL_end (l := cutL l n) (by rw [cutL_length]; exact Nat.le_refl _)]
    have ht : ((cutL l n).take n).length = n := by rw [List.length_take, cutL_length]; omega
    rw [List.take_left' ht]
    unfold fitRow
    rw [if_pos hn, Nat.sub_eq_zero_of_le (by omega), List.replicate_zero, List.append_nil]
    have hlen : (l.take n).length = n := by rw [List.length_take]; omega
    have hlast : g (l.take n) (n - 1) = g l (n - 1) := g_take (by omega)
    refine ext_g (by rw [ht, mendEnd_length, hlen]) fun i hi => ?_
    rw [ht] at hi
    rw [g_take hi, cutL_g]
    unfold mendEnd
    rw [hlen, hlast]
    have hwide : (g l n).wide = 2 ↔ (g l (n - 1)).wide = 1 := by
      constructor
      · intro hw
        obtain ⟨_, h2, _⟩ := good_ahead hg hn (kind_of_wide2 (okAt_kind (hg n hn)) hw)
        exact kind_2 h2
      · intro hw
        have hk := kind_of_wide1 (okAt_kind (hg (n - 1) (by omega))) hw
        rcases hg (n - 1) (by omega) with e | ⟨_, _, e⟩ | ⟨e, _⟩
        · omega
        · rw [show n - 1 + 1 = n from by omega] at e; rw [e]; rfl
        · omega
    by_cases hw : (g l n).wide = 2
    · rw [if_pos (c := _ ∧ _) ⟨by intro e; rw [e] at hlen; simp at hlen; omega, hwide.1 hw⟩]
      by_cases e : i = n - 1
      · subst e
        rw [if_pos ⟨by omega, hn, hw, .inr rfl⟩, g_set_same (by omega)]
      · rw [if_neg (by omega), g_set_ne (by omega), g_take hi]
    · rw [if_neg (fun h => hw h.2.2.1), if_neg (fun h => hw (hwide.2 h.2)), g_take hi]
  · have e : n = l.length := by omega
    subst e
    rw [fit_same, Nat.sub_self]
    unfold repl
    rw [if_pos ⟨rfl, rfl⟩, List.take_of_length_le (Nat.le_refl _)]
theorem two_of {w : World} {a b : Value} {p q : List Cl} (h1 : Cs w a p) (h2 : Cs w b q) : ∀ k, k < [p, q].length → Cs w ([a, b].getD k undef) ([p, q].getD k []) := by
  intro k hk
  have hk : k < 2 := hk
  rcases (by omega : k = 0 ∨ k = 1) with rfl | rfl
  · exact h1
  · exact h2
def Off (g : Nat) (v : Value) : Prop := ∀ ad n c, v = .slice (some ad) n c → ad.block ≠ g
theorem OwnCs.off {w : World} {base g : Nat} {v : Value} {l : List Cl} (h : OwnCs w base v l) (hg : g < base) : Off g v := by
  rcases h.shape with ⟨rfl, _⟩ | ⟨b, cap, rfl, hb, _⟩
  · intro ad n c e; cases e
  · intro ad n c e
    injection e with e1 _ _
    injection e1 with e1
    rw [← e1]
    show b ≠ g
    omega
theorem off_same {g : Nat} {A : Option Addr} {n c : Nat} (h : Off g (.slice A n c)) (n' c' : Nat) : Off g (.slice A n' c') := by
  intro ad n2 c2 e
  injection e with e1 _ _
  subst e1
  exact h ad n c rfl
end Row
end
section
open Go.RowKit
namespace Row
theorem Boxes.set {w w2 : World} {r c : Int} {x : Value} {a : Look} (h : Boxes w w2 r c x a) {b : Nat} (hb : w.heap.size + 2 ≤ b) (j : Nat) (u : Value) : Boxes w (w2.setCell ⟨b, j, none⟩ u) r c x a :=
  ⟨Blk.other h.g (by omega) _ _, Blk.other h.a (by omega) _ _, h.below.setCell (p := ⟨b, j, none⟩) (by show w.heap.size ≤ b; omega) _⟩
theorem Boxes3.set {w w2 : World} {r c : Int} {x : Value} {a : Look} (h : Boxes3 w w2 r c x a) {b : Nat} (hb : w.heap.size + 3 ≤ b) (j : Nat) (u : Value) : Boxes3 w (w2.setCell ⟨b, j, none⟩ u) r c x a :=
  ⟨h.two.set (by omega) _ _, Blk.other h.z (by omega) _ _⟩
theorem Boxes3.grown {w w2 w3 : World} {r c : Int} {x : Value} {a : Look} (h : Boxes3 w w2 r c x a) {row : Option Nat} (hg : w2.grownBy w3 row) (hr : ∀ k, row = some k → w.heap.size + 3 ≤ k) : Boxes3 w w3 r c x a :=
  ⟨⟨box_grown h.two.g hg (fun e => by have := hr _ e.symm; omega), box_grown h.two.a hg (fun e => by have := hr _ e.symm; omega), h.two.below.grown hg h.base (fun k e => by have := hr k e; omega)⟩, box_grown h.z hg (fun e => by have := hr _ e.symm; omega)⟩
theorem OwnL.n {w : World} {base b n cap : Nat} {l : List Ln} (h : OwnL w base (.slice (some ⟨b, 0, none⟩) n cap) l) : n = l.length := by
  rcases h.2 with ⟨e, _⟩ | ⟨_, _, _, e, _⟩
  · injection e with e; cases e
  · injection e
theorem OwnL.shape {w : World} {base : Nat} {v : Value} {l : List Ln} (h : OwnL w base v l) (h0 : 0 < l.length) : ∃ g cap, v = .slice (some ⟨g, 0, none⟩) l.length cap ∧ base ≤ g ∧ l.length ≤ cap := by
  rcases h.2 with ⟨rfl, h1⟩ | ⟨g, cap, cur, rfl, hb, hg, hc, _⟩
  · omega
  · exact ⟨g, cap, rfl, hb, hc⟩
theorem OwnL.take {w : World} {base b n cap : Nat} {l : List Ln} (h : OwnL w base (.slice (some ⟨b, 0, none⟩) n cap) l) (k : Nat) (hk : k ≤ l.length) : OwnL w base (.slice (some ⟨b, 0, none⟩) k cap) (l.take k) := by
  have hn : n = l.length := h.n
  have hl : (l.take k).length = k := by rw [List.length_take]; omega
  refine ⟨by rw [lvs_length, hl, Nat.mul_one], ?_⟩
  rcases h.2 with ⟨e, _⟩ | ⟨g', cap', cur, e, h1, h2, h3, h4, h5, h6⟩
  · injection e with e; cases e
  · injection e with e1 e2 e3
    injection e1 with e1
    injection e1 with e1
    subst e1; subst e3
    refine .inr ⟨b, cap, cur, by rw [hl], h1, h2, by omega, h4, h5, ?_⟩
    rw [hl, lvs_take, ← h6, Nat.mul_one, Nat.mul_one, List.take_take, Nat.min_eq_left (by omega)]
theorem OwnL.cell {w : World} {base b n cap : Nat} {l : List Ln} (h : OwnL w base (.slice (some ⟨b, 0, none⟩) n cap) l) {k : Nat} (hk : k < l.length) : w.cell? ⟨b, k, none⟩ = some (lv (l.getD k default)) := by
  have hn : n = l.length := h.n
  subst hn
  rw [World.ownsRow.cellAt h k (by omega), lvs_get hk]
theorem OwnL.free {w : World} {base b n cap : Nat} {l : List Ln} (h : OwnL w base (.slice (some ⟨b, 0, none⟩) n cap) l) (j : Nat) : w.frozen? ⟨b, j, none⟩ = false := by
  have hn : n = l.length := h.n
  subst hn
  exact World.ownsRow.frozenAt h j
theorem OwnL.put {w : World} {base b n cap : Nat} {l : List Ln} (h : OwnL w base (.slice (some ⟨b, 0, none⟩) n cap) l) (k : Nat) (x : Ln) : OwnL (w.setCell ⟨b, k, none⟩ (lv x)) base (.slice (some ⟨b, 0, none⟩) n cap) (l.set k x) := by
  have hn : n = l.length := h.n
  subst hn
  have s := (World.ownsRow.stored h k (lv x)).1
  unfold OwnL
  rw [List.length_set]
  have e : lvs (l.set k x) = (lvs l).set k (lv x) := by unfold lvs; rw [List.map_set]
  rw [e]; exact s
theorem getD_set_same {l : List Ln} {k : Nat} (h : k < l.length) (x : Ln) : (l.set k x).getD k default = x := by simp [h]
theorem getD_set_ne {l : List Ln} {j k : Nat} (h : k ≠ j) (x : Ln) : (l.set k x).getD j default = l.getD j default := by simp [List.getElem?_set_ne h]
theorem lnsOk_of {w : World} {c : Nat} {l : List Ln} (h : ∀ j, j < l.length → LnOk w c (l.getD j default)) : LnsOk w c l := by
  intro x hx
  obtain ⟨i, hi, rfl⟩ := List.getElem_of_mem hx
  have := h i hi
  simpa [hi] using this
theorem rowOf_rowsOfL {c i : Nat} {l : List Ln} (h : i < l.length) : rowOf (rowsOfL c l) i = lrow c (l.getD i default) := by
  simp [rowOf, rowsOfL, h]
theorem fit_lns {rs : List (List Cl)} {r c m : Nat} {a : Look} {xs : List Ln} (hm : m = min r rs.length) (hx : xs.length = m) (h : ∀ j, j < m → lrow c (xs.getD j default) = fitRow (rowOf rs j) c a) :
    rowsOfL c (xs ++ List.replicate (r - m) (.empty a)) = Row.fitted rs r c a := by
  have hl : (rowsOfL c (xs ++ List.replicate (r - m) (.empty a))).length = r := by
    unfold rowsOfL; rw [List.length_map, List.length_append, List.length_replicate]; omega
  refine rows_ext (by rw [hl]; unfold Row.fitted; rw [List.length_map, List.length_range]) fun i hi => ?_
  rw [hl] at hi
  unfold Row.fitted
  rw [rowOf_map _ hi, rowsOfL_append, rowsOfL_rep]
  have hxl : (rowsOfL c xs).length = m := by unfold rowsOfL; rw [List.length_map, hx]
  by_cases h1 : i < m
  · rw [rowOf_append_left (by omega), rowOf_rowsOfL (by omega), h i h1, if_pos (by omega)]
  · rw [rowOf_append_right (by omega), hxl, rowOf_rep _ (by omega), if_neg (by omega)]
theorem kept_get {cv : Nat → Value} {l : List Cl} {C R j : Nat} (h : j < R) : (keptOf cv l C (List.range R)).getD j default = .kept (cv j) (rowAt l C j) := by
  unfold keptOf; simp [h]
theorem Cs.move {w w' : World} {x : Value} {l : List Cl} (h : Cs w x l) (k : ∀ (ad : Addr) (n c : Nat) (j : Nat) (u : Value), x = .slice (some ad) n c → w.cell? (ad.add j) = some u → w'.cell? (ad.add j) = some u) : Cs w' x l := by
  refine ⟨h.1, h.2.1, ?_⟩
  rcases h.2.2 with h0 | ⟨ad, c, rfl, hc⟩
  · exact .inl h0
  · refine .inr ⟨ad, c, rfl, fun i r hr j u hu => ?_⟩
    have := hc i r hr j u hu
    rw [Go.Deep.add_add] at this ⊢
    exact k ad _ _ _ _ rfl this
theorem Rm.set {w : World} {x : Value} {l : List Cl} {g : Nat} (h : Rm w x l) (ho : Off g x) (j : Nat) (u : Value) : Rm (w.setCell ⟨g, j, none⟩ u) x l :=
  ⟨h.1.move fun ad n c i v e hv => by rw [World.cell?_setCell_other _ _ _ _ (fun e2 => ho ad n c e (by rw [← add_block ad i, ← e2]))]; exact hv, h.2⟩
theorem Rm.grown {w w' : World} {x : Value} {l : List Cl} {row : Option Nat} (h : Rm w x l) (hg : w.grownBy w' row) (ho : ∀ k, row = some k → Off k x) : Rm w' x l :=
  ⟨h.1.move fun ad n c i v e hv => by
    have hb := World.block_lt_of_cell? w _ hv
    have hk := hg.block (ad.add i).block hb (fun e2 => ho _ e2.symm ad n c e (add_block ad i).symm)
    unfold World.cell? at hv ⊢
    rw [hk]; exact hv, h.2⟩
theorem Rm.off {w : World} {x : Value} {l : List Cl} {g : Nat} (h : Rm w x l) (h0 : 0 < l.length) (hg : w.heap.size ≤ g) : Off g x := by
  intro ad n c e
  subst e
  have := h.1.flat.2 0 (.int .i64 (Row.g l 0).rune) (by have := flat_get h0 (show 0 < 6 by decide); simpa [cvals] using this)
  have hb := World.block_lt_of_cell? w _ this
  rw [add_block] at hb
  omega
end Row
end
end Go.Proofs.YtjcfbeiljdohcaaDoor
