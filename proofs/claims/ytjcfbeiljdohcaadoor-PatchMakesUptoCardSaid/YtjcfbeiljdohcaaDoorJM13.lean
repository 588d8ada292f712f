/- Joined texts: RowRep, RowOps, RowOps2, RowPut, RowErase, GrdSmall. -/
import Derived.Test.YtjcfbeiljdohcaaDoorJM12
import Derived.Deep.RegionLaw
import Derived.Deep.RegionHeld3
namespace Go.Proofs.YtjcfbeiljdohcaaDoor
set_option maxRecDepth 100000
section
open Go.RowKit
namespace Row
def Whole (w : World) (b : Nat) (l : List Cl) : Prop := w.heap[b]? = some (.cells (flat l).toArray 63 (0, 0))
theorem Whole.own {w : World} {b : Nat} {l : List Cl} (h : Whole w b l) {base : Nat} (hb : base ≤ b) (hl : l.length ≤ 1000000) : OwnCs w base (.slice (some ⟨b, 0, none⟩) l.length l.length) l := by
  refine ⟨flat_length l, .inr ⟨b, l.length, _, rfl, hb, h, Nat.le_refl _, by simp only [maxLen]; omega, ?_, ?_⟩⟩
  · simp [flat_length]
  · rw [← flat_length]; simp
theorem Whole.of {w : World} {base b : Nat} {l : List Cl} (h : w.ownsRow base 63 6 (.slice (some ⟨b, 0, none⟩) l.length l.length) l.length (flat l)) : Whole w b l := by
  rcases h.2 with ⟨e, _⟩ | ⟨b', cap, cur, e, _, hg, _, _, hs, ht⟩
  · injection e with e; cases e
  · injection e with e1 e2 e3
    injection e1 with e1
    injection e1 with e1
    subst e1
    subst e3
    unfold Whole
    rw [hg]
    have : cur.toList = flat l := by
      rw [← ht, List.take_of_length_le (by rw [Array.length_toList, hs]; exact Nat.le_refl _)]
    rw [← this]
theorem run_copy_cs {w : World} {ty : TypeId} {b k dLen dCap sLen sCap m : Nat} {a : Addr} {l r : List Cl} (h : Whole w b l) (hm : m = Nat.min sLen dLen) (hr : r.length = m) (hk : k + m ≤ l.length)
    (hsrc : ∀ j u, (flat r)[j]? = some u → w.cell? (a.add j) = some u) :
    ∃ w', (Builtin.copy_ #[28, 28] ty #[.slice (some ⟨b, k * 6, none⟩) dLen dCap, .slice (some a) sLen sCap]).run Tryd.prog w = .ok (goInt m) w' ∧ Whole w' b (l.take k ++ (r ++ l.drop (k + m))) ∧
      ∀ B w0, Below B w0 w → B ≤ b → Below B w0 w' := by
  obtain ⟨i, hi, hz, h6, h56⟩ := cell_row
  have hrun := run_copy_wide (P := Tryd.prog) w 28 28 ty 63 b (k * 6) dLen dCap a sLen sCap _ _ (flat r) 6 m Tryd.underlying28 (by rw [hi]; simp [h6]) h hm (by rw [flat_length, hr]) hsrc
    (by simp only [List.size_toArray, flat_length]; rw [hr]; omega) (flat_cells r)
  refine ⟨_, hrun, ?_, fun B w0 hb hB => below_setRow hb hB _⟩
  have hrow := setRow_heap w b _ ((flat l).toArray.toList.take (k * 6) ++ flat r ++ (flat l).toArray.toList.drop (k * 6 + (flat r).length)).toArray _ _ h
  unfold Whole
  rw [hrow]
  have e1 : (flat l).take (k * 6) = flat (l.take k) := by
    have hs : l = l.take k ++ l.drop k := (List.take_append_drop k l).symm
    have hl : (flat (l.take k)).length = k * 6 := by rw [flat_length, List.length_take]; rw [Nat.min_eq_left (by omega)]
    conv => lhs; rw [hs, flat_append]
    rw [List.take_append_of_le_length (by omega), List.take_of_length_le (by omega)]
  have e2 : (flat l).drop (k * 6 + (flat r).length) = flat (l.drop (k + m)) := by
    have hs : l = l.take (k + m) ++ l.drop (k + m) := (List.take_append_drop (k + m) l).symm
    have hl : (flat (l.take (k + m))).length = k * 6 + (flat r).length := by rw [flat_length, flat_length, List.length_take, hr]; rw [Nat.min_eq_left (by omega)]; omega
    conv => lhs; rw [hs, flat_append]
    rw [← hl, List.drop_left]
  rw [e1, e2, List.append_assoc, ← flat_append, ← flat_append]
theorem wp_copy_cs {w : World} {ops : Array Oper} {rest : List Oper} {o : Oper} {a : Act} {Q : Exit → Act → World → Prop} {d s : Operand} (hgd : o.guard = none)
    (ho : o.op = .call { callee := .builtin .copy, args := #[d, s], argTypes := #[28, 28] }) (b k dLen dCap sLen sCap m off : Nat) (ad : Addr) (l r : List Cl)
    (hd : a.eval d = .slice (some ⟨b, off, none⟩) dLen dCap) (hs : a.eval s = .slice (some ad) sLen sCap) (hoff : off = k * 6) (h : Whole w b l) (hm : m = Nat.min sLen dLen) (hr : r.length = m) (hk : k + m ≤ l.length)
    (hsrc : ∀ j u, (flat r)[j]? = some u → w.cell? (ad.add j) = some u)
    (hK : ∀ w', Whole w' b (l.take k ++ (r ++ l.drop (k + m))) → (∀ B w0, Below B w0 w → B ≤ b → Below B w0 w') → wpList Tryd.prog ops Q rest (a.put o.dst (goInt m)) w') : wpList Tryd.prog ops Q (o :: rest) a w := by
  subst hoff
  refine wpList_plain hgd fun K hK' => ?_
  obtain ⟨w', hrun, h1, h2⟩ := run_copy_cs (ty := o.type) (dCap := dCap) (sCap := sCap) h hm hr hk hsrc
  unfold Oper.wp execOp
  simp only [ho, resolve, invoke, builtin, Sem.run_bind, Sem.run_pure, Result.andThen_ok, List.map_toArray, List.map_cons, List.map_nil, hs, hd, hrun]
  exact hK' _ _ (hK w' h1 h2)
theorem step_copy_cs {w : World} {ops : Array Oper} {o : Oper} {a : Act} {K : Act → World → Prop} {Q : Exit → Act → World → Prop} {E : Prop} {d s : Operand} (hgd : o.guard = none)
    (ho : o.op = .call { callee := .builtin .copy, args := #[d, s], argTypes := #[28, 28] }) (b k dLen dCap sLen sCap m off : Nat) (ad : Addr) (l r : List Cl)
    (hd : a.eval d = .slice (some ⟨b, off, none⟩) dLen dCap) (hs : a.eval s = .slice (some ad) sLen sCap) (hoff : off = k * 6) (h : Whole w b l) (hm : m = Nat.min sLen dLen) (hr : r.length = m) (hk : k + m ≤ l.length)
    (hsrc : ∀ j u, (flat r)[j]? = some u → w.cell? (ad.add j) = some u)
    (hK : ∀ w', Whole w' b (l.take k ++ (r ++ l.drop (k + m))) → (∀ B w0, Below B w0 w → B ≤ b → Below B w0 w') → K (a.put o.dst (goInt m)) w') :
    if Region.wanted o (yielded ops a.tmps) = true then Oper.wp Tryd.prog o a w K Q else E := by
  subst hoff
  have hw : Region.wanted o (yielded ops a.tmps) = true := by simp [Region.wanted, hgd]
  rw [if_pos hw]
  obtain ⟨w', hrun, h1, h2⟩ := run_copy_cs (ty := o.type) (dCap := dCap) (sCap := sCap) h hm hr hk hsrc
  unfold Oper.wp execOp
  simp only [ho, resolve, invoke, builtin, Sem.run_bind, Sem.run_pure, Result.andThen_ok, List.map_toArray, List.map_cons, List.map_nil, hs, hd, hrun]
  exact hK w' h1 h2
theorem Whole.cell {w : World} {b : Nat} {l r t : List Cl} (h : Whole w b l) (e : l = r ++ t) : ∀ j u, (flat r)[j]? = some u → w.cell? ((⟨b, 0, none⟩ : Addr).add j) = some u := by
  intro j u hu
  have hj : j < (flat r).length := (List.getElem?_eq_some_iff.1 hu).1
  have ha : (⟨b, 0, none⟩ : Addr).add j = ⟨b, j, none⟩ := by
    unfold Addr.add
    by_cases h0 : j = 0
    · subst h0; rfl
    · simp [h0]
  rw [ha, Blk.cell h, e, flat_append]
  rw [List.getElem?_toArray, List.getElem?_append_left hj]
  exact hu
def zero : Cl := ⟨0, [], 0, ⟨0, 0, 0⟩⟩
theorem made_zero (n : Nat) : (madeCells (Value.agg #[.int .i64 0, .string ⟨#[]⟩, .int .i64 0, .int .i64 0, .int .i64 0, .int .i64 0]).cells (n * 6)).toList = flat (List.replicate n zero) := by
  apply List.ext_getElem?
  intro j
  by_cases hj : j < n * 6
  · have hk : j / 6 < (List.replicate n zero).length := by rw [List.length_replicate]; omega
    have h6 : j % 6 < 6 := Nat.mod_lt _ (by decide)
    have e := flat_get hk h6
    rw [show j / 6 * 6 + j % 6 = j from by omega] at e
    rw [e]
    have hg : g (List.replicate n zero) (j / 6) = zero := by rw [g_eq hk, List.getElem_replicate]
    rw [hg]
    simp only [madeCells, Value.cells]
    rw [Array.getElem?_toList, Array.getElem?_map, Array.getElem?_range]
    simp [hj]
    have : j % 6 = 0 ∨ j % 6 = 1 ∨ j % 6 = 2 ∨ j % 6 = 3 ∨ j % 6 = 4 ∨ j % 6 = 5 := by omega
    rcases this with h | h | h | h | h | h <;> rw [h] <;> rfl
  · rw [List.getElem?_eq_none (by rw [Array.length_toList, size_madeCells]; omega), List.getElem?_eq_none (by rw [flat_length, List.length_replicate]; omega)]
theorem rep_step {n k m : Nat} (c z : Cl) (hm : k + m ≤ n) :
    (List.replicate k c ++ List.replicate (n - k) z).take k ++ (List.replicate m c ++ (List.replicate k c ++ List.replicate (n - k) z).drop (k + m)) = List.replicate (k + m) c ++ List.replicate (n - (k + m)) z := by
  have hl : (List.replicate k c).length = k := List.length_replicate
  rw [List.take_append_of_le_length (by rw [hl]; exact Nat.le_refl _), List.take_of_length_le (by rw [hl]; exact Nat.le_refl _), List.drop_append, List.drop_of_length_le (by rw [hl]; omega), List.nil_append, hl, List.drop_replicate, ← List.append_assoc, List.replicate_append_replicate]
  congr 2
  omega
set_option maxHeartbeats 800000 in
theorem repeat_any (c : Cl) (x : Value) (n : Nat) (w : World) (hx : Cs w x [c]) (hn : n ≤ 1000000) :
    Calls Tryd.prog 92 #[x, .int .i64 n] w fun e w' => ∃ v, e = .returned v ∧ OwnCs w' w.heap.size v (List.replicate n c) ∧ Below w.heap.size w w' := by
  obtain ⟨i, hi, hz, h6, h56⟩ := cell_row
  have hx0 := hx
  obtain ⟨A, cp, rfl, hA⟩ := hx.form
  obtain ⟨ad, rfl, _⟩ := hA 0 (by simp)
  have HX := Lib.hid hx0
  clear hA hx hx0
  go_enter Tryd.func92, Tryd.ntmps92
  go_wp2_with fail
  refine (mul_one n hn _).mono ?_; rintro e w' ⟨rfl, rfl⟩
  obtain ⟨m, hm, hm1, hm0⟩ : ∃ m, m = Nat.min 1 n ∧ m ≤ n ∧ (m = 0 → n = 0) := ⟨_, rfl, Nat.min_le_right _ _, fun h => by have : Nat.min 1 n = min 1 n := rfl; omega⟩
  have hm2 : m ≤ 1 := by rw [hm]; exact Nat.min_le_left _ _
  have HSRC : Hid (∀ w' : World, Below w.heap.size w w' → ∀ j u, (flat (List.replicate m c))[j]? = some u → w'.cell? (ad.add j) = some u) := Lib.hid fun w' hb j u hu => by
    have hc := (HX.out.kept hb).flat.2
    rcases (by omega : m = 0 ∨ m = 1) with e | e
    · rw [e] at hu; simp [flat] at hu
    · rw [e] at hu; exact hc j u hu
  go_wp2_with (first
    | (at_make; refine wpList_make_full _ rfl _ _ _ rfl w.heap.size 63 i _ 6 Tryd.underlying28 hi hz h6 .i64 .i64 _ _ n rfl rfl (by go_num) (by go_num) (by rw [h56]; omega) (by simp only [maxLen]; omega) (Nat.le_refl _) ?_; intro w1 ho1 hg1; rw [made_zero] at ho1; have HW1 := Lib.hid (Whole.of (l := List.replicate n zero) (by rw [List.length_replicate]; exact ho1)); have HB1 : Hid (Below w.heap.size w w1) := Lib.hid ((Below.refl _ w).grown hg1 (Nat.le_refl _) (fun k hk => by cases hk)); clear ho1)
    | (with_reducible refine wp_copy_cs (o := ⟨some 33, _, _, _, _, _⟩) rfl rfl w.heap.size 0 n n 1 cp m 0 ad (List.replicate n zero) (List.replicate m c) rfl rfl rfl HW1.out hm List.length_replicate (by rw [List.length_replicate]; omega) (HSRC.out _ HB1.out) ?_; intro w2 hw2 hb2; have HW2 := Lib.hid hw2; have HB2 := Lib.hid (hb2 _ _ HB1.out (Nat.le_refl _)); clear hw2 hb2))
  have HW3 : Hid (Whole w2 w.heap.size (List.replicate m c ++ List.replicate (n - m) zero)) := Lib.hid (by
    have h := HW2.out
    rwa [List.take_zero, List.nil_append, Nat.zero_add, List.drop_replicate] at h)
  clear HW2
  go_loopw [8] (fun i wr => ∃ k : Nat, k ≤ n ∧ (k = 0 → n = 0) ∧ i = .int .i64 k ∧ Hid (Whole wr w.heap.size (List.replicate k c ++ List.replicate (n - k) zero)) ∧ Below w.heap.size w wr) (fun i _ => n - (intOf i).toNat)
  case atStart => exact ⟨m, hm1, hm0, by go_num, HW3, HB2.out⟩
  case round =>
    obtain ⟨k, hk, hk0, rfl, HW, hbl⟩ := hrel
    by_cases hlt : k < n
    · have hne : ¬ n = k := by omega
      obtain ⟨p, hp, hp1, hp2⟩ : ∃ p, p = Nat.min k (n - k) ∧ 0 < p ∧ k + p ≤ n := ⟨_, rfl, by have : Nat.min k (n - k) = min k (n - k) := rfl; omega, by have : Nat.min k (n - k) = min k (n - k) := rfl; omega⟩
      have hpk : p ≤ k := by rw [hp]; exact Nat.min_le_left _ _
      have HSR : Hid (∀ j u, (flat (List.replicate p c))[j]? = some u → wr.drew.cell? ((⟨w.heap.size, 0, none⟩ : Addr).add j) = some u) := Lib.hid (Whole.cell (w := wr.drew) HW.out (t := List.replicate (k - p) c ++ List.replicate (n - k) zero) (by rw [← List.append_assoc, List.replicate_append_replicate]; congr 2; omega))
      have HLL : Hid ((List.replicate k c ++ List.replicate (n - k) zero).length = n) := Lib.hid (by simp; omega)
      have hwrap : IntKind.i64.wrap ((k : Int) + (p : Int)) = (k : Int) + (p : Int) := by rw [IntKind.wrap_i64]; omega
      have HPP := Lib.hid hp
      clear hp
      have HWD : Hid (Whole wr.drew w.heap.size (List.replicate k c ++ List.replicate (n - k) zero)) := Lib.hid HW.out
      have HBD : Hid (Below w.heap.size w wr.drew) := Lib.hid hbl.drew
      go_wp2_with fail
      go_region_law (refine step_copy_cs rfl rfl w.heap.size k (n - k) (n - k) k n p (k * 6) ⟨w.heap.size, 0, none⟩ (List.replicate k c ++ List.replicate (n - k) zero) (List.replicate p c) (by go_simp) (by go_simp) rfl HWD.out HPP.out List.length_replicate (by rw [HLL.out]; exact hp2) HSR.out ?_; intro w3 hw3 hb3; have HW4 := Lib.hid hw3; have HB4 := Lib.hid (hb3 _ _ HBD.out (Nat.le_refl _)); clear hw3 hb3)
      have HW5 : Hid (Whole w3 w.heap.size (List.replicate (k + p) c ++ List.replicate (n - (k + p)) zero)) := Lib.hid (by rw [← rep_step c zero hp2]; exact HW4.out)
      clear HW4
      go_simp
      go_wp2_with fail
      go_roundw
      case rel => exact ⟨k + p, hp2, by omega, by go_num, HW5, HB4.out⟩
      case measure => simp [intOf]; omega
    · have hkn : k = n := by omega
      subst hkn
      have HE : Hid (List.replicate k c ++ List.replicate (k - k) zero = List.replicate k c) := Lib.hid (by simp)
      have HO : Hid (OwnCs wr w.heap.size (.slice (some ⟨w.heap.size, 0, none⟩) k k) (List.replicate k c)) := Lib.hid (by
        have h := HW.out
        rw [HE.out] at h
        have := h.own (Nat.le_refl w.heap.size) (by rw [List.length_replicate]; exact hn)
        rwa [List.length_replicate] at this)
      go_wp2_with fail
      go_ret
      exact ⟨_, rfl, HO.out, hbl⟩
end Row
end
section
open Go.RowKit
namespace Row
open Utf Wid
theorem held_cut {l : List Cl} (h : Held l) (p : Nat) : Held (cutL l p) := by
  intro i hi
  rw [cutL_length] at hi
  rw [cutL_g]
  split
  · exact Nat.zero_le _
  · exact h i hi
theorem Cs.upto {w : World} {A : Option Addr} {n c : Nat} {l : List Cl} (h : Cs w (.slice A n c) l) (hc : n ≤ c) (k : Nat) (hk : k ≤ l.length) :
    (∀ w' : World, (Instr.slice 28 (.slice A n c) none (some (.int .i64 k)) none).run Tryd.prog w' = .ok (.slice A k c) w') ∧ Cs w (.slice A k c) (l.take k) := by
  obtain ⟨A', c', e, hf⟩ := h.form
  injection e with e1 e2 e3
  subst e1; subst e2; subst e3
  have hu : Tryd.prog.underlying 28 = some (.slice (Tryd.prog.elem 28)) := by kernel_rfl
  refine ⟨fun w' => ?_, ?_⟩
  · rw [run_slice_h w' 28 A l.length c hu .i64 k (by omega) (by omega)]
    have hs : (sizeOf (Tryd.prog.elem 28)).run Tryd.prog w' = .ok 6 w' := by kernel_rfl
    rw [hs]
    simp [Result.andThen, sliced]
    intro _
    cases A <;> simp [Addr.add]
  · have hl : (l.take k).length = k := by rw [List.length_take]; omega
    rcases h.2.2 with ⟨e, h0⟩ | ⟨ad, c2, e, hcell⟩
    · injection e with e1 e2 e3
      subst e1; subst e3
      have : k = 0 := by omega
      subst this
      exact Cs.nil w
    · injection e with e1 e2 e3
      subst e1; subst e3
      have := Cs.of (w := w) (ad := ad) (c := c) (l := l.take k) fun j u hu => by
        refine h.flat.2 j u ?_
        have hj : j < (Row.flat (l.take k)).length := (List.getElem?_eq_some_iff.1 hu).1
        have hs : Row.flat l = Row.flat (l.take k) ++ Row.flat (l.drop k) := by rw [← flat_append, List.take_append_drop]
        rw [hs, List.getElem?_append_left hj]; exact hu
      rwa [hl] at this
theorem Cs.from {w : World} {A : Option Addr} {n c : Nat} {l : List Cl} (h : Cs w (.slice A n c) l) (hc : n ≤ c) (k : Nat) (hk : k ≤ l.length) :
    Cs w (.slice (if c = k then A else A.map (fun x => x.add (k * 6))) (n - k) (c - k)) (l.drop k) := by
  obtain ⟨A', c', e, hf⟩ := h.form
  injection e with e1 e2 e3
  subst e1; subst e2; subst e3
  have hl : (l.drop k).length = l.length - k := List.length_drop
  rcases h.2.2 with ⟨e, h0⟩ | ⟨ad, c2, e, hcell⟩
  · injection e with e1 e2 e3
    subst e1; subst e3
    have h0 : l.length = 0 := h0
    have hl0 : l = [] := List.eq_nil_of_length_eq_zero h0
    subst hl0
    have hk0 : k = 0 := by simpa using hk
    subst hk0
    simp only [List.length_nil] at h0 ⊢
    exact Cs.nil w
  · injection e with e1 e2 e3
    subst e1; subst e3
    by_cases hck : c = k
    · rw [if_pos hck]
      have hd : l.drop k = [] := List.drop_eq_nil_of_le (by omega)
      have := Cs.of (w := w) (ad := ad) (c := c - k) (l := l.drop k) fun j u hu => by rw [hd] at hu; simp [Row.flat] at hu
      rwa [hl] at this
    · rw [if_neg hck]
      have := Cs.of (w := w) (ad := ad.add (k * 6)) (c := c - k) (l := l.drop k) fun j u hu => by
        rw [Go.Deep.add_add]
        refine h.flat.2 (k * 6 + j) u ?_
        have hlt : (Row.flat (l.take k)).length = k * 6 := by rw [flat_length, List.length_take, Nat.min_eq_left hk]
        have hs : Row.flat l = Row.flat (l.take k) ++ Row.flat (l.drop k) := by rw [← flat_append, List.take_append_drop]
        rw [hs, List.getElem?_append_right (by omega), hlt, show k * 6 + j - k * 6 = j from by omega]
        exact hu
      rwa [hl] at this
theorem OwnCs.room {w : World} {base n c : Nat} {A : Option Addr} {l : List Cl} (h : OwnCs w base (.slice A n c) l) : n ≤ c := by
  rcases h.shape with ⟨e, _⟩ | ⟨b, cap, e, _, hc⟩
  · injection e with e1 e2 e3; omega
  · injection e with e1 e2 e3; omega
set_option maxHeartbeats 800000 in
theorem blanks_any (n : Nat) (a : Look) (w : World) (hn : n ≤ 1000) :
    Calls Tryd.prog 87 #[.int .i64 n, .agg #[.int .i64 a.fg, .int .i64 a.bg, .int .i64 a.flags]] w fun e w' => ∃ v, e = .returned v ∧ OwnCs w' w.heap.size v (List.replicate n (blank a)) ∧ Below w.heap.size w w' := by
  have HB : Hid (∀ w', Calls Tryd.prog 93 #[.agg #[.int .i64 a.fg, .int .i64 a.bg, .int .i64 a.flags]] w' fun e w'' => e = .returned (.agg #[.int .i64 32, .string ⟨#[]⟩, .int .i64 0, .int .i64 (-1), .int .i64 a.bg, .int .i64 0]) ∧ Below w'.heap.size w' w'') := Lib.hid (fun w' => blank_any a w')
  have HR := Lib.hid (fun x w' (h : Cs w' x [blank a]) => repeat_any (blank a) x n w' h (by omega))
  have HO : Hid (∀ w' : World, Cs (w'.alloc (.cells #[.int .i64 32, .string ⟨#[]⟩, .int .i64 0, .int .i64 (-1), .int .i64 a.bg, .int .i64 0] 63)) (.slice (some ⟨w'.heap.size, 0, none⟩) 1 1) [blank a]) := Lib.hid fun w' => Cs.one w' (blank a) _ 1 _ rfl
  go_enter Tryd.func87, Tryd.ntmps87
  go_wp2_with fail
  refine (HB.out _).mono ?_; rintro e w1 ⟨rfl, hb1⟩
  have HB1 : Hid (Below w.heap.size w w1) := Lib.hid (((Below.refl _ _).alloc (Nat.le_refl _) _).trans (hb1.mono (by simp)))
  clear hb1
  go_wp2_with fail
  refine (HR.out _ _ (HO.out w1)).mono ?_; rintro e w2 ⟨v, rfl, ho2, hb2⟩
  have HO2 : Hid (OwnCs w2 w.heap.size v (List.replicate n (blank a))) := Lib.hid (ho2.low (by have := HB1.out.size; simp; omega))
  have HB2 : Hid (Below w.heap.size w w2) := Lib.hid ((HB1.out.alloc HB1.out.size _).trans (hb2.mono (by have := HB1.out.size; simp; omega)))
  clear ho2 hb2
  go_wp2_with fail
  go_ret
  exact ⟨v, rfl, HO2.out, HB2.out⟩
end Row
end
section
open Go.RowKit
namespace Row
open Utf Wid
theorem repl_nil {l : List Cl} (p : Nat) : repl l p p [] = l := by unfold repl; rw [if_pos ⟨rfl, rfl⟩]
theorem three {w : World} {a b c : Value} {p q r : List Cl} (h1 : Cs w a p) (h2 : Cs w b q) (h3 : Cs w c r) : ∀ k, k < [p, q, r].length → Cs w ([a, b, c].getD k undef) ([p, q, r].getD k []) := by
  intro k hk
  have hk : k < 3 := hk
  rcases (by omega : k = 0 ∨ k = 1 ∨ k = 2) with rfl | rfl | rfl
  · exact h1
  · exact h2
  · exact h3
end Row
end
section
open Go.RowKit
namespace Row
open Utf Wid
theorem rng_yes {n lo hi : Int} (h : lo ≤ n) (k : n ≤ hi) : rng n lo hi = true := by unfold rng; rw [decide_eq_true h, decide_eq_true k]; rfl
theorem rng_no {n lo hi : Int} (h : ¬ (lo ≤ n ∧ n ≤ hi)) : rng n lo hi = false := by
  unfold rng
  rw [Bool.and_eq_false_iff]
  by_cases k : lo ≤ n
  · exact .inr (decide_eq_false fun k2 => h ⟨k, k2⟩)
  · exact .inl (decide_eq_false k)
def attrV (a : Look) : Value := .agg #[.int .i64 a.fg, .int .i64 a.bg, .int .i64 a.flags]
theorem box_kept {w w1 : World} {a : Look} (hb : Below (w.alloc (.cells #[.int .i64 a.fg, .int .i64 a.bg, .int .i64 a.flags] 60)).heap.size (w.alloc (.cells #[.int .i64 a.fg, .int .i64 a.bg, .int .i64 a.flags] 60)) w1) :
    w1.heap[w.heap.size]? = some (.cells #[.int .i64 a.fg, .int .i64 a.bg, .int .i64 a.flags] 60 (0, 0)) ∧ Below w.heap.size w w1 :=
  ⟨Blk.kept (heap_alloc_new _ _) hb, ((Below.refl _ _).alloc (Nat.le_refl _) _).trans (hb.mono (by simp))⟩
end Row
end
section
open Go.RowKit
namespace Row
open Utf Wid
set_option maxHeartbeats 1600000 in
theorem rowBlank_fits (n : Nat) (a : Look) (w : World) (h1 : 1 ≤ n) (h2 : n ≤ 40) (ha : attrOk a = true) :
    Calls Tryd.prog 78 #[.int .i64 n, .agg #[.int .i64 a.fg, .int .i64 a.bg, .int .i64 a.flags]] w fun e w' => ∃ v, e = .returned (.tuple #[v, .int .i64 0]) ∧ OwnCs w' w.heap.size v (List.replicate n (blank a)) ∧ Below w.heap.size w w' := by
  have HR : Hid (rng (n : Int) 1 40 = true) := Lib.hid (rng_yes (by omega) (by omega))
  have HCK := Lib.hid (fun w' => check_any a true ha w')
  have HBK := Lib.hid (fun w' => blanks_any n a w' (by omega))
  clear ha
  go_enter Tryd.func78, Tryd.ntmps78
  go_wp2_with fail
  refine (rowIn_at _ _ _ _ HR.out _).mono ?_; rintro e w' ⟨rfl, rfl⟩
  go_wp2_with fail
  refine (HCK.out _).mono ?_; rintro e w2 ⟨rfl, hb2⟩
  obtain ⟨hk2, hbw⟩ := box_kept hb2
  have HB2 := Lib.hid hbw
  obtain ⟨k0, k1, k2⟩ := box_cells hk2
  clear hb2 hbw hk2
  go_wp2_with fail
  refine (HBK.out _).mono ?_; rintro e w3 ⟨v3, rfl, ho3, hb3⟩
  have HB3 : Hid (Below w.heap.size w w3) := Lib.hid (HB2.out.trans (hb3.mono HB2.out.size))
  have HO3 : Hid (OwnCs w3 w.heap.size v3 (List.replicate n (blank a))) := Lib.hid (ho3.low HB2.out.size)
  clear ho3 hb3
  go_wp2_with fail
  go_ret2
  exact ⟨v3, rfl, HO3.out, HB3.out⟩
set_option maxHeartbeats 1600000 in
theorem rowBlank_no (n : Int) (a : Look) (w : World) (h : ¬ ((1 ≤ n ∧ n ≤ 40) ∧ attrOk a = true)) :
    Calls Tryd.prog 78 #[.int .i64 n, .agg #[.int .i64 a.fg, .int .i64 a.bg, .int .i64 a.flags]] w fun e w' => e = .returned (.tuple #[.slice none 0 0, .int .i64 1]) ∧ Below w.heap.size w w' := by
  by_cases hn : 1 ≤ n ∧ n ≤ 40
  · have HR : Hid (rng n 1 40 = true) := Lib.hid (rng_yes (by omega) (by omega))
    have HCK := Lib.hid (fun w' => check_any a false (by cases q : attrOk a; rfl; exact absurd ⟨hn, q⟩ h) w')
    clear h hn
    go_enter Tryd.func78, Tryd.ntmps78
    go_wp2_with fail
    refine (rowIn_at _ _ _ _ HR.out _).mono ?_; rintro e w' ⟨rfl, rfl⟩
    go_wp2_with fail
    refine (HCK.out _).mono ?_; rintro e w2 ⟨rfl, hb2⟩
    obtain ⟨_, hbw⟩ := box_kept hb2
    have HB2 := Lib.hid hbw
    clear hb2 hbw
    go_wp2_with fail
    go_ret2
    exact ⟨rfl, HB2.out⟩
  · have HR : Hid (rng n 1 40 = false) := Lib.hid (rng_no hn)
    clear h hn
    go_enter Tryd.func78, Tryd.ntmps78
    go_wp2_with fail
    refine (rowIn_at _ _ _ _ HR.out _).mono ?_; rintro e w' ⟨rfl, rfl⟩
    go_wp2_with fail
    go_ret2
    exact ⟨rfl, (Below.refl _ _).alloc (Nat.le_refl _) _⟩
end Row
end
section
open Go.RowKit
namespace Row
theorem gridIn_at (n lo hi : Int) (b : Bool) (hb : rng n lo hi = b) (w : World) : Calls Tryd.prog 77 #[.int .i64 n, .int .i64 lo, .int .i64 hi] w fun e w' => e = .returned (.bool b) ∧ w = w' := by
  subst hb
  by_cases h : lo ≤ n
  · by_cases k : n ≤ hi
    · have H : Hid (rng n lo hi = true) := Lib.hid (by unfold rng; rw [decide_eq_true h, decide_eq_true k]; rfl)
      go_enter Tryd.func77, Tryd.ntmps77
      go_wp2_with fail
      go_ret
      exact ⟨ret_bool H.out.symm, rfl⟩
    · have H : Hid (rng n lo hi = false) := Lib.hid (by unfold rng; rw [decide_eq_false k, Bool.and_false])
      have hd : decide (n ≤ hi) = false := decide_eq_false k
      go_enter Tryd.func77, Tryd.ntmps77
      go_wp2_with fail
      go_ret
      exact ⟨ret_bool H.out.symm, rfl⟩
  · have H : Hid (rng n lo hi = false) := Lib.hid (by unfold rng; rw [decide_eq_false h, Bool.false_and])
    have hd : decide (lo ≤ n) = false := decide_eq_false h
    go_enter Tryd.func77, Tryd.ntmps77
    go_wp2_with fail
    go_ret
    exact ⟨ret_bool H.out.symm, rfl⟩
def sidesOk (r c : Int) : Bool := rng r 1 40 && rng c 1 40
theorem sidesOk_iff (r c : Int) : sidesOk r c = true ↔ (1 ≤ r ∧ r ≤ 40) ∧ (1 ≤ c ∧ c ≤ 40) := by unfold sidesOk rng; simp [and_assoc]
theorem sides_at (r c : Int) (b : Bool) (hb : sidesOk r c = b) (w : World) : Calls Tryd.prog 64 #[.int .i64 r, .int .i64 c] w fun e w' => e = .returned (.bool b) ∧ w = w' := by
  subst hb
  cases h1 : rng r 1 40 with
  | false =>
    have H1 := Lib.hid h1
    have H : Hid (sidesOk r c = false) := Lib.hid (by unfold sidesOk; rw [h1]; rfl)
    clear h1
    go_enter Tryd.func64, Tryd.ntmps64
    go_wp2_with fail
    refine (gridIn_at _ _ _ _ H1.out _).mono ?_; rintro e w' ⟨rfl, rfl⟩
    go_wp2_with fail
    go_ret
    exact ⟨ret_bool H.out.symm, rfl⟩
  | true =>
    have H1 := Lib.hid h1
    have H : Hid (sidesOk r c = rng c 1 40) := Lib.hid (by unfold sidesOk; rw [h1]; rfl)
    clear h1
    go_enter Tryd.func64, Tryd.ntmps64
    go_wp2_with fail
    refine (gridIn_at r _ _ _ H1.out _).mono ?_; rintro e w' ⟨rfl, rfl⟩
    go_wp2_with fail
    refine (gridIn_at c _ _ _ rfl _).mono ?_; rintro e w' ⟨rfl, rfl⟩
    go_wp2_with fail
    go_ret
    exact ⟨ret_bool H.out.symm, rfl⟩
set_option maxHeartbeats 800000 in
theorem paints_at (a : Look) (b : Bool) (hb : attrOk a = b) (w : World) : Calls Tryd.prog 65 #[.agg #[.int .i64 a.fg, .int .i64 a.bg, .int .i64 a.flags]] w fun e w' => e = .returned (.bool b) ∧ Below w.heap.size w w' := by
  have HB0 : Hid (Below w.heap.size w (w.alloc (.cells #[.int .i64 a.fg, .int .i64 a.bg, .int .i64 a.flags] 60))) := Lib.hid ((Below.refl _ _).alloc (Nat.le_refl _) _)
  cases b with
  | true =>
    have HBK := Lib.hid (fun w' => rowBlank_fits 1 a w' (by omega) (by omega) hb)
    clear hb
    go_enter Tryd.func65, Tryd.ntmps65
    go_wp2_with fail
    refine (HBK.out _).mono ?_; rintro e w2 ⟨v, rfl, ho, hb2⟩
    have HB2 : Hid (Below w.heap.size w w2) := Lib.hid (HB0.out.trans (hb2.mono (by simp)))
    clear ho hb2
    go_wp2_with fail
    go_ret
    exact ⟨rfl, HB2.out⟩
  | false =>
    have HBK := Lib.hid (fun w' => rowBlank_no 1 a w' (by rw [hb]; simp))
    clear hb
    go_enter Tryd.func65, Tryd.ntmps65
    go_wp2_with fail
    refine (HBK.out _).mono ?_; rintro e w2 ⟨rfl, hb2⟩
    have HB2 : Hid (Below w.heap.size w w2) := Lib.hid (HB0.out.trans (hb2.mono (by simp)))
    clear hb2
    go_wp2_with fail
    go_ret
    exact ⟨rfl, HB2.out⟩
set_option maxHeartbeats 800000 in
theorem gridBlanks_any (n : Nat) (a : Look) (w : World) (h1 : 1 ≤ n) (h2 : n ≤ 40) (ha : attrOk a = true) :
    Calls Tryd.prog 88 #[.int .i64 n, .agg #[.int .i64 a.fg, .int .i64 a.bg, .int .i64 a.flags]] w fun e w' => ∃ v, e = .returned v ∧ OwnCs w' w.heap.size v (blankRow n a) ∧ Below w.heap.size w w' := by
  have HB0 : Hid (Below w.heap.size w (w.alloc (.cells #[.int .i64 a.fg, .int .i64 a.bg, .int .i64 a.flags] 60))) := Lib.hid ((Below.refl _ _).alloc (Nat.le_refl _) _)
  have HBK := Lib.hid (fun w' => rowBlank_fits n a w' h1 h2 ha)
  clear ha
  go_enter Tryd.func88, Tryd.ntmps88
  go_wp2_with fail
  refine (HBK.out _).mono ?_; rintro e w2 ⟨v, rfl, ho, hb2⟩
  have HB2 : Hid (Below w.heap.size w w2) := Lib.hid (HB0.out.trans (hb2.mono (by simp)))
  have HO : Hid (OwnCs w2 w.heap.size v (blankRow n a)) := Lib.hid (ho.low (by simp))
  clear ho hb2
  go_wp2_with fail
  go_ret
  exact ⟨v, rfl, HO.out, HB2.out⟩
end Row
end
end Go.Proofs.YtjcfbeiljdohcaaDoor
