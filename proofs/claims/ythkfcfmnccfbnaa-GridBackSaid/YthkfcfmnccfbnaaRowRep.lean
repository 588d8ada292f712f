/- The library's Repeat of one cell. -/
import Derived.Test.YthkfcfmnccfbnaaRowHelp
import Derived.Test.YthkfcfmnccfbnaaRowLib2
import Derived.Deep.RegionLaw
namespace Go.Proofs.Ythkfcfmnccfbnaa
set_option maxRecDepth 100000
open Go.RowKit
namespace Row

/-- Block b holds these cells and nothing else. -/
def Whole (w : World) (b : Nat) (l : List Cl) : Prop := w.heap[b]? = some (.cells (flat l).toArray 39 (0, 0))
theorem Whole.own {w : World} {b : Nat} {l : List Cl} (h : Whole w b l) {base : Nat} (hb : base ≤ b) (hl : l.length ≤ 1000000) : OwnCs w base (.slice (some ⟨b, 0, none⟩) l.length l.length) l := by
  refine ⟨flat_length l, .inr ⟨b, l.length, _, rfl, hb, h, Nat.le_refl _, by simp only [maxLen]; omega, ?_, ?_⟩⟩
  · simp [flat_length]
  · rw [← flat_length]; simp
theorem Whole.of {w : World} {base b : Nat} {l : List Cl} (h : w.ownsRow base 39 6 (.slice (some ⟨b, 0, none⟩) l.length l.length) l.length (flat l)) : Whole w b l := by
  rcases h.2 with ⟨e, _⟩ | ⟨b', cap, cur, e, _, hg, _, _, hs, ht⟩
  · injection e with e; cases e
  · injection e with e1 e2 e3
    injection e1 with e1
    injection e1 with e1
    subst e1
    subst e3
    unfold Whole
    rw [hg]
    have : cur.toList = flat l := by
      rw [← ht, List.take_of_length_le (by rw [Array.length_toList, hs]; exact Nat.le_refl _)]
    rw [← this]
theorem run_copy_cs {w : World} {ty : TypeId} {b k dLen dCap sLen sCap m : Nat} {a : Addr} {l r : List Cl} (h : Whole w b l) (hm : m = Nat.min sLen dLen) (hr : r.length = m) (hk : k + m ≤ l.length)
    (hsrc : ∀ j u, (flat r)[j]? = some u → w.cell? (a.add j) = some u) :
    ∃ w', (Builtin.copy_ #[22, 22] ty #[.slice (some ⟨b, k * 6, none⟩) dLen dCap, .slice (some a) sLen sCap]).run Try.prog w = .ok (goInt m) w' ∧ Whole w' b (l.take k ++ (r ++ l.drop (k + m))) ∧
      ∀ B w0, Below B w0 w → B ≤ b → Below B w0 w' := by
  obtain ⟨i, hi, hz, h6, h56⟩ := cell_row
  have hrun := run_copy_wide (P := Try.prog) w 22 22 ty 39 b (k * 6) dLen dCap a sLen sCap _ _ (flat r) 6 m Try.underlying22 (by rw [hi]; simp [h6]) h hm (by rw [flat_length, hr]) hsrc
    (by simp only [List.size_toArray, flat_length]; rw [hr]; omega) (flat_cells r)
  refine ⟨_, hrun, ?_, fun B w0 hb hB => below_setRow hb hB _⟩
  have hrow := setRow_heap w b _ ((flat l).toArray.toList.take (k * 6) ++ flat r ++ (flat l).toArray.toList.drop (k * 6 + (flat r).length)).toArray _ _ h
  unfold Whole
  rw [hrow]
  have e1 : (flat l).take (k * 6) = flat (l.take k) := by
    have hs : l = l.take k ++ l.drop k := (List.take_append_drop k l).symm
    have hl : (flat (l.take k)).length = k * 6 := by rw [flat_length, List.length_take]; rw [Nat.min_eq_left (by omega)]
    conv => lhs; rw [hs, flat_append]
    rw [List.take_append_of_le_length (by omega), List.take_of_length_le (by omega)]
  have e2 : (flat l).drop (k * 6 + (flat r).length) = flat (l.drop (k + m)) := by
    have hs : l = l.take (k + m) ++ l.drop (k + m) := (List.take_append_drop (k + m) l).symm
    have hl : (flat (l.take (k + m))).length = k * 6 + (flat r).length := by rw [flat_length, flat_length, List.length_take, hr]; rw [Nat.min_eq_left (by omega)]; omega
    conv => lhs; rw [hs, flat_append]
    rw [← hl, List.drop_left]
  rw [e1, e2, List.append_assoc, ← flat_append, ← flat_append]
theorem wp_copy_cs {w : World} {ops : Array Oper} {rest : List Oper} {o : Oper} {a : Act} {Q : Exit → Act → World → Prop} {d s : Operand} (hgd : o.guard = none)
    (ho : o.op = .call { callee := .builtin .copy, args := #[d, s], argTypes := #[22, 22] }) (b k dLen dCap sLen sCap m off : Nat) (ad : Addr) (l r : List Cl)
    (hd : a.eval d = .slice (some ⟨b, off, none⟩) dLen dCap) (hs : a.eval s = .slice (some ad) sLen sCap) (hoff : off = k * 6) (h : Whole w b l) (hm : m = Nat.min sLen dLen) (hr : r.length = m) (hk : k + m ≤ l.length)
    (hsrc : ∀ j u, (flat r)[j]? = some u → w.cell? (ad.add j) = some u)
    (hK : ∀ w', Whole w' b (l.take k ++ (r ++ l.drop (k + m))) → (∀ B w0, Below B w0 w → B ≤ b → Below B w0 w') → wpList Try.prog ops Q rest (a.put o.dst (goInt m)) w') : wpList Try.prog ops Q (o :: rest) a w := by
  subst hoff
  refine wpList_plain hgd fun K hK' => ?_
  obtain ⟨w', hrun, h1, h2⟩ := run_copy_cs (ty := o.type) (dCap := dCap) (sCap := sCap) h hm hr hk hsrc
  unfold Oper.wp execOp
  simp only [ho, resolve, invoke, builtin, Sem.run_bind, Sem.run_pure, Result.andThen_ok, List.map_toArray, List.map_cons, List.map_nil, hs, hd, hrun]
  exact hK' _ _ (hK w' h1 h2)
theorem step_copy_cs {w : World} {ops : Array Oper} {o : Oper} {a : Act} {K : Act → World → Prop} {Q : Exit → Act → World → Prop} {E : Prop} {d s : Operand} (hgd : o.guard = none)
    (ho : o.op = .call { callee := .builtin .copy, args := #[d, s], argTypes := #[22, 22] }) (b k dLen dCap sLen sCap m off : Nat) (ad : Addr) (l r : List Cl)
    (hd : a.eval d = .slice (some ⟨b, off, none⟩) dLen dCap) (hs : a.eval s = .slice (some ad) sLen sCap) (hoff : off = k * 6) (h : Whole w b l) (hm : m = Nat.min sLen dLen) (hr : r.length = m) (hk : k + m ≤ l.length)
    (hsrc : ∀ j u, (flat r)[j]? = some u → w.cell? (ad.add j) = some u)
    (hK : ∀ w', Whole w' b (l.take k ++ (r ++ l.drop (k + m))) → (∀ B w0, Below B w0 w → B ≤ b → Below B w0 w') → K (a.put o.dst (goInt m)) w') :
    if Region.wanted o (yielded ops a.tmps) = true then Oper.wp Try.prog o a w K Q else E := by
  subst hoff
  have hw : Region.wanted o (yielded ops a.tmps) = true := by simp [Region.wanted, hgd]
  rw [if_pos hw]
  obtain ⟨w', hrun, h1, h2⟩ := run_copy_cs (ty := o.type) (dCap := dCap) (sCap := sCap) h hm hr hk hsrc
  unfold Oper.wp execOp
  simp only [ho, resolve, invoke, builtin, Sem.run_bind, Sem.run_pure, Result.andThen_ok, List.map_toArray, List.map_cons, List.map_nil, hs, hd, hrun]
  exact hK w' h1 h2
theorem Whole.cell {w : World} {b : Nat} {l r t : List Cl} (h : Whole w b l) (e : l = r ++ t) : ∀ j u, (flat r)[j]? = some u → w.cell? ((⟨b, 0, none⟩ : Addr).add j) = some u := by
  intro j u hu
  have hj : j < (flat r).length := (List.getElem?_eq_some_iff.1 hu).1
  have ha : (⟨b, 0, none⟩ : Addr).add j = ⟨b, j, none⟩ := by
    unfold Addr.add
    by_cases h0 : j = 0
    · subst h0; rfl
    · simp [h0]
  rw [ha, Blk.cell h, e, flat_append]
  rw [List.getElem?_toArray, List.getElem?_append_left hj]
  exact hu
def zero : Cl := ⟨0, [], 0, ⟨0, 0, 0⟩⟩
theorem made_zero (n : Nat) : (madeCells (Value.agg #[.int .i64 0, .string ⟨#[]⟩, .int .i64 0, .int .i64 0, .int .i64 0, .int .i64 0]).cells (n * 6)).toList = flat (List.replicate n zero) := by
  apply List.ext_getElem?
  intro j
  by_cases hj : j < n * 6
  · have hk : j / 6 < (List.replicate n zero).length := by rw [List.length_replicate]; omega
    have h6 : j % 6 < 6 := Nat.mod_lt _ (by decide)
    have e := flat_get hk h6
    rw [show j / 6 * 6 + j % 6 = j from by omega] at e
    rw [e]
    have hg : g (List.replicate n zero) (j / 6) = zero := by rw [g_eq hk, List.getElem_replicate]
    rw [hg]
    simp only [madeCells, Value.cells]
    rw [Array.getElem?_toList, Array.getElem?_map, Array.getElem?_range]
    simp [hj]
    have : j % 6 = 0 ∨ j % 6 = 1 ∨ j % 6 = 2 ∨ j % 6 = 3 ∨ j % 6 = 4 ∨ j % 6 = 5 := by omega
    rcases this with h | h | h | h | h | h <;> rw [h] <;> rfl
  · rw [List.getElem?_eq_none (by rw [Array.length_toList, size_madeCells]; omega), List.getElem?_eq_none (by rw [flat_length, List.length_replicate]; omega)]

theorem rep_step {n k m : Nat} (c z : Cl) (hm : k + m ≤ n) :
    (List.replicate k c ++ List.replicate (n - k) z).take k ++ (List.replicate m c ++ (List.replicate k c ++ List.replicate (n - k) z).drop (k + m)) = List.replicate (k + m) c ++ List.replicate (n - (k + m)) z := by
  have hl : (List.replicate k c).length = k := List.length_replicate
  rw [List.take_append_of_le_length (by rw [hl]; exact Nat.le_refl _), List.take_of_length_le (by rw [hl]; exact Nat.le_refl _), List.drop_append, List.drop_of_length_le (by rw [hl]; omega), List.nil_append, hl, List.drop_replicate, ← List.append_assoc, List.replicate_append_replicate]
  congr 2
  omega
set_option maxHeartbeats 800000 in
theorem repeat_any (c : Cl) (x : Value) (n : Nat) (w : World) (hx : Cs w x [c]) (hn : n ≤ 1000000) :
    Calls Try.prog 48 #[x, .int .i64 n] w fun e w' => ∃ v, e = .returned v ∧ OwnCs w' w.heap.size v (List.replicate n c) ∧ Below w.heap.size w w' := by
  obtain ⟨i, hi, hz, h6, h56⟩ := cell_row
  have hx0 := hx
  obtain ⟨A, cp, rfl, hA⟩ := hx.form
  obtain ⟨ad, rfl, _⟩ := hA 0 (by simp)
  have HX := Lib.hid hx0
  clear hA hx hx0
  go_enter Try.func48, Try.ntmps48
  go_wp2_with fail
  refine (mul_one n hn _).mono ?_; rintro e w' ⟨rfl, rfl⟩
  obtain ⟨m, hm, hm1, hm0⟩ : ∃ m, m = Nat.min 1 n ∧ m ≤ n ∧ (m = 0 → n = 0) := ⟨_, rfl, Nat.min_le_right _ _, fun h => by have : Nat.min 1 n = min 1 n := rfl; omega⟩
  have hm2 : m ≤ 1 := by rw [hm]; exact Nat.min_le_left _ _
  have HSRC : Hid (∀ w' : World, Below w.heap.size w w' → ∀ j u, (flat (List.replicate m c))[j]? = some u → w'.cell? (ad.add j) = some u) := Lib.hid fun w' hb j u hu => by
    have hc := (HX.out.kept hb).flat.2
    rcases (by omega : m = 0 ∨ m = 1) with e | e
    · rw [e] at hu; simp [flat] at hu
    · rw [e] at hu; exact hc j u hu
  go_wp2_with (first
    | (at_make; refine wpList_make_full _ rfl _ _ _ rfl w.heap.size 39 i _ 6 Try.underlying22 hi hz h6 .i64 .i64 _ _ n rfl rfl (by go_num) (by go_num) (by rw [h56]; omega) (by simp only [maxLen]; omega) (Nat.le_refl _) ?_; intro w1 ho1 hg1; rw [made_zero] at ho1; have HW1 := Lib.hid (Whole.of (l := List.replicate n zero) (by rw [List.length_replicate]; exact ho1)); have HB1 : Hid (Below w.heap.size w w1) := Lib.hid ((Below.refl _ w).grown hg1 (Nat.le_refl _) (fun k hk => by cases hk)); clear ho1)
    | (with_reducible refine wp_copy_cs (o := ⟨some 33, _, _, _, _, _⟩) rfl rfl w.heap.size 0 n n 1 cp m 0 ad (List.replicate n zero) (List.replicate m c) rfl rfl rfl HW1.out hm List.length_replicate (by rw [List.length_replicate]; omega) (HSRC.out _ HB1.out) ?_; intro w2 hw2 hb2; have HW2 := Lib.hid hw2; have HB2 := Lib.hid (hb2 _ _ HB1.out (Nat.le_refl _)); clear hw2 hb2))
  have HW3 : Hid (Whole w2 w.heap.size (List.replicate m c ++ List.replicate (n - m) zero)) := Lib.hid (by
    have h := HW2.out
    rwa [List.take_zero, List.nil_append, Nat.zero_add, List.drop_replicate] at h)
  clear HW2
  go_loopw [8] (fun i wr => ∃ k : Nat, k ≤ n ∧ (k = 0 → n = 0) ∧ i = .int .i64 k ∧ Hid (Whole wr w.heap.size (List.replicate k c ++ List.replicate (n - k) zero)) ∧ Below w.heap.size w wr) (fun i _ => n - (intOf i).toNat)
  case atStart => exact ⟨m, hm1, hm0, by go_num, HW3, HB2.out⟩
  case round =>
    obtain ⟨k, hk, hk0, rfl, HW, hbl⟩ := hrel
    by_cases hlt : k < n
    · have hne : ¬ n = k := by omega
      obtain ⟨p, hp, hp1, hp2⟩ : ∃ p, p = Nat.min k (n - k) ∧ 0 < p ∧ k + p ≤ n := ⟨_, rfl, by have : Nat.min k (n - k) = min k (n - k) := rfl; omega, by have : Nat.min k (n - k) = min k (n - k) := rfl; omega⟩
      have hpk : p ≤ k := by rw [hp]; exact Nat.min_le_left _ _
      have HSR : Hid (∀ j u, (flat (List.replicate p c))[j]? = some u → wr.drew.cell? ((⟨w.heap.size, 0, none⟩ : Addr).add j) = some u) := Lib.hid (Whole.cell (w := wr.drew) HW.out (t := List.replicate (k - p) c ++ List.replicate (n - k) zero) (by rw [← List.append_assoc, List.replicate_append_replicate]; congr 2; omega))
      have HLL : Hid ((List.replicate k c ++ List.replicate (n - k) zero).length = n) := Lib.hid (by simp; omega)
      have hwrap : IntKind.i64.wrap ((k : Int) + (p : Int)) = (k : Int) + (p : Int) := by rw [IntKind.wrap_i64]; omega
      have HPP := Lib.hid hp
      clear hp
      have HWD : Hid (Whole wr.drew w.heap.size (List.replicate k c ++ List.replicate (n - k) zero)) := Lib.hid HW.out
      have HBD : Hid (Below w.heap.size w wr.drew) := Lib.hid hbl.drew
      go_wp2_with fail
      go_region_law (refine step_copy_cs rfl rfl w.heap.size k (n - k) (n - k) k n p (k * 6) ⟨w.heap.size, 0, none⟩ (List.replicate k c ++ List.replicate (n - k) zero) (List.replicate p c) (by go_simp) (by go_simp) rfl HWD.out HPP.out List.length_replicate (by rw [HLL.out]; exact hp2) HSR.out ?_; intro w3 hw3 hb3; have HW4 := Lib.hid hw3; have HB4 := Lib.hid (hb3 _ _ HBD.out (Nat.le_refl _)); clear hw3 hb3)
      have HW5 : Hid (Whole w3 w.heap.size (List.replicate (k + p) c ++ List.replicate (n - (k + p)) zero)) := Lib.hid (by rw [← rep_step c zero hp2]; exact HW4.out)
      clear HW4
      go_simp
      go_wp2_with fail
      go_roundw
      case rel => exact ⟨k + p, hp2, by omega, by go_num, HW5, HB4.out⟩
      case measure => simp [intOf]; omega
    · have hkn : k = n := by omega
      subst hkn
      have HE : Hid (List.replicate k c ++ List.replicate (k - k) zero = List.replicate k c) := Lib.hid (by simp)
      have HO : Hid (OwnCs wr w.heap.size (.slice (some ⟨w.heap.size, 0, none⟩) k k) (List.replicate k c)) := Lib.hid (by
        have h := HW.out
        rw [HE.out] at h
        have := h.own (Nat.le_refl w.heap.size) (by rw [List.length_replicate]; exact hn)
        rwa [List.length_replicate] at this)
      go_wp2_with fail
      go_ret
      exact ⟨_, rfl, HO.out, hbl⟩
end Row
end Go.Proofs.Ythkfcfmnccfbnaa
