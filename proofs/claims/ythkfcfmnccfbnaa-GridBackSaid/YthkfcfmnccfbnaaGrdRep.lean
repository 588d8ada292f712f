/- The library's Repeat of one line. -/
import Derived.Test.YthkfcfmnccfbnaaGrdLib
namespace Go.Proofs.Ythkfcfmnccfbnaa
set_option maxRecDepth 100000
open Go.RowKit
namespace Row

/-- Block b holds these lines and nothing else; what is behind them is no line yet. -/
def WholeL (w : World) (b : Nat) (vs : List Value) : Prop := w.heap[b]? = some (.cells vs.toArray 54 (0, 0))
theorem WholeL.own {w : World} {b : Nat} {l : List Ln} (h : WholeL w b (lvs l)) {base : Nat} (hb : base ≤ b) (hl : l.length ≤ 1000000) : OwnL w base (.slice (some ⟨b, 0, none⟩) l.length l.length) l := by
  refine ⟨by rw [lvs_length, Nat.mul_one], .inr ⟨b, l.length, _, rfl, hb, h, Nat.le_refl _, by simp only [maxLen]; omega, ?_, ?_⟩⟩
  · simp [lvs_length]
  · rw [Nat.mul_one, ← lvs_length]; simp
theorem WholeL.of {w : World} {base b n : Nat} {vs : List Value} (h : w.ownsRow base 54 1 (.slice (some ⟨b, 0, none⟩) n n) n vs) : WholeL w b vs := by
  rcases h.2 with ⟨e, _⟩ | ⟨b', cap, cur, e, _, hg, _, _, hs, ht⟩
  · injection e with e; cases e
  · injection e with e1 e2 e3
    injection e1 with e1
    injection e1 with e1
    subst e1
    subst e3
    unfold WholeL
    rw [hg]
    have : cur.toList = vs := by
      rw [← ht, List.take_of_length_le (by rw [Array.length_toList, hs]; exact Nat.le_refl _)]
    rw [← this]
theorem run_copy_ln {w : World} {ty : TypeId} {b k dLen dCap sLen sCap m : Nat} {a : Addr} {l r : List Value} (h : WholeL w b l) (hm : m = Nat.min sLen dLen) (hr : r.length = m) (hk : k + m ≤ l.length)
    (hsrc : ∀ j u, r[j]? = some u → w.cell? (a.add j) = some u) (h1 : ∀ v ∈ r, v.oneCell' = true) :
    ∃ w', (Builtin.copy_ #[50, 50] ty #[.slice (some ⟨b, k, none⟩) dLen dCap, .slice (some a) sLen sCap]).run Try.prog w = .ok (goInt m) w' ∧ WholeL w' b (l.take k ++ (r ++ l.drop (k + m))) ∧
      ∀ B w0, Below B w0 w → B ≤ b → Below B w0 w' := by
  obtain ⟨i, hi, hz, h1', h16⟩ := line_row
  have hrun := run_copy_wide (P := Try.prog) w 50 50 ty 54 b k dLen dCap a sLen sCap _ _ r 1 m Try.underlying50 (by rw [hi]; simp [h1']) h hm (by rw [hr, Nat.mul_one]) hsrc
    (by simp only [List.size_toArray]; rw [hr]; omega) h1
  refine ⟨_, hrun, ?_, fun B w0 hb hB => below_setRow hb hB _⟩
  have hrow := setRow_heap w b _ (l.toArray.toList.take k ++ r ++ l.toArray.toList.drop (k + r.length)).toArray _ _ h
  unfold WholeL
  rw [hrow, hr, List.append_assoc]
theorem wp_copy_ln {w : World} {ops : Array Oper} {rest : List Oper} {o : Oper} {a : Act} {Q : Exit → Act → World → Prop} {d s : Operand} (hgd : o.guard = none)
    (ho : o.op = .call { callee := .builtin .copy, args := #[d, s], argTypes := #[50, 50] }) (b k dLen dCap sLen sCap m : Nat) (ad : Addr) (l r : List Value)
    (hd : a.eval d = .slice (some ⟨b, k, none⟩) dLen dCap) (hs : a.eval s = .slice (some ad) sLen sCap) (h : WholeL w b l) (hm : m = Nat.min sLen dLen) (hr : r.length = m) (hk : k + m ≤ l.length)
    (hsrc : ∀ j u, r[j]? = some u → w.cell? (ad.add j) = some u) (h1 : ∀ v ∈ r, v.oneCell' = true)
    (hK : ∀ w', WholeL w' b (l.take k ++ (r ++ l.drop (k + m))) → (∀ B w0, Below B w0 w → B ≤ b → Below B w0 w') → wpList Try.prog ops Q rest (a.put o.dst (goInt m)) w') : wpList Try.prog ops Q (o :: rest) a w := by
  refine wpList_plain hgd fun K hK' => ?_
  obtain ⟨w', hrun, h1, h2⟩ := run_copy_ln (ty := o.type) (dCap := dCap) (sCap := sCap) h hm hr hk hsrc h1
  unfold Oper.wp execOp
  simp only [ho, resolve, invoke, builtin, Sem.run_bind, Sem.run_pure, Result.andThen_ok, List.map_toArray, List.map_cons, List.map_nil, hs, hd, hrun]
  exact hK' _ _ (hK w' h1 h2)
theorem step_copy_ln {w : World} {ops : Array Oper} {o : Oper} {a : Act} {K : Act → World → Prop} {Q : Exit → Act → World → Prop} {E : Prop} {d s : Operand} (hgd : o.guard = none)
    (ho : o.op = .call { callee := .builtin .copy, args := #[d, s], argTypes := #[50, 50] }) (b k dLen dCap sLen sCap m : Nat) (ad : Addr) (l r : List Value)
    (hd : a.eval d = .slice (some ⟨b, k, none⟩) dLen dCap) (hs : a.eval s = .slice (some ad) sLen sCap) (h : WholeL w b l) (hm : m = Nat.min sLen dLen) (hr : r.length = m) (hk : k + m ≤ l.length)
    (hsrc : ∀ j u, r[j]? = some u → w.cell? (ad.add j) = some u) (h1 : ∀ v ∈ r, v.oneCell' = true)
    (hK : ∀ w', WholeL w' b (l.take k ++ (r ++ l.drop (k + m))) → (∀ B w0, Below B w0 w → B ≤ b → Below B w0 w') → K (a.put o.dst (goInt m)) w') :
    if Region.wanted o (yielded ops a.tmps) = true then Oper.wp Try.prog o a w K Q else E := by
  have hw : Region.wanted o (yielded ops a.tmps) = true := by simp [Region.wanted, hgd]
  rw [if_pos hw]
  obtain ⟨w', hrun, h1, h2⟩ := run_copy_ln (ty := o.type) (dCap := dCap) (sCap := sCap) h hm hr hk hsrc h1
  unfold Oper.wp execOp
  simp only [ho, resolve, invoke, builtin, Sem.run_bind, Sem.run_pure, Result.andThen_ok, List.map_toArray, List.map_cons, List.map_nil, hs, hd, hrun]
  exact hK w' h1 h2
theorem WholeL.cell {w : World} {b : Nat} {l r t : List Value} (h : WholeL w b l) (e : l = r ++ t) : ∀ j u, r[j]? = some u → w.cell? ((⟨b, 0, none⟩ : Addr).add j) = some u := by
  intro j u hu
  have hj : j < r.length := (List.getElem?_eq_some_iff.1 hu).1
  have ha : (⟨b, 0, none⟩ : Addr).add j = ⟨b, j, none⟩ := by
    unfold Addr.add
    by_cases h0 : j = 0
    · subst h0; rfl
    · simp [h0]
  rw [ha, Blk.cell h, e]
  rw [List.getElem?_toArray, List.getElem?_append_left hj]
  exact hu
theorem madeL_zero (n : Nat) : (madeCells Value.nilIface.cells (n * 1)).toList = List.replicate n Value.nilIface := by
  apply List.ext_getElem?
  intro j
  by_cases hj : j < n
  · simp only [madeCells, Value.cells]
    rw [Array.getElem?_toList, Array.getElem?_map, Array.getElem?_range]
    simp [hj, Nat.mod_one]
  · rw [List.getElem?_eq_none (by rw [Array.length_toList, size_madeCells]; omega), List.getElem?_eq_none (by rw [List.length_replicate]; omega)]
theorem repL_step {n k m : Nat} (c z : Value) (hm : k + m ≤ n) :
    (List.replicate k c ++ List.replicate (n - k) z).take k ++ (List.replicate m c ++ (List.replicate k c ++ List.replicate (n - k) z).drop (k + m)) = List.replicate (k + m) c ++ List.replicate (n - (k + m)) z := by
  have hl : (List.replicate k c).length = k := List.length_replicate
  rw [List.take_append_of_le_length (by rw [hl]; exact Nat.le_refl _), List.take_of_length_le (by rw [hl]; exact Nat.le_refl _), List.drop_append, List.drop_of_length_le (by rw [hl]; omega), List.nil_append, hl, List.drop_replicate, ← List.append_assoc, List.replicate_append_replicate]
  congr 2
  omega
set_option maxHeartbeats 800000 in
theorem repeatL_any (c : Ln) (x : Value) (n : Nat) (w : World) (hx : Sv w x [c]) (hn : n ≤ 1000000) :
    Calls Try.prog 30 #[x, .int .i64 n] w fun e w' => ∃ v, e = .returned v ∧ OwnL w' w.heap.size v (List.replicate n c) ∧ Below w.heap.size w w' := by
  obtain ⟨i, hi, hz, h1, h16⟩ := line_row
  have hx0 := hx
  obtain ⟨_, A, cp, rfl, hcp⟩ := hx
  obtain ⟨ad, rfl, hA⟩ := hx0.get (k := 0) (by simp)
  have hone : ∀ k : Nat, ∀ u ∈ List.replicate k (lv c), u.oneCell' = true := fun k u hu => by rw [(List.mem_replicate.1 hu).2]; exact lv_cell c
  have HX := Lib.hid hx0
  clear hA hx0
  go_enter Try.func30, Try.ntmps30
  go_wp2_with fail
  refine (mul_one n hn _).mono ?_; rintro e w' ⟨rfl, rfl⟩
  obtain ⟨m, hm, hm1, hm0⟩ : ∃ m, m = Nat.min 1 n ∧ m ≤ n ∧ (m = 0 → n = 0) := ⟨_, rfl, Nat.min_le_right _ _, fun h => by have : Nat.min 1 n = min 1 n := rfl; omega⟩
  have hm2 : m ≤ 1 := by rw [hm]; exact Nat.min_le_left _ _
  have HSRC : Hid (∀ w' : World, Below w.heap.size w w' → ∀ j u, (List.replicate m (lv c))[j]? = some u → w'.cell? (ad.add j) = some u) := Lib.hid fun w' hb j u hu => by
    obtain ⟨ad', e, hc⟩ := (HX.out.kept hb).get (k := 0) (by simp)
    injection e with e
    subst e
    rcases (by omega : m = 0 ∨ m = 1) with e | e
    · rw [e] at hu; simp at hu
    · rw [e] at hu
      have hj : j = 0 := by
        have := (List.getElem?_eq_some_iff.1 hu).1
        simpa using this
      subst hj
      have : lv c = u := by simpa using hu
      subst this
      exact hc
  go_wp2_with (first
    | (at_make; refine wpList_make_full _ rfl _ _ _ rfl w.heap.size 54 i _ 1 Try.underlying50 hi hz h1 .i64 .i64 _ _ n rfl rfl (by go_num) (by go_num) (by rw [h16]; omega) (by simp only [maxLen]; omega) (Nat.le_refl _) ?_; intro w1 ho1 hg1; rw [madeL_zero] at ho1; have HW1 := Lib.hid (WholeL.of ho1); have HB1 : Hid (Below w.heap.size w w1) := Lib.hid ((Below.refl _ w).grown hg1 (Nat.le_refl _) (fun k hk => by cases hk)); clear ho1)
    | (with_reducible refine wp_copy_ln (o := ⟨some 33, _, _, _, _, _⟩) rfl rfl w.heap.size 0 n n 1 cp m ad (List.replicate n Value.nilIface) (List.replicate m (lv c)) rfl rfl HW1.out hm List.length_replicate (by rw [List.length_replicate]; omega) (HSRC.out _ HB1.out) (hone m) ?_; intro w2 hw2 hb2; have HW2 := Lib.hid hw2; have HB2 := Lib.hid (hb2 _ _ HB1.out (Nat.le_refl _)); clear hw2 hb2))
  have HW3 : Hid (WholeL w2 w.heap.size (List.replicate m (lv c) ++ List.replicate (n - m) Value.nilIface)) := Lib.hid (by
    have h := HW2.out
    rwa [List.take_zero, List.nil_append, Nat.zero_add, List.drop_replicate] at h)
  clear HW2
  go_loopw [8] (fun i wr => ∃ k : Nat, k ≤ n ∧ (k = 0 → n = 0) ∧ i = .int .i64 k ∧ Hid (WholeL wr w.heap.size (List.replicate k (lv c) ++ List.replicate (n - k) Value.nilIface)) ∧ Below w.heap.size w wr) (fun i _ => n - (intOf i).toNat)
  case atStart => exact ⟨m, hm1, hm0, by go_num, HW3, HB2.out⟩
  case round =>
    obtain ⟨k, hk, hk0, rfl, HW, hbl⟩ := hrel
    by_cases hlt : k < n
    · have hne : ¬ n = k := by omega
      obtain ⟨p, hp, hp1, hp2⟩ : ∃ p, p = Nat.min k (n - k) ∧ 0 < p ∧ k + p ≤ n := ⟨_, rfl, by have : Nat.min k (n - k) = min k (n - k) := rfl; omega, by have : Nat.min k (n - k) = min k (n - k) := rfl; omega⟩
      have hpk : p ≤ k := by rw [hp]; exact Nat.min_le_left _ _
      have HSR : Hid (∀ j u, (List.replicate p (lv c))[j]? = some u → wr.drew.cell? ((⟨w.heap.size, 0, none⟩ : Addr).add j) = some u) := Lib.hid (WholeL.cell (w := wr.drew) HW.out (t := List.replicate (k - p) (lv c) ++ List.replicate (n - k) Value.nilIface) (by rw [← List.append_assoc, List.replicate_append_replicate]; congr 2; omega))
      have HLL : Hid ((List.replicate k (lv c) ++ List.replicate (n - k) Value.nilIface).length = n) := Lib.hid (by simp; omega)
      have hwrap : IntKind.i64.wrap ((k : Int) + (p : Int)) = (k : Int) + (p : Int) := by rw [IntKind.wrap_i64]; omega
      have HPP := Lib.hid hp
      clear hp
      have HWD : Hid (WholeL wr.drew w.heap.size (List.replicate k (lv c) ++ List.replicate (n - k) Value.nilIface)) := Lib.hid HW.out
      have HBD : Hid (Below w.heap.size w wr.drew) := Lib.hid hbl.drew
      go_wp2_with fail
      go_region_law (refine step_copy_ln rfl rfl w.heap.size k (n - k) (n - k) k n p ⟨w.heap.size, 0, none⟩ (List.replicate k (lv c) ++ List.replicate (n - k) Value.nilIface) (List.replicate p (lv c)) (by go_simp) (by go_simp) HWD.out HPP.out List.length_replicate (by rw [HLL.out]; exact hp2) HSR.out (hone p) ?_; intro w3 hw3 hb3; have HW4 := Lib.hid hw3; have HB4 := Lib.hid (hb3 _ _ HBD.out (Nat.le_refl _)); clear hw3 hb3)
      have HW5 : Hid (WholeL w3 w.heap.size (List.replicate (k + p) (lv c) ++ List.replicate (n - (k + p)) Value.nilIface)) := Lib.hid (by rw [← repL_step (lv c) Value.nilIface hp2]; exact HW4.out)
      clear HW4
      go_simp
      go_wp2_with fail
      go_roundw
      case rel => exact ⟨k + p, hp2, by omega, by go_num, HW5, HB4.out⟩
      case measure => simp [intOf]; omega
    · have hkn : k = n := by omega
      subst hkn
      have HE : Hid (List.replicate k (lv c) ++ List.replicate (k - k) Value.nilIface = lvs (List.replicate k c)) := Lib.hid (by simp [lvs])
      have HO : Hid (OwnL wr w.heap.size (.slice (some ⟨w.heap.size, 0, none⟩) k k) (List.replicate k c)) := Lib.hid (by
        have h := HW.out
        rw [HE.out] at h
        have := h.own (Nat.le_refl w.heap.size) (by rw [List.length_replicate]; exact hn)
        rwa [List.length_replicate] at this)
      go_wp2_with fail
      go_ret
      exact ⟨_, rfl, HO.out, hbl⟩
end Row
end Go.Proofs.Ythkfcfmnccfbnaa
