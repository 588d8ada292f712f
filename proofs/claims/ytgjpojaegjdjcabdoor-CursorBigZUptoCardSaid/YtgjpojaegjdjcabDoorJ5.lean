/- Joined texts: RowLib, RowLib2, RowRep, RowOps, RowOps2, RowPut, RowErase, GrdSmall, GrdLine, GrdEq. -/
import Derived.Test.YtgjpojaegjdjcabDoorJ1
import Derived.Test.YtgjpojaegjdjcabDoorJ2
import Derived.Test.YtgjpojaegjdjcabDoorJ4
import Derived.Lib.AppendZerosOnto
import Derived.Lib.SliceRun
import Derived.Lib.Walk
import Derived.Lib.Mul64
import Derived.Laws.BitsAllLaws
import Derived.Laws.CopyOwn
import Derived.Deep.RegionLaw
import Derived.Deep.RegionHeld3
section
/- The library's Clone, Grow, Concat and Repeat at cells of a row. -/
namespace Go.Proofs.YtgjpojaegjdjcabDoor
set_option maxRecDepth 100000
open Go.RowKit
namespace Row

@[go_sem] theorem eql_nil (w : World) (a : Option Addr) (n c n' c' : Nat) : (binOp .eql 28 (.slice a n c) (.slice none n' c')).run Tryd.prog w = .ok (.bool a.isNone) w := Lib.run_eql_slice_nil w _ _ a n c n' c' Tryd.underlying28
set_option maxHeartbeats 800000 in
theorem clone_any (l : List Cl) (x : Value) (w : World) (hx : Cs w x l) (hn : l.length ≤ 1000000) :
    Calls Tryd.prog 52 #[x] w fun e w' => ∃ v, e = .returned v ∧ OwnCs w' w.heap.size v l ∧ Below w.heap.size w w' := by
  rcases hx.2.2 with ⟨rfl, h0⟩ | ⟨ad, c, rfl, _⟩
  · have hl : l = [] := List.eq_nil_of_length_eq_zero h0
    subst hl
    go_enter Tryd.func52, Tryd.ntmps52
    go_wp2_with fail
    go_ret
    exact ⟨_, rfl, OwnCs.nil _ _, Below.refl _ _⟩
  · have HX := Lib.hid hx
    clear hx
    go_enter Tryd.func52, Tryd.ntmps52
    go_wp2_with (at_builtin; refine wp_append_cs rfl rfl w.heap.size _ _ [] l rfl (World.ownsRow_made w #[] 0 (Nat.le_refl _) (Nat.zero_le _) rfl) rfl (HX.out.kept ((Below.refl _ _).alloc (Nat.le_refl _) _)) (by simp; omega) (by simp) ?_; intro v1 w1 ho1 hg1 hat1)
    go_ret
    refine ⟨_, rfl, ho1, ?_⟩
    exact ((Below.refl _ w).alloc (Nat.le_refl _) _).grown hg1 (by simp) (by intro k hk; have hk : some w.heap.size = some k := hk; injection hk with hk; omega)
end Row
end Go.Proofs.YtgjpojaegjdjcabDoor
end
section
/- The library's Mul, Grow and Concat at cells of a row; copy of elements of several cells. -/
namespace Go.Proofs.YtgjpojaegjdjcabDoor
set_option maxRecDepth 100000
open Go.RowKit
namespace Row

theorem run_copy_wide {P : Program} (w : World) (dT sT ty elem : TypeId) (g o dLen dCap : Nat) (a : Addr) (sLen sCap : Nat) (cur : Array Value) (t : TypeId) (cs : List Value) (sz m : Nat)
    (hu : P.underlying dT = some (.slice elem)) (hs : (P.info? elem).map (·.size) = some sz)
    (hg : w.heap[g]? = some (.cells cur t (0, 0))) (hm : m = Nat.min sLen dLen) (hn : cs.length = m * sz)
    (hsrc : ∀ j v, cs[j]? = some v → w.cell? (a.add j) = some v) (hfit : o + cs.length ≤ cur.size) (h1 : ∀ v ∈ cs, v.oneCell' = true) :
    (Builtin.copy_ #[dT, sT] ty #[.slice (some ⟨g, o, none⟩) dLen dCap, .slice (some a) sLen sCap]).run P w =
      .ok (goInt m) (w.setRow g (cur.toList.take o ++ cs ++ cur.toList.drop (o + cs.length)).toArray) := by
  have hl := run_loadCells_list (P := P) w a cs hsrc
  have hst := run_storeCells_at P g o t cs 0 cur w hg (by simpa using hfit) h1
  cases hq : P.info? elem with
  | none => simp [hq] at hs
  | some i =>
    have hi : i.size = sz := by simpa [hq] using hs
    simp [Builtin.copy_, run_underlying hu, Builtin.lenOf, Builtin.firstCells, sizeOf, typeInfo, hq, hi, ← hm, ← hn, hl, hst]

theorem run_grow {w : World} {n : Nat} {ty : TypeId} (h0 : 0 < n) (hn : n ≤ 1000000) :
    ∃ cap w', (Builtin.append_ #[28, 3] ty #[.slice none 0 0, .int .i64 n]).run Tryd.prog w = .ok (.slice (some ⟨w.heap.size, 0, none⟩) n cap) w' ∧ n ≤ cap ∧ OwnCs w' w.heap.size (.slice (some ⟨w.heap.size, 0, none⟩) 0 cap) [] ∧ Below w.heap.size w w' := by
  obtain ⟨i, hi, hz, h6, h56⟩ := cell_row
  have hr := Lib.run_append_nil_zeros (P := Tryd.prog) w 28 3 ty 81 i _ .i64 .i64 Tryd.underlying28 Tryd.underlying3 hi hz n h0 (by rw [h6]; decide) (by omega) (by rw [h56]; omega)
  refine ⟨_, _, hr, ?_, ?_, ?_⟩
  · have := grownCap_ge w n 0 81; omega
  · have hge := grownCap_ge w n 0 81
    have hle := grownCap_le_maxLen w n 0 81 (by simp only [maxLen]; omega)
    generalize grownCap w n 0 81 = cap at hge hle
    refine ⟨rfl, .inr ⟨w.heap.size, cap, _, rfl, Nat.le_refl _, heap_alloc_new w.drew _, Nat.zero_le _, hle, ?_, rfl⟩⟩
    simp only [Array.size_append, size_zeroCells]
    show n * 6 + (cap - n) * 6 = cap * 6
    omega
  · exact ((Below.refl _ _).drew).alloc (Nat.le_refl _) _

def lensTo (ls : List (List Cl)) (k : Nat) : Nat := (ls.take k).flatten.length
theorem take_succ_ls {ls : List (List Cl)} {k : Nat} (h : k < ls.length) : (ls.take (k + 1)).flatten = (ls.take k).flatten ++ ls.getD k [] := by
  rw [List.take_succ_eq_append_getElem h, List.flatten_append]; simp [List.getD, h]
theorem lensTo_le (ls : List (List Cl)) (k : Nat) : lensTo ls k ≤ ls.flatten.length := by
  unfold lensTo
  have h : ls.flatten = (ls.take k).flatten ++ (ls.drop k).flatten := by rw [← List.flatten_append, List.take_append_drop]
  rw [h, List.length_append]; omega
end Row
end Go.Proofs.YtgjpojaegjdjcabDoor
end
section
/- The library's Repeat of one cell. -/
namespace Go.Proofs.YtgjpojaegjdjcabDoor
set_option maxRecDepth 100000
open Go.RowKit
namespace Row

/-- Block b holds these cells and nothing else. -/
def Whole (w : World) (b : Nat) (l : List Cl) : Prop := w.heap[b]? = some (.cells (flat l).toArray 81 (0, 0))
theorem Whole.own {w : World} {b : Nat} {l : List Cl} (h : Whole w b l) {base : Nat} (hb : base ≤ b) (hl : l.length ≤ 1000000) : OwnCs w base (.slice (some ⟨b, 0, none⟩) l.length l.length) l := by
  refine ⟨flat_length l, .inr ⟨b, l.length, _, rfl, hb, h, Nat.le_refl _, by simp only [maxLen]; omega, ?_, ?_⟩⟩
  · simp [flat_length]
  · rw [← flat_length]; simp
theorem Whole.of {w : World} {base b : Nat} {l : List Cl} (h : w.ownsRow base 81 6 (.slice (some ⟨b, 0, none⟩) l.length l.length) l.length (flat l)) : Whole w b l := by
  rcases h.2 with ⟨e, _⟩ | ⟨b', cap, cur, e, _, hg, _, _, hs, ht⟩
  · injection e with e; cases e
  · injection e with e1 e2 e3
    injection e1 with e1
    injection e1 with e1
    subst e1
    subst e3
    unfold Whole
    rw [hg]
    have : cur.toList = flat l := by
      rw [← ht, List.take_of_length_le (by rw [Array.length_toList, hs]; exact Nat.le_refl _)]
    rw [← this]
theorem run_copy_cs {w : World} {ty : TypeId} {b k dLen dCap sLen sCap m : Nat} {a : Addr} {l r : List Cl} (h : Whole w b l) (hm : m = Nat.min sLen dLen) (hr : r.length = m) (hk : k + m ≤ l.length)
    (hsrc : ∀ j u, (flat r)[j]? = some u → w.cell? (a.add j) = some u) :
    ∃ w', (Builtin.copy_ #[28, 28] ty #[.slice (some ⟨b, k * 6, none⟩) dLen dCap, .slice (some a) sLen sCap]).run Tryd.prog w = .ok (goInt m) w' ∧ Whole w' b (l.take k ++ (r ++ l.drop (k + m))) ∧
      ∀ B w0, Below B w0 w → B ≤ b → Below B w0 w' := by
  obtain ⟨i, hi, hz, h6, h56⟩ := cell_row
  have hrun := run_copy_wide (P := Tryd.prog) w 28 28 ty 81 b (k * 6) dLen dCap a sLen sCap _ _ (flat r) 6 m Tryd.underlying28 (by rw [hi]; simp [h6]) h hm (by rw [flat_length, hr]) hsrc
    (by simp only [List.size_toArray, flat_length]; rw [hr]; omega) (flat_cells r)
  refine ⟨_, hrun, ?_, fun B w0 hb hB => below_setRow hb hB _⟩
  have hrow := setRow_heap w b _ ((flat l).toArray.toList.take (k * 6) ++ flat r ++ (flat l).toArray.toList.drop (k * 6 + (flat r).length)).toArray _ _ h
  unfold Whole
  rw [hrow]
  have e1 : (flat l).take (k * 6) = flat (l.take k) := by
    have hs : l = l.take k ++ l.drop k := (List.take_append_drop k l).symm
    have hl : (flat (l.take k)).length = k * 6 := by rw [flat_length, List.length_take]; rw [Nat.min_eq_left (by omega)]
    conv => lhs; rw [hs, flat_append]
    rw [List.take_append_of_le_length (by omega), List.take_of_length_le (by omega)]
  have e2 : (flat l).drop (k * 6 + (flat r).length) = flat (l.drop (k + m)) := by
    have hs : l = l.take (k + m) ++ l.drop (k + m) := (List.take_append_drop (k + m) l).symm
    have hl : (flat (l.take (k + m))).length = k * 6 + (flat r).length := by rw [flat_length, flat_length, List.length_take, hr]; rw [Nat.min_eq_left (by omega)]; omega
    conv => lhs; rw [hs, flat_append]
    rw [← hl, List.drop_left]
  rw [e1, e2, List.append_assoc, ← flat_append, ← flat_append]
theorem wp_copy_cs {w : World} {ops : Array Oper} {rest : List Oper} {o : Oper} {a : Act} {Q : Exit → Act → World → Prop} {d s : Operand} (hgd : o.guard = none)
    (ho : o.op = .call { callee := .builtin .copy, args := #[d, s], argTypes := #[28, 28] }) (b k dLen dCap sLen sCap m off : Nat) (ad : Addr) (l r : List Cl)
    (hd : a.eval d = .slice (some ⟨b, off, none⟩) dLen dCap) (hs : a.eval s = .slice (some ad) sLen sCap) (hoff : off = k * 6) (h : Whole w b l) (hm : m = Nat.min sLen dLen) (hr : r.length = m) (hk : k + m ≤ l.length)
    (hsrc : ∀ j u, (flat r)[j]? = some u → w.cell? (ad.add j) = some u)
    (hK : ∀ w', Whole w' b (l.take k ++ (r ++ l.drop (k + m))) → (∀ B w0, Below B w0 w → B ≤ b → Below B w0 w') → wpList Tryd.prog ops Q rest (a.put o.dst (goInt m)) w') : wpList Tryd.prog ops Q (o :: rest) a w := by
  subst hoff
  refine wpList_plain hgd fun K hK' => ?_
  obtain ⟨w', hrun, h1, h2⟩ := run_copy_cs (ty := o.type) (dCap := dCap) (sCap := sCap) h hm hr hk hsrc
  unfold Oper.wp execOp
  simp only [ho, resolve, invoke, builtin, Sem.run_bind, Sem.run_pure, Result.andThen_ok, List.map_toArray, List.map_cons, List.map_nil, hs, hd, hrun]
  exact hK' _ _ (hK w' h1 h2)
theorem step_copy_cs {w : World} {ops : Array Oper} {o : Oper} {a : Act} {K : Act → World → Prop} {Q : Exit → Act → World → Prop} {E : Prop} {d s : Operand} (hgd : o.guard = none)
    (ho : o.op = .call { callee := .builtin .copy, args := #[d, s], argTypes := #[28, 28] }) (b k dLen dCap sLen sCap m off : Nat) (ad : Addr) (l r : List Cl)
    (hd : a.eval d = .slice (some ⟨b, off, none⟩) dLen dCap) (hs : a.eval s = .slice (some ad) sLen sCap) (hoff : off = k * 6) (h : Whole w b l) (hm : m = Nat.min sLen dLen) (hr : r.length = m) (hk : k + m ≤ l.length)
    (hsrc : ∀ j u, (flat r)[j]? = some u → w.cell? (ad.add j) = some u)
    (hK : ∀ w', Whole w' b (l.take k ++ (r ++ l.drop (k + m))) → (∀ B w0, Below B w0 w → B ≤ b → Below B w0 w') → K (a.put o.dst (goInt m)) w') :
    if Region.wanted o (yielded ops a.tmps) = true then Oper.wp Tryd.prog o a w K Q else E := by
  subst hoff
  have hw : Region.wanted o (yielded ops a.tmps) = true := by simp [Region.wanted, hgd]
  rw [if_pos hw]
  obtain ⟨w', hrun, h1, h2⟩ := run_copy_cs (ty := o.type) (dCap := dCap) (sCap := sCap) h hm hr hk hsrc
  unfold Oper.wp execOp
  simp only [ho, resolve, invoke, builtin, Sem.run_bind, Sem.run_pure, Result.andThen_ok, List.map_toArray, List.map_cons, List.map_nil, hs, hd, hrun]
  exact hK w' h1 h2
theorem Whole.cell {w : World} {b : Nat} {l r t : List Cl} (h : Whole w b l) (e : l = r ++ t) : ∀ j u, (flat r)[j]? = some u → w.cell? ((⟨b, 0, none⟩ : Addr).add j) = some u := by
  intro j u hu
  have hj : j < (flat r).length := (List.getElem?_eq_some_iff.1 hu).1
  have ha : (⟨b, 0, none⟩ : Addr).add j = ⟨b, j, none⟩ := by
    unfold Addr.add
    by_cases h0 : j = 0
    · subst h0; rfl
    · simp [h0]
  rw [ha, Blk.cell h, e, flat_append]
  rw [List.getElem?_toArray, List.getElem?_append_left hj]
  exact hu
def zero : Cl := ⟨0, [], 0, ⟨0, 0, 0⟩⟩
theorem made_zero (n : Nat) : (madeCells (Value.agg #[.int .i64 0, .string ⟨#[]⟩, .int .i64 0, .int .i64 0, .int .i64 0, .int .i64 0]).cells (n * 6)).toList = flat (List.replicate n zero) := by
  apply List.ext_getElem?
  intro j
  by_cases hj : j < n * 6
  · have hk : j / 6 < (List.replicate n zero).length := by rw [List.length_replicate]; omega
    have h6 : j % 6 < 6 := Nat.mod_lt _ (by decide)
    have e := flat_get hk h6
    rw [show j / 6 * 6 + j % 6 = j from by omega] at e
    rw [e]
    have hg : g (List.replicate n zero) (j / 6) = zero := by rw [g_eq hk, List.getElem_replicate]
    rw [hg]
    simp only [madeCells, Value.cells]
    rw [Array.getElem?_toList, Array.getElem?_map, Array.getElem?_range]
    simp [hj]
    have : j % 6 = 0 ∨ j % 6 = 1 ∨ j % 6 = 2 ∨ j % 6 = 3 ∨ j % 6 = 4 ∨ j % 6 = 5 := by omega
    rcases this with h | h | h | h | h | h <;> rw [h] <;> rfl
  · rw [List.getElem?_eq_none (by rw [Array.length_toList, size_madeCells]; omega), List.getElem?_eq_none (by rw [flat_length, List.length_replicate]; omega)]

theorem rep_step {n k m : Nat} (c z : Cl) (hm : k + m ≤ n) :
    (List.replicate k c ++ List.replicate (n - k) z).take k ++ (List.replicate m c ++ (List.replicate k c ++ List.replicate (n - k) z).drop (k + m)) = List.replicate (k + m) c ++ List.replicate (n - (k + m)) z := by
  have hl : (List.replicate k c).length = k := List.length_replicate
  rw [List.take_append_of_le_length (by rw [hl]; exact Nat.le_refl _), List.take_of_length_le (by rw [hl]; exact Nat.le_refl _), List.drop_append, List.drop_of_length_le (by rw [hl]; omega), List.nil_append, hl, List.drop_replicate, ← List.append_assoc, List.replicate_append_replicate]
  congr 2
  omega
end Row
end Go.Proofs.YtgjpojaegjdjcabDoor
end
section
/- The developers' rows: blanks, the cells of a rune, what is replaced in a row. -/
namespace Go.Proofs.YtgjpojaegjdjcabDoor
set_option maxRecDepth 100000
open Go.RowKit
namespace Row
open Utf Wid

theorem held_cut {l : List Cl} (h : Held l) (p : Nat) : Held (cutL l p) := by
  intro i hi
  rw [cutL_length] at hi
  rw [cutL_g]
  split
  · exact Nat.zero_le _
  · exact h i hi
/-- Its beginning. -/
theorem Cs.upto {w : World} {A : Option Addr} {n c : Nat} {l : List Cl} (h : Cs w (.slice A n c) l) (hc : n ≤ c) (k : Nat) (hk : k ≤ l.length) :
    (∀ w' : World, (Instr.slice 28 (.slice A n c) none (some (.int .i64 k)) none).run Tryd.prog w' = .ok (.slice A k c) w') ∧ Cs w (.slice A k c) (l.take k) := by
  obtain ⟨A', c', e, hf⟩ := h.form
  injection e with e1 e2 e3
  subst e1; subst e2; subst e3
  have hu : Tryd.prog.underlying 28 = some (.slice (Tryd.prog.elem 28)) := by kernel_rfl
  refine ⟨fun w' => ?_, ?_⟩
  · rw [run_slice_h w' 28 A l.length c hu .i64 k (by omega) (by omega)]
    have hs : (sizeOf (Tryd.prog.elem 28)).run Tryd.prog w' = .ok 6 w' := by kernel_rfl
    rw [hs]
    simp [Result.andThen, sliced]
    intro _
    cases A <;> simp [Addr.add]
  · have hl : (l.take k).length = k := by rw [List.length_take]; omega
    rcases h.2.2 with ⟨e, h0⟩ | ⟨ad, c2, e, hcell⟩
    · injection e with e1 e2 e3
      subst e1; subst e3
      have : k = 0 := by omega
      subst this
      exact Cs.nil w
    · injection e with e1 e2 e3
      subst e1; subst e3
      have := Cs.of (w := w) (ad := ad) (c := c) (l := l.take k) fun j u hu => by
        refine h.flat.2 j u ?_
        have hj : j < (Row.flat (l.take k)).length := (List.getElem?_eq_some_iff.1 hu).1
        have hs : Row.flat l = Row.flat (l.take k) ++ Row.flat (l.drop k) := by rw [← flat_append, List.take_append_drop]
        rw [hs, List.getElem?_append_left hj]; exact hu
      rwa [hl] at this
/-- Its end. -/
theorem Cs.from {w : World} {A : Option Addr} {n c : Nat} {l : List Cl} (h : Cs w (.slice A n c) l) (hc : n ≤ c) (k : Nat) (hk : k ≤ l.length) :
    Cs w (.slice (if c = k then A else A.map (fun x => x.add (k * 6))) (n - k) (c - k)) (l.drop k) := by
  obtain ⟨A', c', e, hf⟩ := h.form
  injection e with e1 e2 e3
  subst e1; subst e2; subst e3
  have hl : (l.drop k).length = l.length - k := List.length_drop
  rcases h.2.2 with ⟨e, h0⟩ | ⟨ad, c2, e, hcell⟩
  · injection e with e1 e2 e3
    subst e1; subst e3
    have h0 : l.length = 0 := h0
    have hl0 : l = [] := List.eq_nil_of_length_eq_zero h0
    subst hl0
    have hk0 : k = 0 := by simpa using hk
    subst hk0
    simp only [List.length_nil] at h0 ⊢
    exact Cs.nil w
  · injection e with e1 e2 e3
    subst e1; subst e3
    by_cases hck : c = k
    · rw [if_pos hck]
      have hd : l.drop k = [] := List.drop_eq_nil_of_le (by omega)
      have := Cs.of (w := w) (ad := ad) (c := c - k) (l := l.drop k) fun j u hu => by rw [hd] at hu; simp [Row.flat] at hu
      rwa [hl] at this
    · rw [if_neg hck]
      have := Cs.of (w := w) (ad := ad.add (k * 6)) (c := c - k) (l := l.drop k) fun j u hu => by
        rw [Go.Deep.add_add]
        refine h.flat.2 (k * 6 + j) u ?_
        have hlt : (Row.flat (l.take k)).length = k * 6 := by rw [flat_length, List.length_take, Nat.min_eq_left hk]
        have hs : Row.flat l = Row.flat (l.take k) ++ Row.flat (l.drop k) := by rw [← flat_append, List.take_append_drop]
        rw [hs, List.getElem?_append_right (by omega), hlt, show k * 6 + j - k * 6 = j from by omega]
        exact hu
      rwa [hl] at this
theorem OwnCs.room {w : World} {base n c : Nat} {A : Option Addr} {l : List Cl} (h : OwnCs w base (.slice A n c) l) : n ≤ c := by
  rcases h.shape with ⟨e, _⟩ | ⟨b, cap, e, _, hc⟩
  · injection e with e1 e2 e3; omega
  · injection e with e1 e2 e3; omega

end Row
end Go.Proofs.YtgjpojaegjdjcabDoor
end
section
/- The developers' rows: what is replaced in a row; Put, Erase, Insert, Delete. -/
namespace Go.Proofs.YtgjpojaegjdjcabDoor
set_option maxRecDepth 100000
open Go.RowKit
namespace Row
open Utf Wid

theorem repl_nil {l : List Cl} (p : Nat) : repl l p p [] = l := by unfold repl; rw [if_pos ⟨rfl, rfl⟩]
theorem three {w : World} {a b c : Value} {p q r : List Cl} (h1 : Cs w a p) (h2 : Cs w b q) (h3 : Cs w c r) : ∀ k, k < [p, q, r].length → Cs w ([a, b, c].getD k undef) ([p, q, r].getD k []) := by
  intro k hk
  have hk : k < 3 := hk
  rcases (by omega : k = 0 ∨ k = 1 ∨ k = 2) with rfl | rfl | rfl
  · exact h1
  · exact h2
  · exact h3
end Row
end Go.Proofs.YtgjpojaegjdjcabDoor
end
section
/- The developers' Put, Erase and Blank. -/
namespace Go.Proofs.YtgjpojaegjdjcabDoor
set_option maxRecDepth 100000
open Go.RowKit
namespace Row
open Utf Wid

theorem rng_yes {n lo hi : Int} (h : lo ≤ n) (k : n ≤ hi) : rng n lo hi = true := by unfold rng; rw [decide_eq_true h, decide_eq_true k]; rfl
theorem rng_no {n lo hi : Int} (h : ¬ (lo ≤ n ∧ n ≤ hi)) : rng n lo hi = false := by
  unfold rng
  rw [Bool.and_eq_false_iff]
  by_cases k : lo ≤ n
  · exact .inr (decide_eq_false fun k2 => h ⟨k, k2⟩)
  · exact .inl (decide_eq_false k)
def attrV (a : Look) : Value := .agg #[.int .i64 a.fg, .int .i64 a.bg, .int .i64 a.flags]
/-- The box that a function lays its attribute into, behind calls that only made blocks. -/
theorem box_kept {w w1 : World} {a : Look} (hb : Below (w.alloc (.cells #[.int .i64 a.fg, .int .i64 a.bg, .int .i64 a.flags] 32)).heap.size (w.alloc (.cells #[.int .i64 a.fg, .int .i64 a.bg, .int .i64 a.flags] 32)) w1) :
    w1.heap[w.heap.size]? = some (.cells #[.int .i64 a.fg, .int .i64 a.bg, .int .i64 a.flags] 32 (0, 0)) ∧ Below w.heap.size w w1 :=
  ⟨Blk.kept (heap_alloc_new _ _) hb, ((Below.refl _ _).alloc (Nat.le_refl _) _).trans (hb.mono (by simp))⟩
end Row
end Go.Proofs.YtgjpojaegjdjcabDoor
end
section
/- The developers' Erase and Blank. -/
namespace Go.Proofs.YtgjpojaegjdjcabDoor
set_option maxRecDepth 100000
open Go.RowKit
namespace Row
open Utf Wid

end Row
end Go.Proofs.YtgjpojaegjdjcabDoor
end
section
/- The developers' grids, the small functions: numbers within bounds, sides, who paints, blanks. -/
namespace Go.Proofs.YtgjpojaegjdjcabDoor
set_option maxRecDepth 100000
open Go.RowKit
namespace Row

theorem gridIn_at (n lo hi : Int) (b : Bool) (hb : rng n lo hi = b) (w : World) : Calls Tryd.prog 94 #[.int .i64 n, .int .i64 lo, .int .i64 hi] w fun e w' => e = .returned (.bool b) ∧ w = w' := by
  subst hb
  by_cases h : lo ≤ n
  · by_cases k : n ≤ hi
    · have H : Hid (rng n lo hi = true) := Lib.hid (by unfold rng; rw [decide_eq_true h, decide_eq_true k]; rfl)
      go_enter Tryd.func94, Tryd.ntmps94
      go_wp2_with fail
      go_ret
      exact ⟨ret_bool H.out.symm, rfl⟩
    · have H : Hid (rng n lo hi = false) := Lib.hid (by unfold rng; rw [decide_eq_false k, Bool.and_false])
      have hd : decide (n ≤ hi) = false := decide_eq_false k
      go_enter Tryd.func94, Tryd.ntmps94
      go_wp2_with fail
      go_ret
      exact ⟨ret_bool H.out.symm, rfl⟩
  · have H : Hid (rng n lo hi = false) := Lib.hid (by unfold rng; rw [decide_eq_false h, Bool.false_and])
    have hd : decide (lo ≤ n) = false := decide_eq_false h
    go_enter Tryd.func94, Tryd.ntmps94
    go_wp2_with fail
    go_ret
    exact ⟨ret_bool H.out.symm, rfl⟩
def sidesOk (r c : Int) : Bool := rng r 1 40 && rng c 1 40
theorem sidesOk_iff (r c : Int) : sidesOk r c = true ↔ (1 ≤ r ∧ r ≤ 40) ∧ (1 ≤ c ∧ c ≤ 40) := by unfold sidesOk rng; simp [and_assoc]
theorem sides_at (r c : Int) (b : Bool) (hb : sidesOk r c = b) (w : World) : Calls Tryd.prog 85 #[.int .i64 r, .int .i64 c] w fun e w' => e = .returned (.bool b) ∧ w = w' := by
  subst hb
  cases h1 : rng r 1 40 with
  | false =>
    have H1 := Lib.hid h1
    have H : Hid (sidesOk r c = false) := Lib.hid (by unfold sidesOk; rw [h1]; rfl)
    clear h1
    go_enter Tryd.func85, Tryd.ntmps85
    go_wp2_with fail
    refine (gridIn_at _ _ _ _ H1.out _).mono ?_; rintro e w' ⟨rfl, rfl⟩
    go_wp2_with fail
    go_ret
    exact ⟨ret_bool H.out.symm, rfl⟩
  | true =>
    have H1 := Lib.hid h1
    have H : Hid (sidesOk r c = rng c 1 40) := Lib.hid (by unfold sidesOk; rw [h1]; rfl)
    clear h1
    go_enter Tryd.func85, Tryd.ntmps85
    go_wp2_with fail
    refine (gridIn_at r _ _ _ H1.out _).mono ?_; rintro e w' ⟨rfl, rfl⟩
    go_wp2_with fail
    refine (gridIn_at c _ _ _ rfl _).mono ?_; rintro e w' ⟨rfl, rfl⟩
    go_wp2_with fail
    go_ret
    exact ⟨ret_bool H.out.symm, rfl⟩
end Row
end Go.Proofs.YtgjpojaegjdjcabDoor
end
section
/- Lines of a grid in memory: kept ones and empty ones; slices of them and parts of those; append. -/
namespace Go.Proofs.YtgjpojaegjdjcabDoor
set_option maxRecDepth 100000
open Go.RowKit
namespace Row

inductive Ln where
  | kept (v : Value) (r : List Cl)
  | empty (a : Look)
instance : Inhabited Ln := ⟨.empty ⟨0, 0, 0⟩⟩
def lrow (c : Nat) : Ln → List Cl
  | .kept _ r => r
  | .empty a => blankRow c a
def LnOk (w : World) (c : Nat) : Ln → Prop
  | .kept v r => Rm w v r ∧ r.length = c
  | .empty a => attrOk a = true
theorem LnOk.kept {w w' : World} {c : Nat} {x : Ln} (h : LnOk w c x) (hb : Below w.heap.size w w') : LnOk w' c x := by
  cases x with
  | kept v r => exact ⟨h.1.kept hb, h.2⟩
  | empty a => exact h
def LnsOk (w : World) (c : Nat) (l : List Ln) : Prop := ∀ x ∈ l, LnOk w c x
theorem LnsOk.kept {w w' : World} {c : Nat} {l : List Ln} (h : LnsOk w c l) (hb : Below w.heap.size w w') : LnsOk w' c l := fun x hx => (h x hx).kept hb
theorem lrow_len {w : World} {c : Nat} {x : Ln} (h : LnOk w c x) : (lrow c x).length = c := by
  cases x with
  | kept v r => exact h.2
  | empty a => exact blankRow_length c a

end Row
end Go.Proofs.YtgjpojaegjdjcabDoor
end
section
/- The statements' EqGrid of grids alike. -/
namespace Go.Proofs.YtgjpojaegjdjcabDoor
set_option maxRecDepth 100000
open Go.RowKit
namespace Row

/-- The same grid. -/
theorem eqGrid_same (R C : Int) (l : List Cl) (x y : Value) (w : World) (hx : Cs w x l) (hy : Cs w y l) (hn : l.length ≤ 100000000) :
    Calls Tryd.prog 36 #[.agg #[.int .i64 R, .int .i64 C, x], .agg #[.int .i64 R, .int .i64 C, y]] w fun e w' => e = .returned (.bool true) ∧ Below w.heap.size w w' := by
  have hW := ((Below.refl w.heap.size w).alloc (Nat.le_refl _) (gbox R C x)).alloc (by simp) (gbox R C y)
  have HC : Hid (Calls Tryd.prog 55 #[x, y] ((w.alloc (gbox R C x)).alloc (gbox R C y)) fun e w' => e = .returned (.bool true) ∧ Below w.heap.size w w') :=
    Lib.hid ((eqCells_same l x y _ (hx.kept hW) (hy.kept hW) hn).mono fun e w' ⟨h1, q, h2⟩ => ⟨h1, by subst h2; exact below_drewN hW q⟩)
  obtain ⟨A, c, rfl, _⟩ := hx.form
  obtain ⟨A', c', rfl, _⟩ := hy.form
  clear hx hy hW
  go_enter Tryd.func36, Tryd.ntmps36
  go_wp2_with fail
  refine HC.out.mono ?_; rintro e w1 ⟨rfl, hb⟩
  have HB := Lib.hid hb
  clear hb
  go_wp2_with fail
  go_ret
  exact ⟨rfl, HB.out⟩

end Row
end Go.Proofs.YtgjpojaegjdjcabDoor
end
