/- Joined texts: TabHelp, ScrFits, ScrBox, ScrCheck, GrdRoom. -/
import Derived.Test.YtjcfbeiljdohcaaDoorJM16
import Derived.Laws.CopyOwn
namespace Go.Proofs.YtjcfbeiljdohcaaDoor
set_option maxRecDepth 100000
section
open Go.RowKit
namespace Tab
def rng (n lo hi : Int) : Bool := decide (lo ≤ n) && decide (n ≤ hi)
theorem rng_yes {n lo hi : Int} : rng n lo hi = true ↔ lo ≤ n ∧ n ≤ hi := by unfold rng; rw [Bool.and_eq_true, decide_eq_true_eq, decide_eq_true_eq]
theorem between_any (n lo hi : Int) (w : World) : Calls Tryd.prog 28 #[.int .i64 n, .int .i64 lo, .int .i64 hi] w fun e w' => e = .returned (.bool (rng n lo hi)) ∧ w = w' := by
  by_cases h : lo ≤ n
  · by_cases k : n ≤ hi
    · have H : Hid (rng n lo hi = true) := Lib.hid (by unfold rng; rw [decide_eq_true h, decide_eq_true k]; rfl)
      go_enter Tryd.func28, Tryd.ntmps28
      go_wp2_with fail
      go_ret
      exact ⟨ret_bool H.out.symm, rfl⟩
    · have H : Hid (rng n lo hi = false) := Lib.hid (by unfold rng; rw [decide_eq_false k, Bool.and_false])
      have hd : decide (n ≤ hi) = false := decide_eq_false k
      go_enter Tryd.func28, Tryd.ntmps28
      go_wp2_with fail
      go_ret
      exact ⟨ret_bool H.out.symm, rfl⟩
  · have H : Hid (rng n lo hi = false) := Lib.hid (by unfold rng; rw [decide_eq_false h, Bool.false_and])
    have hd : decide (lo ≤ n) = false := decide_eq_false h
    go_enter Tryd.func28, Tryd.ntmps28
    go_wp2_with fail
    go_ret
    exact ⟨ret_bool H.out.symm, rfl⟩
theorem num_any (n hi : Int) (w : World) : Calls Tryd.prog 14 #[.int .i64 n, .int .i64 hi] w fun e w' => e = .returned (.bool (rng n 0 hi)) ∧ w = w' := by
  by_cases h : 0 ≤ n
  · by_cases k : n ≤ hi
    · have H : Hid (rng n 0 hi = true) := Lib.hid (by unfold rng; rw [decide_eq_true h, decide_eq_true k]; rfl)
      go_enter Tryd.func14, Tryd.ntmps14
      go_wp2_with fail
      go_ret
      exact ⟨ret_bool H.out.symm, rfl⟩
    · have H : Hid (rng n 0 hi = false) := Lib.hid (by unfold rng; rw [decide_eq_false k, Bool.and_false])
      have hd : decide (n ≤ hi) = false := decide_eq_false k
      go_enter Tryd.func14, Tryd.ntmps14
      go_wp2_with fail
      go_ret
      exact ⟨ret_bool H.out.symm, rfl⟩
  · have H : Hid (rng n 0 hi = false) := Lib.hid (by unfold rng; rw [decide_eq_false h, Bool.false_and])
    have hd : decide (0 ≤ n) = false := decide_eq_false h
    go_enter Tryd.func14, Tryd.ntmps14
    go_wp2_with fail
    go_ret
    exact ⟨ret_bool H.out.symm, rfl⟩
theorem in_any (n lo hi : Int) (w : World) : Calls Tryd.prog 81 #[.int .i64 n, .int .i64 lo, .int .i64 hi] w fun e w' => e = .returned (.bool (rng n lo hi)) ∧ w = w' := by
  by_cases h : lo ≤ n
  · by_cases k : n ≤ hi
    · have H : Hid (rng n lo hi = true) := Lib.hid (by unfold rng; rw [decide_eq_true h, decide_eq_true k]; rfl)
      go_enter Tryd.func81, Tryd.ntmps81
      go_wp2_with fail
      go_ret
      exact ⟨ret_bool H.out.symm, rfl⟩
    · have H : Hid (rng n lo hi = false) := Lib.hid (by unfold rng; rw [decide_eq_false k, Bool.and_false])
      have hd : decide (n ≤ hi) = false := decide_eq_false k
      go_enter Tryd.func81, Tryd.ntmps81
      go_wp2_with fail
      go_ret
      exact ⟨ret_bool H.out.symm, rfl⟩
  · have H : Hid (rng n lo hi = false) := Lib.hid (by unfold rng; rw [decide_eq_false h, Bool.false_and])
    have hd : decide (lo ≤ n) = false := decide_eq_false h
    go_enter Tryd.func81, Tryd.ntmps81
    go_wp2_with fail
    go_ret
    exact ⟨ret_bool H.out.symm, rfl⟩
theorem columns_any (n : Int) (w : World) : Calls Tryd.prog 68 #[.int .i64 n] w fun e w' => e = .returned (.bool (rng n 1 40)) ∧ w = w' := by
  go_enter Tryd.func68, Tryd.ntmps68
  go_wp2_with fail
  refine (in_any _ _ _ _).mono ?_; rintro e w' ⟨rfl, rfl⟩
  go_wp2_with fail
  go_ret
  exact ⟨rfl, rfl⟩
def okB (l : List Bool) : Bool := rng l.length 1 40
theorem okB_yes {l : List Bool} : okB l = true ↔ 1 ≤ l.length ∧ l.length ≤ 40 := by unfold okB; rw [rng_yes]; omega
def codeOf (b : Bool) : Int := if b then 0 else 1
theorem check_any (l : List Bool) (x : Value) (w : World) (hx : Bl w x l) : Calls Tryd.prog 72 #[x] w fun e w' => e = .returned (.int .i64 (codeOf (okB l))) ∧ w = w' := by
  obtain ⟨A, c, rfl⟩ := hx.shape
  unfold okB
  clear hx
  obtain ⟨b, hb⟩ : ∃ b, rng l.length 1 40 = b := ⟨_, rfl⟩
  rw [hb]
  have HB : Hid (∀ w', Calls Tryd.prog 68 #[.int .i64 l.length] w' fun e w'' => e = .returned (.bool b) ∧ w' = w'') := Lib.hid fun w' => by rw [← hb]; exact columns_any _ _
  clear hb
  generalize l.length = n at HB
  cases b
  all_goals
    go_enter Tryd.func72, Tryd.ntmps72
    go_wp2_with fail
    refine (HB.out _).mono ?_; rintro e w' ⟨rfl, rfl⟩
    go_wp2_with fail
    go_ret
    exact ⟨rfl, rfl⟩
def goes (l : List Bool) (a n : Int) : Bool := okB l && (rng a 0 (l.length - 1) && rng n 0 9999)
theorem goes_yes {l : List Bool} {a n : Int} : goes l a n = true ↔ (1 ≤ l.length ∧ l.length ≤ 40) ∧ (0 ≤ a ∧ a < l.length) ∧ 0 ≤ n ∧ n ≤ 9999 := by
  unfold goes
  rw [Bool.and_eq_true, Bool.and_eq_true, okB_yes, rng_yes, rng_yes]; omega
def wi (i : Int) (n : Nat) : Nat := (i % 18446744073709551616).toNat % n
theorem wi_lt (i : Int) {n : Nat} (h : 0 < n) : wi i n < n := Nat.mod_lt _ h
end Tab
end
section
open Go.RowKit
namespace Scr
open Go.Proofs.YtjcfbeiljdohcaaDoor.Row Wid
set_option maxHeartbeats 3200000 in
theorem fits_grid (G : Gr) (x : Value) (R C : Int) (w : World) (hx : Rm w x G.cells) (hs : Held G.cells) :
    Calls Tryd.prog 58 #[.iface 30 (gridV G x), .int .i64 R, .int .i64 C] w fun e w' => e = .returned (.bool ((G.rows == R) && ((G.cols == C) && gridB G))) ∧ Below w.heap.size w w' := by
  obtain ⟨A, c, rfl, _⟩ := id hx.2
  have HB := Lib.hid (bel_alloc w (gbox G.rows G.cols (.slice A G.cells.length c)))
  have HC := Lib.hid (fun b (hb : gridB G = b) => gridCheck_any G b (.slice A G.cells.length c) _ (hx.kept HB.out) hs (by rw [← hb]; exact gridB_iff G))
  have HG : Hid (∃ b, gridB G = b) := Lib.hid ⟨_, rfl⟩
  obtain ⟨b, hb⟩ := HG.out
  have HC := Lib.hid (HC.out b hb)
  rw [hb]
  clear hb hx hs HG
  obtain ⟨rows, cols, cells⟩ := G
  simp only at HB HC ⊢
  generalize cells.length = n at HB HC ⊢
  cases h1 : (rows == R)
  · go_enter Tryd.func58, Tryd.ntmps58
    go_wp2_with fail
    go_ret
    exact ⟨rfl, HB.out⟩
  · cases h2 : (cols == C)
    · go_enter Tryd.func58, Tryd.ntmps58
      go_wp2_with fail
      go_ret
      exact ⟨rfl, HB.out⟩
    · go_enter Tryd.func58, Tryd.ntmps58
      go_wp2_with fail
      refine HC.out.mono ?_; rintro e w1 ⟨rfl, hb1⟩
      have HB1 : Hid (Below w.heap.size w w1) := Lib.hid (HB.out.trans (hb1.mono HB.out.size))
      clear hb1 HC
      cases b
      all_goals
        go_wp2_with fail
        go_ret
        exact ⟨rfl, HB1.out⟩
set_option maxHeartbeats 3200000 in
theorem fits_cursor (k : Cur) (R C m n : Int) (hm : IntKind.i64.wrap (R - 1) = m) (hn : IntKind.i64.wrap (C - 1) = n) (w : World) :
    Calls Tryd.prog 58 #[.iface 91 (curV k), .int .i64 R, .int .i64 C] w fun e w' => e = .returned (.bool (cursorB k m n)) ∧ Below w.heap.size w w' := by
  have HB := Lib.hid ((bel_alloc w (gbox 0 0 (.slice none 0 0))).alloc (by simp) (.cells #[.int .i64 k.row, .int .i64 k.col, .bool k.wrap, .int .i64 k.a.fg, .int .i64 k.a.bg, .int .i64 k.a.flags, .int .i64 k.g0, .int .i64 k.g1, .int .i64 k.shift, .bool k.origin] 91))
  have HC := Lib.hid (fun W => cursorFits_any k R C m n hm hn W)
  generalize cursorB k m n = b at HC ⊢
  clear hm hn
  go_enter Tryd.func58, Tryd.ntmps58
  go_wp2_with fail
  refine (HC.out _).mono ?_; rintro e w1 ⟨rfl, hb1⟩
  have HB1 : Hid (Below w.heap.size w w1) := Lib.hid (HB.out.trans (hb1.mono HB.out.size))
  clear hb1 HC
  go_wp2_with fail
  go_ret
  exact ⟨rfl, HB1.out⟩
abbrev cbox0 : Obj := .cells #[.int .i64 0, .int .i64 0, .bool false, .int .i64 0, .int .i64 0, .int .i64 0, .int .i64 0, .int .i64 0, .int .i64 0, .bool false] 91
abbrev mbox (t b : Int) : Obj := .cells #[.int .i64 t, .int .i64 b] 130
theorem bel3 (w : World) (t b : Int) : Below w.heap.size w (((w.alloc (gbox 0 0 (.slice none 0 0))).alloc cbox0).alloc (mbox t b)) := ((bel_alloc w _).alloc (by simp) _).alloc (by simp; omega) _
set_option maxHeartbeats 3200000 in
theorem fits_margins (t b R C : Int) (w : World) :
    Calls Tryd.prog 58 #[.iface 130 (.agg #[.int .i64 t, .int .i64 b]), .int .i64 R, .int .i64 C] w fun e w' => e = .returned (.bool (marginsB t b R)) ∧ Below w.heap.size w w' := by
  have HB := Lib.hid (bel3 w t b)
  have HC := Lib.hid (fun W => margins_any t b R W)
  generalize marginsB t b R = q at HC ⊢
  go_enter Tryd.func58, Tryd.ntmps58
  go_wp2_with fail
  refine (HC.out _).mono ?_; rintro e w1 ⟨rfl, hb1⟩
  have HB1 : Hid (Below w.heap.size w w1) := Lib.hid (HB.out.trans (hb1.mono HB.out.size))
  clear hb1 HC
  go_wp2_with fail
  go_ret
  exact ⟨rfl, HB1.out⟩
set_option maxHeartbeats 3200000 in
theorem fits_stops (l : List Bool) (x : Value) (R C : Int) (w : World) (hx : Tab.Bl w x l) :
    Calls Tryd.prog 58 #[.iface 131 x, .int .i64 R, .int .i64 C] w fun e w' => e = .returned (.bool (((l.length : Int) == C) && Tab.okB l)) ∧ Below w.heap.size w w' := by
  obtain ⟨A, c, rfl, _⟩ := id hx.room
  have HB := Lib.hid (bel3 w 0 0)
  have HC := Lib.hid (Tab.check_any l (.slice A l.length c) _ (hx.kept HB.out))
  obtain ⟨q, hq⟩ : ∃ q, Tab.okB l = q := ⟨_, rfl⟩
  rw [hq] at HC ⊢
  clear hx hq
  generalize l.length = n at HC ⊢
  cases h1 : ((n : Int) == C)
  · go_enter Tryd.func58, Tryd.ntmps58
    go_wp2_with fail
    go_ret
    exact ⟨rfl, HB.out⟩
  · cases q
    all_goals
      unfold Tab.codeOf at HC
      go_enter Tryd.func58, Tryd.ntmps58
      go_wp2_with fail
      refine pureT HC.out ?_
      go_wp2_with fail
      go_ret
      exact ⟨rfl, HB.out⟩
set_option maxHeartbeats 3200000 in
theorem fits_modes (n R C : Int) (w : World) :
    Calls Tryd.prog 58 #[.iface 132 (.int .i64 n), .int .i64 R, .int .i64 C] w fun e w' => e = .returned (.bool (rng n 0 1023)) ∧ Below w.heap.size w w' := by
  have HB := Lib.hid (bel3 w 0 0)
  go_enter Tryd.func58, Tryd.ntmps58
  go_wp2_with fail
  refine pureT (in_any n 0 1023 _) ?_
  go_wp2_with fail
  go_ret
  exact ⟨rfl, HB.out⟩
set_option maxHeartbeats 3200000 in
theorem fits_title (t : List UInt8) (R C : Int) (w : World) (ht : t.length ≤ 1152921504606846976) (hT : Tabs w) :
    Calls Tryd.prog 58 #[.iface 133 (.string ⟨t.toArray⟩), .int .i64 R, .int .i64 C] w fun e w' => e = .returned (.bool (titleB t)) ∧ Below w.heap.size w w' := by
  have HB := Lib.hid (bel3 w 0 0)
  have HC := Lib.hid (title_any t _ ht (hT.kept HB.out))
  generalize titleB t = q at HC ⊢
  generalize (⟨t.toArray⟩ : ByteArray) = s at HC ⊢
  clear ht hT
  go_enter Tryd.func58, Tryd.ntmps58
  go_wp2_with fail
  refine HC.out.mono ?_; rintro e w1 ⟨rfl, hb1⟩
  have HB1 : Hid (Below w.heap.size w w1) := Lib.hid (HB.out.trans (hb1.mono HB.out.size))
  clear hb1 HC
  go_wp2_with fail
  go_ret
  exact ⟨rfl, HB1.out⟩
set_option maxHeartbeats 3200000 in
theorem fits_last (r R C : Int) (w : World) :
    Calls Tryd.prog 58 #[.iface 134 (.int .i64 r), .int .i64 R, .int .i64 C] w fun e w' => e = .returned (.bool (lastB r)) ∧ Below w.heap.size w w' := by
  have HB := Lib.hid (bel3 w 0 0)
  have HC := Lib.hid (fun W => lastFits_any r W)
  generalize lastB r = q at HC ⊢
  go_enter Tryd.func58, Tryd.ntmps58
  go_wp2_with fail
  refine (HC.out _).mono ?_; rintro e w1 ⟨rfl, hb1⟩
  have HB1 : Hid (Below w.heap.size w w1) := Lib.hid (HB.out.trans (hb1.mono HB.out.size))
  clear hb1 HC
  go_wp2_with fail
  go_ret
  exact ⟨rfl, HB1.out⟩
end Scr
end
section
open Go.RowKit
namespace Scr
open Go.Proofs.YtjcfbeiljdohcaaDoor.Row
abbrev nilS : Value := .slice none 0 0
abbrev zarr : Array Value := sarr noS nilS nilS nilS
theorem wp_loadS {w : World} {ops : Array Oper} {rest : List Oper} {o : Oper} {a : Act} {Q : Exit → Act → World → Prop} {x : Operand} (hgd : Region.wanted o (yielded ops a.tmps) = true) (ho : o.op = .load 94 x)
    {b : Nat} {s : S} {x0 y0 z0 : Value} (hx : a.eval x = .pointer (some ⟨b, 0, none⟩)) (h : SBox w b s x0 y0 z0) (k : wpList Tryd.prog ops Q rest (a.put o.dst (.agg (sarr s x0 y0 z0))) w) : wpList Tryd.prog ops Q (o :: rest) a w := by
  refine wpList_step fun K hK => ?_
  rw [if_pos hgd]
  exact wp_load_row 94 x ho b hx _ _ (0, 0) _ h Tryd.underlying94 rfl sizeS (hK _ _ k)
structure Sto (w : World) (b : Nat) (A : Array Value) (w' : World) : Prop where
  box : w'.heap[b]? = some (.cells A 94 (0, 0))
  other : ∀ i, i ≠ b → w'.heap[i]? = w.heap[i]?
  size : w'.heap.size = w.heap.size
  below : ∀ (B : Nat) (u : World), B ≤ b → Below B u w → Below B u w'
theorem wp_storeS {w : World} {ops : Array Oper} {rest : List Oper} {o : Oper} {a : Act} {Q : Exit → Act → World → Prop} {x y : Operand} (hgd : Region.wanted o (yielded ops a.tmps) = true) (ho : o.op = .store 94 x y)
    {b : Nat} {A old : Array Value} (hx : a.eval x = .pointer (some ⟨b, 0, none⟩)) (hy : a.eval y = .agg A) (hA : A.size = 43) (hA1 : A.all (·.oneCell') = true) (hg : w.heap[b]? = some (.cells old 94 (0, 0))) (hold : old.size = 43)
    (k : ∀ w', Sto w b A w' → wpList Tryd.prog ops Q rest (a.put o.dst undef) w') : wpList Tryd.prog ops Q (o :: rest) a w := by
  refine wpList_step fun K hK => ?_
  rw [if_pos hgd]
  refine wp_store_row 94 x y ho b A hx hy _ old hg (by rw [hA]; exact sizeS) (by rw [hA, hold]) hA1 (hK _ _ (k _ ⟨setRow_heap _ _ _ _ _ _ hg, fun i hi => setRow_other _ _ _ _ hi, size_setRow _ _ _, fun B u hB h => below_setRow h hB _⟩))
theorem wp_allocS {w : World} {ops : Array Oper} {rest : List Oper} {o : Oper} {a : Act} {Q : Exit → Act → World → Prop} (hgd : Region.wanted o (yielded ops a.tmps) = true) (ho : o.op = .alloc 94) {n : Nat} (hn : w.heap.size = n)
    (k : wpList Tryd.prog ops Q rest (a.put o.dst (.pointer (some ⟨n, 0, none⟩))) (w.alloc (.cells zarr 94))) : wpList Tryd.prog ops Q (o :: rest) a w := by
  subst hn
  refine wpList_step fun K hK => ?_
  rw [if_pos hgd]
  unfold Oper.wp
  simp only [ho, execOp, Sem.run_bind]
  exact hK _ _ k
theorem wp_allocS1 {w : World} {o1 : Obj} {ops : Array Oper} {rest : List Oper} {o : Oper} {a : Act} {Q : Exit → Act → World → Prop} (hgd : Region.wanted o (yielded ops a.tmps) = true) (ho : o.op = .alloc 94)
    (k : wpList Tryd.prog ops Q rest (a.put o.dst (.pointer (some ⟨w.heap.size + 1, 0, none⟩))) ((w.alloc o1).alloc (.cells zarr 94))) : wpList Tryd.prog ops Q (o :: rest) a (w.alloc o1) :=
  wp_allocS hgd ho (by simp) k
theorem wp_allocS2 {w : World} {o1 o2 : Obj} {ops : Array Oper} {rest : List Oper} {o : Oper} {a : Act} {Q : Exit → Act → World → Prop} (hgd : Region.wanted o (yielded ops a.tmps) = true) (ho : o.op = .alloc 94)
    (k : wpList Tryd.prog ops Q rest (a.put o.dst (.pointer (some ⟨w.heap.size + 2, 0, none⟩))) (((w.alloc o1).alloc o2).alloc (.cells zarr 94))) : wpList Tryd.prog ops Q (o :: rest) a ((w.alloc o1).alloc o2) :=
  wp_allocS hgd ho (by simp) k
theorem slice_one {w : World} {x : Value} {l : List Cl} (h : Rm w x l) : x.oneCell' = true := by obtain ⟨A, c, rfl, _⟩ := h.2; rfl
theorem bools_one {w : World} {x : Value} {l : List Bool} (h : Tab.Bl w x l) : x.oneCell' = true := by obtain ⟨A, c, rfl, _⟩ := h.room; rfl
theorem sarr_one {s : S} {x y z : Value} (hx : x.oneCell' = true) (hy : y.oneCell' = true) (hz : z.oneCell' = true) : (sarr s x y z).all (·.oneCell') = true := by
  simp only [sarr, List.all_toArray, List.all_cons, List.all_nil, hx, hy, hz, Bool.and_true]
  rfl
theorem In.one {w : World} {s : S} {x y z : Value} (h : In w s x y z) : (sarr s x y z).all (·.oneCell') = true := sarr_one (slice_one h.m) (slice_one h.o) (bools_one h.t)
theorem ret1S {fn : Func} {p : Tmp} (h : fn.results = #[.cell p 94]) {tmps : Array Value} {w : World} {b : Nat} {s : S} {x y z : Value} (hp : tmps.getD p undef = .pointer (some ⟨b, 0, none⟩)) (hb : SBox w b s x y z) :
    (results fn tmps).run Tryd.prog w = .ok (sv s x y z) w := results_cell_row h tmps w b _ _ (0, 0) _ hp hb Tryd.underlying94 rfl sizeS
theorem ret2S {fn : Func} {p q : Tmp} (h : fn.results = #[.cell p 94, .tmp q]) {tmps : Array Value} {w : World} {b : Nat} {s : S} {x y z v : Value} (hp : tmps.getD p undef = .pointer (some ⟨b, 0, none⟩)) (hb : SBox w b s x y z) (hq : tmps.getD q undef = v) :
    (results fn tmps).run Tryd.prog w = .ok (.tuple #[sv s x y z, v]) w := by
  have hp' : tmps[p]?.getD undef = .pointer (some ⟨b, 0, none⟩) := by simpa using hp
  have hq' : tmps[q]?.getD undef = v := by simpa using hq
  simp [results, h, hp', hq', asAddr, run_loadVar_row w b _ _ _ (0, 0) _ hb Tryd.underlying94 rfl sizeS]
theorem SBox.putMain {w : World} {b : Nat} {s : S} {x y z : Value} (h : SBox w b s x y z) (R C : Int) (l : List Cl) (v : Value) : SBox (gput w b R C v) b { s with main := ⟨R, C, l⟩ } v y z := Blk.set (Blk.set (Blk.set h 0 _) 1 _) 2 _
def oput (w : World) (g : Nat) (R C : Int) (v : Value) : World := ((w.setCell ⟨g, 3, none⟩ (.int .i64 R)).setCell ⟨g, 4, none⟩ (.int .i64 C)).setCell ⟨g, 5, none⟩ v
theorem SBox.putOther {w : World} {b : Nat} {s : S} {x y z : Value} (h : SBox w b s x y z) (R C : Int) (l : List Cl) (v : Value) : SBox (oput w b R C v) b { s with other := ⟨R, C, l⟩ } x v z := Blk.set (Blk.set (Blk.set h 3 _) 4 _) 5 _
theorem SBox.putTabs {w : World} {b : Nat} {s : S} {x y z : Value} (h : SBox w b s x y z) (l : List Bool) (v : Value) : SBox (w.setCell ⟨b, 39, none⟩ v) b { s with tabs := l } x y v := Blk.set h 39 _
theorem oput_other {w : World} {g b : Nat} {o : Obj} (h : w.heap[b]? = some o) (hn : b ≠ g) (R C : Int) (v : Value) : (oput w g R C v).heap[b]? = some o := Blk.other (Blk.other (Blk.other h hn _ _) hn _ _) hn _ _
theorem oput_own {w : World} {base g : Nat} {x : Value} {l : List Cl} (h : OwnCs w base x l) (hg : g < base) (R C : Int) (v : Value) : OwnCs (oput w g R C v) base x l := ((h.set hg _ _).set hg _ _).set hg _ _
theorem oput_below {B g : Nat} {a w : World} (h : Below B a w) (hB : B ≤ g) (R C : Int) (v : Value) : Below B a (oput w g R C v) := ((h.setCell hB _).setCell hB _).setCell hB _
theorem ownB_set {w : World} {base g : Nat} {v : Value} {l : List Bool} (h : Tab.OwnB w base v l) (hg : g < base) (j : Nat) (u : Value) : Tab.OwnB (w.setCell ⟨g, j, none⟩ u) base v l := by
  refine ⟨h.1, ?_⟩
  rcases h.2 with h0 | ⟨b, cap, cur, rfl, hb, hc, rest⟩
  · exact .inl h0
  · exact .inr ⟨b, cap, cur, rfl, hb, Blk.other hc (by omega) j u, rest⟩
theorem ownB_gput {w : World} {base g : Nat} {x : Value} {l : List Bool} (h : Tab.OwnB w base x l) (hg : g < base) (R C : Int) (v : Value) : Tab.OwnB (gput w g R C v) base x l := ownB_set (ownB_set (ownB_set h hg _ _) hg _ _) hg _ _
theorem ownB_oput {w : World} {base g : Nat} {x : Value} {l : List Bool} (h : Tab.OwnB w base x l) (hg : g < base) (R C : Int) (v : Value) : Tab.OwnB (oput w g R C v) base x l := ownB_set (ownB_set (ownB_set h hg _ _) hg _ _) hg _ _
theorem Sto.cs {w w' : World} {b base : Nat} {A : Array Value} {v : Value} {l : List Cl} (h : Sto w b A w') (ho : OwnCs w base v l) (hb : b < base) : OwnCs w' base v l := by
  refine ⟨ho.1, ?_⟩
  rcases ho.2 with h0 | ⟨g, cap, cur, rfl, hg, hc, rest⟩
  · exact .inl h0
  · exact .inr ⟨g, cap, cur, rfl, hg, (h.other g (by omega)).trans hc, rest⟩
theorem Sto.bs {w w' : World} {b base : Nat} {A : Array Value} {v : Value} {l : List Bool} (h : Sto w b A w') (ho : Tab.OwnB w base v l) (hb : b < base) : Tab.OwnB w' base v l := by
  refine ⟨ho.1, ?_⟩
  rcases ho.2 with h0 | ⟨g, cap, cur, rfl, hg, hc, rest⟩
  · exact .inl h0
  · exact .inr ⟨g, cap, cur, rfl, hg, (h.other g (by omega)).trans hc, rest⟩
theorem Sto.own {w w' : World} {b base : Nat} {A : Array Value} {s : S} {x y z : Value} (h : Sto w b A w') (ho : Own w base s x y z) (hb : b < base) : Own w' base s x y z := ⟨h.cs ho.m hb, h.cs ho.o hb, h.bs ho.t hb⟩
end Scr
end
section
open Go.RowKit
namespace Scr
open Go.Proofs.YtjcfbeiljdohcaaDoor.Row Wid
def wr1 (n : Int) : Int := IntKind.i64.wrap (n - 1)
noncomputable def pbs (s : S) : List Bool :=
  [(s.main.rows == s.main.rows) && ((s.main.cols == s.main.cols) && gridB s.main), (s.other.rows == s.main.rows) && ((s.other.cols == s.main.cols) && gridB s.other), cursorB s.cur (wr1 s.main.rows) (wr1 s.main.cols),
    cursorB s.saved (wr1 s.main.rows) (wr1 s.main.cols), cursorB s.too (wr1 s.main.rows) (wr1 s.main.cols), marginsB s.top s.bottom s.main.rows, ((s.tabs.length : Int) == s.main.cols) && Tab.okB s.tabs, rng s.modes 0 1023, titleB s.title, lastB s.last]
theorem gridB_sides {G : Gr} (h : gridB G = true) : (1 ≤ G.rows ∧ G.rows ≤ 40) ∧ (1 ≤ G.cols ∧ G.cols ≤ 40) := by
  have := (gridB_iff G).1 h
  exact ⟨this.1, this.2.1⟩
theorem wr1_of {n : Int} (h : 1 ≤ n ∧ n ≤ 40) : wr1 n = n - 1 := by unfold wr1; rw [IntKind.wrap_i64]; omega
theorem okB_pbs (s : S) : okB s = (pbs s).all id := by
  unfold okB pbs
  simp only [List.all_cons, List.all_nil, id, beq_self_eq_true, Bool.true_and, Bool.and_true]
  cases hg : gridB s.main
  · simp
  · have hs := gridB_sides hg
    rw [wr1_of hs.1, wr1_of hs.2]
    have ht : ((s.tabs.length : Int) == s.main.cols) = (((s.tabs.length : Int) == s.main.cols) && Tab.okB s.tabs) := by
      cases h : ((s.tabs.length : Int) == s.main.cols)
      · rfl
      · have : (s.tabs.length : Int) = s.main.cols := by simpa using h
        have : Tab.okB s.tabs = true := Tab.okB_yes.2 (by omega)
        rw [this]; rfl
    rw [← ht]
    cases gridB s.other <;> simp [Bool.and_assoc]
structure Holds (s : S) : Prop where
  m : Held s.main.cells
  o : Held s.other.cells
  t : s.title.length ≤ 1152921504606846976
def codeB (b : Bool) : Int := if b then 0 else 1
theorem part_fits (s : S) (x y z : Value) (w : World) (h : In w s x y z) (hh : Holds s) (hT : Tabs w) (k : Nat) (hk : k < 10) :
    ∃ v, (partVals s x y z)[k]? = some v ∧ Calls Tryd.prog 58 #[v, .int .i64 s.main.rows, .int .i64 s.main.cols] w fun e w' => e = .returned (.bool ((pbs s).getD k false)) ∧ Below w.heap.size w w' := by
  match k, hk with
  | 0, _ => exact ⟨_, rfl, fits_grid s.main x _ _ w h.m hh.m⟩
  | 1, _ => exact ⟨_, rfl, fits_grid s.other y _ _ w h.o hh.o⟩
  | 2, _ => exact ⟨_, rfl, fits_cursor s.cur _ _ _ _ rfl rfl w⟩
  | 3, _ => exact ⟨_, rfl, fits_cursor s.saved _ _ _ _ rfl rfl w⟩
  | 4, _ => exact ⟨_, rfl, fits_cursor s.too _ _ _ _ rfl rfl w⟩
  | 5, _ => exact ⟨_, rfl, fits_margins _ _ _ _ w⟩
  | 6, _ => exact ⟨_, rfl, fits_stops s.tabs z _ _ w h.t⟩
  | 7, _ => exact ⟨_, rfl, fits_modes _ _ _ w⟩
  | 8, _ => exact ⟨_, rfl, fits_title s.title _ _ w hh.t hT⟩
  | 9, _ => exact ⟨_, rfl, fits_last _ _ _ w⟩
  | k + 10, h => exact absurd h (by omega)
theorem all_ten {l : List Bool} (hl : l.length = 10) (h : ∀ j, j < 10 → l.getD j false = true) : l.all id = true := by
  rw [List.all_eq_true]
  intro b hb
  obtain ⟨j, hj, rfl⟩ := List.getElem_of_mem hb
  have := h j (by omega)
  simpa [List.getD, hj] using this
theorem none_ten {l : List Bool} {k : Nat} (hl : l.length = 10) (hk : k < 10) (h : l.getD k false = false) : l.all id = false := by
  rw [List.all_eq_false]
  refine ⟨l[k]'(by omega), List.getElem_mem _, ?_⟩
  have : l[k]'(by omega) = false := by simpa [List.getD, hl, hk] using h
  rw [this]; simp
structure Ck (w0 : World) (s : S) (x y z : Value) (g : Nat) (w : World) : Prop where
  bel : Below w0.heap.size w0 w
  b0 : SBox w w0.heap.size s x y z
  ps : w.heap[g]? = some (.cells (partVals s x y z) 115 (0, 0))
theorem Ck.kept {w0 w w' : World} {s : S} {x y z : Value} {g : Nat} (h : Ck w0 s x y z g w) (hb : Below w.heap.size w w') : Ck w0 s x y z g w' := ⟨h.bel.trans (hb.mono h.bel.size), h.b0.kept hb, Blk.kept h.ps hb⟩
set_option maxHeartbeats 3200000 in
theorem check_any (s : S) (x y z : Value) (w : World) (h : In w s x y z) (hh : Holds s) (hT : Tabs w) :
    Calls Tryd.prog 45 #[sv s x y z] w fun e w' => e = .returned (.int .i64 (codeB (okB s))) ∧ Below w.heap.size w w' := by
  have HP := Lib.hid (fun W (hb : Below w.heap.size w W) k hk => part_fits s x y z W (h.kept hb) hh (hT.kept hb) k hk)
  have HL : Hid ((pbs s).length = 10) := Lib.hid rfl
  have HE := Lib.hid (okB_pbs s)
  have HB := Lib.hid (bel_alloc w (.cells (sarr s x y z) 94))
  have H0 := Lib.hid (SBox.new w s x y z)
  generalize okB s = ok at HE ⊢
  generalize pbs s = bs at HP HL HE
  clear h hh hT
  go_enter Tryd.func45, Tryd.ntmps45
  go_wp2_with (refine wp_loadS (b := w.heap.size) (s := s) rfl rfl rfl H0.out ?_)
  refine (parts_any s x y z _).mono ?_
  rintro e w1 ⟨g, rfl, hg, hb1⟩
  have HC := Lib.hid (show Ck w s x y z g w1 from ⟨HB.out.trans (hb1.mono HB.out.size), H0.out.kept hb1, hg⟩)
  clear HB H0 hg hb1
  go_wp2_with fail
  go_loopw [8] (fun i wr => ∃ k : Nat, k ≤ 10 ∧ i = .int .i64 k ∧ Hid (∀ j, j < k → bs.getD j false = true) ∧ Hid (Ck w s x y z g wr)) (fun i _ => 10 - (intOf i).toNat)
  case atStart => exact ⟨0, by omega, rfl, Lib.hid fun j hj => absurd hj (by omega), HC⟩
  case round =>
    obtain ⟨k, hk, rfl, HA, HK⟩ := hrel
    by_cases hlt : k < 10
    · obtain ⟨v, hv, hcall⟩ := HP.out wr HK.out.bel k hlt
      have hc : wr.cell? ⟨g, k, none⟩ = some v := by rw [Blk.cell HK.out.ps k]; exact hv
      have c0 : ∀ j, wr.cell? ⟨w.heap.size, j, none⟩ = (sarr s x y z)[j]? := HK.out.b0.cell
      have HCA := Lib.hid hcall
      obtain ⟨q, hq⟩ : ∃ q, bs.getD k false = q := ⟨_, rfl⟩
      rw [hq] at HCA
      have HQ := Lib.hid hq
      clear hcall hv hq
      go_wp2_with fail
      refine HCA.out.mono ?_; rintro e w2 ⟨rfl, hb2⟩
      have HK2 := Lib.hid (HK.out.kept hb2)
      clear hb2 c0 hc HCA
      cases q
      · have HF : Hid (ok = false) := Lib.hid (by rw [HE.out]; exact none_ten HL.out hlt HQ.out)
        go_wp2_with fail
        go_ret
        exact ⟨by rw [HF.out]; rfl, HK2.out.bel⟩
      · go_wp2_with fail
        go_roundw
        case rel => exact ⟨k + 1, by omega, by go_num, Lib.hid fun j hj => (by
          by_cases e : j = k
          · subst e; exact HQ.out
          · exact HA.out j (by omega)), HK2⟩
        case measure => simp [intOf]; omega
    · have hk10 : k = 10 := by omega
      subst hk10
      have HF : Hid (ok = true) := Lib.hid (by rw [HE.out]; exact all_ten HL.out HA.out)
      go_wp2_with fail
      go_ret
      exact ⟨by rw [HF.out]; rfl, HK.out.bel⟩
end Scr
end
section
open Go.RowKit
namespace Row
abbrev abox (a : Look) : Obj := .cells #[.int .i64 a.fg, .int .i64 a.bg, .int .i64 a.flags] 60 (0, 0)
structure Boxes (w w2 : World) (r c : Int) (x : Value) (a : Look) : Prop where
  g : w2.heap[w.heap.size]? = some (gbox r c x)
  a : w2.heap[w.heap.size + 1]? = some (abox a)
  below : Below w.heap.size w w2
theorem Boxes.new (w : World) (r c : Int) (x : Value) (a : Look) : Boxes w ((w.alloc (gbox r c x)).alloc (abox a)) r c x a :=
  ⟨old_alloc (new_alloc _ _ _ rfl) _, new_alloc _ _ _ (by simp), ((Below.refl _ _).alloc (Nat.le_refl _) _).alloc (by simp) _⟩
theorem Boxes.kept {w w2 w3 : World} {r c : Int} {x : Value} {a : Look} (h : Boxes w w2 r c x a) (hb : Below w2.heap.size w2 w3) : Boxes w w3 r c x a :=
  ⟨Blk.kept h.g hb, Blk.kept h.a hb, h.below.trans (hb.mono h.below.size)⟩
theorem Boxes.alloc {w w2 : World} {r c : Int} {x : Value} {a : Look} (h : Boxes w w2 r c x a) (o : Obj) : Boxes w (w2.alloc o) r c x a := h.kept ((Below.refl _ _).alloc (Nat.le_refl _) _)
theorem Boxes.cells {w w2 : World} {r c : Int} {x : Value} {a : Look} (h : Boxes w w2 r c x a) :
    w2.cell? ⟨w.heap.size, 0, none⟩ = some (.int .i64 r) ∧ w2.cell? ⟨w.heap.size, 1, none⟩ = some (.int .i64 c) ∧ w2.cell? ⟨w.heap.size, 2, none⟩ = some x ∧
    w2.cell? ⟨w.heap.size + 1, 0, none⟩ = some (.int .i64 a.fg) ∧ w2.cell? ⟨w.heap.size + 1, 1, none⟩ = some (.int .i64 a.bg) ∧ w2.cell? ⟨w.heap.size + 1, 2, none⟩ = some (.int .i64 a.flags) :=
  ⟨Blk.cell h.g 0, Blk.cell h.g 1, Blk.cell h.g 2, Blk.cell h.a 0, Blk.cell h.a 1, Blk.cell h.a 2⟩
end Row
end
end Go.Proofs.YtjcfbeiljdohcaaDoor
