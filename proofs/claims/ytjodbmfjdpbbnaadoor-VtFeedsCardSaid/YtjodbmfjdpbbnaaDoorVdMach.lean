/- The developers' machine in memory: its block, its numbers, the events it keeps as interface values; tell, enter, end. -/
import Derived.Test.YtjodbmfjdpbbnaaDoorVtMach
import Derived.Test.YtjodbmfjdpbbnaaDoorUtfNext
namespace Go.Proofs.YtjodbmfjdpbbnaaDoor
set_option maxRecDepth 100000
open Go.RowKit
namespace Vd
open Vt

/-- An event as the developers' code keeps it. -/
def box (e : Ev) (pv : Value) : Value :=
  if e.kind = 1 then .iface 81 (.int .i32 e.rune)
  else if e.kind = 2 then .iface 69 (.int .u8 e.rune)
  else if e.kind = 3 then .iface 85 (.agg #[.int .u8 e.rune, .string ⟨e.inter.toArray⟩])
  else if e.kind = 4 then .iface 88 (.agg #[.int .u8 e.rune, .string ⟨e.inter.toArray⟩, pv])
  else .iface 90 (.string ⟨e.text.toArray⟩)
theorem box_form (e : Ev) (pv : Value) : ∃ t u, box e pv = .iface t u := by
  unfold box
  split
  · exact ⟨_, _, rfl⟩
  split
  · exact ⟨_, _, rfl⟩
  split
  · exact ⟨_, _, rfl⟩
  split <;> exact ⟨_, _, rfl⟩
/-- What a machine may tell. -/
inductive Good : Ev → Prop
  | print (r : Int) (h : 0 ≤ r) (k : r ≤ 3000000) : Good ⟨1, r, [], [], []⟩
  | control (c : UInt8) : Good ⟨2, c.toNat, [], [], []⟩
  | escape (c : UInt8) (i : List UInt8) : Good ⟨3, c.toNat, [], i, []⟩
  | csi (c : UInt8) (ps : List Int) (i : List UInt8) : ps.length ≤ 16 → Good ⟨4, c.toNat, ps, i, []⟩
  | osc (t : List UInt8) : Good ⟨5, 0, [], [], t⟩
/-- The machine in block b: its block, its rows, from base on. -/
structure MD (w : World) (base b : Nat) (m : Mc) (pv lv : Value) (pvs : List Value) : Prop where
  block : w.heap[b]? = some (.cells (cells6 m.p pv lv) 55 (0, 0))
  low : base ≤ b
  nums : w.ownsRow base 3 1 pv m.p.params.length (ints m.p.params)
  len : pvs.length = m.l.length
  evs : w.ownsRow base 71 1 lv m.l.length (List.zipWith box m.l pvs)
  each : ∀ k, k < m.l.length → w.ownsRow base 3 1 (pvs.getD k undef) (m.l.getD k (printE 0)).params.length (ints (m.l.getD k (printE 0)).params)
  good : ∀ e ∈ m.l, Good e
/-- No event's numbers lie where the machine's do. -/
def Apart (n : Nat) (pv : Value) (pvs : List Value) : Prop := ∀ k, k < n → (pvs.getD k undef).ownBlock = none ∨ (pvs.getD k undef).ownBlock ≠ pv.ownBlock
def Md (w : World) (base b : Nat) (m : Mc) : Prop := ∃ pv lv pvs, MD w base b m pv lv pvs ∧ Apart m.l.length pv pvs
theorem Apart.nil (n : Nat) (pvs : List Value) : Apart n (.slice none 0 0) pvs := fun k _ => by
  cases hv : (pvs.getD k undef).ownBlock
  · exact .inl rfl
  · exact .inr (by simp [Value.ownBlock])

/-- The machine's block has turned, nothing else: its rows stand. -/
theorem MD.upd {w w' : World} {base b : Nat} {m : Mc} {pv lv : Value} {pvs : List Value} (h : MD w base b m pv lv pvs) (hg : w.grownBy w' (some b)) (p' : Ps) (hp : p'.params = m.p.params)
    (hb : w'.heap[b]? = some (.cells (cells6 p' pv lv) 55 (0, 0))) : MD w' base b ⟨p', m.l⟩ pv lv pvs := by
  refine ⟨hb, h.low, ?_, h.len, h.evs.kept hg (own_not h.evs h.block (by decide)), fun k hk => (h.each k hk).kept hg (own_not (h.each k hk) h.block (by decide)), h.good⟩
  rw [show (⟨p', m.l⟩ : Mc).p.params = m.p.params from hp]
  exact h.nums.kept hg (own_not h.nums h.block (by decide))
/-- The machine's block has turned, its numbers are gone. -/
theorem MD.bare {w w' : World} {base b : Nat} {m : Mc} {pv lv : Value} {pvs : List Value} (h : MD w base b m pv lv pvs) (hg : w.grownBy w' (some b)) (p' : Ps) (hp : p'.params = [])
    (hb : w'.heap[b]? = some (.cells (cells6 p' (.slice none 0 0) lv) 55 (0, 0))) : MD w' base b ⟨p', m.l⟩ (.slice none 0 0) lv pvs := by
  refine ⟨hb, h.low, ?_, h.len, h.evs.kept hg (own_not h.evs h.block (by decide)), fun k hk => (h.each k hk).kept hg (own_not (h.each k hk) h.block (by decide)), h.good⟩
  show w'.ownsRow base 3 1 _ p'.params.length (ints p'.params)
  rw [hp]; exact World.ownsRow_nil _ _ _ _
theorem MD.kept {w w' : World} {base b : Nat} {m : Mc} {pv lv : Value} {pvs : List Value} (h : MD w base b m pv lv pvs) (hb : Below w.heap.size w w') : MD w' base b m pv lv pvs :=
  ⟨(hb.block b (block_lt h.block)).trans h.block, h.low, own_keptC h.nums hb, h.len, own_keptC h.evs hb, fun k hk => own_keptC (h.each k hk) hb, h.good⟩
theorem Md.kept {w w' : World} {base b : Nat} {m : Mc} (h : Md w base b m) (hb : Below w.heap.size w w') : Md w' base b m := by
  obtain ⟨pv, lv, pvs, h1, h2⟩ := h
  exact ⟨pv, lv, pvs, h1.kept hb, h2⟩
/-- What a walk reads of the block. -/
theorem MD.reads {w : World} {base b : Nat} {m : Mc} {pv lv : Value} {pvs : List Value} (h : MD w base b m pv lv pvs) :
    w.cell? ⟨b, 0, none⟩ = some (.int .i64 m.p.state) ∧ w.cell? ⟨b, 1, none⟩ = some (.string ⟨m.p.part.toArray⟩) ∧ w.cell? ⟨b, 2, none⟩ = some pv ∧ w.cell? ⟨b, 3, none⟩ = some (.string ⟨m.p.inter.toArray⟩) ∧
      w.cell? ⟨b, 4, none⟩ = some (.string ⟨m.p.text.toArray⟩) ∧ w.cell? ⟨b, 5, none⟩ = some lv :=
  ⟨block_cell h.block 0, block_cell h.block 1, block_cell h.block 2, block_cell h.block 3, block_cell h.block 4, block_cell h.block 5⟩
theorem MD.free {w : World} {base b : Nat} {m : Mc} {pv lv : Value} {pvs : List Value} (h : MD w base b m pv lv pvs) :
    w.frozen? ⟨b, 0, none⟩ = false ∧ w.frozen? ⟨b, 1, none⟩ = false ∧ w.frozen? ⟨b, 2, none⟩ = false ∧ w.frozen? ⟨b, 3, none⟩ = false ∧ w.frozen? ⟨b, 4, none⟩ = false ∧ w.frozen? ⟨b, 5, none⟩ = false :=
  ⟨block_free h.block 0, block_free h.block 1, block_free h.block 2, block_free h.block 3, block_free h.block 4, block_free h.block 5⟩
theorem MD.set_ {w : World} {base b : Nat} {m : Mc} {pv lv : Value} {pvs : List Value} (h : MD w base b m pv lv pvs) (j : Nat) (u : Value) (p' : Ps) (hp : p'.params = m.p.params) (hcs : (cells6 m.p pv lv).setIfInBounds j u = cells6 p' pv lv) :
    MD (w.setCell ⟨b, j, none⟩ u) base b ⟨p', m.l⟩ pv lv pvs := h.upd (set_grown w ⟨b, j, none⟩ u) p' hp (by rw [← hcs]; exact block_set h.block j u)
/-- What a function on the machine tells: nothing; the machine is another. -/
def RunsD (base b : Nat) (w : World) (m : Mc) (e : Ending) (w' : World) : Prop := e = .returned (.tuple #[]) ∧ Md w' base b m ∧ Below base w w'
theorem RunsD.of {base b : Nat} {w w1 w2 : World} {m : Mc} {e : Ending} (h : RunsD base b w1 m e w2) (hb : Below base w w1) : RunsD base b w m e w2 := ⟨h.1, h.2.1, hb.trans h.2.2⟩

theorem enter_end {w : World} {base b : Nat} {m : Mc} {pv lv : Value} {pvs : List Value} (h : MD w base b m pv lv pvs) (x : Int) :
    RunsD base b w (m.to x) (.returned (.tuple #[])) (((((w.setCell ⟨b, 0, none⟩ (.int .i64 x)).setCell ⟨b, 1, none⟩ (.string ⟨#[]⟩)).setCell ⟨b, 2, none⟩ (.slice none 0 0)).setCell ⟨b, 3, none⟩ (.string ⟨#[]⟩)).setCell ⟨b, 4, none⟩ (.string ⟨#[]⟩)) := by
  have hg : w.grownBy (((((w.setCell ⟨b, 0, none⟩ (.int .i64 x)).setCell ⟨b, 1, none⟩ (.string ⟨#[]⟩)).setCell ⟨b, 2, none⟩ (.slice none 0 0)).setCell ⟨b, 3, none⟩ (.string ⟨#[]⟩)).setCell ⟨b, 4, none⟩ (.string ⟨#[]⟩)) (some b) :=
    ((((set_grown w ⟨b, 0, none⟩ _).trans (set_grown _ ⟨b, 1, none⟩ _)).trans (set_grown _ ⟨b, 2, none⟩ _)).trans (set_grown _ ⟨b, 3, none⟩ _)).trans (set_grown _ ⟨b, 4, none⟩ _)
  have hb := block_set (block_set (block_set (block_set (block_set h.block 0 (.int .i64 x)) 1 (.string ⟨#[]⟩)) 2 (.slice none 0 0)) 3 (.string ⟨#[]⟩)) 4 (.string ⟨#[]⟩)
  have hB : Below base w (((((w.setCell ⟨b, 0, none⟩ (.int .i64 x)).setCell ⟨b, 1, none⟩ (.string ⟨#[]⟩)).setCell ⟨b, 2, none⟩ (.slice none 0 0)).setCell ⟨b, 3, none⟩ (.string ⟨#[]⟩)).setCell ⟨b, 4, none⟩ (.string ⟨#[]⟩)) :=
    (((((Below.refl base w).setCell (p := ⟨b, 0, none⟩) h.low _).setCell (p := ⟨b, 1, none⟩) h.low _).setCell (p := ⟨b, 2, none⟩) h.low _).setCell (p := ⟨b, 3, none⟩) h.low _).setCell (p := ⟨b, 4, none⟩) h.low _
  generalize ((((w.setCell ⟨b, 0, none⟩ (.int .i64 x)).setCell ⟨b, 1, none⟩ (.string ⟨#[]⟩)).setCell ⟨b, 2, none⟩ (.slice none 0 0)).setCell ⟨b, 3, none⟩ (.string ⟨#[]⟩)).setCell ⟨b, 4, none⟩ (.string ⟨#[]⟩) = W at hg hb hB ⊢
  exact ⟨rfl, ⟨.slice none 0 0, lv, pvs, h.bare hg (none_ x) rfl hb, Apart.nil _ _⟩, hB⟩
set_option maxHeartbeats 400000 in
theorem enter_at {x : Int} (s : Int) (hs : x = s) (base b : Nat) (m : Mc) (pv lv : Value) (pvs : List Value) (w : World) (h : MD w base b m pv lv pvs) : Calls Tryd.prog 39 #[.pointer (some ⟨b, 0, none⟩), .int .i64 x] w (RunsD base b w (m.to s)) := by
  subst hs
  obtain ⟨A, c, rfl⟩ := own_shape h.nums
  obtain ⟨A', c', rfl⟩ := own_shape h.evs
  obtain ⟨r0, r1, r2, r3, r4, r5⟩ := h.reads
  obtain ⟨f0, f1, f2, f3, f4, f5⟩ := h.free
  have HM := Lib.hid h
  clear h
  go_enter Tryd.func39, Tryd.ntmps39
  go_wp2_with fail
  go_end0
  exact enter_end HM.out x
theorem enter_any {x : Int} (s : Int) (hs : x = s) (base b : Nat) (m : Mc) (w : World) (h : Md w base b m) : Calls Tryd.prog 39 #[.pointer (some ⟨b, 0, none⟩), .int .i64 x] w (RunsD base b w (m.to s)) := by
  obtain ⟨pv, lv, pvs, hm, _⟩ := h
  exact enter_at s hs base b m pv lv pvs w hm

/-- Behind an append to what was told the machine's block stands. -/
theorem MD.beside {w w1 : World} {base b : Nat} {m : Mc} {pv lv : Value} {pvs : List Value} (h : MD w base b m pv lv pvs) (hg : w.grownBy w1 lv.ownBlock) : w1.heap[b]? = some (.cells (cells6 m.p pv lv) 55 (0, 0)) := by
  refine (hg.block b (block_lt h.block) ?_).trans h.block
  rcases own_not h.evs h.block (by decide) with e | e
  · rw [e]; simp
  · exact fun h => e h.symm
/-- All numbers of the call's own stand. -/
def Keeps (w w' : World) : Prop := ∀ (B n : Nat) (y : Value) (ys : List Value), w.ownsRow B 3 1 y n ys → w'.ownsRow B 3 1 y n ys
theorem Keeps.below {w w' : World} (h : Below w.heap.size w w') : Keeps w w' := fun _ _ _ _ ho => own_keptC ho h
theorem Keeps.trans {w w1 w' : World} (h : Keeps w w1) (k : Keeps w1 w') : Keeps w w' := fun B n y ys ho => k B n y ys (h B n y ys ho)
/-- What telling leaves: the machine's numbers where they were. -/
def Tells (base b : Nat) (w : World) (m : Mc) (pv pe : Value) (pvs : List Value) (e : Ev) (x : Ending) (w' : World) : Prop :=
  x = .returned (.tuple #[]) ∧ (∃ lv', MD w' base b (m.tell e) pv lv' (pvs ++ [pe])) ∧ Below base w w' ∧ Keeps w w'
theorem Tells.of {base b : Nat} {w w1 w2 : World} {m : Mc} {pv pe : Value} {pvs : List Value} {e : Ev} {x : Ending} (h : Tells base b w1 m pv pe pvs e x w2) (hb : Below base w w1) (hk : Keeps w w1) : Tells base b w m pv pe pvs e x w2 := ⟨h.1, h.2.1, hb.trans h.2.2.1, hk.trans h.2.2.2⟩
theorem tell_end {w w1 : World} {base b : Nat} {m : Mc} {pv lv lv' : Value} {pvs : List Value} {e : Ev} {pe : Value} (h : MD w base b m pv lv pvs) (he : w.ownsRow base 3 1 pe e.params.length (ints e.params)) (hgd : Good e)
    (ho : w1.ownsRow base 71 1 lv' (m.l.length + 1) (List.zipWith box m.l pvs ++ [box e pe])) (hg : w.grownBy w1 lv.ownBlock) (hbase : base ≤ w.heap.size) :
    Tells base b w m pv pe pvs e (.returned (.tuple #[])) (w1.setCell ⟨b, 5, none⟩ lv') := by
  have hb1 := h.beside hg
  have hg2 := set_grown w1 ⟨b, 5, none⟩ lv'
  refine ⟨rfl, ⟨lv', ?_⟩, ?_, fun B n y ys hy => ?_⟩
  · refine ⟨?_, h.low, (h.nums.kept hg (own_apart h.nums h.evs (by decide))).kept hg2 (own_not (h.nums.kept hg (own_apart h.nums h.evs (by decide))) hb1 (by decide)), by simp [Mc.tell, h.len], ?_, fun k hk => ?_, ?_⟩
    · have := block_set hb1 5 lv'
      simpa [cells6, Mc.tell] using this
    · have ho2 := ho.kept hg2 (own_not ho hb1 (by decide))
      show (w1.setCell _ _).ownsRow base _ 1 lv' (m.l ++ [e]).length (List.zipWith box (m.l ++ [e]) (pvs ++ [pe]))
      rw [List.length_append, List.zipWith_append h.len.symm]
      simpa using ho2
    · show (w1.setCell _ _).ownsRow base _ 1 ((pvs ++ [pe]).getD k undef) ((m.l ++ [e]).getD k (printE 0)).params.length (ints ((m.l ++ [e]).getD k (printE 0)).params)
      have hk : k < (m.l ++ [e]).length := hk
      by_cases hkl : k < m.l.length
      · have h1 := (h.each k hkl).kept hg (own_apart (h.each k hkl) h.evs (by decide))
        have h2 := h1.kept hg2 (own_not h1 hb1 (by decide))
        have hlen := h.len
        simp only [List.getD, List.getElem?_append_left hkl, List.getElem?_append_left (show k < pvs.length by omega)] at h2 ⊢
        exact h2
      · obtain rfl : k = m.l.length := by simp at hk; omega
        have h1 := he.kept hg (own_apart he h.evs (by decide))
        have h2 := h1.kept hg2 (own_not h1 hb1 (by decide))
        have e1 : (pvs ++ [pe]).getD m.l.length undef = pe := by simp [List.getD, ← h.len]
        have e2 : (m.l ++ [e]).getD m.l.length (printE 0) = e := by simp [List.getD]
        rw [e1, e2]
        exact h2
    · intro x hx
      rcases List.mem_append.1 (show x ∈ m.l ++ [e] from hx) with h1 | h1
      · exact h.good x h1
      · obtain rfl : x = e := by simpa using h1
        exact hgd
  · exact ((Below.refl base w).grown hg hbase (fun k hk => (h.evs.lt k hk).1)).setCell h.low _
  · have h1 := hy.kept hg (own_apart hy h.evs (by decide))
    exact h1.kept hg2 (own_not h1 hb1 (by decide))
theorem evt_info : (Tryd.prog.info? 71).map (fun i => (i.zero, i.size, i.bytes)) = some (some (.nilIface), 1, 16) := by kernel_rfl
theorem evt_row : ∃ i : TypeInfo, Tryd.prog.info? 71 = some i ∧ i.zero = some (.nilIface) ∧ i.size = 1 ∧ i.bytes = 16 := by
  obtain ⟨i, h, h1, h2, h3⟩ := info_parts evt_info
  exact ⟨i, h, h1, h2, h3⟩

set_option maxHeartbeats 800000 in
theorem tell_at (base b : Nat) (m : Mc) (pv lv : Value) (pvs : List Value) (e : Ev) (pe v : Value) (hv : box e pe = v) (hgd : Good e) (w : World) (h : MD w base b m pv lv pvs) (he : w.ownsRow base 3 1 pe e.params.length (ints e.params)) (hl : m.l.length ≤ 900000000) (hbase : base ≤ w.heap.size) :
    Calls Tryd.prog 38 #[.pointer (some ⟨b, 0, none⟩), v] w (Tells base b w m pv pe pvs e) := by
  have hvf := box_form e pe
  rw [hv] at hvf
  obtain ⟨tv, uv, rfl⟩ := hvf
  obtain ⟨A, cc, rfl⟩ := own_shape h.nums
  obtain ⟨A', cc', rfl⟩ := own_shape h.evs
  obtain ⟨r0, r1, r2, r3, r4, r5⟩ := h.reads
  obtain ⟨f0, f1, f2, f3, f4, f5⟩ := h.free
  have HM := Lib.hid h
  have HE := Lib.hid he
  have HV := Lib.hid hv
  obtain ⟨i, hi, hz, h5, h72⟩ := evt_row
  have HI := Lib.hid hi
  have HZ := Lib.hid hz
  have H5 := Lib.hid h5
  have H72 := Lib.hid h72
  clear h hi hz h5 h72 he hv
  go_enter Tryd.func38, Tryd.ntmps38
  have HMA := Lib.hid (HM.out.kept ((Below.refl _ _).alloc (Nat.le_refl _) (.cells #[.iface tv uv] 71)))
  have HEA := Lib.hid (own_keptC HE.out ((Below.refl _ _).alloc (Nat.le_refl _) (.cells #[.iface tv uv] 71)))
  go_wp2_with (at_builtin; refine wpList_append_lies _ rfl _ _ 53 rfl base 71 i _ 1 16 Tryd.underlying53 HI.out HZ.out H5.out H72.out rfl (by decide) (.slice A' m.l.length cc') m.l.length _ rfl HMA.out.evs ⟨w.heap.size, 0, none⟩ 1 1 [.iface tv uv] rfl rfl (At.one w _ _ _ _ rfl rfl) (by intro u hu; obtain rfl : u = .iface tv uv := (by simpa using hu); rfl) (by decide) (by simp only [maxLen]; omega) (by omega) (by simp; omega) _ rfl ?_; intro g cap w1 ho1 hg1 hat1 hlt1; have HB1 := Lib.hid (HMA.out.beside hg1); have q5 : w1.cell? ⟨b, 5, none⟩ = some (.slice A' m.l.length cc') := block_cell HB1.out 5; have g5 := block_free HB1.out 5; have HO1 := Lib.hid ho1; have HG1 := Lib.hid hg1; clear ho1 hg1 hat1)
  go_end0
  refine (tell_end HMA.out HEA.out hgd ?_ HG1.out (by simp; omega)).of ((Below.refl _ _).alloc hbase _) (Keeps.below ((Below.refl _ _).alloc (Nat.le_refl _) _))
  rw [HV.out]; exact HO1.out

/-- Telling an event without numbers. -/
theorem tellk_any (base b : Nat) (m : Mc) (e : Ev) (v : Value) (hv : box e (.slice none 0 0) = v) (hgd : Good e) (hp : e.params = []) (w : World) (h : Md w base b m) (hl : m.l.length ≤ 900000000) (hbase : base ≤ w.heap.size) :
    Calls Tryd.prog 38 #[.pointer (some ⟨b, 0, none⟩), v] w fun x w' => RunsD base b w (m.tell e) x w' ∧ Keeps w w' := by
  obtain ⟨pv, lv, pvs, hm, ha⟩ := h
  refine (tell_at base b m pv lv pvs e (.slice none 0 0) v hv hgd w hm (by rw [hp]; exact World.ownsRow_nil _ _ _ _) hl hbase).mono ?_
  rintro x w1 ⟨rfl, ⟨lv', hm1⟩, hb1, hk1⟩
  refine ⟨⟨rfl, ⟨pv, lv', _, hm1, fun k hk => ?_⟩, hb1⟩, hk1⟩
  have hlen := hm.len
  by_cases hkl : k < m.l.length
  · have := ha k hkl
    simp only [List.getD, List.getElem?_append_left (show k < pvs.length by omega)] at this ⊢
    exact this
  · obtain rfl : k = m.l.length := by simp [Mc.tell] at hk; omega
    left
    simp [List.getD, ← hlen, Value.ownBlock]
theorem tell_any (base b : Nat) (m : Mc) (e : Ev) (v : Value) (hv : box e (.slice none 0 0) = v) (hgd : Good e) (hp : e.params = []) (w : World) (h : Md w base b m) (hl : m.l.length ≤ 900000000) (hbase : base ≤ w.heap.size) :
    Calls Tryd.prog 38 #[.pointer (some ⟨b, 0, none⟩), v] w (RunsD base b w (m.tell e)) :=
  (tellk_any base b m e v hv hgd hp w h hl hbase).mono fun _ _ h => h.1
theorem control_any (base b : Nat) (m : Mc) (c : UInt8) (w : World) (h : Md w base b m) (hl : m.l.length ≤ 900000000) (hbase : base ≤ w.heap.size) :
    Calls Tryd.prog 38 #[.pointer (some ⟨b, 0, none⟩), .iface 69 (.int .u8 c.toNat)] w (RunsD base b w (m.control c)) :=
  tell_any base b m ⟨2, c.toNat, [], [], []⟩ _ rfl (.control c) rfl w h hl hbase

set_option maxHeartbeats 400000 in
theorem end_at (base b : Nat) (m : Mc) (pv lv : Value) (pvs : List Value) (e : Ev) (pe v : Value) (hv : box e pe = v) (hgd : Good e) (w : World) (h : MD w base b m pv lv pvs) (he : w.ownsRow base 3 1 pe e.params.length (ints e.params)) (hl : m.l.length ≤ 900000000) (hbase : base ≤ w.heap.size) :
    Calls Tryd.prog 69 #[.pointer (some ⟨b, 0, none⟩), v] w (RunsD base b w ((m.tell e).to 0)) := by
  have HM := Lib.hid h
  have HE := Lib.hid he
  have HV := Lib.hid hv
  clear h he hv
  go_enter Tryd.func69, Tryd.ntmps69
  go_wp2_with fail
  refine (tell_at base b m pv lv pvs e pe v HV.out hgd _ HM.out HE.out hl hbase).mono ?_
  rintro x w1 ⟨rfl, ⟨lv', hm1⟩, hb1, _⟩
  have HM1 := Lib.hid hm1
  clear hm1
  go_wp2_with fail
  refine (enter_at 0 rfl base b (m.tell e) pv lv' _ _ HM1.out).mono ?_
  rintro x w2 ⟨rfl, hm2, hb2⟩
  have HM2 := Lib.hid hm2
  clear hm2
  go_wp2_with fail
  go_end0
  exact ⟨rfl, HM2.out, hb1.trans hb2⟩
theorem end_any (base b : Nat) (m : Mc) (e : Ev) (v : Value) (hv : box e (.slice none 0 0) = v) (hgd : Good e) (hp : e.params = []) (w : World) (h : Md w base b m) (hl : m.l.length ≤ 900000000) (hbase : base ≤ w.heap.size) :
    Calls Tryd.prog 69 #[.pointer (some ⟨b, 0, none⟩), v] w (RunsD base b w ((m.tell e).to 0)) := by
  obtain ⟨pv, lv, pvs, hm, ha⟩ := h
  exact end_at base b m pv lv pvs e (.slice none 0 0) v hv hgd w hm (by rw [hp]; exact World.ownsRow_nil _ _ _ _) hl hbase
end Vd
end Go.Proofs.YtjodbmfjdpbbnaaDoor
