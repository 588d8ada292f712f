/- The reference's machine in memory: its block, its numbers, what it has told; the small functions on it. -/
import Derived.Test.YtjodbmfjdpbbnaaDoorVtHelp
import Derived.Deep.RegionLaw
import Derived.OneCell
namespace Go.Proofs.YtjodbmfjdpbbnaaDoor
set_option maxRecDepth 100000
open Go.RowKit
namespace Vt

/-- The machine's cells. -/
def cells6 (p : Ps) (pv lv : Value) : Array Value := #[.int .i64 p.state, .string ⟨p.part.toArray⟩, pv, .string ⟨p.inter.toArray⟩, .string ⟨p.text.toArray⟩, lv]
/-- The machine in block b: its block, its rows, from base on. -/
structure MachAt (w : World) (base b : Nat) (m : Mc) (pv lv : Value) (pvs : List Value) : Prop where
  block : w.heap[b]? = some (.cells (cells6 m.p pv lv) 60 (0, 0))
  low : base ≤ b
  nums : w.ownsRow base 3 1 pv m.p.params.length (ints m.p.params)
  len : pvs.length = m.l.length
  evs : w.ownsRow base 63 5 lv m.l.length (List.zipWith evVals m.l pvs).flatten
  each : ∀ k, k < m.l.length → w.ownsRow base 3 1 (pvs.getD k undef) (m.l.getD k (printE 0)).params.length (ints (m.l.getD k (printE 0)).params) ∧ ((pvs.getD k undef).ownBlock = none ∨ (pvs.getD k undef).ownBlock ≠ pv.ownBlock)
def Mach (w : World) (base b : Nat) (m : Mc) : Prop := ∃ pv lv pvs, MachAt w base b m pv lv pvs

theorem block_lt {w : World} {b : Nat} {o : Obj} (h : w.heap[b]? = some o) : b < w.heap.size := (Array.getElem?_eq_some_iff.1 h).1
theorem block_cell {w : World} {b : Nat} {cs : Array Value} {t : TypeId} (h : w.heap[b]? = some (.cells cs t (0, 0))) (j : Nat) : w.cell? ⟨b, j, none⟩ = cs[j]? := cell_of_row w b j cs t _ h
theorem block_free {w : World} {b : Nat} {cs : Array Value} {t : TypeId} (h : w.heap[b]? = some (.cells cs t (0, 0))) (j : Nat) : w.frozen? ⟨b, j, none⟩ = false := frozen_of_row w b j cs t h
theorem block_set {w : World} {b : Nat} {cs : Array Value} {t : TypeId} (h : w.heap[b]? = some (.cells cs t (0, 0))) (j : Nat) (u : Value) : (w.setCell ⟨b, j, none⟩ u).heap[b]? = some (.cells (cs.setIfInBounds j u) t (0, 0)) := heap_setCell_same w b j cs t u h
theorem set_grown (w : World) (a : Addr) (u : Value) : w.grownBy (w.setCell a u) (some a.block) :=
  ⟨rfl, rfl, rfl, by simp, fun k _ hk => heap_setCell_other w a k u (fun e => hk (by rw [e]))⟩
/-- A row of the call's own lies in no block of another element type. -/
theorem own_not {w : World} {base C : Nat} {e t : TypeId} {v : Value} {n : Nat} {xs : List Value} {b : Nat} {cs : Array Value} {fr : Nat × Nat} (h : w.ownsRow base e C v n xs) (hb : w.heap[b]? = some (.cells cs t fr)) (he : e ≠ t) : v.ownBlock = none ∨ v.ownBlock ≠ some b := by
  rcases h.2 with ⟨rfl, _⟩ | ⟨g, cap, cur, rfl, _, hg, _⟩
  · exact .inl rfl
  · right
    simp only [Value.ownBlock]
    intro e'
    injection e' with e'
    subst e'
    rw [hb] at hg
    injection hg with hg
    injection hg with _ ht
    exact he ht.symm
/-- The machine's block has turned, nothing else: its rows stand. -/
theorem MachAt.upd {w w' : World} {base b : Nat} {m : Mc} {pv lv : Value} {pvs : List Value} (h : MachAt w base b m pv lv pvs) (hg : w.grownBy w' (some b)) (p' : Ps) (hp : p'.params = m.p.params)
    (hb : w'.heap[b]? = some (.cells (cells6 p' pv lv) 60 (0, 0))) : MachAt w' base b ⟨p', m.l⟩ pv lv pvs := by
  refine ⟨hb, h.low, ?_, h.len, h.evs.kept hg (own_not h.evs h.block (by decide)), fun k hk => ⟨(h.each k hk).1.kept hg (own_not (h.each k hk).1 h.block (by decide)), (h.each k hk).2⟩⟩
  rw [show (⟨p', m.l⟩ : Mc).p.params = m.p.params from hp]
  exact h.nums.kept hg (own_not h.nums h.block (by decide))
/-- The machine's block has turned, its numbers are gone. -/
theorem MachAt.bare {w w' : World} {base b : Nat} {m : Mc} {pv lv : Value} {pvs : List Value} (h : MachAt w base b m pv lv pvs) (hg : w.grownBy w' (some b)) (p' : Ps) (hp : p'.params = [])
    (hb : w'.heap[b]? = some (.cells (cells6 p' (.slice none 0 0) lv) 60 (0, 0))) : MachAt w' base b ⟨p', m.l⟩ (.slice none 0 0) lv pvs := by
  refine ⟨hb, h.low, ?_, h.len, h.evs.kept hg (own_not h.evs h.block (by decide)), fun k hk => ⟨(h.each k hk).1.kept hg (own_not (h.each k hk).1 h.block (by decide)), ?_⟩⟩
  · show w'.ownsRow base 3 1 _ p'.params.length (ints p'.params)
    rw [hp]; exact World.ownsRow_nil _ _ _ _
  · cases hv : (pvs.getD k undef).ownBlock
    · exact .inl rfl
    · exact .inr (by simp [Value.ownBlock])
theorem MachAt.kept {w w' : World} {base b : Nat} {m : Mc} {pv lv : Value} {pvs : List Value} (h : MachAt w base b m pv lv pvs) (hb : Below w.heap.size w w') : MachAt w' base b m pv lv pvs :=
  ⟨(hb.block b (block_lt h.block)).trans h.block, h.low, own_keptC h.nums hb, h.len, own_keptC h.evs hb, fun k hk => ⟨own_keptC (h.each k hk).1 hb, (h.each k hk).2⟩⟩
/-- What a walk reads of the block. -/
theorem MachAt.reads {w : World} {base b : Nat} {m : Mc} {pv lv : Value} {pvs : List Value} (h : MachAt w base b m pv lv pvs) :
    w.cell? ⟨b, 0, none⟩ = some (.int .i64 m.p.state) ∧ w.cell? ⟨b, 1, none⟩ = some (.string ⟨m.p.part.toArray⟩) ∧ w.cell? ⟨b, 2, none⟩ = some pv ∧ w.cell? ⟨b, 3, none⟩ = some (.string ⟨m.p.inter.toArray⟩) ∧
      w.cell? ⟨b, 4, none⟩ = some (.string ⟨m.p.text.toArray⟩) ∧ w.cell? ⟨b, 5, none⟩ = some lv :=
  ⟨block_cell h.block 0, block_cell h.block 1, block_cell h.block 2, block_cell h.block 3, block_cell h.block 4, block_cell h.block 5⟩
theorem MachAt.free {w : World} {base b : Nat} {m : Mc} {pv lv : Value} {pvs : List Value} (h : MachAt w base b m pv lv pvs) :
    w.frozen? ⟨b, 0, none⟩ = false ∧ w.frozen? ⟨b, 1, none⟩ = false ∧ w.frozen? ⟨b, 2, none⟩ = false ∧ w.frozen? ⟨b, 3, none⟩ = false ∧ w.frozen? ⟨b, 4, none⟩ = false ∧ w.frozen? ⟨b, 5, none⟩ = false :=
  ⟨block_free h.block 0, block_free h.block 1, block_free h.block 2, block_free h.block 3, block_free h.block 4, block_free h.block 5⟩
/-- What a function on the machine tells: nothing; the machine is another. -/
def Runs (base b : Nat) (w : World) (m : Mc) (e : Ending) (w' : World) : Prop := e = .returned (.tuple #[]) ∧ Mach w' base b m ∧ Below base w w'

theorem to_end {w : World} {base b : Nat} {m : Mc} {pv lv : Value} {pvs : List Value} (h : MachAt w base b m pv lv pvs) (x : Int) :
    Runs base b w (m.to x) (.returned (.tuple #[])) (((((w.setCell ⟨b, 0, none⟩ (.int .i64 x)).setCell ⟨b, 1, none⟩ (.string ⟨#[]⟩)).setCell ⟨b, 2, none⟩ (.slice none 0 0)).setCell ⟨b, 3, none⟩ (.string ⟨#[]⟩)).setCell ⟨b, 4, none⟩ (.string ⟨#[]⟩)) := by
  have hg : w.grownBy (((((w.setCell ⟨b, 0, none⟩ (.int .i64 x)).setCell ⟨b, 1, none⟩ (.string ⟨#[]⟩)).setCell ⟨b, 2, none⟩ (.slice none 0 0)).setCell ⟨b, 3, none⟩ (.string ⟨#[]⟩)).setCell ⟨b, 4, none⟩ (.string ⟨#[]⟩)) (some b) :=
    ((((set_grown w ⟨b, 0, none⟩ _).trans (set_grown _ ⟨b, 1, none⟩ _)).trans (set_grown _ ⟨b, 2, none⟩ _)).trans (set_grown _ ⟨b, 3, none⟩ _)).trans (set_grown _ ⟨b, 4, none⟩ _)
  have hb := block_set (block_set (block_set (block_set (block_set h.block 0 (.int .i64 x)) 1 (.string ⟨#[]⟩)) 2 (.slice none 0 0)) 3 (.string ⟨#[]⟩)) 4 (.string ⟨#[]⟩)
  have hB : Below base w (((((w.setCell ⟨b, 0, none⟩ (.int .i64 x)).setCell ⟨b, 1, none⟩ (.string ⟨#[]⟩)).setCell ⟨b, 2, none⟩ (.slice none 0 0)).setCell ⟨b, 3, none⟩ (.string ⟨#[]⟩)).setCell ⟨b, 4, none⟩ (.string ⟨#[]⟩)) :=
    (((((Below.refl base w).setCell (p := ⟨b, 0, none⟩) h.low _).setCell (p := ⟨b, 1, none⟩) h.low _).setCell (p := ⟨b, 2, none⟩) h.low _).setCell (p := ⟨b, 3, none⟩) h.low _).setCell (p := ⟨b, 4, none⟩) h.low _
  generalize ((((w.setCell ⟨b, 0, none⟩ (.int .i64 x)).setCell ⟨b, 1, none⟩ (.string ⟨#[]⟩)).setCell ⟨b, 2, none⟩ (.slice none 0 0)).setCell ⟨b, 3, none⟩ (.string ⟨#[]⟩)).setCell ⟨b, 4, none⟩ (.string ⟨#[]⟩) = W at hg hb hB ⊢
  exact ⟨rfl, ⟨.slice none 0 0, lv, pvs, h.bare hg (none_ x) rfl hb⟩, hB⟩
set_option maxHeartbeats 400000 in
theorem to_any {x : Int} (s : Int) (hs : x = s) (base b : Nat) (m : Mc) (w : World) (h : Mach w base b m) : Calls Tryd.prog 44 #[.pointer (some ⟨b, 0, none⟩), .int .i64 x] w (Runs base b w (m.to s)) := by
  subst hs
  obtain ⟨pv, lv, pvs, hm⟩ := h
  obtain ⟨A, c, rfl⟩ := own_shape hm.nums
  obtain ⟨A', c', rfl⟩ := own_shape hm.evs
  obtain ⟨r0, r1, r2, r3, r4, r5⟩ := hm.reads
  obtain ⟨f0, f1, f2, f3, f4, f5⟩ := hm.free
  have HM := Lib.hid hm
  clear hm
  go_enter Tryd.func44, Tryd.ntmps44
  go_wp2_with fail
  go_end0
  exact to_end HM.out x

theorem Runs.of {base b : Nat} {w w1 w2 : World} {m : Mc} {e : Ending} (h : Runs base b w1 m e w2) (hb : Below base w w1) : Runs base b w m e w2 := ⟨h.1, h.2.1, hb.trans h.2.2⟩
/-- Behind an append to what was told the machine's block stands. -/
theorem MachAt.beside {w w1 : World} {base b : Nat} {m : Mc} {pv lv : Value} {pvs : List Value} (h : MachAt w base b m pv lv pvs) (hg : w.grownBy w1 lv.ownBlock) : w1.heap[b]? = some (.cells (cells6 m.p pv lv) 60 (0, 0)) := by
  refine (hg.block b (block_lt h.block) ?_).trans h.block
  rcases own_not h.evs h.block (by decide) with e | e
  · rw [e]; simp
  · exact fun h => e h.symm
/-- One event was put behind what was told; the new list is in the machine. -/
theorem tell_end {w w1 : World} {base b : Nat} {m : Mc} {pv lv lv' : Value} {pvs : List Value} {e : Ev} {pe : Value} (h : MachAt w base b m pv lv pvs) (he : w.ownsRow base 3 1 pe e.params.length (ints e.params)) (hpe : pe.ownBlock = none ∨ pe.ownBlock ≠ pv.ownBlock)
    (ho : w1.ownsRow base 63 5 lv' (m.l.length + 1) ((List.zipWith evVals m.l pvs).flatten ++ evVals e pe)) (hg : w.grownBy w1 lv.ownBlock) (hbase : base ≤ w.heap.size) :
    Runs base b w (m.tell e) (.returned (.tuple #[])) (w1.setCell ⟨b, 5, none⟩ lv') := by
  have hb1 := h.beside hg
  have hg2 := set_grown w1 ⟨b, 5, none⟩ lv'
  refine ⟨rfl, ⟨pv, lv', pvs ++ [pe], ?_⟩, ?_⟩
  · refine ⟨?_, h.low, (h.nums.kept hg (own_apart h.nums h.evs (by decide))).kept hg2 (own_not (h.nums.kept hg (own_apart h.nums h.evs (by decide))) hb1 (by decide)), by simp [Mc.tell, h.len], ?_, fun k hk => ?_⟩
    · have := block_set hb1 5 lv'
      simpa [cells6, Mc.tell] using this
    · have ho2 := ho.kept hg2 (own_not ho hb1 (by decide))
      show (w1.setCell _ _).ownsRow base _ 5 lv' (m.l ++ [e]).length (List.zipWith evVals (m.l ++ [e]) (pvs ++ [pe])).flatten
      rw [List.length_append, List.zipWith_append h.len.symm, List.flatten_append]
      simpa using ho2
    · show (w1.setCell _ _).ownsRow base _ 1 ((pvs ++ [pe]).getD k undef) ((m.l ++ [e]).getD k (printE 0)).params.length (ints ((m.l ++ [e]).getD k (printE 0)).params) ∧ _
      have hk : k < (m.l ++ [e]).length := hk
      by_cases hkl : k < m.l.length
      · have h1 := (h.each k hkl).1.kept hg (own_apart (h.each k hkl).1 h.evs (by decide))
        have h2 := h1.kept hg2 (own_not h1 hb1 (by decide))
        have h3 := (h.each k hkl).2
        have hlen := h.len
        simp only [List.getD, List.getElem?_append_left hkl, List.getElem?_append_left (show k < pvs.length by omega)] at h2 h3 ⊢
        exact ⟨h2, h3⟩
      · obtain rfl : k = m.l.length := by simp at hk; omega
        have h1 := he.kept hg (own_apart he h.evs (by decide))
        have h2 := h1.kept hg2 (own_not h1 hb1 (by decide))
        have e1 : (pvs ++ [pe]).getD m.l.length undef = pe := by simp [List.getD, ← h.len]
        have e2 : (m.l ++ [e]).getD m.l.length (printE 0) = e := by simp [List.getD]
        rw [e1, e2]
        exact ⟨h2, hpe⟩
  · exact ((Below.refl base w).grown hg hbase (fun k hk => (h.evs.lt k hk).1)).setCell h.low _
set_option maxHeartbeats 800000 in
theorem control_any (base b : Nat) (m : Mc) (c : UInt8) (w : World) (h : Mach w base b m) (hl : m.l.length ≤ 900000000) (hbase : base ≤ w.heap.size) : Calls Tryd.prog 43 #[.pointer (some ⟨b, 0, none⟩), .int .u8 c.toNat] w (Runs base b w (m.control c)) := by
  obtain ⟨pv, lv, pvs, hm⟩ := h
  obtain ⟨A, cc, rfl⟩ := own_shape hm.nums
  obtain ⟨A', cc', rfl⟩ := own_shape hm.evs
  obtain ⟨r0, r1, r2, r3, r4, r5⟩ := hm.reads
  obtain ⟨f0, f1, f2, f3, f4, f5⟩ := hm.free
  have hc := Utf.byte_lt c
  have HM := Lib.hid hm
  obtain ⟨i, hi, hz, h5, h72⟩ := event_row
  have HI := Lib.hid hi
  have HZ := Lib.hid hz
  have H5 := Lib.hid h5
  have H72 := Lib.hid h72
  clear hm hi hz h5 h72
  go_enter Tryd.func43, Tryd.ntmps43
  have HMA := Lib.hid (HM.out.kept ((Below.refl _ _).alloc (Nat.le_refl _) (.cells #[.int .i64 2, .int .i64 c.toNat, .slice none 0 0, .string ⟨#[]⟩, .string ⟨#[]⟩] 63)))
  go_wp2_with (at_builtin; refine wpList_append_lies _ rfl _ _ 37 rfl base 63 i _ 5 72 Tryd.underlying37 HI.out HZ.out H5.out H72.out rfl (by decide) (.slice A' m.l.length cc') m.l.length _ rfl HMA.out.evs ⟨w.heap.size, 0, none⟩ 1 1 (evVals ⟨2, c.toNat, [], [], []⟩ (.slice none 0 0)) rfl rfl (At.one w _ _ _ _ rfl rfl) (evVals_cells ⟨none, 0, 0, rfl⟩) (by decide) (by simp only [maxLen]; omega) (by omega) (by simp; omega) _ rfl ?_; intro g cap w1 ho1 hg1 hat1 hlt1; have HB1 := Lib.hid (HMA.out.beside hg1); have q5 : w1.cell? ⟨b, 5, none⟩ = some (.slice A' m.l.length cc') := block_cell HB1.out 5; have g5 := block_free HB1.out 5; have HO1 := Lib.hid ho1; have HG1 := Lib.hid hg1; clear ho1 hg1 hat1)
  go_end0
  exact (tell_end HMA.out (World.ownsRow_nil _ _ _ _) (.inl rfl) HO1.out HG1.out (by simp; omega)).of ((Below.refl _ _).alloc hbase _)
theorem tell_row {w w1 : World} {base b B n : Nat} {m : Mc} {pv lv y : Value} {pvs : List Value} {ys : List Value} (h : MachAt w base b m pv lv pvs) (hy : w.ownsRow B 3 1 y n ys) (hg : w.grownBy w1 lv.ownBlock) (v : Value) : (w1.setCell ⟨b, 5, none⟩ v).ownsRow B 3 1 y n ys := by
  have h1 := hy.kept hg (own_apart hy h.evs (by decide))
  exact h1.kept (set_grown w1 ⟨b, 5, none⟩ v) (own_not h1 (h.beside hg) (by decide))
theorem prints_len (l : List Int) : (prints l).length ≤ l.length := by unfold prints; rw [List.length_map]; exact List.length_filter_le _ _
theorem print_succ (m : Mc) {xs : List Int} {k : Nat} (h : k < xs.length) : m.print (xs.take (k + 1)) = if shown (xs.getD k 0) = true then (m.print (xs.take k)).tell (printE (xs.getD k 0)) else m.print (xs.take k) := by
  rw [take_succ_getD h]
  unfold Mc.print prints
  rw [List.filter_append, List.map_append]
  by_cases hs : shown (xs.getD k 0) = true
  · rw [if_pos hs, List.filter_cons_of_pos hs]; simp [Mc.tell]
  · rw [if_neg hs, List.filter_cons_of_neg hs]; simp

set_option maxHeartbeats 1600000 in
theorem print_any (base b : Nat) (m : Mc) (x : Value) (xs : List Int) (B : Nat) (w : World) (h : Mach w base b m) (hx : w.ownsRow B 3 1 x xs.length (ints xs)) (hn : xs.length ≤ 1000) (hl : m.l.length ≤ 800000000) (hbase : base ≤ w.heap.size) :
    Calls Tryd.prog 62 #[.pointer (some ⟨b, 0, none⟩), x] w (Runs base b w (m.print xs)) := by
  obtain ⟨A, c, rfl⟩ := own_shape hx
  have HX := Lib.hid hx
  have HM0 := Lib.hid h
  have hbase' := Lib.hid hbase
  obtain ⟨i, hi, hz, h5, h72⟩ := event_row
  have HI := Lib.hid hi
  have HZ := Lib.hid hz
  have H5 := Lib.hid h5
  have H72 := Lib.hid h72
  clear hx h hbase hi hz h5 h72
  go_enter Tryd.func62, Tryd.ntmps62
  go_wp2_with fail
  go_loopw [4] (fun j wr => ∃ k : Nat, k ≤ xs.length ∧ j = .int .i64 k ∧ Hid (Mach wr base b (m.print (xs.take k))) ∧ Hid (wr.ownsRow B 3 1 (.slice A xs.length c) xs.length (ints xs)) ∧ Below base w wr) (fun j _ => xs.length - (intOf j).toNat)
  case atStart => exact ⟨0, by omega, rfl, Lib.hid (by simpa [Mc.print, prints] using HM0.out), HX, Below.refl _ _⟩
  case round =>
    obtain ⟨k, hk, rfl, HM, HX2, hbl⟩ := hrel
    by_cases hlt : k < xs.length
    · obtain ⟨A', c', hA, hf⟩ := (Src.own HX2.out).form
      obtain ⟨ad, e, hE2⟩ := hf k hlt
      injection hA with h1 h2 h3
      subst h1
      subst h3
      subst e
      rw [ints_get hlt] at hE2
      clear hf
      obtain ⟨pv, lv, pvs, hm⟩ := HM.out
      obtain ⟨A1, c1, rfl⟩ := own_shape hm.nums
      obtain ⟨A2, c2, rfl⟩ := own_shape hm.evs
      obtain ⟨r0, r1, r2, r3, r4, r5⟩ := hm.reads
      obtain ⟨f0, f1, f2, f3, f4, f5⟩ := hm.free
      have HMM := Lib.hid hm
      have hblt := block_lt hm.block
      have HS := Lib.hid (print_succ m hlt)
      have hlen : (m.print (xs.take k)).l.length ≤ 800001000 := by
        have h1 := prints_len (xs.take k)
        have h2 : (xs.take k).length ≤ xs.length := by rw [List.length_take]; omega
        show (m.l ++ prints (xs.take k)).length ≤ _
        rw [List.length_append]; omega
      clear hm h2
      generalize xs.getD k 0 = r at hE2 HS
      have HMA := Lib.hid (HMM.out.kept (((Below.refl _ _).drew).alloc (Nat.le_refl _) (.cells #[.int .i64 1, .int .i64 r, .slice none 0 0, .string ⟨#[]⟩, .string ⟨#[]⟩] 63)))
      have hmaxl : (m.print (xs.take k)).l.length + 1 ≤ maxLen := by simp only [maxLen]; omega
      have hbytes : ((m.print (xs.take k)).l.length + 1) * 72 ≤ 140737488355328 := by omega
      have hbaseA : base ≤ (wr.drew.alloc (.cells #[.int .i64 1, .int .i64 r, .slice none 0 0, .string ⟨#[]⟩, .string ⟨#[]⟩] 63)).heap.size := by have := hbase'.out; have := hbl.size; simp; omega
      have HBA := Lib.hid hbaseA
      by_cases h128 : r < 128
      · have HS2 : Hid (m.print (xs.take (k + 1)) = (m.print (xs.take k)).tell (printE r)) := Lib.hid (by rw [HS.out, if_pos (by unfold shown; rw [decide_eq_true h128]; rfl)])
        clear HS
        go_wp2_with fail
        go_region_law ((refine step_append_lies _ rfl (.tmp 27) (.tmp 33) 37 rfl base 63 i _ 5 72 Tryd.underlying37 HI.out HZ.out H5.out H72.out rfl (by decide) (.slice A2 (m.print (xs.take k)).l.length c2) (m.print (xs.take k)).l.length _ (by simp [Act.eval]) HMA.out.evs ⟨wr.heap.size, 0, none⟩ 1 1 (evVals (printE r) (.slice none 0 0)) (by simp [Act.eval]) rfl (At.one _ _ _ _ _ rfl rfl) (evVals_cells ⟨none, 0, 0, rfl⟩) (by decide) hmaxl hbytes hbaseA _ rfl ?_; intro g cap w1 ho1 hg1 hat1 hlt1; have HB1 := Lib.hid (HMA.out.beside hg1); have q5 : w1.cell? ⟨b, 5, none⟩ = some (.slice A2 (m.print (xs.take k)).l.length c2) := block_cell HB1.out 5; have g5 := block_free HB1.out 5; have HO1 := Lib.hid ho1; have HG1 := Lib.hid hg1; clear ho1 hg1 hat1))
        all_goals
          have hend := tell_end HMA.out (World.ownsRow_nil _ _ _ _) (.inl rfl) HO1.out HG1.out HBA.out
          have HEND := Lib.hid hend
          have HXX := Lib.hid (tell_row HMA.out (HX2.out.alloc _) HG1.out (.slice (some ⟨g, 0, none⟩) ((m.print (xs.take k)).l.length + 1) cap))
          clear hend q5 g5
          go_wp2_with fail
          go_roundw
          case rel => exact ⟨k + 1, by omega, by go_num, Lib.hid (by rw [HS2.out]; exact HEND.out.2.1), HXX, hbl.trans ((((Below.refl base wr).drew).alloc (Nat.le_trans hbase'.out hbl.size) _).trans HEND.out.2.2)⟩
          case measure => simp [intOf]; omega
      · have hd1 : decide (r < 128) = false := decide_eq_false h128
        by_cases h159 : 159 < r
        · have HS2 : Hid (m.print (xs.take (k + 1)) = (m.print (xs.take k)).tell (printE r)) := Lib.hid (by rw [HS.out, if_pos (by unfold shown; rw [decide_eq_true h159, Bool.or_true])])
          clear HS h128
          go_wp2_with fail
          go_region_law ((refine step_append_lies _ rfl (.tmp 27) (.tmp 33) 37 rfl base 63 i _ 5 72 Tryd.underlying37 HI.out HZ.out H5.out H72.out rfl (by decide) (.slice A2 (m.print (xs.take k)).l.length c2) (m.print (xs.take k)).l.length _ (by simp [Act.eval]) HMA.out.evs ⟨wr.heap.size, 0, none⟩ 1 1 (evVals (printE r) (.slice none 0 0)) (by simp [Act.eval]) rfl (At.one _ _ _ _ _ rfl rfl) (evVals_cells ⟨none, 0, 0, rfl⟩) (by decide) hmaxl hbytes hbaseA _ rfl ?_; intro g cap w1 ho1 hg1 hat1 hlt1; have HB1 := Lib.hid (HMA.out.beside hg1); have q5 : w1.cell? ⟨b, 5, none⟩ = some (.slice A2 (m.print (xs.take k)).l.length c2) := block_cell HB1.out 5; have g5 := block_free HB1.out 5; have HO1 := Lib.hid ho1; have HG1 := Lib.hid hg1; clear ho1 hg1 hat1))
          all_goals
            have hend := tell_end HMA.out (World.ownsRow_nil _ _ _ _) (.inl rfl) HO1.out HG1.out HBA.out
            have HEND := Lib.hid hend
            have HXX := Lib.hid (tell_row HMA.out (HX2.out.alloc _) HG1.out (.slice (some ⟨g, 0, none⟩) ((m.print (xs.take k)).l.length + 1) cap))
            clear hend q5 g5
            go_wp2_with fail
            go_roundw
            case rel => exact ⟨k + 1, by omega, by go_num, Lib.hid (by rw [HS2.out]; exact HEND.out.2.1), HXX, hbl.trans ((((Below.refl base wr).drew).alloc (Nat.le_trans hbase'.out hbl.size) _).trans HEND.out.2.2)⟩
            case measure => simp [intOf]; omega
        · have hd2 : decide (159 < r) = false := decide_eq_false h159
          have HS2 : Hid (m.print (xs.take (k + 1)) = m.print (xs.take k)) := Lib.hid (by rw [HS.out, if_neg (by unfold shown; rw [hd1, hd2]; decide)])
          clear HS h128 h159 HMA hmaxl hbytes hbaseA HBA
          go_wp2_with fail
          go_roundw
          case rel => exact ⟨k + 1, by omega, by go_num, Lib.hid (by rw [HS2.out]; exact HM.out), HX2, hbl⟩
          case measure => simp [intOf]; omega
    · have hkl : k = xs.length := by omega
      subst hkl
      have HE : Hid (xs.take xs.length = xs) := Lib.hid (List.take_of_length_le (Nat.le_refl _))
      clear hlt
      go_wp2_with fail
      go_end0
      have hm := HM.out
      rw [HE.out] at hm
      exact ⟨rfl, hm, hbl⟩
end Vt
end Go.Proofs.YtjodbmfjdpbbnaaDoor
