/- Contracts of what the statements share on parser states and events: equal, copied, written over. -/
import Derived.Test.YtjodbmfjdpbbnaaDoorRecs
import Derived.Test.YtjodbmfjdpbbnaaDoorNums
import Derived.Test.YtjodbmfjdpbbnaaDoorVtPlain
namespace Go.Proofs.YtjodbmfjdpbbnaaDoor
set_option maxRecDepth 100000
open Go.RowKit
namespace Vt

set_option maxHeartbeats 400000 in
theorem eqParse_same (s : Int) (a i t : ByteArray) (xs : List Int) (u v : Value) (w : World) (hu : Src w u xs.length (ints xs)) (hv : Src w v xs.length (ints xs)) (hn : xs.length ≤ 1000000000) :
    Calls Tryd.prog 14 #[.agg #[.int .i64 s, .string a, u, .string i, .string t], .agg #[.int .i64 s, .string a, v, .string i, .string t]] w fun e w' => e = .returned (.bool true) ∧ Below w.heap.size w w' := by
  have HU := Lib.hid hu
  have HV := Lib.hid hv
  clear hu hv
  go_enter Tryd.func14, Tryd.ntmps14
  go_wp2_with fail
  have hb : Below w.heap.size w ((w.alloc (.cells #[.int .i64 s, .string a, u, .string i, .string t] 31)).alloc (.cells #[.int .i64 s, .string a, v, .string i, .string t] 31)) := ((Below.refl _ _).alloc (Nat.le_refl _) _).alloc (by simp) _
  refine (eqNumbers_same _ _ xs xs _ (Src.kept HU.out hb) (Src.kept HV.out hb) rfl hn).mono ?_
  rintro e w1 ⟨rfl, q, rfl⟩
  go_wp2_with fail
  go_ret
  exact ⟨rfl, below_drewN hb q⟩
set_option maxHeartbeats 400000 in
theorem eqEvent_same (k r : Int) (i t : ByteArray) (xs : List Int) (u v : Value) (w : World) (hu : Src w u xs.length (ints xs)) (hv : Src w v xs.length (ints xs)) (hn : xs.length ≤ 1000000000) :
    Calls Tryd.prog 31 #[.agg #[.int .i64 k, .int .i64 r, u, .string i, .string t], .agg #[.int .i64 k, .int .i64 r, v, .string i, .string t]] w fun e w' => e = .returned (.bool true) ∧ Below w.heap.size w w' := by
  have HU := Lib.hid hu
  have HV := Lib.hid hv
  clear hu hv
  go_enter Tryd.func31, Tryd.ntmps31
  go_wp2_with fail
  have hb : Below w.heap.size w ((w.alloc (.cells #[.int .i64 k, .int .i64 r, u, .string i, .string t] 63)).alloc (.cells #[.int .i64 k, .int .i64 r, v, .string i, .string t] 63)) := ((Below.refl _ _).alloc (Nat.le_refl _) _).alloc (by simp) _
  refine (eqNumbers_same _ _ xs xs _ (Src.kept HU.out hb) (Src.kept HV.out hb) rfl hn).mono ?_
  rintro e w1 ⟨rfl, q, rfl⟩
  go_wp2_with fail
  go_ret
  exact ⟨rfl, below_drewN hb q⟩

/-- An event's cells. -/
def evVals (e : Ev) (pv : Value) : List Value := [.int .i64 e.kind, .int .i64 e.rune, pv, .string ⟨e.inter.toArray⟩, .string ⟨e.text.toArray⟩]
/-- A slice of events that reads as a list. -/
def Evs (w : World) (x : Value) (l : List Ev) : Prop :=
  ∃ pvs : List Value, pvs.length = l.length ∧ Recs w x 5 l.length (List.zipWith evVals l pvs) ∧ ∀ k, k < l.length → Src w (pvs.getD k undef) (l.getD k (printE 0)).params.length (ints (l.getD k (printE 0)).params)
theorem Evs.kept {w w' : World} {x : Value} {l : List Ev} (h : Evs w x l) (hb : Below w.heap.size w w') : Evs w' x l := by
  obtain ⟨pvs, h1, h2, h3⟩ := h
  exact ⟨pvs, h1, h2.kept hb, fun k hk => (h3 k hk).kept hb⟩
theorem Evs.nil (w : World) : Evs w (.slice none 0 0) [] := ⟨[], rfl, ⟨rfl, by simp, .inl ⟨rfl, rfl⟩⟩, fun k hk => absurd hk (by simp)⟩
/-- By its parts. -/
theorem Evs.form {w : World} {x : Value} {l : List Ev} (h : Evs w x l) : ∃ A c, x = .slice A l.length c ∧ ∀ k, k < l.length → ∃ ad pv, A = some ad ∧ At w (ad.add (k * 5)) (evVals (l.getD k (printE 0)) pv) ∧ Src w pv (l.getD k (printE 0)).params.length (ints (l.getD k (printE 0)).params) := by
  obtain ⟨pvs, h1, h2, h3⟩ := h
  obtain ⟨A, c, rfl, hf⟩ := h2.form
  refine ⟨A, c, rfl, fun k hk => ?_⟩
  obtain ⟨ad, rfl, ha⟩ := hf k hk
  refine ⟨ad, pvs.getD k undef, rfl, ?_, h3 k hk⟩
  have e : (List.zipWith evVals l pvs).getD k [] = evVals (l.getD k (printE 0)) (pvs.getD k undef) := by
    have hp : k < pvs.length := by omega
    simp [List.getD, List.getElem?_zipWith, hk, hp]
  rw [e] at ha; exact ha

set_option maxHeartbeats 800000 in
theorem eqEvents_same (l : List Ev) (x y : Value) (w : World) (hx : Evs w x l) (hy : Evs w y l) (hn : l.length ≤ 1000000000) (hp : ∀ e ∈ l, e.params.length ≤ 1000000000) :
    Calls Tryd.prog 13 #[x, y] w fun e w' => e = .returned (.bool true) ∧ Below w.heap.size w w' := by
  obtain ⟨A, c, rfl, hA⟩ := hx.form
  obtain ⟨A', c', rfl, hA'⟩ := hy.form
  have HA := Lib.hid hA
  have HA' := Lib.hid hA'
  have HP := Lib.hid hp
  clear hA hA' hx hy hp
  go_enter Tryd.func13, Tryd.ntmps13
  go_wp2_with fail
  go_loopw [5] (fun i wr => ∃ k : Nat, k ≤ l.length ∧ i = .int .i64 k ∧ Below w.heap.size w wr) (fun i _ => l.length - (intOf i).toNat)
  case atStart => exact ⟨0, by omega, rfl, Below.refl _ _⟩
  case round =>
    obtain ⟨k, hk, rfl, hbl⟩ := hrel
    by_cases hlt : k < l.length
    · obtain ⟨ad, pv, rfl, K, hs⟩ := HA.out k hlt
      obtain ⟨ad', pv', rfl, K', hs'⟩ := HA'.out k hlt
      have hle : (l.getD k (printE 0)).params.length ≤ 1000000000 := HP.out _ (by simp [List.getD, hlt])
      generalize l.getD k (printE 0) = ev at K hs K' hs' hle
      obtain ⟨kind, rune, ps, it, tx⟩ := ev
      have K := K.kept hbl
      have K' := K'.kept hbl
      have h0 := K.head
      have h1 := K.next 0 rfl
      have h2 := K.next 1 rfl
      have h3 := K.next 2 rfl
      have h4 := K.next 3 rfl
      have h0' := K'.head
      have h1' := K'.next 0 rfl
      have h2' := K'.next 1 rfl
      have h3' := K'.next 2 rfl
      have h4' := K'.next 3 rfl
      have HS := Lib.hid hs
      have HS' := Lib.hid hs'
      clear K K' hs hs'
      go_wp2_with fail
      go_still_tail 8, (by kernel_rfl)
      change wpList _ _ _ _ _ wr.drew
      go_wp2_with fail
      refine (eqEvent_same kind rune ⟨it.toArray⟩ ⟨tx.toArray⟩ ps pv pv' _ (Src.kept HS.out hbl.drew) (Src.kept HS'.out hbl.drew) hle).mono ?_
      rintro e w1 ⟨rfl, hb1⟩
      have hb2 : Below w.heap.size w w1 := hbl.drew.trans (hb1.mono hbl.size)
      go_wp2_with fail
      go_roundw
      case rel => exact ⟨k + 1, by omega, by go_num, hb2⟩
      case measure => simp [intOf]; omega
    · have hd : decide (k < l.length) = false := decide_eq_false hlt
      clear hlt
      go_wp2_with fail
      go_ret
      exact ⟨rfl, hbl⟩

set_option maxHeartbeats 400000 in
theorem copyParse_any (s : Int) (a i t : ByteArray) (xs : List Int) (u : Value) (w : World) (hu : Src w u xs.length (ints xs)) (hn : xs.length ≤ 1000000000) :
    Calls Tryd.prog 10 #[.agg #[.int .i64 s, .string a, u, .string i, .string t]] w fun e w' =>
      ∃ v, e = .returned (.agg #[.int .i64 s, .string a, v, .string i, .string t]) ∧ w'.ownsRow w.heap.size 3 1 v xs.length (ints xs) ∧ Below w.heap.size w w' := by
  obtain ⟨A, c, rfl, _⟩ := hu.form
  have HU := Lib.hid hu
  clear hu
  go_enter Tryd.func10, Tryd.ntmps10
  go_wp2_with fail
  refine (copyNumbers_any _ xs _ (Src.kept HU.out ((((Below.refl w.heap.size w).alloc (Nat.le_refl _) _).alloc (by simp) _).alloc (by simp; omega) _)) hn).mono ?_
  rintro e w1 ⟨v, rfl, ho, hb⟩
  obtain ⟨A', c', rfl⟩ := own_shape ho
  obtain ⟨hc, hf⟩ := bcell hb
  have hz := hb.size
  simp at hz
  have HO := Lib.hid ho
  clear ho
  go_wp2_with fail
  refine bodyPost_ret (v := .agg #[.int .i64 s, .string a, .slice A' xs.length c', .string i, .string t]) (by simp [results, Tryd.results10, go_sem, hc]) rfl ⟨_, rfl, ?_, ?_⟩
  · refine World.ownsRow.mono (base := w.heap.size + 1 + 1 + 1) ?_ (by omega)
    repeat (refine ownsRow_setCell_below ?_ (by simp; try omega) _)
    simpa using HO.out
  · repeat (refine Below.setCell ?_ (by simp; try omega) _)
    exact ((((Below.refl w.heap.size w).alloc (Nat.le_refl _) _).alloc (by simp) _).alloc (by simp; omega) _).trans (hb.mono (by simp; omega))
set_option maxHeartbeats 400000 in
theorem copyEvent_any (k r : Int) (i t : ByteArray) (xs : List Int) (u : Value) (w : World) (hu : Src w u xs.length (ints xs)) (hn : xs.length ≤ 1000000000) :
    Calls Tryd.prog 33 #[.agg #[.int .i64 k, .int .i64 r, u, .string i, .string t]] w fun e w' =>
      ∃ v, e = .returned (.agg #[.int .i64 k, .int .i64 r, v, .string i, .string t]) ∧ w'.ownsRow w.heap.size 3 1 v xs.length (ints xs) ∧ Below w.heap.size w w' := by
  obtain ⟨A, c, rfl, _⟩ := hu.form
  have HU := Lib.hid hu
  clear hu
  go_enter Tryd.func33, Tryd.ntmps33
  go_wp2_with fail
  refine (copyNumbers_any _ xs _ (Src.kept HU.out ((((Below.refl w.heap.size w).alloc (Nat.le_refl _) _).alloc (by simp) _).alloc (by simp; omega) _)) hn).mono ?_
  rintro e w1 ⟨v, rfl, ho, hb⟩
  obtain ⟨A', c', rfl⟩ := own_shape ho
  obtain ⟨hc, hf⟩ := bcell hb
  have hz := hb.size
  simp at hz
  have HO := Lib.hid ho
  clear ho
  go_wp2_with fail
  refine bodyPost_ret (v := .agg #[.int .i64 k, .int .i64 r, .slice A' xs.length c', .string i, .string t]) (by simp [results, Tryd.results33, go_sem, hc]) rfl ⟨_, rfl, ?_, ?_⟩
  · refine World.ownsRow.mono (base := w.heap.size + 1 + 1 + 1) ?_ (by omega)
    repeat (refine ownsRow_setCell_below ?_ (by simp; try omega) _)
    simpa using HO.out
  · repeat (refine Below.setCell ?_ (by simp; try omega) _)
    exact ((((Below.refl w.heap.size w).alloc (Nat.le_refl _) _).alloc (by simp) _).alloc (by simp; omega) _).trans (hb.mono (by simp; omega))

/-- Events of the call's own: the slice and each one's numbers lie from base on, and none of these in the slice's block. -/
def OwnEvs (w : World) (base : Nat) (x : Value) (l : List Ev) : Prop :=
  ∃ pvs : List Value, pvs.length = l.length ∧ w.ownsRow base 63 5 x l.length (List.zipWith evVals l pvs).flatten ∧
    ∀ k, k < l.length → w.ownsRow base 3 1 (pvs.getD k undef) (l.getD k (printE 0)).params.length (ints (l.getD k (printE 0)).params)
theorem evVals_len (e : Ev) (v : Value) : (evVals e v).length = 5 := rfl
theorem zip_len {l : List Ev} {pvs : List Value} : ∀ r ∈ List.zipWith evVals l pvs, r.length = 5 := by
  intro r hr
  obtain ⟨i, hi, rfl⟩ := List.getElem_of_mem hr
  simp [evVals]
theorem OwnEvs.reads {w : World} {base : Nat} {x : Value} {l : List Ev} (h : OwnEvs w base x l) : Evs w x l := by
  obtain ⟨pvs, h1, h2, h3⟩ := h
  exact ⟨pvs, h1, Recs.own h2 (by simp [h1]) zip_len, fun k hk => Src.own (h3 k hk)⟩
theorem OwnEvs.nil (w : World) (base : Nat) : OwnEvs w base (.slice none 0 0) [] := ⟨[], rfl, by simpa using World.ownsRow_nil w base 63 5, fun k hk => absurd hk (by simp)⟩
theorem own_keptC {w w' : World} {B C : Nat} {v : Value} {n : Nat} {e : TypeId} {xs : List Value} (ho : w.ownsRow B e C v n xs) (hb : Below w.heap.size w w') : w'.ownsRow B e C v n xs :=
  ho.kept (row := none) ⟨hb.os, hb.tape, hb.output, hb.size, fun k hk _ => hb.block k hk⟩ (by cases v.ownBlock <;> simp)
theorem OwnEvs.lt {w : World} {base : Nat} {x : Value} {l : List Ev} (h : OwnEvs w base x l) : ∀ k, x.ownBlock = some k → base ≤ k ∧ k < w.heap.size := by
  obtain ⟨pvs, h1, h2, h3⟩ := h
  exact h2.lt
theorem OwnEvs.kept {w w' : World} {base : Nat} {x : Value} {l : List Ev} (h : OwnEvs w base x l) (hb : Below w.heap.size w w') : OwnEvs w' base x l := by
  obtain ⟨pvs, h1, h2, h3⟩ := h
  exact ⟨pvs, h1, own_keptC h2 hb, fun k hk => own_keptC (h3 k hk) hb⟩
/-- Blocks of two element types are two. -/
theorem own_apart {w : World} {b1 b2 C1 C2 : Nat} {e1 e2 : TypeId} {v1 v2 : Value} {n1 n2 : Nat} {xs1 xs2 : List Value} (h1 : w.ownsRow b1 e1 C1 v1 n1 xs1) (h2 : w.ownsRow b2 e2 C2 v2 n2 xs2) (he : e1 ≠ e2) : v1.ownBlock = none ∨ v1.ownBlock ≠ v2.ownBlock := by
  rcases h1.2 with ⟨rfl, _⟩ | ⟨g, cap, cur, rfl, hb, hg, _⟩
  · exact .inl rfl
  · right
    rcases h2.2 with ⟨rfl, _⟩ | ⟨g', cap', cur', rfl, hb', hg', _⟩
    · simp [Value.ownBlock]
    · simp only [Value.ownBlock]
      intro e
      injection e with e
      subst e
      rw [hg] at hg'
      injection hg' with hg'
      injection hg' with _ ht
      exact he ht
theorem event_info : (Tryd.prog.info? 63).map (fun i => (i.zero, i.size, i.bytes)) = some (some (.agg #[.int .i64 0, .int .i64 0, .slice none 0 0, .string ⟨#[]⟩, .string ⟨#[]⟩]), 5, 72) := by kernel_rfl
theorem event_row : ∃ i : TypeInfo, Tryd.prog.info? 63 = some i ∧ i.zero = some (.agg #[.int .i64 0, .int .i64 0, .slice none 0 0, .string ⟨#[]⟩, .string ⟨#[]⟩]) ∧ i.size = 5 ∧ i.bytes = 72 := by
  obtain ⟨i, h, h1, h2, h3⟩ := info_parts event_info
  exact ⟨i, h, h1, h2, h3⟩
theorem evVals_cells {e : Ev} {pv : Value} (h : ∃ A n c, pv = .slice A n c) : ∀ u ∈ evVals e pv, u.oneCell' = true := by
  obtain ⟨A, n, c, rfl⟩ := h
  intro u hu
  simp only [evVals, List.mem_cons, List.not_mem_nil, or_false] at hu
  rcases hu with rfl | rfl | rfl | rfl | rfl <;> rfl
/-- One event more. -/
theorem OwnEvs.snoc {w w' : World} {base : Nat} {v v' : Value} {l : List Ev} {e : Ev} {pv : Value} (pvs : List Value) (h1 : pvs.length = l.length)
    (h3 : ∀ k, k < l.length → w.ownsRow base 3 1 (pvs.getD k undef) (l.getD k (printE 0)).params.length (ints (l.getD k (printE 0)).params))
    (hev : w.ownsRow base 63 5 v l.length (List.zipWith evVals l pvs).flatten) (hpv : w.ownsRow base 3 1 pv e.params.length (ints e.params))
    (h : w'.ownsRow base 63 5 v' (l.length + 1) ((List.zipWith evVals l pvs).flatten ++ evVals e pv)) (hg : w.grownBy w' v.ownBlock) : OwnEvs w' base v' (l ++ [e]) := by
  refine ⟨pvs ++ [pv], by simp [h1], ?_, fun k hk => ?_⟩
  · rw [List.length_append, List.zipWith_append h1.symm, List.flatten_append]
    simpa using h
  · by_cases hkl : k < l.length
    · have := (h3 k hkl).kept hg (own_apart (h3 k hkl) hev (by decide))
      simp only [List.getD, List.getElem?_append_left hkl, List.getElem?_append_left (show k < pvs.length by omega)] at this ⊢
      exact this
    · obtain rfl : k = l.length := by simp at hk; omega
      have := hpv.kept hg (own_apart hpv hev (by decide))
      simpa [List.getD, ← h1] using this
/-- append of one event to events of the call's own, at a plain region's operation. -/
theorem wp_append_ev {w : World} {ops : Array Oper} {rest : List Oper} {o : Oper} {a : Act} {Q : Exit → Act → World → Prop} {s x : Operand} (hgd : o.guard = none)
    (ho : o.op = .call { callee := .builtin .append, args := #[s, x], argTypes := #[37, 37] }) (base : Nat) (v : Value) (l : List Ev) (hs : a.eval s = v) (hown : OwnEvs w base v l)
    (b c : Nat) (e : Ev) (pv : Value) (hx : a.eval x = .slice (some ⟨b, 0, none⟩) 1 c) (hat : At w ⟨b, 0, none⟩ (evVals e pv)) (hpv : w.ownsRow base 3 1 pv e.params.length (ints e.params)) (hl : l.length ≤ 1000000000) (hbase : base ≤ w.heap.size)
    (h : ∀ g cap w', OwnEvs w' base (.slice (some ⟨g, 0, none⟩) (l.length + 1) cap) (l ++ [e]) → w.grownBy w' v.ownBlock → (v.ownBlock = some g ∨ g = w.heap.size) → g < w'.heap.size → wpList Tryd.prog ops Q rest (a.put o.dst (.slice (some ⟨g, 0, none⟩) (l.length + 1) cap)) w') :
    wpList Tryd.prog ops Q (o :: rest) a w := by
  obtain ⟨i, hi, hz, h5, h72⟩ := event_row
  obtain ⟨pvs, h1, h2, h3⟩ := hown
  obtain ⟨A, cc, hsh⟩ := own_shape hpv
  refine wpList_append_lies w hgd s x 37 ho base 63 i _ 5 72 Tryd.underlying37 hi hz h5 h72 rfl (by decide) v l.length _ hs h2 ⟨b, 0, none⟩ 1 c (evVals e pv) hx rfl hat (evVals_cells ⟨A, _, cc, hsh⟩) (by decide) (by simp only [maxLen]; omega) (by omega) hbase _ rfl fun g cap w' ho' hg' hat' hlt' => ?_
  exact h g cap w' (OwnEvs.snoc pvs h1 h3 h2 hpv ho' hg') hg' hat' hlt'
/-- The same, at a step of a region that draws its order. -/
theorem step_append_ev {w : World} {ops : Array Oper} {o : Oper} {a : Act} {K : Act → World → Prop} {Q : Exit → Act → World → Prop} {E : Prop} {s x : Operand} (hgd : o.guard = none)
    (ho : o.op = .call { callee := .builtin .append, args := #[s, x], argTypes := #[37, 37] }) (base : Nat) (v : Value) (l : List Ev) (hs : a.eval s = v) (hown : OwnEvs w base v l)
    (b c : Nat) (e : Ev) (pv : Value) (hx : a.eval x = .slice (some ⟨b, 0, none⟩) 1 c) (hat : At w ⟨b, 0, none⟩ (evVals e pv)) (hpv : w.ownsRow base 3 1 pv e.params.length (ints e.params)) (hl : l.length ≤ 1000000000) (hbase : base ≤ w.heap.size)
    (h : ∀ g cap w', OwnEvs w' base (.slice (some ⟨g, 0, none⟩) (l.length + 1) cap) (l ++ [e]) → w.grownBy w' v.ownBlock → (v.ownBlock = some g ∨ g = w.heap.size) → g < w'.heap.size → K (a.put o.dst (.slice (some ⟨g, 0, none⟩) (l.length + 1) cap)) w') :
    if Region.wanted o (yielded ops a.tmps) = true then Oper.wp Tryd.prog o a w K Q else E := by
  obtain ⟨i, hi, hz, h5, h72⟩ := event_row
  obtain ⟨pvs, h1, h2, h3⟩ := hown
  obtain ⟨A, cc, hsh⟩ := own_shape hpv
  refine step_append_lies w hgd s x 37 ho base 63 i _ 5 72 Tryd.underlying37 hi hz h5 h72 rfl (by decide) v l.length _ hs h2 ⟨b, 0, none⟩ 1 c (evVals e pv) hx rfl hat (evVals_cells ⟨A, _, cc, hsh⟩) (by decide) (by simp only [maxLen]; omega) (by omega) hbase _ rfl fun g cap w' ho' hg' hat' hlt' => ?_
  exact h g cap w' (OwnEvs.snoc pvs h1 h3 h2 hpv ho' hg') hg' hat' hlt'
/-- The cells of an element just laid. -/
theorem At.one (w : World) (b : Nat) (cs : List Value) (arr : Array Value) (e : TypeId) (hb : b = w.heap.size) (hc : cs.toArray = arr) : At (w.alloc (.cells arr e)) ⟨b, 0, none⟩ cs := by
  subst hb; subst hc
  intro j u hu
  have hl : (w.alloc (.cells cs.toArray e)).heap[w.heap.size]? = some (.cells cs.toArray e) := by
    show (w.heap.push _)[w.heap.size]? = _
    simp
  exact World.news_of_block hl j u (by simpa using hu)

set_option maxHeartbeats 800000 in
theorem copyEvents_any (l : List Ev) (x : Value) (w : World) (hx : Evs w x l) (hn : l.length ≤ 1000000000) (hp : ∀ e ∈ l, e.params.length ≤ 1000000000) :
    Calls Tryd.prog 18 #[x] w fun e w' => ∃ v, e = .returned v ∧ OwnEvs w' w.heap.size v l ∧ Below w.heap.size w w' := by
  obtain ⟨A, c, rfl, hA⟩ := hx.form
  have HA := Lib.hid hA
  have HP := Lib.hid hp
  clear hA hx hp
  go_enter Tryd.func18, Tryd.ntmps18
  go_wp2_with fail
  go_loopw [3, 4] (fun v i wr => ∃ k : Nat, k ≤ l.length ∧ i = .int .i64 k ∧ OwnEvs wr w.heap.size v (l.take k) ∧ Below w.heap.size w wr) (fun _ i _ => l.length - (intOf i).toNat)
  case atStart => exact ⟨0, by omega, rfl, OwnEvs.nil _ _, Below.refl _ _⟩
  case round =>
    obtain ⟨k, hk, rfl, hown, hbl⟩ := hrel
    by_cases hlt : k < l.length
    · obtain ⟨ad, pv, rfl, K, hs⟩ := HA.out k hlt
      have hle : (l.getD k (printE 0)).params.length ≤ 1000000000 := HP.out _ (by simp [List.getD, hlt])
      have HT : Hid (l.take (k + 1) = l.take k ++ [l.getD k (printE 0)]) := Lib.hid (by rw [List.take_succ_eq_append_getElem hlt]; simp [List.getD, hlt])
      have hlk : Hid ((l.take k).length = k) := Lib.hid (by rw [List.length_take]; omega)
      generalize l.getD k (printE 0) = ev at K hs hle HT
      obtain ⟨kind, rune, ps, it, tx⟩ := ev
      have K := K.kept hbl
      have h0 := K.head
      have h1 := K.next 0 rfl
      have h2 := K.next 1 rfl
      have h3 := K.next 2 rfl
      have h4 := K.next 3 rfl
      have HS := Lib.hid hs
      have HOW := Lib.hid hown
      clear K hs hown
      go_wp2_with fail
      refine (copyEvent_any kind rune ⟨it.toArray⟩ ⟨tx.toArray⟩ ps pv _ (Src.kept HS.out hbl) hle).mono ?_
      rintro e w1 ⟨v1, rfl, ho1, hb1⟩
      obtain ⟨A', c', rfl⟩ := own_shape ho1
      have z0 := hbl.size
      have z1 := hb1.size
      have HO1 := Lib.hid (World.ownsRow.mono ho1 z0)
      have HO2 := Lib.hid (HOW.out.kept hb1)
      clear ho1
      go_wp2_with (at_builtin; refine wp_append_ev rfl rfl w.heap.size _ (l.take k) rfl (HO2.out.kept ((Below.refl _ _).alloc (Nat.le_refl _) _)) w1.heap.size _ ⟨kind, rune, ps, it, tx⟩ (.slice A' ps.length c') rfl (At.one w1 _ _ _ _ rfl rfl) (HO1.out.alloc _) (by rw [hlk.out]; omega) (by simp; omega) ?_; intro g cap w2 ho2 hg2 hat2 hlt2)
      have hown2 : OwnEvs w2 w.heap.size (.slice (some ⟨g, 0, none⟩) (k + 1) cap) (l.take (k + 1)) := by rw [hlk.out] at ho2; rw [HT.out]; exact ho2
      have hbl2 : Below w.heap.size w w2 := ((hbl.trans (hb1.mono z0)).alloc (by omega) _).grown hg2 (by simp; omega) (fun j hj => (HO2.out.lt j hj).1)
      have HOW2 := Lib.hid hown2
      clear ho2 hown2
      go_roundw
      case rel => exact ⟨k + 1, by omega, by go_num, HOW2.out, hbl2⟩
      case measure => simp [intOf]; omega
    · have hkl : k = l.length := by omega
      subst hkl
      have HE : Hid (l.take l.length = l) := Lib.hid (List.take_of_length_le (Nat.le_refl _))
      rw [HE.out] at hown
      clear HE
      go_wp2_with fail
      go_ret
      exact ⟨_, rfl, hown, hbl⟩

/-- A row of the call's own whose elements from k on hold what they held. -/
def FromOn (w : World) (base : Nat) (x : Value) (n k : Nat) (os : List Value) : Prop := ∃ ys, w.ownsRow base 63 5 x n ys ∧ ∀ j, k * 5 ≤ j → ys[j]? = os[j]?
set_option maxHeartbeats 1600000 in
theorem events_over (l : List Ev) (x : Value) (base : Nat) (w : World) (hx : OwnEvs w base x l) (hn : l.length ≤ 1000000000) (hp : ∀ e ∈ l, e.params.length ≤ 1000000000) (hbase : base ≤ w.heap.size) :
    Calls Tryd.prog 15 #[x] w fun e w' => e = .returned (.tuple #[]) ∧ Below base w w' := by
  obtain ⟨pvs, h1, h2, h3⟩ := hx
  have hv : x = .slice none 0 0 ∧ l.length = 0 ∨ ∃ g cap, x = .slice (some ⟨g, 0, none⟩) l.length cap ∧ base ≤ g := by
    rcases h2.2 with h0 | ⟨g, cap, cur, h0, hb, _⟩
    · exact .inl h0
    · exact .inr ⟨g, cap, h0, hb⟩
  rcases hv with ⟨rfl, h0⟩ | ⟨g, cap, rfl, hg⟩
  · clear h1 h2 h3 hp
    go_enter Tryd.func15, Tryd.ntmps15
    go_wp2_with fail
    go_rounds 1
    go_end0
    exact ⟨rfl, Below.refl _ _⟩
  · have H3 := Lib.hid h3
    have HP := Lib.hid hp
    have HG := Lib.hid hg
    have HZ : Hid (∀ k, k < l.length → ∀ j, j < 5 → (List.zipWith evVals l pvs).flatten[k * 5 + j]? = (evVals (l.getD k (printE 0)) (pvs.getD k undef))[j]?) := Lib.hid fun k hk j hj => by
      have hp' : k < pvs.length := by omega
      have hr : (List.zipWith evVals l pvs)[k]? = some (evVals (l.getD k (printE 0)) (pvs.getD k undef)) := by simp [List.getD, List.getElem?_zipWith, hk, hp']
      have hj' : j < (evVals (l.getD k (printE 0)) (pvs.getD k undef)).length := hj
      rw [flatten_get _ zip_len k _ hr j _ (List.getElem?_eq_getElem hj'), List.getElem?_eq_getElem hj']
    have H2 := Lib.hid h2
    generalize (List.zipWith evVals l pvs).flatten = os at HZ H2
    clear h1 h2 h3 hp hg
    go_enter Tryd.func15, Tryd.ntmps15
    go_wp2_with fail
    go_loopw [2] (fun i wr => ∃ k : Nat, k ≤ l.length ∧ i = .int .i64 k ∧ FromOn wr base (.slice (some ⟨g, 0, none⟩) l.length cap) l.length k os ∧ Below base w wr ∧ Shapes w wr) (fun i _ => l.length - (intOf i).toNat)
    case atStart => exact ⟨0, by omega, rfl, ⟨os, H2.out, fun _ _ => rfl⟩, Below.refl _ _, Shapes.refl _⟩
    case round =>
      obtain ⟨k, hk, rfl, ⟨ys, hown, hys⟩, hbl, hsh⟩ := hrel
      by_cases hlt : k < l.length
      · have hcell : ∀ j, j < 5 → wr.cell? ⟨g, k * 5 + j, none⟩ = (evVals (l.getD k (printE 0)) (pvs.getD k undef))[j]? := fun j hj => by
          rw [hown.cellAt (k * 5 + j) (by omega), hys _ (by omega), HZ.out k hlt j hj]
        obtain ⟨zs, hz⟩ := hsh.owned (H3.out k hlt)
        have hle : (l.getD k (printE 0)).params.length ≤ 1000000000 := HP.out _ (by simp [List.getD, hlt])
        generalize l.getD k (printE 0) = ev at hcell hz hle
        generalize pvs.getD k undef = pv at hcell hz
        obtain ⟨kind, rune, ps, it, tx⟩ := ev
        have c0 := hcell 0 (by decide)
        have c1 := hcell 1 (by decide)
        have c2 := hcell 2 (by decide)
        have c3 := hcell 3 (by decide)
        have c4 := hcell 4 (by decide)
        simp only [evVals, Nat.add_zero, List.getElem?_cons_zero, List.getElem?_cons_succ] at c0 c1 c2 c3 c4
        obtain ⟨A', c', rfl⟩ := own_shape hz
        have HZZ := Lib.hid hz
        have HOW := Lib.hid hown
        have HYS := Lib.hid hys
        clear hcell hz hown hys
        go_wp2_with fail
        refine (numbers_over _ zs _ HZZ.out hle).mono ?_
        rintro e w1 ⟨rfl, hg1, hs1⟩
        have ho1 : w1.ownsRow base 63 5 (.slice (some ⟨g, 0, none⟩) l.length cap) l.length ys := HOW.out.kept hg1 (own_apart HOW.out HZZ.out (by decide))
        have hyl := ho1.1
        have d0 := ho1.cellAt (k * 5) (by omega)
        have d1 := ho1.cellAt (k * 5 + 1) (by omega)
        have d2 := ho1.cellAt (k * 5 + 2) (by omega)
        have d3 := ho1.cellAt (k * 5 + 3) (by omega)
        have d4 := ho1.cellAt (k * 5 + 4) (by omega)
        rw [List.getElem?_eq_getElem (by omega)] at d0 d1 d2 d3 d4
        have f0 := ho1.frozenAt (k * 5)
        have f1 := ho1.frozenAt (k * 5 + 1)
        have f2 := ho1.frozenAt (k * 5 + 2)
        have f3 := ho1.frozenAt (k * 5 + 3)
        have f4 := ho1.frozenAt (k * 5 + 4)
        have s0 := ho1.stored (k * 5) (.int .i64 (-9))
        have s1 := s0.1.stored (k * 5 + 1) (.int .i64 0)
        have s2 := s1.1.stored (k * 5 + 2) (.slice none 0 0)
        have s3 := s2.1.stored (k * 5 + 3) (.string ⟨#[]⟩)
        have s4 := s3.1.stored (k * 5 + 4) (.string ⟨#[]⟩)
        have HS4 := Lib.hid s4.1
        have hb1 : Below base w w1 := hbl.grown hg1 (Nat.le_trans hbase hbl.size) (fun j hj => (HZZ.out.lt j hj).1)
        have hgb := HG.out
        have hb2 : Below base w (((((w1.setCell ⟨g, k * 5, none⟩ (.int .i64 (-9))).setCell ⟨g, k * 5 + 1, none⟩ (.int .i64 0)).setCell ⟨g, k * 5 + 2, none⟩ (.slice none 0 0)).setCell ⟨g, k * 5 + 3, none⟩ (.string ⟨#[]⟩)).setCell ⟨g, k * 5 + 4, none⟩ (.string ⟨#[]⟩)) :=
          ((((hb1.setCell hgb _).setCell hgb _).setCell hgb _).setCell hgb _).setCell hgb _
        have hsh2 := (((((hsh.trans hs1).setCell ⟨g, k * 5, none⟩ (.int .i64 (-9))).setCell ⟨g, k * 5 + 1, none⟩ (.int .i64 0)).setCell ⟨g, k * 5 + 2, none⟩ (.slice none 0 0)).setCell ⟨g, k * 5 + 3, none⟩ (.string ⟨#[]⟩)).setCell ⟨g, k * 5 + 4, none⟩ (.string ⟨#[]⟩)
        have HB2 := Lib.hid hb2
        have HSH2 := Lib.hid hsh2
        clear s0 s1 s2 s3 s4 ho1 hb2 hsh2 hs1
        generalize ys[k * 5] = e0 at d0
        generalize ys[k * 5 + 1] = e1 at d1
        generalize ys[k * 5 + 2] = e2 at d2
        generalize ys[k * 5 + 3] = e3 at d3
        generalize ys[k * 5 + 4] = e4 at d4
        go_wp2_with fail
        go_roundw
        case rel =>
          refine ⟨k + 1, by omega, by go_num, ⟨_, HS4.out, fun j hj => ?_⟩, HB2.out, HSH2.out⟩
          rw [List.getElem?_set_ne (by omega), List.getElem?_set_ne (by omega), List.getElem?_set_ne (by omega), List.getElem?_set_ne (by omega), List.getElem?_set_ne (by omega)]
          exact HYS.out j (by omega)
        case measure => simp [intOf]; omega
      · have hd : decide (k < l.length) = false := decide_eq_false hlt
        clear hlt
        go_wp2_with fail
        go_end0
        exact ⟨rfl, hbl⟩
end Vt
end Go.Proofs.YtjodbmfjdpbbnaaDoor
