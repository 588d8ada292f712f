/- Joined texts: PrnSmall, PrnLine. -/
import Derived.Test.YtgjpojaegjdjcaaGreatDoorJ1
import Derived.Test.YtgjpojaegjdjcaaGreatDoorJ2
import Derived.Test.YtgjpojaegjdjcaaGreatDoorJ3
import Derived.Test.YtgjpojaegjdjcaaGreatDoorJ4
import Derived.Test.YtgjpojaegjdjcaaGreatDoorJ5
import Derived.Test.YtgjpojaegjdjcaaGreatDoorJ6
import Derived.Test.YtgjpojaegjdjcaaGreatDoorJ7
import Derived.Test.YtgjpojaegjdjcaaGreatDoorJ8
import Derived.Test.YtgjpojaegjdjcaaGreatDoorJ9
import Derived.Test.YtgjpojaegjdjcaaGreatDoorJ10
import Derived.Test.YtgjpojaegjdjcaaGreatDoorJ11
import Derived.Test.YtgjpojaegjdjcaaGreatDoorJ12
import Derived.Test.YtgjpojaegjdjcaaGreatDoorJ13
import Derived.Test.YtgjpojaegjdjcaaGreatDoorJ14
import Derived.Test.YtgjpojaegjdjcaaGreatDoorJ15
import Derived.Test.YtgjpojaegjdjcaaGreatDoorJ17
import Derived.Test.YtgjpojaegjdjcaaGreatDoorJ18
import Derived.Test.YtgjpojaegjdjcaaGreatDoorJ19
import Derived.Test.YtgjpojaegjdjcaaGreatDoorJ20
import Derived.Test.YtgjpojaegjdjcaaGreatDoorJ21
import Derived.Test.YtgjpojaegjdjcaaGreatDoorJ22
import Derived.Test.YtgjpojaegjdjcaaGreatDoorJ23
import Derived.Test.YtgjpojaegjdjcaaGreatDoorJ24
import Derived.Test.YtgjpojaegjdjcaaGreatDoorJ27
import Derived.Test.YtgjpojaegjdjcaaGreatDoorJ43
import Derived.Test.YtgjpojaegjdjcaaGreatDoorJ44
import Derived.Test.YtgjpojaegjdjcaaGreatDoorJ45
import Derived.Test.YtgjpojaegjdjcaaGreatDoorJ46
import Derived.Test.YtgjpojaegjdjcaaGreatDoorJ48
import Derived.Test.YtgjpojaegjdjcaaGreatDoorJ61
import Derived.BigQuiet
section
/- What a rune is to the cursor; modes; the cursor's row: the developers'. -/
namespace Go.Proofs.YtgjpojaegjdjcaaGreatDoor
set_option maxRecDepth 100000
open Go.RowKit
namespace Scr
open Go.Proofs.YtgjpojaegjdjcaaGreatDoor.Row Wid

@[go_sem] theorem is_none_none (v : Value) (w : World) : (Instr.typeAssert (.iface 56 v) 53 56 true).run Tryz.prog w = .ok (.tuple #[v, .bool true]) w := by kernel_rfl
@[go_sem] theorem is_none_mark (v : Value) (w : World) : (Instr.typeAssert (.iface 59 v) 53 56 true).run Tryz.prog w = .ok (.tuple #[.agg #[], .bool false]) w := by kernel_rfl
@[go_sem] theorem is_none_body (v : Value) (w : World) : (Instr.typeAssert (.iface 65 v) 53 56 true).run Tryz.prog w = .ok (.tuple #[.agg #[], .bool false]) w := by kernel_rfl
@[go_sem] theorem is_mark_mark (v : Value) (w : World) : (Instr.typeAssert (.iface 59 v) 53 59 true).run Tryz.prog w = .ok (.tuple #[v, .bool true]) w := by kernel_rfl
@[go_sem] theorem is_mark_body (v : Value) (w : World) : (Instr.typeAssert (.iface 65 v) 53 59 true).run Tryz.prog w = .ok (.tuple #[.int .i64 0, .bool false]) w := by kernel_rfl
@[go_sem] theorem must_body (v : Value) (w : World) : (Instr.typeAssert (.iface 65 v) 53 65 false).run Tryz.prog w = .ok v w := by kernel_rfl
abbrev bodyV (r : Int) (n : Nat) : Value := .agg #[.int .i64 r, .int .i64 n]
theorem look_body (r : Int) (n : Nat) (h : wid r = n) (hn : n = 1 ∨ n = 2) (w : World) : Calls Tryz.prog 33 #[.int .i64 r] w fun e w' => e = .returned (.iface 65 (bodyV r n)) ∧ Below w.heap.size w w' := by
  have HO := Lib.hid (Row.of_any r w)
  rw [h] at HO
  clear h
  go_enter Tryz.func33, Tryz.ntmps33
  go_wp2_with fail
  refine HO.out.mono ?_; rintro e w1 ⟨rfl, hb⟩
  have HB := Lib.hid hb
  clear hb HO
  rcases hn with rfl | rfl
  · go_wp2_with fail
    go_ret
    exact ⟨rfl, HB.out⟩
  · go_wp2_with fail
    go_ret
    exact ⟨rfl, HB.out⟩
theorem look_mark (r : Int) (h : wid r = 0) (w : World) : Calls Tryz.prog 33 #[.int .i64 r] w fun e w' => e = .returned (.iface 59 (.int .i64 r)) ∧ Below w.heap.size w w' := by
  have HO := Lib.hid (Row.of_any r w)
  rw [h] at HO
  clear h
  go_enter Tryz.func33, Tryz.ntmps33
  go_wp2_with fail
  refine HO.out.mono ?_; rintro e w1 ⟨rfl, hb⟩
  have HB := Lib.hid hb
  clear hb HO
  go_wp2_with fail
  go_ret
  exact ⟨rfl, HB.out⟩
theorem look_none (r : Int) (h : wid r = -1) (w : World) : Calls Tryz.prog 33 #[.int .i64 r] w fun e w' => e = .returned (.iface 56 (.agg #[])) ∧ Below w.heap.size w w' := by
  have HO := Lib.hid (Row.of_any r w)
  rw [h] at HO
  clear h
  go_enter Tryz.func33, Tryz.ntmps33
  go_wp2_with fail
  refine HO.out.mono ?_; rintro e w1 ⟨rfl, hb⟩
  have HB := Lib.hid hb
  clear hb HO
  go_wp2_with fail
  go_ret
  exact ⟨rfl, HB.out⟩
/-- Is a mode among these? -/
def hasB (n m : Int) : Bool := !(bits .and .i64 n m == 0)
theorem has_any (s : S) (x y z : Value) (b : Nat) (m : Int) (w : World) (h : SBox w b s x y z) : Calls Tryz.prog 75 #[.pointer (some ⟨b, 0, none⟩), .int .i64 m] w fun e w' => e = .returned (.bool (hasB s.modes m)) ∧ w' = w := by
  have c40 : w.cell? ⟨b, 40, none⟩ = some (.int .i64 s.modes) := h.cell 40
  clear h
  have HH : Hid (hasB s.modes m = !(bits .and .i64 s.modes m == 0)) := Lib.hid rfl
  go_enter Tryz.func75, Tryz.ntmps75
  go_wp2_with fail
  go_ret
  exact ⟨by rw [HH.out]; rfl, rfl⟩
end Scr
end Go.Proofs.YtgjpojaegjdjcaaGreatDoor
end
section
/- The cursor's row, in the screen's own memory: taken, and written over. -/
namespace Go.Proofs.YtgjpojaegjdjcaaGreatDoor
set_option maxRecDepth 100000
open Go.RowKit
namespace Scr
open Go.Proofs.YtgjpojaegjdjcaaGreatDoor.Row Wid

theorem flat_take (l : List Cl) (k : Nat) : (flat l).take (k * 6) = flat (l.take k) := by
  rcases Nat.le_total k l.length with hk | hk
  · have hl : (flat (l.take k)).length = k * 6 := by rw [flat_length, List.length_take]; rw [Nat.min_eq_left hk]
    conv => lhs; rw [← List.take_append_drop k l, flat_append]
    rw [List.take_append_of_le_length (by omega), List.take_of_length_le (by omega)]
  · rw [List.take_of_length_le hk, List.take_of_length_le (by rw [flat_length]; exact Nat.mul_le_mul_right 6 hk)]
theorem flat_drop (l : List Cl) (k : Nat) (hk : k ≤ l.length) : (flat l).drop (k * 6) = flat (l.drop k) := by
  have hl : (flat (l.take k)).length = k * 6 := by rw [flat_length, List.length_take]; rw [Nat.min_eq_left hk]
  conv => lhs; rw [← List.take_append_drop k l, flat_append]
  rw [← hl, List.drop_left]
/-- A row laid over cells k and on. -/
def overL (l : List Cl) (k : Nat) (r : List Cl) : List Cl := l.take k ++ (r ++ l.drop (k + r.length))
theorem overL_length {l r : List Cl} {k : Nat} (h : k + r.length ≤ l.length) : (overL l k r).length = l.length := by
  unfold overL
  rw [List.length_append, List.length_append, List.length_take, List.length_drop, Nat.min_eq_left (by omega)]
  omega
/-- Cells copied into own cells. -/
theorem run_copy_into {w : World} {ty : TypeId} {base g n cap k m dCap sCap : Nat} {a : Addr} {l r : List Cl} (h : OwnCs w base (.slice (some ⟨g, 0, none⟩) n cap) l) (hm : r.length = m) (hk : k + m ≤ l.length)
    (hsrc : ∀ j u, (flat r)[j]? = some u → w.cell? (a.add j) = some u) :
    ∃ w', (Builtin.copy_ #[27, 27] ty #[.slice (some ⟨g, k * 6, none⟩) m dCap, .slice (some a) m sCap]).run Tryz.prog w = .ok (goInt m) w' ∧ OwnCs w' base (.slice (some ⟨g, 0, none⟩) n cap) (overL l k r) ∧
      Only g w w' ∧ ∀ B w0, Below B w0 w → B ≤ g → Below B w0 w' := by
  obtain ⟨i, hi, hz, h6, h56⟩ := cell_row
  have hn : n = l.length := h.n
  subst hn
  rcases h.2 with ⟨e, _⟩ | ⟨g', cap', cur, e, hb, hg, hnc, hcm, hsz, htk⟩
  · injection e with e; cases e
  injection e with e1 e2 e3
  injection e1 with e1
  injection e1 with e1
  subst e1; subst e3
  have hfl : (flat r).length = m * 6 := by rw [flat_length, hm]
  have hrun := run_copy_wide (P := Tryz.prog) w 27 27 ty 82 g (k * 6) m dCap a m sCap cur _ (flat r) 6 m Tryz.underlying27 (by rw [hi]; simp [h6]) hg (by simp) hfl hsrc
    (by rw [hfl, hsz]; omega) (flat_cells r)
  have hrow := setRow_heap w g cur (cur.toList.take (k * 6) ++ flat r ++ cur.toList.drop (k * 6 + (flat r).length)).toArray _ _ hg
  have hlen : (cur.toList.take (k * 6) ++ flat r ++ cur.toList.drop (k * 6 + (flat r).length)).length = cur.size := by
    simp only [List.length_append, List.length_take, List.length_drop, Array.length_toList, hfl]
    omega
  refine ⟨_, hrun, ⟨?_, ?_⟩, ⟨by simp, fun q o hq ho => (setRow_other w g q _ hq).trans ho⟩, fun B w0 hb' hB => below_setRow hb' hB _⟩
  · rw [flat_length, overL_length (by omega)]
  · rw [overL_length (by omega)]
    refine .inr ⟨g, cap, _, rfl, hb, hrow, hnc, hcm, ?_, ?_⟩
    · rw [List.size_toArray, hlen, hsz]
    · show (cur.toList.take (k * 6) ++ flat r ++ cur.toList.drop (k * 6 + (flat r).length)).take (l.length * 6) = _
      unfold overL
      rw [flat_append, flat_append, List.append_assoc, hfl, hm]
      have e1 : cur.toList.take (k * 6) = flat (l.take k) := by
        rw [← flat_take, ← htk, List.take_take, Nat.min_eq_left (by omega)]
      have e2 : (cur.toList.drop (k * 6 + m * 6)).take (l.length * 6 - (k * 6 + m * 6)) = flat (l.drop (k + m)) := by
        rw [← flat_drop l (k + m) hk, ← htk, List.drop_take, Nat.add_mul]
      have h12 : (flat (l.take k) ++ flat r).length = k * 6 + m * 6 := by rw [List.length_append, hfl, flat_length, List.length_take, Nat.min_eq_left (by omega)]
      rw [e1, ← List.append_assoc (flat (l.take k)) (flat r), List.take_append, h12, List.take_of_length_le (l := flat (l.take k) ++ flat r) (by rw [h12]; omega), e2, List.append_assoc]
theorem wp_copy_into {w : World} {ops : Array Oper} {rest : List Oper} {o : Oper} {a : Act} {Q : Exit → Act → World → Prop} {d s : Operand} (hgd : o.guard = none)
    (ho : o.op = .call { callee := .builtin .copy, args := #[d, s], argTypes := #[27, 27] }) {base g n cap k m off dCap sCap : Nat} {ad : Addr} {l r : List Cl}
    (hd : a.eval d = .slice (some ⟨g, off, none⟩) m dCap) (hs : a.eval s = .slice (some ad) m sCap) (hoff : off = k * 6) (h : OwnCs w base (.slice (some ⟨g, 0, none⟩) n cap) l) (hm : r.length = m) (hk : k + m ≤ l.length)
    (hsrc : ∀ j u, (flat r)[j]? = some u → w.cell? (ad.add j) = some u)
    (hK : ∀ w', OwnCs w' base (.slice (some ⟨g, 0, none⟩) n cap) (overL l k r) → Only g w w' → (∀ B w0, Below B w0 w → B ≤ g → Below B w0 w') → wpList Tryz.prog ops Q rest (a.put o.dst (goInt m)) w') : wpList Tryz.prog ops Q (o :: rest) a w := by
  subst hoff
  refine wpList_plain hgd fun K hK' => ?_
  obtain ⟨w', hrun, h1, h2, h3⟩ := run_copy_into (ty := o.type) (dCap := dCap) (sCap := sCap) h hm hk hsrc
  unfold Oper.wp execOp
  simp only [ho, resolve, invoke, builtin, Sem.run_bind, Sem.run_pure, Result.andThen_ok, List.map_toArray, List.map_cons, List.map_nil, hs, hd, hrun]
  exact hK' _ _ (hK w' h1 h2 h3)
/-- The cursor's row among the seen grid's cells: where it begins; its cells. -/
def lineAt (s : S) : Nat := s.cur.row.toNat * (seenG s).cols.toNat
def lineS (s : S) : List Cl := Row.rowAt (seenG s).cells (seenG s).cols.toNat s.cur.row.toNat
/-- The screen with that row written over. -/
def withLine (s : S) (r : List Cl) : S := putG s { seenG s with cells := overL (seenG s).cells (lineAt s) r }
structure LineFacts (s : S) : Prop where
  fit : lineAt s + (seenG s).cols.toNat ≤ (seenG s).cells.length
  len : (lineS s).length = (seenG s).cols.toNat
  ok : RowOk (lineS s)
  held : Held (lineS s)
  c1 : 1 ≤ (seenG s).cols.toNat
  c40 : (seenG s).cols.toNat ≤ 40
  cI : ((seenG s).cols.toNat : Int) = s.main.cols
  at_ : (lineAt s : Int) = s.cur.row * s.main.cols
  a40 : lineAt s ≤ 1600
  rI : (s.cur.row.toNat : Int) = s.cur.row
theorem Ok.line {s : S} (h : Ok s) : LineFacts s := by
  have f := h.facts
  obtain ⟨R, C, rs, e, hr, _⟩ := parts_of f.g
  have hR : ((seenG s).rows) = (R : Int) := by rw [e]
  have hC : ((seenG s).cols) = (C : Int) := by rw [e]
  have hcn : (seenG s).cols.toNat = C := by rw [hC]; rfl
  have hcl : (seenG s).cells = rs.flatten := by rw [e]
  obtain ⟨i, hi⟩ := Int.eq_ofNat_of_zero_le f.row0
  have hin : s.cur.row.toNat = i := by rw [hi]; rfl
  have hiR : i < R := by have := f.row1; have := f.gr; omega
  have hm : (i + 1) * C ≤ rs.flatten.length := by rw [even_length hr.even, hr.len]; exact Nat.mul_le_mul_right C hiR
  have hla : lineAt s = i * C := by unfold lineAt; rw [hin, hcn]
  have hls : lineS s = rowOf rs i := by unfold lineS; rw [hcl, hcn, hin]; exact rowAt_flat hr.even (by rw [hr.len]; exact hiR)
  have hgc := f.gc
  have hok := hr.ok i hiR
  refine ⟨?_, ?_, by rw [hls]; exact hok, by rw [hls]; exact hok.held, by rw [hcn]; exact hr.c1, by rw [hcn]; exact hr.c40, by rw [hcn, ← hC]; exact hgc, ?_, ?_, by rw [hi]; rfl⟩
  · rw [hla, hcn, hcl]; rw [Nat.succ_mul] at hm; exact hm
  · rw [hls, hcn]; exact hr.rlen hiR
  · rw [hla, hi, ← hgc, hC]; simp
  · rw [hla]
    have := Nat.mul_le_mul (show i ≤ 40 by have := hr.r40; omega) hr.c40
    omega
set_option maxHeartbeats 3200000 in
theorem line_any (s : S) (x y z : Value) (b base : Nat) (w : World) (h : Pn w b base s x y z) (hok : Ok s) :
    Calls Tryz.prog 73 #[.pointer (some ⟨b, 0, none⟩)] w fun e w' => ∃ g n cap c', seenX s x y = .slice (some ⟨g, 0, none⟩) n cap ∧ e = .returned (.slice (some ⟨g, lineAt s * 6, none⟩) (seenG s).cols.toNat c') ∧ Below w.heap.size w w' := by
  have F := Lib.hid hok.facts
  have L := Lib.hid hok.line
  have hX : OwnCs w base (seenX s x y) (seenG s).cells := by
    unfold seenX seenG; cases s.swapped
    · exact h.own.m
    · exact h.own.o
  have HS := Lib.hid (seat_arr s x y z)
  rcases hX.shape with ⟨_, e⟩ | ⟨g, cap, e, _, hcap⟩
  · have h1 := L.out.fit; have h2 := L.out.c1; rw [e] at h1; simp at h1; omega
  rw [e] at HS ⊢
  have HPS := Lib.hid (penSeen s x y z b w h.box)
  obtain ⟨p, hp⟩ : ∃ p, seatO s = p := ⟨_, rfl⟩
  rw [hp] at HS HPS
  have p1 : w.cell? ⟨b, p + 1, none⟩ = some (.int .i64 s.main.cols) := by rw [h.box.cell, ← F.out.gc]; exact HS.out.2.1
  have p2 : w.cell? ⟨b, p + 2, none⟩ = some (.slice (some ⟨g, 0, none⟩) (seenG s).cells.length cap) := by rw [h.box.cell]; exact HS.out.2.2
  have q7 : w.cell? ⟨b, 7, none⟩ = some (.int .i64 s.cur.row) := h.box.cell 7
  obtain ⟨C, hC⟩ : ∃ C, (seenG s).cols.toNat = C := ⟨_, rfl⟩
  obtain ⟨k, hk⟩ : ∃ k, lineAt s = k := ⟨_, rfl⟩
  obtain ⟨n, hn⟩ : ∃ n, (seenG s).cells.length = n := ⟨_, rfl⟩
  have hfit := L.out.fit
  have hcI := L.out.cI
  have hat := L.out.at_
  have hc1 := L.out.c1
  have h40 := L.out.a40
  have hC40 := L.out.c40
  rw [hC] at hfit hcI hc1 hC40 ⊢
  rw [hk] at hfit hat h40 ⊢
  rw [hn] at hfit hcap p2 ⊢
  have hw1 : IntKind.i64.wrap (s.cur.row * s.main.cols) = (k : Int) := by rw [IntKind.wrap_i64, ← hat]; omega
  have hw2 : IntKind.i64.wrap ((k : Int) + s.main.cols) = ((k + C : Nat) : Int) := by rw [IntKind.wrap_i64, ← hcI]; omega
  have hu : Tryz.prog.underlying 27 = some (.slice (Tryz.prog.elem 27)) := by kernel_rfl
  have hsl : ∀ w' : World, (Instr.slice 27 (.slice (some ⟨g, 0, none⟩) n cap) (some (.int .i64 (k : Int))) (some (.int .i64 ((k + C : Nat) : Int))) none).run Tryz.prog w' = .ok (.slice (some ⟨g, k * 6, none⟩) C (cap - k)) w' := fun w' => by
    rw [run_slice_lh w' 27 (some ⟨g, 0, none⟩) n cap hu .i64 .i64 (k : Int) ((k + C : Nat) : Int) (by omega) (by omega) (by omega)]
    have hs : (sizeOf (Tryz.prog.elem 27)).run Tryz.prog w' = .ok 6 w' := by kernel_rfl
    rw [hs]
    have hne : ¬ cap = k := by omega
    simp [Result.andThen, sliced, hne, Addr.add]
    exact ⟨fun h => h.symm, by omega⟩
  clear hn hk hC hp hfit hat hc1 h40 hC40 hcI hcap e hX h hok
  obtain ⟨hi, hhi⟩ : ∃ hi : Int, ((k + C : Nat) : Int) = hi := ⟨_, rfl⟩
  rw [hhi] at hw2 hsl
  obtain ⟨lo, hlo⟩ : ∃ lo : Int, (k : Int) = lo := ⟨_, rfl⟩
  rw [hlo] at hw1 hw2 hsl
  clear hhi hlo hu
  go_enter Tryz.func73, Tryz.ntmps73
  go_wp2_with fail
  refine HPS.out.mono ?_; rintro e w1 ⟨rfl, rfl⟩
  go_upto_region 2 with (fail)
  go_quiet (fail)
  go_upto_region 3 with (fail)
  go_quiet (fail)
  go_wp2_with fail
  go_ret
  exact ⟨g, n, cap, cap - k, rfl, rfl, (by first | exact bel_drewN _ _ | exact (bel_drewN _ _).trans (bel_drewN _ _) | exact (bel_drewN _ _).drew | exact ⟨rfl, rfl, rfl, Nat.le_refl _, fun _ _ => rfl⟩)⟩
end Scr
end Go.Proofs.YtgjpojaegjdjcaaGreatDoor
end
