/- The developers' events told as the face's: plain, told; slices.Clone. -/
import Derived.Test.YtjodbmfjdpbbnaaDoorVdMach
import Derived.Lib.SliceRun
namespace Go.Proofs.YtjodbmfjdpbbnaaDoor
set_option maxRecDepth 100000
open Go.RowKit
namespace Vd
open Vt

set_option maxHeartbeats 800000 in
theorem clone_any (u : Value) (xs : List Int) (w : World) (hu : Src w u xs.length (ints xs)) (hn : xs.length ≤ 100000000) :
    Calls Tryd.prog 27 #[u] w fun e w' => ∃ v, e = .returned v ∧ w'.ownsRow w.heap.size 3 1 v xs.length (ints xs) ∧ Below w.heap.size w w' := by
  have hq : ∀ (w : World) (a : Option Addr) (n c : Nat), (binOp .eql 29 (.slice a n c) (.slice none 0 0)).run Tryd.prog w = .ok (.bool a.isNone) w := fun w a n c => Lib.run_eql_slice_nil w _ _ a n c 0 0 Tryd.underlying29
  rcases hu.2 with ⟨rfl, h0⟩ | ⟨ad, c, rfl, hc⟩
  · have hx : xs = [] := List.eq_nil_of_length_eq_zero h0
    subst hx
    clear hu
    go_enter Tryd.func27, Tryd.ntmps27
    go_wp2_with fail
    go_ret
    exact ⟨_, rfl, World.ownsRow_nil _ _ _ _, Below.refl _ _⟩
  · have HU := Lib.hid (hu.kept ((Below.refl w.heap.size w).alloc (Nat.le_refl _) (.cells #[] 3)))
    have HZ : Hid ((w.alloc (.cells #[] 3)).ownsRow w.heap.size 3 1 (.slice (some ⟨w.heap.size, 0, none⟩) 0 0) 0 (ints [])) := Lib.hid ⟨rfl, .inr ⟨w.heap.size, 0, #[], rfl, Nat.le_refl _, heap_alloc_new w _, Nat.le_refl _, by simp [maxLen], rfl, rfl⟩⟩
    clear hu hc
    go_enter Tryd.func27, Tryd.ntmps27
    go_wp2_with (at_builtin; refine wp_append_ints rfl rfl w.heap.size (.slice (some ⟨w.heap.size, 0, none⟩) 0 0) 0 [] rfl HZ.out (.slice (some ad) xs.length c) xs.length xs rfl HU.out (by omega) (by simp) ?_; intro v1 w1 ho1 hg1 hat1; have HO1 := Lib.hid ho1; have HG1 := Lib.hid hg1; clear ho1 hg1 hat1)
    go_ret
    refine ⟨_, rfl, by simpa using HO1.out, ((Below.refl w.heap.size w).alloc (Nat.le_refl _) _).grown HG1.out (by simp) (fun k hk => (HZ.out.lt k hk).1)⟩

/-! ### type assertions -/
@[go_sem] theorem is_pr_pr (v : Value) (w : World) : (Instr.typeAssert (.iface 81 v) 71 81 true).run Tryd.prog w = .ok (.tuple #[v, .bool true]) w := by kernel_rfl
@[go_sem] theorem is_pr_co (v : Value) (w : World) : (Instr.typeAssert (.iface 69 v) 71 81 true).run Tryd.prog w = .ok (.tuple #[.int .i32 0, .bool false]) w := by kernel_rfl
@[go_sem] theorem is_pr_es (v : Value) (w : World) : (Instr.typeAssert (.iface 85 v) 71 81 true).run Tryd.prog w = .ok (.tuple #[.int .i32 0, .bool false]) w := by kernel_rfl
@[go_sem] theorem is_pr_cs (v : Value) (w : World) : (Instr.typeAssert (.iface 88 v) 71 81 true).run Tryd.prog w = .ok (.tuple #[.int .i32 0, .bool false]) w := by kernel_rfl
@[go_sem] theorem is_pr_os (v : Value) (w : World) : (Instr.typeAssert (.iface 90 v) 71 81 true).run Tryd.prog w = .ok (.tuple #[.int .i32 0, .bool false]) w := by kernel_rfl
@[go_sem] theorem is_co_co (v : Value) (w : World) : (Instr.typeAssert (.iface 69 v) 71 69 true).run Tryd.prog w = .ok (.tuple #[v, .bool true]) w := by kernel_rfl
@[go_sem] theorem is_co_es (v : Value) (w : World) : (Instr.typeAssert (.iface 85 v) 71 69 true).run Tryd.prog w = .ok (.tuple #[.int .u8 0, .bool false]) w := by kernel_rfl
@[go_sem] theorem is_co_cs (v : Value) (w : World) : (Instr.typeAssert (.iface 88 v) 71 69 true).run Tryd.prog w = .ok (.tuple #[.int .u8 0, .bool false]) w := by kernel_rfl
@[go_sem] theorem is_co_os (v : Value) (w : World) : (Instr.typeAssert (.iface 90 v) 71 69 true).run Tryd.prog w = .ok (.tuple #[.int .u8 0, .bool false]) w := by kernel_rfl
@[go_sem] theorem is_es_es (v : Value) (w : World) : (Instr.typeAssert (.iface 85 v) 71 85 true).run Tryd.prog w = .ok (.tuple #[v, .bool true]) w := by kernel_rfl
@[go_sem] theorem is_es_cs (v : Value) (w : World) : (Instr.typeAssert (.iface 88 v) 71 85 true).run Tryd.prog w = .ok (.tuple #[.agg #[.int .u8 0, .string ⟨#[]⟩], .bool false]) w := by kernel_rfl
@[go_sem] theorem is_es_os (v : Value) (w : World) : (Instr.typeAssert (.iface 90 v) 71 85 true).run Tryd.prog w = .ok (.tuple #[.agg #[.int .u8 0, .string ⟨#[]⟩], .bool false]) w := by kernel_rfl
@[go_sem] theorem is_cs_cs (v : Value) (w : World) : (Instr.typeAssert (.iface 88 v) 71 88 true).run Tryd.prog w = .ok (.tuple #[v, .bool true]) w := by kernel_rfl
@[go_sem] theorem is_cs_os (v : Value) (w : World) : (Instr.typeAssert (.iface 90 v) 71 88 true).run Tryd.prog w = .ok (.tuple #[.agg #[.int .u8 0, .string ⟨#[]⟩, .slice none 0 0], .bool false]) w := by kernel_rfl
@[go_sem] theorem must_os (v : Value) (w : World) : (Instr.typeAssert (.iface 90 v) 71 90 false).run Tryd.prog w = .ok v w := by kernel_rfl

/-- The numbers that an event is told with. -/
def pvOf (e : Ev) (pv : Value) : Value := if e.kind = 4 then pv else .slice none 0 0
theorem pvOf_own {w : World} {base : Nat} {e : Ev} {pv : Value} (hg : Good e) (h : w.ownsRow base 3 1 pv e.params.length (ints e.params)) : w.ownsRow base 3 1 (pvOf e pv) e.params.length (ints e.params) := by
  cases hg with
  | print r h1 h2 => exact World.ownsRow_nil _ _ _ _
  | control c => exact World.ownsRow_nil _ _ _ _
  | escape c i => exact World.ownsRow_nil _ _ _ _
  | csi c ps i h1 => exact h
  | osc t => exact World.ownsRow_nil _ _ _ _
set_option maxHeartbeats 1600000 in
theorem plain_any (e : Ev) (pv : Value) (hg : Good e) (hsh : ∃ A n c, pv = .slice A n c) (w : World) :
    Calls Tryd.prog 41 #[box e pv] w fun x w' => x = .returned (.agg (evVals e (pvOf e pv)).toArray) ∧ Below w.heap.size w w' := by
  obtain ⟨A, n, cc, rfl⟩ := hsh
  cases hg with
  | print r h1 h2 =>
    have hwr : IntKind.i64.wrap r = r := IntWalk.i64_in _ (by omega)
    show Calls Tryd.prog _ #[.iface 81 (.int .i32 r)] w _
    go_enter Tryd.func41, Tryd.ntmps41
    go_wp2_with fail
    refine bodyPost_ret (v := .agg #[.int .i64 1, .int .i64 r, .slice none 0 0, .string ⟨#[]⟩, .string ⟨#[]⟩]) (by simp [results, Tryd.results41, go_sem]) rfl ⟨rfl, ?_⟩
    repeat (refine Below.setCell ?_ (by simp <;> omega) _)
    repeat (refine Below.alloc ?_ (by simp <;> omega) _)
    exact Below.refl _ _
  | control b =>
    have hb := Utf.byte_lt b
    have hwr : IntKind.i64.wrap (b.toNat : Int) = (b.toNat : Int) := IntWalk.i64_in _ (by omega)
    show Calls Tryd.prog _ #[.iface 69 (.int .u8 b.toNat)] w _
    go_enter Tryd.func41, Tryd.ntmps41
    go_wp2_with fail
    refine bodyPost_ret (v := .agg #[.int .i64 2, .int .i64 b.toNat, .slice none 0 0, .string ⟨#[]⟩, .string ⟨#[]⟩]) (by simp [results, Tryd.results41, go_sem]) rfl ⟨rfl, ?_⟩
    repeat (refine Below.setCell ?_ (by simp <;> omega) _)
    repeat (refine Below.alloc ?_ (by simp <;> omega) _)
    exact Below.refl _ _
  | escape b i =>
    have hb := Utf.byte_lt b
    have hwr : IntKind.i64.wrap (b.toNat : Int) = (b.toNat : Int) := IntWalk.i64_in _ (by omega)
    show Calls Tryd.prog _ #[.iface 85 (.agg #[.int .u8 b.toNat, .string ⟨i.toArray⟩])] w _
    go_enter Tryd.func41, Tryd.ntmps41
    go_wp2_with fail
    refine bodyPost_ret (v := .agg #[.int .i64 3, .int .i64 b.toNat, .slice none 0 0, .string ⟨i.toArray⟩, .string ⟨#[]⟩]) (by simp [results, Tryd.results41, go_sem]) rfl ⟨rfl, ?_⟩
    repeat (refine Below.setCell ?_ (by simp <;> omega) _)
    repeat (refine Below.alloc ?_ (by simp <;> omega) _)
    exact Below.refl _ _
  | csi b ps i h1 =>
    have hb := Utf.byte_lt b
    have hwr : IntKind.i64.wrap (b.toNat : Int) = (b.toNat : Int) := IntWalk.i64_in _ (by omega)
    show Calls Tryd.prog _ #[.iface 88 (.agg #[.int .u8 b.toNat, .string ⟨i.toArray⟩, .slice A n cc])] w _
    go_enter Tryd.func41, Tryd.ntmps41
    go_wp2_with fail
    refine bodyPost_ret (v := .agg #[.int .i64 4, .int .i64 b.toNat, .slice A n cc, .string ⟨i.toArray⟩, .string ⟨#[]⟩]) (by simp [results, Tryd.results41, go_sem]) rfl ⟨rfl, ?_⟩
    repeat (refine Below.setCell ?_ (by simp <;> omega) _)
    repeat (refine Below.alloc ?_ (by simp <;> omega) _)
    exact Below.refl _ _
  | osc s =>
    show Calls Tryd.prog _ #[.iface 90 (.string ⟨s.toArray⟩)] w _
    go_enter Tryd.func41, Tryd.ntmps41
    go_wp2_with fail
    refine bodyPost_ret (v := .agg #[.int .i64 5, .int .i64 0, .slice none 0 0, .string ⟨#[]⟩, .string ⟨s.toArray⟩]) (by simp [results, Tryd.results41, go_sem]) rfl ⟨rfl, ?_⟩
    repeat (refine Below.setCell ?_ (by simp <;> omega) _)
    repeat (refine Below.alloc ?_ (by simp <;> omega) _)
    exact Below.refl _ _

/-- All rows of cells stand but those of the face's events. -/
def Stands (w w' : World) : Prop := ∀ (b : Nat) (cs : Array Value) (t : TypeId), t ≠ 63 → w.heap[b]? = some (.cells cs t (0, 0)) → w'.heap[b]? = some (.cells cs t (0, 0))
theorem Stands.refl (w : World) : Stands w w := fun _ _ _ _ h => h
theorem Stands.trans {w w1 w2 : World} (h : Stands w w1) (k : Stands w1 w2) : Stands w w2 := fun b cs t ht hb => k b cs t ht (h b cs t ht hb)
theorem Stands.below {w w' : World} (h : Below w.heap.size w w') : Stands w w' := fun b _ _ _ hb => (h.block b (block_lt hb)).trans hb
theorem Stands.own {w w' : World} (h : Stands w w') {B C n : Nat} {e : TypeId} {v : Value} {xs : List Value} (ho : w.ownsRow B e C v n xs) (he : e ≠ 63) : w'.ownsRow B e C v n xs := by
  refine ⟨ho.1, ?_⟩
  rcases ho.2 with h0 | ⟨g, cap, cur, hv, hb, hg, rest⟩
  · exact .inl h0
  · exact .inr ⟨g, cap, cur, hv, hb, h g cur e he hg, rest⟩
theorem Stands.grown {w w' : World} {base n : Nat} {v : Value} {xs : List Value} (ho : w.ownsRow base 63 5 v n xs) (hg : w.grownBy w' v.ownBlock) : Stands w w' := fun b cs t ht hb => by
  refine (hg.block b (block_lt hb) ?_).trans hb
  intro e
  rcases ho.2 with ⟨rfl, _⟩ | ⟨g, cap, cur, rfl, _, hgc, _⟩
  · cases e
  · simp only [Value.ownBlock] at e
    injection e with e
    subst e
    rw [hb] at hgc
    injection hgc with hgc
    injection hgc with _ h2 _
    exact ht h2

set_option maxHeartbeats 1600000 in
theorem told_any (base : Nat) (l : List Ev) (x : Value) (pvs : List Value) (w : World) (hx : w.ownsRow base 71 1 x l.length (List.zipWith box l pvs)) (hlen : pvs.length = l.length)
    (he : ∀ k, k < l.length → w.ownsRow base 3 1 (pvs.getD k undef) (l.getD k (printE 0)).params.length (ints (l.getD k (printE 0)).params)) (hgd : ∀ e ∈ l, Good e) (hn : l.length ≤ 900000000) (hbase : base ≤ w.heap.size) :
    Calls Tryd.prog 29 #[x] w fun e w' => ∃ v, e = .returned v ∧ OwnEvs w' base v l ∧ Below base w w' ∧ Stands w w' := by
  obtain ⟨A, c, rfl⟩ := own_shape hx
  have HX := Lib.hid hx
  have HE := Lib.hid he
  have HG := Lib.hid hgd
  clear hx he hgd
  go_enter Tryd.func29, Tryd.ntmps29
  go_wp2_with fail
  go_loopw [3, 8] (fun v i wr => ∃ k : Nat, k ≤ l.length ∧ i = .int .i64 k ∧ Hid (OwnEvs wr base v (l.take k)) ∧ Below base w wr ∧ Hid (Stands w wr)) (fun _ i _ => l.length - (intOf i).toNat)
  case atStart => exact ⟨0, by omega, rfl, Lib.hid (OwnEvs.nil _ _), Below.refl _ _, Lib.hid (Stands.refl _)⟩
  case round =>
    obtain ⟨k, hk, rfl, HOW, hbl, HST⟩ := hrel
    by_cases hlt : k < l.length
    · obtain ⟨A', c', hA, hf⟩ := (Src.own (HST.out.own HX.out (by decide))).form
      obtain ⟨ad, e, hcell⟩ := hf k hlt
      injection hA with h1 h2 h3
      subst h1
      subst h3
      subst e
      have hpk : k < pvs.length := by omega
      have hzk : (List.zipWith box l pvs)[k]? = some (box (l.getD k (printE 0)) (pvs.getD k undef)) := by simp [List.getD, List.getElem?_zipWith, hlt, hpk]
      rw [hzk] at hcell
      have HT : Hid (l.take (k + 1) = l.take k ++ [l.getD k (printE 0)]) := Lib.hid (by rw [List.take_succ_eq_append_getElem hlt]; simp [List.getD, hlt])
      have hlk : Hid ((l.take k).length = k) := Lib.hid (by rw [List.length_take]; omega)
      have hgk := HG.out (l.getD k (printE 0)) (by simp [List.getD, hlt])
      have hek := HST.out.own (HE.out k hlt) (by decide)
      clear hf h2 hzk
      generalize l.getD k (printE 0) = ev at hcell HT hgk hek
      generalize pvs.getD k undef = pv at hcell hek
      have hsh : ∃ A n c, pv = .slice A n c := by
        obtain ⟨A9, c9, e9⟩ := own_shape hek
        exact ⟨A9, _, c9, e9⟩
      have HPV := Lib.hid (pvOf_own hgk hek)
      have HGK := Lib.hid hgk
      obtain ⟨tv, uv, hbox⟩ := box_form ev pv
      have HBX := Lib.hid hbox
      rw [hbox] at hcell
      have HPL := Lib.hid (fun W => plain_any ev pv HGK.out hsh W)
      clear hgk hek hbox hsh
      go_wp2_with fail
      have hpl := HPL.out wr
      rw [HBX.out] at hpl
      refine hpl.mono ?_
      rintro e w1 ⟨rfl, hb1⟩
      clear hpl
      obtain ⟨pw, hpw⟩ : ∃ pw, pvOf ev pv = pw := ⟨_, rfl⟩
      rw [hpw] at HPV ⊢
      obtain ⟨A8, c8, rfl⟩ := own_shape HPV.out
      have z0 := hbl.size
      have z1 := hb1.size
      have HO1 := Lib.hid (own_keptC HPV.out hb1)
      have HO2 := Lib.hid (HOW.out.kept hb1)
      clear hpw
      obtain ⟨kind, rune, ps, it, tx⟩ := ev
      simp only [evVals] at HO1 ⊢
      go_wp2_with (at_builtin; refine wp_append_ev rfl rfl base _ (l.take k) rfl (HO2.out.kept ((Below.refl _ _).alloc (Nat.le_refl _) _)) w1.heap.size _ ⟨kind, rune, ps, it, tx⟩ (.slice A8 ps.length c8) rfl (At.one w1 _ _ _ _ rfl rfl) (HO1.out.alloc _) (by rw [hlk.out]; omega) (by simp; omega) ?_; intro g cap w2 ho2 hg2 hat2 hlt2)
      have hown2 : OwnEvs w2 base (.slice (some ⟨g, 0, none⟩) (k + 1) cap) (l.take (k + 1)) := by rw [hlk.out] at ho2; rw [HT.out]; exact ho2
      have hbl2 : Below base w w2 := ((hbl.trans (hb1.mono (Nat.le_trans hbase z0))).alloc (by omega) _).grown hg2 (by simp; omega) (fun j hj => (HO2.out.lt j hj).1)
      have HST2 : Hid (Stands w w2) := Lib.hid (by
        obtain ⟨_, _, h2, _⟩ := HO2.out.kept ((Below.refl _ _).alloc (Nat.le_refl _) (.cells #[.int .i64 kind, .int .i64 rune, .slice A8 ps.length c8, .string ⟨it.toArray⟩, .string ⟨tx.toArray⟩] 63))
        exact ((HST.out.trans (Stands.below hb1)).trans (Stands.below ((Below.refl _ _).alloc (Nat.le_refl _) _))).trans (Stands.grown h2 hg2))
      have HOW2 := Lib.hid hown2
      clear ho2 hown2
      go_wp2_with fail
      go_roundw
      case rel => exact ⟨k + 1, by omega, by go_num, HOW2, hbl2, HST2⟩
      case measure => simp [intOf]; omega
    · have hkl : k = l.length := by omega
      subst hkl
      have HEQ : Hid (l.take l.length = l) := Lib.hid (List.take_of_length_le (Nat.le_refl _))
      rw [HEQ.out] at HOW
      clear hlt
      go_wp2_with fail
      go_ret
      exact ⟨_, rfl, HOW.out, hbl, HST.out⟩
end Vd
end Go.Proofs.YtjodbmfjdpbbnaaDoor
