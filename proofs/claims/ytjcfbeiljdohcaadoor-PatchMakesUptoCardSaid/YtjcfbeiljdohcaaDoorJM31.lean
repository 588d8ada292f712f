/- Joined texts: PdDo. -/
import Derived.Test.YtjcfbeiljdohcaaDoorJM30
import Derived.Deep.RegionHeld3
namespace Go.Proofs.YtjcfbeiljdohcaaDoor
set_option maxRecDepth 100000
section
open Go.RowKit
namespace Pat
open Go.Proofs.YtjcfbeiljdohcaaDoor.Row Go.Proofs.YtjcfbeiljdohcaaDoor.Scr Agb
theorem yields_loadA {t : TypeId} {n : Nat} (ht : Agg t n) {ops : Array Oper} {T : World → Prop} {o : Oper} {a : Act} {x : Operand} {b : Nat} {A : Array Value} {t' : TypeId} (hgd : Region.wanted o (yielded ops a.tmps) = true) (ho : o.op = .load t x) (hx : a.eval x = .pointer (some ⟨b, 0, none⟩))
    (h : ∀ w, T w → w.heap[b]? = some (.cells A t' (0, 0))) (hA : A.size = n) : YieldsIf Tryd.prog ops T o (.agg A) a := by
  obtain ⟨d, hu⟩ := ht.und
  refine Or.inl ⟨hgd, fun w hT => ?_⟩
  unfold execOp
  simp only [ho, hx, Instr.loadAt, Instr.sureAddr, Sem.run_bind, Sem.run_pure, Result.andThen_ok, run_loadVar_row w b t' t A (0, 0) (.struct d) (h w hT) hu rfl (by rw [hA]; exact ht.size)]
set_option maxHeartbeats 3200000 in
theorem may_thin (R C p q m : Int) (f : Bool) (t : List UInt8) (u : Value) (A : Option Addr) (n c : Nat) (w : World) (h : (Row.rng R 1 40 && Row.rng C 1 40) = false) :
    Calls Tryd.prog 17 #[.agg #[.int .i64 R, .int .i64 C, .bool f, u, .slice A n c, .int .i64 p, .int .i64 q, .int .i64 m, .string ⟨t.toArray⟩]] w fun e w' => e = .returned (.int .i64 1) ∧ Below w.heap.size w w' := by
  have HB := Lib.hid ((Below.refl w.heap.size w).alloc (Nat.le_refl _) (.cells #[.int .i64 R, .int .i64 C, .bool f, u, .slice A n c, .int .i64 p, .int .i64 q, .int .i64 m, .string ⟨t.toArray⟩] 35 (0, 0)))
  have HX : Hid ((w.alloc (.cells #[.int .i64 R, .int .i64 C, .bool f, u, .slice A n c, .int .i64 p, .int .i64 q, .int .i64 m, .string ⟨t.toArray⟩] 35 (0, 0))).heap[w.heap.size]? = some (.cells #[.int .i64 R, .int .i64 C, .bool f, u, .slice A n c, .int .i64 p, .int .i64 q, .int .i64 m, .string ⟨t.toArray⟩] 35 (0, 0))) := Lib.hid (new_alloc _ _ _ rfl)
  have HS := Lib.hid (fun W => sized_t R C p q m f ⟨t.toArray⟩ u (.slice A n c) W)
  rw [h] at HS
  clear h
  go_enter Tryd.func17, Tryd.ntmps17
  go_wp2_with (refine wp_loadP rfl rfl rfl HX.out ?_)
  refine (HS.out _).mono ?_; rintro e w1 ⟨rfl, hb⟩
  have HB1 := Lib.hid (HB.out.trans (hb.mono HB.out.size))
  clear hb
  go_wp2_with fail
  go_ret
  exact ⟨rfl, HB1.out⟩
set_option maxHeartbeats 6400000 in
theorem may_fat (R C : Nat) (p q m : Int) (f : Bool) (t : List UInt8) (nn : List Int) (l : List Cl) (Au A : Option Addr) (cu c : Nat) (w : World) (hu : Sl w (.slice Au nn.length cu) nn) (hx : Rm w (.slice A l.length c) l) (hs : Held l) (hT : Tabs w) (ht : t.length ≤ 1000000000) (hn : nn.length ≤ 1000000) (hR1 : 1 ≤ R) (hR : R ≤ 40) (hC1 : 1 ≤ C) (hC : C ≤ 40) :
    Calls Tryd.prog 17 #[.agg #[.int .i64 R, .int .i64 C, .bool f, .slice Au nn.length cu, .slice A l.length c, .int .i64 p, .int .i64 q, .int .i64 m, .string ⟨t.toArray⟩]] w fun e w' => e = .returned (.int .i64 (codeB ((Row.rng p 0 ((R : Int) - 1) && (Row.rng q 0 ((C : Int) - 1) && (Row.rng m 0 1023 && titleB t))) && fitB R C f nn l))) ∧ Below w.heap.size w w' := by
  have hb0 := (Below.refl w.heap.size w).alloc (Nat.le_refl _) (.cells #[.int .i64 R, .int .i64 C, .bool f, .slice Au nn.length cu, .slice A l.length c, .int .i64 p, .int .i64 q, .int .i64 m, .string ⟨t.toArray⟩] 35 (0, 0))
  have HB := Lib.hid hb0
  have HX : Hid ((w.alloc (.cells #[.int .i64 R, .int .i64 C, .bool f, .slice Au nn.length cu, .slice A l.length c, .int .i64 p, .int .i64 q, .int .i64 m, .string ⟨t.toArray⟩] 35 (0, 0))).heap[w.heap.size]? = some (.cells #[.int .i64 R, .int .i64 C, .bool f, .slice Au nn.length cu, .slice A l.length c, .int .i64 p, .int .i64 q, .int .i64 m, .string ⟨t.toArray⟩] 35 (0, 0))) := Lib.hid (new_alloc _ _ _ rfl)
  have hsz : (Row.rng (R : Int) 1 40 && Row.rng (C : Int) 1 40) = true := by rw [Bool.and_eq_true]; exact ⟨rng_yes.2 (by omega), rng_yes.2 (by omega)⟩
  have HS := Lib.hid (fun W => sized_t R C p q m f ⟨t.toArray⟩ (.slice Au nn.length cu) (.slice A l.length c) W)
  rw [hsz] at HS
  have HSH := Lib.hid (fun W (hw : Below w.heap.size w W) => shown_t R C p q m f t (.slice Au nn.length cu) A l.length c W (hT.kept hw) ht hR1 hR hC1 hC)
  have HRF := Lib.hid (fun W (hw : Below w.heap.size w W) => rowsFit_any R C p q m f t nn l Au A cu c W (hu.kept hw) (hx.kept hw) hs hR hn)
  generalize (Row.rng p 0 ((R : Int) - 1) && (Row.rng q 0 ((C : Int) - 1) && (Row.rng m 0 1023 && titleB t))) = a1 at HSH ⊢
  generalize fitB R C f nn l = a2 at HRF ⊢
  clear hb0 hsz hu hx hs hT ht
  go_enter Tryd.func17, Tryd.ntmps17
  go_wp2_with (refine wp_loadP rfl rfl rfl HX.out ?_)
  refine (HS.out _).mono ?_; rintro e w1 ⟨rfl, hb⟩
  have HB1 := Lib.hid (HB.out.trans (hb.mono HB.out.size))
  have HX1 := Lib.hid (Blk.kept HX.out hb)
  clear hb HB HX
  go_wp2_with (refine wp_loadP rfl rfl rfl HX1.out ?_)
  refine (HSH.out _ HB1.out).mono ?_; rintro e w2 ⟨rfl, hb⟩
  have HB2 := Lib.hid (HB1.out.trans (hb.mono HB1.out.size))
  have HX2 := Lib.hid (Blk.kept HX1.out hb)
  clear hb HB1 HX1
  cases a1 with
  | false =>
    go_wp2_with fail
    go_ret
    exact ⟨rfl, HB2.out⟩
  | true =>
    go_wp2_with (refine wp_loadP rfl rfl rfl HX2.out ?_)
    refine (HRF.out _ HB2.out).mono ?_; rintro e w3 ⟨rfl, hb⟩
    have HB3 := Lib.hid (HB2.out.trans (hb.mono HB2.out.size))
    clear hb
    cases a2
    all_goals
      go_wp2_with fail
      go_ret
      exact ⟨rfl, HB3.out⟩
theorem may_t (R C p q m : Int) (f : Bool) (t : List UInt8) (nn : List Int) (l : List Cl) (Au A : Option Addr) (cu c : Nat) (b : Bool) (w : World) (hb : patchB ⟨R, C, f, nn, l, p, q, m, t⟩ = b) (hu : Sl w (.slice Au nn.length cu) nn) (hx : Rm w (.slice A l.length c) l) (hs : Held l) (hT : Tabs w) (ht : t.length ≤ 1000000000) (hn : nn.length ≤ 1000000) :
    Calls Tryd.prog 17 #[.agg #[.int .i64 R, .int .i64 C, .bool f, .slice Au nn.length cu, .slice A l.length c, .int .i64 p, .int .i64 q, .int .i64 m, .string ⟨t.toArray⟩]] w fun e w' => e = .returned (.int .i64 (codeB b)) ∧ Below w.heap.size w w' := by
  cases h : (Row.rng R 1 40 && Row.rng C 1 40) with
  | false =>
    have e : b = false := by rw [← hb]; unfold patchB; rw [h]; rfl
    subst e
    exact may_thin R C p q m f t (.slice Au nn.length cu) A l.length c w h
  | true =>
    have h0 := h
    rw [Bool.and_eq_true] at h0
    have h1 := rng_yes.1 h0.1
    have h2 := rng_yes.1 h0.2
    obtain ⟨R', rfl⟩ := Int.eq_ofNat_of_zero_le (show 0 ≤ R by omega)
    obtain ⟨C', rfl⟩ := Int.eq_ofNat_of_zero_le (show 0 ≤ C by omega)
    have e := patchB_dev ⟨R', C', f, nn, l, p, q, m, t⟩ R' C' rfl rfl h
    simp only at e
    rw [← hb, e]
    exact may_fat R' C' p q m f t nn l Au A cu c w hu hx hs hT ht hn (by omega) (by omega) (by omega) (by omega)
theorem may_any (pt : Pt) (u x : Value) (w : World) (hu : Sl w u pt.at_) (hx : Rm w x pt.cells) (hs : Held pt.cells) (hT : Tabs w) (ht : pt.title.length ≤ 1000000000) (hn : pt.at_.length ≤ 1000000) :
    Calls Tryd.prog 17 #[pagg pt u x] w fun e w' => e = .returned (.int .i64 (codeB (patchB pt))) ∧ Below w.heap.size w w' := by
  obtain ⟨Au, cu, rfl, _⟩ := id hu.room
  obtain ⟨A, c, rfl, _⟩ := id hx.2
  exact may_t pt.rows pt.cols pt.row pt.col pt.modes pt.all pt.title pt.at_ pt.cells Au A cu c _ w rfl hu hx hs hT ht hn
theorem view_whole (v : Vw) : patchB (whole v) = viewB v := by
  rw [Bool.eq_iff_iff]
  constructor
  · intro h
    obtain ⟨hh, R, C, l, rs, k⟩ := (patchB_iff _).1 h
    have hl : rs.length = R := k.len
    refine (viewB_iff v).2 ⟨hh, R, C, rs, ?_, ⟨k.r1, k.r40, k.c1, k.c40, hl, k.even, fun i hi => k.ok _ (rowOf_mem (by rw [hl]; exact hi))⟩⟩
    have e1 : v.g.rows = (R : Int) := k.rows
    have e2 : v.g.cols = (C : Int) := k.cols
    have e3 : v.g.cells = rs.flatten := k.cells
    rw [← e1, ← e2, ← e3]
  · exact whole_ok
theorem may_whole (R C p q m : Int) (t : List UInt8) (l : List Cl) (A : Option Addr) (c : Nat) (b : Bool) (w : World) (hb : viewB ⟨⟨R, C, l⟩, p, q, m, t⟩ = b) (hx : Rm w (.slice A l.length c) l) (hs : Held l) (hT : Tabs w) (ht : t.length ≤ 1000000000) :
    Calls Tryd.prog 17 #[.agg #[.int .i64 R, .int .i64 C, .bool true, .slice none 0 0, .slice A l.length c, .int .i64 p, .int .i64 q, .int .i64 m, .string ⟨t.toArray⟩]] w fun e w' => e = .returned (.int .i64 (codeB b)) ∧ Below w.heap.size w w' :=
  may_t R C p q m true t [] l none A 0 c b w (by rw [← hb]; exact view_whole ⟨⟨R, C, l⟩, p, q, m, t⟩) (Sl.nil w) hx hs hT ht (by simp)
end Pat
end
end Go.Proofs.YtjcfbeiljdohcaaDoor
