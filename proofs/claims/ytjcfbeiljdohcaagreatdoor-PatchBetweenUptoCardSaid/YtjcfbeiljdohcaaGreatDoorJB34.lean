/- Joined texts: PdDo. -/
import Derived.Test.YtjcfbeiljdohcaaGreatDoorJB33
import Derived.Deep.RegionHeld3
namespace Go.Proofs.YtjcfbeiljdohcaaGreatDoor
set_option maxRecDepth 100000
section
open Go.RowKit
namespace Pat
open Go.Proofs.YtjcfbeiljdohcaaGreatDoor.Row Go.Proofs.YtjcfbeiljdohcaaGreatDoor.Scr Agb
theorem yields_loadA {t : TypeId} {n : Nat} (ht : Agg t n) {ops : Array Oper} {T : World → Prop} {o : Oper} {a : Act} {x : Operand} {b : Nat} {A : Array Value} {t' : TypeId} (hgd : Region.wanted o (yielded ops a.tmps) = true) (ho : o.op = .load t x) (hx : a.eval x = .pointer (some ⟨b, 0, none⟩))
    (h : ∀ w, T w → w.heap[b]? = some (.cells A t' (0, 0))) (hA : A.size = n) : YieldsIf Tryz.prog ops T o (.agg A) a := by
  obtain ⟨d, hu⟩ := ht.und
  refine Or.inl ⟨hgd, fun w hT => ?_⟩
  unfold execOp
  simp only [ho, hx, Instr.loadAt, Instr.sureAddr, Sem.run_bind, Sem.run_pure, Result.andThen_ok, run_loadVar_row w b t' t A (0, 0) (.struct d) (h w hT) hu rfl (by rw [hA]; exact ht.size)]
set_option maxHeartbeats 3200000 in
theorem may_thin (R C p q m : Int) (f : Bool) (t : List UInt8) (u : Value) (A : Option Addr) (n c : Nat) (w : World) (h : (Row.rng R 1 40 && Row.rng C 1 40) = false) :
    Calls Tryz.prog 19 #[.agg #[.int .i64 R, .int .i64 C, .bool f, u, .slice A n c, .int .i64 p, .int .i64 q, .int .i64 m, .string ⟨t.toArray⟩]] w fun e w' => e = .returned (.int .i64 1) ∧ Below w.heap.size w w' := by
  have HB := Lib.hid ((Below.refl w.heap.size w).alloc (Nat.le_refl _) (.cells #[.int .i64 R, .int .i64 C, .bool f, u, .slice A n c, .int .i64 p, .int .i64 q, .int .i64 m, .string ⟨t.toArray⟩] 36 (0, 0)))
  have HX : Hid ((w.alloc (.cells #[.int .i64 R, .int .i64 C, .bool f, u, .slice A n c, .int .i64 p, .int .i64 q, .int .i64 m, .string ⟨t.toArray⟩] 36 (0, 0))).heap[w.heap.size]? = some (.cells #[.int .i64 R, .int .i64 C, .bool f, u, .slice A n c, .int .i64 p, .int .i64 q, .int .i64 m, .string ⟨t.toArray⟩] 36 (0, 0))) := Lib.hid (new_alloc _ _ _ rfl)
  have HS := Lib.hid (fun W => sized_t R C p q m f ⟨t.toArray⟩ u (.slice A n c) W)
  rw [h] at HS
  clear h
  go_enter Tryz.func19, Tryz.ntmps19
  go_wp2_with (refine wp_loadP rfl rfl rfl HX.out ?_)
  refine (HS.out _).mono ?_; rintro e w1 ⟨rfl, hb⟩
  have HB1 := Lib.hid (HB.out.trans (hb.mono HB.out.size))
  clear hb
  go_wp2_with fail
  go_ret
  exact ⟨rfl, HB1.out⟩
set_option maxHeartbeats 6400000 in
theorem may_fat (R C : Nat) (p q m : Int) (f : Bool) (t : List UInt8) (nn : List Int) (l : List Cl) (Au A : Option Addr) (cu c : Nat) (w : World) (hu : Sl w (.slice Au nn.length cu) nn) (hx : Rm w (.slice A l.length c) l) (hs : Held l) (hT : Tabs w) (ht : t.length ≤ 1000000000) (hn : nn.length ≤ 1000000) (hR1 : 1 ≤ R) (hR : R ≤ 40) (hC1 : 1 ≤ C) (hC : C ≤ 40) :
    Calls Tryz.prog 19 #[.agg #[.int .i64 R, .int .i64 C, .bool f, .slice Au nn.length cu, .slice A l.length c, .int .i64 p, .int .i64 q, .int .i64 m, .string ⟨t.toArray⟩]] w fun e w' => e = .returned (.int .i64 (codeB ((Row.rng p 0 ((R : Int) - 1) && (Row.rng q 0 ((C : Int) - 1) && (Row.rng m 0 1023 && titleB t))) && fitB R C f nn l))) ∧ Below w.heap.size w w' := by
  have hb0 := (Below.refl w.heap.size w).alloc (Nat.le_refl _) (.cells #[.int .i64 R, .int .i64 C, .bool f, .slice Au nn.length cu, .slice A l.length c, .int .i64 p, .int .i64 q, .int .i64 m, .string ⟨t.toArray⟩] 36 (0, 0))
  have HB := Lib.hid hb0
  have HX : Hid ((w.alloc (.cells #[.int .i64 R, .int .i64 C, .bool f, .slice Au nn.length cu, .slice A l.length c, .int .i64 p, .int .i64 q, .int .i64 m, .string ⟨t.toArray⟩] 36 (0, 0))).heap[w.heap.size]? = some (.cells #[.int .i64 R, .int .i64 C, .bool f, .slice Au nn.length cu, .slice A l.length c, .int .i64 p, .int .i64 q, .int .i64 m, .string ⟨t.toArray⟩] 36 (0, 0))) := Lib.hid (new_alloc _ _ _ rfl)
  have hsz : (Row.rng (R : Int) 1 40 && Row.rng (C : Int) 1 40) = true := by rw [Bool.and_eq_true]; exact ⟨rng_yes.2 (by omega), rng_yes.2 (by omega)⟩
  have HS := Lib.hid (fun W => sized_t R C p q m f ⟨t.toArray⟩ (.slice Au nn.length cu) (.slice A l.length c) W)
  rw [hsz] at HS
  have HSH := Lib.hid (fun W (hw : Below w.heap.size w W) => shown_t R C p q m f t (.slice Au nn.length cu) A l.length c W (hT.kept hw) ht hR1 hR hC1 hC)
  have HRF := Lib.hid (fun W (hw : Below w.heap.size w W) => rowsFit_any R C p q m f t nn l Au A cu c W (hu.kept hw) (hx.kept hw) hs hR hn)
  generalize (Row.rng p 0 ((R : Int) - 1) && (Row.rng q 0 ((C : Int) - 1) && (Row.rng m 0 1023 && titleB t))) = a1 at HSH ⊢
  generalize fitB R C f nn l = a2 at HRF ⊢
  clear hb0 hsz hu hx hs hT ht
  go_enter Tryz.func19, Tryz.ntmps19
  go_wp2_with (refine wp_loadP rfl rfl rfl HX.out ?_)
  refine (HS.out _).mono ?_; rintro e w1 ⟨rfl, hb⟩
  have HB1 := Lib.hid (HB.out.trans (hb.mono HB.out.size))
  have HX1 := Lib.hid (Blk.kept HX.out hb)
  clear hb HB HX
  go_wp2_with (refine wp_loadP rfl rfl rfl HX1.out ?_)
  refine (HSH.out _ HB1.out).mono ?_; rintro e w2 ⟨rfl, hb⟩
  have HB2 := Lib.hid (HB1.out.trans (hb.mono HB1.out.size))
  have HX2 := Lib.hid (Blk.kept HX1.out hb)
  clear hb HB1 HX1
  cases a1 with
  | false =>
    go_wp2_with fail
    go_ret
    exact ⟨rfl, HB2.out⟩
  | true =>
    go_wp2_with (refine wp_loadP rfl rfl rfl HX2.out ?_)
    refine (HRF.out _ HB2.out).mono ?_; rintro e w3 ⟨rfl, hb⟩
    have HB3 := Lib.hid (HB2.out.trans (hb.mono HB2.out.size))
    clear hb
    cases a2
    all_goals
      go_wp2_with fail
      go_ret
      exact ⟨rfl, HB3.out⟩
theorem may_t (R C p q m : Int) (f : Bool) (t : List UInt8) (nn : List Int) (l : List Cl) (Au A : Option Addr) (cu c : Nat) (b : Bool) (w : World) (hb : patchB ⟨R, C, f, nn, l, p, q, m, t⟩ = b) (hu : Sl w (.slice Au nn.length cu) nn) (hx : Rm w (.slice A l.length c) l) (hs : Held l) (hT : Tabs w) (ht : t.length ≤ 1000000000) (hn : nn.length ≤ 1000000) :
    Calls Tryz.prog 19 #[.agg #[.int .i64 R, .int .i64 C, .bool f, .slice Au nn.length cu, .slice A l.length c, .int .i64 p, .int .i64 q, .int .i64 m, .string ⟨t.toArray⟩]] w fun e w' => e = .returned (.int .i64 (codeB b)) ∧ Below w.heap.size w w' := by
  cases h : (Row.rng R 1 40 && Row.rng C 1 40) with
  | false =>
    have e : b = false := by rw [← hb]; unfold patchB; rw [h]; rfl
    subst e
    exact may_thin R C p q m f t (.slice Au nn.length cu) A l.length c w h
  | true =>
    have h0 := h
    rw [Bool.and_eq_true] at h0
    have h1 := rng_yes.1 h0.1
    have h2 := rng_yes.1 h0.2
    obtain ⟨R', rfl⟩ := Int.eq_ofNat_of_zero_le (show 0 ≤ R by omega)
    obtain ⟨C', rfl⟩ := Int.eq_ofNat_of_zero_le (show 0 ≤ C by omega)
    have e := patchB_dev ⟨R', C', f, nn, l, p, q, m, t⟩ R' C' rfl rfl h
    simp only at e
    rw [← hb, e]
    exact may_fat R' C' p q m f t nn l Au A cu c w hu hx hs hT ht hn (by omega) (by omega) (by omega) (by omega)
theorem may_any (pt : Pt) (u x : Value) (w : World) (hu : Sl w u pt.at_) (hx : Rm w x pt.cells) (hs : Held pt.cells) (hT : Tabs w) (ht : pt.title.length ≤ 1000000000) (hn : pt.at_.length ≤ 1000000) :
    Calls Tryz.prog 19 #[pagg pt u x] w fun e w' => e = .returned (.int .i64 (codeB (patchB pt))) ∧ Below w.heap.size w w' := by
  obtain ⟨Au, cu, rfl, _⟩ := id hu.room
  obtain ⟨A, c, rfl, _⟩ := id hx.2
  exact may_t pt.rows pt.cols pt.row pt.col pt.modes pt.all pt.title pt.at_ pt.cells Au A cu c _ w rfl hu hx hs hT ht hn
theorem view_whole (v : Vw) : patchB (whole v) = viewB v := by
  rw [Bool.eq_iff_iff]
  constructor
  · intro h
    obtain ⟨hh, R, C, l, rs, k⟩ := (patchB_iff _).1 h
    have hl : rs.length = R := k.len
    refine (viewB_iff v).2 ⟨hh, R, C, rs, ?_, ⟨k.r1, k.r40, k.c1, k.c40, hl, k.even, fun i hi => k.ok _ (rowOf_mem (by rw [hl]; exact hi))⟩⟩
    have e1 : v.g.rows = (R : Int) := k.rows
    have e2 : v.g.cols = (C : Int) := k.cols
    have e3 : v.g.cells = rs.flatten := k.cells
    rw [← e1, ← e2, ← e3]
  · exact whole_ok
theorem may_whole (R C p q m : Int) (t : List UInt8) (l : List Cl) (A : Option Addr) (c : Nat) (b : Bool) (w : World) (hb : viewB ⟨⟨R, C, l⟩, p, q, m, t⟩ = b) (hx : Rm w (.slice A l.length c) l) (hs : Held l) (hT : Tabs w) (ht : t.length ≤ 1000000000) :
    Calls Tryz.prog 19 #[.agg #[.int .i64 R, .int .i64 C, .bool true, .slice none 0 0, .slice A l.length c, .int .i64 p, .int .i64 q, .int .i64 m, .string ⟨t.toArray⟩]] w fun e w' => e = .returned (.int .i64 (codeB b)) ∧ Below w.heap.size w w' :=
  may_t R C p q m true t [] l none A 0 c b w (by rw [← hb]; exact view_whole ⟨⟨R, C, l⟩, p, q, m, t⟩) (Sl.nil w) hx hs hT ht (by simp)
set_option maxHeartbeats 1600000 in
theorem check_t (R C p q m : Int) (t : List UInt8) (l : List Cl) (A : Option Addr) (c : Nat) (b : Bool) (w : World) (hb : viewB ⟨⟨R, C, l⟩, p, q, m, t⟩ = b) (hx : Rm w (.slice A l.length c) l) (hs : Held l) (hT : Tabs w) (ht : t.length ≤ 1000000000) :
    Calls Tryz.prog 11 #[.agg #[.int .i64 R, .int .i64 C, .slice A l.length c, .int .i64 p, .int .i64 q, .int .i64 m, .string ⟨t.toArray⟩]] w fun e w' => e = .returned (.int .i64 (codeB b)) ∧ Below w.heap.size w w' := by
  have HB := Lib.hid ((Below.refl w.heap.size w).alloc (Nat.le_refl _) (.cells #[.int .i64 R, .int .i64 C, .slice A l.length c, .int .i64 p, .int .i64 q, .int .i64 m, .string ⟨t.toArray⟩] 31 (0, 0)))
  have HX : Hid ((w.alloc (.cells #[.int .i64 R, .int .i64 C, .slice A l.length c, .int .i64 p, .int .i64 q, .int .i64 m, .string ⟨t.toArray⟩] 31 (0, 0))).heap[w.heap.size]? = some (.cells #[.int .i64 R, .int .i64 C, .slice A l.length c, .int .i64 p, .int .i64 q, .int .i64 m, .string ⟨t.toArray⟩] 31 (0, 0))) := Lib.hid (new_alloc _ _ _ rfl)
  have HA := Lib.hid (fun W => all_t R C p q m ⟨t.toArray⟩ A l.length c W)
  have HM := Lib.hid (fun W (hw : Below w.heap.size w W) => may_whole R C p q m t l A c b W hb (hx.kept hw) hs (hT.kept hw) ht)
  clear hb hx hs hT ht
  go_enter Tryz.func11, Tryz.ntmps11
  go_wp2_with (refine wp_loadV rfl rfl rfl HX.out ?_)
  refine (HA.out _).mono ?_; rintro e w1 ⟨rfl, hb⟩
  have HB1 := Lib.hid (HB.out.trans (hb.mono HB.out.size))
  clear hb HB HX
  go_wp2_with fail
  refine (HM.out _ HB1.out).mono ?_; rintro e w2 ⟨rfl, hb⟩
  have HB2 := Lib.hid (HB1.out.trans (hb.mono HB1.out.size))
  clear hb
  go_wp2_with fail
  go_ret
  exact ⟨rfl, HB2.out⟩
theorem check_any (v : Vw) (x : Value) (w : World) (hx : Rm w x v.g.cells) (hs : Held v.g.cells) (hT : Tabs w) (ht : v.title.length ≤ 1000000000) :
    Calls Tryz.prog 11 #[vagg v x] w fun e w' => e = .returned (.int .i64 (codeB (viewB v))) ∧ Below w.heap.size w w' := by
  obtain ⟨A, c, rfl, _⟩ := id hx.2
  exact check_t v.g.rows v.g.cols v.row v.col v.modes v.title v.g.cells A c _ w rfl hx hs hT ht
set_option maxHeartbeats 6400000 in
theorem whole_t (R C p q m : Int) (t : List UInt8) (l : List Cl) (A : Option Addr) (c : Nat) (b : Bool) (w : World) (hb : viewB ⟨⟨R, C, l⟩, p, q, m, t⟩ = b) (hx : Rm w (.slice A l.length c) l) (hs : Held l) (hT : Tabs w) (ht : t.length ≤ 1000000000) :
    Calls Tryz.prog 8 #[.agg #[.int .i64 R, .int .i64 C, .slice A l.length c, .int .i64 p, .int .i64 q, .int .i64 m, .string ⟨t.toArray⟩]] w fun e w' => ∃ u v, e = .returned (.tuple #[pagg (if b = true then ⟨R, C, true, [], l, p, q, m, t⟩ else noP) u v, .int .i64 (codeB b)]) ∧ OwnN w' w.heap.size u [] ∧ OwnCs w' w.heap.size v (if b = true then l else []) ∧ Below w.heap.size w w' := by
  have hW0 : Below w.heap.size w ((w.alloc (.cells #[.int .i64 R, .int .i64 C, .slice A l.length c, .int .i64 p, .int .i64 q, .int .i64 m, .string ⟨t.toArray⟩] 31 (0, 0))).alloc (.cells #[.int .i64 0, .int .i64 0, .bool false, .slice none 0 0, .slice none 0 0, .int .i64 0, .int .i64 0, .int .i64 0, .string ⟨#[]⟩] 36 (0, 0))) := ((Below.refl w.heap.size w).alloc (Nat.le_refl _) _).alloc (by simp) _
  have HB0 := Lib.hid hW0
  have HV0 : Hid (((w.alloc (.cells #[.int .i64 R, .int .i64 C, .slice A l.length c, .int .i64 p, .int .i64 q, .int .i64 m, .string ⟨t.toArray⟩] 31 (0, 0))).alloc (.cells #[.int .i64 0, .int .i64 0, .bool false, .slice none 0 0, .slice none 0 0, .int .i64 0, .int .i64 0, .int .i64 0, .string ⟨#[]⟩] 36 (0, 0))).heap[w.heap.size]? = some (.cells #[.int .i64 R, .int .i64 C, .slice A l.length c, .int .i64 p, .int .i64 q, .int .i64 m, .string ⟨t.toArray⟩] 31 (0, 0))) := Lib.hid (old_alloc (new_alloc _ _ _ rfl) _)
  have HZ0 : Hid (((w.alloc (.cells #[.int .i64 R, .int .i64 C, .slice A l.length c, .int .i64 p, .int .i64 q, .int .i64 m, .string ⟨t.toArray⟩] 31 (0, 0))).alloc (.cells #[.int .i64 0, .int .i64 0, .bool false, .slice none 0 0, .slice none 0 0, .int .i64 0, .int .i64 0, .int .i64 0, .string ⟨#[]⟩] 36 (0, 0))).heap[w.heap.size + 1]? = some (.cells #[.int .i64 0, .int .i64 0, .bool false, .slice none 0 0, .slice none 0 0, .int .i64 0, .int .i64 0, .int .i64 0, .string ⟨#[]⟩] 36 (0, 0))) := Lib.hid (new_alloc _ _ _ (by simp))
  have HA := Lib.hid (fun W => all_t R C p q m ⟨t.toArray⟩ A l.length c W)
  have HM := Lib.hid (fun W (hw : Below w.heap.size w W) => may_whole R C p q m t l A c b W hb (hx.kept hw) hs (hT.kept hw) ht)
  have HPT : Hid (b = true → ∃ R' C' ll rs, PtR ⟨R, C, true, [], l, p, q, m, t⟩ R' C' ll rs) := Lib.hid fun e => by
    have h := whole_ok (v := ⟨⟨R, C, l⟩, p, q, m, t⟩) (hb.trans e)
    exact ((patchB_iff _).1 h).2
  have HX := Lib.hid hx
  clear hb hx hs hT ht hW0
  go_enter Tryz.func8, Tryz.ntmps8
  go_wp2_with (refine wp_loadV rfl rfl rfl HV0.out ?_)
  refine (HA.out _).mono ?_; rintro e w1 ⟨rfl, hb⟩
  have HB1 := Lib.hid (HB0.out.trans (hb.mono HB0.out.size))
  have HZ1 := Lib.hid (Blk.kept HZ0.out hb)
  have HBA : Hid (Below w.heap.size w (w1.alloc (.cells #[.int .i64 R, .int .i64 C, .bool true, .slice none 0 0, .slice A l.length c, .int .i64 p, .int .i64 q, .int .i64 m, .string ⟨t.toArray⟩] 36 (0, 0)))) := Lib.hid (HB1.out.alloc HB1.out.size _)
  have HPA : Hid ((w1.alloc (.cells #[.int .i64 R, .int .i64 C, .bool true, .slice none 0 0, .slice A l.length c, .int .i64 p, .int .i64 q, .int .i64 m, .string ⟨t.toArray⟩] 36 (0, 0))).heap[w1.heap.size]? = some (.cells #[.int .i64 R, .int .i64 C, .bool true, .slice none 0 0, .slice A l.length c, .int .i64 p, .int .i64 q, .int .i64 m, .string ⟨t.toArray⟩] 36 (0, 0))) := Lib.hid (new_alloc _ _ _ rfl)
  have HZA : Hid ((w1.alloc (.cells #[.int .i64 R, .int .i64 C, .bool true, .slice none 0 0, .slice A l.length c, .int .i64 p, .int .i64 q, .int .i64 m, .string ⟨t.toArray⟩] 36 (0, 0))).heap[w.heap.size + 1]? = some (.cells #[.int .i64 0, .int .i64 0, .bool false, .slice none 0 0, .slice none 0 0, .int .i64 0, .int .i64 0, .int .i64 0, .string ⟨#[]⟩] 36 (0, 0))) := Lib.hid (old_alloc HZ1.out _)
  have HLT : Hid (w.heap.size + 1 < w1.heap.size) := Lib.hid (Blk.lt HZ1.out)
  clear hb HB0 HV0 HZ0 HB1 HZ1
  go_upto_region 2 with (fail)
  generalize w1.alloc (.cells #[.int .i64 R, .int .i64 C, .bool true, .slice none 0 0, .slice A l.length c, .int .i64 p, .int .i64 q, .int .i64 m, .string ⟨t.toArray⟩] 36 (0, 0)) = w2 at HBA HPA HZA ⊢
  obtain ⟨b4, hb4⟩ : ∃ b, w1.heap.size = b := ⟨_, rfl⟩
  rw [hb4] at HPA HLT ⊢
  clear hb4
  go_wp2_with (refine wp_loadP rfl rfl rfl HPA.out ?_)
  refine (HM.out _ HBA.out).mono ?_; rintro e w3 ⟨rfl, hb⟩
  have HB3 := Lib.hid (HBA.out.trans (hb.mono HBA.out.size))
  have HP3 := Lib.hid (Blk.kept HPA.out hb)
  have HZ3 := Lib.hid (Blk.kept HZA.out hb)
  clear hb HBA HPA HZA
  cases b with
  | false =>
    simp only [codeB, Bool.false_eq_true, if_false]
    go_wp2_with (refine wp_storeP (T := fun w' => w'.heap[w.heap.size + 1]? = some (.cells #[.int .i64 0, .int .i64 0, .bool false, .slice none 0 0, .slice none 0 0, .int .i64 0, .int .i64 0, .int .i64 0, .string ⟨#[]⟩] 36 (0, 0)) ∧ Below w.heap.size w w') rfl rfl rfl rfl rfl HZ3.out (fun w' h => ⟨h.box, h.below _ _ (by omega) HB3.out⟩) ?_; intro wF HF)
    exact bodyPost_ret (v := .tuple #[.agg #[.int .i64 0, .int .i64 0, .bool false, .slice none 0 0, .slice none 0 0, .int .i64 0, .int .i64 0, .int .i64 0, .string ⟨#[]⟩], .int .i64 1]) (ret2A aggPatch Tryz.results8 rfl HF.out.1 rfl rfl) rfl ⟨nilS, nilS, rfl, OwnN.nil _ _, World.ownsRow_nil _ _ _ _, HF.out.2⟩
  | true =>
    obtain ⟨R', C', ll, rs, hpt⟩ := HPT.out rfl
    have HLN := Lib.hid (fun W (hw : Below w.heap.size w W) => lines_any hpt (.slice none 0 0) (.slice A l.length c) w W hw (Sl.nil w) HX.out)
    have HWT : Hid (∀ W L y, Pv W y L → L.length = R' → L.map bare = mkL R' (tellsB ⟨R, C, true, [], l, p, q, m, t⟩) (tells ⟨R, C, true, [], l, p, q, m, t⟩) → LisOk W C' L → Calls Tryz.prog 33 #[.agg #[.int .i64 R, .int .i64 C, .bool true, .slice none 0 0, .slice A l.length c, .int .i64 p, .int .i64 q, .int .i64 m, .string ⟨t.toArray⟩], y] W fun e w' => ∃ u v, e = .returned (.agg #[.int .i64 R, .int .i64 C, .bool true, u, v, .int .i64 p, .int .i64 q, .int .i64 m, .string ⟨t.toArray⟩]) ∧ OwnN w' W.heap.size u [] ∧ OwnCs w' W.heap.size v l ∧ Below W.heap.size W w') := Lib.hid fun W L y h1 h2 h3 h4 => by
      have k := with_any ⟨R, C, true, [], l, p, q, m, t⟩ (.slice none 0 0) (.slice A l.length c) L _ _ C' y W h1 h4 (by rw [h2]; exact h3) (by rw [h2]; exact hpt.r40) hpt.c40
      rw [h2, withP_own hpt] at k
      exact k
    clear HM HA HX HPT
    simp only [codeB, if_true] at HLN ⊢
    go_upto_region 5 with (fail)
    have HPd : Hid (w3.drew.heap[b4]? = some (.cells #[.int .i64 R, .int .i64 C, .bool true, .slice none 0 0, .slice A l.length c, .int .i64 p, .int .i64 q, .int .i64 m, .string ⟨t.toArray⟩] 36 (0, 0))) := Lib.hid HP3.out
    have HZd : Hid (w3.drew.heap[w.heap.size + 1]? = some (.cells #[.int .i64 0, .int .i64 0, .bool false, .slice none 0 0, .slice none 0 0, .int .i64 0, .int .i64 0, .int .i64 0, .string ⟨#[]⟩] 36 (0, 0))) := Lib.hid HZ3.out
    have HBd := Lib.hid HB3.out.drew
    refine wp_region_held_drew (S := fun w' => w'.heap[b4]? = some (.cells #[.int .i64 R, .int .i64 C, .bool true, .slice none 0 0, .slice A l.length c, .int .i64 p, .int .i64 q, .int .i64 m, .string ⟨t.toArray⟩] 36 (0, 0))) (by kernel_rfl) HPd.out (fun hHeld => ?_)
    generalize w3.drew = wd at HPd HZd HBd hHeld ⊢
    refine wpAnyH_take (i := 0) (v := .agg #[.int .i64 R, .int .i64 C, .bool true, .slice none 0 0, .slice A l.length c, .int .i64 p, .int .i64 q, .int .i64 m, .string ⟨t.toArray⟩]) rfl (by kernel_rfl) (by kernel_rfl) (by kernel_rfl) (fun _ _ _ h => h) (yields_loadA aggPatch rfl rfl rfl (fun w' hS => hS) rfl) (by assumption) ?_
    simp only [Act.put, List.getElem_toArray, List.getElem_cons_zero, List.setIfInBounds_toArray, List.set_cons_zero, List.set_cons_succ]
    refine wpAnyH_take (i := 1) (v := .agg #[.int .i64 R, .int .i64 C, .bool true, .slice none 0 0, .slice A l.length c, .int .i64 p, .int .i64 q, .int .i64 m, .string ⟨t.toArray⟩]) rfl (by kernel_rfl) (by kernel_rfl) (by kernel_rfl) (fun _ _ _ h => h) (yields_loadA aggPatch rfl rfl rfl (fun w' hS => hS) rfl) (by assumption) ?_
    simp only [Act.put, List.getElem_toArray, List.getElem_cons_zero, List.getElem_cons_succ, List.setIfInBounds_toArray, List.set_cons_zero, List.set_cons_succ]
    refine wpAnyH_ready (rs := [2]) (by kernel_rfl) (by simp) ?_
    refine AllReadyH.cons rfl (fun K hK => ?_) ?_
    · go_simp
      go_at_call 34
      refine (HLN.out _ HBd.out).mono ?_; rintro e w4 ⟨yv, L, rfl, hoL, hlL, hbL, hkL, hb⟩
      have HB4 := Lib.hid (HBd.out.trans (hb.mono HBd.out.size))
      have hP4 := Blk.kept HPd.out hb
      have HZ4 := Lib.hid (Blk.kept HZd.out hb)
      have HWC := Lib.hid (HWT.out w4 L yv hoL.sv hlL hbL (hkL.kept HB4.out))
      have HS4 : Hid (wd.heap.size ≤ w4.heap.size) := Lib.hid hb.size
      have HS3 : Hid (w.heap.size + 1 < wd.heap.size) := Lib.hid (Blk.lt HZd.out)
      clear hb hoL hlL hbL hkL
      refine hK.out _ _ hP4 (fun hHeld => ?_)
      clear hK K
      refine wpAnyH_ready (rs := [3]) (by kernel_rfl) (by simp) ?_
      refine AllReadyH.cons rfl (fun K hK => ?_) ?_
      · go_simp
        go_at_call 33
        refine HWC.out.mono ?_; rintro e w5 ⟨uu, vv, rfl, hu5, hv5, hb⟩
        have HB5 := Lib.hid (HB4.out.trans (hb.mono HB4.out.size))
        have hP5 := Blk.kept hP4 hb
        have HZ5 := Lib.hid (Blk.kept HZ4.out hb)
        have HU5 := Lib.hid hu5
        have HV5 := Lib.hid hv5
        obtain ⟨Bu, mu, ku, rfl⟩ : ∃ A n c, uu = .slice A n c := (by obtain ⟨A, c, e⟩ := own_shape hu5; exact ⟨A, _, c, e⟩)
        obtain ⟨Bv, mv, kv, rfl⟩ : ∃ A n c, vv = .slice A n c := (by obtain ⟨A, c, e⟩ := own_shape hv5; exact ⟨A, _, c, e⟩)
        clear hb hu5 hv5
        refine hK.out _ _ hP5 (fun hHeld => ?_)
        clear hK K
        refine wpAnyH_ready (rs := [4]) (by kernel_rfl) (by simp) ?_
        refine AllReadyH.cons rfl (fun K hK => ?_) ?_
        · refine step_storeA aggPatch (b := w.heap.size + 1) (A := #[.int .i64 R, .int .i64 C, .bool true, .slice Bu mu ku, .slice Bv mv kv, .int .i64 p, .int .i64 q, .int .i64 m, .string ⟨t.toArray⟩]) rfl rfl rfl rfl rfl rfl HZ5.out rfl fun wF HSt => ?_
          have HF : Hid (wF.heap[w.heap.size + 1]? = some (.cells #[.int .i64 R, .int .i64 C, .bool true, .slice Bu mu ku, .slice Bv mv kv, .int .i64 p, .int .i64 q, .int .i64 m, .string ⟨t.toArray⟩] 36 (0, 0))) := Lib.hid HSt.box
          have HBF : Hid (Below w.heap.size w wF) := Lib.hid (HSt.below _ _ (by omega) HB5.out)
          have HUF : Hid (OwnN wF w4.heap.size (.slice Bu mu ku) []) := Lib.hid (HSt.row HU5.out (by have := HS3.out; have := HS4.out; omega))
          have HVF : Hid (OwnCs wF w4.heap.size (.slice Bv mv kv) l) := Lib.hid (HSt.row HV5.out (by have := HS3.out; have := HS4.out; omega))
          have hPF : wF.heap[b4]? = some (.cells #[.int .i64 R, .int .i64 C, .bool true, .slice none 0 0, .slice A l.length c, .int .i64 p, .int .i64 q, .int .i64 m, .string ⟨t.toArray⟩] 36 (0, 0)) := (HSt.other b4 (by have := HLT.out; omega)).trans hP5
          clear HSt
          refine hK.out _ _ hPF (fun hHeld => ?_)
          clear hK K
          refine wpAnyH_take (i := 5) (v := ?_) rfl (by kernel_rfl) (by kernel_rfl) (by kernel_rfl) (fun _ _ _ h => h) (Or.inl ⟨by rfl, ?_⟩) (by assumption) ?_
          rotate_left
          · intro w' hSw; first | (go_simp; done) | (go_simp; with_reducible rfl)
          simp only [Act.put, List.getElem_toArray, List.getElem_cons_zero, List.getElem_cons_succ, List.setIfInBounds_toArray, List.set_cons_zero, List.set_cons_succ]
          refine wpAnyH_done (by kernel_rfl) ?_ _
          go_wp2_with fail
          refine bodyPost_ret (v := .tuple #[.agg #[.int .i64 R, .int .i64 C, .bool true, .slice Bu mu ku, .slice Bv mv kv, .int .i64 p, .int .i64 q, .int .i64 m, .string ⟨t.toArray⟩], .int .i64 0]) (ret2A aggPatch Tryz.results8 rfl HF.out rfl rfl) rfl ⟨_, _, rfl, HUF.out.low (by have := HS3.out; have := HS4.out; omega), HVF.out.low (by have := HS3.out; have := HS4.out; omega), HBF.out⟩
        exact AllReadyH.nil
      exact AllReadyH.nil
    exact AllReadyH.nil
theorem whole_any (v : Vw) (x : Value) (w : World) (hx : Rm w x v.g.cells) (hs : Held v.g.cells) (hT : Tabs w) (ht : v.title.length ≤ 1000000000) :
    Calls Tryz.prog 8 #[vagg v x] w fun e w' => ∃ u y, e = .returned (.tuple #[pagg (if viewB v = true then whole v else noP) u y, .int .i64 (codeB (viewB v))]) ∧ OwnN w' w.heap.size u [] ∧ OwnCs w' w.heap.size y (if viewB v = true then v.g.cells else []) ∧ Below w.heap.size w w' := by
  obtain ⟨A, c, rfl, _⟩ := id hx.2
  exact whole_t v.g.rows v.g.cols v.row v.col v.modes v.title v.g.cells A c _ w rfl hx hs hT ht
end Pat
end
end Go.Proofs.YtjcfbeiljdohcaaGreatDoor
