/- Joined texts: PdCom. -/
import Derived.Test.YtjcfbeiljdohcaaDoorJM31
namespace Go.Proofs.YtjcfbeiljdohcaaDoor
set_option maxRecDepth 100000
section
open Go.RowKit
namespace Pat
open Go.Proofs.YtjcfbeiljdohcaaDoor.Row Go.Proofs.YtjcfbeiljdohcaaDoor.Scr Agb
theorem over_bare {Lu L : List Li} {R R' : Nat} {P Q : Nat → Bool} {f h : Nat → List Cl} (hl : L.length = R') (h1 : Lu.map bare = mkL R P f) (h2 : L.map bare = mkL R' Q h) (hlt : ∀ i, i < R' → Q i = false → i < R) :
    (setK (overF Lu L) L L.length).map bare = mkL R' (fun i => Q i || P i) (fun i => if Q i = true then h i else f i) := by
  have hlu : Lu.length = R := by have := congrArg List.length h1; rwa [List.length_map, mkL_length] at this
  refine bare_is (by rw [setK_length, hl]) fun k hk => ?_
  rw [setK_get _ _ _ (by omega), if_pos (by omega)]
  have e2 := bare_get h2 (k := k) (by omega)
  show bare ((L.getD k default).or (Lu.getD k default)) = _
  cases hq : Q k with
  | true =>
    rw [hq] at e2
    generalize L.getD k default = x at e2
    cases x with
    | none => cases e2
    | some z => simpa using e2
  | false =>
    have e1 := bare_get h1 (k := k) (by have := hlt k hk hq; omega)
    rw [hq] at e2
    generalize L.getD k default = x at e2
    cases x with
    | some z => cases e2
    | none =>
      show bare (Lu.getD k default) = _
      rw [e1]; simp
theorem over_ok {w : World} {c c2 : Nat} {Lu L : List Li} (h1 : LisOk w c Lu) (h2 : LisOk w c2 L) (hlt : ∀ i, i < L.length → L.getD i default = none → i < Lu.length ∧ c = c2) : LisOk w c2 (setK (overF Lu L) L L.length) := by
  refine lisOk_of fun j hj => ?_
  rw [setK_length] at hj
  rw [setK_get _ _ _ hj, if_pos hj]
  show LiOk w c2 ((L.getD j default).or (Lu.getD j default))
  have g := h2.get hj
  have hl := hlt j hj
  generalize L.getD j default = x at g hl
  cases x with
  | some z => exact g
  | none =>
    obtain ⟨q1, q2⟩ := hl rfl
    subst q2
    exact h1.get q1
def codeC (ok goes : Bool) : Int := if ok then (if goes then 0 else 7) else 1
set_option maxHeartbeats 12800000 in
theorem compose_true (R1 C1 p1 q1 m1 R2 C2 p2 q2 m2 : Int) (f1 : Bool) (t1 t2 : List UInt8) (n1 n2 : List Int) (l1 l2 : List Cl) (U1 A1 U2 A2 : Option Addr) (k1 c1 k2 c2 : Nat) (ba bb : Bool) (w : World) (hba : patchB (⟨R1, C1, f1, n1, l1, p1, q1, m1, t1⟩ : Pt) = ba) (hbb : patchB (⟨R2, C2, true, n2, l2, p2, q2, m2, t2⟩ : Pt) = bb) (hu1 : Sl w (.slice U1 n1.length k1) n1) (hx1 : Rm w (.slice A1 l1.length c1) l1) (hu2 : Sl w (.slice U2 n2.length k2) n2) (hx2 : Rm w (.slice A2 l2.length c2) l2) (hs1 : Held l1) (hs2 : Held l2) (hT : Tabs w) (ht1 : t1.length ≤ 1000000000) (ht2 : t2.length ≤ 1000000000) (hn1 : n1.length ≤ 1000000) (hn2 : n2.length ≤ 1000000)
    (ct : Pt) (hbad : (ba && bb) = false → ct = noP) (hno : (ba && bb) = true → goesB (⟨R1, C1, f1, n1, l1, p1, q1, m1, t1⟩ : Pt) (⟨R2, C2, true, n2, l2, p2, q2, m2, t2⟩ : Pt) = false → ct = noP) (hyes : (ba && bb) = true → goesB (⟨R1, C1, f1, n1, l1, p1, q1, m1, t1⟩ : Pt) (⟨R2, C2, true, n2, l2, p2, q2, m2, t2⟩ : Pt) = true → ct = compose (⟨R1, C1, f1, n1, l1, p1, q1, m1, t1⟩ : Pt) (⟨R2, C2, true, n2, l2, p2, q2, m2, t2⟩ : Pt)) :
    Calls Tryd.prog 10 #[.agg #[.int .i64 R1, .int .i64 C1, .bool f1, .slice U1 n1.length k1, .slice A1 l1.length c1, .int .i64 p1, .int .i64 q1, .int .i64 m1, .string ⟨t1.toArray⟩], .agg #[.int .i64 R2, .int .i64 C2, .bool true, .slice U2 n2.length k2, .slice A2 l2.length c2, .int .i64 p2, .int .i64 q2, .int .i64 m2, .string ⟨t2.toArray⟩]] w fun e w' => ∃ u v, e = .returned (.tuple #[pagg ct u v, .int .i64 (codeC (ba && bb) (goesB (⟨R1, C1, f1, n1, l1, p1, q1, m1, t1⟩ : Pt) (⟨R2, C2, true, n2, l2, p2, q2, m2, t2⟩ : Pt)))]) ∧ OwnN w' w.heap.size u ct.at_ ∧ OwnCs w' w.heap.size v ct.cells ∧ Below w.heap.size w w' := by
  have HM1 := Lib.hid (fun W (hw : Below w.heap.size w W) => may_t R1 C1 p1 q1 m1 f1 t1 n1 l1 U1 A1 k1 c1 ba W hba (hu1.kept hw) (hx1.kept hw) hs1 (hT.kept hw) ht1 hn1)
  have HM2 := Lib.hid (fun W (hw : Below w.heap.size w W) => may_t R2 C2 p2 q2 m2 true t2 n2 l2 U2 A2 k2 c2 bb W hbb (hu2.kept hw) (hx2.kept hw) hs2 (hT.kept hw) ht2 hn2)
  have HU1 := Lib.hid hu1
  have HX1 := Lib.hid hx1
  have HU2 := Lib.hid hu2
  have HX2 := Lib.hid hx2
  have HPB1 := Lib.hid hba
  have HPB2 := Lib.hid hbb
  have HBAD := Lib.hid hbad
  have HNO := Lib.hid hno
  have HYES := Lib.hid hyes
  have HT : Hid ((((w.alloc (.cells #[.int .i64 R1, .int .i64 C1, .bool f1, .slice U1 n1.length k1, .slice A1 l1.length c1, .int .i64 p1, .int .i64 q1, .int .i64 m1, .string ⟨t1.toArray⟩] 35 (0, 0))).alloc (.cells #[.int .i64 R2, .int .i64 C2, .bool true, .slice U2 n2.length k2, .slice A2 l2.length c2, .int .i64 p2, .int .i64 q2, .int .i64 m2, .string ⟨t2.toArray⟩] 35 (0, 0))).alloc (.cells #[.int .i64 0, .int .i64 0, .bool false, .slice none 0 0, .slice none 0 0, .int .i64 0, .int .i64 0, .int .i64 0, .string ⟨#[]⟩] 35 (0, 0))).heap[w.heap.size]? = some (.cells #[.int .i64 R1, .int .i64 C1, .bool f1, .slice U1 n1.length k1, .slice A1 l1.length c1, .int .i64 p1, .int .i64 q1, .int .i64 m1, .string ⟨t1.toArray⟩] 35 (0, 0)) ∧ (((w.alloc (.cells #[.int .i64 R1, .int .i64 C1, .bool f1, .slice U1 n1.length k1, .slice A1 l1.length c1, .int .i64 p1, .int .i64 q1, .int .i64 m1, .string ⟨t1.toArray⟩] 35 (0, 0))).alloc (.cells #[.int .i64 R2, .int .i64 C2, .bool true, .slice U2 n2.length k2, .slice A2 l2.length c2, .int .i64 p2, .int .i64 q2, .int .i64 m2, .string ⟨t2.toArray⟩] 35 (0, 0))).alloc (.cells #[.int .i64 0, .int .i64 0, .bool false, .slice none 0 0, .slice none 0 0, .int .i64 0, .int .i64 0, .int .i64 0, .string ⟨#[]⟩] 35 (0, 0))).heap[w.heap.size + 1]? = some (.cells #[.int .i64 R2, .int .i64 C2, .bool true, .slice U2 n2.length k2, .slice A2 l2.length c2, .int .i64 p2, .int .i64 q2, .int .i64 m2, .string ⟨t2.toArray⟩] 35 (0, 0)) ∧ (((w.alloc (.cells #[.int .i64 R1, .int .i64 C1, .bool f1, .slice U1 n1.length k1, .slice A1 l1.length c1, .int .i64 p1, .int .i64 q1, .int .i64 m1, .string ⟨t1.toArray⟩] 35 (0, 0))).alloc (.cells #[.int .i64 R2, .int .i64 C2, .bool true, .slice U2 n2.length k2, .slice A2 l2.length c2, .int .i64 p2, .int .i64 q2, .int .i64 m2, .string ⟨t2.toArray⟩] 35 (0, 0))).alloc (.cells #[.int .i64 0, .int .i64 0, .bool false, .slice none 0 0, .slice none 0 0, .int .i64 0, .int .i64 0, .int .i64 0, .string ⟨#[]⟩] 35 (0, 0))).heap[w.heap.size + 1 + 1]? = some (.cells #[.int .i64 0, .int .i64 0, .bool false, .slice none 0 0, .slice none 0 0, .int .i64 0, .int .i64 0, .int .i64 0, .string ⟨#[]⟩] 35 (0, 0)) ∧ Below w.heap.size w (((w.alloc (.cells #[.int .i64 R1, .int .i64 C1, .bool f1, .slice U1 n1.length k1, .slice A1 l1.length c1, .int .i64 p1, .int .i64 q1, .int .i64 m1, .string ⟨t1.toArray⟩] 35 (0, 0))).alloc (.cells #[.int .i64 R2, .int .i64 C2, .bool true, .slice U2 n2.length k2, .slice A2 l2.length c2, .int .i64 p2, .int .i64 q2, .int .i64 m2, .string ⟨t2.toArray⟩] 35 (0, 0))).alloc (.cells #[.int .i64 0, .int .i64 0, .bool false, .slice none 0 0, .slice none 0 0, .int .i64 0, .int .i64 0, .int .i64 0, .string ⟨#[]⟩] 35 (0, 0)))) := Lib.hid ⟨old_alloc (old_alloc (new_alloc _ _ _ rfl) _) _, old_alloc (new_alloc _ _ _ (by simp)) _, new_alloc _ _ _ (by simp), (((Below.refl w.heap.size w).alloc (Nat.le_refl _) _).alloc (by simp) _).alloc (by simp; omega) _⟩
  clear hu1 hx1 hu2 hx2 hs1 hs2 hT ht1 ht2 hn1 hn2 hba hbb hbad hno hyes
  go_enter Tryd.func10, Tryd.ntmps10
  go_wp2_with (refine wp_loadP rfl rfl rfl HT.out.1 ?_)
  refine (HM1.out _ HT.out.2.2.2).mono ?_; rintro e w3 ⟨rfl, hb⟩
  have HT : Hid (w3.heap[w.heap.size]? = some (.cells #[.int .i64 R1, .int .i64 C1, .bool f1, .slice U1 n1.length k1, .slice A1 l1.length c1, .int .i64 p1, .int .i64 q1, .int .i64 m1, .string ⟨t1.toArray⟩] 35 (0, 0)) ∧ w3.heap[w.heap.size + 1]? = some (.cells #[.int .i64 R2, .int .i64 C2, .bool true, .slice U2 n2.length k2, .slice A2 l2.length c2, .int .i64 p2, .int .i64 q2, .int .i64 m2, .string ⟨t2.toArray⟩] 35 (0, 0)) ∧ w3.heap[w.heap.size + 1 + 1]? = some (.cells #[.int .i64 0, .int .i64 0, .bool false, .slice none 0 0, .slice none 0 0, .int .i64 0, .int .i64 0, .int .i64 0, .string ⟨#[]⟩] 35 (0, 0)) ∧ Below w.heap.size w w3) := Lib.hid ⟨Blk.kept HT.out.1 hb, Blk.kept HT.out.2.1 hb, Blk.kept HT.out.2.2.1 hb, HT.out.2.2.2.trans (hb.mono HT.out.2.2.2.size)⟩
  clear hb
  cases ba with
  | false =>
    obtain rfl := HBAD.out rfl
    simp only [codeB, Bool.false_eq_true, if_false]
    go_wp2_with (refine wp_storeP (T := fun w' => w'.heap[w.heap.size + 1 + 1]? = some (.cells #[.int .i64 0, .int .i64 0, .bool false, .slice none 0 0, .slice none 0 0, .int .i64 0, .int .i64 0, .int .i64 0, .string ⟨#[]⟩] 35 (0, 0)) ∧ Below w.heap.size w w') rfl rfl rfl rfl rfl HT.out.2.2.1 (fun w' h => ⟨h.box, h.below _ _ (by omega) HT.out.2.2.2⟩) ?_; intro wF HF)
    exact bodyPost_ret (v := .tuple #[.agg #[.int .i64 0, .int .i64 0, .bool false, .slice none 0 0, .slice none 0 0, .int .i64 0, .int .i64 0, .int .i64 0, .string ⟨#[]⟩], .int .i64 1]) (ret2A aggPatch Tryd.results10 rfl HF.out.1 rfl rfl) rfl ⟨nilS, nilS, rfl, OwnN.nil _ _, World.ownsRow_nil _ _ _ _, HF.out.2⟩
  | true =>
    go_wp2_with (refine wp_loadP rfl rfl rfl HT.out.2.1 ?_)
    refine (HM2.out _ HT.out.2.2.2).mono ?_; rintro e w4 ⟨rfl, hb⟩
    have HT : Hid (w4.heap[w.heap.size]? = some (.cells #[.int .i64 R1, .int .i64 C1, .bool f1, .slice U1 n1.length k1, .slice A1 l1.length c1, .int .i64 p1, .int .i64 q1, .int .i64 m1, .string ⟨t1.toArray⟩] 35 (0, 0)) ∧ w4.heap[w.heap.size + 1]? = some (.cells #[.int .i64 R2, .int .i64 C2, .bool true, .slice U2 n2.length k2, .slice A2 l2.length c2, .int .i64 p2, .int .i64 q2, .int .i64 m2, .string ⟨t2.toArray⟩] 35 (0, 0)) ∧ w4.heap[w.heap.size + 1 + 1]? = some (.cells #[.int .i64 0, .int .i64 0, .bool false, .slice none 0 0, .slice none 0 0, .int .i64 0, .int .i64 0, .int .i64 0, .string ⟨#[]⟩] 35 (0, 0)) ∧ Below w.heap.size w w4) := Lib.hid ⟨Blk.kept HT.out.1 hb, Blk.kept HT.out.2.1 hb, Blk.kept HT.out.2.2.1 hb, HT.out.2.2.2.trans (hb.mono HT.out.2.2.2.size)⟩
    clear hb
    cases bb with
    | false =>
      obtain rfl := HBAD.out rfl
      simp only [codeB, Bool.false_eq_true, if_false]
      go_wp2_with (refine wp_storeP (T := fun w' => w'.heap[w.heap.size + 1 + 1]? = some (.cells #[.int .i64 0, .int .i64 0, .bool false, .slice none 0 0, .slice none 0 0, .int .i64 0, .int .i64 0, .int .i64 0, .string ⟨#[]⟩] 35 (0, 0)) ∧ Below w.heap.size w w') rfl rfl rfl rfl rfl HT.out.2.2.1 (fun w' h => ⟨h.box, h.below _ _ (by omega) HT.out.2.2.2⟩) ?_; intro wF HF)
      exact bodyPost_ret (v := .tuple #[.agg #[.int .i64 0, .int .i64 0, .bool false, .slice none 0 0, .slice none 0 0, .int .i64 0, .int .i64 0, .int .i64 0, .string ⟨#[]⟩], .int .i64 1]) (ret2A aggPatch Tryd.results10 rfl HF.out.1 rfl rfl) rfl ⟨nilS, nilS, rfl, OwnN.nil _ _, World.ownsRow_nil _ _ _ _, HF.out.2⟩
    | true =>
      simp only [codeB, if_true]
      have HCT := Lib.hid (HYES.out rfl (by rfl))
      have HGO : Hid (goesB (⟨R1, C1, f1, n1, l1, p1, q1, m1, t1⟩ : Pt) (⟨R2, C2, true, n2, l2, p2, q2, m2, t2⟩ : Pt) = true) := Lib.hid (by rfl)
      obtain ⟨R, C, ll, rs, hpa⟩ := ((patchB_iff _).1 HPB1.out).2
      obtain ⟨R', C', ll2, ss, hpb⟩ := ((patchB_iff _).1 HPB2.out).2
      have HPA := Lib.hid hpa
      have HPB := Lib.hid hpb
      have HRR : Hid (1 ≤ R' ∧ R' ≤ 40 ∧ C' ≤ 40) := Lib.hid ⟨hpb.r1, hpb.r40, hpb.c40⟩
      have HLS : Hid ((∀ i, i < R' → tellsB (⟨R2, C2, true, n2, l2, p2, q2, m2, t2⟩ : Pt) i = false → i < R) ∧ ∀ i, tellsB (⟨R2, C2, true, n2, l2, p2, q2, m2, t2⟩ : Pt) i = false → C = C') := Lib.hid (by
        exact ⟨fun i _ h => (by cases h), fun i h => (by cases h)⟩)
      have HL1 := Lib.hid (fun W (hw : Below w.heap.size w W) => lines_any hpa (.slice U1 n1.length k1) (.slice A1 l1.length c1) w W hw HU1.out HX1.out)
      have HL2 := Lib.hid (fun W (hw : Below w.heap.size w W) => lines_any hpb (.slice U2 n2.length k2) (.slice A2 l2.length c2) w W hw HU2.out HX2.out)
      clear hpa hpb HM1 HM2 HYES HNO HPB1 HPB2 HU1 HX1 HU2 HX2
      have f22 : w4.cell? ⟨w.heap.size + 1, 2, none⟩ = some (.bool true) := Blk.cell HT.out.2.1 2
      go_wp2_with fail
      go_upto_region 5 with (fail)
      refine wp_region_held_drew (S := fun w' => w'.heap[w.heap.size]? = some (.cells #[.int .i64 R1, .int .i64 C1, .bool f1, .slice U1 n1.length k1, .slice A1 l1.length c1, .int .i64 p1, .int .i64 q1, .int .i64 m1, .string ⟨t1.toArray⟩] 35 (0, 0)) ∧ w'.heap[w.heap.size + 1]? = some (.cells #[.int .i64 R2, .int .i64 C2, .bool true, .slice U2 n2.length k2, .slice A2 l2.length c2, .int .i64 p2, .int .i64 q2, .int .i64 m2, .string ⟨t2.toArray⟩] 35 (0, 0))) (by kernel_rfl) ⟨HT.out.1, HT.out.2.1⟩ (fun hHeld => ?_)
      have HT : Hid (w4.drew.heap[w.heap.size]? = some (.cells #[.int .i64 R1, .int .i64 C1, .bool f1, .slice U1 n1.length k1, .slice A1 l1.length c1, .int .i64 p1, .int .i64 q1, .int .i64 m1, .string ⟨t1.toArray⟩] 35 (0, 0)) ∧ w4.drew.heap[w.heap.size + 1]? = some (.cells #[.int .i64 R2, .int .i64 C2, .bool true, .slice U2 n2.length k2, .slice A2 l2.length c2, .int .i64 p2, .int .i64 q2, .int .i64 m2, .string ⟨t2.toArray⟩] 35 (0, 0)) ∧ w4.drew.heap[w.heap.size + 1 + 1]? = some (.cells #[.int .i64 0, .int .i64 0, .bool false, .slice none 0 0, .slice none 0 0, .int .i64 0, .int .i64 0, .int .i64 0, .string ⟨#[]⟩] 35 (0, 0)) ∧ Below w.heap.size w w4.drew) := Lib.hid ⟨HT.out.1, HT.out.2.1, HT.out.2.2.1, HT.out.2.2.2.drew⟩
      generalize w4.drew = wd at HT hHeld ⊢
      refine wpAnyH_take (i := 0) (v := .agg #[.int .i64 R1, .int .i64 C1, .bool f1, .slice U1 n1.length k1, .slice A1 l1.length c1, .int .i64 p1, .int .i64 q1, .int .i64 m1, .string ⟨t1.toArray⟩]) rfl (by kernel_rfl) (by kernel_rfl) (by kernel_rfl) (fun _ _ _ h => h) (yields_loadA aggPatch rfl rfl rfl (fun w' hS => hS.1) rfl) (by assumption) ?_
      simp only [Act.put, List.getElem_toArray, List.getElem_cons_zero, List.setIfInBounds_toArray, List.set_cons_zero, List.set_cons_succ]
      refine wpAnyH_take (i := 2) (v := .agg #[.int .i64 R2, .int .i64 C2, .bool true, .slice U2 n2.length k2, .slice A2 l2.length c2, .int .i64 p2, .int .i64 q2, .int .i64 m2, .string ⟨t2.toArray⟩]) rfl (by kernel_rfl) (by kernel_rfl) (by kernel_rfl) (fun _ _ _ h => h) (yields_loadA aggPatch rfl rfl rfl (fun w' hS => hS.2) rfl) (by assumption) ?_
      simp only [Act.put, List.getElem_toArray, List.getElem_cons_zero, List.getElem_cons_succ, List.setIfInBounds_toArray, List.set_cons_zero, List.set_cons_succ]
      refine wpAnyH_ready (rs := [1]) (by kernel_rfl) (by simp) ?_
      refine AllReadyH.cons rfl (fun K hK => ?_) ?_
      · go_simp
        go_at_call 18
        refine (HL1.out _ HT.out.2.2.2).mono ?_; rintro e w5 ⟨xv, Lu, rfl, hoU, hlU, hbU, hkU, hb⟩
        have HOU := Lib.hid hoU
        have HLU := Lib.hid hlU
        have HBU := Lib.hid hbU
        have HKU := Lib.hid hkU
        have HS5 : Hid (w.heap.size + 1 + 1 < wd.heap.size ∧ wd.heap.size ≤ w5.heap.size) := Lib.hid ⟨Blk.lt HT.out.2.2.1, hb.size⟩
        have HT : Hid (w5.heap[w.heap.size]? = some (.cells #[.int .i64 R1, .int .i64 C1, .bool f1, .slice U1 n1.length k1, .slice A1 l1.length c1, .int .i64 p1, .int .i64 q1, .int .i64 m1, .string ⟨t1.toArray⟩] 35 (0, 0)) ∧ w5.heap[w.heap.size + 1]? = some (.cells #[.int .i64 R2, .int .i64 C2, .bool true, .slice U2 n2.length k2, .slice A2 l2.length c2, .int .i64 p2, .int .i64 q2, .int .i64 m2, .string ⟨t2.toArray⟩] 35 (0, 0)) ∧ w5.heap[w.heap.size + 1 + 1]? = some (.cells #[.int .i64 0, .int .i64 0, .bool false, .slice none 0 0, .slice none 0 0, .int .i64 0, .int .i64 0, .int .i64 0, .string ⟨#[]⟩] 35 (0, 0)) ∧ Below w.heap.size w w5) := Lib.hid ⟨Blk.kept HT.out.1 hb, Blk.kept HT.out.2.1 hb, Blk.kept HT.out.2.2.1 hb, HT.out.2.2.2.trans (hb.mono HT.out.2.2.2.size)⟩
        clear hb
        clear hoU hlU hbU hkU
        have qn := (⟨HT.out.1, HT.out.2.1⟩ : w5.heap[w.heap.size]? = some (.cells #[.int .i64 R1, .int .i64 C1, .bool f1, .slice U1 n1.length k1, .slice A1 l1.length c1, .int .i64 p1, .int .i64 q1, .int .i64 m1, .string ⟨t1.toArray⟩] 35 (0, 0)) ∧ w5.heap[w.heap.size + 1]? = some (.cells #[.int .i64 R2, .int .i64 C2, .bool true, .slice U2 n2.length k2, .slice A2 l2.length c2, .int .i64 p2, .int .i64 q2, .int .i64 m2, .string ⟨t2.toArray⟩] 35 (0, 0)))
        refine hK.out _ _ qn (fun hHeld => ?_)
        clear hK K
        refine wpAnyH_ready (rs := [3]) (by kernel_rfl) (by simp) ?_
        refine AllReadyH.cons rfl (fun K hK => ?_) ?_
        · go_simp
          go_at_call 18
          refine (HL2.out _ HT.out.2.2.2).mono ?_; rintro e w6 ⟨yv, L, rfl, hoL, hlL, hbL, hkL, hb⟩
          have hne : ∀ g, yv.ownBlock = some g → xv.ownBlock ≠ some g := fun g e1 e2 => by
            have h1 := (World.ownsRow.lt hoL g e1).1
            have h2 := (World.ownsRow.lt HOU.out g e2).2
            omega
          have hnone : ∀ i, i < L.length → L.getD i default = none → tellsB (⟨R2, C2, true, n2, l2, p2, q2, m2, t2⟩ : Pt) i = false := fun i hi e => by
            have k := bare_get hbL hi
            rw [e] at k
            cases q : tellsB (⟨R2, C2, true, n2, l2, p2, q2, m2, t2⟩ : Pt) i with
            | false => rfl
            | true => rw [q] at k; cases k
          have HOV := Lib.hid (over_any Lu L xv yv wd.heap.size w5.heap.size w6 (HOU.out.kept hb) hoL hne (fun i hi e => by rw [HLU.out]; exact HLS.out.1 i (by rw [← hlL]; exact hi) (hnone i hi e)) (by have := HRR.out.1; omega) (by have := HRR.out.2.1; omega) hb.size)
          have HOB : Hid ((setK (overF Lu L) L L.length).map bare = mkL R' (ovB (⟨R1, C1, f1, n1, l1, p1, q1, m1, t1⟩ : Pt) (⟨R2, C2, true, n2, l2, p2, q2, m2, t2⟩ : Pt)) (ovT (⟨R1, C1, f1, n1, l1, p1, q1, m1, t1⟩ : Pt) (⟨R2, C2, true, n2, l2, p2, q2, m2, t2⟩ : Pt))) := Lib.hid (over_bare hlL HBU.out hbL HLS.out.1)
          have HOK := Lib.hid (fun W (hw : Below w.heap.size w W) => over_ok (HKU.out.kept hw) (hkL.kept hw) (fun i hi e => ⟨by rw [HLU.out]; exact HLS.out.1 i (by rw [← hlL]; exact hi) (hnone i hi e), HLS.out.2 i (hnone i hi e)⟩))
          have HOL : Hid ((setK (overF Lu L) L L.length).length = R') := Lib.hid (by rw [setK_length]; exact hlL)
          have HS6 : Hid (w5.heap.size ≤ w6.heap.size) := Lib.hid hb.size
          have HT : Hid (w6.heap[w.heap.size]? = some (.cells #[.int .i64 R1, .int .i64 C1, .bool f1, .slice U1 n1.length k1, .slice A1 l1.length c1, .int .i64 p1, .int .i64 q1, .int .i64 m1, .string ⟨t1.toArray⟩] 35 (0, 0)) ∧ w6.heap[w.heap.size + 1]? = some (.cells #[.int .i64 R2, .int .i64 C2, .bool true, .slice U2 n2.length k2, .slice A2 l2.length c2, .int .i64 p2, .int .i64 q2, .int .i64 m2, .string ⟨t2.toArray⟩] 35 (0, 0)) ∧ w6.heap[w.heap.size + 1 + 1]? = some (.cells #[.int .i64 0, .int .i64 0, .bool false, .slice none 0 0, .slice none 0 0, .int .i64 0, .int .i64 0, .int .i64 0, .string ⟨#[]⟩] 35 (0, 0)) ∧ Below w.heap.size w w6) := Lib.hid ⟨Blk.kept HT.out.1 hb, Blk.kept HT.out.2.1 hb, Blk.kept HT.out.2.2.1 hb, HT.out.2.2.2.trans (hb.mono HT.out.2.2.2.size)⟩
          clear hb
          clear hoL hlL hbL hkL hne hnone HOU HLU HBU HKU
          generalize setK (overF Lu L) L L.length = L3 at HOV HOB HOK HOL
          have qm := (⟨HT.out.1, HT.out.2.1⟩ : w6.heap[w.heap.size]? = some (.cells #[.int .i64 R1, .int .i64 C1, .bool f1, .slice U1 n1.length k1, .slice A1 l1.length c1, .int .i64 p1, .int .i64 q1, .int .i64 m1, .string ⟨t1.toArray⟩] 35 (0, 0)) ∧ w6.heap[w.heap.size + 1]? = some (.cells #[.int .i64 R2, .int .i64 C2, .bool true, .slice U2 n2.length k2, .slice A2 l2.length c2, .int .i64 p2, .int .i64 q2, .int .i64 m2, .string ⟨t2.toArray⟩] 35 (0, 0)))
          refine hK.out _ _ qm (fun hHeld => ?_)
          clear hK K
          refine wpAnyH_ready (rs := [4]) (by kernel_rfl) (by simp) ?_
          refine AllReadyH.cons rfl (fun K hK => ?_) ?_
          · go_simp
            go_at_call 24
            refine HOV.out.mono ?_; rintro e w7 ⟨rfl, ho7, hb⟩
            have hbig : ∀ k o, k < w5.heap.size → w6.heap[k]? = some o → w7.heap[k]? = some o := fun k o hk h => by rw [hb.block k hk]; exact h
            have HT7 : Hid (w7.heap[w.heap.size]? = some (.cells #[.int .i64 R1, .int .i64 C1, .bool f1, .slice U1 n1.length k1, .slice A1 l1.length c1, .int .i64 p1, .int .i64 q1, .int .i64 m1, .string ⟨t1.toArray⟩] 35 (0, 0)) ∧ w7.heap[w.heap.size + 1]? = some (.cells #[.int .i64 R2, .int .i64 C2, .bool true, .slice U2 n2.length k2, .slice A2 l2.length c2, .int .i64 p2, .int .i64 q2, .int .i64 m2, .string ⟨t2.toArray⟩] 35 (0, 0)) ∧ w7.heap[w.heap.size + 1 + 1]? = some (.cells #[.int .i64 0, .int .i64 0, .bool false, .slice none 0 0, .slice none 0 0, .int .i64 0, .int .i64 0, .int .i64 0, .string ⟨#[]⟩] 35 (0, 0)) ∧ Below w.heap.size w w7) := Lib.hid ⟨hbig _ _ (by have := HS5.out; omega) HT.out.1, hbig _ _ (by have := HS5.out; omega) HT.out.2.1, hbig _ _ (by have := HS5.out; omega) HT.out.2.2.1, HT.out.2.2.2.trans (hb.mono (by have := HS5.out; omega))⟩
            have HO7 := Lib.hid ho7
            obtain ⟨Ay, ny, cy, rfl⟩ : ∃ A n c, yv = .slice A n c := (by obtain ⟨A, c, e, _⟩ := ho7.sv.2; exact ⟨A, _, c, e⟩)
            clear ho7 hb hbig
            have qo := (⟨HT7.out.1, HT7.out.2.1⟩ : w7.heap[w.heap.size]? = some (.cells #[.int .i64 R1, .int .i64 C1, .bool f1, .slice U1 n1.length k1, .slice A1 l1.length c1, .int .i64 p1, .int .i64 q1, .int .i64 m1, .string ⟨t1.toArray⟩] 35 (0, 0)) ∧ w7.heap[w.heap.size + 1]? = some (.cells #[.int .i64 R2, .int .i64 C2, .bool true, .slice U2 n2.length k2, .slice A2 l2.length c2, .int .i64 p2, .int .i64 q2, .int .i64 m2, .string ⟨t2.toArray⟩] 35 (0, 0)))
            refine hK.out _ _ qo (fun hHeld => ?_)
            clear hK K
            refine wpAnyH_take (i := 5) (v := ?_) rfl (by kernel_rfl) (by kernel_rfl) (by kernel_rfl) (fun _ _ _ h => h) (Or.inl ⟨by rfl, ?_⟩) (by assumption) ?_
            rotate_left
            · intro w' hSw; first | (go_simp; done) | (go_simp; with_reducible rfl)
            simp only [Act.put, List.getElem_toArray, List.getElem_cons_zero, List.getElem_cons_succ, List.setIfInBounds_toArray, List.set_cons_zero, List.set_cons_succ]
            refine wpAnyH_done (by kernel_rfl) ?_ _
            have HNB : Hid ((Value.slice Ay ny cy).ownBlock ≠ some (w.heap.size + 1)) := Lib.hid fun e => by
              have := (World.ownsRow.lt HO7.out _ e).1
              have := HS5.out
              omega
            have c22 : w7.cell? ⟨w.heap.size + 1, 2, none⟩ = some (.bool true) := Blk.cell HT7.out.2.1 2
            have c12 : w7.cell? ⟨w.heap.size, 2, none⟩ = some (.bool f1) := Blk.cell HT7.out.1 2
            have d22 := Blk.free HT7.out.2.1 2
            obtain ⟨fo, HFO⟩ : ∃ fo, Hid (fo = true) := ⟨_, Lib.hid rfl⟩
            have HT8 : Hid ((w7.setCell ⟨w.heap.size + 1, 2, none⟩ (.bool true)).heap[w.heap.size + 1]? = some (.cells #[.int .i64 R2, .int .i64 C2, .bool fo, .slice U2 n2.length k2, .slice A2 l2.length c2, .int .i64 p2, .int .i64 q2, .int .i64 m2, .string ⟨t2.toArray⟩] 35 (0, 0)) ∧ (w7.setCell ⟨w.heap.size + 1, 2, none⟩ (.bool true)).heap[w.heap.size + 1 + 1]? = some (.cells #[.int .i64 0, .int .i64 0, .bool false, .slice none 0 0, .slice none 0 0, .int .i64 0, .int .i64 0, .int .i64 0, .string ⟨#[]⟩] 35 (0, 0)) ∧ Below w.heap.size w (w7.setCell ⟨w.heap.size + 1, 2, none⟩ (.bool true)) ∧ w.heap.size + 1 + 1 < (w7.setCell ⟨w.heap.size + 1, 2, none⟩ (.bool true)).heap.size) := Lib.hid ⟨by rw [HFO.out]; exact Blk.set HT7.out.2.1 2 _, Blk.other HT7.out.2.2.1 (by omega) _ _, HT7.out.2.2.2.setCell (p := ⟨w.heap.size + 1, 2, none⟩) (Nat.le_succ _) _, by rw [World.size_setCell]; exact Blk.lt HT7.out.2.2.1⟩
            have HO8 : Hid (OwnP (w7.setCell ⟨w.heap.size + 1, 2, none⟩ (.bool true)) w5.heap.size (.slice Ay ny cy) L3) := Lib.hid (HO7.out.other HNB.out _ _)
            have HWT : Hid (∀ W, Pv W (.slice Ay ny cy) L3 → LisOk W C' L3 → Calls Tryd.prog 21 #[.agg #[.int .i64 R2, .int .i64 C2, .bool fo, .slice U2 n2.length k2, .slice A2 l2.length c2, .int .i64 p2, .int .i64 q2, .int .i64 m2, .string ⟨t2.toArray⟩], .slice Ay ny cy] W fun e w' => ∃ u v, e = .returned (pagg (compose (⟨R1, C1, f1, n1, l1, p1, q1, m1, t1⟩ : Pt) (⟨R2, C2, true, n2, l2, p2, q2, m2, t2⟩ : Pt)) u v) ∧ OwnN w' W.heap.size u (compose (⟨R1, C1, f1, n1, l1, p1, q1, m1, t1⟩ : Pt) (⟨R2, C2, true, n2, l2, p2, q2, m2, t2⟩ : Pt)).at_ ∧ OwnCs w' W.heap.size v (compose (⟨R1, C1, f1, n1, l1, p1, q1, m1, t1⟩ : Pt) (⟨R2, C2, true, n2, l2, p2, q2, m2, t2⟩ : Pt)).cells ∧ Below W.heap.size W w') := Lib.hid fun W h1 h4 => by
              have k := with_any ⟨R2, C2, fo, n2, l2, p2, q2, m2, t2⟩ (.slice U2 n2.length k2) (.slice A2 l2.length c2) L3 _ _ C' _ W h1 h4 (by rw [HOL.out]; exact HOB.out) (by rw [HOL.out]; exact HRR.out.2.1) HRR.out.2.2
              have e := withP_over HPA.out HPB.out HGO.out
              rw [HOL.out] at k
              have e2 : withP ⟨R2, C2, fo, n2, l2, p2, q2, m2, t2⟩ R' (ovB (⟨R1, C1, f1, n1, l1, p1, q1, m1, t1⟩ : Pt) (⟨R2, C2, true, n2, l2, p2, q2, m2, t2⟩ : Pt)) (ovT (⟨R1, C1, f1, n1, l1, p1, q1, m1, t1⟩ : Pt) (⟨R2, C2, true, n2, l2, p2, q2, m2, t2⟩ : Pt)) = compose (⟨R1, C1, f1, n1, l1, p1, q1, m1, t1⟩ : Pt) (⟨R2, C2, true, n2, l2, p2, q2, m2, t2⟩ : Pt) := by rw [← e, HFO.out]; rfl
              rw [e2] at k
              exact k
            clear HT HOV HOB HOL HNB HO7 HT7
            go_upto_region 7 with (fail)
            clear c22 c12 d22
            generalize w7.setCell ⟨w.heap.size + 1, 2, none⟩ (.bool true) = w8 at HT8 HO8 ⊢
            have HWC := Lib.hid (HWT.out w8 HO8.out.sv (HOK.out _ HT8.out.2.2.1))
            go_wp2_with (refine wp_loadP rfl rfl rfl HT8.out.1 ?_)
            refine HWC.out.mono ?_; rintro e w9 ⟨uu, vv, rfl, hu, hv, hb⟩
            obtain ⟨Bu, mu, ku, rfl⟩ : ∃ A n c, uu = .slice A n c := (by obtain ⟨A, c, e⟩ := own_shape hu; exact ⟨A, _, c, e⟩)
            obtain ⟨Bv, mv, kv, rfl⟩ : ∃ A n c, vv = .slice A n c := (by obtain ⟨A, c, e⟩ := own_shape hv; exact ⟨A, _, c, e⟩)
            have HU9 := Lib.hid hu
            have HV9 := Lib.hid hv
            have HZ9 := Lib.hid (Blk.kept HT8.out.2.1 hb)
            have HB9 := Lib.hid (HT8.out.2.2.1.trans (hb.mono HT8.out.2.2.1.size))
            have HL9 := Lib.hid HT8.out.2.2.2
            obtain ⟨cp, HCP⟩ : ∃ cp, Hid (compose (⟨R1, C1, f1, n1, l1, p1, q1, m1, t1⟩ : Pt) (⟨R2, C2, true, n2, l2, p2, q2, m2, t2⟩ : Pt) = cp) := ⟨_, Lib.hid rfl⟩
            rw [HCP.out] at HU9 HV9 ⊢
            clear hu hv hb HWC HWT HOK HPA HPB HFO HRR HLS HL1 HL2
            go_wp2_with (refine wp_storeP (T := fun w' => w'.heap[w.heap.size + 1 + 1]? = some (.cells #[.int .i64 cp.rows, .int .i64 cp.cols, .bool cp.all, .slice Bu mu ku, .slice Bv mv kv, .int .i64 cp.row, .int .i64 cp.col, .int .i64 cp.modes, .string ⟨cp.title.toArray⟩] 35 (0, 0)) ∧ OwnN w' w8.heap.size (.slice Bu mu ku) cp.at_ ∧ OwnCs w' w8.heap.size (.slice Bv mv kv) cp.cells ∧ Below w.heap.size w w') rfl rfl rfl rfl rfl HZ9.out (fun w' h => ⟨h.box, h.row HU9.out (by have := HL9.out; omega), h.row HV9.out (by have := HL9.out; omega), h.below _ _ (by omega) HB9.out⟩) ?_; intro wF HF)
            refine bodyPost_ret (v := .tuple #[.agg #[.int .i64 cp.rows, .int .i64 cp.cols, .bool cp.all, .slice Bu mu ku, .slice Bv mv kv, .int .i64 cp.row, .int .i64 cp.col, .int .i64 cp.modes, .string ⟨cp.title.toArray⟩], .int .i64 0]) (ret2A aggPatch Tryd.results10 rfl HF.out.1 rfl rfl) rfl ⟨_, _, by rw [HCT.out, HCP.out, HGO.out]; rfl, by rw [HCT.out, HCP.out]; exact HF.out.2.1.low (by have := HL9.out; omega), by rw [HCT.out, HCP.out]; exact HF.out.2.2.1.low (by have := HL9.out; omega), HF.out.2.2.2⟩
          exact AllReadyH.nil
        exact AllReadyH.nil
      exact AllReadyH.nil
set_option maxHeartbeats 12800000 in
theorem compose_false (R1 C1 p1 q1 m1 R2 C2 p2 q2 m2 : Int) (f1 : Bool) (t1 t2 : List UInt8) (n1 n2 : List Int) (l1 l2 : List Cl) (U1 A1 U2 A2 : Option Addr) (k1 c1 k2 c2 : Nat) (ba bb : Bool) (w : World) (hba : patchB (⟨R1, C1, f1, n1, l1, p1, q1, m1, t1⟩ : Pt) = ba) (hbb : patchB (⟨R2, C2, false, n2, l2, p2, q2, m2, t2⟩ : Pt) = bb) (hu1 : Sl w (.slice U1 n1.length k1) n1) (hx1 : Rm w (.slice A1 l1.length c1) l1) (hu2 : Sl w (.slice U2 n2.length k2) n2) (hx2 : Rm w (.slice A2 l2.length c2) l2) (hs1 : Held l1) (hs2 : Held l2) (hT : Tabs w) (ht1 : t1.length ≤ 1000000000) (ht2 : t2.length ≤ 1000000000) (hn1 : n1.length ≤ 1000000) (hn2 : n2.length ≤ 1000000)
    (ct : Pt) (hbad : (ba && bb) = false → ct = noP) (hno : (ba && bb) = true → goesB (⟨R1, C1, f1, n1, l1, p1, q1, m1, t1⟩ : Pt) (⟨R2, C2, false, n2, l2, p2, q2, m2, t2⟩ : Pt) = false → ct = noP) (hyes : (ba && bb) = true → goesB (⟨R1, C1, f1, n1, l1, p1, q1, m1, t1⟩ : Pt) (⟨R2, C2, false, n2, l2, p2, q2, m2, t2⟩ : Pt) = true → ct = compose (⟨R1, C1, f1, n1, l1, p1, q1, m1, t1⟩ : Pt) (⟨R2, C2, false, n2, l2, p2, q2, m2, t2⟩ : Pt)) :
    Calls Tryd.prog 10 #[.agg #[.int .i64 R1, .int .i64 C1, .bool f1, .slice U1 n1.length k1, .slice A1 l1.length c1, .int .i64 p1, .int .i64 q1, .int .i64 m1, .string ⟨t1.toArray⟩], .agg #[.int .i64 R2, .int .i64 C2, .bool false, .slice U2 n2.length k2, .slice A2 l2.length c2, .int .i64 p2, .int .i64 q2, .int .i64 m2, .string ⟨t2.toArray⟩]] w fun e w' => ∃ u v, e = .returned (.tuple #[pagg ct u v, .int .i64 (codeC (ba && bb) (goesB (⟨R1, C1, f1, n1, l1, p1, q1, m1, t1⟩ : Pt) (⟨R2, C2, false, n2, l2, p2, q2, m2, t2⟩ : Pt)))]) ∧ OwnN w' w.heap.size u ct.at_ ∧ OwnCs w' w.heap.size v ct.cells ∧ Below w.heap.size w w' := by
  have HM1 := Lib.hid (fun W (hw : Below w.heap.size w W) => may_t R1 C1 p1 q1 m1 f1 t1 n1 l1 U1 A1 k1 c1 ba W hba (hu1.kept hw) (hx1.kept hw) hs1 (hT.kept hw) ht1 hn1)
  have HM2 := Lib.hid (fun W (hw : Below w.heap.size w W) => may_t R2 C2 p2 q2 m2 false t2 n2 l2 U2 A2 k2 c2 bb W hbb (hu2.kept hw) (hx2.kept hw) hs2 (hT.kept hw) ht2 hn2)
  have HAL := Lib.hid (fun W => alike_t R1 C1 p1 q1 m1 R2 C2 p2 q2 m2 f1 false ⟨t1.toArray⟩ ⟨t2.toArray⟩ (.slice U1 n1.length k1) (.slice A1 l1.length c1) (.slice U2 n2.length k2) (.slice A2 l2.length c2) W)
  have HU1 := Lib.hid hu1
  have HX1 := Lib.hid hx1
  have HU2 := Lib.hid hu2
  have HX2 := Lib.hid hx2
  have HPB1 := Lib.hid hba
  have HPB2 := Lib.hid hbb
  have HBAD := Lib.hid hbad
  have HNO := Lib.hid hno
  have HYES := Lib.hid hyes
  have HT : Hid ((((w.alloc (.cells #[.int .i64 R1, .int .i64 C1, .bool f1, .slice U1 n1.length k1, .slice A1 l1.length c1, .int .i64 p1, .int .i64 q1, .int .i64 m1, .string ⟨t1.toArray⟩] 35 (0, 0))).alloc (.cells #[.int .i64 R2, .int .i64 C2, .bool false, .slice U2 n2.length k2, .slice A2 l2.length c2, .int .i64 p2, .int .i64 q2, .int .i64 m2, .string ⟨t2.toArray⟩] 35 (0, 0))).alloc (.cells #[.int .i64 0, .int .i64 0, .bool false, .slice none 0 0, .slice none 0 0, .int .i64 0, .int .i64 0, .int .i64 0, .string ⟨#[]⟩] 35 (0, 0))).heap[w.heap.size]? = some (.cells #[.int .i64 R1, .int .i64 C1, .bool f1, .slice U1 n1.length k1, .slice A1 l1.length c1, .int .i64 p1, .int .i64 q1, .int .i64 m1, .string ⟨t1.toArray⟩] 35 (0, 0)) ∧ (((w.alloc (.cells #[.int .i64 R1, .int .i64 C1, .bool f1, .slice U1 n1.length k1, .slice A1 l1.length c1, .int .i64 p1, .int .i64 q1, .int .i64 m1, .string ⟨t1.toArray⟩] 35 (0, 0))).alloc (.cells #[.int .i64 R2, .int .i64 C2, .bool false, .slice U2 n2.length k2, .slice A2 l2.length c2, .int .i64 p2, .int .i64 q2, .int .i64 m2, .string ⟨t2.toArray⟩] 35 (0, 0))).alloc (.cells #[.int .i64 0, .int .i64 0, .bool false, .slice none 0 0, .slice none 0 0, .int .i64 0, .int .i64 0, .int .i64 0, .string ⟨#[]⟩] 35 (0, 0))).heap[w.heap.size + 1]? = some (.cells #[.int .i64 R2, .int .i64 C2, .bool false, .slice U2 n2.length k2, .slice A2 l2.length c2, .int .i64 p2, .int .i64 q2, .int .i64 m2, .string ⟨t2.toArray⟩] 35 (0, 0)) ∧ (((w.alloc (.cells #[.int .i64 R1, .int .i64 C1, .bool f1, .slice U1 n1.length k1, .slice A1 l1.length c1, .int .i64 p1, .int .i64 q1, .int .i64 m1, .string ⟨t1.toArray⟩] 35 (0, 0))).alloc (.cells #[.int .i64 R2, .int .i64 C2, .bool false, .slice U2 n2.length k2, .slice A2 l2.length c2, .int .i64 p2, .int .i64 q2, .int .i64 m2, .string ⟨t2.toArray⟩] 35 (0, 0))).alloc (.cells #[.int .i64 0, .int .i64 0, .bool false, .slice none 0 0, .slice none 0 0, .int .i64 0, .int .i64 0, .int .i64 0, .string ⟨#[]⟩] 35 (0, 0))).heap[w.heap.size + 1 + 1]? = some (.cells #[.int .i64 0, .int .i64 0, .bool false, .slice none 0 0, .slice none 0 0, .int .i64 0, .int .i64 0, .int .i64 0, .string ⟨#[]⟩] 35 (0, 0)) ∧ Below w.heap.size w (((w.alloc (.cells #[.int .i64 R1, .int .i64 C1, .bool f1, .slice U1 n1.length k1, .slice A1 l1.length c1, .int .i64 p1, .int .i64 q1, .int .i64 m1, .string ⟨t1.toArray⟩] 35 (0, 0))).alloc (.cells #[.int .i64 R2, .int .i64 C2, .bool false, .slice U2 n2.length k2, .slice A2 l2.length c2, .int .i64 p2, .int .i64 q2, .int .i64 m2, .string ⟨t2.toArray⟩] 35 (0, 0))).alloc (.cells #[.int .i64 0, .int .i64 0, .bool false, .slice none 0 0, .slice none 0 0, .int .i64 0, .int .i64 0, .int .i64 0, .string ⟨#[]⟩] 35 (0, 0)))) := Lib.hid ⟨old_alloc (old_alloc (new_alloc _ _ _ rfl) _) _, old_alloc (new_alloc _ _ _ (by simp)) _, new_alloc _ _ _ (by simp), (((Below.refl w.heap.size w).alloc (Nat.le_refl _) _).alloc (by simp) _).alloc (by simp; omega) _⟩
  clear hu1 hx1 hu2 hx2 hs1 hs2 hT ht1 ht2 hn1 hn2 hba hbb hbad hno hyes
  go_enter Tryd.func10, Tryd.ntmps10
  go_wp2_with (refine wp_loadP rfl rfl rfl HT.out.1 ?_)
  refine (HM1.out _ HT.out.2.2.2).mono ?_; rintro e w3 ⟨rfl, hb⟩
  have HT : Hid (w3.heap[w.heap.size]? = some (.cells #[.int .i64 R1, .int .i64 C1, .bool f1, .slice U1 n1.length k1, .slice A1 l1.length c1, .int .i64 p1, .int .i64 q1, .int .i64 m1, .string ⟨t1.toArray⟩] 35 (0, 0)) ∧ w3.heap[w.heap.size + 1]? = some (.cells #[.int .i64 R2, .int .i64 C2, .bool false, .slice U2 n2.length k2, .slice A2 l2.length c2, .int .i64 p2, .int .i64 q2, .int .i64 m2, .string ⟨t2.toArray⟩] 35 (0, 0)) ∧ w3.heap[w.heap.size + 1 + 1]? = some (.cells #[.int .i64 0, .int .i64 0, .bool false, .slice none 0 0, .slice none 0 0, .int .i64 0, .int .i64 0, .int .i64 0, .string ⟨#[]⟩] 35 (0, 0)) ∧ Below w.heap.size w w3) := Lib.hid ⟨Blk.kept HT.out.1 hb, Blk.kept HT.out.2.1 hb, Blk.kept HT.out.2.2.1 hb, HT.out.2.2.2.trans (hb.mono HT.out.2.2.2.size)⟩
  clear hb
  cases ba with
  | false =>
    obtain rfl := HBAD.out rfl
    simp only [codeB, Bool.false_eq_true, if_false]
    go_wp2_with (refine wp_storeP (T := fun w' => w'.heap[w.heap.size + 1 + 1]? = some (.cells #[.int .i64 0, .int .i64 0, .bool false, .slice none 0 0, .slice none 0 0, .int .i64 0, .int .i64 0, .int .i64 0, .string ⟨#[]⟩] 35 (0, 0)) ∧ Below w.heap.size w w') rfl rfl rfl rfl rfl HT.out.2.2.1 (fun w' h => ⟨h.box, h.below _ _ (by omega) HT.out.2.2.2⟩) ?_; intro wF HF)
    exact bodyPost_ret (v := .tuple #[.agg #[.int .i64 0, .int .i64 0, .bool false, .slice none 0 0, .slice none 0 0, .int .i64 0, .int .i64 0, .int .i64 0, .string ⟨#[]⟩], .int .i64 1]) (ret2A aggPatch Tryd.results10 rfl HF.out.1 rfl rfl) rfl ⟨nilS, nilS, rfl, OwnN.nil _ _, World.ownsRow_nil _ _ _ _, HF.out.2⟩
  | true =>
    go_wp2_with (refine wp_loadP rfl rfl rfl HT.out.2.1 ?_)
    refine (HM2.out _ HT.out.2.2.2).mono ?_; rintro e w4 ⟨rfl, hb⟩
    have HT : Hid (w4.heap[w.heap.size]? = some (.cells #[.int .i64 R1, .int .i64 C1, .bool f1, .slice U1 n1.length k1, .slice A1 l1.length c1, .int .i64 p1, .int .i64 q1, .int .i64 m1, .string ⟨t1.toArray⟩] 35 (0, 0)) ∧ w4.heap[w.heap.size + 1]? = some (.cells #[.int .i64 R2, .int .i64 C2, .bool false, .slice U2 n2.length k2, .slice A2 l2.length c2, .int .i64 p2, .int .i64 q2, .int .i64 m2, .string ⟨t2.toArray⟩] 35 (0, 0)) ∧ w4.heap[w.heap.size + 1 + 1]? = some (.cells #[.int .i64 0, .int .i64 0, .bool false, .slice none 0 0, .slice none 0 0, .int .i64 0, .int .i64 0, .int .i64 0, .string ⟨#[]⟩] 35 (0, 0)) ∧ Below w.heap.size w w4) := Lib.hid ⟨Blk.kept HT.out.1 hb, Blk.kept HT.out.2.1 hb, Blk.kept HT.out.2.2.1 hb, HT.out.2.2.2.trans (hb.mono HT.out.2.2.2.size)⟩
    clear hb
    cases bb with
    | false =>
      obtain rfl := HBAD.out rfl
      simp only [codeB, Bool.false_eq_true, if_false]
      go_wp2_with (refine wp_storeP (T := fun w' => w'.heap[w.heap.size + 1 + 1]? = some (.cells #[.int .i64 0, .int .i64 0, .bool false, .slice none 0 0, .slice none 0 0, .int .i64 0, .int .i64 0, .int .i64 0, .string ⟨#[]⟩] 35 (0, 0)) ∧ Below w.heap.size w w') rfl rfl rfl rfl rfl HT.out.2.2.1 (fun w' h => ⟨h.box, h.below _ _ (by omega) HT.out.2.2.2⟩) ?_; intro wF HF)
      exact bodyPost_ret (v := .tuple #[.agg #[.int .i64 0, .int .i64 0, .bool false, .slice none 0 0, .slice none 0 0, .int .i64 0, .int .i64 0, .int .i64 0, .string ⟨#[]⟩], .int .i64 1]) (ret2A aggPatch Tryd.results10 rfl HF.out.1 rfl rfl) rfl ⟨nilS, nilS, rfl, OwnN.nil _ _, World.ownsRow_nil _ _ _ _, HF.out.2⟩
    | true =>
      simp only [codeB, if_true]
      have f22 : w4.cell? ⟨w.heap.size + 1, 2, none⟩ = some (.bool false) := Blk.cell HT.out.2.1 2
      go_wp2_with (first
        | (refine wp_loadP rfl rfl rfl HT.out.1 ?_)
        | (refine wp_loadP rfl rfl rfl HT.out.2.1 ?_))
      refine (HAL.out _).mono ?_; rintro e w4b ⟨rfl, hb⟩
      have HT : Hid (w4b.heap[w.heap.size]? = some (.cells #[.int .i64 R1, .int .i64 C1, .bool f1, .slice U1 n1.length k1, .slice A1 l1.length c1, .int .i64 p1, .int .i64 q1, .int .i64 m1, .string ⟨t1.toArray⟩] 35 (0, 0)) ∧ w4b.heap[w.heap.size + 1]? = some (.cells #[.int .i64 R2, .int .i64 C2, .bool false, .slice U2 n2.length k2, .slice A2 l2.length c2, .int .i64 p2, .int .i64 q2, .int .i64 m2, .string ⟨t2.toArray⟩] 35 (0, 0)) ∧ w4b.heap[w.heap.size + 1 + 1]? = some (.cells #[.int .i64 0, .int .i64 0, .bool false, .slice none 0 0, .slice none 0 0, .int .i64 0, .int .i64 0, .int .i64 0, .string ⟨#[]⟩] 35 (0, 0)) ∧ Below w.heap.size w w4b) := Lib.hid ⟨Blk.kept HT.out.1 hb, Blk.kept HT.out.2.1 hb, Blk.kept HT.out.2.2.1 hb, HT.out.2.2.2.trans (hb.mono HT.out.2.2.2.size)⟩
      clear hb
      clear f22
      cases hal : (R1 == R2 && C1 == C2) with
      | false =>
        obtain rfl := HNO.out rfl (show goesB (⟨R1, C1, f1, n1, l1, p1, q1, m1, t1⟩ : Pt) (⟨R2, C2, false, n2, l2, p2, q2, m2, t2⟩ : Pt) = false from hal)
        go_wp2_with (refine wp_storeP (T := fun w' => w'.heap[w.heap.size + 1 + 1]? = some (.cells #[.int .i64 0, .int .i64 0, .bool false, .slice none 0 0, .slice none 0 0, .int .i64 0, .int .i64 0, .int .i64 0, .string ⟨#[]⟩] 35 (0, 0)) ∧ Below w.heap.size w w') rfl rfl rfl rfl rfl HT.out.2.2.1 (fun w' h => ⟨h.box, h.below _ _ (by omega) HT.out.2.2.2⟩) ?_; intro wF HF)
        exact bodyPost_ret (v := .tuple #[.agg #[.int .i64 0, .int .i64 0, .bool false, .slice none 0 0, .slice none 0 0, .int .i64 0, .int .i64 0, .int .i64 0, .string ⟨#[]⟩], .int .i64 7]) (ret2A aggPatch Tryd.results10 rfl HF.out.1 rfl rfl) rfl ⟨nilS, nilS, by rw [show goesB (⟨R1, C1, f1, n1, l1, p1, q1, m1, t1⟩ : Pt) (⟨R2, C2, false, n2, l2, p2, q2, m2, t2⟩ : Pt) = false from hal]; rfl, OwnN.nil _ _, World.ownsRow_nil _ _ _ _, HF.out.2⟩
      | true =>
        have HCT := Lib.hid (HYES.out rfl (by exact hal))
        have HGO : Hid (goesB (⟨R1, C1, f1, n1, l1, p1, q1, m1, t1⟩ : Pt) (⟨R2, C2, false, n2, l2, p2, q2, m2, t2⟩ : Pt) = true) := Lib.hid (by exact hal)
        obtain ⟨R, C, ll, rs, hpa⟩ := ((patchB_iff _).1 HPB1.out).2
        obtain ⟨R', C', ll2, ss, hpb⟩ := ((patchB_iff _).1 HPB2.out).2
        have HPA := Lib.hid hpa
        have HPB := Lib.hid hpb
        have HRR : Hid (1 ≤ R' ∧ R' ≤ 40 ∧ C' ≤ 40) := Lib.hid ⟨hpb.r1, hpb.r40, hpb.c40⟩
        have HLS : Hid ((∀ i, i < R' → tellsB (⟨R2, C2, false, n2, l2, p2, q2, m2, t2⟩ : Pt) i = false → i < R) ∧ ∀ i, tellsB (⟨R2, C2, false, n2, l2, p2, q2, m2, t2⟩ : Pt) i = false → C = C') := Lib.hid (by
          have h0 := hal
          rw [Bool.and_eq_true, beq_iff_eq, beq_iff_eq] at h0
          have e1 := hpa.rows; have e2 := hpa.cols; have e3 := hpb.rows; have e4 := hpb.cols
          simp only at e1 e2 e3 e4
          exact ⟨fun i hi _ => (by omega), fun i _ => (by omega)⟩)
        have HL1 := Lib.hid (fun W (hw : Below w.heap.size w W) => lines_any hpa (.slice U1 n1.length k1) (.slice A1 l1.length c1) w W hw HU1.out HX1.out)
        have HL2 := Lib.hid (fun W (hw : Below w.heap.size w W) => lines_any hpb (.slice U2 n2.length k2) (.slice A2 l2.length c2) w W hw HU2.out HX2.out)
        clear hpa hpb HM1 HM2 HYES HNO HPB1 HPB2 HU1 HX1 HU2 HX2
        clear hal HAL
        go_wp2_with fail
        go_upto_region 5 with (fail)
        refine wp_region_held_drew (S := fun w' => w'.heap[w.heap.size]? = some (.cells #[.int .i64 R1, .int .i64 C1, .bool f1, .slice U1 n1.length k1, .slice A1 l1.length c1, .int .i64 p1, .int .i64 q1, .int .i64 m1, .string ⟨t1.toArray⟩] 35 (0, 0)) ∧ w'.heap[w.heap.size + 1]? = some (.cells #[.int .i64 R2, .int .i64 C2, .bool false, .slice U2 n2.length k2, .slice A2 l2.length c2, .int .i64 p2, .int .i64 q2, .int .i64 m2, .string ⟨t2.toArray⟩] 35 (0, 0))) (by kernel_rfl) ⟨HT.out.1, HT.out.2.1⟩ (fun hHeld => ?_)
        have HT : Hid (w4b.drew.heap[w.heap.size]? = some (.cells #[.int .i64 R1, .int .i64 C1, .bool f1, .slice U1 n1.length k1, .slice A1 l1.length c1, .int .i64 p1, .int .i64 q1, .int .i64 m1, .string ⟨t1.toArray⟩] 35 (0, 0)) ∧ w4b.drew.heap[w.heap.size + 1]? = some (.cells #[.int .i64 R2, .int .i64 C2, .bool false, .slice U2 n2.length k2, .slice A2 l2.length c2, .int .i64 p2, .int .i64 q2, .int .i64 m2, .string ⟨t2.toArray⟩] 35 (0, 0)) ∧ w4b.drew.heap[w.heap.size + 1 + 1]? = some (.cells #[.int .i64 0, .int .i64 0, .bool false, .slice none 0 0, .slice none 0 0, .int .i64 0, .int .i64 0, .int .i64 0, .string ⟨#[]⟩] 35 (0, 0)) ∧ Below w.heap.size w w4b.drew) := Lib.hid ⟨HT.out.1, HT.out.2.1, HT.out.2.2.1, HT.out.2.2.2.drew⟩
        generalize w4b.drew = wd at HT hHeld ⊢
        refine wpAnyH_take (i := 0) (v := .agg #[.int .i64 R1, .int .i64 C1, .bool f1, .slice U1 n1.length k1, .slice A1 l1.length c1, .int .i64 p1, .int .i64 q1, .int .i64 m1, .string ⟨t1.toArray⟩]) rfl (by kernel_rfl) (by kernel_rfl) (by kernel_rfl) (fun _ _ _ h => h) (yields_loadA aggPatch rfl rfl rfl (fun w' hS => hS.1) rfl) (by assumption) ?_
        simp only [Act.put, List.getElem_toArray, List.getElem_cons_zero, List.setIfInBounds_toArray, List.set_cons_zero, List.set_cons_succ]
        refine wpAnyH_take (i := 2) (v := .agg #[.int .i64 R2, .int .i64 C2, .bool false, .slice U2 n2.length k2, .slice A2 l2.length c2, .int .i64 p2, .int .i64 q2, .int .i64 m2, .string ⟨t2.toArray⟩]) rfl (by kernel_rfl) (by kernel_rfl) (by kernel_rfl) (fun _ _ _ h => h) (yields_loadA aggPatch rfl rfl rfl (fun w' hS => hS.2) rfl) (by assumption) ?_
        simp only [Act.put, List.getElem_toArray, List.getElem_cons_zero, List.getElem_cons_succ, List.setIfInBounds_toArray, List.set_cons_zero, List.set_cons_succ]
        refine wpAnyH_ready (rs := [1]) (by kernel_rfl) (by simp) ?_
        refine AllReadyH.cons rfl (fun K hK => ?_) ?_
        · go_simp
          go_at_call 18
          refine (HL1.out _ HT.out.2.2.2).mono ?_; rintro e w5 ⟨xv, Lu, rfl, hoU, hlU, hbU, hkU, hb⟩
          have HOU := Lib.hid hoU
          have HLU := Lib.hid hlU
          have HBU := Lib.hid hbU
          have HKU := Lib.hid hkU
          have HS5 : Hid (w.heap.size + 1 + 1 < wd.heap.size ∧ wd.heap.size ≤ w5.heap.size) := Lib.hid ⟨Blk.lt HT.out.2.2.1, hb.size⟩
          have HT : Hid (w5.heap[w.heap.size]? = some (.cells #[.int .i64 R1, .int .i64 C1, .bool f1, .slice U1 n1.length k1, .slice A1 l1.length c1, .int .i64 p1, .int .i64 q1, .int .i64 m1, .string ⟨t1.toArray⟩] 35 (0, 0)) ∧ w5.heap[w.heap.size + 1]? = some (.cells #[.int .i64 R2, .int .i64 C2, .bool false, .slice U2 n2.length k2, .slice A2 l2.length c2, .int .i64 p2, .int .i64 q2, .int .i64 m2, .string ⟨t2.toArray⟩] 35 (0, 0)) ∧ w5.heap[w.heap.size + 1 + 1]? = some (.cells #[.int .i64 0, .int .i64 0, .bool false, .slice none 0 0, .slice none 0 0, .int .i64 0, .int .i64 0, .int .i64 0, .string ⟨#[]⟩] 35 (0, 0)) ∧ Below w.heap.size w w5) := Lib.hid ⟨Blk.kept HT.out.1 hb, Blk.kept HT.out.2.1 hb, Blk.kept HT.out.2.2.1 hb, HT.out.2.2.2.trans (hb.mono HT.out.2.2.2.size)⟩
          clear hb
          clear hoU hlU hbU hkU
          have qn := (⟨HT.out.1, HT.out.2.1⟩ : w5.heap[w.heap.size]? = some (.cells #[.int .i64 R1, .int .i64 C1, .bool f1, .slice U1 n1.length k1, .slice A1 l1.length c1, .int .i64 p1, .int .i64 q1, .int .i64 m1, .string ⟨t1.toArray⟩] 35 (0, 0)) ∧ w5.heap[w.heap.size + 1]? = some (.cells #[.int .i64 R2, .int .i64 C2, .bool false, .slice U2 n2.length k2, .slice A2 l2.length c2, .int .i64 p2, .int .i64 q2, .int .i64 m2, .string ⟨t2.toArray⟩] 35 (0, 0)))
          refine hK.out _ _ qn (fun hHeld => ?_)
          clear hK K
          refine wpAnyH_ready (rs := [3]) (by kernel_rfl) (by simp) ?_
          refine AllReadyH.cons rfl (fun K hK => ?_) ?_
          · go_simp
            go_at_call 18
            refine (HL2.out _ HT.out.2.2.2).mono ?_; rintro e w6 ⟨yv, L, rfl, hoL, hlL, hbL, hkL, hb⟩
            have hne : ∀ g, yv.ownBlock = some g → xv.ownBlock ≠ some g := fun g e1 e2 => by
              have h1 := (World.ownsRow.lt hoL g e1).1
              have h2 := (World.ownsRow.lt HOU.out g e2).2
              omega
            have hnone : ∀ i, i < L.length → L.getD i default = none → tellsB (⟨R2, C2, false, n2, l2, p2, q2, m2, t2⟩ : Pt) i = false := fun i hi e => by
              have k := bare_get hbL hi
              rw [e] at k
              cases q : tellsB (⟨R2, C2, false, n2, l2, p2, q2, m2, t2⟩ : Pt) i with
              | false => rfl
              | true => rw [q] at k; cases k
            have HOV := Lib.hid (over_any Lu L xv yv wd.heap.size w5.heap.size w6 (HOU.out.kept hb) hoL hne (fun i hi e => by rw [HLU.out]; exact HLS.out.1 i (by rw [← hlL]; exact hi) (hnone i hi e)) (by have := HRR.out.1; omega) (by have := HRR.out.2.1; omega) hb.size)
            have HOB : Hid ((setK (overF Lu L) L L.length).map bare = mkL R' (ovB (⟨R1, C1, f1, n1, l1, p1, q1, m1, t1⟩ : Pt) (⟨R2, C2, false, n2, l2, p2, q2, m2, t2⟩ : Pt)) (ovT (⟨R1, C1, f1, n1, l1, p1, q1, m1, t1⟩ : Pt) (⟨R2, C2, false, n2, l2, p2, q2, m2, t2⟩ : Pt))) := Lib.hid (over_bare hlL HBU.out hbL HLS.out.1)
            have HOK := Lib.hid (fun W (hw : Below w.heap.size w W) => over_ok (HKU.out.kept hw) (hkL.kept hw) (fun i hi e => ⟨by rw [HLU.out]; exact HLS.out.1 i (by rw [← hlL]; exact hi) (hnone i hi e), HLS.out.2 i (hnone i hi e)⟩))
            have HOL : Hid ((setK (overF Lu L) L L.length).length = R') := Lib.hid (by rw [setK_length]; exact hlL)
            have HS6 : Hid (w5.heap.size ≤ w6.heap.size) := Lib.hid hb.size
            have HT : Hid (w6.heap[w.heap.size]? = some (.cells #[.int .i64 R1, .int .i64 C1, .bool f1, .slice U1 n1.length k1, .slice A1 l1.length c1, .int .i64 p1, .int .i64 q1, .int .i64 m1, .string ⟨t1.toArray⟩] 35 (0, 0)) ∧ w6.heap[w.heap.size + 1]? = some (.cells #[.int .i64 R2, .int .i64 C2, .bool false, .slice U2 n2.length k2, .slice A2 l2.length c2, .int .i64 p2, .int .i64 q2, .int .i64 m2, .string ⟨t2.toArray⟩] 35 (0, 0)) ∧ w6.heap[w.heap.size + 1 + 1]? = some (.cells #[.int .i64 0, .int .i64 0, .bool false, .slice none 0 0, .slice none 0 0, .int .i64 0, .int .i64 0, .int .i64 0, .string ⟨#[]⟩] 35 (0, 0)) ∧ Below w.heap.size w w6) := Lib.hid ⟨Blk.kept HT.out.1 hb, Blk.kept HT.out.2.1 hb, Blk.kept HT.out.2.2.1 hb, HT.out.2.2.2.trans (hb.mono HT.out.2.2.2.size)⟩
            clear hb
            clear hoL hlL hbL hkL hne hnone HOU HLU HBU HKU
            generalize setK (overF Lu L) L L.length = L3 at HOV HOB HOK HOL
            have qm := (⟨HT.out.1, HT.out.2.1⟩ : w6.heap[w.heap.size]? = some (.cells #[.int .i64 R1, .int .i64 C1, .bool f1, .slice U1 n1.length k1, .slice A1 l1.length c1, .int .i64 p1, .int .i64 q1, .int .i64 m1, .string ⟨t1.toArray⟩] 35 (0, 0)) ∧ w6.heap[w.heap.size + 1]? = some (.cells #[.int .i64 R2, .int .i64 C2, .bool false, .slice U2 n2.length k2, .slice A2 l2.length c2, .int .i64 p2, .int .i64 q2, .int .i64 m2, .string ⟨t2.toArray⟩] 35 (0, 0)))
            refine hK.out _ _ qm (fun hHeld => ?_)
            clear hK K
            refine wpAnyH_ready (rs := [4]) (by kernel_rfl) (by simp) ?_
            refine AllReadyH.cons rfl (fun K hK => ?_) ?_
            · go_simp
              go_at_call 24
              refine HOV.out.mono ?_; rintro e w7 ⟨rfl, ho7, hb⟩
              have hbig : ∀ k o, k < w5.heap.size → w6.heap[k]? = some o → w7.heap[k]? = some o := fun k o hk h => by rw [hb.block k hk]; exact h
              have HT7 : Hid (w7.heap[w.heap.size]? = some (.cells #[.int .i64 R1, .int .i64 C1, .bool f1, .slice U1 n1.length k1, .slice A1 l1.length c1, .int .i64 p1, .int .i64 q1, .int .i64 m1, .string ⟨t1.toArray⟩] 35 (0, 0)) ∧ w7.heap[w.heap.size + 1]? = some (.cells #[.int .i64 R2, .int .i64 C2, .bool false, .slice U2 n2.length k2, .slice A2 l2.length c2, .int .i64 p2, .int .i64 q2, .int .i64 m2, .string ⟨t2.toArray⟩] 35 (0, 0)) ∧ w7.heap[w.heap.size + 1 + 1]? = some (.cells #[.int .i64 0, .int .i64 0, .bool false, .slice none 0 0, .slice none 0 0, .int .i64 0, .int .i64 0, .int .i64 0, .string ⟨#[]⟩] 35 (0, 0)) ∧ Below w.heap.size w w7) := Lib.hid ⟨hbig _ _ (by have := HS5.out; omega) HT.out.1, hbig _ _ (by have := HS5.out; omega) HT.out.2.1, hbig _ _ (by have := HS5.out; omega) HT.out.2.2.1, HT.out.2.2.2.trans (hb.mono (by have := HS5.out; omega))⟩
              have HO7 := Lib.hid ho7
              obtain ⟨Ay, ny, cy, rfl⟩ : ∃ A n c, yv = .slice A n c := (by obtain ⟨A, c, e, _⟩ := ho7.sv.2; exact ⟨A, _, c, e⟩)
              clear ho7 hb hbig
              have qo := (⟨HT7.out.1, HT7.out.2.1⟩ : w7.heap[w.heap.size]? = some (.cells #[.int .i64 R1, .int .i64 C1, .bool f1, .slice U1 n1.length k1, .slice A1 l1.length c1, .int .i64 p1, .int .i64 q1, .int .i64 m1, .string ⟨t1.toArray⟩] 35 (0, 0)) ∧ w7.heap[w.heap.size + 1]? = some (.cells #[.int .i64 R2, .int .i64 C2, .bool false, .slice U2 n2.length k2, .slice A2 l2.length c2, .int .i64 p2, .int .i64 q2, .int .i64 m2, .string ⟨t2.toArray⟩] 35 (0, 0)))
              refine hK.out _ _ qo (fun hHeld => ?_)
              clear hK K
              refine wpAnyH_take (i := 5) (v := ?_) rfl (by kernel_rfl) (by kernel_rfl) (by kernel_rfl) (fun _ _ _ h => h) (Or.inl ⟨by rfl, ?_⟩) (by assumption) ?_
              rotate_left
              · intro w' hSw; first | (go_simp; done) | (go_simp; with_reducible rfl)
              simp only [Act.put, List.getElem_toArray, List.getElem_cons_zero, List.getElem_cons_succ, List.setIfInBounds_toArray, List.set_cons_zero, List.set_cons_succ]
              refine wpAnyH_done (by kernel_rfl) ?_ _
              have HNB : Hid ((Value.slice Ay ny cy).ownBlock ≠ some (w.heap.size + 1)) := Lib.hid fun e => by
                have := (World.ownsRow.lt HO7.out _ e).1
                have := HS5.out
                omega
              have c22 : w7.cell? ⟨w.heap.size + 1, 2, none⟩ = some (.bool false) := Blk.cell HT7.out.2.1 2
              have c12 : w7.cell? ⟨w.heap.size, 2, none⟩ = some (.bool f1) := Blk.cell HT7.out.1 2
              have d22 := Blk.free HT7.out.2.1 2
              obtain ⟨fo, HFO⟩ : ∃ fo, Hid (fo = f1) := ⟨_, Lib.hid rfl⟩
              have HT8 : Hid ((w7.setCell ⟨w.heap.size + 1, 2, none⟩ (.bool f1)).heap[w.heap.size + 1]? = some (.cells #[.int .i64 R2, .int .i64 C2, .bool fo, .slice U2 n2.length k2, .slice A2 l2.length c2, .int .i64 p2, .int .i64 q2, .int .i64 m2, .string ⟨t2.toArray⟩] 35 (0, 0)) ∧ (w7.setCell ⟨w.heap.size + 1, 2, none⟩ (.bool f1)).heap[w.heap.size + 1 + 1]? = some (.cells #[.int .i64 0, .int .i64 0, .bool false, .slice none 0 0, .slice none 0 0, .int .i64 0, .int .i64 0, .int .i64 0, .string ⟨#[]⟩] 35 (0, 0)) ∧ Below w.heap.size w (w7.setCell ⟨w.heap.size + 1, 2, none⟩ (.bool f1)) ∧ w.heap.size + 1 + 1 < (w7.setCell ⟨w.heap.size + 1, 2, none⟩ (.bool f1)).heap.size) := Lib.hid ⟨by rw [HFO.out]; exact Blk.set HT7.out.2.1 2 _, Blk.other HT7.out.2.2.1 (by omega) _ _, HT7.out.2.2.2.setCell (p := ⟨w.heap.size + 1, 2, none⟩) (Nat.le_succ _) _, by rw [World.size_setCell]; exact Blk.lt HT7.out.2.2.1⟩
              have HO8 : Hid (OwnP (w7.setCell ⟨w.heap.size + 1, 2, none⟩ (.bool f1)) w5.heap.size (.slice Ay ny cy) L3) := Lib.hid (HO7.out.other HNB.out _ _)
              have HWT : Hid (∀ W, Pv W (.slice Ay ny cy) L3 → LisOk W C' L3 → Calls Tryd.prog 21 #[.agg #[.int .i64 R2, .int .i64 C2, .bool fo, .slice U2 n2.length k2, .slice A2 l2.length c2, .int .i64 p2, .int .i64 q2, .int .i64 m2, .string ⟨t2.toArray⟩], .slice Ay ny cy] W fun e w' => ∃ u v, e = .returned (pagg (compose (⟨R1, C1, f1, n1, l1, p1, q1, m1, t1⟩ : Pt) (⟨R2, C2, false, n2, l2, p2, q2, m2, t2⟩ : Pt)) u v) ∧ OwnN w' W.heap.size u (compose (⟨R1, C1, f1, n1, l1, p1, q1, m1, t1⟩ : Pt) (⟨R2, C2, false, n2, l2, p2, q2, m2, t2⟩ : Pt)).at_ ∧ OwnCs w' W.heap.size v (compose (⟨R1, C1, f1, n1, l1, p1, q1, m1, t1⟩ : Pt) (⟨R2, C2, false, n2, l2, p2, q2, m2, t2⟩ : Pt)).cells ∧ Below W.heap.size W w') := Lib.hid fun W h1 h4 => by
                have k := with_any ⟨R2, C2, fo, n2, l2, p2, q2, m2, t2⟩ (.slice U2 n2.length k2) (.slice A2 l2.length c2) L3 _ _ C' _ W h1 h4 (by rw [HOL.out]; exact HOB.out) (by rw [HOL.out]; exact HRR.out.2.1) HRR.out.2.2
                have e := withP_over HPA.out HPB.out HGO.out
                rw [HOL.out] at k
                have e2 : withP ⟨R2, C2, fo, n2, l2, p2, q2, m2, t2⟩ R' (ovB (⟨R1, C1, f1, n1, l1, p1, q1, m1, t1⟩ : Pt) (⟨R2, C2, false, n2, l2, p2, q2, m2, t2⟩ : Pt)) (ovT (⟨R1, C1, f1, n1, l1, p1, q1, m1, t1⟩ : Pt) (⟨R2, C2, false, n2, l2, p2, q2, m2, t2⟩ : Pt)) = compose (⟨R1, C1, f1, n1, l1, p1, q1, m1, t1⟩ : Pt) (⟨R2, C2, false, n2, l2, p2, q2, m2, t2⟩ : Pt) := by rw [← e, HFO.out]; simp
                rw [e2] at k
                exact k
              clear HT HOV HOB HOL HNB HO7 HT7
              go_upto_region 7 with (fail)
              clear c22 c12 d22
              generalize w7.setCell ⟨w.heap.size + 1, 2, none⟩ (.bool f1) = w8 at HT8 HO8 ⊢
              have HWC := Lib.hid (HWT.out w8 HO8.out.sv (HOK.out _ HT8.out.2.2.1))
              go_wp2_with (refine wp_loadP rfl rfl rfl HT8.out.1 ?_)
              refine HWC.out.mono ?_; rintro e w9 ⟨uu, vv, rfl, hu, hv, hb⟩
              obtain ⟨Bu, mu, ku, rfl⟩ : ∃ A n c, uu = .slice A n c := (by obtain ⟨A, c, e⟩ := own_shape hu; exact ⟨A, _, c, e⟩)
              obtain ⟨Bv, mv, kv, rfl⟩ : ∃ A n c, vv = .slice A n c := (by obtain ⟨A, c, e⟩ := own_shape hv; exact ⟨A, _, c, e⟩)
              have HU9 := Lib.hid hu
              have HV9 := Lib.hid hv
              have HZ9 := Lib.hid (Blk.kept HT8.out.2.1 hb)
              have HB9 := Lib.hid (HT8.out.2.2.1.trans (hb.mono HT8.out.2.2.1.size))
              have HL9 := Lib.hid HT8.out.2.2.2
              obtain ⟨cp, HCP⟩ : ∃ cp, Hid (compose (⟨R1, C1, f1, n1, l1, p1, q1, m1, t1⟩ : Pt) (⟨R2, C2, false, n2, l2, p2, q2, m2, t2⟩ : Pt) = cp) := ⟨_, Lib.hid rfl⟩
              rw [HCP.out] at HU9 HV9 ⊢
              clear hu hv hb HWC HWT HOK HPA HPB HFO HRR HLS HL1 HL2
              go_wp2_with (refine wp_storeP (T := fun w' => w'.heap[w.heap.size + 1 + 1]? = some (.cells #[.int .i64 cp.rows, .int .i64 cp.cols, .bool cp.all, .slice Bu mu ku, .slice Bv mv kv, .int .i64 cp.row, .int .i64 cp.col, .int .i64 cp.modes, .string ⟨cp.title.toArray⟩] 35 (0, 0)) ∧ OwnN w' w8.heap.size (.slice Bu mu ku) cp.at_ ∧ OwnCs w' w8.heap.size (.slice Bv mv kv) cp.cells ∧ Below w.heap.size w w') rfl rfl rfl rfl rfl HZ9.out (fun w' h => ⟨h.box, h.row HU9.out (by have := HL9.out; omega), h.row HV9.out (by have := HL9.out; omega), h.below _ _ (by omega) HB9.out⟩) ?_; intro wF HF)
              refine bodyPost_ret (v := .tuple #[.agg #[.int .i64 cp.rows, .int .i64 cp.cols, .bool cp.all, .slice Bu mu ku, .slice Bv mv kv, .int .i64 cp.row, .int .i64 cp.col, .int .i64 cp.modes, .string ⟨cp.title.toArray⟩], .int .i64 0]) (ret2A aggPatch Tryd.results10 rfl HF.out.1 rfl rfl) rfl ⟨_, _, by rw [HCT.out, HCP.out, HGO.out]; rfl, by rw [HCT.out, HCP.out]; exact HF.out.2.1.low (by have := HL9.out; omega), by rw [HCT.out, HCP.out]; exact HF.out.2.2.1.low (by have := HL9.out; omega), HF.out.2.2.2⟩
            exact AllReadyH.nil
          exact AllReadyH.nil
        exact AllReadyH.nil
end Pat
end
end Go.Proofs.YtjcfbeiljdohcaaDoor
