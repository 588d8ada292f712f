/- Joined texts: PdBet. -/
import Derived.Test.YtjcfbeiljdohcaaDoorJM31
namespace Go.Proofs.YtjcfbeiljdohcaaDoor
set_option maxRecDepth 100000
section
open Go.RowKit
namespace Pat
open Go.Proofs.YtjcfbeiljdohcaaDoor.Row Go.Proofs.YtjcfbeiljdohcaaDoor.Scr Agb
abbrev zobj : Obj := .cells #[.int .i64 0, .int .i64 0, .bool false, .slice none 0 0, .slice none 0 0, .int .i64 0, .int .i64 0, .int .i64 0, .string ⟨#[]⟩] 35 (0, 0)
theorem step_allocP {w : World} {ops : Array Oper} {o : Oper} {a : Act} {K : Act → World → Prop} {Q : Exit → Act → World → Prop} {E : Prop} (hgd : o.guard = none) (ho : o.op = .alloc 35)
    (hK : K (a.put o.dst (.pointer (some ⟨w.heap.size, 0, none⟩))) (w.alloc zobj)) : if Region.wanted o (yielded ops a.tmps) = true then Oper.wp Tryd.prog o a w K Q else E := by
  have hw : Region.wanted o (yielded ops a.tmps) = true := by simp [Region.wanted, hgd]
  rw [if_pos hw]
  unfold Oper.wp
  simp only [ho, execOp, Sem.run_bind]
  exact hK
structure Tw (w : World) (o1 o2 : Obj) (x1 x2 : Option (Nat × Obj)) (W : World) : Prop where
  bel : Below w.heap.size w W
  v1 : W.heap[w.heap.size]? = some o1
  v2 : W.heap[w.heap.size + 1]? = some o2
  z : W.heap[w.heap.size + 1 + 1]? = some zobj
  p1 : ∀ q, x1 = some q → W.heap[q.1]? = some q.2 ∧ w.heap.size + 1 + 1 < q.1
  p2 : ∀ q, x2 = some q → W.heap[q.1]? = some q.2 ∧ w.heap.size + 1 + 1 < q.1
  ne : ∀ q r, x1 = some q → x2 = some r → q.1 ≠ r.1
section
variable {w W W' : World} {o1 o2 : Obj} {x1 x2 : Option (Nat × Obj)}
theorem Tw.kept (h : Tw w o1 o2 x1 x2 W) (hb : Below W.heap.size W W') : Tw w o1 o2 x1 x2 W' :=
  ⟨h.bel.trans (hb.mono h.bel.size), Blk.kept h.v1 hb, Blk.kept h.v2 hb, Blk.kept h.z hb, fun q e => ⟨Blk.kept (h.p1 q e).1 hb, (h.p1 q e).2⟩, fun q e => ⟨Blk.kept (h.p2 q e).1 hb, (h.p2 q e).2⟩, h.ne⟩
theorem Tw.alloc1 (h : Tw w o1 o2 none x2 W) : Tw w o1 o2 (some (W.heap.size, zobj)) x2 (W.alloc zobj) := by
  have k := h.kept (W' := W.alloc zobj) ((Below.refl _ _).alloc (Nat.le_refl _) _)
  exact ⟨k.bel, k.v1, k.v2, k.z, fun q e => by injection e with e; subst e; exact ⟨heap_alloc_new _ _, Blk.lt h.z⟩, k.p2, fun q r e1 e2 => by injection e1 with e1; subst e1; have := Blk.lt (h.p2 r e2).1; show W.heap.size ≠ r.1; omega⟩
theorem Tw.alloc2 (h : Tw w o1 o2 x1 none W) : Tw w o1 o2 x1 (some (W.heap.size, zobj)) (W.alloc zobj) := by
  have k := h.kept (W' := W.alloc zobj) ((Below.refl _ _).alloc (Nat.le_refl _) _)
  exact ⟨k.bel, k.v1, k.v2, k.z, k.p1, fun q e => by injection e with e; subst e; exact ⟨heap_alloc_new _ _, Blk.lt h.z⟩, fun q r e1 e2 => by injection e2 with e2; subst e2; have := Blk.lt (h.p1 q e1).1; show q.1 ≠ W.heap.size; omega⟩
theorem Tw.store1 {b : Nat} {o : Obj} {A : Array Value} (h : Tw w o1 o2 (some (b, o)) x2 W) (hs : Agb.Sto 35 W b A W') : Tw w o1 o2 (some (b, .cells A 35 (0, 0))) x2 W' := by
  have hb := (h.p1 _ rfl).2
  simp only at hb
  have hne : ∀ r, x2 = some r → r.1 ≠ b := fun r e q => h.ne _ r rfl e q.symm
  refine ⟨hs.below _ _ (by omega) h.bel, (hs.other _ (by omega)).trans h.v1, (hs.other _ (by omega)).trans h.v2, (hs.other _ (by omega)).trans h.z, fun q e => ?_, fun q e => ⟨(hs.other _ (hne q e)).trans (h.p2 q e).1, (h.p2 q e).2⟩, fun q r e1 e2 => ?_⟩
  · injection e with e; subst e; exact ⟨hs.box, hb⟩
  · injection e1 with e1; subst e1; exact h.ne (b, o) r rfl e2
theorem Tw.store2 {b : Nat} {o : Obj} {A : Array Value} (h : Tw w o1 o2 x1 (some (b, o)) W) (hs : Agb.Sto 35 W b A W') : Tw w o1 o2 x1 (some (b, .cells A 35 (0, 0))) W' := by
  have hb := (h.p2 _ rfl).2
  simp only at hb
  have hne : ∀ r, x1 = some r → r.1 ≠ b := fun r e q => h.ne r _ e rfl q
  refine ⟨hs.below _ _ (by omega) h.bel, (hs.other _ (by omega)).trans h.v1, (hs.other _ (by omega)).trans h.v2, (hs.other _ (by omega)).trans h.z, fun q e => ⟨(hs.other _ (hne q e)).trans (h.p1 q e).1, (h.p1 q e).2⟩, fun q e => ?_, fun q r e1 e2 => ?_⟩
  · injection e with e; subst e; exact ⟨hs.box, hb⟩
  · injection e2 with e2; subst e2; exact h.ne q (b, o) e1 rfl
end
theorem changed_bare {Lf L : List Li} {R : Nat} {rs ss : List (List Cl)} {P P' : Nat → Bool} {f f' : Nat → List Cl} (hl : L.length = R) (h1 : Lf.map bare = mkL R P f) (h2 : L.map bare = mkL R P' f') (hP : ∀ i, P i = true) (hP' : ∀ i, P' i = true) (hf : ∀ i, f i = rowOf rs i) (hf' : ∀ i, f' i = rowOf ss i) :
    (setK (chF Lf L) L L.length).map bare = mkL R (chB rs ss) (rowOf ss) := by
  have hlf : Lf.length = R := by have := congrArg List.length h1; rwa [List.length_map, mkL_length] at this
  refine bare_is (by rw [setK_length, hl]) fun k hk => ?_
  rw [setK_get _ _ _ (by omega), if_pos (by omega)]
  have e1 := bare_get h1 (k := k) (by omega)
  have e2 := bare_get h2 (k := k) (by omega)
  rw [if_pos (hP k), hf] at e1
  rw [if_pos (hP' k), hf'] at e2
  unfold chF
  rw [e1, e2]
  by_cases q : rowOf rs k = rowOf ss k
  · have hc : chB rs ss k = false := by unfold chB; exact @decide_eq_false _ (Classical.propDecidable _) (fun n => n q)
    have hR : (if chB rs ss k = true then some (rowOf ss k) else none) = none := by rw [hc]; rfl
    rw [hR, @if_pos _ (Classical.propDecidable _) (by rw [q])]
    rfl
  · have hc : chB rs ss k = true := by unfold chB; exact @decide_eq_true _ (Classical.propDecidable _) q
    have hR : (if chB rs ss k = true then some (rowOf ss k) else none) = some (rowOf ss k) := by rw [hc]; rfl
    rw [hR, @if_neg _ (Classical.propDecidable _) (fun e => q (by injection e))]
    exact e2
theorem changed_ok {w : World} {c : Nat} {Lf L : List Li} (h : LisOk w c L) : LisOk w c (setK (chF Lf L) L L.length) := by
  refine lisOk_of fun j hj => ?_
  rw [setK_length] at hj
  rw [setK_get _ _ _ hj, if_pos hj]
  unfold chF
  by_cases q : bare (Lf.getD j default) = bare (L.getD j default)
  · rw [@if_pos _ (Classical.propDecidable _) q]; intro y e; cases e
  · rw [@if_neg _ (Classical.propDecidable _) q]; exact h.get hj
set_option maxHeartbeats 12800000 in
theorem between_t (R1 C1 p1 q1 m1 R2 C2 p2 q2 m2 : Int) (t1 t2 : List UInt8) (l1 l2 : List Cl) (A1 A2 : Option Addr) (c1 c2 : Nat) (ba bb : Bool) (w : World) (hba : viewB (⟨⟨R1, C1, l1⟩, p1, q1, m1, t1⟩ : Vw) = ba) (hbb : viewB (⟨⟨R2, C2, l2⟩, p2, q2, m2, t2⟩ : Vw) = bb) (hx : Rm w (.slice A1 l1.length c1) l1) (hy : Rm w (.slice A2 l2.length c2) l2) (hs1 : Held l1) (hs2 : Held l2) (hT : Tabs w) (ht1 : t1.length ≤ 1000000000) (ht2 : t2.length ≤ 1000000000)
    (bt : Pt) (hyes : (ba && bb) = true → bt = between (⟨⟨R1, C1, l1⟩, p1, q1, m1, t1⟩ : Vw) (⟨⟨R2, C2, l2⟩, p2, q2, m2, t2⟩ : Vw)) (hno : (ba && bb) = false → bt = noP) :
    Calls Tryd.prog 6 #[.agg #[.int .i64 R1, .int .i64 C1, .slice A1 l1.length c1, .int .i64 p1, .int .i64 q1, .int .i64 m1, .string ⟨t1.toArray⟩], .agg #[.int .i64 R2, .int .i64 C2, .slice A2 l2.length c2, .int .i64 p2, .int .i64 q2, .int .i64 m2, .string ⟨t2.toArray⟩]] w fun e w' => ∃ u v, e = .returned (.tuple #[pagg bt u v, .int .i64 (codeB (ba && bb))]) ∧ OwnN w' w.heap.size u bt.at_ ∧ OwnCs w' w.heap.size v bt.cells ∧ Below w.heap.size w w' := by
  have HA1 := Lib.hid (fun W => all_t R1 C1 p1 q1 m1 ⟨t1.toArray⟩ A1 l1.length c1 W)
  have HA2 := Lib.hid (fun W => all_t R2 C2 p2 q2 m2 ⟨t2.toArray⟩ A2 l2.length c2 W)
  have HM1 := Lib.hid (fun W (hw : Below w.heap.size w W) => may_whole R1 C1 p1 q1 m1 t1 l1 A1 c1 ba W hba (hx.kept hw) hs1 (hT.kept hw) ht1)
  have HM2 := Lib.hid (fun W (hw : Below w.heap.size w W) => may_whole R2 C2 p2 q2 m2 t2 l2 A2 c2 bb W hbb (hy.kept hw) hs2 (hT.kept hw) ht2)
  have HAL := Lib.hid (fun W => alike_t R1 C1 p1 q1 m1 R2 C2 p2 q2 m2 true true ⟨t1.toArray⟩ ⟨t2.toArray⟩ (.slice none 0 0) (.slice A1 l1.length c1) (.slice none 0 0) (.slice A2 l2.length c2) W)
  have HX := Lib.hid hx
  have HY := Lib.hid hy
  have HBA := Lib.hid hba
  have HBB := Lib.hid hbb
  have HYES := Lib.hid hyes
  have HNO := Lib.hid hno
  have HT : Hid (Tw w (.cells #[.int .i64 R1, .int .i64 C1, .slice A1 l1.length c1, .int .i64 p1, .int .i64 q1, .int .i64 m1, .string ⟨t1.toArray⟩] 32 (0, 0)) (.cells #[.int .i64 R2, .int .i64 C2, .slice A2 l2.length c2, .int .i64 p2, .int .i64 q2, .int .i64 m2, .string ⟨t2.toArray⟩] 32 (0, 0)) none none (((w.alloc (.cells #[.int .i64 R1, .int .i64 C1, .slice A1 l1.length c1, .int .i64 p1, .int .i64 q1, .int .i64 m1, .string ⟨t1.toArray⟩] 32 (0, 0))).alloc (.cells #[.int .i64 R2, .int .i64 C2, .slice A2 l2.length c2, .int .i64 p2, .int .i64 q2, .int .i64 m2, .string ⟨t2.toArray⟩] 32 (0, 0))).alloc (.cells #[.int .i64 0, .int .i64 0, .bool false, .slice none 0 0, .slice none 0 0, .int .i64 0, .int .i64 0, .int .i64 0, .string ⟨#[]⟩] 35 (0, 0))).drew) := Lib.hid ⟨((((Below.refl w.heap.size w).alloc (Nat.le_refl _) _).alloc (by simp) _).alloc (by simp; omega) _).drew, (old_alloc (old_alloc (new_alloc _ _ _ rfl) _) _ : (((w.alloc (.cells #[.int .i64 R1, .int .i64 C1, .slice A1 l1.length c1, .int .i64 p1, .int .i64 q1, .int .i64 m1, .string ⟨t1.toArray⟩] 32 (0, 0))).alloc (.cells #[.int .i64 R2, .int .i64 C2, .slice A2 l2.length c2, .int .i64 p2, .int .i64 q2, .int .i64 m2, .string ⟨t2.toArray⟩] 32 (0, 0))).alloc (.cells #[.int .i64 0, .int .i64 0, .bool false, .slice none 0 0, .slice none 0 0, .int .i64 0, .int .i64 0, .int .i64 0, .string ⟨#[]⟩] 35 (0, 0))).heap[w.heap.size]? = _), (old_alloc (new_alloc _ _ _ (by simp)) _ : (((w.alloc (.cells #[.int .i64 R1, .int .i64 C1, .slice A1 l1.length c1, .int .i64 p1, .int .i64 q1, .int .i64 m1, .string ⟨t1.toArray⟩] 32 (0, 0))).alloc (.cells #[.int .i64 R2, .int .i64 C2, .slice A2 l2.length c2, .int .i64 p2, .int .i64 q2, .int .i64 m2, .string ⟨t2.toArray⟩] 32 (0, 0))).alloc (.cells #[.int .i64 0, .int .i64 0, .bool false, .slice none 0 0, .slice none 0 0, .int .i64 0, .int .i64 0, .int .i64 0, .string ⟨#[]⟩] 35 (0, 0))).heap[w.heap.size + 1]? = _), (new_alloc _ _ _ (by simp) : (((w.alloc (.cells #[.int .i64 R1, .int .i64 C1, .slice A1 l1.length c1, .int .i64 p1, .int .i64 q1, .int .i64 m1, .string ⟨t1.toArray⟩] 32 (0, 0))).alloc (.cells #[.int .i64 R2, .int .i64 C2, .slice A2 l2.length c2, .int .i64 p2, .int .i64 q2, .int .i64 m2, .string ⟨t2.toArray⟩] 32 (0, 0))).alloc (.cells #[.int .i64 0, .int .i64 0, .bool false, .slice none 0 0, .slice none 0 0, .int .i64 0, .int .i64 0, .int .i64 0, .string ⟨#[]⟩] 35 (0, 0))).heap[w.heap.size + 1 + 1]? = _), fun q e => (by cases e), fun q e => (by cases e), fun q r e => (by cases e)⟩
  clear hx hy hba hbb hyes hno hT hs1 hs2 ht1 ht2
  go_enter Tryd.func6, Tryd.ntmps6
  go_upto_region 1 with (fail)
  go_cut [6, 7] from 6 to 12 (fun s6 s7 wx => ∃ b6 b7, s6 = .pointer (some ⟨b6, 0, none⟩) ∧ s7 = .pointer (some ⟨b7, 0, none⟩) ∧ Hid (Tw w (.cells #[.int .i64 R1, .int .i64 C1, .slice A1 l1.length c1, .int .i64 p1, .int .i64 q1, .int .i64 m1, .string ⟨t1.toArray⟩] 32 (0, 0)) (.cells #[.int .i64 R2, .int .i64 C2, .slice A2 l2.length c2, .int .i64 p2, .int .i64 q2, .int .i64 m2, .string ⟨t2.toArray⟩] 32 (0, 0)) (some (b6, .cells #[.int .i64 R1, .int .i64 C1, .bool true, .slice none 0 0, .slice A1 l1.length c1, .int .i64 p1, .int .i64 q1, .int .i64 m1, .string ⟨t1.toArray⟩] 35 (0, 0))) (some (b7, .cells #[.int .i64 R2, .int .i64 C2, .bool true, .slice none 0 0, .slice A2 l2.length c2, .int .i64 p2, .int .i64 q2, .int .i64 m2, .string ⟨t2.toArray⟩] 35 (0, 0))) wx))
  case first =>
    refine wp_region_held_drew (S := fun w' => w'.heap[w.heap.size]? = some (.cells #[.int .i64 R1, .int .i64 C1, .slice A1 l1.length c1, .int .i64 p1, .int .i64 q1, .int .i64 m1, .string ⟨t1.toArray⟩] 32 (0, 0)) ∧ w'.heap[w.heap.size + 1]? = some (.cells #[.int .i64 R2, .int .i64 C2, .slice A2 l2.length c2, .int .i64 p2, .int .i64 q2, .int .i64 m2, .string ⟨t2.toArray⟩] 32 (0, 0))) (by kernel_rfl) ⟨HT.out.v1, HT.out.v2⟩ (fun hHeld => ?_)
    generalize (((w.alloc (.cells #[.int .i64 R1, .int .i64 C1, .slice A1 l1.length c1, .int .i64 p1, .int .i64 q1, .int .i64 m1, .string ⟨t1.toArray⟩] 32 (0, 0))).alloc (.cells #[.int .i64 R2, .int .i64 C2, .slice A2 l2.length c2, .int .i64 p2, .int .i64 q2, .int .i64 m2, .string ⟨t2.toArray⟩] 32 (0, 0))).alloc (.cells #[.int .i64 0, .int .i64 0, .bool false, .slice none 0 0, .slice none 0 0, .int .i64 0, .int .i64 0, .int .i64 0, .string ⟨#[]⟩] 35 (0, 0))).drew = wd at HT hHeld ⊢
    refine wpAnyH_take (i := 0) (v := .agg #[.int .i64 R1, .int .i64 C1, .slice A1 l1.length c1, .int .i64 p1, .int .i64 q1, .int .i64 m1, .string ⟨t1.toArray⟩]) rfl (by kernel_rfl) (by kernel_rfl) (by kernel_rfl) (fun _ _ _ h => h) (yields_loadA aggView rfl rfl rfl (fun w' hS => hS.1) rfl) (by assumption) ?_
    simp only [Act.put, List.getElem_toArray, List.getElem_cons_zero, List.setIfInBounds_toArray, List.set_cons_zero, List.set_cons_succ]
    refine wpAnyH_take (i := 2) (v := .agg #[.int .i64 R2, .int .i64 C2, .slice A2 l2.length c2, .int .i64 p2, .int .i64 q2, .int .i64 m2, .string ⟨t2.toArray⟩]) rfl (by kernel_rfl) (by kernel_rfl) (by kernel_rfl) (fun _ _ _ h => h) (yields_loadA aggView rfl rfl rfl (fun w' hS => hS.2) rfl) (by assumption) ?_
    simp only [Act.put, List.getElem_toArray, List.getElem_cons_zero, List.getElem_cons_succ, List.setIfInBounds_toArray, List.set_cons_zero, List.set_cons_succ]
    refine wpAnyH_ready (rs := [1, 4, 5]) (by kernel_rfl) (by simp) ?_
    refine AllReadyH.cons rfl (fun K hK => ?_) ?_
    · go_simp
      go_at_call 16
      refine (HA1.out _).mono ?_; rintro e wn1 ⟨rfl, hb⟩
      have HT := Lib.hid (HT.out.kept hb)
      clear hb
      refine hK.out _ _ ⟨HT.out.v1, HT.out.v2⟩ (fun hHeld => ?_)
      clear hK K
      refine wpAnyH_ready (rs := [3, 4, 5]) (by kernel_rfl) (by simp) ?_
      refine AllReadyH.cons rfl (fun K hK => ?_) ?_
      · go_simp
        go_at_call 16
        refine (HA2.out _).mono ?_; rintro e wn2 ⟨rfl, hb⟩
        have HT := Lib.hid (HT.out.kept hb)
        clear hb
        refine hK.out _ _ ⟨HT.out.v1, HT.out.v2⟩ (fun hHeld => ?_)
        clear hK K
        refine wpAnyH_ready (rs := [4, 5]) (by kernel_rfl) (by simp) ?_
        refine AllReadyH.cons rfl (fun K hK => ?_) ?_
        · refine step_allocP rfl rfl ?_
          have HT := Lib.hid HT.out.alloc1
          generalize wn2.alloc zobj = wn3 at HT ⊢
          refine hK.out _ _ ⟨HT.out.v1, HT.out.v2⟩ (fun hHeld => ?_)
          clear hK K
          refine wpAnyH_ready (rs := [5]) (by kernel_rfl) (by simp) ?_
          refine AllReadyH.cons rfl (fun K hK => ?_) ?_
          · refine step_allocP rfl rfl ?_
            have HT := Lib.hid HT.out.alloc2
            generalize wn3.alloc zobj = wn4 at HT ⊢
            refine hK.out _ _ ⟨HT.out.v1, HT.out.v2⟩ (fun hHeld => ?_)
            clear hK K
            refine wpAnyH_ready (rs := [6]) (by kernel_rfl) (by simp) ?_
            refine AllReadyH.cons rfl (fun K hK => ?_) ?_
            · refine step_storeA aggPatch (A := #[.int .i64 R1, .int .i64 C1, .bool true, .slice none 0 0, .slice A1 l1.length c1, .int .i64 p1, .int .i64 q1, .int .i64 m1, .string ⟨t1.toArray⟩]) rfl rfl rfl rfl rfl rfl (HT.out.p1 _ rfl).1 rfl fun wn5 HSt => ?_
              have HT := Lib.hid (HT.out.store1 HSt)
              clear HSt
              refine hK.out _ _ ⟨HT.out.v1, HT.out.v2⟩ (fun hHeld => ?_)
              clear hK K
              refine wpAnyH_ready (rs := [7]) (by kernel_rfl) (by simp) ?_
              refine AllReadyH.cons rfl (fun K hK => ?_) ?_
              · refine step_storeA aggPatch (A := #[.int .i64 R2, .int .i64 C2, .bool true, .slice none 0 0, .slice A2 l2.length c2, .int .i64 p2, .int .i64 q2, .int .i64 m2, .string ⟨t2.toArray⟩]) rfl rfl rfl rfl rfl rfl (HT.out.p2 _ rfl).1 rfl fun wn6 HSt => ?_
                have HT := Lib.hid (HT.out.store2 HSt)
                clear HSt
                refine hK.out _ _ ⟨HT.out.v1, HT.out.v2⟩ (fun hHeld => ?_)
                clear hK K
                refine wpAnyH_done (by kernel_rfl) ?_ _
                go_wp2_with fail
                go_meet
                exact ⟨_, _, rfl, rfl, HT⟩
              exact AllReadyH.nil
            exact AllReadyH.nil
          exact AllReadyH.nil
        refine AllReadyH.cons rfl (fun K hK => ?_) ?_
        · refine step_allocP rfl rfl ?_
          have HT := Lib.hid HT.out.alloc2
          generalize wn2.alloc zobj = wn7 at HT ⊢
          refine hK.out _ _ ⟨HT.out.v1, HT.out.v2⟩ (fun hHeld => ?_)
          clear hK K
          refine wpAnyH_ready (rs := [4]) (by kernel_rfl) (by simp) ?_
          refine AllReadyH.cons rfl (fun K hK => ?_) ?_
          · refine step_allocP rfl rfl ?_
            have HT := Lib.hid HT.out.alloc1
            generalize wn7.alloc zobj = wn8 at HT ⊢
            refine hK.out _ _ ⟨HT.out.v1, HT.out.v2⟩ (fun hHeld => ?_)
            clear hK K
            refine wpAnyH_ready (rs := [6]) (by kernel_rfl) (by simp) ?_
            refine AllReadyH.cons rfl (fun K hK => ?_) ?_
            · refine step_storeA aggPatch (A := #[.int .i64 R1, .int .i64 C1, .bool true, .slice none 0 0, .slice A1 l1.length c1, .int .i64 p1, .int .i64 q1, .int .i64 m1, .string ⟨t1.toArray⟩]) rfl rfl rfl rfl rfl rfl (HT.out.p1 _ rfl).1 rfl fun wn9 HSt => ?_
              have HT := Lib.hid (HT.out.store1 HSt)
              clear HSt
              refine hK.out _ _ ⟨HT.out.v1, HT.out.v2⟩ (fun hHeld => ?_)
              clear hK K
              refine wpAnyH_ready (rs := [7]) (by kernel_rfl) (by simp) ?_
              refine AllReadyH.cons rfl (fun K hK => ?_) ?_
              · refine step_storeA aggPatch (A := #[.int .i64 R2, .int .i64 C2, .bool true, .slice none 0 0, .slice A2 l2.length c2, .int .i64 p2, .int .i64 q2, .int .i64 m2, .string ⟨t2.toArray⟩]) rfl rfl rfl rfl rfl rfl (HT.out.p2 _ rfl).1 rfl fun wn10 HSt => ?_
                have HT := Lib.hid (HT.out.store2 HSt)
                clear HSt
                refine hK.out _ _ ⟨HT.out.v1, HT.out.v2⟩ (fun hHeld => ?_)
                clear hK K
                refine wpAnyH_done (by kernel_rfl) ?_ _
                go_wp2_with fail
                go_meet
                exact ⟨_, _, rfl, rfl, HT⟩
              exact AllReadyH.nil
            exact AllReadyH.nil
          exact AllReadyH.nil
        exact AllReadyH.nil
      refine AllReadyH.cons rfl (fun K hK => ?_) ?_
      · refine step_allocP rfl rfl ?_
        have HT := Lib.hid HT.out.alloc1
        generalize wn1.alloc zobj = wn11 at HT ⊢
        refine hK.out _ _ ⟨HT.out.v1, HT.out.v2⟩ (fun hHeld => ?_)
        clear hK K
        refine wpAnyH_ready (rs := [3, 5]) (by kernel_rfl) (by simp) ?_
        refine AllReadyH.cons rfl (fun K hK => ?_) ?_
        · go_simp
          go_at_call 16
          refine (HA2.out _).mono ?_; rintro e wn12 ⟨rfl, hb⟩
          have HT := Lib.hid (HT.out.kept hb)
          clear hb
          refine hK.out _ _ ⟨HT.out.v1, HT.out.v2⟩ (fun hHeld => ?_)
          clear hK K
          refine wpAnyH_ready (rs := [5]) (by kernel_rfl) (by simp) ?_
          refine AllReadyH.cons rfl (fun K hK => ?_) ?_
          · refine step_allocP rfl rfl ?_
            have HT := Lib.hid HT.out.alloc2
            generalize wn12.alloc zobj = wn13 at HT ⊢
            refine hK.out _ _ ⟨HT.out.v1, HT.out.v2⟩ (fun hHeld => ?_)
            clear hK K
            refine wpAnyH_ready (rs := [6]) (by kernel_rfl) (by simp) ?_
            refine AllReadyH.cons rfl (fun K hK => ?_) ?_
            · refine step_storeA aggPatch (A := #[.int .i64 R1, .int .i64 C1, .bool true, .slice none 0 0, .slice A1 l1.length c1, .int .i64 p1, .int .i64 q1, .int .i64 m1, .string ⟨t1.toArray⟩]) rfl rfl rfl rfl rfl rfl (HT.out.p1 _ rfl).1 rfl fun wn14 HSt => ?_
              have HT := Lib.hid (HT.out.store1 HSt)
              clear HSt
              refine hK.out _ _ ⟨HT.out.v1, HT.out.v2⟩ (fun hHeld => ?_)
              clear hK K
              refine wpAnyH_ready (rs := [7]) (by kernel_rfl) (by simp) ?_
              refine AllReadyH.cons rfl (fun K hK => ?_) ?_
              · refine step_storeA aggPatch (A := #[.int .i64 R2, .int .i64 C2, .bool true, .slice none 0 0, .slice A2 l2.length c2, .int .i64 p2, .int .i64 q2, .int .i64 m2, .string ⟨t2.toArray⟩]) rfl rfl rfl rfl rfl rfl (HT.out.p2 _ rfl).1 rfl fun wn15 HSt => ?_
                have HT := Lib.hid (HT.out.store2 HSt)
                clear HSt
                refine hK.out _ _ ⟨HT.out.v1, HT.out.v2⟩ (fun hHeld => ?_)
                clear hK K
                refine wpAnyH_done (by kernel_rfl) ?_ _
                go_wp2_with fail
                go_meet
                exact ⟨_, _, rfl, rfl, HT⟩
              exact AllReadyH.nil
            exact AllReadyH.nil
          exact AllReadyH.nil
        refine AllReadyH.cons rfl (fun K hK => ?_) ?_
        · refine step_allocP rfl rfl ?_
          have HT := Lib.hid HT.out.alloc2
          generalize wn11.alloc zobj = wn16 at HT ⊢
          refine hK.out _ _ ⟨HT.out.v1, HT.out.v2⟩ (fun hHeld => ?_)
          clear hK K
          refine wpAnyH_ready (rs := [3]) (by kernel_rfl) (by simp) ?_
          refine AllReadyH.cons rfl (fun K hK => ?_) ?_
          · go_simp
            go_at_call 16
            refine (HA2.out _).mono ?_; rintro e wn17 ⟨rfl, hb⟩
            have HT := Lib.hid (HT.out.kept hb)
            clear hb
            refine hK.out _ _ ⟨HT.out.v1, HT.out.v2⟩ (fun hHeld => ?_)
            clear hK K
            refine wpAnyH_ready (rs := [6]) (by kernel_rfl) (by simp) ?_
            refine AllReadyH.cons rfl (fun K hK => ?_) ?_
            · refine step_storeA aggPatch (A := #[.int .i64 R1, .int .i64 C1, .bool true, .slice none 0 0, .slice A1 l1.length c1, .int .i64 p1, .int .i64 q1, .int .i64 m1, .string ⟨t1.toArray⟩]) rfl rfl rfl rfl rfl rfl (HT.out.p1 _ rfl).1 rfl fun wn18 HSt => ?_
              have HT := Lib.hid (HT.out.store1 HSt)
              clear HSt
              refine hK.out _ _ ⟨HT.out.v1, HT.out.v2⟩ (fun hHeld => ?_)
              clear hK K
              refine wpAnyH_ready (rs := [7]) (by kernel_rfl) (by simp) ?_
              refine AllReadyH.cons rfl (fun K hK => ?_) ?_
              · refine step_storeA aggPatch (A := #[.int .i64 R2, .int .i64 C2, .bool true, .slice none 0 0, .slice A2 l2.length c2, .int .i64 p2, .int .i64 q2, .int .i64 m2, .string ⟨t2.toArray⟩]) rfl rfl rfl rfl rfl rfl (HT.out.p2 _ rfl).1 rfl fun wn19 HSt => ?_
                have HT := Lib.hid (HT.out.store2 HSt)
                clear HSt
                refine hK.out _ _ ⟨HT.out.v1, HT.out.v2⟩ (fun hHeld => ?_)
                clear hK K
                refine wpAnyH_done (by kernel_rfl) ?_ _
                go_wp2_with fail
                go_meet
                exact ⟨_, _, rfl, rfl, HT⟩
              exact AllReadyH.nil
            exact AllReadyH.nil
          exact AllReadyH.nil
        exact AllReadyH.nil
      refine AllReadyH.cons rfl (fun K hK => ?_) ?_
      · refine step_allocP rfl rfl ?_
        have HT := Lib.hid HT.out.alloc2
        generalize wn1.alloc zobj = wn20 at HT ⊢
        refine hK.out _ _ ⟨HT.out.v1, HT.out.v2⟩ (fun hHeld => ?_)
        clear hK K
        refine wpAnyH_ready (rs := [3, 4]) (by kernel_rfl) (by simp) ?_
        refine AllReadyH.cons rfl (fun K hK => ?_) ?_
        · go_simp
          go_at_call 16
          refine (HA2.out _).mono ?_; rintro e wn21 ⟨rfl, hb⟩
          have HT := Lib.hid (HT.out.kept hb)
          clear hb
          refine hK.out _ _ ⟨HT.out.v1, HT.out.v2⟩ (fun hHeld => ?_)
          clear hK K
          refine wpAnyH_ready (rs := [4]) (by kernel_rfl) (by simp) ?_
          refine AllReadyH.cons rfl (fun K hK => ?_) ?_
          · refine step_allocP rfl rfl ?_
            have HT := Lib.hid HT.out.alloc1
            generalize wn21.alloc zobj = wn22 at HT ⊢
            refine hK.out _ _ ⟨HT.out.v1, HT.out.v2⟩ (fun hHeld => ?_)
            clear hK K
            refine wpAnyH_ready (rs := [6]) (by kernel_rfl) (by simp) ?_
            refine AllReadyH.cons rfl (fun K hK => ?_) ?_
            · refine step_storeA aggPatch (A := #[.int .i64 R1, .int .i64 C1, .bool true, .slice none 0 0, .slice A1 l1.length c1, .int .i64 p1, .int .i64 q1, .int .i64 m1, .string ⟨t1.toArray⟩]) rfl rfl rfl rfl rfl rfl (HT.out.p1 _ rfl).1 rfl fun wn23 HSt => ?_
              have HT := Lib.hid (HT.out.store1 HSt)
              clear HSt
              refine hK.out _ _ ⟨HT.out.v1, HT.out.v2⟩ (fun hHeld => ?_)
              clear hK K
              refine wpAnyH_ready (rs := [7]) (by kernel_rfl) (by simp) ?_
              refine AllReadyH.cons rfl (fun K hK => ?_) ?_
              · refine step_storeA aggPatch (A := #[.int .i64 R2, .int .i64 C2, .bool true, .slice none 0 0, .slice A2 l2.length c2, .int .i64 p2, .int .i64 q2, .int .i64 m2, .string ⟨t2.toArray⟩]) rfl rfl rfl rfl rfl rfl (HT.out.p2 _ rfl).1 rfl fun wn24 HSt => ?_
                have HT := Lib.hid (HT.out.store2 HSt)
                clear HSt
                refine hK.out _ _ ⟨HT.out.v1, HT.out.v2⟩ (fun hHeld => ?_)
                clear hK K
                refine wpAnyH_done (by kernel_rfl) ?_ _
                go_wp2_with fail
                go_meet
                exact ⟨_, _, rfl, rfl, HT⟩
              exact AllReadyH.nil
            exact AllReadyH.nil
          exact AllReadyH.nil
        refine AllReadyH.cons rfl (fun K hK => ?_) ?_
        · refine step_allocP rfl rfl ?_
          have HT := Lib.hid HT.out.alloc1
          generalize wn20.alloc zobj = wn25 at HT ⊢
          refine hK.out _ _ ⟨HT.out.v1, HT.out.v2⟩ (fun hHeld => ?_)
          clear hK K
          refine wpAnyH_ready (rs := [3]) (by kernel_rfl) (by simp) ?_
          refine AllReadyH.cons rfl (fun K hK => ?_) ?_
          · go_simp
            go_at_call 16
            refine (HA2.out _).mono ?_; rintro e wn26 ⟨rfl, hb⟩
            have HT := Lib.hid (HT.out.kept hb)
            clear hb
            refine hK.out _ _ ⟨HT.out.v1, HT.out.v2⟩ (fun hHeld => ?_)
            clear hK K
            refine wpAnyH_ready (rs := [6]) (by kernel_rfl) (by simp) ?_
            refine AllReadyH.cons rfl (fun K hK => ?_) ?_
            · refine step_storeA aggPatch (A := #[.int .i64 R1, .int .i64 C1, .bool true, .slice none 0 0, .slice A1 l1.length c1, .int .i64 p1, .int .i64 q1, .int .i64 m1, .string ⟨t1.toArray⟩]) rfl rfl rfl rfl rfl rfl (HT.out.p1 _ rfl).1 rfl fun wn27 HSt => ?_
              have HT := Lib.hid (HT.out.store1 HSt)
              clear HSt
              refine hK.out _ _ ⟨HT.out.v1, HT.out.v2⟩ (fun hHeld => ?_)
              clear hK K
              refine wpAnyH_ready (rs := [7]) (by kernel_rfl) (by simp) ?_
              refine AllReadyH.cons rfl (fun K hK => ?_) ?_
              · refine step_storeA aggPatch (A := #[.int .i64 R2, .int .i64 C2, .bool true, .slice none 0 0, .slice A2 l2.length c2, .int .i64 p2, .int .i64 q2, .int .i64 m2, .string ⟨t2.toArray⟩]) rfl rfl rfl rfl rfl rfl (HT.out.p2 _ rfl).1 rfl fun wn28 HSt => ?_
                have HT := Lib.hid (HT.out.store2 HSt)
                clear HSt
                refine hK.out _ _ ⟨HT.out.v1, HT.out.v2⟩ (fun hHeld => ?_)
                clear hK K
                refine wpAnyH_done (by kernel_rfl) ?_ _
                go_wp2_with fail
                go_meet
                exact ⟨_, _, rfl, rfl, HT⟩
              exact AllReadyH.nil
            exact AllReadyH.nil
          exact AllReadyH.nil
        exact AllReadyH.nil
      exact AllReadyH.nil
    refine AllReadyH.cons rfl (fun K hK => ?_) ?_
    · refine step_allocP rfl rfl ?_
      have HT := Lib.hid HT.out.alloc1
      generalize wd.alloc zobj = wn29 at HT ⊢
      refine hK.out _ _ ⟨HT.out.v1, HT.out.v2⟩ (fun hHeld => ?_)
      clear hK K
      refine wpAnyH_ready (rs := [1, 5]) (by kernel_rfl) (by simp) ?_
      refine AllReadyH.cons rfl (fun K hK => ?_) ?_
      · go_simp
        go_at_call 16
        refine (HA1.out _).mono ?_; rintro e wn30 ⟨rfl, hb⟩
        have HT := Lib.hid (HT.out.kept hb)
        clear hb
        refine hK.out _ _ ⟨HT.out.v1, HT.out.v2⟩ (fun hHeld => ?_)
        clear hK K
        refine wpAnyH_ready (rs := [3, 5]) (by kernel_rfl) (by simp) ?_
        refine AllReadyH.cons rfl (fun K hK => ?_) ?_
        · go_simp
          go_at_call 16
          refine (HA2.out _).mono ?_; rintro e wn31 ⟨rfl, hb⟩
          have HT := Lib.hid (HT.out.kept hb)
          clear hb
          refine hK.out _ _ ⟨HT.out.v1, HT.out.v2⟩ (fun hHeld => ?_)
          clear hK K
          refine wpAnyH_ready (rs := [5]) (by kernel_rfl) (by simp) ?_
          refine AllReadyH.cons rfl (fun K hK => ?_) ?_
          · refine step_allocP rfl rfl ?_
            have HT := Lib.hid HT.out.alloc2
            generalize wn31.alloc zobj = wn32 at HT ⊢
            refine hK.out _ _ ⟨HT.out.v1, HT.out.v2⟩ (fun hHeld => ?_)
            clear hK K
            refine wpAnyH_ready (rs := [6]) (by kernel_rfl) (by simp) ?_
            refine AllReadyH.cons rfl (fun K hK => ?_) ?_
            · refine step_storeA aggPatch (A := #[.int .i64 R1, .int .i64 C1, .bool true, .slice none 0 0, .slice A1 l1.length c1, .int .i64 p1, .int .i64 q1, .int .i64 m1, .string ⟨t1.toArray⟩]) rfl rfl rfl rfl rfl rfl (HT.out.p1 _ rfl).1 rfl fun wn33 HSt => ?_
              have HT := Lib.hid (HT.out.store1 HSt)
              clear HSt
              refine hK.out _ _ ⟨HT.out.v1, HT.out.v2⟩ (fun hHeld => ?_)
              clear hK K
              refine wpAnyH_ready (rs := [7]) (by kernel_rfl) (by simp) ?_
              refine AllReadyH.cons rfl (fun K hK => ?_) ?_
              · refine step_storeA aggPatch (A := #[.int .i64 R2, .int .i64 C2, .bool true, .slice none 0 0, .slice A2 l2.length c2, .int .i64 p2, .int .i64 q2, .int .i64 m2, .string ⟨t2.toArray⟩]) rfl rfl rfl rfl rfl rfl (HT.out.p2 _ rfl).1 rfl fun wn34 HSt => ?_
                have HT := Lib.hid (HT.out.store2 HSt)
                clear HSt
                refine hK.out _ _ ⟨HT.out.v1, HT.out.v2⟩ (fun hHeld => ?_)
                clear hK K
                refine wpAnyH_done (by kernel_rfl) ?_ _
                go_wp2_with fail
                go_meet
                exact ⟨_, _, rfl, rfl, HT⟩
              exact AllReadyH.nil
            exact AllReadyH.nil
          exact AllReadyH.nil
        refine AllReadyH.cons rfl (fun K hK => ?_) ?_
        · refine step_allocP rfl rfl ?_
          have HT := Lib.hid HT.out.alloc2
          generalize wn30.alloc zobj = wn35 at HT ⊢
          refine hK.out _ _ ⟨HT.out.v1, HT.out.v2⟩ (fun hHeld => ?_)
          clear hK K
          refine wpAnyH_ready (rs := [3]) (by kernel_rfl) (by simp) ?_
          refine AllReadyH.cons rfl (fun K hK => ?_) ?_
          · go_simp
            go_at_call 16
            refine (HA2.out _).mono ?_; rintro e wn36 ⟨rfl, hb⟩
            have HT := Lib.hid (HT.out.kept hb)
            clear hb
            refine hK.out _ _ ⟨HT.out.v1, HT.out.v2⟩ (fun hHeld => ?_)
            clear hK K
            refine wpAnyH_ready (rs := [6]) (by kernel_rfl) (by simp) ?_
            refine AllReadyH.cons rfl (fun K hK => ?_) ?_
            · refine step_storeA aggPatch (A := #[.int .i64 R1, .int .i64 C1, .bool true, .slice none 0 0, .slice A1 l1.length c1, .int .i64 p1, .int .i64 q1, .int .i64 m1, .string ⟨t1.toArray⟩]) rfl rfl rfl rfl rfl rfl (HT.out.p1 _ rfl).1 rfl fun wn37 HSt => ?_
              have HT := Lib.hid (HT.out.store1 HSt)
              clear HSt
              refine hK.out _ _ ⟨HT.out.v1, HT.out.v2⟩ (fun hHeld => ?_)
              clear hK K
              refine wpAnyH_ready (rs := [7]) (by kernel_rfl) (by simp) ?_
              refine AllReadyH.cons rfl (fun K hK => ?_) ?_
              · refine step_storeA aggPatch (A := #[.int .i64 R2, .int .i64 C2, .bool true, .slice none 0 0, .slice A2 l2.length c2, .int .i64 p2, .int .i64 q2, .int .i64 m2, .string ⟨t2.toArray⟩]) rfl rfl rfl rfl rfl rfl (HT.out.p2 _ rfl).1 rfl fun wn38 HSt => ?_
                have HT := Lib.hid (HT.out.store2 HSt)
                clear HSt
                refine hK.out _ _ ⟨HT.out.v1, HT.out.v2⟩ (fun hHeld => ?_)
                clear hK K
                refine wpAnyH_done (by kernel_rfl) ?_ _
                go_wp2_with fail
                go_meet
                exact ⟨_, _, rfl, rfl, HT⟩
              exact AllReadyH.nil
            exact AllReadyH.nil
          exact AllReadyH.nil
        exact AllReadyH.nil
      refine AllReadyH.cons rfl (fun K hK => ?_) ?_
      · refine step_allocP rfl rfl ?_
        have HT := Lib.hid HT.out.alloc2
        generalize wn29.alloc zobj = wn39 at HT ⊢
        refine hK.out _ _ ⟨HT.out.v1, HT.out.v2⟩ (fun hHeld => ?_)
        clear hK K
        refine wpAnyH_ready (rs := [1]) (by kernel_rfl) (by simp) ?_
        refine AllReadyH.cons rfl (fun K hK => ?_) ?_
        · go_simp
          go_at_call 16
          refine (HA1.out _).mono ?_; rintro e wn40 ⟨rfl, hb⟩
          have HT := Lib.hid (HT.out.kept hb)
          clear hb
          refine hK.out _ _ ⟨HT.out.v1, HT.out.v2⟩ (fun hHeld => ?_)
          clear hK K
          refine wpAnyH_ready (rs := [3]) (by kernel_rfl) (by simp) ?_
          refine AllReadyH.cons rfl (fun K hK => ?_) ?_
          · go_simp
            go_at_call 16
            refine (HA2.out _).mono ?_; rintro e wn41 ⟨rfl, hb⟩
            have HT := Lib.hid (HT.out.kept hb)
            clear hb
            refine hK.out _ _ ⟨HT.out.v1, HT.out.v2⟩ (fun hHeld => ?_)
            clear hK K
            refine wpAnyH_ready (rs := [6]) (by kernel_rfl) (by simp) ?_
            refine AllReadyH.cons rfl (fun K hK => ?_) ?_
            · refine step_storeA aggPatch (A := #[.int .i64 R1, .int .i64 C1, .bool true, .slice none 0 0, .slice A1 l1.length c1, .int .i64 p1, .int .i64 q1, .int .i64 m1, .string ⟨t1.toArray⟩]) rfl rfl rfl rfl rfl rfl (HT.out.p1 _ rfl).1 rfl fun wn42 HSt => ?_
              have HT := Lib.hid (HT.out.store1 HSt)
              clear HSt
              refine hK.out _ _ ⟨HT.out.v1, HT.out.v2⟩ (fun hHeld => ?_)
              clear hK K
              refine wpAnyH_ready (rs := [7]) (by kernel_rfl) (by simp) ?_
              refine AllReadyH.cons rfl (fun K hK => ?_) ?_
              · refine step_storeA aggPatch (A := #[.int .i64 R2, .int .i64 C2, .bool true, .slice none 0 0, .slice A2 l2.length c2, .int .i64 p2, .int .i64 q2, .int .i64 m2, .string ⟨t2.toArray⟩]) rfl rfl rfl rfl rfl rfl (HT.out.p2 _ rfl).1 rfl fun wn43 HSt => ?_
                have HT := Lib.hid (HT.out.store2 HSt)
                clear HSt
                refine hK.out _ _ ⟨HT.out.v1, HT.out.v2⟩ (fun hHeld => ?_)
                clear hK K
                refine wpAnyH_done (by kernel_rfl) ?_ _
                go_wp2_with fail
                go_meet
                exact ⟨_, _, rfl, rfl, HT⟩
              exact AllReadyH.nil
            exact AllReadyH.nil
          exact AllReadyH.nil
        exact AllReadyH.nil
      exact AllReadyH.nil
    refine AllReadyH.cons rfl (fun K hK => ?_) ?_
    · refine step_allocP rfl rfl ?_
      have HT := Lib.hid HT.out.alloc2
      generalize wd.alloc zobj = wn44 at HT ⊢
      refine hK.out _ _ ⟨HT.out.v1, HT.out.v2⟩ (fun hHeld => ?_)
      clear hK K
      refine wpAnyH_ready (rs := [1, 4]) (by kernel_rfl) (by simp) ?_
      refine AllReadyH.cons rfl (fun K hK => ?_) ?_
      · go_simp
        go_at_call 16
        refine (HA1.out _).mono ?_; rintro e wn45 ⟨rfl, hb⟩
        have HT := Lib.hid (HT.out.kept hb)
        clear hb
        refine hK.out _ _ ⟨HT.out.v1, HT.out.v2⟩ (fun hHeld => ?_)
        clear hK K
        refine wpAnyH_ready (rs := [3, 4]) (by kernel_rfl) (by simp) ?_
        refine AllReadyH.cons rfl (fun K hK => ?_) ?_
        · go_simp
          go_at_call 16
          refine (HA2.out _).mono ?_; rintro e wn46 ⟨rfl, hb⟩
          have HT := Lib.hid (HT.out.kept hb)
          clear hb
          refine hK.out _ _ ⟨HT.out.v1, HT.out.v2⟩ (fun hHeld => ?_)
          clear hK K
          refine wpAnyH_ready (rs := [4]) (by kernel_rfl) (by simp) ?_
          refine AllReadyH.cons rfl (fun K hK => ?_) ?_
          · refine step_allocP rfl rfl ?_
            have HT := Lib.hid HT.out.alloc1
            generalize wn46.alloc zobj = wn47 at HT ⊢
            refine hK.out _ _ ⟨HT.out.v1, HT.out.v2⟩ (fun hHeld => ?_)
            clear hK K
            refine wpAnyH_ready (rs := [6]) (by kernel_rfl) (by simp) ?_
            refine AllReadyH.cons rfl (fun K hK => ?_) ?_
            · refine step_storeA aggPatch (A := #[.int .i64 R1, .int .i64 C1, .bool true, .slice none 0 0, .slice A1 l1.length c1, .int .i64 p1, .int .i64 q1, .int .i64 m1, .string ⟨t1.toArray⟩]) rfl rfl rfl rfl rfl rfl (HT.out.p1 _ rfl).1 rfl fun wn48 HSt => ?_
              have HT := Lib.hid (HT.out.store1 HSt)
              clear HSt
              refine hK.out _ _ ⟨HT.out.v1, HT.out.v2⟩ (fun hHeld => ?_)
              clear hK K
              refine wpAnyH_ready (rs := [7]) (by kernel_rfl) (by simp) ?_
              refine AllReadyH.cons rfl (fun K hK => ?_) ?_
              · refine step_storeA aggPatch (A := #[.int .i64 R2, .int .i64 C2, .bool true, .slice none 0 0, .slice A2 l2.length c2, .int .i64 p2, .int .i64 q2, .int .i64 m2, .string ⟨t2.toArray⟩]) rfl rfl rfl rfl rfl rfl (HT.out.p2 _ rfl).1 rfl fun wn49 HSt => ?_
                have HT := Lib.hid (HT.out.store2 HSt)
                clear HSt
                refine hK.out _ _ ⟨HT.out.v1, HT.out.v2⟩ (fun hHeld => ?_)
                clear hK K
                refine wpAnyH_done (by kernel_rfl) ?_ _
                go_wp2_with fail
                go_meet
                exact ⟨_, _, rfl, rfl, HT⟩
              exact AllReadyH.nil
            exact AllReadyH.nil
          exact AllReadyH.nil
        refine AllReadyH.cons rfl (fun K hK => ?_) ?_
        · refine step_allocP rfl rfl ?_
          have HT := Lib.hid HT.out.alloc1
          generalize wn45.alloc zobj = wn50 at HT ⊢
          refine hK.out _ _ ⟨HT.out.v1, HT.out.v2⟩ (fun hHeld => ?_)
          clear hK K
          refine wpAnyH_ready (rs := [3]) (by kernel_rfl) (by simp) ?_
          refine AllReadyH.cons rfl (fun K hK => ?_) ?_
          · go_simp
            go_at_call 16
            refine (HA2.out _).mono ?_; rintro e wn51 ⟨rfl, hb⟩
            have HT := Lib.hid (HT.out.kept hb)
            clear hb
            refine hK.out _ _ ⟨HT.out.v1, HT.out.v2⟩ (fun hHeld => ?_)
            clear hK K
            refine wpAnyH_ready (rs := [6]) (by kernel_rfl) (by simp) ?_
            refine AllReadyH.cons rfl (fun K hK => ?_) ?_
            · refine step_storeA aggPatch (A := #[.int .i64 R1, .int .i64 C1, .bool true, .slice none 0 0, .slice A1 l1.length c1, .int .i64 p1, .int .i64 q1, .int .i64 m1, .string ⟨t1.toArray⟩]) rfl rfl rfl rfl rfl rfl (HT.out.p1 _ rfl).1 rfl fun wn52 HSt => ?_
              have HT := Lib.hid (HT.out.store1 HSt)
              clear HSt
              refine hK.out _ _ ⟨HT.out.v1, HT.out.v2⟩ (fun hHeld => ?_)
              clear hK K
              refine wpAnyH_ready (rs := [7]) (by kernel_rfl) (by simp) ?_
              refine AllReadyH.cons rfl (fun K hK => ?_) ?_
              · refine step_storeA aggPatch (A := #[.int .i64 R2, .int .i64 C2, .bool true, .slice none 0 0, .slice A2 l2.length c2, .int .i64 p2, .int .i64 q2, .int .i64 m2, .string ⟨t2.toArray⟩]) rfl rfl rfl rfl rfl rfl (HT.out.p2 _ rfl).1 rfl fun wn53 HSt => ?_
                have HT := Lib.hid (HT.out.store2 HSt)
                clear HSt
                refine hK.out _ _ ⟨HT.out.v1, HT.out.v2⟩ (fun hHeld => ?_)
                clear hK K
                refine wpAnyH_done (by kernel_rfl) ?_ _
                go_wp2_with fail
                go_meet
                exact ⟨_, _, rfl, rfl, HT⟩
              exact AllReadyH.nil
            exact AllReadyH.nil
          exact AllReadyH.nil
        exact AllReadyH.nil
      refine AllReadyH.cons rfl (fun K hK => ?_) ?_
      · refine step_allocP rfl rfl ?_
        have HT := Lib.hid HT.out.alloc1
        generalize wn44.alloc zobj = wn54 at HT ⊢
        refine hK.out _ _ ⟨HT.out.v1, HT.out.v2⟩ (fun hHeld => ?_)
        clear hK K
        refine wpAnyH_ready (rs := [1]) (by kernel_rfl) (by simp) ?_
        refine AllReadyH.cons rfl (fun K hK => ?_) ?_
        · go_simp
          go_at_call 16
          refine (HA1.out _).mono ?_; rintro e wn55 ⟨rfl, hb⟩
          have HT := Lib.hid (HT.out.kept hb)
          clear hb
          refine hK.out _ _ ⟨HT.out.v1, HT.out.v2⟩ (fun hHeld => ?_)
          clear hK K
          refine wpAnyH_ready (rs := [3]) (by kernel_rfl) (by simp) ?_
          refine AllReadyH.cons rfl (fun K hK => ?_) ?_
          · go_simp
            go_at_call 16
            refine (HA2.out _).mono ?_; rintro e wn56 ⟨rfl, hb⟩
            have HT := Lib.hid (HT.out.kept hb)
            clear hb
            refine hK.out _ _ ⟨HT.out.v1, HT.out.v2⟩ (fun hHeld => ?_)
            clear hK K
            refine wpAnyH_ready (rs := [6]) (by kernel_rfl) (by simp) ?_
            refine AllReadyH.cons rfl (fun K hK => ?_) ?_
            · refine step_storeA aggPatch (A := #[.int .i64 R1, .int .i64 C1, .bool true, .slice none 0 0, .slice A1 l1.length c1, .int .i64 p1, .int .i64 q1, .int .i64 m1, .string ⟨t1.toArray⟩]) rfl rfl rfl rfl rfl rfl (HT.out.p1 _ rfl).1 rfl fun wn57 HSt => ?_
              have HT := Lib.hid (HT.out.store1 HSt)
              clear HSt
              refine hK.out _ _ ⟨HT.out.v1, HT.out.v2⟩ (fun hHeld => ?_)
              clear hK K
              refine wpAnyH_ready (rs := [7]) (by kernel_rfl) (by simp) ?_
              refine AllReadyH.cons rfl (fun K hK => ?_) ?_
              · refine step_storeA aggPatch (A := #[.int .i64 R2, .int .i64 C2, .bool true, .slice none 0 0, .slice A2 l2.length c2, .int .i64 p2, .int .i64 q2, .int .i64 m2, .string ⟨t2.toArray⟩]) rfl rfl rfl rfl rfl rfl (HT.out.p2 _ rfl).1 rfl fun wn58 HSt => ?_
                have HT := Lib.hid (HT.out.store2 HSt)
                clear HSt
                refine hK.out _ _ ⟨HT.out.v1, HT.out.v2⟩ (fun hHeld => ?_)
                clear hK K
                refine wpAnyH_done (by kernel_rfl) ?_ _
                go_wp2_with fail
                go_meet
                exact ⟨_, _, rfl, rfl, HT⟩
              exact AllReadyH.nil
            exact AllReadyH.nil
          exact AllReadyH.nil
        exact AllReadyH.nil
      exact AllReadyH.nil
    exact AllReadyH.nil
  case rest =>
    obtain ⟨b6, b7, rfl, rfl, HT⟩ := hcut
    go_wp2_with (refine wp_loadP rfl rfl rfl (HT.out.p1 _ rfl).1 ?_)
    refine (HM1.out _ HT.out.bel).mono ?_; rintro e w2 ⟨rfl, hb⟩
    have HT := Lib.hid (HT.out.kept hb)
    clear hb
    cases ba with
    | false =>
      obtain rfl := HNO.out rfl
      simp only [codeB, Bool.false_eq_true, if_false]
      go_wp2_with (refine wp_storeP (T := fun w' => w'.heap[w.heap.size + 1 + 1]? = some (.cells #[.int .i64 0, .int .i64 0, .bool false, .slice none 0 0, .slice none 0 0, .int .i64 0, .int .i64 0, .int .i64 0, .string ⟨#[]⟩] 35 (0, 0)) ∧ Below w.heap.size w w') rfl rfl rfl rfl rfl HT.out.z (fun w' h => ⟨h.box, h.below _ _ (by omega) HT.out.bel⟩) ?_; intro wF HF)
      exact bodyPost_ret (v := .tuple #[.agg #[.int .i64 0, .int .i64 0, .bool false, .slice none 0 0, .slice none 0 0, .int .i64 0, .int .i64 0, .int .i64 0, .string ⟨#[]⟩], .int .i64 1]) (ret2A aggPatch Tryd.results6 rfl HF.out.1 rfl rfl) rfl ⟨nilS, nilS, rfl, OwnN.nil _ _, World.ownsRow_nil _ _ _ _, HF.out.2⟩
    | true =>
      go_wp2_with (refine wp_loadP rfl rfl rfl (HT.out.p2 _ rfl).1 ?_)
      refine (HM2.out _ HT.out.bel).mono ?_; rintro e w3 ⟨rfl, hb⟩
      have HT := Lib.hid (HT.out.kept hb)
      clear hb
      cases bb with
      | false =>
        obtain rfl := HNO.out rfl
        simp only [codeB, Bool.false_eq_true, if_false]
        go_wp2_with (refine wp_storeP (T := fun w' => w'.heap[w.heap.size + 1 + 1]? = some (.cells #[.int .i64 0, .int .i64 0, .bool false, .slice none 0 0, .slice none 0 0, .int .i64 0, .int .i64 0, .int .i64 0, .string ⟨#[]⟩] 35 (0, 0)) ∧ Below w.heap.size w w') rfl rfl rfl rfl rfl HT.out.z (fun w' h => ⟨h.box, h.below _ _ (by omega) HT.out.bel⟩) ?_; intro wF HF)
        exact bodyPost_ret (v := .tuple #[.agg #[.int .i64 0, .int .i64 0, .bool false, .slice none 0 0, .slice none 0 0, .int .i64 0, .int .i64 0, .int .i64 0, .string ⟨#[]⟩], .int .i64 1]) (ret2A aggPatch Tryd.results6 rfl HF.out.1 rfl rfl) rfl ⟨nilS, nilS, rfl, OwnN.nil _ _, World.ownsRow_nil _ _ _ _, HF.out.2⟩
      | true =>
        have HYE := Lib.hid (HYES.out rfl)
        clear HM1 HM2 HA1 HA2 HNO HYES
        have HVA := Lib.hid ((viewB_iff _).1 HBA.out).2
        have HVB := Lib.hid ((viewB_iff _).1 HBB.out).2
        obtain ⟨R', C', rs, ea, hra⟩ := HVA.out
        obtain ⟨R, C, ss, eb, hrb⟩ := HVB.out
        have HPA : Hid (PtR (whole (⟨⟨R1, C1, l1⟩, p1, q1, m1, t1⟩ : Vw)) R' C' [] rs) := Lib.hid (by
          simp only [Gr.mk.injEq] at ea
          obtain ⟨e1, e2, e3⟩ := ea
          exact ⟨e1, e2, rfl, e3, hra.even, hra.r1, hra.r40, hra.c1, hra.c40, List.Pairwise.nil, fun i hi => (by cases hi), fun r hm => by
            obtain ⟨i, hi, rfl⟩ := List.getElem_of_mem hm
            have := hra.ok i (by rw [← hra.len]; exact hi)
            unfold rowOf at this
            rwa [List.getD_eq_getElem?_getD, List.getElem?_eq_getElem hi] at this, hra.len, fun _ => rfl⟩)
        have HPB : Hid (PtR (whole (⟨⟨R2, C2, l2⟩, p2, q2, m2, t2⟩ : Vw)) R C [] ss) := Lib.hid (by
          simp only [Gr.mk.injEq] at eb
          obtain ⟨e1, e2, e3⟩ := eb
          exact ⟨e1, e2, rfl, e3, hrb.even, hrb.r1, hrb.r40, hrb.c1, hrb.c40, List.Pairwise.nil, fun i hi => (by cases hi), fun r hm => by
            obtain ⟨i, hi, rfl⟩ := List.getElem_of_mem hm
            have := hrb.ok i (by rw [← hrb.len]; exact hi)
            unfold rowOf at this
            rwa [List.getD_eq_getElem?_getD, List.getElem?_eq_getElem hi] at this, hrb.len, fun _ => rfl⟩)
        have HEA := Lib.hid ea
        have HEB := Lib.hid eb
        have HRA := Lib.hid hra
        have HRB := Lib.hid hrb
        have HLA := Lib.hid (fun W (hw : Below w.heap.size w W) => lines_any HPA.out (.slice none 0 0) (.slice A1 l1.length c1) w W hw (Sl.nil w) HX.out)
        have HLB := Lib.hid (fun W (hw : Below w.heap.size w W) => lines_any HPB.out (.slice none 0 0) (.slice A2 l2.length c2) w W hw (Sl.nil w) HY.out)
        have HSZ : Hid (1 ≤ R ∧ R ≤ 40 ∧ C ≤ 40) := Lib.hid ⟨hrb.r1, hrb.r40, hrb.c40⟩
        clear ea eb hra hrb HVA HVB HX HY HBA HBB
        simp only [codeB, if_true]
        go_wp2_with (refine wp_loadP rfl rfl rfl (HT.out.p2 _ rfl).1 ?_)
        refine (HLB.out _ HT.out.bel).mono ?_; rintro e w4 ⟨yv, L, rfl, hoL, hlL, hbL, hkL, hb⟩
        have HT4 := Lib.hid (HT.out.kept hb)
        have HOL := Lib.hid hoL
        have HLL := Lib.hid hlL
        have HBL := Lib.hid hbL
        have HKL := Lib.hid hkL
        have HSB : Hid (w.heap.size + 1 + 1 < w3.heap.size ∧ w3.heap.size ≤ w4.heap.size) := Lib.hid ⟨Blk.lt HT.out.z, hb.size⟩
        obtain ⟨gy, cy, rfl, hgy, hcy⟩ := hoL.shape (by have := HSZ.out; omega)
        clear hoL hlL hbL hkL hb HLB
        go_wp2_with (first
          | (refine wp_loadP rfl rfl rfl (HT4.out.p1 _ rfl).1 ?_)
          | (refine wp_loadP rfl rfl rfl (HT4.out.p2 _ rfl).1 ?_))
        refine (HAL.out _).mono ?_; rintro e w5 ⟨rfl, hb⟩
        have HT5 := Lib.hid (HT4.out.kept hb)
        have HO5 := Lib.hid (HOL.out.kept hb)
        have HS5 : Hid (w4.heap.size ≤ w5.heap.size) := Lib.hid hb.size
        clear hb HT4 HOL HAL
        cases hal : (R1 == R2 && C1 == C2) with
        | false =>
          obtain rfl : bt = whole (⟨⟨R2, C2, l2⟩, p2, q2, m2, t2⟩ : Vw) := HYE.out.trans (by unfold between sameB; rw [hal]; rfl)
          have HWT : Hid (∀ W L y, Pv W y L → L.length = R → L.map bare = mkL R (tellsB (whole (⟨⟨R2, C2, l2⟩, p2, q2, m2, t2⟩ : Vw))) (tells (whole (⟨⟨R2, C2, l2⟩, p2, q2, m2, t2⟩ : Vw))) → LisOk W C L → Calls Tryd.prog 21 #[.agg #[.int .i64 R2, .int .i64 C2, .bool true, .slice none 0 0, .slice A2 l2.length c2, .int .i64 p2, .int .i64 q2, .int .i64 m2, .string ⟨t2.toArray⟩], y] W fun e w' => ∃ u v, e = .returned (.agg #[.int .i64 R2, .int .i64 C2, .bool true, u, v, .int .i64 p2, .int .i64 q2, .int .i64 m2, .string ⟨t2.toArray⟩]) ∧ OwnN w' W.heap.size u [] ∧ OwnCs w' W.heap.size v l2 ∧ Below W.heap.size W w') := Lib.hid fun W L y h1 h2 h3 h4 => by
            have k := with_any (whole (⟨⟨R2, C2, l2⟩, p2, q2, m2, t2⟩ : Vw)) (.slice none 0 0) (.slice A2 l2.length c2) L _ _ C y W h1 h4 (by rw [h2]; exact h3) (by rw [h2]; exact HPB.out.r40) HPB.out.c40
            rw [h2, withP_own HPB.out] at k
            exact k
          have HWC := Lib.hid (HWT.out w5 L _ HO5.out.sv HLL.out HBL.out (HKL.out.kept HT5.out.bel))
          clear HYE HWT HPA HPB HEA HEB HRA HRB HLA HBL HKL hal
          have HT9 : Hid (w5.heap[w.heap.size + 1 + 1]? = some (.cells #[.int .i64 0, .int .i64 0, .bool false, .slice none 0 0, .slice none 0 0, .int .i64 0, .int .i64 0, .int .i64 0, .string ⟨#[]⟩] 35 (0, 0)) ∧ Below w.heap.size w w5 ∧ w.heap.size + 1 + 1 < w5.heap.size) := Lib.hid ⟨HT5.out.z, HT5.out.bel, Blk.lt HT5.out.z⟩
          go_wp2_with (refine wp_loadP rfl rfl rfl (HT5.out.p2 _ rfl).1 ?_)
          refine HWC.out.mono ?_; rintro e w6 ⟨uu, vv, rfl, hu5, hv5, hb⟩
          clear HWC HT5 HO5
          obtain ⟨Bu, mu, ku, rfl⟩ : ∃ A n c, uu = .slice A n c := (by obtain ⟨A, c, e⟩ := own_shape hu5; exact ⟨A, _, c, e⟩)
          obtain ⟨Bv, mv, kv, rfl⟩ : ∃ A n c, vv = .slice A n c := (by obtain ⟨A, c, e⟩ := own_shape hv5; exact ⟨A, _, c, e⟩)
          have HU5 := Lib.hid hu5
          have HV5 := Lib.hid hv5
          have HZ9 := Lib.hid (Blk.kept HT9.out.1 hb)
          have HB9 := Lib.hid (HT9.out.2.1.trans (hb.mono HT9.out.2.1.size))
          have HL9 := Lib.hid HT9.out.2.2
          clear hu5 hv5 hb
          go_wp2_with (refine wp_storeP (T := fun w' => w'.heap[w.heap.size + 1 + 1]? = some (.cells #[.int .i64 R2, .int .i64 C2, .bool true, .slice Bu mu ku, .slice Bv mv kv, .int .i64 p2, .int .i64 q2, .int .i64 m2, .string ⟨t2.toArray⟩] 35 (0, 0)) ∧ OwnN w' w5.heap.size (.slice Bu mu ku) [] ∧ OwnCs w' w5.heap.size (.slice Bv mv kv) l2 ∧ Below w.heap.size w w') rfl rfl rfl rfl rfl HZ9.out (fun w' h => ⟨h.box, h.row HU5.out (by have := HL9.out; omega), h.row HV5.out (by have := HL9.out; omega), h.below _ _ (by omega) HB9.out⟩) ?_; intro wF HF)
          refine bodyPost_ret (v := .tuple #[.agg #[.int .i64 R2, .int .i64 C2, .bool true, .slice Bu mu ku, .slice Bv mv kv, .int .i64 p2, .int .i64 q2, .int .i64 m2, .string ⟨t2.toArray⟩], .int .i64 0]) (ret2A aggPatch Tryd.results6 rfl HF.out.1 rfl rfl) rfl ⟨_, _, rfl, HF.out.2.1.low (by have := HL9.out; omega), HF.out.2.2.1.low (by have := HL9.out; omega), HF.out.2.2.2⟩
        | true =>
          have hRC : R1 = R2 ∧ C1 = C2 := by rw [Bool.and_eq_true, beq_iff_eq, beq_iff_eq] at hal; exact hal
          have HEE : Hid (R' = R ∧ C' = C) := Lib.hid (by
            have e1 := HEA.out; have e2 := HEB.out
            simp only [Gr.mk.injEq] at e1 e2
            omega)
          obtain ⟨rfl, rfl⟩ := HEE.out
          obtain rfl : bt = withP { whole (⟨⟨R2, C2, l2⟩, p2, q2, m2, t2⟩ : Vw) with all := false } R' (chB rs ss) (rowOf ss) := HYE.out.trans (withP_between HEA.out HEB.out HRA.out HRB.out).symm
          have HWT : Hid (∀ W L y, Pv W y L → L.length = R' → L.map bare = mkL R' (chB rs ss) (rowOf ss) → LisOk W C' L → Calls Tryd.prog 21 #[.agg #[.int .i64 R2, .int .i64 C2, .bool false, .slice none 0 0, .slice A2 l2.length c2, .int .i64 p2, .int .i64 q2, .int .i64 m2, .string ⟨t2.toArray⟩], y] W fun e w' => ∃ u v, e = .returned (pagg (withP { whole (⟨⟨R2, C2, l2⟩, p2, q2, m2, t2⟩ : Vw) with all := false } R' (chB rs ss) (rowOf ss)) u v) ∧ OwnN w' W.heap.size u (withP { whole (⟨⟨R2, C2, l2⟩, p2, q2, m2, t2⟩ : Vw) with all := false } R' (chB rs ss) (rowOf ss)).at_ ∧ OwnCs w' W.heap.size v (withP { whole (⟨⟨R2, C2, l2⟩, p2, q2, m2, t2⟩ : Vw) with all := false } R' (chB rs ss) (rowOf ss)).cells ∧ Below W.heap.size W w') := Lib.hid fun W L y h1 h2 h3 h4 => by
            have k := with_any { whole (⟨⟨R2, C2, l2⟩, p2, q2, m2, t2⟩ : Vw) with all := false } (.slice none 0 0) (.slice A2 l2.length c2) L _ _ C' y W h1 h4 (by rw [h2]; exact h3) (by rw [h2]; exact HPB.out.r40) HPB.out.c40
            rw [h2] at k
            exact k
          obtain ⟨ua, va, HUV⟩ : ∃ ua va, Hid ((withP { whole (⟨⟨R2, C2, l2⟩, p2, q2, m2, t2⟩ : Vw) with all := false } R' (chB rs ss) (rowOf ss)).at_ = ua ∧ (withP { whole (⟨⟨R2, C2, l2⟩, p2, q2, m2, t2⟩ : Vw) with all := false } R' (chB rs ss) (rowOf ss)).cells = va) := ⟨_, _, Lib.hid ⟨rfl, rfl⟩⟩
          clear hal hRC
          have g2 : w5.cell? ⟨b7, 2, none⟩ = some (.bool true) := Blk.cell (HT5.out.p2 _ rfl).1 2
          have gf2 := Blk.free (HT5.out.p2 _ rfl).1 2
          have HT6 : Hid (Tw w (.cells #[.int .i64 R1, .int .i64 C1, .slice A1 l1.length c1, .int .i64 p1, .int .i64 q1, .int .i64 m1, .string ⟨t1.toArray⟩] 32 (0, 0)) (.cells #[.int .i64 R2, .int .i64 C2, .slice A2 l2.length c2, .int .i64 p2, .int .i64 q2, .int .i64 m2, .string ⟨t2.toArray⟩] 32 (0, 0)) (some (b6, .cells #[.int .i64 R1, .int .i64 C1, .bool true, .slice none 0 0, .slice A1 l1.length c1, .int .i64 p1, .int .i64 q1, .int .i64 m1, .string ⟨t1.toArray⟩] 35 (0, 0))) (some (b7, .cells #[.int .i64 R2, .int .i64 C2, .bool false, .slice none 0 0, .slice A2 l2.length c2, .int .i64 p2, .int .i64 q2, .int .i64 m2, .string ⟨t2.toArray⟩] 35 (0, 0))) (w5.setCell ⟨b7, 2, none⟩ (.bool false))) := Lib.hid (by
            have h := HT5.out
            have hq := h.p2 _ rfl
            have hp := h.p1 _ rfl
            have hn := h.ne _ _ rfl rfl
            simp only at hq hp hn
            refine ⟨h.bel.setCell (p := ⟨b7, 2, none⟩) (by show w.heap.size ≤ b7; omega) _, Blk.other h.v1 (by omega) _ _, Blk.other h.v2 (by omega) _ _, Blk.other h.z (by omega) _ _, fun q e => ?_, fun q e => ?_, fun q r e1 e2 => ?_⟩
            · injection e with e; subst e; exact ⟨Blk.other hp.1 hn _ _, hp.2⟩
            · injection e with e; subst e; exact ⟨Blk.set hq.1 2 _, hq.2⟩
            · injection e1 with e1; injection e2 with e2; subst e1; subst e2; exact hn)
          have HO6 : Hid (OwnP (w5.setCell ⟨b7, 2, none⟩ (.bool false)) w3.heap.size (.slice (some ⟨gy, 0, none⟩) L.length cy) L) := Lib.hid (HO5.out.other (by
            intro e
            have e : gy = b7 := by injection e
            have h1 := Blk.lt (HT.out.p2 _ rfl).1
            simp only at h1
            omega) _ _)
          have HS6 : Hid (w4.heap.size ≤ (w5.setCell ⟨b7, 2, none⟩ (.bool false)).heap.size) := Lib.hid (by rw [World.size_setCell]; exact HS5.out)
          clear HT5 HO5 HS5
          go_upto_region 7 with (fail)
          clear g2 gf2
          generalize w5.setCell ⟨b7, 2, none⟩ (.bool false) = w6 at HT6 HO6 HS6 ⊢
          go_wp2_with (refine wp_loadP rfl rfl rfl (HT6.out.p1 _ rfl).1 ?_)
          refine (HLA.out _ HT6.out.bel).mono ?_; rintro e w7 ⟨xv, Lf, rfl, hoF, hlF, hbF, hkF, hb⟩
          have HT7 := Lib.hid (HT6.out.kept hb)
          have HO7 := Lib.hid (HO6.out.kept hb)
          have hne : ∀ g, (Value.slice (some ⟨gy, 0, none⟩) L.length cy).ownBlock = some g → xv.ownBlock ≠ some g := fun g e1 e2 => by
            have h1 := (World.ownsRow.lt HO6.out g e1).2
            have h2 := (World.ownsRow.lt hoF g e2).1
            omega
          have HCH := Lib.hid (changed_any Lf L xv (.slice (some ⟨gy, 0, none⟩) L.length cy) w6.heap.size w3.heap.size C' w7 hoF HO7.out hne (hlF.trans HLL.out.symm) (fun i hi => by
              have e1 := bare_get hbF (k := i) (by have := HLL.out; omega)
              have e2 := bare_get HBL.out hi
              rw [if_pos (show tellsB (whole (⟨⟨R1, C1, l1⟩, p1, q1, m1, t1⟩ : Vw)) i = true from rfl)] at e1
              rw [if_pos (show tellsB (whole (⟨⟨R2, C2, l2⟩, p2, q2, m2, t2⟩ : Vw)) i = true from rfl)] at e2
              generalize Lf.getD i default = xa at e1
              generalize L.getD i default = xb at e2
              cases xa with
              | none => cases e1
              | some y1 =>
                cases xb with
                | none => cases e2
                | some y2 => exact ⟨_, _, rfl, rfl⟩) (by have := HSZ.out; have := HLL.out; omega) (by have := HSZ.out; have := HLL.out; omega) HSZ.out.2.2 (Nat.le_trans (by have := HSB.out; have := HS6.out; omega) hb.size) (fun W hW => by
              have hw : Below w.heap.size w W := HT7.out.bel.trans (hW.mono (by have := HSB.out; omega))
              exact ⟨hkF.kept hw, HKL.out.kept hw⟩))
          have HCB : Hid ((setK (chF Lf L) L L.length).map bare = mkL R' (chB rs ss) (rowOf ss)) := Lib.hid (changed_bare HLL.out hbF HBL.out (fun _ => rfl) (fun _ => rfl) (fun i => by show rowOf (rowsP (whole (⟨⟨R1, C1, l1⟩, p1, q1, m1, t1⟩ : Vw))) i = _; rw [HPA.out.parted]) (fun i => by show rowOf (rowsP (whole (⟨⟨R2, C2, l2⟩, p2, q2, m2, t2⟩ : Vw))) i = _; rw [HPB.out.parted]))
          have HCK := Lib.hid (fun W (hw : Below w.heap.size w W) => changed_ok (Lf := Lf) (HKL.out.kept hw))
          have HCL : Hid ((setK (chF Lf L) L L.length).length = R') := Lib.hid (by rw [setK_length]; exact HLL.out)
          have HB36 : Hid (w.heap.size + 1 + 1 < w3.heap.size ∧ w3.heap.size ≤ w7.heap.size) := Lib.hid (by have := HSB.out; have := HS6.out; have := hb.size; omega)
          obtain ⟨Ax, nx, cx, rfl⟩ : ∃ A n c, xv = .slice A n c := (by obtain ⟨A, c, e, _⟩ := hoF.sv.2; exact ⟨A, _, c, e⟩)
          clear hoF hlF hbF hkF hb hne HT6 HO6 HS6 HLA HSB
          generalize setK (chF Lf L) L L.length = L2 at HCH HCB HCK HCL
          go_wp2_with fail
          refine HCH.out.mono ?_; rintro e w8 ⟨rfl, ho8, hb⟩
          have hbig : ∀ k o, k < w3.heap.size → w7.heap[k]? = some o → w8.heap[k]? = some o := fun k o hk h => by rw [hb.block k hk]; exact h
          have HT8 : Hid (w8.heap[w.heap.size + 1 + 1]? = some (.cells #[.int .i64 0, .int .i64 0, .bool false, .slice none 0 0, .slice none 0 0, .int .i64 0, .int .i64 0, .int .i64 0, .string ⟨#[]⟩] 35 (0, 0)) ∧ w8.heap[b7]? = some (.cells #[.int .i64 R2, .int .i64 C2, .bool false, .slice none 0 0, .slice A2 l2.length c2, .int .i64 p2, .int .i64 q2, .int .i64 m2, .string ⟨t2.toArray⟩] 35 (0, 0)) ∧ Below w.heap.size w w8) := Lib.hid ⟨hbig _ _ HB36.out.1 HT7.out.z, hbig _ _ (Blk.lt (HT.out.p2 _ rfl).1) (HT7.out.p2 _ rfl).1, HT7.out.bel.trans (hb.mono (by have := HB36.out; omega))⟩
          have HWC := Lib.hid (HWT.out w8 L2 _ ho8.sv HCL.out HCB.out (HCK.out _ HT8.out.2.2))
          have HT9 : Hid (w8.heap[w.heap.size + 1 + 1]? = some (.cells #[.int .i64 0, .int .i64 0, .bool false, .slice none 0 0, .slice none 0 0, .int .i64 0, .int .i64 0, .int .i64 0, .string ⟨#[]⟩] 35 (0, 0)) ∧ Below w.heap.size w w8 ∧ w.heap.size + 1 + 1 < w8.heap.size) := Lib.hid ⟨HT8.out.1, HT8.out.2.2, Blk.lt HT8.out.1⟩
          clear ho8 hb hbig HCH HT7 HO7
          go_wp2_with (refine wp_loadP rfl rfl rfl HT8.out.2.1 ?_)
          refine HWC.out.mono ?_; rintro e w9 ⟨uu, vv, he, hu5, hv5, hb⟩
          obtain rfl : e = .returned (.agg #[.int .i64 R2, .int .i64 C2, .bool false, uu, vv, .int .i64 p2, .int .i64 q2, .int .i64 m2, .string ⟨t2.toArray⟩]) := he
          rw [HUV.out.1] at hu5
          rw [HUV.out.2] at hv5
          clear HWC HT8 HWT HCB HCK HCL HPA HPB HEA HEB HRA HRB HBL HKL HLL HEE HYE
          obtain ⟨Bu, mu, ku, rfl⟩ : ∃ A n c, uu = .slice A n c := (by obtain ⟨A, c, e⟩ := own_shape hu5; exact ⟨A, _, c, e⟩)
          obtain ⟨Bv, mv, kv, rfl⟩ : ∃ A n c, vv = .slice A n c := (by obtain ⟨A, c, e⟩ := own_shape hv5; exact ⟨A, _, c, e⟩)
          have HU5 := Lib.hid hu5
          have HV5 := Lib.hid hv5
          have HZ9 := Lib.hid (Blk.kept HT9.out.1 hb)
          have HB9 := Lib.hid (HT9.out.2.1.trans (hb.mono HT9.out.2.1.size))
          have HL9 := Lib.hid HT9.out.2.2
          clear hu5 hv5 hb
          go_wp2_with (refine wp_storeP (T := fun w' => w'.heap[w.heap.size + 1 + 1]? = some (.cells #[.int .i64 R2, .int .i64 C2, .bool false, .slice Bu mu ku, .slice Bv mv kv, .int .i64 p2, .int .i64 q2, .int .i64 m2, .string ⟨t2.toArray⟩] 35 (0, 0)) ∧ OwnN w' w8.heap.size (.slice Bu mu ku) ua ∧ OwnCs w' w8.heap.size (.slice Bv mv kv) va ∧ Below w.heap.size w w') rfl rfl rfl rfl rfl HZ9.out (fun w' h => ⟨h.box, h.row HU5.out (by have := HL9.out; omega), h.row HV5.out (by have := HL9.out; omega), h.below _ _ (by omega) HB9.out⟩) ?_; intro wF HF)
          refine bodyPost_ret (v := .tuple #[.agg #[.int .i64 R2, .int .i64 C2, .bool false, .slice Bu mu ku, .slice Bv mv kv, .int .i64 p2, .int .i64 q2, .int .i64 m2, .string ⟨t2.toArray⟩], .int .i64 0]) (ret2A aggPatch Tryd.results6 rfl HF.out.1 rfl rfl) rfl ⟨_, _, rfl, by rw [HUV.out.1]; exact HF.out.2.1.low (by have := HL9.out; omega), by rw [HUV.out.2]; exact HF.out.2.2.1.low (by have := HL9.out; omega), HF.out.2.2.2⟩
noncomputable def betD (a b : Vw) : Pt := if (viewB a && viewB b) = true then between a b else noP
theorem between_any (a b : Vw) (x y : Value) (w : World) (hx : Rm w x a.g.cells) (hy : Rm w y b.g.cells) (hs1 : Held a.g.cells) (hs2 : Held b.g.cells) (hT : Tabs w) (ht1 : a.title.length ≤ 1000000000) (ht2 : b.title.length ≤ 1000000000) :
    Calls Tryd.prog 6 #[vagg a x, vagg b y] w fun e w' => ∃ u v, e = .returned (.tuple #[pagg (betD a b) u v, .int .i64 (codeB (viewB a && viewB b))]) ∧ OwnN w' w.heap.size u (betD a b).at_ ∧ OwnCs w' w.heap.size v (betD a b).cells ∧ Below w.heap.size w w' := by
  obtain ⟨A1, c1, rfl, _⟩ := id hx.2
  obtain ⟨A2, c2, rfl, _⟩ := id hy.2
  exact between_t a.g.rows a.g.cols a.row a.col a.modes b.g.rows b.g.cols b.row b.col b.modes a.title b.title a.g.cells b.g.cells A1 A2 c1 c2 _ _ w rfl rfl hx hy hs1 hs2 hT ht1 ht2 (betD a b) (fun h => if_pos h) (fun h => if_neg (by rw [h]; decide))
end Pat
end
end Go.Proofs.YtjcfbeiljdohcaaDoor
