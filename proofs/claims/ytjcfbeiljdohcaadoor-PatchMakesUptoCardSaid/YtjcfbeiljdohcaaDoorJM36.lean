/- Joined texts: PdApp. -/
import Derived.Test.YtjcfbeiljdohcaaDoorJM32
import Derived.Test.YtjcfbeiljdohcaaDoorJM35
namespace Go.Proofs.YtjcfbeiljdohcaaDoor
set_option maxRecDepth 100000
section
open Go.RowKit
namespace Pat
open Go.Proofs.YtjcfbeiljdohcaaDoor.Row Go.Proofs.YtjcfbeiljdohcaaDoor.Scr Agb
noncomputable def compD (p q : Pt) : Pt := if (patchB p && patchB q) = true then (if goesB p q = true then compose p q else noP) else noP
theorem compose_any (p q : Pt) (u x v y : Value) (w : World) (hu : Sl w u p.at_) (hx : Rm w x p.cells) (hv : Sl w v q.at_) (hy : Rm w y q.cells) (hs1 : Held p.cells) (hs2 : Held q.cells) (hT : Tabs w) (ht1 : p.title.length ≤ 1000000000) (ht2 : q.title.length ≤ 1000000000) (hn1 : p.at_.length ≤ 1000000) (hn2 : q.at_.length ≤ 1000000) :
    Calls Tryd.prog 10 #[pagg p u x, pagg q v y] w fun e w' => ∃ u' v', e = .returned (.tuple #[pagg (compD p q) u' v', .int .i64 (codeC (patchB p && patchB q) (goesB p q))]) ∧ OwnN w' w.heap.size u' (compD p q).at_ ∧ OwnCs w' w.heap.size v' (compD p q).cells ∧ Below w.heap.size w w' := by
  obtain ⟨U1, k1, rfl, _⟩ := id hu.room
  obtain ⟨A1, c1, rfl, _⟩ := id hx.2
  obtain ⟨U2, k2, rfl, _⟩ := id hv.room
  obtain ⟨A2, c2, rfl, _⟩ := id hy.2
  have hbad : (patchB p && patchB q) = false → compD p q = noP := fun h => if_neg (by rw [h]; decide)
  have hno : (patchB p && patchB q) = true → goesB p q = false → compD p q = noP := fun h k => by unfold compD; rw [if_pos h, if_neg (by rw [k]; decide)]
  have hyes : (patchB p && patchB q) = true → goesB p q = true → compD p q = compose p q := fun h k => by unfold compD; rw [if_pos h, if_pos k]
  obtain ⟨R2, C2, f2, n2, l2, p2, q2, m2, t2⟩ := q
  cases f2 with
  | true => exact compose_true p.rows p.cols p.row p.col p.modes R2 C2 p2 q2 m2 p.all p.title t2 p.at_ n2 p.cells l2 U1 A1 U2 A2 k1 c1 k2 c2 _ _ w rfl rfl hu hx hv hy hs1 hs2 hT ht1 ht2 hn1 hn2 _ hbad hno hyes
  | false => exact compose_false p.rows p.cols p.row p.col p.modes R2 C2 p2 q2 m2 p.all p.title t2 p.at_ n2 p.cells l2 U1 A1 U2 A2 k1 c1 k2 c2 _ _ w rfl rfl hu hx hv hy hs1 hs2 hT ht1 ht2 hn1 hn2 _ hbad hno hyes
def madeV (p : Pt) : Vw := ⟨⟨p.rows, p.cols, p.cells⟩, p.row, p.col, p.modes, p.title⟩
theorem made_apply {v : Vw} {p : Pt} (hf : fitsB v p = true) : madeV (compose (whole v) p) = apply v p := by
  unfold compose apply madeV
  cases ha : p.all with
  | true => simp
  | false =>
    unfold fitsB at hf
    rw [ha, Bool.false_or, Bool.and_eq_true, beq_iff_eq, beq_iff_eq] at hf
    simp only [Bool.false_eq_true, if_false, whole, if_true]
    rw [hf.1, hf.2]
    have e : rowsP (whole v) = rowsV v.g := rfl
    unfold whole at e
    rw [← hf.1, ← hf.2]
    rw [e]
theorem held_of {l : List Cl} (h : ∀ c ∈ l, c.comb.length ≤ 1152921504606846976) : Held l := fun i hi => by
  have e : g l i = l[i] := by unfold g; simp [List.getD, hi]
  rw [e]; exact h _ (List.getElem_mem hi)
noncomputable def appD (v : Vw) (p : Pt) : Vw := if (viewB v && patchB p) = true then (if fitsB v p = true then apply v p else noV) else noV
structure Ta (w : World) (o1 o2 oz : Obj) (x1 : Option (Nat × Obj)) (W : World) : Prop where
  bel : Below w.heap.size w W
  v1 : W.heap[w.heap.size]? = some o1
  v2 : W.heap[w.heap.size + 1]? = some o2
  z : W.heap[w.heap.size + 1 + 1]? = some oz
  p1 : ∀ q, x1 = some q → W.heap[q.1]? = some q.2 ∧ w.heap.size + 1 + 1 < q.1
section
variable {w W W' : World} {o1 o2 oz : Obj} {x1 : Option (Nat × Obj)}
theorem Ta.kept (h : Ta w o1 o2 oz x1 W) (hb : Below W.heap.size W W') : Ta w o1 o2 oz x1 W' :=
  ⟨h.bel.trans (hb.mono h.bel.size), Blk.kept h.v1 hb, Blk.kept h.v2 hb, Blk.kept h.z hb, fun q e => ⟨Blk.kept (h.p1 q e).1 hb, (h.p1 q e).2⟩⟩
theorem Ta.alloc1 (h : Ta w o1 o2 oz none W) : Ta w o1 o2 oz (some (W.heap.size, zobj)) (W.alloc zobj) := by
  have k := h.kept (W' := W.alloc zobj) ((Below.refl _ _).alloc (Nat.le_refl _) _)
  exact ⟨k.bel, k.v1, k.v2, k.z, fun q e => by injection e with e; subst e; exact ⟨heap_alloc_new _ _, Blk.lt h.z⟩⟩
theorem Ta.store1 {b : Nat} {o : Obj} {A : Array Value} (h : Ta w o1 o2 oz (some (b, o)) W) (hs : Agb.Sto 35 W b A W') : Ta w o1 o2 oz (some (b, .cells A 35 (0, 0))) W' := by
  have hb := (h.p1 _ rfl).2
  simp only at hb
  exact ⟨hs.below _ _ (by omega) h.bel, (hs.other _ (by omega)).trans h.v1, (hs.other _ (by omega)).trans h.v2, (hs.other _ (by omega)).trans h.z, fun q e => by injection e with e; subst e; exact ⟨hs.box, hb⟩⟩
end
theorem sto_other {t : TypeId} {w w' : World} {b base : Nat} {A : Array Value} {v : Value} {e C n : Nat} {xs : List Value} (h : Agb.Sto t w b A w') (ho : w.ownsRow base e C v n xs) (hb : v.ownBlock ≠ some b) : w'.ownsRow base e C v n xs := by
  refine ⟨ho.1, ?_⟩
  rcases ho.2 with h0 | ⟨g, cap, cur, hv, hg, hc, rest⟩
  · exact .inl h0
  · exact .inr ⟨g, cap, cur, hv, hg, (h.other g (fun q => hb (by rw [hv, q]; rfl))).trans hc, rest⟩
set_option maxHeartbeats 12800000 in
theorem apply_t (R1 C1 p1 q1 m1 R2 C2 p2 q2 m2 : Int) (f2 : Bool) (t1 t2 : List UInt8) (n2 : List Int) (l1 l2 : List Cl) (A1 U2 A2 : Option Addr) (c1 k2 c2 : Nat) (w : World) (hx1 : Rm w (.slice A1 l1.length c1) l1) (hu2 : Sl w (.slice U2 n2.length k2) n2) (hx2 : Rm w (.slice A2 l2.length c2) l2) (hs1 : Held l1) (hs2 : Held l2) (hT : Tabs w) (ht1 : t1.length ≤ 1000000000) (ht2 : t2.length ≤ 1000000000) (hn2 : n2.length ≤ 1000000)
    (cd : Pt) (hcd : compD (whole (⟨⟨R1, C1, l1⟩, p1, q1, m1, t1⟩ : Vw)) (⟨R2, C2, f2, n2, l2, p2, q2, m2, t2⟩ : Pt) = cd) (ok go : Bool) (hok : (viewB (⟨⟨R1, C1, l1⟩, p1, q1, m1, t1⟩ : Vw) && patchB (⟨R2, C2, f2, n2, l2, p2, q2, m2, t2⟩ : Pt)) = ok) (hgo : fitsB (⟨⟨R1, C1, l1⟩, p1, q1, m1, t1⟩ : Vw) (⟨R2, C2, f2, n2, l2, p2, q2, m2, t2⟩ : Pt) = go)
    (bv : Vw) (hyes : ok = true → go = true → bv = madeV cd) (hno : (ok && go) = false → bv = noV) :
    Calls Tryd.prog 7 #[.agg #[.int .i64 R1, .int .i64 C1, .slice A1 l1.length c1, .int .i64 p1, .int .i64 q1, .int .i64 m1, .string ⟨t1.toArray⟩], .agg #[.int .i64 R2, .int .i64 C2, .bool f2, .slice U2 n2.length k2, .slice A2 l2.length c2, .int .i64 p2, .int .i64 q2, .int .i64 m2, .string ⟨t2.toArray⟩]] w fun e w' => ∃ z, e = .returned (.tuple #[vagg bv z, .int .i64 (codeC ok go)]) ∧ OwnCs w' w.heap.size z bv.g.cells ∧ Below w.heap.size w w' := by
  have HA1 := Lib.hid (fun W => all_t R1 C1 p1 q1 m1 ⟨t1.toArray⟩ A1 l1.length c1 W)
  have HCO : Hid (∀ W, Below w.heap.size w W → Calls Tryd.prog 10 #[.agg #[.int .i64 R1, .int .i64 C1, .bool true, .slice none 0 0, .slice A1 l1.length c1, .int .i64 p1, .int .i64 q1, .int .i64 m1, .string ⟨t1.toArray⟩], .agg #[.int .i64 R2, .int .i64 C2, .bool f2, .slice U2 n2.length k2, .slice A2 l2.length c2, .int .i64 p2, .int .i64 q2, .int .i64 m2, .string ⟨t2.toArray⟩]] W fun e w' => ∃ u' v', e = .returned (.tuple #[.agg #[.int .i64 cd.rows, .int .i64 cd.cols, .bool cd.all, u', v', .int .i64 cd.row, .int .i64 cd.col, .int .i64 cd.modes, .string ⟨cd.title.toArray⟩], .int .i64 (codeC ok go)]) ∧ OwnN w' W.heap.size u' cd.at_ ∧ OwnCs w' W.heap.size v' cd.cells ∧ Below W.heap.size W w') := Lib.hid fun W hw => by
    have k := compose_any (whole (⟨⟨R1, C1, l1⟩, p1, q1, m1, t1⟩ : Vw)) (⟨R2, C2, f2, n2, l2, p2, q2, m2, t2⟩ : Pt) (.slice none 0 0) (.slice A1 l1.length c1) (.slice U2 n2.length k2) (.slice A2 l2.length c2) W (Sl.nil W) (hx1.kept hw) (hu2.kept hw) (hx2.kept hw) hs1 hs2 (hT.kept hw) ht1 ht2 (by show (0 : Nat) ≤ _; omega) hn2
    rw [view_whole, hok, show goesB (whole (⟨⟨R1, C1, l1⟩, p1, q1, m1, t1⟩ : Vw)) (⟨R2, C2, f2, n2, l2, p2, q2, m2, t2⟩ : Pt) = go from hgo, hcd] at k
    exact k
  have HT : Hid (Ta w (.cells #[.int .i64 R1, .int .i64 C1, .slice A1 l1.length c1, .int .i64 p1, .int .i64 q1, .int .i64 m1, .string ⟨t1.toArray⟩] 32 (0, 0)) (.cells #[.int .i64 R2, .int .i64 C2, .bool f2, .slice U2 n2.length k2, .slice A2 l2.length c2, .int .i64 p2, .int .i64 q2, .int .i64 m2, .string ⟨t2.toArray⟩] 35 (0, 0)) (.cells #[.int .i64 0, .int .i64 0, .slice none 0 0, .int .i64 0, .int .i64 0, .int .i64 0, .string ⟨#[]⟩] 32 (0, 0)) none (((w.alloc (.cells #[.int .i64 R1, .int .i64 C1, .slice A1 l1.length c1, .int .i64 p1, .int .i64 q1, .int .i64 m1, .string ⟨t1.toArray⟩] 32 (0, 0))).alloc (.cells #[.int .i64 R2, .int .i64 C2, .bool f2, .slice U2 n2.length k2, .slice A2 l2.length c2, .int .i64 p2, .int .i64 q2, .int .i64 m2, .string ⟨t2.toArray⟩] 35 (0, 0))).alloc (.cells #[.int .i64 0, .int .i64 0, .slice none 0 0, .int .i64 0, .int .i64 0, .int .i64 0, .string ⟨#[]⟩] 32 (0, 0))).drew) := Lib.hid ⟨((((Below.refl w.heap.size w).alloc (Nat.le_refl _) _).alloc (by simp) _).alloc (by simp; omega) _).drew, (old_alloc (old_alloc (new_alloc _ _ _ rfl) _) _ : (((w.alloc (.cells #[.int .i64 R1, .int .i64 C1, .slice A1 l1.length c1, .int .i64 p1, .int .i64 q1, .int .i64 m1, .string ⟨t1.toArray⟩] 32 (0, 0))).alloc (.cells #[.int .i64 R2, .int .i64 C2, .bool f2, .slice U2 n2.length k2, .slice A2 l2.length c2, .int .i64 p2, .int .i64 q2, .int .i64 m2, .string ⟨t2.toArray⟩] 35 (0, 0))).alloc (.cells #[.int .i64 0, .int .i64 0, .slice none 0 0, .int .i64 0, .int .i64 0, .int .i64 0, .string ⟨#[]⟩] 32 (0, 0))).heap[w.heap.size]? = _), (old_alloc (new_alloc _ _ _ (by simp)) _ : (((w.alloc (.cells #[.int .i64 R1, .int .i64 C1, .slice A1 l1.length c1, .int .i64 p1, .int .i64 q1, .int .i64 m1, .string ⟨t1.toArray⟩] 32 (0, 0))).alloc (.cells #[.int .i64 R2, .int .i64 C2, .bool f2, .slice U2 n2.length k2, .slice A2 l2.length c2, .int .i64 p2, .int .i64 q2, .int .i64 m2, .string ⟨t2.toArray⟩] 35 (0, 0))).alloc (.cells #[.int .i64 0, .int .i64 0, .slice none 0 0, .int .i64 0, .int .i64 0, .int .i64 0, .string ⟨#[]⟩] 32 (0, 0))).heap[w.heap.size + 1]? = _), (new_alloc _ _ _ (by simp) : (((w.alloc (.cells #[.int .i64 R1, .int .i64 C1, .slice A1 l1.length c1, .int .i64 p1, .int .i64 q1, .int .i64 m1, .string ⟨t1.toArray⟩] 32 (0, 0))).alloc (.cells #[.int .i64 R2, .int .i64 C2, .bool f2, .slice U2 n2.length k2, .slice A2 l2.length c2, .int .i64 p2, .int .i64 q2, .int .i64 m2, .string ⟨t2.toArray⟩] 35 (0, 0))).alloc (.cells #[.int .i64 0, .int .i64 0, .slice none 0 0, .int .i64 0, .int .i64 0, .int .i64 0, .string ⟨#[]⟩] 32 (0, 0))).heap[w.heap.size + 1 + 1]? = _), fun q e => (by cases e)⟩
  have HYES := Lib.hid hyes
  have HNO := Lib.hid hno
  clear hx1 hu2 hx2 hs1 hs2 hT ht1 ht2 hn2 hcd hok hgo hyes hno
  go_enter Tryd.func7, Tryd.ntmps7
  go_upto_region 1 with (fail)
  go_cut [6, 7] from 8 to 14 (fun s6 s7 wx => ∃ b6 Bu mu ku Bv mv kv, s6 = .pointer (some ⟨b6, 0, none⟩) ∧ s7 = .int .i64 (codeC ok go) ∧ Hid (Ta w (.cells #[.int .i64 R1, .int .i64 C1, .slice A1 l1.length c1, .int .i64 p1, .int .i64 q1, .int .i64 m1, .string ⟨t1.toArray⟩] 32 (0, 0)) (.cells #[.int .i64 R2, .int .i64 C2, .bool f2, .slice U2 n2.length k2, .slice A2 l2.length c2, .int .i64 p2, .int .i64 q2, .int .i64 m2, .string ⟨t2.toArray⟩] 35 (0, 0)) (.cells #[.int .i64 0, .int .i64 0, .slice none 0 0, .int .i64 0, .int .i64 0, .int .i64 0, .string ⟨#[]⟩] 32 (0, 0)) (some (b6, .cells #[.int .i64 cd.rows, .int .i64 cd.cols, .bool cd.all, .slice Bu mu ku, .slice Bv mv kv, .int .i64 cd.row, .int .i64 cd.col, .int .i64 cd.modes, .string ⟨cd.title.toArray⟩] 35 (0, 0))) wx) ∧ Hid (OwnCs wx w.heap.size (.slice Bv mv kv) cd.cells) ∧ Hid ((Value.slice Bv mv kv).ownBlock ≠ some (w.heap.size + 1 + 1)))
  case first =>
    refine wp_region_held_drew (S := fun w' => w'.heap[w.heap.size]? = some (.cells #[.int .i64 R1, .int .i64 C1, .slice A1 l1.length c1, .int .i64 p1, .int .i64 q1, .int .i64 m1, .string ⟨t1.toArray⟩] 32 (0, 0)) ∧ w'.heap[w.heap.size + 1]? = some (.cells #[.int .i64 R2, .int .i64 C2, .bool f2, .slice U2 n2.length k2, .slice A2 l2.length c2, .int .i64 p2, .int .i64 q2, .int .i64 m2, .string ⟨t2.toArray⟩] 35 (0, 0))) (by kernel_rfl) ⟨HT.out.v1, HT.out.v2⟩ (fun hHeld => ?_)
    generalize (((w.alloc (.cells #[.int .i64 R1, .int .i64 C1, .slice A1 l1.length c1, .int .i64 p1, .int .i64 q1, .int .i64 m1, .string ⟨t1.toArray⟩] 32 (0, 0))).alloc (.cells #[.int .i64 R2, .int .i64 C2, .bool f2, .slice U2 n2.length k2, .slice A2 l2.length c2, .int .i64 p2, .int .i64 q2, .int .i64 m2, .string ⟨t2.toArray⟩] 35 (0, 0))).alloc (.cells #[.int .i64 0, .int .i64 0, .slice none 0 0, .int .i64 0, .int .i64 0, .int .i64 0, .string ⟨#[]⟩] 32 (0, 0))).drew = wd at HT hHeld ⊢
    refine wpAnyH_take (i := 0) (v := .agg #[.int .i64 R1, .int .i64 C1, .slice A1 l1.length c1, .int .i64 p1, .int .i64 q1, .int .i64 m1, .string ⟨t1.toArray⟩]) rfl (by kernel_rfl) (by kernel_rfl) (by kernel_rfl) (fun _ _ _ h => h) (yields_loadA aggView rfl rfl rfl (fun w' hS => hS.1) rfl) (by assumption) ?_
    simp only [Act.put, List.getElem_toArray, List.getElem_cons_zero, List.setIfInBounds_toArray, List.set_cons_zero, List.set_cons_succ]
    refine wpAnyH_take (i := 2) (v := .agg #[.int .i64 R2, .int .i64 C2, .bool f2, .slice U2 n2.length k2, .slice A2 l2.length c2, .int .i64 p2, .int .i64 q2, .int .i64 m2, .string ⟨t2.toArray⟩]) rfl (by kernel_rfl) (by kernel_rfl) (by kernel_rfl) (fun _ _ _ h => h) (yields_loadA aggPatch rfl rfl rfl (fun w' hS => hS.2) rfl) (by assumption) ?_
    simp only [Act.put, List.getElem_toArray, List.getElem_cons_zero, List.getElem_cons_succ, List.setIfInBounds_toArray, List.set_cons_zero, List.set_cons_succ]
    refine wpAnyH_ready (rs := [1, 7]) (by kernel_rfl) (by simp) ?_
    refine AllReadyH.cons rfl (fun K hK => ?_) ?_
    · go_simp
      go_at_call 16
      refine (HA1.out _).mono ?_; rintro e wn1 ⟨rfl, hb⟩
      have HT := Lib.hid (HT.out.kept hb)
      clear hb
      refine hK.out _ _ ⟨HT.out.v1, HT.out.v2⟩ (fun hHeld => ?_)
      clear hK K
      refine wpAnyH_ready (rs := [3, 7]) (by kernel_rfl) (by simp) ?_
      refine AllReadyH.cons rfl (fun K hK => ?_) ?_
      · go_simp
        go_at_call 10
        refine (HCO.out _ HT.out.bel).mono ?_; rintro e wn2 ⟨uu, vv, rfl, hu, hv, hb⟩
        obtain ⟨Bu, mu, ku, rfl⟩ : ∃ A n c, uu = .slice A n c := (by obtain ⟨A, c, e⟩ := own_shape hu; exact ⟨A, _, c, e⟩)
        obtain ⟨Bv, mv, kv, rfl⟩ : ∃ A n c, vv = .slice A n c := (by obtain ⟨A, c, e⟩ := own_shape hv; exact ⟨A, _, c, e⟩)
        have HLO : Hid (w.heap.size ≤ wn1.heap.size) := Lib.hid HT.out.bel.size
        have HVV : Hid (OwnCs wn2 wn1.heap.size (.slice Bv mv kv) cd.cells) := Lib.hid hv
        skip
        have HNZ : Hid ((Value.slice Bv mv kv).ownBlock ≠ some (w.heap.size + 1 + 1)) := Lib.hid fun e => by
          have h1 := (World.ownsRow.lt hv _ e).1
          have h2 := Blk.lt HT.out.z
          omega
        have HT := Lib.hid (HT.out.kept hb)
        have HNB : Hid (∀ g, (Value.slice Bv mv kv).ownBlock = some g → wn1.heap.size ≤ g ∧ g < wn2.heap.size) := Lib.hid fun g e => World.ownsRow.lt hv g e
        clear hu hv hb
        refine hK.out _ _ ⟨HT.out.v1, HT.out.v2⟩ (fun hHeld => ?_)
        clear hK K
        refine wpAnyH_take (i := 4) (v := ?_) rfl (by kernel_rfl) (by kernel_rfl) (by kernel_rfl) (fun _ _ _ h => h) (Or.inl ⟨by rfl, ?_⟩) (by assumption) ?_
        rotate_left
        · intro w' hSw; first | (go_simp; done) | (go_simp; with_reducible rfl)
        simp only [Act.put, List.getElem_toArray, List.getElem_cons_zero, List.getElem_cons_succ, List.setIfInBounds_toArray, List.set_cons_zero, List.set_cons_succ]
        refine wpAnyH_take (i := 5) (v := ?_) rfl (by kernel_rfl) (by kernel_rfl) (by kernel_rfl) (fun _ _ _ h => h) (Or.inl ⟨by rfl, ?_⟩) (by assumption) ?_
        rotate_left
        · intro w' hSw; first | (go_simp; done) | (go_simp; with_reducible rfl)
        simp only [Act.put, List.getElem_toArray, List.getElem_cons_zero, List.getElem_cons_succ, List.setIfInBounds_toArray, List.set_cons_zero, List.set_cons_succ]
        refine wpAnyH_take (i := 6) (v := ?_) rfl (by kernel_rfl) (by kernel_rfl) (by kernel_rfl) (fun _ _ _ h => h) (Or.inl ⟨by rfl, ?_⟩) (by assumption) ?_
        rotate_left
        · intro w' hSw; first | (go_simp; done) | (go_simp; with_reducible rfl)
        simp only [Act.put, List.getElem_toArray, List.getElem_cons_zero, List.getElem_cons_succ, List.setIfInBounds_toArray, List.set_cons_zero, List.set_cons_succ]
        refine wpAnyH_ready (rs := [7]) (by kernel_rfl) (by simp) ?_
        refine AllReadyH.cons rfl (fun K hK => ?_) ?_
        · refine step_allocP rfl rfl ?_
          have HT := Lib.hid HT.out.alloc1
          have HVV := Lib.hid (OwnCs.kept HVV.out ((Below.refl _ _).alloc (Nat.le_refl _) zobj))
          generalize hbx : wn2.heap.size = bx at HT HNB ⊢
          generalize wn2.alloc zobj = wn3 at HT HVV ⊢
          refine hK.out _ _ ⟨HT.out.v1, HT.out.v2⟩ (fun hHeld => ?_)
          clear hK K
          refine wpAnyH_ready (rs := [8]) (by kernel_rfl) (by simp) ?_
          refine AllReadyH.cons rfl (fun K hK => ?_) ?_
          · refine step_storeA aggPatch (A := #[.int .i64 cd.rows, .int .i64 cd.cols, .bool cd.all, .slice Bu mu ku, .slice Bv mv kv, .int .i64 cd.row, .int .i64 cd.col, .int .i64 cd.modes, .string ⟨cd.title.toArray⟩]) rfl rfl rfl rfl rfl rfl (HT.out.p1 _ rfl).1 rfl fun wn4 HSt => ?_
            have HVV := Lib.hid (show OwnCs wn4 wn1.heap.size (.slice Bv mv kv) cd.cells from sto_other HSt HVV.out (fun e => by have h1 := (HNB.out _ e).2; omega))
            have HT := Lib.hid (HT.out.store1 HSt)
            clear HSt
            refine hK.out _ _ ⟨HT.out.v1, HT.out.v2⟩ (fun hHeld => ?_)
            clear hK K
            refine wpAnyH_take (i := 9) (v := ?_) rfl (by kernel_rfl) (by kernel_rfl) (by kernel_rfl) (fun _ _ _ h => h) (Or.inl ⟨by rfl, ?_⟩) (by assumption) ?_
            rotate_left
            · intro w' hSw; first | (go_simp; done) | (go_simp; with_reducible rfl)
            simp only [Act.put, List.getElem_toArray, List.getElem_cons_zero, List.getElem_cons_succ, List.setIfInBounds_toArray, List.set_cons_zero, List.set_cons_succ]
            refine wpAnyH_done (by kernel_rfl) ?_ _
            go_wp2_with fail
            go_meet
            exact ⟨_, _, _, _, _, _, _, rfl, rfl, HT, Lib.hid (OwnCs.low HVV.out HLO.out), HNZ⟩
          exact AllReadyH.nil
        exact AllReadyH.nil
      refine AllReadyH.cons rfl (fun K hK => ?_) ?_
      · refine step_allocP rfl rfl ?_
        have HT := Lib.hid HT.out.alloc1
        generalize hbx : wn1.heap.size = bx at HT ⊢
        generalize wn1.alloc zobj = wn5 at HT ⊢
        refine hK.out _ _ ⟨HT.out.v1, HT.out.v2⟩ (fun hHeld => ?_)
        clear hK K
        refine wpAnyH_ready (rs := [3]) (by kernel_rfl) (by simp) ?_
        refine AllReadyH.cons rfl (fun K hK => ?_) ?_
        · go_simp
          go_at_call 10
          refine (HCO.out _ HT.out.bel).mono ?_; rintro e wn6 ⟨uu, vv, rfl, hu, hv, hb⟩
          obtain ⟨Bu, mu, ku, rfl⟩ : ∃ A n c, uu = .slice A n c := (by obtain ⟨A, c, e⟩ := own_shape hu; exact ⟨A, _, c, e⟩)
          obtain ⟨Bv, mv, kv, rfl⟩ : ∃ A n c, vv = .slice A n c := (by obtain ⟨A, c, e⟩ := own_shape hv; exact ⟨A, _, c, e⟩)
          have HLO : Hid (w.heap.size ≤ wn5.heap.size) := Lib.hid HT.out.bel.size
          have HVV : Hid (OwnCs wn6 wn5.heap.size (.slice Bv mv kv) cd.cells) := Lib.hid hv
          have HBX : Hid (bx < wn5.heap.size) := Lib.hid (Blk.lt (HT.out.p1 _ rfl).1)
          have HNZ : Hid ((Value.slice Bv mv kv).ownBlock ≠ some (w.heap.size + 1 + 1)) := Lib.hid fun e => by
            have h1 := (World.ownsRow.lt hv _ e).1
            have h2 := Blk.lt HT.out.z
            omega
          have HT := Lib.hid (HT.out.kept hb)
          have HNB : Hid (∀ g, (Value.slice Bv mv kv).ownBlock = some g → wn5.heap.size ≤ g ∧ g < wn6.heap.size) := Lib.hid fun g e => World.ownsRow.lt hv g e
          clear hu hv hb
          refine hK.out _ _ ⟨HT.out.v1, HT.out.v2⟩ (fun hHeld => ?_)
          clear hK K
          refine wpAnyH_take (i := 4) (v := ?_) rfl (by kernel_rfl) (by kernel_rfl) (by kernel_rfl) (fun _ _ _ h => h) (Or.inl ⟨by rfl, ?_⟩) (by assumption) ?_
          rotate_left
          · intro w' hSw; first | (go_simp; done) | (go_simp; with_reducible rfl)
          simp only [Act.put, List.getElem_toArray, List.getElem_cons_zero, List.getElem_cons_succ, List.setIfInBounds_toArray, List.set_cons_zero, List.set_cons_succ]
          refine wpAnyH_take (i := 5) (v := ?_) rfl (by kernel_rfl) (by kernel_rfl) (by kernel_rfl) (fun _ _ _ h => h) (Or.inl ⟨by rfl, ?_⟩) (by assumption) ?_
          rotate_left
          · intro w' hSw; first | (go_simp; done) | (go_simp; with_reducible rfl)
          simp only [Act.put, List.getElem_toArray, List.getElem_cons_zero, List.getElem_cons_succ, List.setIfInBounds_toArray, List.set_cons_zero, List.set_cons_succ]
          refine wpAnyH_take (i := 6) (v := ?_) rfl (by kernel_rfl) (by kernel_rfl) (by kernel_rfl) (fun _ _ _ h => h) (Or.inl ⟨by rfl, ?_⟩) (by assumption) ?_
          rotate_left
          · intro w' hSw; first | (go_simp; done) | (go_simp; with_reducible rfl)
          simp only [Act.put, List.getElem_toArray, List.getElem_cons_zero, List.getElem_cons_succ, List.setIfInBounds_toArray, List.set_cons_zero, List.set_cons_succ]
          refine wpAnyH_ready (rs := [8]) (by kernel_rfl) (by simp) ?_
          refine AllReadyH.cons rfl (fun K hK => ?_) ?_
          · refine step_storeA aggPatch (A := #[.int .i64 cd.rows, .int .i64 cd.cols, .bool cd.all, .slice Bu mu ku, .slice Bv mv kv, .int .i64 cd.row, .int .i64 cd.col, .int .i64 cd.modes, .string ⟨cd.title.toArray⟩]) rfl rfl rfl rfl rfl rfl (HT.out.p1 _ rfl).1 rfl fun wn7 HSt => ?_
            have HVV := Lib.hid (show OwnCs wn7 wn5.heap.size (.slice Bv mv kv) cd.cells from sto_other HSt HVV.out (fun e => by have h1 := (HNB.out _ e).1; have h2 := HBX.out; omega))
            have HT := Lib.hid (HT.out.store1 HSt)
            clear HSt
            refine hK.out _ _ ⟨HT.out.v1, HT.out.v2⟩ (fun hHeld => ?_)
            clear hK K
            refine wpAnyH_take (i := 9) (v := ?_) rfl (by kernel_rfl) (by kernel_rfl) (by kernel_rfl) (fun _ _ _ h => h) (Or.inl ⟨by rfl, ?_⟩) (by assumption) ?_
            rotate_left
            · intro w' hSw; first | (go_simp; done) | (go_simp; with_reducible rfl)
            simp only [Act.put, List.getElem_toArray, List.getElem_cons_zero, List.getElem_cons_succ, List.setIfInBounds_toArray, List.set_cons_zero, List.set_cons_succ]
            refine wpAnyH_done (by kernel_rfl) ?_ _
            go_wp2_with fail
            go_meet
            exact ⟨_, _, _, _, _, _, _, rfl, rfl, HT, Lib.hid (OwnCs.low HVV.out HLO.out), HNZ⟩
          exact AllReadyH.nil
        exact AllReadyH.nil
      exact AllReadyH.nil
    refine AllReadyH.cons rfl (fun K hK => ?_) ?_
    · refine step_allocP rfl rfl ?_
      have HT := Lib.hid HT.out.alloc1
      generalize hbx : wd.heap.size = bx at HT ⊢
      generalize wd.alloc zobj = wn8 at HT ⊢
      refine hK.out _ _ ⟨HT.out.v1, HT.out.v2⟩ (fun hHeld => ?_)
      clear hK K
      refine wpAnyH_ready (rs := [1]) (by kernel_rfl) (by simp) ?_
      refine AllReadyH.cons rfl (fun K hK => ?_) ?_
      · go_simp
        go_at_call 16
        refine (HA1.out _).mono ?_; rintro e wn9 ⟨rfl, hb⟩
        have HT := Lib.hid (HT.out.kept hb)
        clear hb
        refine hK.out _ _ ⟨HT.out.v1, HT.out.v2⟩ (fun hHeld => ?_)
        clear hK K
        refine wpAnyH_ready (rs := [3]) (by kernel_rfl) (by simp) ?_
        refine AllReadyH.cons rfl (fun K hK => ?_) ?_
        · go_simp
          go_at_call 10
          refine (HCO.out _ HT.out.bel).mono ?_; rintro e wn10 ⟨uu, vv, rfl, hu, hv, hb⟩
          obtain ⟨Bu, mu, ku, rfl⟩ : ∃ A n c, uu = .slice A n c := (by obtain ⟨A, c, e⟩ := own_shape hu; exact ⟨A, _, c, e⟩)
          obtain ⟨Bv, mv, kv, rfl⟩ : ∃ A n c, vv = .slice A n c := (by obtain ⟨A, c, e⟩ := own_shape hv; exact ⟨A, _, c, e⟩)
          have HLO : Hid (w.heap.size ≤ wn9.heap.size) := Lib.hid HT.out.bel.size
          have HVV : Hid (OwnCs wn10 wn9.heap.size (.slice Bv mv kv) cd.cells) := Lib.hid hv
          have HBX : Hid (bx < wn9.heap.size) := Lib.hid (Blk.lt (HT.out.p1 _ rfl).1)
          have HNZ : Hid ((Value.slice Bv mv kv).ownBlock ≠ some (w.heap.size + 1 + 1)) := Lib.hid fun e => by
            have h1 := (World.ownsRow.lt hv _ e).1
            have h2 := Blk.lt HT.out.z
            omega
          have HT := Lib.hid (HT.out.kept hb)
          have HNB : Hid (∀ g, (Value.slice Bv mv kv).ownBlock = some g → wn9.heap.size ≤ g ∧ g < wn10.heap.size) := Lib.hid fun g e => World.ownsRow.lt hv g e
          clear hu hv hb
          refine hK.out _ _ ⟨HT.out.v1, HT.out.v2⟩ (fun hHeld => ?_)
          clear hK K
          refine wpAnyH_take (i := 4) (v := ?_) rfl (by kernel_rfl) (by kernel_rfl) (by kernel_rfl) (fun _ _ _ h => h) (Or.inl ⟨by rfl, ?_⟩) (by assumption) ?_
          rotate_left
          · intro w' hSw; first | (go_simp; done) | (go_simp; with_reducible rfl)
          simp only [Act.put, List.getElem_toArray, List.getElem_cons_zero, List.getElem_cons_succ, List.setIfInBounds_toArray, List.set_cons_zero, List.set_cons_succ]
          refine wpAnyH_take (i := 5) (v := ?_) rfl (by kernel_rfl) (by kernel_rfl) (by kernel_rfl) (fun _ _ _ h => h) (Or.inl ⟨by rfl, ?_⟩) (by assumption) ?_
          rotate_left
          · intro w' hSw; first | (go_simp; done) | (go_simp; with_reducible rfl)
          simp only [Act.put, List.getElem_toArray, List.getElem_cons_zero, List.getElem_cons_succ, List.setIfInBounds_toArray, List.set_cons_zero, List.set_cons_succ]
          refine wpAnyH_take (i := 6) (v := ?_) rfl (by kernel_rfl) (by kernel_rfl) (by kernel_rfl) (fun _ _ _ h => h) (Or.inl ⟨by rfl, ?_⟩) (by assumption) ?_
          rotate_left
          · intro w' hSw; first | (go_simp; done) | (go_simp; with_reducible rfl)
          simp only [Act.put, List.getElem_toArray, List.getElem_cons_zero, List.getElem_cons_succ, List.setIfInBounds_toArray, List.set_cons_zero, List.set_cons_succ]
          refine wpAnyH_ready (rs := [8]) (by kernel_rfl) (by simp) ?_
          refine AllReadyH.cons rfl (fun K hK => ?_) ?_
          · refine step_storeA aggPatch (A := #[.int .i64 cd.rows, .int .i64 cd.cols, .bool cd.all, .slice Bu mu ku, .slice Bv mv kv, .int .i64 cd.row, .int .i64 cd.col, .int .i64 cd.modes, .string ⟨cd.title.toArray⟩]) rfl rfl rfl rfl rfl rfl (HT.out.p1 _ rfl).1 rfl fun wn11 HSt => ?_
            have HVV := Lib.hid (show OwnCs wn11 wn9.heap.size (.slice Bv mv kv) cd.cells from sto_other HSt HVV.out (fun e => by have h1 := (HNB.out _ e).1; have h2 := HBX.out; omega))
            have HT := Lib.hid (HT.out.store1 HSt)
            clear HSt
            refine hK.out _ _ ⟨HT.out.v1, HT.out.v2⟩ (fun hHeld => ?_)
            clear hK K
            refine wpAnyH_take (i := 9) (v := ?_) rfl (by kernel_rfl) (by kernel_rfl) (by kernel_rfl) (fun _ _ _ h => h) (Or.inl ⟨by rfl, ?_⟩) (by assumption) ?_
            rotate_left
            · intro w' hSw; first | (go_simp; done) | (go_simp; with_reducible rfl)
            simp only [Act.put, List.getElem_toArray, List.getElem_cons_zero, List.getElem_cons_succ, List.setIfInBounds_toArray, List.set_cons_zero, List.set_cons_succ]
            refine wpAnyH_done (by kernel_rfl) ?_ _
            go_wp2_with fail
            go_meet
            exact ⟨_, _, _, _, _, _, _, rfl, rfl, HT, Lib.hid (OwnCs.low HVV.out HLO.out), HNZ⟩
          exact AllReadyH.nil
        exact AllReadyH.nil
      exact AllReadyH.nil
    exact AllReadyH.nil
  case rest =>
    obtain ⟨b6, Bu, mu, ku, Bv, mv, kv, rfl, rfl, HT, HVV, HNZ⟩ := hcut
    obtain ⟨w9, rfl⟩ : ∃ W, W = wc := ⟨_, rfl⟩
    cases ok with
    | false =>
      obtain rfl : bv = noV := HNO.out rfl
      simp only [codeC, Bool.false_eq_true, if_false]
      go_wp2_with (refine wp_storeV (T := fun w' => w'.heap[w.heap.size + 1 + 1]? = some (.cells #[.int .i64 0, .int .i64 0, .slice none 0 0, .int .i64 0, .int .i64 0, .int .i64 0, .string ⟨#[]⟩] 32 (0, 0)) ∧ Below w.heap.size w w') rfl rfl rfl rfl rfl HT.out.z (fun w' h => ⟨h.box, h.below _ _ (by omega) HT.out.bel⟩) ?_; intro wF HF)
      exact bodyPost_ret (v := .tuple #[.agg #[.int .i64 0, .int .i64 0, .slice none 0 0, .int .i64 0, .int .i64 0, .int .i64 0, .string ⟨#[]⟩], .int .i64 1]) (ret2A aggView Tryd.results7 rfl HF.out.1 rfl rfl) rfl ⟨nilS, rfl, World.ownsRow_nil _ _ _ _, HF.out.2⟩
    | true =>
      cases go with
      | false =>
        obtain rfl : bv = noV := HNO.out rfl
        simp only [codeC, Bool.false_eq_true, if_false, if_true]
        go_wp2_with (refine wp_storeV (T := fun w' => w'.heap[w.heap.size + 1 + 1]? = some (.cells #[.int .i64 0, .int .i64 0, .slice none 0 0, .int .i64 0, .int .i64 0, .int .i64 0, .string ⟨#[]⟩] 32 (0, 0)) ∧ Below w.heap.size w w') rfl rfl rfl rfl rfl HT.out.z (fun w' h => ⟨h.box, h.below _ _ (by omega) HT.out.bel⟩) ?_; intro wF HF)
        exact bodyPost_ret (v := .tuple #[.agg #[.int .i64 0, .int .i64 0, .slice none 0 0, .int .i64 0, .int .i64 0, .int .i64 0, .string ⟨#[]⟩], .int .i64 7]) (ret2A aggView Tryd.results7 rfl HF.out.1 rfl rfl) rfl ⟨nilS, rfl, World.ownsRow_nil _ _ _ _, HF.out.2⟩
      | true =>
        obtain rfl : bv = madeV cd := HYES.out rfl rfl
        simp only [codeC, if_true]
        go_wp2_with (refine wp_loadP rfl rfl rfl (HT.out.p1 _ rfl).1 ?_)
        refine (made_t cd.rows cd.cols cd.row cd.col cd.modes cd.all ⟨cd.title.toArray⟩ (.slice Bu mu ku) Bv mv kv _).mono ?_; rintro e w8 ⟨rfl, hb⟩
        have HT8 := Lib.hid (HT.out.kept hb)
        have HV8 : Hid (OwnCs w8 w.heap.size (.slice Bv mv kv) cd.cells) := Lib.hid (OwnCs.kept HVV.out hb)
        clear hb HT HVV
        go_wp2_with (refine wp_storeV (T := fun w' => w'.heap[w.heap.size + 1 + 1]? = some (.cells #[.int .i64 cd.rows, .int .i64 cd.cols, .slice Bv mv kv, .int .i64 cd.row, .int .i64 cd.col, .int .i64 cd.modes, .string ⟨cd.title.toArray⟩] 32 (0, 0)) ∧ OwnCs w' w.heap.size (.slice Bv mv kv) cd.cells ∧ Below w.heap.size w w') rfl rfl rfl rfl rfl HT8.out.z (fun w' h => ⟨h.box, sto_other h HV8.out (HNZ.out), h.below _ _ (by omega) HT8.out.bel⟩) ?_; intro wF HF)
        refine bodyPost_ret (v := .tuple #[.agg #[.int .i64 cd.rows, .int .i64 cd.cols, .slice Bv mv kv, .int .i64 cd.row, .int .i64 cd.col, .int .i64 cd.modes, .string ⟨cd.title.toArray⟩], .int .i64 0]) (ret2A aggView Tryd.results7 rfl HF.out.1 rfl rfl) rfl ⟨.slice Bv mv kv, rfl, HF.out.2.1, HF.out.2.2⟩
theorem apply_any (v : Vw) (p : Pt) (x u y : Value) (w : World) (hx : Rm w x v.g.cells) (hu : Sl w u p.at_) (hy : Rm w y p.cells) (hs1 : Held v.g.cells) (hs2 : Held p.cells) (hT : Tabs w) (ht1 : v.title.length ≤ 1000000000) (ht2 : p.title.length ≤ 1000000000) (hn2 : p.at_.length ≤ 1000000) :
    Calls Tryd.prog 7 #[vagg v x, pagg p u y] w fun e w' => ∃ z, e = .returned (.tuple #[vagg (appD v p) z, .int .i64 (codeC (viewB v && patchB p) (fitsB v p))]) ∧ OwnCs w' w.heap.size z (appD v p).g.cells ∧ Below w.heap.size w w' := by
  obtain ⟨A1, c1, rfl, _⟩ := id hx.2
  obtain ⟨U2, k2, rfl, _⟩ := id hu.room
  obtain ⟨A2, c2, rfl, _⟩ := id hy.2
  have hno : (viewB v && patchB p && fitsB v p) = false → appD v p = noV := fun h => by
    unfold appD
    split
    · rename_i h1
      rw [h1, Bool.true_and] at h
      rw [if_neg (by rw [h]; decide)]
    · rfl
  have hyes : (viewB v && patchB p) = true → fitsB v p = true → appD v p = madeV (compD (whole v) p) := fun h k => by
    have e : compD (whole v) p = compose (whole v) p := by
      unfold compD
      rw [if_pos (by rw [view_whole]; exact h), if_pos (show goesB (whole v) p = true from k)]
    rw [e, made_apply k]
    unfold appD
    rw [if_pos h, if_pos k]
  obtain ⟨⟨R1, C1, l1⟩, p1, q1, m1, t1⟩ := v
  obtain ⟨R2, C2, f2, n2, l2, p2, q2, m2, t2⟩ := p
  exact apply_t R1 C1 p1 q1 m1 R2 C2 p2 q2 m2 f2 t1 t2 n2 l1 l2 A1 U2 A2 c1 k2 c2 w hx hu hy hs1 hs2 hT ht1 ht2 hn2 _ rfl _ _ rfl rfl _ hyes hno
end Pat
end
end Go.Proofs.YtjcfbeiljdohcaaDoor
