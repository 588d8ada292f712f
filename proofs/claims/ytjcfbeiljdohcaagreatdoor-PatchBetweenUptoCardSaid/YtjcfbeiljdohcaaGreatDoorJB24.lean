/- Joined texts: PatRefW, PatBd. -/
import Derived.Test.YtjcfbeiljdohcaaGreatDoorJB15
import Derived.Deep.RegionHeld3
namespace Go.Proofs.YtjcfbeiljdohcaaGreatDoor
set_option maxRecDepth 100000
section
open Go.RowKit
namespace Pat
open Go.Proofs.YtjcfbeiljdohcaaGreatDoor.Row Go.Proofs.YtjcfbeiljdohcaaGreatDoor.Scr Agb
set_option maxHeartbeats 3200000 in
theorem refWhole_t (R C p q m : Int) (T : ByteArray) (l : List Cl) (x : Value) (w : World) (hx : Cs w x l) (hn : l.length ≤ 100000000) :
    Calls Tryz.prog 9 #[.agg #[.int .i64 R, .int .i64 C, x, .int .i64 p, .int .i64 q, .int .i64 m, .string T]] w fun e w' => ∃ y, e = .returned (.agg #[.int .i64 R, .int .i64 C, .bool true, .slice none 0 0, y, .int .i64 p, .int .i64 q, .int .i64 m, .string T]) ∧ OwnCs w' w.heap.size y l ∧ Below w.heap.size w w' := by
  have HX := Lib.hid hx
  have HCC := Lib.hid (fun W (k : Cs W x l) => copyCells_any l x W k hn)
  obtain ⟨A, c, rfl, _⟩ := hx.form
  clear hx hn
  have HBd := Lib.hid (((Below.refl w.heap.size w).alloc (Nat.le_refl _) (.cells #[.int .i64 R, .int .i64 C, .slice A l.length c, .int .i64 p, .int .i64 q, .int .i64 m, .string T] 31)).alloc (by simp) (.cells #[.int .i64 0, .int .i64 0, .bool false, .slice none 0 0, .slice none 0 0, .int .i64 0, .int .i64 0, .int .i64 0, .string ⟨#[]⟩] 36)).drew
  have HV := Lib.hid (old_alloc (new_alloc w (.cells #[.int .i64 R, .int .i64 C, .slice A l.length c, .int .i64 p, .int .i64 q, .int .i64 m, .string T] 31) _ rfl) (.cells #[.int .i64 0, .int .i64 0, .bool false, .slice none 0 0, .slice none 0 0, .int .i64 0, .int .i64 0, .int .i64 0, .string ⟨#[]⟩] 36))
  obtain ⟨b2, hb2⟩ : ∃ b, w.heap.size + 1 = b := ⟨_, rfl⟩
  have HZ := Lib.hid (new_alloc (w.alloc (.cells #[.int .i64 R, .int .i64 C, .slice A l.length c, .int .i64 p, .int .i64 q, .int .i64 m, .string T] 31)) (.cells #[.int .i64 0, .int .i64 0, .bool false, .slice none 0 0, .slice none 0 0, .int .i64 0, .int .i64 0, .int .i64 0, .string ⟨#[]⟩] 36) b2 (by rw [← hb2]; simp))
  have HLB : Hid (w.heap.size ≤ b2) := Lib.hid (by omega)
  have HNE : Hid (w.heap.size ≠ b2) := Lib.hid (by omega)
  have HLT : Hid (b2 < b2 + 1) := Lib.hid (by omega)
  go_enter Tryz.func9, Tryz.ntmps9
  go_upto_region 1 with (fail)
  clear hb2
  have q0 : ((w.alloc (.cells #[.int .i64 R, .int .i64 C, .slice A l.length c, .int .i64 p, .int .i64 q, .int .i64 m, .string T] 31)).alloc (.cells #[.int .i64 0, .int .i64 0, .bool false, .slice none 0 0, .slice none 0 0, .int .i64 0, .int .i64 0, .int .i64 0, .string ⟨#[]⟩] 36)).drew.cell? ⟨w.heap.size, 0, none⟩ = some (.int .i64 R) ∧ ((w.alloc (.cells #[.int .i64 R, .int .i64 C, .slice A l.length c, .int .i64 p, .int .i64 q, .int .i64 m, .string T] 31)).alloc (.cells #[.int .i64 0, .int .i64 0, .bool false, .slice none 0 0, .slice none 0 0, .int .i64 0, .int .i64 0, .int .i64 0, .string ⟨#[]⟩] 36)).drew.cell? ⟨w.heap.size, 1, none⟩ = some (.int .i64 C) ∧ ((w.alloc (.cells #[.int .i64 R, .int .i64 C, .slice A l.length c, .int .i64 p, .int .i64 q, .int .i64 m, .string T] 31)).alloc (.cells #[.int .i64 0, .int .i64 0, .bool false, .slice none 0 0, .slice none 0 0, .int .i64 0, .int .i64 0, .int .i64 0, .string ⟨#[]⟩] 36)).drew.cell? ⟨w.heap.size, 2, none⟩ = some (.slice A l.length c) ∧ ((w.alloc (.cells #[.int .i64 R, .int .i64 C, .slice A l.length c, .int .i64 p, .int .i64 q, .int .i64 m, .string T] 31)).alloc (.cells #[.int .i64 0, .int .i64 0, .bool false, .slice none 0 0, .slice none 0 0, .int .i64 0, .int .i64 0, .int .i64 0, .string ⟨#[]⟩] 36)).drew.cell? ⟨w.heap.size, 3, none⟩ = some (.int .i64 p) ∧ ((w.alloc (.cells #[.int .i64 R, .int .i64 C, .slice A l.length c, .int .i64 p, .int .i64 q, .int .i64 m, .string T] 31)).alloc (.cells #[.int .i64 0, .int .i64 0, .bool false, .slice none 0 0, .slice none 0 0, .int .i64 0, .int .i64 0, .int .i64 0, .string ⟨#[]⟩] 36)).drew.cell? ⟨w.heap.size, 4, none⟩ = some (.int .i64 q) ∧ ((w.alloc (.cells #[.int .i64 R, .int .i64 C, .slice A l.length c, .int .i64 p, .int .i64 q, .int .i64 m, .string T] 31)).alloc (.cells #[.int .i64 0, .int .i64 0, .bool false, .slice none 0 0, .slice none 0 0, .int .i64 0, .int .i64 0, .int .i64 0, .string ⟨#[]⟩] 36)).drew.cell? ⟨w.heap.size, 5, none⟩ = some (.int .i64 m) ∧ ((w.alloc (.cells #[.int .i64 R, .int .i64 C, .slice A l.length c, .int .i64 p, .int .i64 q, .int .i64 m, .string T] 31)).alloc (.cells #[.int .i64 0, .int .i64 0, .bool false, .slice none 0 0, .slice none 0 0, .int .i64 0, .int .i64 0, .int .i64 0, .string ⟨#[]⟩] 36)).drew.cell? ⟨w.heap.size, 6, none⟩ = some (.string T) := ⟨Blk.cell HV.out 0, Blk.cell HV.out 1, Blk.cell HV.out 2, Blk.cell HV.out 3, Blk.cell HV.out 4, Blk.cell HV.out 5, Blk.cell HV.out 6⟩
  have HZ : Hid (((w.alloc (.cells #[.int .i64 R, .int .i64 C, .slice A l.length c, .int .i64 p, .int .i64 q, .int .i64 m, .string T] 31)).alloc (.cells #[.int .i64 0, .int .i64 0, .bool false, .slice none 0 0, .slice none 0 0, .int .i64 0, .int .i64 0, .int .i64 0, .string ⟨#[]⟩] 36)).drew.heap[b2]? = some (.cells #[.int .i64 0, .int .i64 0, .bool false, .slice none 0 0, .slice none 0 0, .int .i64 0, .int .i64 0, .int .i64 0, .string ⟨#[]⟩] 36 (0, 0))) := HZ
  have HV : Hid (((w.alloc (.cells #[.int .i64 R, .int .i64 C, .slice A l.length c, .int .i64 p, .int .i64 q, .int .i64 m, .string T] 31)).alloc (.cells #[.int .i64 0, .int .i64 0, .bool false, .slice none 0 0, .slice none 0 0, .int .i64 0, .int .i64 0, .int .i64 0, .string ⟨#[]⟩] 36)).drew.heap[w.heap.size]? = some (.cells #[.int .i64 R, .int .i64 C, .slice A l.length c, .int .i64 p, .int .i64 q, .int .i64 m, .string T] 31 (0, 0))) := HV
  refine wp_region_held_drew (S := fun w' => w'.cell? ⟨w.heap.size, 0, none⟩ = some (.int .i64 R) ∧ w'.cell? ⟨w.heap.size, 1, none⟩ = some (.int .i64 C) ∧ w'.cell? ⟨w.heap.size, 2, none⟩ = some (.slice A l.length c) ∧ w'.cell? ⟨w.heap.size, 3, none⟩ = some (.int .i64 p) ∧ w'.cell? ⟨w.heap.size, 4, none⟩ = some (.int .i64 q) ∧ w'.cell? ⟨w.heap.size, 5, none⟩ = some (.int .i64 m) ∧ w'.cell? ⟨w.heap.size, 6, none⟩ = some (.string T)) (by kernel_rfl) q0 (fun hHeld => ?_)
  generalize ((w.alloc (.cells #[.int .i64 R, .int .i64 C, .slice A l.length c, .int .i64 p, .int .i64 q, .int .i64 m, .string T] 31)).alloc (.cells #[.int .i64 0, .int .i64 0, .bool false, .slice none 0 0, .slice none 0 0, .int .i64 0, .int .i64 0, .int .i64 0, .string ⟨#[]⟩] 36)).drew = wd at HBd HV HZ q0 ⊢
  refine wpAnyH_take (i := 0) (v := ?_) rfl (by kernel_rfl) (by kernel_rfl) (by kernel_rfl) (fun _ _ _ h => h) (Or.inl ⟨by rfl, ?_⟩) (by assumption) ?_
  rotate_left
  · intro w' hSw; first | (go_simp; done) | (go_simp; with_reducible rfl)
  simp only [Act.put, List.getElem_toArray, List.getElem_cons_zero, List.setIfInBounds_toArray, List.set_cons_zero, List.set_cons_succ]
  refine wpAnyH_take (i := 1) (v := ?_) rfl (by kernel_rfl) (by kernel_rfl) (by kernel_rfl) (fun _ _ _ h => h) (Or.inl ⟨by rfl, ?_⟩) (by assumption) ?_
  rotate_left
  · intro w' hSw; first | (go_simp; done) | (go_simp; with_reducible rfl)
  simp only [Act.put, List.getElem_toArray, List.getElem_cons_zero, List.getElem_cons_succ, List.setIfInBounds_toArray, List.set_cons_zero, List.set_cons_succ]
  refine wpAnyH_take (i := 2) (v := ?_) rfl (by kernel_rfl) (by kernel_rfl) (by kernel_rfl) (fun _ _ _ h => h) (Or.inl ⟨by rfl, ?_⟩) (by assumption) ?_
  rotate_left
  · intro w' hSw; first | (go_simp; done) | (go_simp; with_reducible rfl)
  simp only [Act.put, List.getElem_toArray, List.getElem_cons_zero, List.getElem_cons_succ, List.setIfInBounds_toArray, List.set_cons_zero, List.set_cons_succ]
  refine wpAnyH_take (i := 3) (v := ?_) rfl (by kernel_rfl) (by kernel_rfl) (by kernel_rfl) (fun _ _ _ h => h) (Or.inl ⟨by rfl, ?_⟩) (by assumption) ?_
  rotate_left
  · intro w' hSw; first | (go_simp; done) | (go_simp; with_reducible rfl)
  simp only [Act.put, List.getElem_toArray, List.getElem_cons_zero, List.getElem_cons_succ, List.setIfInBounds_toArray, List.set_cons_zero, List.set_cons_succ]
  refine wpAnyH_take (i := 4) (v := ?_) rfl (by kernel_rfl) (by kernel_rfl) (by kernel_rfl) (fun _ _ _ h => h) (Or.inl ⟨by rfl, ?_⟩) (by assumption) ?_
  rotate_left
  · intro w' hSw; first | (go_simp; done) | (go_simp; with_reducible rfl)
  simp only [Act.put, List.getElem_toArray, List.getElem_cons_zero, List.getElem_cons_succ, List.setIfInBounds_toArray, List.set_cons_zero, List.set_cons_succ]
  refine wpAnyH_take (i := 5) (v := ?_) rfl (by kernel_rfl) (by kernel_rfl) (by kernel_rfl) (fun _ _ _ h => h) (Or.inl ⟨by rfl, ?_⟩) (by assumption) ?_
  rotate_left
  · intro w' hSw; first | (go_simp; done) | (go_simp; with_reducible rfl)
  simp only [Act.put, List.getElem_toArray, List.getElem_cons_zero, List.getElem_cons_succ, List.setIfInBounds_toArray, List.set_cons_zero, List.set_cons_succ]
  refine wpAnyH_take (i := 6) (v := ?_) rfl (by kernel_rfl) (by kernel_rfl) (by kernel_rfl) (fun _ _ _ h => h) (Or.inl ⟨by rfl, ?_⟩) (by assumption) ?_
  rotate_left
  · intro w' hSw; first | (go_simp; done) | (go_simp; with_reducible rfl)
  simp only [Act.put, List.getElem_toArray, List.getElem_cons_zero, List.getElem_cons_succ, List.setIfInBounds_toArray, List.set_cons_zero, List.set_cons_succ]
  refine wpAnyH_take (i := 7) (v := ?_) rfl (by kernel_rfl) (by kernel_rfl) (by kernel_rfl) (fun _ _ _ h => h) (Or.inl ⟨by rfl, ?_⟩) (by assumption) ?_
  rotate_left
  · intro w' hSw; first | (go_simp; done) | (go_simp; with_reducible rfl)
  simp only [Act.put, List.getElem_toArray, List.getElem_cons_zero, List.getElem_cons_succ, List.setIfInBounds_toArray, List.set_cons_zero, List.set_cons_succ]
  refine wpAnyH_take (i := 8) (v := ?_) rfl (by kernel_rfl) (by kernel_rfl) (by kernel_rfl) (fun _ _ _ h => h) (Or.inl ⟨by rfl, ?_⟩) (by assumption) ?_
  rotate_left
  · intro w' hSw; first | (go_simp; done) | (go_simp; with_reducible rfl)
  simp only [Act.put, List.getElem_toArray, List.getElem_cons_zero, List.getElem_cons_succ, List.setIfInBounds_toArray, List.set_cons_zero, List.set_cons_succ]
  refine wpAnyH_take (i := 10) (v := ?_) rfl (by kernel_rfl) (by kernel_rfl) (by kernel_rfl) (fun _ _ _ h => h) (Or.inl ⟨by rfl, ?_⟩) (by assumption) ?_
  rotate_left
  · intro w' hSw; first | (go_simp; done) | (go_simp; with_reducible rfl)
  simp only [Act.put, List.getElem_toArray, List.getElem_cons_zero, List.getElem_cons_succ, List.setIfInBounds_toArray, List.set_cons_zero, List.set_cons_succ]
  refine wpAnyH_take (i := 11) (v := ?_) rfl (by kernel_rfl) (by kernel_rfl) (by kernel_rfl) (fun _ _ _ h => h) (Or.inl ⟨by rfl, ?_⟩) (by assumption) ?_
  rotate_left
  · intro w' hSw; first | (go_simp; done) | (go_simp; with_reducible rfl)
  simp only [Act.put, List.getElem_toArray, List.getElem_cons_zero, List.getElem_cons_succ, List.setIfInBounds_toArray, List.set_cons_zero, List.set_cons_succ]
  refine wpAnyH_take (i := 12) (v := ?_) rfl (by kernel_rfl) (by kernel_rfl) (by kernel_rfl) (fun _ _ _ h => h) (Or.inl ⟨by rfl, ?_⟩) (by assumption) ?_
  rotate_left
  · intro w' hSw; first | (go_simp; done) | (go_simp; with_reducible rfl)
  simp only [Act.put, List.getElem_toArray, List.getElem_cons_zero, List.getElem_cons_succ, List.setIfInBounds_toArray, List.set_cons_zero, List.set_cons_succ]
  refine wpAnyH_take (i := 13) (v := ?_) rfl (by kernel_rfl) (by kernel_rfl) (by kernel_rfl) (fun _ _ _ h => h) (Or.inl ⟨by rfl, ?_⟩) (by assumption) ?_
  rotate_left
  · intro w' hSw; first | (go_simp; done) | (go_simp; with_reducible rfl)
  simp only [Act.put, List.getElem_toArray, List.getElem_cons_zero, List.getElem_cons_succ, List.setIfInBounds_toArray, List.set_cons_zero, List.set_cons_succ]
  refine wpAnyH_take (i := 14) (v := ?_) rfl (by kernel_rfl) (by kernel_rfl) (by kernel_rfl) (fun _ _ _ h => h) (Or.inl ⟨by rfl, ?_⟩) (by assumption) ?_
  rotate_left
  · intro w' hSw; first | (go_simp; done) | (go_simp; with_reducible rfl)
  simp only [Act.put, List.getElem_toArray, List.getElem_cons_zero, List.getElem_cons_succ, List.setIfInBounds_toArray, List.set_cons_zero, List.set_cons_succ]
  refine wpAnyH_take (i := 15) (v := ?_) rfl (by kernel_rfl) (by kernel_rfl) (by kernel_rfl) (fun _ _ _ h => h) (Or.inl ⟨by rfl, ?_⟩) (by assumption) ?_
  rotate_left
  · intro w' hSw; first | (go_simp; done) | (go_simp; with_reducible rfl)
  simp only [Act.put, List.getElem_toArray, List.getElem_cons_zero, List.getElem_cons_succ, List.setIfInBounds_toArray, List.set_cons_zero, List.set_cons_succ]
  refine wpAnyH_take (i := 16) (v := ?_) rfl (by kernel_rfl) (by kernel_rfl) (by kernel_rfl) (fun _ _ _ h => h) (Or.inl ⟨by rfl, ?_⟩) (by assumption) ?_
  rotate_left
  · intro w' hSw; first | (go_simp; done) | (go_simp; with_reducible rfl)
  simp only [Act.put, List.getElem_toArray, List.getElem_cons_zero, List.getElem_cons_succ, List.setIfInBounds_toArray, List.set_cons_zero, List.set_cons_succ]
  refine wpAnyH_take (i := 17) (v := ?_) rfl (by kernel_rfl) (by kernel_rfl) (by kernel_rfl) (fun _ _ _ h => h) (Or.inl ⟨by rfl, ?_⟩) (by assumption) ?_
  rotate_left
  · intro w' hSw; first | (go_simp; done) | (go_simp; with_reducible rfl)
  simp only [Act.put, List.getElem_toArray, List.getElem_cons_zero, List.getElem_cons_succ, List.setIfInBounds_toArray, List.set_cons_zero, List.set_cons_succ]
  refine wpAnyH_ready (rs := [9]) (by kernel_rfl) (by simp) ?_
  refine AllReadyH.cons rfl (fun K hK => ?_) ?_
  · go_simp
    go_at_call 35
    refine (HCC.out _ (HX.out.kept HBd.out)).mono ?_; rintro e w1 ⟨y, rfl, ho, hb⟩
    have HB1 : Hid (Below w.heap.size w w1) := Lib.hid (HBd.out.trans (hb.mono HBd.out.size))
    have hG2 : w1.heap[b2]? = some (.cells #[.int .i64 0, .int .i64 0, .bool false, .slice none 0 0, .slice none 0 0, .int .i64 0, .int .i64 0, .int .i64 0, .string ⟨#[]⟩] 36 (0, 0)) := Blk.kept HZ.out hb
    have hG1 : w1.heap[w.heap.size]? = some (.cells #[.int .i64 R, .int .i64 C, .slice A l.length c, .int .i64 p, .int .i64 q, .int .i64 m, .string T] 31 (0, 0)) := Blk.kept HV.out hb
    obtain ⟨A1, ca, rfl, _⟩ := ho.cs.form
    have HO1 : Hid (OwnCs w1 (b2 + 1) (.slice A1 l.length ca) l) := Lib.hid (ho.low (Blk.lt HZ.out))
    have q1 : w1.cell? ⟨w.heap.size, 0, none⟩ = some (.int .i64 R) ∧ w1.cell? ⟨w.heap.size, 1, none⟩ = some (.int .i64 C) ∧ w1.cell? ⟨w.heap.size, 2, none⟩ = some (.slice A l.length c) ∧ w1.cell? ⟨w.heap.size, 3, none⟩ = some (.int .i64 p) ∧ w1.cell? ⟨w.heap.size, 4, none⟩ = some (.int .i64 q) ∧ w1.cell? ⟨w.heap.size, 5, none⟩ = some (.int .i64 m) ∧ w1.cell? ⟨w.heap.size, 6, none⟩ = some (.string T) := ⟨Blk.cell hG1 0, Blk.cell hG1 1, Blk.cell hG1 2, Blk.cell hG1 3, Blk.cell hG1 4, Blk.cell hG1 5, Blk.cell hG1 6⟩
    clear hb ho
    refine hK.out _ _ q1 (fun hHeld => ?_)
    clear hK K
    refine wpAnyH_take (i := 18) (v := ?_) rfl (by kernel_rfl) (by kernel_rfl) (by kernel_rfl) (fun _ _ _ h => h) (Or.inl ⟨by rfl, ?_⟩) (by assumption) ?_
    rotate_left
    · intro w' hSw; first | (go_simp; done) | (go_simp; with_reducible rfl)
    simp only [Act.put, List.getElem_toArray, List.getElem_cons_zero, List.getElem_cons_succ, List.setIfInBounds_toArray, List.set_cons_zero, List.set_cons_succ]
    refine wpAnyH_ready (rs := [19]) (by kernel_rfl) (by simp) ?_
    refine AllReadyH.cons rfl (fun K hK => ?_) ?_
    · refine step_storeA aggPatch (b := b2) (A := #[.int .i64 R, .int .i64 C, .bool true, .slice none 0 0, .slice A1 l.length ca, .int .i64 p, .int .i64 q, .int .i64 m, .string T]) rfl rfl rfl rfl rfl rfl hG2 rfl fun wF HS => ?_
      have HF : Hid (wF.heap[b2]? = some (.cells #[.int .i64 R, .int .i64 C, .bool true, .slice none 0 0, .slice A1 l.length ca, .int .i64 p, .int .i64 q, .int .i64 m, .string T] 36 (0, 0))) := Lib.hid HS.box
      have HBF : Hid (Below w.heap.size w wF) := Lib.hid (HS.below _ _ HLB.out HB1.out)
      have HOF : Hid (OwnCs wF (b2 + 1) (.slice A1 l.length ca) l) := Lib.hid (HS.row HO1.out HLT.out)
      have q2 : wF.cell? ⟨w.heap.size, 0, none⟩ = some (.int .i64 R) ∧ wF.cell? ⟨w.heap.size, 1, none⟩ = some (.int .i64 C) ∧ wF.cell? ⟨w.heap.size, 2, none⟩ = some (.slice A l.length c) ∧ wF.cell? ⟨w.heap.size, 3, none⟩ = some (.int .i64 p) ∧ wF.cell? ⟨w.heap.size, 4, none⟩ = some (.int .i64 q) ∧ wF.cell? ⟨w.heap.size, 5, none⟩ = some (.int .i64 m) ∧ wF.cell? ⟨w.heap.size, 6, none⟩ = some (.string T) := by
        have h : wF.heap[w.heap.size]? = some (.cells #[.int .i64 R, .int .i64 C, .slice A l.length c, .int .i64 p, .int .i64 q, .int .i64 m, .string T] 31 (0, 0)) := (HS.other _ HNE.out).trans hG1
        exact ⟨Blk.cell h 0, Blk.cell h 1, Blk.cell h 2, Blk.cell h 3, Blk.cell h 4, Blk.cell h 5, Blk.cell h 6⟩
      clear HS
      refine hK.out _ _ q2 (fun hHeld => ?_)
      clear hK K
      refine wpAnyH_done (by kernel_rfl) ?_ _
      go_wp2_with fail
      refine bodyPost_ret (v := .agg #[.int .i64 R, .int .i64 C, .bool true, .slice none 0 0, .slice A1 l.length ca, .int .i64 p, .int .i64 q, .int .i64 m, .string T]) (ret1A aggPatch Tryz.results9 rfl HF.out rfl) rfl ⟨_, rfl, HOF.out.low (by have := HLB.out; omega), HBF.out⟩
    exact AllReadyH.nil
  exact AllReadyH.nil
theorem refWhole_any (v : Vw) (x : Value) (w : World) (hx : Cs w x v.g.cells) (hn : v.g.cells.length ≤ 100000000) :
    Calls Tryz.prog 9 #[vagg v x] w fun e w' => ∃ y, e = .returned (pagg (whole v) (.slice none 0 0) y) ∧ OwnCs w' w.heap.size y v.g.cells ∧ Below w.heap.size w w' :=
  refWhole_t v.g.rows v.g.cols v.row v.col v.modes ⟨v.title.toArray⟩ v.g.cells x w hx hn
end Pat
end
section
open Go.RowKit
namespace Pat
open Go.Proofs.YtjcfbeiljdohcaaGreatDoor.Row Go.Proofs.YtjcfbeiljdohcaaGreatDoor.Scr Agb
theorem own_apart {w : World} {b1 b2 e1 e2 C1 C2 n1 n2 : Nat} {v1 v2 : Value} {xs ys : List Value} (h1 : w.ownsRow b1 e1 C1 v1 n1 xs) (h2 : w.ownsRow b2 e2 C2 v2 n2 ys) (he : e1 ≠ e2) : v1.ownBlock = none ∨ v1.ownBlock ≠ v2.ownBlock := by
  rcases h1.2 with ⟨rfl, _⟩ | ⟨g, cap, cur, rfl, _, hg, _⟩
  · exact .inl rfl
  · refine .inr ?_
    rcases h2.2 with ⟨rfl, _⟩ | ⟨g2, cap2, cur2, rfl, _, hg2, _⟩
    · simp [Value.ownBlock]
    · intro e
      have e : g = g2 := by simpa [Value.ownBlock] using e
      subst e
      rw [hg] at hg2
      injection hg2 with hg2
      injection hg2 with _ e _
      exact he e
theorem row_kept {w w' : World} {base e C n : Nat} {v : Value} {xs : List Value} (h : w.ownsRow base e C v n xs) (hb : Below w.heap.size w w') : w'.ownsRow base e C v n xs :=
  World.ownsRow.kept (row := none) h ⟨hb.os, hb.tape, hb.output, hb.size, fun k hk _ => hb.block k hk⟩ (by cases v.ownBlock <;> simp)
theorem box_grown {w w' : World} {b base e C n : Nat} {v : Value} {xs : List Value} {o : Obj} (h : w.heap[b]? = some o) (hg : w.grownBy w' v.ownBlock) (ho : w.ownsRow base e C v n xs) (hb : b < base) : w'.heap[b]? = some o := by
  rw [hg.block b (Blk.lt h) (fun q => ?_)]
  · exact h
  · have := (ho.lt b q.symm).1
    omega
structure Bd (w0 : World) (bx : List (Nat × Obj)) (b3 : Nat) (p : Pt) (u v : Value) (w : World) : Prop where
  bel : Below w0.heap.size w0 w
  bs : ∀ q ∈ bx, w.heap[q.1]? = some q.2 ∧ q.1 < b3
  h3 : w.heap[b3]? = some (pbox p u v)
  on : OwnN w (b3 + 1) u p.at_
  oc : OwnCs w (b3 + 1) v p.cells
  lo : w0.heap.size ≤ b3
variable {w0 w w' : World} {bx : List (Nat × Obj)} {b3 : Nat} {p : Pt} {u v : Value}
theorem Bd.up (h : Bd w0 bx b3 p u v w) : b3 + 1 ≤ w.heap.size := Blk.lt h.h3
theorem Bd.kept (h : Bd w0 bx b3 p u v w) (hb : Below w.heap.size w w') : Bd w0 bx b3 p u v w' :=
  ⟨h.bel.trans (hb.mono h.bel.size), fun q hq => ⟨Blk.kept (h.bs q hq).1 hb, (h.bs q hq).2⟩, Blk.kept h.h3 hb, h.on.kept hb, row_kept h.oc hb, h.lo⟩
theorem Bd.drewN (h : Bd w0 bx b3 p u v w) (q : Nat) : Bd w0 bx b3 p u v (w.drewN q) := ⟨below_drewN h.bel q, h.bs, h.h3, h.on, h.oc, h.lo⟩
theorem Bd.drew (h : Bd w0 bx b3 p u v w) : Bd w0 bx b3 p u v w.drew := ⟨h.bel.drew, h.bs, h.h3, h.on, h.oc, h.lo⟩
theorem Bd.pushN (h : Bd w0 bx b3 p u v w) {u' : Value} {l : List Int} (ho : OwnN w' (b3 + 1) u' l) (hg : w.grownBy w' u.ownBlock) : Bd w0 bx b3 { p with at_ := l } u' v (w'.setCell ⟨b3, 3, none⟩ u') := by
  have h3 := box_grown h.h3 hg h.on (Nat.lt_succ_self _)
  refine ⟨(below_own h.bel hg (Nat.le_trans h.lo (Nat.le_of_succ_le h.up)) (Blk.low h.on (Nat.le_succ_of_le h.lo))).setCell (p := ⟨b3, 3, none⟩) h.lo _, fun q hq => ?_, Blk.set h3 3 _, ho.set (Nat.lt_succ_self _) _ _, OwnCs.set ?_ (Nat.lt_succ_self _) _ _, h.lo⟩
  · have hq2 := h.bs q hq
    exact ⟨Blk.other (box_grown hq2.1 hg h.on (by omega)) (by omega) _ _, hq2.2⟩
  · exact World.ownsRow.kept h.oc hg (own_apart h.oc h.on (by decide))
theorem Bd.pushC (h : Bd w0 bx b3 p u v w) {v' : Value} {l : List Cl} (ho : OwnCs w' (b3 + 1) v' l) (hg : w.grownBy w' v.ownBlock) : Bd w0 bx b3 { p with cells := l } u v' (w'.setCell ⟨b3, 4, none⟩ v') := by
  have h3 := box_grown h.h3 hg h.oc (Nat.lt_succ_self _)
  refine ⟨(below_cs h.bel hg (Nat.le_trans h.lo (Nat.le_of_succ_le h.up)) (h.oc.low (Nat.le_succ_of_le h.lo))).setCell (p := ⟨b3, 4, none⟩) h.lo _, fun q hq => ?_, Blk.set h3 4 _, OwnN.set ?_ (Nat.lt_succ_self _) _ _, OwnCs.set ho (Nat.lt_succ_self _) _ _, h.lo⟩
  · have hq2 := h.bs q hq
    exact ⟨Blk.other (box_grown hq2.1 hg h.oc (by omega)) (by omega) _ _, hq2.2⟩
  · exact World.ownsRow.kept h.on hg (own_apart h.on h.oc (by decide))
theorem Bd.bare (h : Bd w0 bx b3 p u v w) : Bd w0 bx b3 { p with all := false, cells := [] } u nilS ((w.setCell ⟨b3, 2, none⟩ (.bool false)).setCell ⟨b3, 4, none⟩ nilS) :=
  ⟨(h.bel.setCell (p := ⟨b3, 2, none⟩) h.lo _).setCell (p := ⟨b3, 4, none⟩) h.lo _, fun q hq => ⟨Blk.other (Blk.other (h.bs q hq).1 (by have := (h.bs q hq).2; omega) _ _) (by have := (h.bs q hq).2; omega) _ _, (h.bs q hq).2⟩, Blk.set (Blk.set h.h3 2 _) 4 _,
    (h.on.set (Nat.lt_succ_self _) _ _).set (Nat.lt_succ_self _) _ _, World.ownsRow_nil _ _ _ _, h.lo⟩
theorem neq_cell_same (r x a b c : Int) (t : ByteArray) (w : World) :
    (binOp .neq 78 (.agg #[.int .i64 r, .string t, .int .i64 x, .int .i64 a, .int .i64 b, .int .i64 c]) (.agg #[.int .i64 r, .string t, .int .i64 x, .int .i64 a, .int .i64 b, .int .i64 c])).run Tryz.prog w = .ok (.bool false) w := by
  simp [go_sem]
theorem neq_cell_not {r x a b c r' x' a' b' c' : Int} {t t' : ByteArray} (h : ¬ (r = r' ∧ t = t' ∧ x = x' ∧ a = a' ∧ b = b' ∧ c = c')) (w : World) :
    (binOp .neq 78 (.agg #[.int .i64 r, .string t, .int .i64 x, .int .i64 a, .int .i64 b, .int .i64 c]) (.agg #[.int .i64 r', .string t', .int .i64 x', .int .i64 a', .int .i64 b', .int .i64 c'])).run Tryz.prog w = .ok (.bool true) w := by
  by_cases h1 : r = r'
  · by_cases h2 : t = t'
    · by_cases h3 : x = x'
      · by_cases h4 : a = a'
        · by_cases h5 : b = b'
          · by_cases h6 : c = c'
            · exact absurd ⟨h1, h2, h3, h4, h5, h6⟩ h
            · simp [go_sem, h1, h2, h3, h4, h5, h6]
          · simp [go_sem, h1, h2, h3, h4, h5]
        · simp [go_sem, h1, h2, h3, h4]
      · simp [go_sem, h1, h2, h3]
    · have h2 : ¬ t.toList = t'.toList := fun e => h2 (by
        rw [Lib.toList_data, Lib.toList_data] at e
        rcases t with ⟨⟨l⟩⟩
        rcases t' with ⟨⟨l'⟩⟩
        have e : l = l' := e
        rw [e])
      simp [go_sem, h1, h2]
  · simp [go_sem, h1]
set_option maxHeartbeats 1600000 in
theorem eqCells_is (l m : List Cl) (b : Bool) (hb : b = true ↔ l = m) (x y : Value) (w : World) (hx : Cs w x l) (hy : Cs w y m) (hn : l.length ≤ 100000000) :
    Calls Tryz.prog 37 #[x, y] w fun e w' => e = .returned (.bool b) ∧ ∃ q, w' = w.drewN q := by
  obtain ⟨A, c, rfl, ha⟩ := hx.form
  obtain ⟨A', c', rfl, hb'⟩ := hy.form
  have ha' := Lib.hid ha
  have hb2 := Lib.hid hb'
  have HBI := Lib.hid hb
  clear ha hb' hx hy hb
  by_cases hnm : l.length = m.length
  · obtain ⟨n, hl⟩ : ∃ n, l.length = n := ⟨_, rfl⟩
    have hl2 : m.length = n := by omega
    have HX := Lib.hid hl
    have HY := Lib.hid hl2
    rw [hl] at hn
    clear hnm
    rw [hl, hl2]
    clear hl hl2
    go_enter Tryz.func37, Tryz.ntmps37
    go_wp2_with fail
    go_loopw [5] (fun i wr => ∃ k q : Nat, k ≤ n ∧ i = .int .i64 k ∧ Hid (∀ j, j < k → g l j = g m j) ∧ wr = w.drewN q) (fun i _ => n - (intOf i).toNat)
    case atStart => exact ⟨0, 0, by omega, rfl, Lib.hid fun j h => by omega, rfl⟩
    case round =>
      obtain ⟨k, q, hk, rfl, hal, rfl⟩ := hrel
      by_cases hlt : k < n
      · obtain ⟨ad, rfl, K⟩ := ha'.out k (by rw [HX.out]; exact hlt)
        obtain ⟨ad', rfl, K'⟩ := hb2.out k (by rw [HY.out]; exact hlt)
        by_cases he : g l k = g m k
        · have HA : Hid (∀ j, j < k + 1 → g l j = g m j) := Lib.hid fun j hj => by
            by_cases e : j = k
            · rw [e]; exact he
            · exact hal.out j (by omega)
          rw [← he] at K'
          clear he
          generalize g l k = ev at K K'
          obtain ⟨rune, cb, wide, ⟨fg, bg, fl⟩⟩ := ev
          have h0 := K.head
          have h1 := K.next 0 rfl
          have h2 := K.next 1 rfl
          have h3 := K.next 2 rfl
          have h4 := K.next 3 rfl
          have h5 := K.next 4 rfl
          have i0 := K'.head
          have i1 := K'.next 0 rfl
          have i2 := K'.next 1 rfl
          have i3 := K'.next 2 rfl
          have i4 := K'.next 3 rfl
          have i5 := K'.next 4 rfl
          clear K K'
          go_wp2_with fail
          go_quiet (fail)
          go_wp2_with fail
          go_roundw
          case rel => exact ⟨k + 1, _, by omega, by go_num, HA, rfl⟩
          case measure => simp [intOf]; omega
        · have HF : Hid (b = false) := Lib.hid (by
            cases b
            · rfl
            · exact absurd (by rw [HBI.out.1 rfl]) he)
          have hne : ¬ ((g l k).rune = (g m k).rune ∧ (⟨(g l k).comb.toArray⟩ : ByteArray) = ⟨(g m k).comb.toArray⟩ ∧ (g l k).wide = (g m k).wide ∧ (g l k).a.fg = (g m k).a.fg ∧ (g l k).a.bg = (g m k).a.bg ∧ (g l k).a.flags = (g m k).a.flags) := by
            rintro ⟨e1, e2, e3, e4, e5, e6⟩
            apply he
            rcases q1 : g l k with ⟨r1, c1, w1, ⟨f1, b1, s1⟩⟩
            rcases q2 : g m k with ⟨r2, c2, w2, ⟨f2, b2, s2⟩⟩
            rw [q1, q2] at e1 e2 e3 e4 e5 e6
            simp only at e1 e2 e3 e4 e5 e6
            have e2 : c1 = c2 := by
              have := congrArg (fun z : ByteArray => z.data.toList) e2
              simpa using this
            rw [e1, e2, e3, e4, e5, e6]
          clear he
          generalize g l k = ev at K hne
          generalize g m k = ev' at K' hne
          obtain ⟨rune, cb, wide, ⟨fg, bg, fl⟩⟩ := ev
          obtain ⟨rune', cb', wide', ⟨fg', bg', fl'⟩⟩ := ev'
          simp only at hne
          have hq := fun W : World => neq_cell_not hne W
          clear hne
          have h0 := K.head
          have h1 := K.next 0 rfl
          have h2 := K.next 1 rfl
          have h3 := K.next 2 rfl
          have h4 := K.next 3 rfl
          have h5 := K.next 4 rfl
          have i0 := K'.head
          have i1 := K'.next 0 rfl
          have i2 := K'.next 1 rfl
          have i3 := K'.next 2 rfl
          have i4 := K'.next 3 rfl
          have i5 := K'.next 4 rfl
          clear K K'
          go_wp2_with fail
          go_quiet (fail)
          go_wp2_with fail
          go_ret
          exact ⟨ret_bool2 HF.out.symm, _, World.drewN_drewN _ _ _⟩
      · have HF : Hid (b = true) := Lib.hid (HBI.out.2 (ext_g (by rw [HX.out, HY.out]) fun j hj => hal.out j (by have := HX.out; omega)))
        go_wp2_with fail
        go_ret
        exact ⟨ret_bool2 HF.out.symm, _, rfl⟩
  · have hb1 : ((l.length : Int) != (m.length : Int)) = true := by rw [bne_iff_ne]; omega
    have HF : Hid (b = false) := Lib.hid (by
      cases b
      · rfl
      · exact absurd (by rw [HBI.out.1 rfl]) hnm)
    clear hnm
    go_enter Tryz.func37, Tryz.ntmps37
    go_wp2_with fail
    go_ret
    exact ⟨ret_bool2 HF.out.symm, 0, rfl⟩
end Pat
end
end Go.Proofs.YtjcfbeiljdohcaaGreatDoor
