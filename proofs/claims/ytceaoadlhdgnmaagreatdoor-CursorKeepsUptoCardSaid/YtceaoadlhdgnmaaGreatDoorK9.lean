/- Joined texts: GrdNew, GrdBad. -/
import Derived.Test.YtceaoadlhdgnmaaGreatDoorK8
section
/- The developers' New; the law wakes. -/
namespace Go.Proofs.YtceaoadlhdgnmaaGreatDoor
set_option maxRecDepth 100000
open Go.RowKit
namespace Row

theorem empties_ok (w : World) (r c : Nat) {a : Look} (ha : attrOk a = true) : LnsOk w c (List.replicate r (.empty a)) := fun x hx => by rw [(List.mem_replicate.1 hx).2]; exact ha
set_option maxHeartbeats 4000000 in
theorem new_fits (r c : Nat) (a : Look) (w : World) (ha : attrOk a = true) (h1 : 1 ≤ r) (h2 : r ≤ 40) (h3 : 1 ≤ c) (h4 : c ≤ 40) :
    Calls Tryz.prog 118 #[.int .i64 r, .int .i64 c, .agg #[.int .i64 a.fg, .int .i64 a.bg, .int .i64 a.flags]] w fun e w' =>
      ∃ v, e = .returned (.tuple #[.agg #[.int .i64 r, .int .i64 c, v], .int .i64 0]) ∧ OwnCs w' w.heap.size v (news r c a).flatten ∧ Below w.heap.size w w' := by
  have HSD : Hid (sidesOk (r : Int) (c : Int) = true) := Lib.hid ((sidesOk_iff _ _).2 ⟨⟨by omega, by omega⟩, by omega, by omega⟩)
  have HPT := Lib.hid (fun w' => paints_at a true ha w')
  have HEM := Lib.hid (fun w' => empties_any r a w' (by omega))
  have HLA := Lib.hid (fun v w' (k : Sv w' v (List.replicate r (.empty a))) => (show _ from laid_any (List.replicate r (.empty a)) c v w' k (empties_ok w' r c ha) h3 h4 (by rw [List.length_replicate]; exact h2)))
  rw [List.length_replicate, rowsOfL_rep] at HLA
  obtain ⟨res, HRS⟩ : ∃ q, Hid ((news r c a).flatten = q) := ⟨_, Lib.hid rfl⟩
  have HLA : Hid (∀ (v : Value) (w' : World), Sv w' v (List.replicate r (.empty a)) → Calls Tryz.prog 151 #[v, .int .i64 c] w' fun e w'' => ∃ v', e = .returned (.agg #[.int .i64 r, .int .i64 c, v']) ∧ OwnCs w'' w'.heap.size v' res ∧ Below w'.heap.size w' w'') := Lib.hid (by rw [← HRS.out]; exact HLA.out)
  have hW := ((Below.refl w.heap.size w).alloc (Nat.le_refl _) (abox a)).alloc (by simp) (gbox 0 0 (.slice none 0 0))
  have HW := Lib.hid hW
  have HA : Hid (((w.alloc (abox a)).alloc (gbox 0 0 (.slice none 0 0))).heap[w.heap.size]? = some (abox a)) := Lib.hid (old_alloc (new_alloc _ _ _ rfl) _)
  have HZ : Hid (((w.alloc (abox a)).alloc (gbox 0 0 (.slice none 0 0))).heap[w.heap.size + 1]? = some (gbox 0 0 (.slice none 0 0))) := Lib.hid (new_alloc _ _ _ (by simp))
  clear ha hW
  go_enter Tryz.func118, Tryz.ntmps118
  go_wp2_with fail
  refine (sides_at _ _ _ HSD.out _).mono ?_; rintro e w' ⟨rfl, rfl⟩
  go_wp2_with fail
  refine (HPT.out _).mono ?_; rintro e w2 ⟨rfl, hb2⟩
  have HA2 := Lib.hid (Blk.kept HA.out hb2)
  have HZ2 := Lib.hid (Blk.kept HZ.out hb2)
  have HW2 := Lib.hid (HW.out.trans (hb2.mono HW.out.size))
  obtain ⟨k0, k1, k2⟩ := box_cells HA2.out
  clear hb2 HA HZ HW
  go_wp2_with fail
  refine (HEM.out _).mono ?_; rintro e w3 ⟨v3, rfl, ho3, hb3⟩
  have HZ3 := Lib.hid (Blk.kept HZ2.out hb3)
  have HW3 := Lib.hid (HW2.out.trans (hb3.mono HW2.out.size))
  have HS3 := Lib.hid ho3.sv
  clear hb3 ho3 k0 k1 k2
  go_wp2_with fail
  refine (HLA.out _ _ HS3.out).mono ?_; rintro e w7 ⟨v7, rfl, ho7, hb7⟩
  obtain ⟨A8, e8, rfl⟩ := own_shape ho7
  have HZ7 := Lib.hid (Blk.kept HZ3.out hb7)
  have HW7 := Lib.hid (HW3.out.trans (hb7.mono HW3.out.size))
  have HO7 := Lib.hid (ho7.low (show w.heap.size + 2 ≤ w3.heap.size from Blk.lt HZ3.out))
  have z0 : w7.cell? ⟨w.heap.size + 1, 0, none⟩ = some (.int .i64 0) := Blk.cell HZ7.out 0
  have z1 : w7.cell? ⟨w.heap.size + 1, 1, none⟩ = some (.int .i64 0) := Blk.cell HZ7.out 1
  have z2 : w7.cell? ⟨w.heap.size + 1, 2, none⟩ = some (.slice none 0 0) := Blk.cell HZ7.out 2
  have y0 : w7.frozen? ⟨w.heap.size + 1, 0, none⟩ = false := Blk.free HZ7.out 0
  have y1 : w7.frozen? ⟨w.heap.size + 1, 1, none⟩ = false := Blk.free HZ7.out 1
  have y2 : w7.frozen? ⟨w.heap.size + 1, 2, none⟩ = false := Blk.free HZ7.out 2
  have HF := Lib.hid (gput_box HZ7.out r c (.slice A8 res.length e8))
  have HO8 : Hid (OwnCs (gput w7 (w.heap.size + 1) r c (.slice A8 res.length e8)) (w.heap.size + 2) (.slice A8 res.length e8) res) := Lib.hid (gput_own HO7.out (Nat.lt_succ_self _) _ _ _)
  have HB8 : Hid (Below w.heap.size w (gput w7 (w.heap.size + 1) r c (.slice A8 res.length e8))) := Lib.hid (gput_below HW7.out (by omega) _ _ _)
  clear ho7 hb7
  go_wp2_with fail
  show bodyPost _ _ _ _ _ (gput w7 (w.heap.size + 1) r c (.slice A8 res.length e8))
  clear z0 z1 z2 y0 y1 y2
  generalize gput w7 (w.heap.size + 1) r c (.slice A8 res.length e8) = wF at HF HO8 HB8 ⊢
  have z0 : wF.cell? ⟨w.heap.size + 1, 0, none⟩ = some (.int .i64 r) := Blk.cell HF.out 0
  have z1 : wF.cell? ⟨w.heap.size + 1, 1, none⟩ = some (.int .i64 c) := Blk.cell HF.out 1
  have z2 : wF.cell? ⟨w.heap.size + 1, 2, none⟩ = some (.slice A8 res.length e8) := Blk.cell HF.out 2
  exact bodyPost_ret (v := .tuple #[.agg #[.int .i64 r, .int .i64 c, .slice A8 res.length e8], .int .i64 0]) (by simp [results, Tryz.results118, go_sem, z0, z1, z2]) rfl ⟨_, rfl, by rw [HRS.out]; exact HO8.out.low (by omega), HB8.out⟩
end Row
end Go.Proofs.YtceaoadlhdgnmaaGreatDoor
end
section
/- The developers' Up, Down, Resize and New, where they refuse. -/
namespace Go.Proofs.YtceaoadlhdgnmaaGreatDoor
set_option maxRecDepth 100000
open Go.RowKit
namespace Row

/-- What may be moved. -/
def MvOk (G : Gr) (top bot n : Int) (a : Look) : Prop := GridOk G ∧ attrOk a = true ∧ (0 ≤ top ∧ top ≤ bot) ∧ bot < G.rows ∧ (0 ≤ n ∧ n ≤ 9999)
end Row
end Go.Proofs.YtceaoadlhdgnmaaGreatDoor
end
