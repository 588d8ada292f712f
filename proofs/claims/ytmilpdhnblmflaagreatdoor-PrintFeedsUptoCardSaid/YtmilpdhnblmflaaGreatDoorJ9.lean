/- Joined texts: GrdNew, GrdBad. -/
import Derived.Test.YtmilpdhnblmflaaGreatDoorJ1
import Derived.Test.YtmilpdhnblmflaaGreatDoorJ2
import Derived.Test.YtmilpdhnblmflaaGreatDoorJ3
import Derived.Test.YtmilpdhnblmflaaGreatDoorJ4
import Derived.Test.YtmilpdhnblmflaaGreatDoorJ5
import Derived.Test.YtmilpdhnblmflaaGreatDoorJ7
import Derived.Test.YtmilpdhnblmflaaGreatDoorJ8
section
/- The developers' New; the law wakes. -/
namespace Go.Proofs.YtmilpdhnblmflaaGreatDoor
set_option maxRecDepth 100000
open Go.RowKit
namespace Row

theorem empties_ok (w : World) (r c : Nat) {a : Look} (ha : attrOk a = true) : LnsOk w c (List.replicate r (.empty a)) := fun x hx => by rw [(List.mem_replicate.1 hx).2]; exact ha
set_option maxHeartbeats 4000000 in
theorem new_fits (r c : Nat) (a : Look) (w : World) (ha : attrOk a = true) (h1 : 1 ≤ r) (h2 : r ≤ 40) (h3 : 1 ≤ c) (h4 : c ≤ 40) :
    Calls Tryz.prog 34 #[.int .i64 r, .int .i64 c, .agg #[.int .i64 a.fg, .int .i64 a.bg, .int .i64 a.flags]] w fun e w' =>
      ∃ v, e = .returned (.tuple #[.agg #[.int .i64 r, .int .i64 c, v], .int .i64 0]) ∧ OwnCs w' w.heap.size v (news r c a).flatten ∧ Below w.heap.size w w' := by
  have HSD : Hid (sidesOk (r : Int) (c : Int) = true) := Lib.hid ((sidesOk_iff _ _).2 ⟨⟨by omega, by omega⟩, by omega, by omega⟩)
  have HPT := Lib.hid (fun w' => paints_at a true ha w')
  have HEM := Lib.hid (fun w' => empties_any r a w' (by omega))
  have HLA := Lib.hid (fun v w' (k : Sv w' v (List.replicate r (.empty a))) => (show _ from laid_any (List.replicate r (.empty a)) c v w' k (empties_ok w' r c ha) h3 h4 (by rw [List.length_replicate]; exact h2)))
  rw [List.length_replicate, rowsOfL_rep] at HLA
  obtain ⟨res, HRS⟩ : ∃ q, Hid ((news r c a).flatten = q) := ⟨_, Lib.hid rfl⟩
  have HLA : Hid (∀ (v : Value) (w' : World), Sv w' v (List.replicate r (.empty a)) → Calls Tryz.prog 76 #[v, .int .i64 c] w' fun e w'' => ∃ v', e = .returned (.agg #[.int .i64 r, .int .i64 c, v']) ∧ OwnCs w'' w'.heap.size v' res ∧ Below w'.heap.size w' w'') := Lib.hid (by rw [← HRS.out]; exact HLA.out)
  have hW := ((Below.refl w.heap.size w).alloc (Nat.le_refl _) (abox a)).alloc (by simp) (gbox 0 0 (.slice none 0 0))
  have HW := Lib.hid hW
  have HA : Hid (((w.alloc (abox a)).alloc (gbox 0 0 (.slice none 0 0))).heap[w.heap.size]? = some (abox a)) := Lib.hid (old_alloc (new_alloc _ _ _ rfl) _)
  have HZ : Hid (((w.alloc (abox a)).alloc (gbox 0 0 (.slice none 0 0))).heap[w.heap.size + 1]? = some (gbox 0 0 (.slice none 0 0))) := Lib.hid (new_alloc _ _ _ (by simp))
  clear ha hW
  go_enter Tryz.func34, Tryz.ntmps34
  go_wp2_with fail
  refine (sides_at _ _ _ HSD.out _).mono ?_; rintro e w' ⟨rfl, rfl⟩
  go_wp2_with fail
  refine (HPT.out _).mono ?_; rintro e w2 ⟨rfl, hb2⟩
  have HA2 := Lib.hid (Blk.kept HA.out hb2)
  have HZ2 := Lib.hid (Blk.kept HZ.out hb2)
  have HW2 := Lib.hid (HW.out.trans (hb2.mono HW.out.size))
  obtain ⟨k0, k1, k2⟩ := box_cells HA2.out
  clear hb2 HA HZ HW
  go_wp2_with fail
  refine (HEM.out _).mono ?_; rintro e w3 ⟨v3, rfl, ho3, hb3⟩
  have HZ3 := Lib.hid (Blk.kept HZ2.out hb3)
  have HW3 := Lib.hid (HW2.out.trans (hb3.mono HW2.out.size))
  have HS3 := Lib.hid ho3.sv
  clear hb3 ho3 k0 k1 k2
  go_wp2_with fail
  refine (HLA.out _ _ HS3.out).mono ?_; rintro e w7 ⟨v7, rfl, ho7, hb7⟩
  obtain ⟨A8, e8, rfl⟩ := own_shape ho7
  have HZ7 := Lib.hid (Blk.kept HZ3.out hb7)
  have HW7 := Lib.hid (HW3.out.trans (hb7.mono HW3.out.size))
  have HO7 := Lib.hid (ho7.low (show w.heap.size + 2 ≤ w3.heap.size from Blk.lt HZ3.out))
  have z0 : w7.cell? ⟨w.heap.size + 1, 0, none⟩ = some (.int .i64 0) := Blk.cell HZ7.out 0
  have z1 : w7.cell? ⟨w.heap.size + 1, 1, none⟩ = some (.int .i64 0) := Blk.cell HZ7.out 1
  have z2 : w7.cell? ⟨w.heap.size + 1, 2, none⟩ = some (.slice none 0 0) := Blk.cell HZ7.out 2
  have y0 : w7.frozen? ⟨w.heap.size + 1, 0, none⟩ = false := Blk.free HZ7.out 0
  have y1 : w7.frozen? ⟨w.heap.size + 1, 1, none⟩ = false := Blk.free HZ7.out 1
  have y2 : w7.frozen? ⟨w.heap.size + 1, 2, none⟩ = false := Blk.free HZ7.out 2
  have HF := Lib.hid (gput_box HZ7.out r c (.slice A8 res.length e8))
  have HO8 : Hid (OwnCs (gput w7 (w.heap.size + 1) r c (.slice A8 res.length e8)) (w.heap.size + 2) (.slice A8 res.length e8) res) := Lib.hid (gput_own HO7.out (Nat.lt_succ_self _) _ _ _)
  have HB8 : Hid (Below w.heap.size w (gput w7 (w.heap.size + 1) r c (.slice A8 res.length e8))) := Lib.hid (gput_below HW7.out (by omega) _ _ _)
  clear ho7 hb7
  go_wp2_with fail
  show bodyPost _ _ _ _ _ (gput w7 (w.heap.size + 1) r c (.slice A8 res.length e8))
  clear z0 z1 z2 y0 y1 y2
  generalize gput w7 (w.heap.size + 1) r c (.slice A8 res.length e8) = wF at HF HO8 HB8 ⊢
  have z0 : wF.cell? ⟨w.heap.size + 1, 0, none⟩ = some (.int .i64 r) := Blk.cell HF.out 0
  have z1 : wF.cell? ⟨w.heap.size + 1, 1, none⟩ = some (.int .i64 c) := Blk.cell HF.out 1
  have z2 : wF.cell? ⟨w.heap.size + 1, 2, none⟩ = some (.slice A8 res.length e8) := Blk.cell HF.out 2
  exact bodyPost_ret (v := .tuple #[.agg #[.int .i64 r, .int .i64 c, .slice A8 res.length e8], .int .i64 0]) (by simp [results, Tryz.results34, go_sem, z0, z1, z2]) rfl ⟨_, rfl, by rw [HRS.out]; exact HO8.out.low (by omega), HB8.out⟩
end Row
end Go.Proofs.YtmilpdhnblmflaaGreatDoor
end
section
/- The developers' Up, Down, Resize and New, where they refuse. -/
namespace Go.Proofs.YtmilpdhnblmflaaGreatDoor
set_option maxRecDepth 100000
open Go.RowKit
namespace Row

/-- What may be moved. -/
def MvOk (G : Gr) (top bot n : Int) (a : Look) : Prop := GridOk G ∧ attrOk a = true ∧ (0 ≤ top ∧ top ≤ bot) ∧ bot < G.rows ∧ (0 ≤ n ∧ n ≤ 9999)
theorem room_bad (r c : Int) (l : List Cl) (a : Look) (top bot n : Int) (x : Value) (w : World) (hx : Rm w x l) (hs : Held l) (h : ¬ MvOk ⟨r, c, l⟩ top bot n a) :
    Calls Tryz.prog 131 #[.agg #[.int .i64 r, .int .i64 c, x], .int .i64 top, .int .i64 bot, .int .i64 n, .agg #[.int .i64 a.fg, .int .i64 a.bg, .int .i64 a.flags]] w fun e w' => e = .returned (.tuple #[.int .i64 0, .int .i64 1]) ∧ Below w.heap.size w w' := by
  by_cases h1 : GridOk ⟨r, c, l⟩
  · cases h2 : attrOk a with
    | false => exact room_unseen r c l a top bot n x w hx hs h1 h2
    | true =>
      by_cases h3 : 0 ≤ top ∧ top ≤ bot
      · by_cases h4 : bot < r
        · by_cases h5 : 0 ≤ n ∧ n ≤ 9999
          · exact absurd ⟨h1, h2, h3, h4, h5⟩ h
          · exact room_many r c l a top bot n x w hx hs h1 h2 h3 h4 h5
        · exact room_low r c l a top bot n x w hx hs h1 h2 h3 (by omega)
      · exact room_out r c l a top bot n x w hx hs h1 h2 h3
  · exact room_unfit r c l a top bot n x w hx hs h1
theorem gzero {w : World} {b : Nat} (h : w.heap[b]? = some (gbox 0 0 (.slice none 0 0))) : w.cell? ⟨b, 0, none⟩ = some (.int .i64 0) ∧ w.cell? ⟨b, 1, none⟩ = some (.int .i64 0) ∧ w.cell? ⟨b, 2, none⟩ = some (.slice none 0 0) ∧ w.frozen? ⟨b, 0, none⟩ = false ∧ w.frozen? ⟨b, 1, none⟩ = false ∧ w.frozen? ⟨b, 2, none⟩ = false :=
  ⟨Blk.cell h 0, Blk.cell h 1, Blk.cell h 2, Blk.free h 0, Blk.free h 1, Blk.free h 2⟩
set_option maxHeartbeats 4000000 in
theorem up_bad (r c : Int) (l : List Cl) (a : Look) (top bot n : Int) (x : Value) (w : World) (hx : Rm w x l) (hs : Held l) (h : ¬ MvOk ⟨r, c, l⟩ top bot n a) :
    Calls Tryz.prog 106 #[.agg #[.int .i64 r, .int .i64 c, x], .int .i64 top, .int .i64 bot, .int .i64 n, .agg #[.int .i64 a.fg, .int .i64 a.bg, .int .i64 a.flags]] w fun e w' => e = .returned (.tuple #[.agg #[.int .i64 0, .int .i64 0, .slice none 0 0], .int .i64 1]) ∧ Below w.heap.size w w' := by
  have HBX := Lib.hid (Boxes3.new w r c x a)
  have HRM := Lib.hid (fun w' (k : Rm w' x l) => room_bad r c l a top bot n x w' k hs h)
  have HX := Lib.hid hx
  obtain ⟨_, A, cp, rfl, _⟩ := hx
  clear hs h
  go_enter Tryz.func106, Tryz.ntmps106
  go_wp2_with fail
  refine (HRM.out _ (HX.out.kept HBX.out.two.below)).mono ?_; rintro e w2 ⟨rfl, hb2⟩
  have HX2 := Lib.hid (HBX.out.kept hb2)
  clear hb2 HBX
  have HZ := Lib.hid HX2.out.z
  have HW := Lib.hid HX2.out.two.below
  obtain ⟨z0, z1, z2, y0, y1, y2⟩ := gzero HZ.out
  have HF := Lib.hid (gput_box HZ.out 0 0 (.slice none 0 0))
  have HB8 : Hid (Below w.heap.size w (gput w2 (w.heap.size + 2) 0 0 (.slice none 0 0))) := Lib.hid (gput_below HW.out (by omega) _ _ _)
  go_wp2_with fail
  show bodyPost _ _ _ _ _ (gput w2 (w.heap.size + 2) 0 0 (.slice none 0 0))
  clear z0 z1 z2 y0 y1 y2
  generalize gput w2 (w.heap.size + 2) 0 0 (.slice none 0 0) = wF at HF HB8 ⊢
  have z0 : wF.cell? ⟨w.heap.size + 1 + 1, 0, none⟩ = some (.int .i64 0) := Blk.cell HF.out 0
  have z1 : wF.cell? ⟨w.heap.size + 1 + 1, 1, none⟩ = some (.int .i64 0) := Blk.cell HF.out 1
  have z2 : wF.cell? ⟨w.heap.size + 1 + 1, 2, none⟩ = some (.slice none 0 0) := Blk.cell HF.out 2
  exact bodyPost_ret (v := .tuple #[.agg #[.int .i64 0, .int .i64 0, .slice none 0 0], .int .i64 1]) (by simp [results, Tryz.results106, go_sem, z0, z1, z2]) rfl ⟨rfl, HB8.out⟩
set_option maxHeartbeats 4000000 in
theorem down_bad (r c : Int) (l : List Cl) (a : Look) (top bot n : Int) (x : Value) (w : World) (hx : Rm w x l) (hs : Held l) (h : ¬ MvOk ⟨r, c, l⟩ top bot n a) :
    Calls Tryz.prog 107 #[.agg #[.int .i64 r, .int .i64 c, x], .int .i64 top, .int .i64 bot, .int .i64 n, .agg #[.int .i64 a.fg, .int .i64 a.bg, .int .i64 a.flags]] w fun e w' => e = .returned (.tuple #[.agg #[.int .i64 0, .int .i64 0, .slice none 0 0], .int .i64 1]) ∧ Below w.heap.size w w' := by
  have HBX := Lib.hid (Boxes3.new w r c x a)
  have HRM := Lib.hid (fun w' (k : Rm w' x l) => room_bad r c l a top bot n x w' k hs h)
  have HX := Lib.hid hx
  obtain ⟨_, A, cp, rfl, _⟩ := hx
  clear hs h
  go_enter Tryz.func107, Tryz.ntmps107
  go_wp2_with fail
  refine (HRM.out _ (HX.out.kept HBX.out.two.below)).mono ?_; rintro e w2 ⟨rfl, hb2⟩
  have HX2 := Lib.hid (HBX.out.kept hb2)
  clear hb2 HBX
  have HZ := Lib.hid HX2.out.z
  have HW := Lib.hid HX2.out.two.below
  obtain ⟨z0, z1, z2, y0, y1, y2⟩ := gzero HZ.out
  have HF := Lib.hid (gput_box HZ.out 0 0 (.slice none 0 0))
  have HB8 : Hid (Below w.heap.size w (gput w2 (w.heap.size + 2) 0 0 (.slice none 0 0))) := Lib.hid (gput_below HW.out (by omega) _ _ _)
  go_wp2_with fail
  show bodyPost _ _ _ _ _ (gput w2 (w.heap.size + 2) 0 0 (.slice none 0 0))
  clear z0 z1 z2 y0 y1 y2
  generalize gput w2 (w.heap.size + 2) 0 0 (.slice none 0 0) = wF at HF HB8 ⊢
  have z0 : wF.cell? ⟨w.heap.size + 1 + 1, 0, none⟩ = some (.int .i64 0) := Blk.cell HF.out 0
  have z1 : wF.cell? ⟨w.heap.size + 1 + 1, 1, none⟩ = some (.int .i64 0) := Blk.cell HF.out 1
  have z2 : wF.cell? ⟨w.heap.size + 1 + 1, 2, none⟩ = some (.slice none 0 0) := Blk.cell HF.out 2
  exact bodyPost_ret (v := .tuple #[.agg #[.int .i64 0, .int .i64 0, .slice none 0 0], .int .i64 1]) (by simp [results, Tryz.results107, go_sem, z0, z1, z2]) rfl ⟨rfl, HB8.out⟩
set_option maxHeartbeats 4000000 in
theorem resize_unfit (r0 c0 : Int) (l : List Cl) (a : Look) (r c : Int) (x : Value) (w : World) (hx : Rm w x l) (hs : Held l) (h : ¬ GridOk ⟨r0, c0, l⟩) :
    Calls Tryz.prog 45 #[.agg #[.int .i64 r0, .int .i64 c0, x], .int .i64 r, .int .i64 c, .agg #[.int .i64 a.fg, .int .i64 a.bg, .int .i64 a.flags]] w fun e w' => e = .returned (.tuple #[.agg #[.int .i64 0, .int .i64 0, .slice none 0 0], .int .i64 1]) ∧ Below w.heap.size w w' := by
  have HBX := Lib.hid (Boxes3.new w r0 c0 x a)
  have HCK := Lib.hid (fun w' (k : Rm w' x l) => gridCheck_any ⟨r0, c0, l⟩ false x w' k hs ⟨(fun q => by cases q), fun q => absurd q h⟩)
  have HX := Lib.hid hx
  obtain ⟨_, A, cp, rfl, _⟩ := hx
  clear hs h
  go_enter Tryz.func45, Tryz.ntmps45
  go_wp2_with fail
  refine (HCK.out _ (HX.out.kept HBX.out.two.below)).mono ?_; rintro e w2 ⟨rfl, hb2⟩
  have HX2 := Lib.hid (HBX.out.kept hb2)
  clear hb2 HBX
  obtain ⟨c0', c1, c2, k0, k1, k2⟩ := HX2.out.two.cells
  have HZ := Lib.hid HX2.out.z
  have HW := Lib.hid HX2.out.two.below
  obtain ⟨z0, z1, z2, y0, y1, y2⟩ := gzero HZ.out
  have HF := Lib.hid (gput_box HZ.out 0 0 (.slice none 0 0))
  have HB8 : Hid (Below w.heap.size w (gput w2 (w.heap.size + 2) 0 0 (.slice none 0 0))) := Lib.hid (gput_below HW.out (by omega) _ _ _)
  go_wp2_with fail
  show bodyPost _ _ _ _ _ (gput w2 (w.heap.size + 2) 0 0 (.slice none 0 0))
  clear z0 z1 z2 y0 y1 y2
  generalize gput w2 (w.heap.size + 2) 0 0 (.slice none 0 0) = wF at HF HB8 ⊢
  have z0 : wF.cell? ⟨w.heap.size + 1 + 1, 0, none⟩ = some (.int .i64 0) := Blk.cell HF.out 0
  have z1 : wF.cell? ⟨w.heap.size + 1 + 1, 1, none⟩ = some (.int .i64 0) := Blk.cell HF.out 1
  have z2 : wF.cell? ⟨w.heap.size + 1 + 1, 2, none⟩ = some (.slice none 0 0) := Blk.cell HF.out 2
  exact bodyPost_ret (v := .tuple #[.agg #[.int .i64 0, .int .i64 0, .slice none 0 0], .int .i64 1]) (by simp [results, Tryz.results45, go_sem, z0, z1, z2]) rfl ⟨rfl, HB8.out⟩
set_option maxHeartbeats 4000000 in
theorem resize_wide (r0 c0 : Int) (l : List Cl) (a : Look) (r c : Int) (x : Value) (w : World) (hx : Rm w x l) (hs : Held l) (hg : GridOk ⟨r0, c0, l⟩) (h : sidesOk r c = false) :
    Calls Tryz.prog 45 #[.agg #[.int .i64 r0, .int .i64 c0, x], .int .i64 r, .int .i64 c, .agg #[.int .i64 a.fg, .int .i64 a.bg, .int .i64 a.flags]] w fun e w' => e = .returned (.tuple #[.agg #[.int .i64 0, .int .i64 0, .slice none 0 0], .int .i64 1]) ∧ Below w.heap.size w w' := by
  have HBX := Lib.hid (Boxes3.new w r0 c0 x a)
  have HCK := Lib.hid (fun w' (k : Rm w' x l) => gridCheck_any ⟨r0, c0, l⟩ true x w' k hs ⟨fun _ => hg, fun _ => rfl⟩)
  have HSD := Lib.hid h
  have HX := Lib.hid hx
  obtain ⟨_, A, cp, rfl, _⟩ := hx
  clear hs h hg
  go_enter Tryz.func45, Tryz.ntmps45
  go_wp2_with fail
  refine (HCK.out _ (HX.out.kept HBX.out.two.below)).mono ?_; rintro e w2 ⟨rfl, hb2⟩
  have HX2 := Lib.hid (HBX.out.kept hb2)
  clear hb2 HBX
  obtain ⟨c0', c1, c2, k0, k1, k2⟩ := HX2.out.two.cells
  go_wp2_with fail
  refine (sides_at _ _ _ HSD.out _).mono ?_; rintro e w' ⟨rfl, rfl⟩
  have HZ := Lib.hid HX2.out.z
  have HW := Lib.hid HX2.out.two.below
  obtain ⟨z0, z1, z2, y0, y1, y2⟩ := gzero HZ.out
  have HF := Lib.hid (gput_box HZ.out 0 0 (.slice none 0 0))
  have HB8 : Hid (Below w.heap.size w (gput w2 (w.heap.size + 2) 0 0 (.slice none 0 0))) := Lib.hid (gput_below HW.out (by omega) _ _ _)
  go_wp2_with fail
  show bodyPost _ _ _ _ _ (gput w2 (w.heap.size + 2) 0 0 (.slice none 0 0))
  clear z0 z1 z2 y0 y1 y2
  generalize gput w2 (w.heap.size + 2) 0 0 (.slice none 0 0) = wF at HF HB8 ⊢
  have z0 : wF.cell? ⟨w.heap.size + 1 + 1, 0, none⟩ = some (.int .i64 0) := Blk.cell HF.out 0
  have z1 : wF.cell? ⟨w.heap.size + 1 + 1, 1, none⟩ = some (.int .i64 0) := Blk.cell HF.out 1
  have z2 : wF.cell? ⟨w.heap.size + 1 + 1, 2, none⟩ = some (.slice none 0 0) := Blk.cell HF.out 2
  exact bodyPost_ret (v := .tuple #[.agg #[.int .i64 0, .int .i64 0, .slice none 0 0], .int .i64 1]) (by simp [results, Tryz.results45, go_sem, z0, z1, z2]) rfl ⟨rfl, HB8.out⟩
set_option maxHeartbeats 4000000 in
theorem resize_unseen (r0 c0 : Int) (l : List Cl) (a : Look) (r c : Int) (x : Value) (w : World) (hx : Rm w x l) (hs : Held l) (hg : GridOk ⟨r0, c0, l⟩) (hd : sidesOk r c = true) (h : attrOk a = false) :
    Calls Tryz.prog 45 #[.agg #[.int .i64 r0, .int .i64 c0, x], .int .i64 r, .int .i64 c, .agg #[.int .i64 a.fg, .int .i64 a.bg, .int .i64 a.flags]] w fun e w' => e = .returned (.tuple #[.agg #[.int .i64 0, .int .i64 0, .slice none 0 0], .int .i64 1]) ∧ Below w.heap.size w w' := by
  have HBX := Lib.hid (Boxes3.new w r0 c0 x a)
  have HCK := Lib.hid (fun w' (k : Rm w' x l) => gridCheck_any ⟨r0, c0, l⟩ true x w' k hs ⟨fun _ => hg, fun _ => rfl⟩)
  have HSD := Lib.hid hd
  have HPT := Lib.hid (fun w' => paints_at a false h w')
  have HX := Lib.hid hx
  obtain ⟨_, A, cp, rfl, _⟩ := hx
  clear hs h hg hd
  go_enter Tryz.func45, Tryz.ntmps45
  go_wp2_with fail
  refine (HCK.out _ (HX.out.kept HBX.out.two.below)).mono ?_; rintro e w2 ⟨rfl, hb2⟩
  have HX2 := Lib.hid (HBX.out.kept hb2)
  clear hb2 HBX
  obtain ⟨c0', c1, c2, k0, k1, k2⟩ := HX2.out.two.cells
  go_wp2_with fail
  refine (sides_at _ _ _ HSD.out _).mono ?_; rintro e w' ⟨rfl, rfl⟩
  go_wp2_with fail
  refine (HPT.out _).mono ?_; rintro e w3 ⟨rfl, hb3⟩
  have HX3 := Lib.hid (HX2.out.kept hb3)
  clear hb3 c0' c1 c2 k0 k1 k2
  have HZ := Lib.hid HX3.out.z
  have HW := Lib.hid HX3.out.two.below
  obtain ⟨z0, z1, z2, y0, y1, y2⟩ := gzero HZ.out
  have HF := Lib.hid (gput_box HZ.out 0 0 (.slice none 0 0))
  have HB8 : Hid (Below w.heap.size w (gput w3 (w.heap.size + 2) 0 0 (.slice none 0 0))) := Lib.hid (gput_below HW.out (by omega) _ _ _)
  go_wp2_with fail
  show bodyPost _ _ _ _ _ (gput w3 (w.heap.size + 2) 0 0 (.slice none 0 0))
  clear z0 z1 z2 y0 y1 y2
  generalize gput w3 (w.heap.size + 2) 0 0 (.slice none 0 0) = wF at HF HB8 ⊢
  have z0 : wF.cell? ⟨w.heap.size + 1 + 1, 0, none⟩ = some (.int .i64 0) := Blk.cell HF.out 0
  have z1 : wF.cell? ⟨w.heap.size + 1 + 1, 1, none⟩ = some (.int .i64 0) := Blk.cell HF.out 1
  have z2 : wF.cell? ⟨w.heap.size + 1 + 1, 2, none⟩ = some (.slice none 0 0) := Blk.cell HF.out 2
  exact bodyPost_ret (v := .tuple #[.agg #[.int .i64 0, .int .i64 0, .slice none 0 0], .int .i64 1]) (by simp [results, Tryz.results45, go_sem, z0, z1, z2]) rfl ⟨rfl, HB8.out⟩
set_option maxHeartbeats 4000000 in
theorem new_wide (a : Look) (r c : Int) (w : World) (h : sidesOk r c = false) :
    Calls Tryz.prog 34 #[.int .i64 r, .int .i64 c, .agg #[.int .i64 a.fg, .int .i64 a.bg, .int .i64 a.flags]] w fun e w' => e = .returned (.tuple #[.agg #[.int .i64 0, .int .i64 0, .slice none 0 0], .int .i64 1]) ∧ Below w.heap.size w w' := by
  have HSD := Lib.hid h
  have HW0 : Hid (Below w.heap.size w ((w.alloc (abox a)).alloc (gbox 0 0 (.slice none 0 0)))) := Lib.hid (((Below.refl w.heap.size w).alloc (Nat.le_refl _) (abox a)).alloc (by simp) (gbox 0 0 (.slice none 0 0)))
  have HZ0 : Hid (((w.alloc (abox a)).alloc (gbox 0 0 (.slice none 0 0))).heap[w.heap.size + 1]? = some (gbox 0 0 (.slice none 0 0))) := Lib.hid (new_alloc _ _ _ (by simp))
  clear h
  go_enter Tryz.func34, Tryz.ntmps34
  go_wp2_with fail
  refine (sides_at _ _ _ HSD.out _).mono ?_; rintro e w' ⟨rfl, rfl⟩
  have HZ := HZ0
  have HW := HW0
  generalize (w.alloc (abox a)).alloc (gbox 0 0 (.slice none 0 0)) = w1 at HZ HW HZ0 HW0 ⊢
  obtain ⟨z0, z1, z2, y0, y1, y2⟩ := gzero HZ.out
  have HF := Lib.hid (gput_box HZ.out 0 0 (.slice none 0 0))
  have HB8 : Hid (Below w.heap.size w (gput w1 (w.heap.size + 1) 0 0 (.slice none 0 0))) := Lib.hid (gput_below HW.out (by omega) _ _ _)
  go_wp2_with fail
  show bodyPost _ _ _ _ _ (gput w1 (w.heap.size + 1) 0 0 (.slice none 0 0))
  clear z0 z1 z2 y0 y1 y2
  generalize gput w1 (w.heap.size + 1) 0 0 (.slice none 0 0) = wF at HF HB8 ⊢
  have z0 : wF.cell? ⟨w.heap.size + 1, 0, none⟩ = some (.int .i64 0) := Blk.cell HF.out 0
  have z1 : wF.cell? ⟨w.heap.size + 1, 1, none⟩ = some (.int .i64 0) := Blk.cell HF.out 1
  have z2 : wF.cell? ⟨w.heap.size + 1, 2, none⟩ = some (.slice none 0 0) := Blk.cell HF.out 2
  exact bodyPost_ret (v := .tuple #[.agg #[.int .i64 0, .int .i64 0, .slice none 0 0], .int .i64 1]) (by simp [results, Tryz.results34, go_sem, z0, z1, z2]) rfl ⟨rfl, HB8.out⟩
set_option maxHeartbeats 4000000 in
theorem new_unseen (a : Look) (r c : Int) (w : World) (hd : sidesOk r c = true) (h : attrOk a = false) :
    Calls Tryz.prog 34 #[.int .i64 r, .int .i64 c, .agg #[.int .i64 a.fg, .int .i64 a.bg, .int .i64 a.flags]] w fun e w' => e = .returned (.tuple #[.agg #[.int .i64 0, .int .i64 0, .slice none 0 0], .int .i64 1]) ∧ Below w.heap.size w w' := by
  have HSD := Lib.hid hd
  have HW0 : Hid (Below w.heap.size w ((w.alloc (abox a)).alloc (gbox 0 0 (.slice none 0 0)))) := Lib.hid (((Below.refl w.heap.size w).alloc (Nat.le_refl _) (abox a)).alloc (by simp) (gbox 0 0 (.slice none 0 0)))
  have HZ0 : Hid (((w.alloc (abox a)).alloc (gbox 0 0 (.slice none 0 0))).heap[w.heap.size + 1]? = some (gbox 0 0 (.slice none 0 0))) := Lib.hid (new_alloc _ _ _ (by simp))
  have HPT := Lib.hid (fun w' => paints_at a false h w')
  clear h hd
  go_enter Tryz.func34, Tryz.ntmps34
  go_wp2_with fail
  refine (sides_at _ _ _ HSD.out _).mono ?_; rintro e w' ⟨rfl, rfl⟩
  go_wp2_with fail
  refine (HPT.out _).mono ?_; rintro e w1 ⟨rfl, hb1⟩
  have HZ := Lib.hid (Blk.kept HZ0.out hb1)
  have HW := Lib.hid (HW0.out.trans (hb1.mono HW0.out.size))
  clear hb1
  obtain ⟨z0, z1, z2, y0, y1, y2⟩ := gzero HZ.out
  have HF := Lib.hid (gput_box HZ.out 0 0 (.slice none 0 0))
  have HB8 : Hid (Below w.heap.size w (gput w1 (w.heap.size + 1) 0 0 (.slice none 0 0))) := Lib.hid (gput_below HW.out (by omega) _ _ _)
  go_wp2_with fail
  show bodyPost _ _ _ _ _ (gput w1 (w.heap.size + 1) 0 0 (.slice none 0 0))
  clear z0 z1 z2 y0 y1 y2
  generalize gput w1 (w.heap.size + 1) 0 0 (.slice none 0 0) = wF at HF HB8 ⊢
  have z0 : wF.cell? ⟨w.heap.size + 1, 0, none⟩ = some (.int .i64 0) := Blk.cell HF.out 0
  have z1 : wF.cell? ⟨w.heap.size + 1, 1, none⟩ = some (.int .i64 0) := Blk.cell HF.out 1
  have z2 : wF.cell? ⟨w.heap.size + 1, 2, none⟩ = some (.slice none 0 0) := Blk.cell HF.out 2
  exact bodyPost_ret (v := .tuple #[.agg #[.int .i64 0, .int .i64 0, .slice none 0 0], .int .i64 1]) (by simp [results, Tryz.results34, go_sem, z0, z1, z2]) rfl ⟨rfl, HB8.out⟩
end Row
end Go.Proofs.YtmilpdhnblmflaaGreatDoor
end
