/- Joined texts: GrdNew, GrdWakes, GrdBad, GrdRowWith. -/
import Derived.Test.YtenhgkhonaglaaaDoorJ1
import Derived.Test.YtenhgkhonaglaaaDoorJ2
import Derived.Test.YtenhgkhonaglaaaDoorJ3
import Derived.Test.YtenhgkhonaglaaaDoorJ4
import Derived.Test.YtenhgkhonaglaaaDoorJ5
import Derived.Test.YtenhgkhonaglaaaDoorJ7
import Derived.Test.YtenhgkhonaglaaaDoorJ8
section
/- The developers' New; the law wakes. -/
namespace Go.Proofs.YtenhgkhonaglaaaDoor
set_option maxRecDepth 100000
open Go.RowKit
namespace Row

theorem empties_ok (w : World) (r c : Nat) {a : Look} (ha : attrOk a = true) : LnsOk w c (List.replicate r (.empty a)) := fun x hx => by rw [(List.mem_replicate.1 hx).2]; exact ha
set_option maxHeartbeats 4000000 in
theorem new_fits (r c : Nat) (a : Look) (w : World) (ha : attrOk a = true) (h1 : 1 ≤ r) (h2 : r ≤ 40) (h3 : 1 ≤ c) (h4 : c ≤ 40) :
    Calls Tryd.prog 29 #[.int .i64 r, .int .i64 c, .agg #[.int .i64 a.fg, .int .i64 a.bg, .int .i64 a.flags]] w fun e w' =>
      ∃ v, e = .returned (.tuple #[.agg #[.int .i64 r, .int .i64 c, v], .int .i64 0]) ∧ OwnCs w' w.heap.size v (news r c a).flatten ∧ Below w.heap.size w w' := by
  have HSD : Hid (sidesOk (r : Int) (c : Int) = true) := Lib.hid ((sidesOk_iff _ _).2 ⟨⟨by omega, by omega⟩, by omega, by omega⟩)
  have HPT := Lib.hid (fun w' => paints_at a true ha w')
  have HEM := Lib.hid (fun w' => empties_any r a w' (by omega))
  have HLA := Lib.hid (fun v w' (k : Sv w' v (List.replicate r (.empty a))) => (show _ from laid_any (List.replicate r (.empty a)) c v w' k (empties_ok w' r c ha) h3 h4 (by rw [List.length_replicate]; exact h2)))
  rw [List.length_replicate, rowsOfL_rep] at HLA
  obtain ⟨res, HRS⟩ : ∃ q, Hid ((news r c a).flatten = q) := ⟨_, Lib.hid rfl⟩
  have HLA : Hid (∀ (v : Value) (w' : World), Sv w' v (List.replicate r (.empty a)) → Calls Tryd.prog 36 #[v, .int .i64 c] w' fun e w'' => ∃ v', e = .returned (.agg #[.int .i64 r, .int .i64 c, v']) ∧ OwnCs w'' w'.heap.size v' res ∧ Below w'.heap.size w' w'') := Lib.hid (by rw [← HRS.out]; exact HLA.out)
  have hW := ((Below.refl w.heap.size w).alloc (Nat.le_refl _) (abox a)).alloc (by simp) (gbox 0 0 (.slice none 0 0))
  have HW := Lib.hid hW
  have HA : Hid (((w.alloc (abox a)).alloc (gbox 0 0 (.slice none 0 0))).heap[w.heap.size]? = some (abox a)) := Lib.hid (old_alloc (new_alloc _ _ _ rfl) _)
  have HZ : Hid (((w.alloc (abox a)).alloc (gbox 0 0 (.slice none 0 0))).heap[w.heap.size + 1]? = some (gbox 0 0 (.slice none 0 0))) := Lib.hid (new_alloc _ _ _ (by simp))
  clear ha hW
  go_enter Tryd.func29, Tryd.ntmps29
  go_wp2_with fail
  refine (sides_at _ _ _ HSD.out _).mono ?_; rintro e w' ⟨rfl, rfl⟩
  go_wp2_with fail
  refine (HPT.out _).mono ?_; rintro e w2 ⟨rfl, hb2⟩
  have HA2 := Lib.hid (Blk.kept HA.out hb2)
  have HZ2 := Lib.hid (Blk.kept HZ.out hb2)
  have HW2 := Lib.hid (HW.out.trans (hb2.mono HW.out.size))
  obtain ⟨k0, k1, k2⟩ := box_cells HA2.out
  clear hb2 HA HZ HW
  go_wp2_with fail
  refine (HEM.out _).mono ?_; rintro e w3 ⟨v3, rfl, ho3, hb3⟩
  have HZ3 := Lib.hid (Blk.kept HZ2.out hb3)
  have HW3 := Lib.hid (HW2.out.trans (hb3.mono HW2.out.size))
  have HS3 := Lib.hid ho3.sv
  clear hb3 ho3 k0 k1 k2
  go_wp2_with fail
  refine (HLA.out _ _ HS3.out).mono ?_; rintro e w7 ⟨v7, rfl, ho7, hb7⟩
  obtain ⟨A8, e8, rfl⟩ := own_shape ho7
  have HZ7 := Lib.hid (Blk.kept HZ3.out hb7)
  have HW7 := Lib.hid (HW3.out.trans (hb7.mono HW3.out.size))
  have HO7 := Lib.hid (ho7.low (show w.heap.size + 2 ≤ w3.heap.size from Blk.lt HZ3.out))
  have z0 : w7.cell? ⟨w.heap.size + 1, 0, none⟩ = some (.int .i64 0) := Blk.cell HZ7.out 0
  have z1 : w7.cell? ⟨w.heap.size + 1, 1, none⟩ = some (.int .i64 0) := Blk.cell HZ7.out 1
  have z2 : w7.cell? ⟨w.heap.size + 1, 2, none⟩ = some (.slice none 0 0) := Blk.cell HZ7.out 2
  have y0 : w7.frozen? ⟨w.heap.size + 1, 0, none⟩ = false := Blk.free HZ7.out 0
  have y1 : w7.frozen? ⟨w.heap.size + 1, 1, none⟩ = false := Blk.free HZ7.out 1
  have y2 : w7.frozen? ⟨w.heap.size + 1, 2, none⟩ = false := Blk.free HZ7.out 2
  have HF := Lib.hid (gput_box HZ7.out r c (.slice A8 res.length e8))
  have HO8 : Hid (OwnCs (gput w7 (w.heap.size + 1) r c (.slice A8 res.length e8)) (w.heap.size + 2) (.slice A8 res.length e8) res) := Lib.hid (gput_own HO7.out (Nat.lt_succ_self _) _ _ _)
  have HB8 : Hid (Below w.heap.size w (gput w7 (w.heap.size + 1) r c (.slice A8 res.length e8))) := Lib.hid (gput_below HW7.out (by omega) _ _ _)
  clear ho7 hb7
  go_wp2_with fail
  show bodyPost _ _ _ _ _ (gput w7 (w.heap.size + 1) r c (.slice A8 res.length e8))
  clear z0 z1 z2 y0 y1 y2
  generalize gput w7 (w.heap.size + 1) r c (.slice A8 res.length e8) = wF at HF HO8 HB8 ⊢
  have z0 : wF.cell? ⟨w.heap.size + 1, 0, none⟩ = some (.int .i64 r) := Blk.cell HF.out 0
  have z1 : wF.cell? ⟨w.heap.size + 1, 1, none⟩ = some (.int .i64 c) := Blk.cell HF.out 1
  have z2 : wF.cell? ⟨w.heap.size + 1, 2, none⟩ = some (.slice A8 res.length e8) := Blk.cell HF.out 2
  exact bodyPost_ret (v := .tuple #[.agg #[.int .i64 r, .int .i64 c, .slice A8 res.length e8], .int .i64 0]) (by simp [results, Tryd.results29, go_sem, z0, z1, z2]) rfl ⟨_, rfl, by rw [HRS.out]; exact HO8.out.low (by omega), HB8.out⟩
end Row
end Go.Proofs.YtenhgkhonaglaaaDoor
end
section
/- The law on grids wakes. -/
namespace Go.Proofs.YtenhgkhonaglaaaDoor
set_option maxRecDepth 100000
open Go.RowKit
namespace Row

def w2A : Look := ⟨-1, 2, 0⟩
def w5A : Look := ⟨-1, 5, 0⟩
theorem held_blanks (n : Nat) (a : Look) : Held (List.replicate n (blank a)) := fun i hi => by
  rw [g_eq hi, List.getElem_replicate]; exact Nat.zero_le _
theorem woken : (moved (news 2 1 w2A) 0 1 ((1 : Nat) : Int) 1 w5A).flatten = [blank w2A, blank w5A] := by rfl
theorem fresh2 : (news 2 1 w2A).flatten = List.replicate 2 (blank w2A) := by rfl
set_option maxHeartbeats 4000000 in
theorem wakes_any (w : World) : Calls Tryd.prog 9 #[] w fun e w' => e = .returned (.bool true) ∧ Below w.heap.size w w' := by
  have HN : Hid (∀ w', Calls Tryd.prog 29 #[.int .i64 2, .int .i64 1, .agg #[.int .i64 (-1), .int .i64 2, .int .i64 0]] w' fun e w'' =>
      ∃ v, e = .returned (.tuple #[.agg #[.int .i64 2, .int .i64 1, v], .int .i64 0]) ∧ OwnCs w'' w'.heap.size v (List.replicate 2 (blank w2A)) ∧ Below w'.heap.size w' w'') := Lib.hid fun w' => by
    have h := new_fits 2 1 w2A w' (by decide) (by omega) (by omega) (by omega) (by omega)
    rw [fresh2] at h
    exact h
  have HU : Hid (∀ x w', Rm w' x (List.replicate 2 (blank w2A)) → Calls Tryd.prog 14 #[.agg #[.int .i64 2, .int .i64 1, x], .int .i64 0, .int .i64 1, .int .i64 1, .agg #[.int .i64 (-1), .int .i64 5, .int .i64 0]] w' fun e w'' =>
      ∃ v, e = .returned (.tuple #[.agg #[.int .i64 2, .int .i64 1, v], .int .i64 0]) ∧ OwnCs w'' w'.heap.size v [blank w2A, blank w5A] ∧ Below w'.heap.size w' w'') := Lib.hid fun x w' hx => by
    have h := up_fits 2 1 (news 2 1 w2A) w5A 0 1 1 x w' (news_rws (by omega) (by omega) (by omega) (by omega) (by decide)) (by rw [fresh2]; exact hx) (by rw [fresh2]; exact held_blanks 2 w2A) (by decide) (by omega) (by omega) (by omega)
    rw [woken] at h
    exact h
  go_enter Tryd.func9, Tryd.ntmps9
  go_wp2_with fail
  refine (HN.out _).mono ?_; rintro e w1 ⟨v1, rfl, ho1, hb1⟩
  have HB1 := Lib.hid hb1
  have HR1 : Hid (Rm (w1.alloc (gbox 2 1 v1)) v1 (List.replicate 2 (blank w2A))) := Lib.hid (ho1.rm.kept ((Below.refl _ _).alloc (Nat.le_refl _) _))
  obtain ⟨A1, c1, rfl⟩ := own_shape ho1
  rw [List.length_replicate] at HR1 ⊢
  clear ho1 hb1
  go_wp2_with fail
  refine (HU.out _ _ HR1.out).mono ?_; rintro e w2 ⟨v2, rfl, ho2, hb2⟩
  have HB2 : Hid (Below w.heap.size w w2) := Lib.hid ((HB1.out.alloc HB1.out.size _).trans (hb2.mono (by have := HB1.out.size; simp; omega)))
  rcases ho2.shape with ⟨_, e⟩ | ⟨b, cap, rfl, _, _⟩
  · cases e
  · have k1 : w2.cell? ⟨b, 4, none⟩ = some (.int .i64 2) := ho2.cell (k := 0) (j := 4) (by simp) (by decide)
    have k2 : w2.cell? ⟨b, 10, none⟩ = some (.int .i64 5) := ho2.cell (k := 1) (j := 4) (by simp) (by decide)
    have zb := World.block_lt_of_cell? w2 _ k1
    clear ho2 hb2
    go_wp2_with fail
    refine (num_eq _ _).mono ?_; rintro e w' ⟨rfl, rfl⟩
    go_wp2_with fail
    refine (num_eq _ _).mono ?_; rintro e w' ⟨rfl, rfl⟩
    go_wp2_with fail
    go_ret
    exact ⟨rfl, HB2.out.alloc HB2.out.size _⟩
end Row
end Go.Proofs.YtenhgkhonaglaaaDoor
end
section
/- The developers' Up, Down, Resize and New, where they refuse. -/
namespace Go.Proofs.YtenhgkhonaglaaaDoor
set_option maxRecDepth 100000
open Go.RowKit
namespace Row

/-- What may be moved. -/
def MvOk (G : Gr) (top bot n : Int) (a : Look) : Prop := GridOk G ∧ attrOk a = true ∧ (0 ≤ top ∧ top ≤ bot) ∧ bot < G.rows ∧ (0 ≤ n ∧ n ≤ 9999)
theorem room_bad (r c : Int) (l : List Cl) (a : Look) (top bot n : Int) (x : Value) (w : World) (hx : Rm w x l) (hs : Held l) (h : ¬ MvOk ⟨r, c, l⟩ top bot n a) :
    Calls Tryd.prog 34 #[.agg #[.int .i64 r, .int .i64 c, x], .int .i64 top, .int .i64 bot, .int .i64 n, .agg #[.int .i64 a.fg, .int .i64 a.bg, .int .i64 a.flags]] w fun e w' => e = .returned (.tuple #[.int .i64 0, .int .i64 1]) ∧ Below w.heap.size w w' := by
  by_cases h1 : GridOk ⟨r, c, l⟩
  · cases h2 : attrOk a with
    | false => exact room_unseen r c l a top bot n x w hx hs h1 h2
    | true =>
      by_cases h3 : 0 ≤ top ∧ top ≤ bot
      · by_cases h4 : bot < r
        · by_cases h5 : 0 ≤ n ∧ n ≤ 9999
          · exact absurd ⟨h1, h2, h3, h4, h5⟩ h
          · exact room_many r c l a top bot n x w hx hs h1 h2 h3 h4 h5
        · exact room_low r c l a top bot n x w hx hs h1 h2 h3 (by omega)
      · exact room_out r c l a top bot n x w hx hs h1 h2 h3
  · exact room_unfit r c l a top bot n x w hx hs h1
theorem gzero {w : World} {b : Nat} (h : w.heap[b]? = some (gbox 0 0 (.slice none 0 0))) : w.cell? ⟨b, 0, none⟩ = some (.int .i64 0) ∧ w.cell? ⟨b, 1, none⟩ = some (.int .i64 0) ∧ w.cell? ⟨b, 2, none⟩ = some (.slice none 0 0) ∧ w.frozen? ⟨b, 0, none⟩ = false ∧ w.frozen? ⟨b, 1, none⟩ = false ∧ w.frozen? ⟨b, 2, none⟩ = false :=
  ⟨Blk.cell h 0, Blk.cell h 1, Blk.cell h 2, Blk.free h 0, Blk.free h 1, Blk.free h 2⟩
set_option maxHeartbeats 4000000 in
theorem up_bad (r c : Int) (l : List Cl) (a : Look) (top bot n : Int) (x : Value) (w : World) (hx : Rm w x l) (hs : Held l) (h : ¬ MvOk ⟨r, c, l⟩ top bot n a) :
    Calls Tryd.prog 14 #[.agg #[.int .i64 r, .int .i64 c, x], .int .i64 top, .int .i64 bot, .int .i64 n, .agg #[.int .i64 a.fg, .int .i64 a.bg, .int .i64 a.flags]] w fun e w' => e = .returned (.tuple #[.agg #[.int .i64 0, .int .i64 0, .slice none 0 0], .int .i64 1]) ∧ Below w.heap.size w w' := by
  have HBX := Lib.hid (Boxes3.new w r c x a)
  have HRM := Lib.hid (fun w' (k : Rm w' x l) => room_bad r c l a top bot n x w' k hs h)
  have HX := Lib.hid hx
  obtain ⟨_, A, cp, rfl, _⟩ := hx
  clear hs h
  go_enter Tryd.func14, Tryd.ntmps14
  go_wp2_with fail
  refine (HRM.out _ (HX.out.kept HBX.out.two.below)).mono ?_; rintro e w2 ⟨rfl, hb2⟩
  have HX2 := Lib.hid (HBX.out.kept hb2)
  clear hb2 HBX
  have HZ := Lib.hid HX2.out.z
  have HW := Lib.hid HX2.out.two.below
  obtain ⟨z0, z1, z2, y0, y1, y2⟩ := gzero HZ.out
  have HF := Lib.hid (gput_box HZ.out 0 0 (.slice none 0 0))
  have HB8 : Hid (Below w.heap.size w (gput w2 (w.heap.size + 2) 0 0 (.slice none 0 0))) := Lib.hid (gput_below HW.out (by omega) _ _ _)
  go_wp2_with fail
  show bodyPost _ _ _ _ _ (gput w2 (w.heap.size + 2) 0 0 (.slice none 0 0))
  clear z0 z1 z2 y0 y1 y2
  generalize gput w2 (w.heap.size + 2) 0 0 (.slice none 0 0) = wF at HF HB8 ⊢
  have z0 : wF.cell? ⟨w.heap.size + 1 + 1, 0, none⟩ = some (.int .i64 0) := Blk.cell HF.out 0
  have z1 : wF.cell? ⟨w.heap.size + 1 + 1, 1, none⟩ = some (.int .i64 0) := Blk.cell HF.out 1
  have z2 : wF.cell? ⟨w.heap.size + 1 + 1, 2, none⟩ = some (.slice none 0 0) := Blk.cell HF.out 2
  exact bodyPost_ret (v := .tuple #[.agg #[.int .i64 0, .int .i64 0, .slice none 0 0], .int .i64 1]) (by simp [results, Tryd.results14, go_sem, z0, z1, z2]) rfl ⟨rfl, HB8.out⟩
set_option maxHeartbeats 4000000 in
theorem down_bad (r c : Int) (l : List Cl) (a : Look) (top bot n : Int) (x : Value) (w : World) (hx : Rm w x l) (hs : Held l) (h : ¬ MvOk ⟨r, c, l⟩ top bot n a) :
    Calls Tryd.prog 15 #[.agg #[.int .i64 r, .int .i64 c, x], .int .i64 top, .int .i64 bot, .int .i64 n, .agg #[.int .i64 a.fg, .int .i64 a.bg, .int .i64 a.flags]] w fun e w' => e = .returned (.tuple #[.agg #[.int .i64 0, .int .i64 0, .slice none 0 0], .int .i64 1]) ∧ Below w.heap.size w w' := by
  have HBX := Lib.hid (Boxes3.new w r c x a)
  have HRM := Lib.hid (fun w' (k : Rm w' x l) => room_bad r c l a top bot n x w' k hs h)
  have HX := Lib.hid hx
  obtain ⟨_, A, cp, rfl, _⟩ := hx
  clear hs h
  go_enter Tryd.func15, Tryd.ntmps15
  go_wp2_with fail
  refine (HRM.out _ (HX.out.kept HBX.out.two.below)).mono ?_; rintro e w2 ⟨rfl, hb2⟩
  have HX2 := Lib.hid (HBX.out.kept hb2)
  clear hb2 HBX
  have HZ := Lib.hid HX2.out.z
  have HW := Lib.hid HX2.out.two.below
  obtain ⟨z0, z1, z2, y0, y1, y2⟩ := gzero HZ.out
  have HF := Lib.hid (gput_box HZ.out 0 0 (.slice none 0 0))
  have HB8 : Hid (Below w.heap.size w (gput w2 (w.heap.size + 2) 0 0 (.slice none 0 0))) := Lib.hid (gput_below HW.out (by omega) _ _ _)
  go_wp2_with fail
  show bodyPost _ _ _ _ _ (gput w2 (w.heap.size + 2) 0 0 (.slice none 0 0))
  clear z0 z1 z2 y0 y1 y2
  generalize gput w2 (w.heap.size + 2) 0 0 (.slice none 0 0) = wF at HF HB8 ⊢
  have z0 : wF.cell? ⟨w.heap.size + 1 + 1, 0, none⟩ = some (.int .i64 0) := Blk.cell HF.out 0
  have z1 : wF.cell? ⟨w.heap.size + 1 + 1, 1, none⟩ = some (.int .i64 0) := Blk.cell HF.out 1
  have z2 : wF.cell? ⟨w.heap.size + 1 + 1, 2, none⟩ = some (.slice none 0 0) := Blk.cell HF.out 2
  exact bodyPost_ret (v := .tuple #[.agg #[.int .i64 0, .int .i64 0, .slice none 0 0], .int .i64 1]) (by simp [results, Tryd.results15, go_sem, z0, z1, z2]) rfl ⟨rfl, HB8.out⟩
set_option maxHeartbeats 4000000 in
theorem resize_unfit (r0 c0 : Int) (l : List Cl) (a : Look) (r c : Int) (x : Value) (w : World) (hx : Rm w x l) (hs : Held l) (h : ¬ GridOk ⟨r0, c0, l⟩) :
    Calls Tryd.prog 19 #[.agg #[.int .i64 r0, .int .i64 c0, x], .int .i64 r, .int .i64 c, .agg #[.int .i64 a.fg, .int .i64 a.bg, .int .i64 a.flags]] w fun e w' => e = .returned (.tuple #[.agg #[.int .i64 0, .int .i64 0, .slice none 0 0], .int .i64 1]) ∧ Below w.heap.size w w' := by
  have HBX := Lib.hid (Boxes3.new w r0 c0 x a)
  have HCK := Lib.hid (fun w' (k : Rm w' x l) => gridCheck_any ⟨r0, c0, l⟩ false x w' k hs ⟨(fun q => by cases q), fun q => absurd q h⟩)
  have HX := Lib.hid hx
  obtain ⟨_, A, cp, rfl, _⟩ := hx
  clear hs h
  go_enter Tryd.func19, Tryd.ntmps19
  go_wp2_with fail
  refine (HCK.out _ (HX.out.kept HBX.out.two.below)).mono ?_; rintro e w2 ⟨rfl, hb2⟩
  have HX2 := Lib.hid (HBX.out.kept hb2)
  clear hb2 HBX
  obtain ⟨c0', c1, c2, k0, k1, k2⟩ := HX2.out.two.cells
  have HZ := Lib.hid HX2.out.z
  have HW := Lib.hid HX2.out.two.below
  obtain ⟨z0, z1, z2, y0, y1, y2⟩ := gzero HZ.out
  have HF := Lib.hid (gput_box HZ.out 0 0 (.slice none 0 0))
  have HB8 : Hid (Below w.heap.size w (gput w2 (w.heap.size + 2) 0 0 (.slice none 0 0))) := Lib.hid (gput_below HW.out (by omega) _ _ _)
  go_wp2_with fail
  show bodyPost _ _ _ _ _ (gput w2 (w.heap.size + 2) 0 0 (.slice none 0 0))
  clear z0 z1 z2 y0 y1 y2
  generalize gput w2 (w.heap.size + 2) 0 0 (.slice none 0 0) = wF at HF HB8 ⊢
  have z0 : wF.cell? ⟨w.heap.size + 1 + 1, 0, none⟩ = some (.int .i64 0) := Blk.cell HF.out 0
  have z1 : wF.cell? ⟨w.heap.size + 1 + 1, 1, none⟩ = some (.int .i64 0) := Blk.cell HF.out 1
  have z2 : wF.cell? ⟨w.heap.size + 1 + 1, 2, none⟩ = some (.slice none 0 0) := Blk.cell HF.out 2
  exact bodyPost_ret (v := .tuple #[.agg #[.int .i64 0, .int .i64 0, .slice none 0 0], .int .i64 1]) (by simp [results, Tryd.results19, go_sem, z0, z1, z2]) rfl ⟨rfl, HB8.out⟩
set_option maxHeartbeats 4000000 in
theorem resize_wide (r0 c0 : Int) (l : List Cl) (a : Look) (r c : Int) (x : Value) (w : World) (hx : Rm w x l) (hs : Held l) (hg : GridOk ⟨r0, c0, l⟩) (h : sidesOk r c = false) :
    Calls Tryd.prog 19 #[.agg #[.int .i64 r0, .int .i64 c0, x], .int .i64 r, .int .i64 c, .agg #[.int .i64 a.fg, .int .i64 a.bg, .int .i64 a.flags]] w fun e w' => e = .returned (.tuple #[.agg #[.int .i64 0, .int .i64 0, .slice none 0 0], .int .i64 1]) ∧ Below w.heap.size w w' := by
  have HBX := Lib.hid (Boxes3.new w r0 c0 x a)
  have HCK := Lib.hid (fun w' (k : Rm w' x l) => gridCheck_any ⟨r0, c0, l⟩ true x w' k hs ⟨fun _ => hg, fun _ => rfl⟩)
  have HSD := Lib.hid h
  have HX := Lib.hid hx
  obtain ⟨_, A, cp, rfl, _⟩ := hx
  clear hs h hg
  go_enter Tryd.func19, Tryd.ntmps19
  go_wp2_with fail
  refine (HCK.out _ (HX.out.kept HBX.out.two.below)).mono ?_; rintro e w2 ⟨rfl, hb2⟩
  have HX2 := Lib.hid (HBX.out.kept hb2)
  clear hb2 HBX
  obtain ⟨c0', c1, c2, k0, k1, k2⟩ := HX2.out.two.cells
  go_wp2_with fail
  refine (sides_at _ _ _ HSD.out _).mono ?_; rintro e w' ⟨rfl, rfl⟩
  have HZ := Lib.hid HX2.out.z
  have HW := Lib.hid HX2.out.two.below
  obtain ⟨z0, z1, z2, y0, y1, y2⟩ := gzero HZ.out
  have HF := Lib.hid (gput_box HZ.out 0 0 (.slice none 0 0))
  have HB8 : Hid (Below w.heap.size w (gput w2 (w.heap.size + 2) 0 0 (.slice none 0 0))) := Lib.hid (gput_below HW.out (by omega) _ _ _)
  go_wp2_with fail
  show bodyPost _ _ _ _ _ (gput w2 (w.heap.size + 2) 0 0 (.slice none 0 0))
  clear z0 z1 z2 y0 y1 y2
  generalize gput w2 (w.heap.size + 2) 0 0 (.slice none 0 0) = wF at HF HB8 ⊢
  have z0 : wF.cell? ⟨w.heap.size + 1 + 1, 0, none⟩ = some (.int .i64 0) := Blk.cell HF.out 0
  have z1 : wF.cell? ⟨w.heap.size + 1 + 1, 1, none⟩ = some (.int .i64 0) := Blk.cell HF.out 1
  have z2 : wF.cell? ⟨w.heap.size + 1 + 1, 2, none⟩ = some (.slice none 0 0) := Blk.cell HF.out 2
  exact bodyPost_ret (v := .tuple #[.agg #[.int .i64 0, .int .i64 0, .slice none 0 0], .int .i64 1]) (by simp [results, Tryd.results19, go_sem, z0, z1, z2]) rfl ⟨rfl, HB8.out⟩
set_option maxHeartbeats 4000000 in
theorem resize_unseen (r0 c0 : Int) (l : List Cl) (a : Look) (r c : Int) (x : Value) (w : World) (hx : Rm w x l) (hs : Held l) (hg : GridOk ⟨r0, c0, l⟩) (hd : sidesOk r c = true) (h : attrOk a = false) :
    Calls Tryd.prog 19 #[.agg #[.int .i64 r0, .int .i64 c0, x], .int .i64 r, .int .i64 c, .agg #[.int .i64 a.fg, .int .i64 a.bg, .int .i64 a.flags]] w fun e w' => e = .returned (.tuple #[.agg #[.int .i64 0, .int .i64 0, .slice none 0 0], .int .i64 1]) ∧ Below w.heap.size w w' := by
  have HBX := Lib.hid (Boxes3.new w r0 c0 x a)
  have HCK := Lib.hid (fun w' (k : Rm w' x l) => gridCheck_any ⟨r0, c0, l⟩ true x w' k hs ⟨fun _ => hg, fun _ => rfl⟩)
  have HSD := Lib.hid hd
  have HPT := Lib.hid (fun w' => paints_at a false h w')
  have HX := Lib.hid hx
  obtain ⟨_, A, cp, rfl, _⟩ := hx
  clear hs h hg hd
  go_enter Tryd.func19, Tryd.ntmps19
  go_wp2_with fail
  refine (HCK.out _ (HX.out.kept HBX.out.two.below)).mono ?_; rintro e w2 ⟨rfl, hb2⟩
  have HX2 := Lib.hid (HBX.out.kept hb2)
  clear hb2 HBX
  obtain ⟨c0', c1, c2, k0, k1, k2⟩ := HX2.out.two.cells
  go_wp2_with fail
  refine (sides_at _ _ _ HSD.out _).mono ?_; rintro e w' ⟨rfl, rfl⟩
  go_wp2_with fail
  refine (HPT.out _).mono ?_; rintro e w3 ⟨rfl, hb3⟩
  have HX3 := Lib.hid (HX2.out.kept hb3)
  clear hb3 c0' c1 c2 k0 k1 k2
  have HZ := Lib.hid HX3.out.z
  have HW := Lib.hid HX3.out.two.below
  obtain ⟨z0, z1, z2, y0, y1, y2⟩ := gzero HZ.out
  have HF := Lib.hid (gput_box HZ.out 0 0 (.slice none 0 0))
  have HB8 : Hid (Below w.heap.size w (gput w3 (w.heap.size + 2) 0 0 (.slice none 0 0))) := Lib.hid (gput_below HW.out (by omega) _ _ _)
  go_wp2_with fail
  show bodyPost _ _ _ _ _ (gput w3 (w.heap.size + 2) 0 0 (.slice none 0 0))
  clear z0 z1 z2 y0 y1 y2
  generalize gput w3 (w.heap.size + 2) 0 0 (.slice none 0 0) = wF at HF HB8 ⊢
  have z0 : wF.cell? ⟨w.heap.size + 1 + 1, 0, none⟩ = some (.int .i64 0) := Blk.cell HF.out 0
  have z1 : wF.cell? ⟨w.heap.size + 1 + 1, 1, none⟩ = some (.int .i64 0) := Blk.cell HF.out 1
  have z2 : wF.cell? ⟨w.heap.size + 1 + 1, 2, none⟩ = some (.slice none 0 0) := Blk.cell HF.out 2
  exact bodyPost_ret (v := .tuple #[.agg #[.int .i64 0, .int .i64 0, .slice none 0 0], .int .i64 1]) (by simp [results, Tryd.results19, go_sem, z0, z1, z2]) rfl ⟨rfl, HB8.out⟩
set_option maxHeartbeats 4000000 in
theorem new_wide (a : Look) (r c : Int) (w : World) (h : sidesOk r c = false) :
    Calls Tryd.prog 29 #[.int .i64 r, .int .i64 c, .agg #[.int .i64 a.fg, .int .i64 a.bg, .int .i64 a.flags]] w fun e w' => e = .returned (.tuple #[.agg #[.int .i64 0, .int .i64 0, .slice none 0 0], .int .i64 1]) ∧ Below w.heap.size w w' := by
  have HSD := Lib.hid h
  have HW0 : Hid (Below w.heap.size w ((w.alloc (abox a)).alloc (gbox 0 0 (.slice none 0 0)))) := Lib.hid (((Below.refl w.heap.size w).alloc (Nat.le_refl _) (abox a)).alloc (by simp) (gbox 0 0 (.slice none 0 0)))
  have HZ0 : Hid (((w.alloc (abox a)).alloc (gbox 0 0 (.slice none 0 0))).heap[w.heap.size + 1]? = some (gbox 0 0 (.slice none 0 0))) := Lib.hid (new_alloc _ _ _ (by simp))
  clear h
  go_enter Tryd.func29, Tryd.ntmps29
  go_wp2_with fail
  refine (sides_at _ _ _ HSD.out _).mono ?_; rintro e w' ⟨rfl, rfl⟩
  have HZ := HZ0
  have HW := HW0
  generalize (w.alloc (abox a)).alloc (gbox 0 0 (.slice none 0 0)) = w1 at HZ HW HZ0 HW0 ⊢
  obtain ⟨z0, z1, z2, y0, y1, y2⟩ := gzero HZ.out
  have HF := Lib.hid (gput_box HZ.out 0 0 (.slice none 0 0))
  have HB8 : Hid (Below w.heap.size w (gput w1 (w.heap.size + 1) 0 0 (.slice none 0 0))) := Lib.hid (gput_below HW.out (by omega) _ _ _)
  go_wp2_with fail
  show bodyPost _ _ _ _ _ (gput w1 (w.heap.size + 1) 0 0 (.slice none 0 0))
  clear z0 z1 z2 y0 y1 y2
  generalize gput w1 (w.heap.size + 1) 0 0 (.slice none 0 0) = wF at HF HB8 ⊢
  have z0 : wF.cell? ⟨w.heap.size + 1, 0, none⟩ = some (.int .i64 0) := Blk.cell HF.out 0
  have z1 : wF.cell? ⟨w.heap.size + 1, 1, none⟩ = some (.int .i64 0) := Blk.cell HF.out 1
  have z2 : wF.cell? ⟨w.heap.size + 1, 2, none⟩ = some (.slice none 0 0) := Blk.cell HF.out 2
  exact bodyPost_ret (v := .tuple #[.agg #[.int .i64 0, .int .i64 0, .slice none 0 0], .int .i64 1]) (by simp [results, Tryd.results29, go_sem, z0, z1, z2]) rfl ⟨rfl, HB8.out⟩
set_option maxHeartbeats 4000000 in
theorem new_unseen (a : Look) (r c : Int) (w : World) (hd : sidesOk r c = true) (h : attrOk a = false) :
    Calls Tryd.prog 29 #[.int .i64 r, .int .i64 c, .agg #[.int .i64 a.fg, .int .i64 a.bg, .int .i64 a.flags]] w fun e w' => e = .returned (.tuple #[.agg #[.int .i64 0, .int .i64 0, .slice none 0 0], .int .i64 1]) ∧ Below w.heap.size w w' := by
  have HSD := Lib.hid hd
  have HW0 : Hid (Below w.heap.size w ((w.alloc (abox a)).alloc (gbox 0 0 (.slice none 0 0)))) := Lib.hid (((Below.refl w.heap.size w).alloc (Nat.le_refl _) (abox a)).alloc (by simp) (gbox 0 0 (.slice none 0 0)))
  have HZ0 : Hid (((w.alloc (abox a)).alloc (gbox 0 0 (.slice none 0 0))).heap[w.heap.size + 1]? = some (gbox 0 0 (.slice none 0 0))) := Lib.hid (new_alloc _ _ _ (by simp))
  have HPT := Lib.hid (fun w' => paints_at a false h w')
  clear h hd
  go_enter Tryd.func29, Tryd.ntmps29
  go_wp2_with fail
  refine (sides_at _ _ _ HSD.out _).mono ?_; rintro e w' ⟨rfl, rfl⟩
  go_wp2_with fail
  refine (HPT.out _).mono ?_; rintro e w1 ⟨rfl, hb1⟩
  have HZ := Lib.hid (Blk.kept HZ0.out hb1)
  have HW := Lib.hid (HW0.out.trans (hb1.mono HW0.out.size))
  clear hb1
  obtain ⟨z0, z1, z2, y0, y1, y2⟩ := gzero HZ.out
  have HF := Lib.hid (gput_box HZ.out 0 0 (.slice none 0 0))
  have HB8 : Hid (Below w.heap.size w (gput w1 (w.heap.size + 1) 0 0 (.slice none 0 0))) := Lib.hid (gput_below HW.out (by omega) _ _ _)
  go_wp2_with fail
  show bodyPost _ _ _ _ _ (gput w1 (w.heap.size + 1) 0 0 (.slice none 0 0))
  clear z0 z1 z2 y0 y1 y2
  generalize gput w1 (w.heap.size + 1) 0 0 (.slice none 0 0) = wF at HF HB8 ⊢
  have z0 : wF.cell? ⟨w.heap.size + 1, 0, none⟩ = some (.int .i64 0) := Blk.cell HF.out 0
  have z1 : wF.cell? ⟨w.heap.size + 1, 1, none⟩ = some (.int .i64 0) := Blk.cell HF.out 1
  have z2 : wF.cell? ⟨w.heap.size + 1, 2, none⟩ = some (.slice none 0 0) := Blk.cell HF.out 2
  exact bodyPost_ret (v := .tuple #[.agg #[.int .i64 0, .int .i64 0, .slice none 0 0], .int .i64 1]) (by simp [results, Tryd.results29, go_sem, z0, z1, z2]) rfl ⟨rfl, HB8.out⟩
end Row
end Go.Proofs.YtenhgkhonaglaaaDoor
end
section
/- The developers' Row and With. -/
namespace Go.Proofs.YtenhgkhonaglaaaDoor
set_option maxRecDepth 100000
open Go.RowKit
namespace Row

@[go_sem] theorem eql_nilK (w : World) (a : Option Addr) (n c n' c' : Nat) : (binOp .eql 77 (.slice a n c) (.slice none n' c')).run Tryd.prog w = .ok (.bool a.isNone) w := Lib.run_eql_slice_nil w _ _ a n c n' c' Tryd.underlying77
set_option maxHeartbeats 800000 in
theorem cloneK_any (l : List Cl) (x : Value) (w : World) (hx : Cs w x l) (hn : l.length ≤ 1000000) :
    Calls Tryd.prog 45 #[x] w fun e w' => ∃ v, e = .returned v ∧ OwnCs w' w.heap.size v l ∧ Below w.heap.size w w' := by
  rcases hx.2.2 with ⟨rfl, h0⟩ | ⟨ad, c, rfl, _⟩
  · have hl : l = [] := List.eq_nil_of_length_eq_zero h0
    subst hl
    go_enter Tryd.func45, Tryd.ntmps45
    go_wp2_with fail
    go_ret
    exact ⟨_, rfl, OwnCs.nil _ _, Below.refl _ _⟩
  · have HX := Lib.hid hx
    clear hx
    go_enter Tryd.func45, Tryd.ntmps45
    go_wp2_with (at_builtin; refine wp_append_ck rfl rfl w.heap.size _ _ [] l rfl (World.ownsRow_made w #[] 0 (Nat.le_refl _) (Nat.zero_le _) rfl) rfl (HX.out.kept ((Below.refl _ _).alloc (Nat.le_refl _) _)) (by simp; omega) (by simp) ?_; intro v1 w1 ho1 hg1 hat1)
    go_ret
    refine ⟨_, rfl, ho1, ?_⟩
    exact ((Below.refl _ w).alloc (Nat.le_refl _) _).grown hg1 (by simp) (by intro k hk; have hk : some w.heap.size = some k := hk; injection hk with hk; omega)

set_option maxHeartbeats 1600000 in
theorem row_unfit (r c : Int) (l : List Cl) (i : Int) (x : Value) (w : World) (hx : Rm w x l) (hs : Held l) (h : ¬ GridOk ⟨r, c, l⟩) :
    Calls Tryd.prog 21 #[.agg #[.int .i64 r, .int .i64 c, x], .int .i64 i] w fun e w' => e = .returned (.tuple #[.slice none 0 0, .int .i64 1]) ∧ Below w.heap.size w w' := by
  have HW : Hid (Below w.heap.size w (w.alloc (gbox r c x))) := Lib.hid ((Below.refl _ _).alloc (Nat.le_refl _) _)
  have HCK := Lib.hid (gridCheck_any ⟨r, c, l⟩ false x _ (hx.kept HW.out) hs ⟨(fun q => by cases q), fun q => absurd q h⟩)
  obtain ⟨_, A, cp, rfl, _⟩ := hx
  clear hs h
  go_enter Tryd.func21, Tryd.ntmps21
  go_wp2_with fail
  refine HCK.out.mono ?_; rintro e w2 ⟨rfl, hb2⟩
  have HB2 := Lib.hid (HW.out.trans (hb2.mono HW.out.size))
  clear hb2
  go_wp2_with fail
  go_ret2
  exact ⟨rfl, HB2.out⟩
set_option maxHeartbeats 1600000 in
theorem row_out (r c : Int) (l : List Cl) (i : Int) (x : Value) (w : World) (hx : Rm w x l) (hs : Held l) (hg : GridOk ⟨r, c, l⟩) (h : ¬ (0 ≤ i ∧ i ≤ r - 1)) :
    Calls Tryd.prog 21 #[.agg #[.int .i64 r, .int .i64 c, x], .int .i64 i] w fun e w' => e = .returned (.tuple #[.slice none 0 0, .int .i64 3]) ∧ Below w.heap.size w w' := by
  have HW : Hid (Below w.heap.size w (w.alloc (gbox r c x))) := Lib.hid ((Below.refl _ _).alloc (Nat.le_refl _) _)
  have HG : Hid ((w.alloc (gbox r c x)).heap[w.heap.size]? = some (gbox r c x)) := Lib.hid (new_alloc _ _ _ rfl)
  have HCK := Lib.hid (gridCheck_any ⟨r, c, l⟩ true x _ (hx.kept HW.out) hs ⟨fun _ => hg, fun _ => rfl⟩)
  have hr40 := hg.1
  simp only at hr40
  have hw : IntKind.i64.wrap (r - 1) = r - 1 := by rw [IntKind.wrap_i64]; omega
  have HR : Hid (rng i 0 (r - 1) = false) := Lib.hid (rngN h)
  obtain ⟨_, A, cp, rfl, _⟩ := hx
  clear hs h hg
  go_enter Tryd.func21, Tryd.ntmps21
  go_wp2_with fail
  refine HCK.out.mono ?_; rintro e w2 ⟨rfl, hb2⟩
  have HB2 := Lib.hid (HW.out.trans (hb2.mono HW.out.size))
  have c0 : w2.cell? ⟨w.heap.size, 0, none⟩ = some (.int .i64 r) := Blk.cell (Blk.kept HG.out hb2) 0
  clear hb2
  go_wp2_with fail
  refine (gridIn_at _ _ _ _ HR.out _).mono ?_; rintro e w' ⟨rfl, rfl⟩
  go_wp2_with fail
  go_ret2
  exact ⟨rfl, HB2.out⟩
set_option maxHeartbeats 1600000 in
theorem row_fits (R C : Nat) (rs : List (List Cl)) (i : Nat) (x : Value) (w : World) (h : Rws R C rs) (hx : Rm w x rs.flatten) (hs : Held rs.flatten) (hi : i < R) :
    Calls Tryd.prog 21 #[.agg #[.int .i64 R, .int .i64 C, x], .int .i64 i] w fun e w' => ∃ v, e = .returned (.tuple #[v, .int .i64 0]) ∧ OwnCs w' w.heap.size v (rowOf rs i) ∧ Below w.heap.size w w' := by
  have HW : Hid (Below w.heap.size w (w.alloc (gbox R C x))) := Lib.hid ((Below.refl _ _).alloc (Nat.le_refl _) _)
  have HG : Hid ((w.alloc (gbox R C x)).heap[w.heap.size]? = some (gbox R C x)) := Lib.hid (new_alloc _ _ _ rfl)
  have HCK := Lib.hid (gridCheck_any ⟨R, C, rs.flatten⟩ true x _ (hx.kept HW.out) hs ⟨fun _ => h.grid, fun _ => rfl⟩)
  have hfl : rs.flatten.length = R * C := by rw [even_length h.even, h.len]
  have HLI := Lib.hid (fun w' (k : Rm w' x rs.flatten) => lines_any R C rs.flatten x w' k h.r1 h.r40 h.c1 h.c40 hfl)
  have HRI : Hid (∀ j, j < R → rowAt rs.flatten C j = rowOf rs j ∧ (rowOf rs j).length ≤ 1000000) := Lib.hid fun j hj => ⟨rowAt_flat h.even (by rw [h.len]; exact hj), by rw [h.rlen hj]; have := h.c40; omega⟩
  have hr40 := h.r40
  have hw : IntKind.i64.wrap ((R : Int) - 1) = (R : Int) - 1 := by rw [IntKind.wrap_i64]; omega
  have HR : Hid (rng (i : Int) 0 ((R : Int) - 1) = true) := Lib.hid (rngY ⟨by omega, by omega⟩)
  clear hs h hfl
  obtain ⟨l, HL⟩ : ∃ l, Hid (rs.flatten = l) := ⟨_, Lib.hid rfl⟩
  rw [HL.out] at hx HCK HLI HRI
  have HX := Lib.hid hx
  obtain ⟨_, A, cp, rfl, _⟩ := hx
  go_enter Tryd.func21, Tryd.ntmps21
  go_wp2_with fail
  refine HCK.out.mono ?_; rintro e w2 ⟨rfl, hb2⟩
  have HB2 := Lib.hid (HW.out.trans (hb2.mono HW.out.size))
  have HG2 := Lib.hid (Blk.kept HG.out hb2)
  have c0 : w2.cell? ⟨w.heap.size, 0, none⟩ = some (.int .i64 R) := Blk.cell HG2.out 0
  have c1 : w2.cell? ⟨w.heap.size, 1, none⟩ = some (.int .i64 C) := Blk.cell HG2.out 1
  have c2 : w2.cell? ⟨w.heap.size, 2, none⟩ = some (.slice A l.length cp) := Blk.cell HG2.out 2
  clear hb2
  go_wp2_with fail
  refine (gridIn_at _ _ _ _ HR.out _).mono ?_; rintro e w' ⟨rfl, rfl⟩
  go_wp2_with fail
  refine (HLI.out _ (HX.out.kept HB2.out)).mono ?_; rintro e w3 ⟨v3, cv, rfl, ho3, hcv, hb3⟩
  have HB3 := Lib.hid (HB2.out.trans (hb3.mono HB2.out.size))
  have HC3 := Lib.hid (((hcv i hi).kept hb3).cs)
  rw [(HRI.out i hi).1] at HC3
  obtain ⟨g, gc, rfl, hg, hgc⟩ := ho3.shape (by rw [keptOf_length, List.length_range]; omega)
  have hcell := ho3.cell (k := i) (by rw [keptOf_length, List.length_range]; exact hi)
  rw [kept_get hi] at hcell
  have hcell' : w3.cell? ⟨g, i, none⟩ = some (.iface 77 (cv i)) := hcell
  rw [keptOf_length, List.length_range]
  clear hcell ho3 hcv hb3 c0 c1 c2
  generalize cv i = ci at hcell' HC3
  have HCL := Lib.hid (cloneK_any (rowOf rs i) ci w3 HC3.out (HRI.out i hi).2)
  go_wp2_with fail
  refine HCL.out.mono ?_; rintro e w4 ⟨v4, rfl, ho4, hb4⟩
  have HO4 := Lib.hid (ho4.low HB3.out.size)
  have HB4 := Lib.hid (HB3.out.trans (hb4.mono HB3.out.size))
  clear ho4 hb4
  go_wp2_with fail
  go_ret2
  exact ⟨v4, rfl, HO4.out, HB4.out⟩
set_option maxHeartbeats 4000000 in
theorem with_unfit (r c : Int) (l : List Cl) (i : Int) (x y : Value) (m : List Cl) (w : World) (hx : Rm w x l) (hs : Held l) (hy : Rm w y m) (h : ¬ GridOk ⟨r, c, l⟩) :
    Calls Tryd.prog 27 #[.agg #[.int .i64 r, .int .i64 c, x], .int .i64 i, y] w fun e w' => e = .returned (.tuple #[.agg #[.int .i64 0, .int .i64 0, .slice none 0 0], .int .i64 1]) ∧ Below w.heap.size w w' := by
  have HW : Hid (Below w.heap.size w ((w.alloc (gbox r c x)).alloc (gbox 0 0 (.slice none 0 0)))) := Lib.hid (((Below.refl _ _).alloc (Nat.le_refl _) _).alloc (by simp) _)
  have HG : Hid (((w.alloc (gbox r c x)).alloc (gbox 0 0 (.slice none 0 0))).heap[w.heap.size]? = some (gbox r c x)) := Lib.hid (old_alloc (new_alloc _ _ _ rfl) _)
  have HZ0 : Hid (((w.alloc (gbox r c x)).alloc (gbox 0 0 (.slice none 0 0))).heap[w.heap.size + 1]? = some (gbox 0 0 (.slice none 0 0))) := Lib.hid (new_alloc _ _ _ (by simp))
  have HCK := Lib.hid (gridCheck_any ⟨r, c, l⟩ false x _ (hx.kept HW.out) hs ⟨(fun q => by cases q), fun q => absurd q h⟩)
  have HY := Lib.hid hy
  obtain ⟨_, A, cp, rfl, _⟩ := hx
  obtain ⟨_, A', cp', rfl, _⟩ := hy
  clear hs h
  go_enter Tryd.func27, Tryd.ntmps27
  go_wp2_with fail
  refine HCK.out.mono ?_; rintro e w2 ⟨rfl, hb2⟩
  have HB2 := Lib.hid (HW.out.trans (hb2.mono HW.out.size))
  have HG2 := Lib.hid (Blk.kept HG.out hb2)
  have HZ2 := Lib.hid (Blk.kept HZ0.out hb2)
  clear hb2 HW HG HZ0
  have HZ := HZ2
  have HB := HB2
  obtain ⟨z0, z1, z2, y0, y1, y2⟩ := gzero HZ.out
  have HF := Lib.hid (gput_box HZ.out 0 0 (.slice none 0 0))
  have HB8 : Hid (Below w.heap.size w (gput w2 (w.heap.size + 1) 0 0 (.slice none 0 0))) := Lib.hid (gput_below HB.out (by omega) _ _ _)
  go_wp2_with fail
  show bodyPost _ _ _ _ _ (gput w2 (w.heap.size + 1) 0 0 (.slice none 0 0))
  clear z0 z1 z2 y0 y1 y2
  generalize gput w2 (w.heap.size + 1) 0 0 (.slice none 0 0) = wF at HF HB8 ⊢
  have z0 : wF.cell? ⟨w.heap.size + 1, 0, none⟩ = some (.int .i64 0) := Blk.cell HF.out 0
  have z1 : wF.cell? ⟨w.heap.size + 1, 1, none⟩ = some (.int .i64 0) := Blk.cell HF.out 1
  have z2 : wF.cell? ⟨w.heap.size + 1, 2, none⟩ = some (.slice none 0 0) := Blk.cell HF.out 2
  exact bodyPost_ret (v := .tuple #[.agg #[.int .i64 0, .int .i64 0, .slice none 0 0], .int .i64 1]) (by simp [results, Tryd.results27, go_sem, z0, z1, z2]) rfl ⟨rfl, HB8.out⟩
set_option maxHeartbeats 4000000 in
theorem with_odd (r c : Int) (l : List Cl) (i : Int) (x y : Value) (m : List Cl) (w : World) (hx : Rm w x l) (hs : Held l) (hy : Rm w y m) (hsm : Held m) (hml : m.length ≤ 1000000) (hg : GridOk ⟨r, c, l⟩) (h : ¬ RowOk m) :
    Calls Tryd.prog 27 #[.agg #[.int .i64 r, .int .i64 c, x], .int .i64 i, y] w fun e w' => e = .returned (.tuple #[.agg #[.int .i64 0, .int .i64 0, .slice none 0 0], .int .i64 1]) ∧ Below w.heap.size w w' := by
  have HW : Hid (Below w.heap.size w ((w.alloc (gbox r c x)).alloc (gbox 0 0 (.slice none 0 0)))) := Lib.hid (((Below.refl _ _).alloc (Nat.le_refl _) _).alloc (by simp) _)
  have HG : Hid (((w.alloc (gbox r c x)).alloc (gbox 0 0 (.slice none 0 0))).heap[w.heap.size]? = some (gbox r c x)) := Lib.hid (old_alloc (new_alloc _ _ _ rfl) _)
  have HZ0 : Hid (((w.alloc (gbox r c x)).alloc (gbox 0 0 (.slice none 0 0))).heap[w.heap.size + 1]? = some (gbox 0 0 (.slice none 0 0))) := Lib.hid (new_alloc _ _ _ (by simp))
  have HCK := Lib.hid (gridCheck_any ⟨r, c, l⟩ true x _ (hx.kept HW.out) hs ⟨fun _ => hg, fun _ => rfl⟩)
  have HY := Lib.hid hy
  have HRC := Lib.hid (fun w' (k : Cs w' y m) => rowCheck_any m false y w' k hsm hml ⟨(fun q => by cases q), fun q => absurd q h⟩)
  obtain ⟨_, A, cp, rfl, _⟩ := hx
  obtain ⟨_, A', cp', rfl, _⟩ := hy
  clear hs hsm hml h hg
  go_enter Tryd.func27, Tryd.ntmps27
  go_wp2_with fail
  refine HCK.out.mono ?_; rintro e w2 ⟨rfl, hb2⟩
  have HB2 := Lib.hid (HW.out.trans (hb2.mono HW.out.size))
  have HG2 := Lib.hid (Blk.kept HG.out hb2)
  have HZ2 := Lib.hid (Blk.kept HZ0.out hb2)
  clear hb2 HW HG HZ0
  go_wp2_with fail
  refine (HRC.out _ (HY.out.kept HB2.out).cs).mono ?_; rintro e w3 ⟨rfl, hb3⟩
  have HB3 := Lib.hid (HB2.out.trans (hb3.mono HB2.out.size))
  have HG3 := Lib.hid (Blk.kept HG2.out hb3)
  have HZ3 := Lib.hid (Blk.kept HZ2.out hb3)
  have q0 : w3.cell? ⟨w.heap.size, 0, none⟩ = some (.int .i64 r) := Blk.cell HG3.out 0
  have q1 : w3.cell? ⟨w.heap.size, 1, none⟩ = some (.int .i64 c) := Blk.cell HG3.out 1
  clear hb3
  have HZ := HZ3
  have HB := HB3
  obtain ⟨z0, z1, z2, y0, y1, y2⟩ := gzero HZ.out
  have HF := Lib.hid (gput_box HZ.out 0 0 (.slice none 0 0))
  have HB8 : Hid (Below w.heap.size w (gput w3 (w.heap.size + 1) 0 0 (.slice none 0 0))) := Lib.hid (gput_below HB.out (by omega) _ _ _)
  go_wp2_with fail
  show bodyPost _ _ _ _ _ (gput w3 (w.heap.size + 1) 0 0 (.slice none 0 0))
  clear z0 z1 z2 y0 y1 y2
  generalize gput w3 (w.heap.size + 1) 0 0 (.slice none 0 0) = wF at HF HB8 ⊢
  have z0 : wF.cell? ⟨w.heap.size + 1, 0, none⟩ = some (.int .i64 0) := Blk.cell HF.out 0
  have z1 : wF.cell? ⟨w.heap.size + 1, 1, none⟩ = some (.int .i64 0) := Blk.cell HF.out 1
  have z2 : wF.cell? ⟨w.heap.size + 1, 2, none⟩ = some (.slice none 0 0) := Blk.cell HF.out 2
  exact bodyPost_ret (v := .tuple #[.agg #[.int .i64 0, .int .i64 0, .slice none 0 0], .int .i64 1]) (by simp [results, Tryd.results27, go_sem, z0, z1, z2]) rfl ⟨rfl, HB8.out⟩
set_option maxHeartbeats 4000000 in
theorem with_thin (r c : Int) (l : List Cl) (i : Int) (x y : Value) (m : List Cl) (w : World) (hx : Rm w x l) (hs : Held l) (hy : Rm w y m) (hsm : Held m) (hml : m.length ≤ 1000000) (hg : GridOk ⟨r, c, l⟩) (hm : RowOk m) (h : (m.length : Int) ≠ c) :
    Calls Tryd.prog 27 #[.agg #[.int .i64 r, .int .i64 c, x], .int .i64 i, y] w fun e w' => e = .returned (.tuple #[.agg #[.int .i64 0, .int .i64 0, .slice none 0 0], .int .i64 1]) ∧ Below w.heap.size w w' := by
  have HW : Hid (Below w.heap.size w ((w.alloc (gbox r c x)).alloc (gbox 0 0 (.slice none 0 0)))) := Lib.hid (((Below.refl _ _).alloc (Nat.le_refl _) _).alloc (by simp) _)
  have HG : Hid (((w.alloc (gbox r c x)).alloc (gbox 0 0 (.slice none 0 0))).heap[w.heap.size]? = some (gbox r c x)) := Lib.hid (old_alloc (new_alloc _ _ _ rfl) _)
  have HZ0 : Hid (((w.alloc (gbox r c x)).alloc (gbox 0 0 (.slice none 0 0))).heap[w.heap.size + 1]? = some (gbox 0 0 (.slice none 0 0))) := Lib.hid (new_alloc _ _ _ (by simp))
  have HCK := Lib.hid (gridCheck_any ⟨r, c, l⟩ true x _ (hx.kept HW.out) hs ⟨fun _ => hg, fun _ => rfl⟩)
  have HY := Lib.hid hy
  have HRC := Lib.hid (fun w' (k : Cs w' y m) => rowCheck_any m true y w' k hsm hml ⟨fun _ => hm, fun _ => rfl⟩)
  have hne : (m.length : Int) ≠ c := h
  obtain ⟨_, A, cp, rfl, _⟩ := hx
  obtain ⟨_, A', cp', rfl, _⟩ := hy
  have hbne : ((m.length : Int) != c) = true := by rw [bne_iff_ne]; exact hne
  clear hs hsm hml h hg hm
  go_enter Tryd.func27, Tryd.ntmps27
  go_wp2_with fail
  refine HCK.out.mono ?_; rintro e w2 ⟨rfl, hb2⟩
  have HB2 := Lib.hid (HW.out.trans (hb2.mono HW.out.size))
  have HG2 := Lib.hid (Blk.kept HG.out hb2)
  have HZ2 := Lib.hid (Blk.kept HZ0.out hb2)
  clear hb2 HW HG HZ0
  go_wp2_with fail
  refine (HRC.out _ (HY.out.kept HB2.out).cs).mono ?_; rintro e w3 ⟨rfl, hb3⟩
  have HB3 := Lib.hid (HB2.out.trans (hb3.mono HB2.out.size))
  have HG3 := Lib.hid (Blk.kept HG2.out hb3)
  have HZ3 := Lib.hid (Blk.kept HZ2.out hb3)
  have q0 : w3.cell? ⟨w.heap.size, 0, none⟩ = some (.int .i64 r) := Blk.cell HG3.out 0
  have q1 : w3.cell? ⟨w.heap.size, 1, none⟩ = some (.int .i64 c) := Blk.cell HG3.out 1
  clear hb3
  have HZ := HZ3
  have HB := HB3
  obtain ⟨z0, z1, z2, y0, y1, y2⟩ := gzero HZ.out
  have HF := Lib.hid (gput_box HZ.out 0 0 (.slice none 0 0))
  have HB8 : Hid (Below w.heap.size w (gput w3 (w.heap.size + 1) 0 0 (.slice none 0 0))) := Lib.hid (gput_below HB.out (by omega) _ _ _)
  go_wp2_with fail
  show bodyPost _ _ _ _ _ (gput w3 (w.heap.size + 1) 0 0 (.slice none 0 0))
  clear z0 z1 z2 y0 y1 y2
  generalize gput w3 (w.heap.size + 1) 0 0 (.slice none 0 0) = wF at HF HB8 ⊢
  have z0 : wF.cell? ⟨w.heap.size + 1, 0, none⟩ = some (.int .i64 0) := Blk.cell HF.out 0
  have z1 : wF.cell? ⟨w.heap.size + 1, 1, none⟩ = some (.int .i64 0) := Blk.cell HF.out 1
  have z2 : wF.cell? ⟨w.heap.size + 1, 2, none⟩ = some (.slice none 0 0) := Blk.cell HF.out 2
  exact bodyPost_ret (v := .tuple #[.agg #[.int .i64 0, .int .i64 0, .slice none 0 0], .int .i64 1]) (by simp [results, Tryd.results27, go_sem, z0, z1, z2]) rfl ⟨rfl, HB8.out⟩
set_option maxHeartbeats 4000000 in
theorem with_out (r c : Int) (l : List Cl) (i : Int) (x y : Value) (m : List Cl) (w : World) (hx : Rm w x l) (hs : Held l) (hy : Rm w y m) (hsm : Held m) (hml : m.length ≤ 1000000) (hg : GridOk ⟨r, c, l⟩) (hm : RowOk m) (hc : (m.length : Int) = c) (h : ¬ (0 ≤ i ∧ i ≤ r - 1)) :
    Calls Tryd.prog 27 #[.agg #[.int .i64 r, .int .i64 c, x], .int .i64 i, y] w fun e w' => e = .returned (.tuple #[.agg #[.int .i64 0, .int .i64 0, .slice none 0 0], .int .i64 3]) ∧ Below w.heap.size w w' := by
  have HW : Hid (Below w.heap.size w ((w.alloc (gbox r c x)).alloc (gbox 0 0 (.slice none 0 0)))) := Lib.hid (((Below.refl _ _).alloc (Nat.le_refl _) _).alloc (by simp) _)
  have HG : Hid (((w.alloc (gbox r c x)).alloc (gbox 0 0 (.slice none 0 0))).heap[w.heap.size]? = some (gbox r c x)) := Lib.hid (old_alloc (new_alloc _ _ _ rfl) _)
  have HZ0 : Hid (((w.alloc (gbox r c x)).alloc (gbox 0 0 (.slice none 0 0))).heap[w.heap.size + 1]? = some (gbox 0 0 (.slice none 0 0))) := Lib.hid (new_alloc _ _ _ (by simp))
  have HCK := Lib.hid (gridCheck_any ⟨r, c, l⟩ true x _ (hx.kept HW.out) hs ⟨fun _ => hg, fun _ => rfl⟩)
  have HY := Lib.hid hy
  have HRC := Lib.hid (fun w' (k : Cs w' y m) => rowCheck_any m true y w' k hsm hml ⟨fun _ => hm, fun _ => rfl⟩)
  have hr40 := hg.1
  simp only at hr40
  have hw : IntKind.i64.wrap (r - 1) = r - 1 := by rw [IntKind.wrap_i64]; omega
  have HR : Hid (rng i 0 (r - 1) = false) := Lib.hid (rngN h)
  subst hc
  obtain ⟨_, A, cp, rfl, _⟩ := hx
  obtain ⟨_, A', cp', rfl, _⟩ := hy
  clear hs hsm hml h hg hm
  go_enter Tryd.func27, Tryd.ntmps27
  go_wp2_with fail
  refine HCK.out.mono ?_; rintro e w2 ⟨rfl, hb2⟩
  have HB2 := Lib.hid (HW.out.trans (hb2.mono HW.out.size))
  have HG2 := Lib.hid (Blk.kept HG.out hb2)
  have HZ2 := Lib.hid (Blk.kept HZ0.out hb2)
  clear hb2 HW HG HZ0
  go_wp2_with fail
  refine (HRC.out _ (HY.out.kept HB2.out).cs).mono ?_; rintro e w3 ⟨rfl, hb3⟩
  have HB3 := Lib.hid (HB2.out.trans (hb3.mono HB2.out.size))
  have HG3 := Lib.hid (Blk.kept HG2.out hb3)
  have HZ3 := Lib.hid (Blk.kept HZ2.out hb3)
  have q0 : w3.cell? ⟨w.heap.size, 0, none⟩ = some (.int .i64 r) := Blk.cell HG3.out 0
  have q1 : w3.cell? ⟨w.heap.size, 1, none⟩ = some (.int .i64 m.length) := Blk.cell HG3.out 1
  clear hb3
  go_wp2_with fail
  refine (gridIn_at _ _ _ _ HR.out _).mono ?_; rintro e w' ⟨rfl, rfl⟩
  have HZ := HZ3
  have HB := HB3
  obtain ⟨z0, z1, z2, y0, y1, y2⟩ := gzero HZ.out
  have HF := Lib.hid (gput_box HZ.out 0 0 (.slice none 0 0))
  have HB8 : Hid (Below w.heap.size w (gput w3 (w.heap.size + 1) 0 0 (.slice none 0 0))) := Lib.hid (gput_below HB.out (by omega) _ _ _)
  go_wp2_with fail
  show bodyPost _ _ _ _ _ (gput w3 (w.heap.size + 1) 0 0 (.slice none 0 0))
  clear z0 z1 z2 y0 y1 y2
  generalize gput w3 (w.heap.size + 1) 0 0 (.slice none 0 0) = wF at HF HB8 ⊢
  have z0 : wF.cell? ⟨w.heap.size + 1, 0, none⟩ = some (.int .i64 0) := Blk.cell HF.out 0
  have z1 : wF.cell? ⟨w.heap.size + 1, 1, none⟩ = some (.int .i64 0) := Blk.cell HF.out 1
  have z2 : wF.cell? ⟨w.heap.size + 1, 2, none⟩ = some (.slice none 0 0) := Blk.cell HF.out 2
  exact bodyPost_ret (v := .tuple #[.agg #[.int .i64 0, .int .i64 0, .slice none 0 0], .int .i64 3]) (by simp [results, Tryd.results27, go_sem, z0, z1, z2]) rfl ⟨rfl, HB8.out⟩
set_option maxHeartbeats 4000000 in
theorem with_fits (R C : Nat) (rs : List (List Cl)) (i : Nat) (x y : Value) (m : List Cl) (w : World) (h : Rws R C rs) (hx : Rm w x rs.flatten) (hs : Held rs.flatten) (hy : Rm w y m) (hsm : Held m) (hm : RowOk m) (hmc : m.length = C) (hi : i < R) :
    Calls Tryd.prog 27 #[.agg #[.int .i64 R, .int .i64 C, x], .int .i64 i, y] w fun e w' => ∃ v, e = .returned (.tuple #[.agg #[.int .i64 R, .int .i64 C, v], .int .i64 0]) ∧ OwnCs w' w.heap.size v (rs.set i m).flatten ∧ Below w.heap.size w w' := by
  have HW : Hid (Below w.heap.size w ((w.alloc (gbox R C x)).alloc (gbox 0 0 (.slice none 0 0)))) := Lib.hid (((Below.refl _ _).alloc (Nat.le_refl _) _).alloc (by simp) _)
  have HG : Hid (((w.alloc (gbox R C x)).alloc (gbox 0 0 (.slice none 0 0))).heap[w.heap.size]? = some (gbox R C x)) := Lib.hid (old_alloc (new_alloc _ _ _ rfl) _)
  have HZ0 : Hid (((w.alloc (gbox R C x)).alloc (gbox 0 0 (.slice none 0 0))).heap[w.heap.size + 1]? = some (gbox 0 0 (.slice none 0 0))) := Lib.hid (new_alloc _ _ _ (by simp))
  have HCK := Lib.hid (gridCheck_any ⟨R, C, rs.flatten⟩ true x _ (hx.kept HW.out) hs ⟨fun _ => h.grid, fun _ => rfl⟩)
  have hfl : rs.flatten.length = R * C := by rw [even_length h.even, h.len]
  have HLI := Lib.hid (fun w' (k : Rm w' x rs.flatten) => lines_any R C rs.flatten x w' k h.r1 h.r40 h.c1 h.c40 hfl)
  have HRC := Lib.hid (fun w' (k : Cs w' y m) => rowCheck_any m true y w' k hsm (by have := hm.2.1; omega) ⟨fun _ => hm, fun _ => rfl⟩)
  have HKE := Lib.hid (fun (w' : World) (cv : Nat → Value) (k : ∀ i, i < R → Rm w' (cv i) (rowAt rs.flatten C i)) => And.intro (kept_ok h k) (rows_kept h cv))
  have hr40 := h.r40
  have hC1 := h.c1
  have hC40 := h.c40
  have hw : IntKind.i64.wrap ((R : Int) - 1) = (R : Int) - 1 := by rw [IntKind.wrap_i64]; omega
  have HR : Hid (rng (i : Int) 0 ((R : Int) - 1) = true) := Lib.hid (rngY ⟨by omega, by omega⟩)
  have HLA := Lib.hid (fun (v : Value) (w' : World) (lns : List Ln) (k : Sv w' v lns) (k2 : LnsOk w' C lns) (k3 : lns.length = R) => (show _ from k3 ▸ laid_any lns C v w' k k2 hC1 hC40 (by omega) : Calls Tryd.prog 36 #[v, .int .i64 C] w' fun e w'' => ∃ v', e = .returned (.agg #[.int .i64 R, .int .i64 C, v']) ∧ OwnCs w'' w'.heap.size v' (rowsOfL C lns).flatten ∧ Below w'.heap.size w' w''))
  clear hs h hfl hsm hm
  obtain ⟨l, HL⟩ : ∃ l, Hid (rs.flatten = l) := ⟨_, Lib.hid rfl⟩
  rw [HL.out] at hx HCK HLI HKE
  have HX := Lib.hid hx
  have HY := Lib.hid hy
  obtain ⟨_, A, cp, rfl, _⟩ := hx
  obtain ⟨_, A', cp', rfl, _⟩ := hy
  have HMC := Lib.hid hmc
  rw [hmc] at HRC HY ⊢
  clear hmc
  go_enter Tryd.func27, Tryd.ntmps27
  go_wp2_with fail
  refine HCK.out.mono ?_; rintro e w2 ⟨rfl, hb2⟩
  have HB2 := Lib.hid (HW.out.trans (hb2.mono HW.out.size))
  have HG2 := Lib.hid (Blk.kept HG.out hb2)
  have HZ2 := Lib.hid (Blk.kept HZ0.out hb2)
  clear hb2 HW HG HZ0
  go_wp2_with fail
  refine (HRC.out _ (HY.out.kept HB2.out).cs).mono ?_; rintro e w3 ⟨rfl, hb3⟩
  have HB3 := Lib.hid (HB2.out.trans (hb3.mono HB2.out.size))
  have HG3 := Lib.hid (Blk.kept HG2.out hb3)
  have HZ3 := Lib.hid (Blk.kept HZ2.out hb3)
  have q0 : w3.cell? ⟨w.heap.size, 0, none⟩ = some (.int .i64 R) := Blk.cell HG3.out 0
  have q1 : w3.cell? ⟨w.heap.size, 1, none⟩ = some (.int .i64 C) := Blk.cell HG3.out 1
  have q2 : w3.cell? ⟨w.heap.size, 2, none⟩ = some (.slice A l.length cp) := Blk.cell HG3.out 2
  clear hb3
  go_wp2_with fail
  refine (gridIn_at _ _ _ _ HR.out _).mono ?_; rintro e w' ⟨rfl, rfl⟩
  go_wp2_with fail
  refine (HLI.out _ (HX.out.kept HB3.out)).mono ?_; rintro e w4 ⟨v4, cv, rfl, ho4, hcv, hb4⟩
  have HB4 := Lib.hid (HB3.out.trans (hb4.mono HB3.out.size))
  have HG4 := Lib.hid (Blk.kept HG3.out hb4)
  have HZ4 := Lib.hid (Blk.kept HZ3.out hb4)
  obtain ⟨hk1, hk2⟩ := HKE.out _ cv hcv
  have hlk := hk1.kept hb4
  have hll : (keptOf cv l C (List.range R)).length = R := by rw [keptOf_length, List.length_range]
  generalize keptOf cv l C (List.range R) = lns at ho4 hk1 hk2 hlk hll
  obtain ⟨g, gc, rfl, hg, hgc⟩ := ho4.shape (by omega)
  have hg2 : w.heap.size + 2 ≤ g := Nat.le_trans (Blk.lt HZ3.out) hg
  have hcell := ho4.cell (k := i) (by omega)
  have hfree := ho4.free i
  have HO5 := Lib.hid (ho4.put i (.kept (.slice A' C cp') m))
  have HLK := Lib.hid hlk
  have HRW := Lib.hid hk2
  have HLN := Lib.hid hll
  rw [hll] at HO5 ⊢
  have HZ5 := Lib.hid (Blk.other HZ4.out (g := g) (by omega) i (lv (.kept (.slice A' C cp') m)))
  have HG5 := Lib.hid (Blk.other HG4.out (g := g) (by omega) i (lv (.kept (.slice A' C cp') m)))
  have HB5 := Lib.hid (HB4.out.setCell (p := ⟨g, i, none⟩) (show w.heap.size ≤ g by omega) (lv (.kept (.slice A' C cp') m)))
  have HOFF : Hid (∀ z ∈ lns, ∀ v r, z = .kept v r → Off g v) := Lib.hid (by
    intro z hz v r e
    subst e
    have hq := hk1 _ hz
    have hrl : 0 < r.length := by rw [hq.2]; omega
    exact hq.1.off hrl hg)
  have HYO : Hid (Off g (.slice A' C cp')) := Lib.hid ((HY.out).off (by rw [HMC.out]; omega) (by omega))
  have HL5 : Hid (LnsOk (w4.setCell ⟨g, i, none⟩ (lv (.kept (.slice A' C cp') m))) C (lns.set i (.kept (.slice A' C cp') m))) := Lib.hid (by
    intro z hz
    rcases List.mem_or_eq_of_mem_set hz with hz | rfl
    · have hq := HLK.out z hz
      cases z with
      | kept v r => exact ⟨hq.1.set (HOFF.out _ hz v r rfl) _ _, hq.2⟩
      | empty a => exact hq
    · exact ⟨(HY.out.kept HB4.out).set HYO.out _ _, HMC.out⟩)
  have HRS : Hid (rowsOfL C (lns.set i (.kept (.slice A' C cp') m)) = rs.set i m) := Lib.hid (by
    rw [← HRW.out]; unfold rowsOfL; rw [List.map_set]; rfl)
  have HLS : Hid ((lns.set i (.kept (.slice A' C cp') m)).length = R) := Lib.hid (by rw [List.length_set]; exact HLN.out)
  rw [show lv (.kept (.slice A' C cp') m) = .iface 77 (.slice A' C cp') from rfl] at HO5 HZ5 HG5 HB5 HL5
  generalize lns.set i (.kept (.slice A' C cp') m) = ls5 at HO5 HL5 HRS HLS
  generalize lv (lns.getD i default) = old at hcell
  clear ho4 hcv hb4 hk1 hk2 hlk hll q0 q1 q2 hg hgc HL
  have q1 : w4.cell? ⟨w.heap.size, 1, none⟩ = some (.int .i64 C) := Blk.cell HG4.out 1
  have hne : w.heap.size ≠ g := by omega
  have hne' : ¬ g = w.heap.size := by omega
  go_wp2_with fail
  clear hcell hfree q1
  generalize w4.setCell ⟨g, i, none⟩ (.iface 77 (.slice A' C cp')) = w5 at HO5 HZ5 HG5 HB5 HL5 ⊢
  have HS5 := Lib.hid HO5.out.sv
  have HLA5 := Lib.hid (HLA.out _ w5 ls5 HS5.out HL5.out HLS.out)
  rw [HRS.out] at HLA5
  obtain ⟨res, HRE⟩ : ∃ q, Hid ((rs.set i m).flatten = q) := ⟨_, Lib.hid rfl⟩
  rw [HRE.out] at HLA5
  refine HLA5.out.mono ?_; rintro e w6 ⟨v6, rfl, ho6, hb6⟩
  obtain ⟨A8, e8, rfl⟩ := own_shape ho6
  have HZ6 := Lib.hid (Blk.kept HZ5.out hb6)
  have HB6 := Lib.hid (HB5.out.trans (hb6.mono HB5.out.size))
  have HO6 := Lib.hid (ho6.low (show w.heap.size + 2 ≤ w5.heap.size from Blk.lt HZ5.out))
  obtain ⟨z0, z1, z2, y0, y1, y2⟩ := gzero HZ6.out
  have HF := Lib.hid (gput_box HZ6.out R C (.slice A8 res.length e8))
  have HO8 : Hid (OwnCs (gput w6 (w.heap.size + 1) R C (.slice A8 res.length e8)) (w.heap.size + 2) (.slice A8 res.length e8) res) := Lib.hid (gput_own HO6.out (Nat.lt_succ_self _) _ _ _)
  have HB8 : Hid (Below w.heap.size w (gput w6 (w.heap.size + 1) R C (.slice A8 res.length e8))) := Lib.hid (gput_below HB6.out (by omega) _ _ _)
  clear ho6 hb6
  go_wp2_with fail
  show bodyPost _ _ _ _ _ (gput w6 (w.heap.size + 1) R C (.slice A8 res.length e8))
  clear z0 z1 z2 y0 y1 y2
  generalize gput w6 (w.heap.size + 1) R C (.slice A8 res.length e8) = wF at HF HO8 HB8 ⊢
  have z0 : wF.cell? ⟨w.heap.size + 1, 0, none⟩ = some (.int .i64 R) := Blk.cell HF.out 0
  have z1 : wF.cell? ⟨w.heap.size + 1, 1, none⟩ = some (.int .i64 C) := Blk.cell HF.out 1
  have z2 : wF.cell? ⟨w.heap.size + 1, 2, none⟩ = some (.slice A8 res.length e8) := Blk.cell HF.out 2
  exact bodyPost_ret (v := .tuple #[.agg #[.int .i64 R, .int .i64 C, .slice A8 res.length e8], .int .i64 0]) (by simp [results, Tryd.results27, go_sem, z0, z1, z2]) rfl ⟨_, rfl, by rw [HRE.out]; exact HO8.out.low (by omega), HB8.out⟩
end Row
end Go.Proofs.YtenhgkhonaglaaaDoor
end
