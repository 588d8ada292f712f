/- Joined texts: ScrKeys. -/
import Derived.Test.YtceaoadlhdgnmaaGreatDoorK43
import Derived.Test.YtceaoadlhdgnmaaGreatDoorK122
section
/- Keys and numbers as the page knows them; a round that asks for one answer: what the laws on cursors and on edits both lean on. -/
namespace Go.Proofs.YtceaoadlhdgnmaaGreatDoor
set_option maxRecDepth 100000
open Go.RowKit
namespace Scr
open Go.Proofs.YtceaoadlhdgnmaaGreatDoor.Row

/-- A block of numbers. -/
def Kv (w : World) (b : Nat) (l : List Int) : Prop := ∀ i, i < l.length → w.cell? ⟨b, i, none⟩ = some (.int .i64 (l.getD i 0))
theorem Kv.kept {w w' : World} {b : Nat} {l : List Int} (h : Kv w b l) (hb : Below w.heap.size w w') : Kv w' b l := fun i hi => cell_kept hb (h i hi)
theorem ans_no {w w' : World} {X0 : S} {may : Bool} (h : may = false) (hb : Below w.heap.size w w') : Ans w w' may X0 noS nilS nilS nilS 1 := by
  subst h
  exact ⟨hb, own_nil _ _, rfl, (by simp), fun _ => ⟨rfl, rfl, rfl, rfl⟩⟩
theorem refNumber_any (n : Int) (w : World) : Calls Tryz.prog 19 #[.int .i64 n] w fun e w' => e = .returned (.bool (numB n)) ∧ w' = w := by
  have HB := Lib.hid (Tab.between_any n (-1) 9999 w)
  have HE : Hid (numB n = Tab.rng n (-1) 9999) := Lib.hid rfl
  rw [HE.out]
  go_enter Tryz.func19, Tryz.ntmps19
  go_wp2_with fail
  refine HB.out.mono ?_; rintro e w1 ⟨rfl, rfl⟩
  go_wp2_with fail
  go_ret
  exact ⟨rfl, rfl⟩
/-- The call asked for first, or its box made first. -/
theorem Mu.start2 {wq w3 w4 w5 w6 : World} {base : Nat} {s X : S} {xi yi zi x y z : Value} (h : Below wq.heap.size wq w3) (ho3 : Own w3 base s xi yi zi) (h4 : Sto (w3.alloc (.cells zarr 36)) w3.heap.size (sarr s xi yi zi) w4)
    (hb : Below (w4.alloc (.cells zarr 36)).heap.size (w4.alloc (.cells zarr 36)) w5) (ho : Own w5 (w4.alloc (.cells zarr 36)).heap.size X x y z) (hs : Sto w5 w4.heap.size (sarr X x y z) w6) :
    Mu wq w3.heap.size w4.heap.size (w4.alloc (.cells zarr 36)).heap.size s xi yi zi X x y z w6 := by
  obtain ⟨k1, k2⟩ := bx_sto (e := ⟨s, xi, yi, zi⟩) ho3.in_ h4
  have hx : w5.heap[w4.heap.size]? = some (.cells zarr 36 (0, 0)) := Blk.kept (heap_alloc_new _ _) hb
  have h45 : Below w4.heap.size w4 w5 := (bel_alloc w4 _).trans (hb.mono (by simp))
  have ho4 := (ho3.kept k2).kept (bel_alloc w4 (.cells zarr 36))
  have hl3 : w3.heap.size < w4.heap.size := Blk.lt k1.box
  have h6 : Below w4.heap.size w4 w6 := hs.below _ _ (Nat.le_refl _) h45
  refine ⟨(h.trans (k2.mono h.size)).trans (h6.mono (by have := h.size; have := k2.size; omega)), by rw [hs.size]; exact hb.size, hs.boxed (by omega) (k1.box.kept h45), hs.box, hs.own2 hx ho, hs.own2 hx ((ho4.low (Nat.zero_le _)).kept hb), ho4.lt3, ?_⟩
  have := h.size; have := k2.size; simp; omega
theorem step_allocS {w : World} {ops : Array Oper} {o : Oper} {a : Act} {K : Act → World → Prop} {Q : Exit → Act → World → Prop} {E : Prop} (hgd : o.guard = none) (ho : o.op = .alloc 36) {n : Nat} (hn : w.heap.size = n)
    (hK : K (a.put o.dst (.pointer (some ⟨n, 0, none⟩))) (w.alloc (.cells zarr 36))) : if Region.wanted o (yielded ops a.tmps) = true then Oper.wp Tryz.prog o a w K Q else E := by
  subst hn
  have hw : Region.wanted o (yielded ops a.tmps) = true := by simp [Region.wanted, hgd]
  rw [if_pos hw]
  unfold Oper.wp
  simp only [ho, execOp, Sem.run_bind]
  exact hK
theorem Sto.drew {w w' : World} {b : Nat} {A : Array Value} (h : Sto w b A w') : Sto w b A w'.drew := ⟨h.box, h.other, h.size, fun B u hB hb => (h.below B u hB hb).drew⟩
end Scr
end Go.Proofs.YtceaoadlhdgnmaaGreatDoor
end
