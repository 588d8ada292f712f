/- Joined texts: ScrKeys. -/
import Derived.Test.YtgdfiiikbnpagaaGreatDoorJ43
import Derived.Test.YtgdfiiikbnpagaaGreatDoorJ122
section
/- Keys and numbers as the page knows them; a round that asks for one answer: what the laws on cursors and on edits both lean on. -/
namespace Go.Proofs.YtgdfiiikbnpagaaGreatDoor
set_option maxRecDepth 100000
open Go.RowKit
namespace Scr
open Go.Proofs.YtgdfiiikbnpagaaGreatDoor.Row

/-- A block of numbers. -/
def Kv (w : World) (b : Nat) (l : List Int) : Prop := ∀ i, i < l.length → w.cell? ⟨b, i, none⟩ = some (.int .i64 (l.getD i 0))
theorem Kv.kept {w w' : World} {b : Nat} {l : List Int} (h : Kv w b l) (hb : Below w.heap.size w w') : Kv w' b l := fun i hi => cell_kept hb (h i hi)
set_option maxHeartbeats 800000 in
theorem refIn_any (l : List Int) (b c : Nat) (n : Int) (w : World) (h : Kv w b l) (hl : l.length ≤ 1000) :
    Calls Tryz.prog 47 #[.slice (some ⟨b, 0, none⟩) l.length c, .int .i64 n] w fun e w' => ∃ r, e = .returned (.int .i64 r) ∧ (0 ≤ r ↔ ∃ i, i < l.length ∧ l.getD i 0 = n) ∧ w' = w := by
  have HA := Lib.hid h
  obtain ⟨m, hm⟩ : ∃ m, l.length = m := ⟨_, rfl⟩
  have HM := Lib.hid hm
  rw [hm] at hl ⊢
  clear hm h
  go_enter Tryz.func47, Tryz.ntmps47
  go_wp2_with fail
  go_loopw [5] (fun i wr => ∃ k : Nat, k ≤ m ∧ i = .int .i64 k ∧ wr = w ∧ Hid (∀ j, j < k → l.getD j 0 ≠ n)) (fun i _ => m - (intOf i).toNat)
  case atStart => exact ⟨0, by omega, rfl, rfl, Lib.hid (fun j hj => absurd hj (by omega))⟩
  case round =>
    obtain ⟨k, hk, rfl, rfl, HB⟩ := hrel
    by_cases hlt : k < m
    · have hE := HA.out k (by rw [HM.out]; exact hlt)
      by_cases he : l.getD k 0 = n
      · have HI : Hid (∃ i, i < m ∧ l.getD i 0 = n) := Lib.hid ⟨k, hlt, he⟩
        rw [he] at hE
        clear he
        go_wp2_with fail
        go_ret
        exact ⟨_, rfl, ⟨fun _ => HI.out, fun _ => Int.natCast_nonneg k⟩, rfl⟩
      · have HN : Hid (∀ j, j < k + 1 → l.getD j 0 ≠ n) := Lib.hid fun j hj => by
          by_cases e : j = k
          · subst e; exact he
          · exact HB.out j (by omega)
        have hne : (l.getD k 0 == n) = false := by rw [beq_eq_false_iff_ne]; exact he
        generalize l.getD k 0 = y at hE hne
        clear he
        go_wp2_with fail
        go_roundw
        case rel => exact ⟨k + 1, by omega, by go_num, by trivial, HN⟩
        case measure => simp [intOf]; omega
    · have HI : Hid (¬ ∃ i, i < m ∧ l.getD i 0 = n) := Lib.hid fun ⟨i, hi, e⟩ => HB.out i (by omega) e
      have hd : decide (k < m) = false := decide_eq_false hlt
      clear hlt
      go_wp2_with fail
      go_ret
      exact ⟨_, rfl, ⟨fun h => absurd h (by decide), fun h => absurd h HI.out⟩, rfl⟩
theorem ans_no {w w' : World} {X0 : S} {may : Bool} (h : may = false) (hb : Below w.heap.size w w') : Ans w w' may X0 noS nilS nilS nilS 1 := by
  subst h
  exact ⟨hb, own_nil _ _, rfl, (by simp), fun _ => ⟨rfl, rfl, rfl, rfl⟩⟩
theorem refNumber_any (n : Int) (w : World) : Calls Tryz.prog 27 #[.int .i64 n] w fun e w' => e = .returned (.bool (numB n)) ∧ w' = w := by
  have HB := Lib.hid (Tab.between_any n (-1) 9999 w)
  have HE : Hid (numB n = Tab.rng n (-1) 9999) := Lib.hid rfl
  rw [HE.out]
  go_enter Tryz.func27, Tryz.ntmps27
  go_wp2_with fail
  refine HB.out.mono ?_; rintro e w1 ⟨rfl, rfl⟩
  go_wp2_with fail
  go_ret
  exact ⟨rfl, rfl⟩
/-- The call asked for first, or its box made first. -/
theorem Mu.start2 {wq w3 w4 w5 w6 : World} {base : Nat} {s X : S} {xi yi zi x y z : Value} (h : Below wq.heap.size wq w3) (ho3 : Own w3 base s xi yi zi) (h4 : Sto (w3.alloc (.cells zarr 37)) w3.heap.size (sarr s xi yi zi) w4)
    (hb : Below (w4.alloc (.cells zarr 37)).heap.size (w4.alloc (.cells zarr 37)) w5) (ho : Own w5 (w4.alloc (.cells zarr 37)).heap.size X x y z) (hs : Sto w5 w4.heap.size (sarr X x y z) w6) :
    Mu wq w3.heap.size w4.heap.size (w4.alloc (.cells zarr 37)).heap.size s xi yi zi X x y z w6 := by
  obtain ⟨k1, k2⟩ := bx_sto (e := ⟨s, xi, yi, zi⟩) ho3.in_ h4
  have hx : w5.heap[w4.heap.size]? = some (.cells zarr 37 (0, 0)) := Blk.kept (heap_alloc_new _ _) hb
  have h45 : Below w4.heap.size w4 w5 := (bel_alloc w4 _).trans (hb.mono (by simp))
  have ho4 := (ho3.kept k2).kept (bel_alloc w4 (.cells zarr 37))
  have hl3 : w3.heap.size < w4.heap.size := Blk.lt k1.box
  have h6 : Below w4.heap.size w4 w6 := hs.below _ _ (Nat.le_refl _) h45
  refine ⟨(h.trans (k2.mono h.size)).trans (h6.mono (by have := h.size; have := k2.size; omega)), by rw [hs.size]; exact hb.size, hs.boxed (by omega) (k1.box.kept h45), hs.box, hs.own2 hx ho, hs.own2 hx ((ho4.low (Nat.zero_le _)).kept hb), ho4.lt3, ?_⟩
  have := h.size; have := k2.size; simp; omega
theorem step_allocS {w : World} {ops : Array Oper} {o : Oper} {a : Act} {K : Act → World → Prop} {Q : Exit → Act → World → Prop} {E : Prop} (hgd : o.guard = none) (ho : o.op = .alloc 37) {n : Nat} (hn : w.heap.size = n)
    (hK : K (a.put o.dst (.pointer (some ⟨n, 0, none⟩))) (w.alloc (.cells zarr 37))) : if Region.wanted o (yielded ops a.tmps) = true then Oper.wp Tryz.prog o a w K Q else E := by
  subst hn
  have hw : Region.wanted o (yielded ops a.tmps) = true := by simp [Region.wanted, hgd]
  rw [if_pos hw]
  unfold Oper.wp
  simp only [ho, execOp, Sem.run_bind]
  exact hK
theorem Sto.drew {w w' : World} {b : Nat} {A : Array Value} (h : Sto w b A w') : Sto w b A w'.drew := ⟨h.box, h.other, h.size, fun B u hB hb => (h.below B u hB hb).drew⟩
end Scr
end Go.Proofs.YtgdfiiikbnpagaaGreatDoor
end
