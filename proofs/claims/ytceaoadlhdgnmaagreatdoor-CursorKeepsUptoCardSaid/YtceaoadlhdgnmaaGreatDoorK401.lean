/- Joined texts: CurKey, CurLawK, CurSaidKeeps. -/
import Derived.Test.YtceaoadlhdgnmaaGreatDoorK41
import Derived.Test.YtceaoadlhdgnmaaGreatDoorK204
import Derived.Test.YtceaoadlhdgnmaaGreatDoorK211
import Derived.Test.YtceaoadlhdgnmaaGreatDoorK212
import Derived.Deep.RegionHeld3
import Derived.Deep.CutRange
import Derived.Deep.DeepCutAuto
import Derived.BigQuiet
import Derived.Test.YtceaoadlhdgnmaaGreatDoorCards
import Derived.Test.YtceaoadlhdgnmaaGreatDoorTie
section
namespace Go.Proofs.YtceaoadlhdgnmaaGreatDoor
namespace Scr
theorem rest_save (s : S) : (restS (saveS s)).cur = s.cur := by
  unfold restS backC saveS
  cases hs : s.swapped
  · rfl
  · rfl
theorem mayB_iff {s : S} {key n m : Int} : mayB s key n m = true ↔ okB s = true ∧ keyB key = true ∧ numB n = true ∧ numB m = true := by
  unfold mayB
  rw [Bool.and_eq_true, Bool.and_eq_true, Bool.and_eq_true]
end Scr
end Go.Proofs.YtceaoadlhdgnmaaGreatDoor
end
section
/- Which keys the page knows; a new screen's cursor led somewhere wakes the laws. -/
namespace Go.Proofs.YtceaoadlhdgnmaaGreatDoor
set_option maxRecDepth 100000
open Go.RowKit
namespace Scr
open Go.Proofs.YtceaoadlhdgnmaaGreatDoor.Row

def keysL : List Int := [65, 66, 67, 68, 69, 70, 71, 100, 72, 73, 90]
theorem keys_iff {key : Int} : keyB key = true ↔ ∃ i, i < 11 ∧ keysL.getD i 0 = key := by
  unfold keyB
  simp only [Bool.or_eq_true, beq_iff_eq]
  constructor
  · intro h
    rcases h with rfl | rfl | rfl | rfl | rfl | rfl | rfl | rfl | rfl | rfl | rfl
    · exact ⟨0, by decide, rfl⟩
    · exact ⟨1, by decide, rfl⟩
    · exact ⟨2, by decide, rfl⟩
    · exact ⟨3, by decide, rfl⟩
    · exact ⟨4, by decide, rfl⟩
    · exact ⟨5, by decide, rfl⟩
    · exact ⟨6, by decide, rfl⟩
    · exact ⟨7, by decide, rfl⟩
    · exact ⟨8, by decide, rfl⟩
    · exact ⟨9, by decide, rfl⟩
    · exact ⟨10, by decide, rfl⟩
  · rintro ⟨i, hi, rfl⟩
    have : i = 0 ∨ i = 1 ∨ i = 2 ∨ i = 3 ∨ i = 4 ∨ i = 5 ∨ i = 6 ∨ i = 7 ∨ i = 8 ∨ i = 9 ∨ i = 10 := by omega
    rcases this with rfl | rfl | rfl | rfl | rfl | rfl | rfl | rfl | rfl | rfl | rfl <;> simp [keysL]
abbrev kbox : Obj := .cells #[.int .i64 65, .int .i64 66, .int .i64 67, .int .i64 68, .int .i64 69, .int .i64 70, .int .i64 71, .int .i64 100, .int .i64 72, .int .i64 73, .int .i64 90] 3
theorem kbox_kv (w : World) : Kv (w.alloc kbox) w.heap.size keysL := by
  have hx : (w.alloc kbox).heap[w.heap.size]? = some kbox := heap_alloc_new _ _
  intro i hi
  have hi : i < 11 := hi
  have : i = 0 ∨ i = 1 ∨ i = 2 ∨ i = 3 ∨ i = 4 ∨ i = 5 ∨ i = 6 ∨ i = 7 ∨ i = 8 ∨ i = 9 ∨ i = 10 := by omega
  rcases this with rfl | rfl | rfl | rfl | rfl | rfl | rfl | rfl | rfl | rfl | rfl
  · exact Blk.cell hx 0
  · exact Blk.cell hx 1
  · exact Blk.cell hx 2
  · exact Blk.cell hx 3
  · exact Blk.cell hx 4
  · exact Blk.cell hx 5
  · exact Blk.cell hx 6
  · exact Blk.cell hx 7
  · exact Blk.cell hx 8
  · exact Blk.cell hx 9
  · exact Blk.cell hx 10
theorem num10 (n : Int) (w : World) : Calls Tryz.prog 43 #[.int .i64 n] w fun e w' => e = .returned (.int .i64 n) ∧ w' = w := by
  go_enter Tryz.func43, Tryz.ntmps43
  go_wp2_with fail
  go_ret
  exact ⟨rfl, rfl⟩
theorem num10_then {w : World} {n : Int} {Q : Ending → World → Prop} (hQ : Q (.returned (.int .i64 n)) w) : Calls Tryz.prog 43 #[.int .i64 n] w Q :=
  (num10 n w).mono (by rintro e w' ⟨rfl, rfl⟩; exact hQ)
set_option maxHeartbeats 3200000 in
theorem wakes10 (w : World) (hT : Tabs w) : Calls Tryz.prog 44 #[] w fun e w' => e = .returned (.bool true) ∧ Below w.heap.size w w' := by
  have HN := Lib.hid (refNew8 3 4 w (by decide) (by decide) (by decide) (by decide))
  have hok := newS_ok (r := 3) (c := 4) (by decide) (by decide) (by decide) (by decide)
  have HM := Lib.hid (fun x y z W (h : In W (newS 3 4) x y z) (t : Tabs W) => moveD (newS 3 4) x y z 72 2 3 W h hok.holds t)
  have HMAY : Hid (mayB (newS 3 4) 72 2 3 = true) := Lib.hid (mayB_iff.2 ⟨(ok_iff _).2 hok, rfl, rfl, rfl⟩)
  have HV : Hid ((moveS (newS 3 4) 72 2 3).cur.row = 1 ∧ (moveS (newS 3 4) 72 2 3).cur.col = 2) := Lib.hid ⟨by kernel_rfl, by kernel_rfl⟩
  have HT := Lib.hid hT
  generalize moveS (newS 3 4) 72 2 3 = S1 at HM HV
  generalize mayB (newS 3 4) 72 2 3 = may at HM HMAY
  clear hok hT
  go_enter Tryz.func44, Tryz.ntmps44
  go_wp2_with fail
  refine HN.out.mono ?_; rintro e w1 ⟨x, y, z, rfl, ho, hb⟩
  have H1 := Lib.hid (And.intro ho.in_ hb)
  clear ho hb HN
  go_wp2_with fail
  refine (HM.out x y z w1 H1.out.1 (HT.out.kept H1.out.2)).mono ?_; rintro e w2 ⟨X, x1, y1, z1, code, rfl, hans⟩
  obtain rfl := hans.yes HMAY.out
  have hcode : code = 0 := by rw [hans.code, HMAY.out]; rfl
  subst hcode
  have HI2 := Lib.hid hans.own.in_
  have HB2 := Lib.hid (H1.out.2.trans (hans.bel.mono H1.out.2.size))
  clear hans H1 HM
  go_wp2_with (first
    | (refine wp_allocS (n := w2.heap.size) rfl rfl rfl ?_)
    | (refine wp_storeS (b := w2.heap.size) rfl rfl rfl rfl rfl HI2.out.one (heap_alloc_new _ _) rfl ?_; intro w3 h3))
  obtain ⟨hx3, hb3⟩ := bx_sto (e := ⟨X, x1, y1, z1⟩) HI2.out h3
  have HX3 := Lib.hid hx3
  have HB3 := Lib.hid (HB2.out.trans (hb3.mono HB2.out.size))
  clear hx3 hb3 h3
  refine num10_then ?_
  have c7 : w3.cell? ⟨w2.heap.size, 7, none⟩ = some (.int .i64 1) := by have k := HX3.out.box.cell 7; rw [sarr_7, HV.out.1] at k; exact k
  have c8 : w3.cell? ⟨w2.heap.size, 8, none⟩ = some (.int .i64 2) := by have k := HX3.out.box.cell 8; rw [sarr_8, HV.out.2] at k; exact k
  go_wp2_with fail
  go_ret
  exact ⟨rfl, HB3.out⟩
end Scr
end Go.Proofs.YtceaoadlhdgnmaaGreatDoor
end
section
/- The law on what is kept of a cursor: walked. -/
namespace Go.Proofs.YtceaoadlhdgnmaaGreatDoor
set_option maxRecDepth 100000
open Go.RowKit
namespace Scr
open Go.Proofs.YtceaoadlhdgnmaaGreatDoor.Row

theorem no_holds : Holds noS := ⟨fun i hi => absurd hi (by simp [noS, noG]), fun i hi => absurd hi (by simp [noS, noG]), Nat.zero_le _⟩
abbrev noE : Sc := ⟨noS, nilS, nilS, nilS⟩
theorem Ms.fresh3 {w W : World} {v : Value} {n m k r : Int} {L O : List (Nat × Sc)} (h : Ms w v n m k r L O W) :
    Ms w v n m k r ((W.heap.size + 2, noE) :: (W.heap.size + 1, noE) :: (W.heap.size, noE) :: L) O (((W.alloc (.cells zarr 36)).alloc (.cells zarr 36)).alloc (.cells zarr 36)) := by
  have k := h.fresh.fresh.fresh
  have e1 : (W.alloc (.cells zarr 36)).heap.size = W.heap.size + 1 := by simp
  have e2 : ((W.alloc (.cells zarr 36)).alloc (.cells zarr 36)).heap.size = W.heap.size + 2 := by simp
  rw [e1, e2] at k
  exact k
theorem Ms.nils {w W : World} {v : Value} {n m k r : Int} {L O : List (Nat × Sc)} (h : Ms w v n m k r L O W) (B : Nat) : Ms w v n m k r L ((B, noE) :: O) W := ⟨h.run, h.box, fun p hp => by
  rcases List.mem_cons.1 hp with rfl | hp
  · exact own_nil _ _
  · exact h.own p hp⟩
/-- A screen's cursor, loaded whole. -/
theorem loadK {w : World} {p : Addr} {s : S} {x y z : Value} (h : At w p (sarr s x y z).toList) : (loadVar 33 (p.add 7)).run Tryz.prog w = .ok (curV s.cur) w := by
  have h2 : At w (p.add 7) [.int .i64 s.cur.row, .int .i64 s.cur.col, .bool s.cur.wrap, .int .i64 s.cur.a.fg, .int .i64 s.cur.a.bg, .int .i64 s.cur.a.flags, .int .i64 s.cur.g0, .int .i64 s.cur.g1, .int .i64 s.cur.shift, .bool s.cur.origin] := fun j u hu => by
    have hj : j < 10 := (List.getElem?_eq_some_iff.1 hu).1
    have := h (7 + j) u (by
      have e : j = 0 ∨ j = 1 ∨ j = 2 ∨ j = 3 ∨ j = 4 ∨ j = 5 ∨ j = 6 ∨ j = 7 ∨ j = 8 ∨ j = 9 := by omega
      rcases e with rfl | rfl | rfl | rfl | rfl | rfl | rfl | rfl | rfl | rfl <;> exact hu)
    rw [Go.Deep.add_add]
    exact this
  have hl := run_loadCells_list (P := Tryz.prog) w (p.add 7) _ h2
  obtain ⟨i, hi, hs⟩ := Option.map_eq_some_iff.1 (show (Tryz.prog.info? 33).map (·.size) = some 10 by kernel_rfl)
  have hagg : (isAgg 33).run Tryz.prog w = .ok true w := Tryz.isAgg33 w
  simp only [List.length_cons, List.length_nil, Nat.zero_add, Nat.reduceAdd] at hl
  simp [loadVar, Sem.run_bind, hagg, sizeOf, typeInfo, hi, hs, hl]
theorem SBox.at7 {w : World} {b : Nat} {s : S} {x y z : Value} (h : SBox w b s x y z) : (loadVar 33 ⟨b, 7, none⟩).run Tryz.prog w = .ok (curV s.cur) w := by
  have := loadK h.at
  have e : (⟨b, 0, none⟩ : Addr).add 7 = ⟨b, 7, none⟩ := by simp [Addr.add]
  rw [e] at this
  exact this
theorem run_load_opK {w : World} {o : Oper} {a : Act} {x : Operand} {p : Addr} {v : Value} (ho : o.op = .load 33 x) (hx : a.eval x = .pointer (some p)) (h : (loadVar 33 p).run Tryz.prog w = .ok v w) :
    (execOp a.eval o).run Tryz.prog w = .ok (.value v) w := by
  unfold execOp
  simp only [ho, hx, Instr.loadAt, Instr.sureAddr, Sem.run_bind, Sem.run_pure, Result.andThen_ok, h]
theorem yields_loadK {ops : Array Oper} {T : World → Prop} {o : Oper} {a : Act} {x : Operand} {p : Addr} {v : Value} (hgd : Region.wanted o (yielded ops a.tmps) = true) (ho : o.op = .load 33 x) (hx : a.eval x = .pointer (some p))
    (h : ∀ w, T w → (loadVar 33 p).run Tryz.prog w = .ok v w) : YieldsIf Tryz.prog ops T o v a := Or.inl ⟨hgd, fun w hT => run_load_opK ho hx (h w hT)⟩
set_option maxHeartbeats 12000000 in
theorem lawCursorKeeps_any (v : Value) (l : List Sc) (n m k r : Int) (w : World) (h : Scrs 1048576 w v l) (hl : l.length ≤ 140737488355328) (hT : Tabs w) :
    Calls Tryz.prog 13 #[.agg #[v, .int .i64 n, .int .i64 m, .int .i64 k, .int .i64 r]] w fun e w' => e = .returned (.bool true) ∧ Below w.heap.size w w' := by
  have HT := Lib.hid hT
  obtain ⟨⟨A, c, rfl, hc, hf⟩, h2⟩ := id h
  have HF := Lib.hid hf
  have H2 := Lib.hid h2
  have H0 := Lib.hid (Run.start w (.slice A l.length c) n m k r)
  have HH := Lib.hid (heavy8 (.slice A l.length c) l n m k r _ (h.kept H0.out.bel) hl (by decide))
  have HWK := Lib.hid (fun W (hW : Below w.heap.size w W) => wakes10 W (hT.kept hW))
  obtain ⟨q, hq⟩ : ∃ q, l.length = q := ⟨_, rfl⟩
  rw [hq] at HF H2 H0 HH ⊢
  clear h hT h2 hf hl hc hq
  go_enter Tryz.func13, Tryz.ntmps13
  go_wp2_with fail
  refine HH.out.mono ?_; rintro e w1 ⟨b, rfl, hw, hb⟩
  have H1 := Lib.hid (H0.out.kept hb)
  have HW := Lib.hid hw
  clear hw hb HH H0
  cases b
  case true =>
    go_wp2_with fail
    go_ret
    exact ⟨rfl, H1.out.bel⟩
  go_wp2_with fail
  go_loopw [3] (fun j wr => ∃ i : Nat, i ≤ q ∧ i ≤ 4 ∧ j = .int .i64 i ∧ Hid (Run w wr (.slice A q c) n m k r)) (fun j _ => q - (intOf j).toNat)
  case atStart => exact ⟨0, by omega, by omega, rfl, H1⟩
  case round =>
    clear H1
    obtain ⟨i, hi, hi4, rfl, HR⟩ := hrel
    have b0 : wr.cell? ⟨w.heap.size, 0, none⟩ = some (.slice A q c) := Blk.cell HR.out.box 0
    by_cases hiq : i < q
    · by_cases h4 : i < 4
      · obtain ⟨ad, rfl, hat⟩ := HF.out i hiq
        have hI := H2.out i hiq
        have hFt := fit8 hI.2 (HW.out trivial i hiq)
        generalize l.getD i noSc = sc at hat hI hFt
        have HAT := Lib.hid (show At w (ad.add (i * 43)) (sarr sc.s sc.x sc.y sc.z).toList from hat)
        have HIN : Hid (∀ W, Below w.heap.size w W → sc.in_ W) := Lib.hid fun W hb => hI.1.kept hb
        have HFT := Lib.hid hFt
        clear hat hI hFt
        obtain ⟨may, hmay⟩ : ∃ q, okB sc.s = q := ⟨_, rfl⟩
        have HMAY := Lib.hid hmay
        have HOK : Hid (may = true → Ok sc.s) := Lib.hid fun h => (ok_iff _).1 (hmay.trans h)
        go_wp2_with (refine wp_loadArg rfl rfl rfl (HAT.out.kept HR.out.bel) ?_)
        refine (refScreen_any sc.s sc.x sc.y sc.z wr (HIN.out _ HR.out.bel) HFT.out.sh (HT.out.kept HR.out.bel)).mono ?_; rintro e w2 ⟨rfl, hb⟩
        rw [hmay]
        have HR2 := Lib.hid (HR.out.kept hb)
        clear hb HR b0 hmay
        have b0 : w2.cell? ⟨w.heap.size, 0, none⟩ = some (.slice (some ad) q c) := Blk.cell HR2.out.box 0
        go_wp2_with (refine wp_loadArg rfl rfl rfl (HAT.out.kept HR2.out.bel) ?_)
        refine (copyScreen_any sc.s sc.x sc.y sc.z w2 (HIN.out _ HR2.out.bel) ⟨HFT.out.l.m, HFT.out.l.o, HFT.out.l.t⟩).mono ?_; rintro e w3 ⟨xi, yi, zi, rfl, ho, hb⟩
        have HO3 := Lib.hid (ho.low (Nat.zero_le _))
        have HM3 : Hid (Ms w (.slice (some ad) q c) n m k r [] [] w3) := Lib.hid ⟨HR2.out.kept hb, (fun p hp => by cases hp), (fun p hp => by cases hp)⟩
        have HL3 : Hid (w.heap.size < w3.heap.size) := Lib.hid (Blk.lt HM3.out.run.box)
        clear ho hb HR2 b0
        go_upto_region 8 with (first
          | (refine wp_allocS (n := w3.heap.size) rfl rfl rfl ?_)
          | (refine wp_storeS_then (b := w3.heap.size) (A := sarr sc.s xi yi zi) (T := Ms w (.slice (some ad) q c) n m k r [(w3.heap.size, ⟨sc.s, xi, yi, zi⟩)] [(0, ⟨sc.s, xi, yi, zi⟩)]) rfl rfl rfl rfl rfl HO3.out.in_.one (heap_alloc_new _ _) rfl (fun _ k => HM3.out.more (e := ⟨sc.s, xi, yi, zi⟩) HO3.out k) ?_; intro w4 H4))
        go_simp
        change Code.wp _ _ _ _ w4
        clear HM3 HO3
        generalize w3.heap.size = b5 at H4 HL3 ⊢
        go_wp2_with (refine wp_loadS (b := b5) (s := sc.s) (x0 := xi) (y0 := yi) (z0 := zi) rfl rfl rfl (H4.out.bx 0 rfl) ?_)
        refine (homeD sc.s xi yi zi w4 (H4.out.ow 0 rfl).in_ HFT.out.h (HT.out.kept H4.out.run.bel)).mono ?_; rintro e w5 ⟨X, x, y, z, cd, rfl, hans⟩
        rw [HMAY.out] at hans
        have HA6 : Hid (cd = codeB may ∧ (may = true → X = homeS sc.s) ∧ (may = false → X = noS ∧ x = nilS ∧ y = nilS ∧ z = nilS)) := Lib.hid ⟨hans.code, hans.yes, hans.no⟩
        have HO6 := Lib.hid hans.own
        have H5 := Lib.hid (H4.out.kept hans.bel)
        have HB6 : Hid (b5 < w4.heap.size ∧ w4.heap.size ≤ w5.heap.size) := Lib.hid ⟨H4.out.lt _ (List.mem_of_getElem? (show [(b5, (Sc.mk sc.s xi yi zi))][0]? = some _ from rfl)), hans.bel.size⟩
        have HI6 := Lib.hid ((H4.out.ow 0 rfl).lt3)
        clear hans H4
        go_upto_region 9 with (first
          | (refine wp_allocS (n := w5.heap.size) rfl rfl rfl ?_)
          | (refine wp_storeS_then (b := w5.heap.size) (A := sarr X x y z) (T := Ms w (.slice (some ad) q c) n m k r ((w5.heap.size, (Sc.mk X x y z)) :: [(b5, (Sc.mk sc.s xi yi zi))]) ((w4.heap.size, (Sc.mk X x y z)) :: [(0, (Sc.mk sc.s xi yi zi))])) rfl rfl rfl rfl rfl HO6.out.in_.one (heap_alloc_new _ _) rfl (fun _ k => H5.out.more (e := (Sc.mk X x y z)) HO6.out k) ?_; intro w6 H6))
        go_simp
        change Code.wp _ _ _ _ w6
        clear HO6 H5
        generalize w5.heap.size = b6 at H6 HB6 ⊢
        generalize w4.heap.size = B6 at H6 HB6 HI6 ⊢
        go_wp2_with (refine wp_loadS (b := b5) (s := sc.s) (x0 := xi) (y0 := yi) (z0 := zi) rfl rfl rfl (H6.out.bx 1 rfl) ?_)
        refine (saveD sc.s xi yi zi w6 (H6.out.ow 1 rfl).in_ HFT.out.h (HT.out.kept H6.out.run.bel)).mono ?_; rintro e w7 ⟨Y, u, v1, t, cf, rfl, hans⟩
        rw [HMAY.out] at hans
        have HA8 : Hid (cf = codeB may ∧ (may = true → Y = saveS sc.s) ∧ (may = false → Y = noS ∧ u = nilS ∧ v1 = nilS ∧ t = nilS)) := Lib.hid ⟨hans.code, hans.yes, hans.no⟩
        have HO8 := Lib.hid hans.own
        have H7 := Lib.hid (H6.out.kept hans.bel)
        have HB8 : Hid (b6 < w6.heap.size ∧ w6.heap.size ≤ w7.heap.size) := Lib.hid ⟨H6.out.lt _ (List.mem_of_getElem? (show [(b6, (Sc.mk X x y z)), (b5, (Sc.mk sc.s xi yi zi))][0]? = some _ from rfl)), hans.bel.size⟩
        have HI8 := Lib.hid ((H6.out.ow 0 rfl).lt3)
        clear hans H6
        go_upto_region 10 with (first
          | (refine wp_allocS (n := w7.heap.size) rfl rfl rfl ?_)
          | (refine wp_storeS_then (b := w7.heap.size) (A := sarr Y u v1 t) (T := Ms w (.slice (some ad) q c) n m k r ((w7.heap.size, (Sc.mk Y u v1 t)) :: [(b6, (Sc.mk X x y z)), (b5, (Sc.mk sc.s xi yi zi))]) ((w6.heap.size, (Sc.mk Y u v1 t)) :: [(B6, (Sc.mk X x y z)), (0, (Sc.mk sc.s xi yi zi))])) rfl rfl rfl rfl rfl HO8.out.in_.one (heap_alloc_new _ _) rfl (fun _ k => H7.out.more (e := (Sc.mk Y u v1 t)) HO8.out k) ?_; intro w8 H8))
        go_simp
        change Code.wp _ _ _ _ w8
        clear HO8 H7
        generalize w7.heap.size = b8 at H8 HB8 ⊢
        generalize w6.heap.size = B8 at H8 HB8 HI8 ⊢
        go_wp2_with (refine wp_loadS (b := b5) (s := sc.s) (x0 := xi) (y0 := yi) (z0 := zi) rfl rfl rfl (H8.out.bx 2 rfl) ?_)
        refine (restoreD sc.s xi yi zi w8 (H8.out.ow 2 rfl).in_ HFT.out.h (HT.out.kept H8.out.run.bel)).mono ?_; rintro e w9 ⟨Z, d1, d2, d3, cg, rfl, hans⟩
        rw [HMAY.out] at hans
        have HA10 : Hid (cg = codeB may ∧ (may = true → Z = restS sc.s) ∧ (may = false → Z = noS ∧ d1 = nilS ∧ d2 = nilS ∧ d3 = nilS)) := Lib.hid ⟨hans.code, hans.yes, hans.no⟩
        have HO10 := Lib.hid hans.own
        have H9 := Lib.hid (H8.out.kept hans.bel)
        have HB10 : Hid (b8 < w8.heap.size ∧ w8.heap.size ≤ w9.heap.size) := Lib.hid ⟨H8.out.lt _ (List.mem_of_getElem? (show [(b8, (Sc.mk Y u v1 t)), (b6, (Sc.mk X x y z)), (b5, (Sc.mk sc.s xi yi zi))][0]? = some _ from rfl)), hans.bel.size⟩
        have HI10 := Lib.hid ((H8.out.ow 0 rfl).lt3)
        clear hans H8
        go_upto_region 11 with (first
          | (refine wp_allocS (n := w9.heap.size) rfl rfl rfl ?_)
          | (refine wp_storeS_then (b := w9.heap.size) (A := sarr Z d1 d2 d3) (T := Ms w (.slice (some ad) q c) n m k r ((w9.heap.size, (Sc.mk Z d1 d2 d3)) :: [(b8, (Sc.mk Y u v1 t)), (b6, (Sc.mk X x y z)), (b5, (Sc.mk sc.s xi yi zi))]) ((w8.heap.size, (Sc.mk Z d1 d2 d3)) :: [(B8, (Sc.mk Y u v1 t)), (B6, (Sc.mk X x y z)), (0, (Sc.mk sc.s xi yi zi))])) rfl rfl rfl rfl rfl HO10.out.in_.one (heap_alloc_new _ _) rfl (fun _ k => H9.out.more (e := (Sc.mk Z d1 d2 d3)) HO10.out k) ?_; intro w10 H10))
        go_simp
        change Code.wp _ _ _ _ w10
        clear HO10 H9
        generalize w9.heap.size = b10 at H10 HB10 ⊢
        generalize w8.heap.size = B10 at H10 HB10 HI10 ⊢
        have HY8 : Hid (Holds Y) := Lib.hid (by
          cases hm : may
          · rw [(HA8.out.2.2 hm).1]; exact no_holds
          · rw [HA8.out.2.1 hm]; exact (saveS_ok (HOK.out hm)).holds)
        go_wp2_with (refine wp_loadS (b := b8) (s := Y) (x0 := u) (y0 := v1) (z0 := t) rfl rfl rfl (H10.out.bx 1 rfl) ?_)
        refine (restoreD Y u v1 t w10 (H10.out.ow 1 rfl).in_ HY8.out (HT.out.kept H10.out.run.bel)).mono ?_; rintro e w11 ⟨KS, k1, k2, k3, ch, rfl, hans⟩
        have HA12 : Hid (may = true → ch = 0 ∧ KS.cur = sc.s.cur) := Lib.hid fun hm => by
          have hy := HA8.out.2.1 hm
          have hok : okB Y = true := by rw [hy]; exact (ok_iff _).2 (saveS_ok (HOK.out hm))
          refine ⟨by rw [hans.code, hok]; rfl, ?_⟩
          rw [hans.yes hok, hy]; exact rest_save _
        have HO12 := Lib.hid (hans.own.low (Nat.zero_le _))
        have H11 := Lib.hid (H10.out.kept hans.bel)
        have HB12 : Hid (b10 < w10.heap.size ∧ w10.heap.size ≤ w11.heap.size) := Lib.hid ⟨H10.out.lt _ (List.mem_of_getElem? (show [(b10, (Sc.mk Z d1 d2 d3)), (b8, (Sc.mk Y u v1 t)), (b6, (Sc.mk X x y z)), (b5, (Sc.mk sc.s xi yi zi))][0]? = some _ from rfl)), hans.bel.size⟩
        clear hans H10 HY8
        generalize w10.heap.size = B12 at HB12 ⊢
        go_upto_if 62 with (first
          | (refine wp_allocS (n := w11.heap.size) rfl rfl rfl ?_)
          | (refine wp_storeS_then (b := w11.heap.size) (A := sarr KS k1 k2 k3) (T := Ms w (.slice (some ad) q c) n m k r ((w11.heap.size, (Sc.mk KS k1 k2 k3)) :: [(b10, (Sc.mk Z d1 d2 d3)), (b8, (Sc.mk Y u v1 t)), (b6, (Sc.mk X x y z)), (b5, (Sc.mk sc.s xi yi zi))]) ((0, (Sc.mk KS k1 k2 k3)) :: [(B10, (Sc.mk Z d1 d2 d3)), (B8, (Sc.mk Y u v1 t)), (B6, (Sc.mk X x y z)), (0, (Sc.mk sc.s xi yi zi))])) rfl rfl rfl rfl rfl HO12.out.in_.one (heap_alloc_new _ _) rfl (fun _ k => H11.out.more (e := (Sc.mk KS k1 k2 k3)) HO12.out k) ?_; intro w12 H12)
          | (refine wp_allocS (n := w12.heap.size) rfl rfl rfl ?_)
          | (refine wp_allocS1 (w := w12) rfl rfl ?_)
          | (refine wp_allocS2 (w := w12) rfl rfl ?_))
        go_simp
        change Code.wp _ _ _ _ (((w12.alloc (.cells zarr 36)).alloc (.cells zarr 36)).alloc (.cells zarr 36))
        have HL12 : Hid (w11.heap.size < w12.heap.size) := Lib.hid (H12.out.lt _ List.mem_cons_self)
        clear HO12 H11
        generalize w11.heap.size = b12 at H12 HB12 HL12 ⊢
        have H13 := Lib.hid H12.out.fresh3
        have HSZ : Hid ((((w12.alloc (.cells zarr 36)).alloc (.cells zarr 36)).alloc (.cells zarr 36)).heap.size = w12.heap.size + 3) := Lib.hid (by simp)
        clear H12
        generalize ((w12.alloc (.cells zarr 36)).alloc (.cells zarr 36)).alloc (.cells zarr 36) = w13 at H13 HSZ ⊢
        generalize w12.heap.size = b14 at H13 HL12 HSZ ⊢
        have HN : Hid (b5 < B6 ∧ B6 ≤ b6 ∧ b6 < B8 ∧ B8 ≤ b8 ∧ b8 < B10 ∧ B10 ≤ b10 ∧ b10 < B12 ∧ B12 ≤ b12 ∧ b12 < b14 ∧ w.heap.size < b5) := Lib.hid ⟨HB6.out.1, HB6.out.2, HB8.out.1, HB8.out.2, HB10.out.1, HB10.out.2, HB12.out.1, HB12.out.2, HL12.out, HL3.out⟩
        clear HB6 HB8 HB10 HB12 HL12 HL3
        go_cut [62] from 62 to 94 (fun _ wx => ∃ E14 E15 E16 : Sc, Hid (Ms w (.slice (some ad) q c) n m k r ((b14 + 2, E16) :: (b14 + 1, E15) :: (b14, E14) :: ((b12, (Sc.mk KS k1 k2 k3)) :: [(b10, (Sc.mk Z d1 d2 d3)), (b8, (Sc.mk Y u v1 t)), (b6, (Sc.mk X x y z)), (b5, (Sc.mk sc.s xi yi zi))])) ((b14 + 3, E16) :: (b14 + 3, E15) :: (b14 + 3, E14) :: ((0, (Sc.mk KS k1 k2 k3)) :: [(B10, (Sc.mk Z d1 d2 d3)), (B8, (Sc.mk Y u v1 t)), (B6, (Sc.mk X x y z)), (0, (Sc.mk sc.s xi yi zi))])) wx) ∧ Hid (may = true → E14.s = homeS sc.s ∧ E15.s = saveS sc.s ∧ E16.s = restS sc.s) ∧ Hid (b14 + 3 ≤ wx.heap.size))
        case first =>
          cases may
          · go_wp2_with fail
            go_meet
            exact ⟨noE, noE, noE, Lib.hid (((H13.out.nils (b14 + 3)).nils (b14 + 3)).nils (b14 + 3)), Lib.hid (fun h => by cases h), Lib.hid (Nat.le_of_eq HSZ.out.symm)⟩
          · have HOKT := Lib.hid (HOK.out rfl)
            have HQ : Hid (∀ W, Run w W (.slice (some ad) q c) n m k r → W.cell? ⟨w.heap.size, 0, none⟩ = some (.slice (some ad) q c) ∧ Hid (Below w.heap.size w W)) := Lib.hid fun W h => ⟨Blk.cell h.box 0, Lib.hid h.bel⟩
            have q0 := HQ.out _ (H13.out.kept (Below.refl _ _).drew).run
            have HKK := Lib.hid (HA12.out rfl)
            clear HA6 HA8 HA10 HA12 HOK
            go_upto_region 14 with (fail)
            refine wp_region_held_drew (S := fun w' => w'.cell? ⟨w.heap.size, 0, none⟩ = some (.slice (some ad) q c) ∧ Hid (Below w.heap.size w w')) (by kernel_rfl) q0 (fun hHeld => ?_)
            have H13 := Lib.hid (H13.out.kept (Below.refl _ _).drew)
            have HBD : Hid (b14 + 3 ≤ w13.drew.heap.size) := Lib.hid (Nat.le_of_eq HSZ.out.symm)
            generalize w13.drew = wd at H13 q0 HBD ⊢
            refine wpAnyH_take (i := 0) (v := ?_) rfl (by kernel_rfl) (by kernel_rfl) (by kernel_rfl) (fun _ _ _ h => h) (Or.inl ⟨by rfl, ?_⟩) (by assumption) ?_
            rotate_left
            · intro w' hSw; first | (go_simp; done) | (go_simp; with_reducible rfl)
            simp only [Act.put, List.getElem_toArray, List.getElem_cons_zero, List.setIfInBounds_toArray, List.set_cons_zero, List.set_cons_succ]
            refine wpAnyH_take (i := 1) (v := ?_) rfl (by kernel_rfl) (by kernel_rfl) (by kernel_rfl) (fun _ _ _ h => h) (Or.inl ⟨by rfl, ?_⟩) (by assumption) ?_
            rotate_left
            · intro w' hSw; first | (go_simp; done) | (go_simp; with_reducible rfl)
            simp only [Act.put, List.getElem_toArray, List.getElem_cons_zero, List.getElem_cons_succ, List.setIfInBounds_toArray, List.set_cons_zero, List.set_cons_succ]
            refine wpAnyH_take (i := 2) (v := ?_) rfl (by kernel_rfl) (by kernel_rfl) (by kernel_rfl) (fun _ _ _ h => h) (Or.inl ⟨by rfl, ?_⟩) (by assumption) ?_
            rotate_left
            · intro w' hSw; first | (go_simp; done) | (go_simp; with_reducible rfl)
            simp only [Act.put, List.getElem_toArray, List.getElem_cons_zero, List.getElem_cons_succ, List.setIfInBounds_toArray, List.set_cons_zero, List.set_cons_succ]
            refine wpAnyH_take (i := 3) (v := ?_) rfl (by kernel_rfl) (by kernel_rfl) (by kernel_rfl) (fun _ _ _ h => h) (Or.inl ⟨by rfl, ?_⟩) (by assumption) ?_
            rotate_left
            · intro w' hSw; first | (go_simp; done) | (go_simp; with_reducible rfl)
            simp only [Act.put, List.getElem_toArray, List.getElem_cons_zero, List.getElem_cons_succ, List.setIfInBounds_toArray, List.set_cons_zero, List.set_cons_succ]
            refine wpAnyH_take (i := 4) (v := sv sc.s sc.x sc.y sc.z) rfl (by kernel_rfl) (by kernel_rfl) (by kernel_rfl) (fun _ _ _ h => h) (yields_loadS rfl rfl rfl (fun w' hS => HAT.out.kept hS.2.out)) (by assumption) ?_
            simp only [Act.put, List.getElem_toArray, List.getElem_cons_zero, List.getElem_cons_succ, List.setIfInBounds_toArray, List.set_cons_zero, List.set_cons_succ]
            refine wpAnyH_take (i := 6) (v := ?_) rfl (by kernel_rfl) (by kernel_rfl) (by kernel_rfl) (fun _ _ _ h => h) (Or.inl ⟨by rfl, ?_⟩) (by assumption) ?_
            rotate_left
            · intro w' hSw; first | (go_simp; done) | (go_simp; with_reducible rfl)
            simp only [Act.put, List.getElem_toArray, List.getElem_cons_zero, List.getElem_cons_succ, List.setIfInBounds_toArray, List.set_cons_zero, List.set_cons_succ]
            refine wpAnyH_take (i := 7) (v := ?_) rfl (by kernel_rfl) (by kernel_rfl) (by kernel_rfl) (fun _ _ _ h => h) (Or.inl ⟨by rfl, ?_⟩) (by assumption) ?_
            rotate_left
            · intro w' hSw; first | (go_simp; done) | (go_simp; with_reducible rfl)
            simp only [Act.put, List.getElem_toArray, List.getElem_cons_zero, List.getElem_cons_succ, List.setIfInBounds_toArray, List.set_cons_zero, List.set_cons_succ]
            refine wpAnyH_take (i := 8) (v := ?_) rfl (by kernel_rfl) (by kernel_rfl) (by kernel_rfl) (fun _ _ _ h => h) (Or.inl ⟨by rfl, ?_⟩) (by assumption) ?_
            rotate_left
            · intro w' hSw; first | (go_simp; done) | (go_simp; with_reducible rfl)
            simp only [Act.put, List.getElem_toArray, List.getElem_cons_zero, List.getElem_cons_succ, List.setIfInBounds_toArray, List.set_cons_zero, List.set_cons_succ]
            refine wpAnyH_take (i := 9) (v := ?_) rfl (by kernel_rfl) (by kernel_rfl) (by kernel_rfl) (fun _ _ _ h => h) (Or.inl ⟨by rfl, ?_⟩) (by assumption) ?_
            rotate_left
            · intro w' hSw; first | (go_simp; done) | (go_simp; with_reducible rfl)
            simp only [Act.put, List.getElem_toArray, List.getElem_cons_zero, List.getElem_cons_succ, List.setIfInBounds_toArray, List.set_cons_zero, List.set_cons_succ]
            refine wpAnyH_take (i := 10) (v := sv sc.s sc.x sc.y sc.z) rfl (by kernel_rfl) (by kernel_rfl) (by kernel_rfl) (fun _ _ _ h => h) (yields_loadS rfl rfl rfl (fun w' hS => HAT.out.kept hS.2.out)) (by assumption) ?_
            simp only [Act.put, List.getElem_toArray, List.getElem_cons_zero, List.getElem_cons_succ, List.setIfInBounds_toArray, List.set_cons_zero, List.set_cons_succ]
            refine wpAnyH_take (i := 12) (v := ?_) rfl (by kernel_rfl) (by kernel_rfl) (by kernel_rfl) (fun _ _ _ h => h) (Or.inl ⟨by rfl, ?_⟩) (by assumption) ?_
            rotate_left
            · intro w' hSw; first | (go_simp; done) | (go_simp; with_reducible rfl)
            simp only [Act.put, List.getElem_toArray, List.getElem_cons_zero, List.getElem_cons_succ, List.setIfInBounds_toArray, List.set_cons_zero, List.set_cons_succ]
            refine wpAnyH_take (i := 13) (v := ?_) rfl (by kernel_rfl) (by kernel_rfl) (by kernel_rfl) (fun _ _ _ h => h) (Or.inl ⟨by rfl, ?_⟩) (by assumption) ?_
            rotate_left
            · intro w' hSw; first | (go_simp; done) | (go_simp; with_reducible rfl)
            simp only [Act.put, List.getElem_toArray, List.getElem_cons_zero, List.getElem_cons_succ, List.setIfInBounds_toArray, List.set_cons_zero, List.set_cons_succ]
            refine wpAnyH_take (i := 14) (v := ?_) rfl (by kernel_rfl) (by kernel_rfl) (by kernel_rfl) (fun _ _ _ h => h) (Or.inl ⟨by rfl, ?_⟩) (by assumption) ?_
            rotate_left
            · intro w' hSw; first | (go_simp; done) | (go_simp; with_reducible rfl)
            simp only [Act.put, List.getElem_toArray, List.getElem_cons_zero, List.getElem_cons_succ, List.setIfInBounds_toArray, List.set_cons_zero, List.set_cons_succ]
            refine wpAnyH_take (i := 15) (v := ?_) rfl (by kernel_rfl) (by kernel_rfl) (by kernel_rfl) (fun _ _ _ h => h) (Or.inl ⟨by rfl, ?_⟩) (by assumption) ?_
            rotate_left
            · intro w' hSw; first | (go_simp; done) | (go_simp; with_reducible rfl)
            simp only [Act.put, List.getElem_toArray, List.getElem_cons_zero, List.getElem_cons_succ, List.setIfInBounds_toArray, List.set_cons_zero, List.set_cons_succ]
            refine wpAnyH_take (i := 16) (v := sv sc.s sc.x sc.y sc.z) rfl (by kernel_rfl) (by kernel_rfl) (by kernel_rfl) (fun _ _ _ h => h) (yields_loadS rfl rfl rfl (fun w' hS => HAT.out.kept hS.2.out)) (by assumption) ?_
            simp only [Act.put, List.getElem_toArray, List.getElem_cons_zero, List.getElem_cons_succ, List.setIfInBounds_toArray, List.set_cons_zero, List.set_cons_succ]
            refine wpAnyH_ready (rs := [5]) (by kernel_rfl) (by simp) ?_
            refine AllReadyH.cons rfl (fun K hK => ?_) AllReadyH.nil
            go_simp
            go_at_call 40
            refine (refHome_any sc.s sc.x sc.y sc.z wd (HIN.out _ H13.out.run.bel) HOKT.out).mono ?_; rintro e w14 ⟨x14, y14, z14, rfl, ho, hb⟩
            have HO14 := Lib.hid (ho.low HBD.out)
            have HBD := Lib.hid (Nat.le_trans HBD.out hb.size)
            have H14 := Lib.hid (H13.out.kept hb)
            have q14 := HQ.out _ H14.out.run
            clear ho hb
            refine hK.out _ _ q14 (fun hHeld => ?_)
            clear hK K
            refine wpAnyH_ready (rs := [11]) (by kernel_rfl) (by simp) ?_
            refine AllReadyH.cons rfl (fun K hK => ?_) AllReadyH.nil
            go_simp
            go_at_call 41
            refine (refSave_any sc.s sc.x sc.y sc.z w14 (HIN.out _ H14.out.run.bel) HOKT.out).mono ?_; rintro e w15 ⟨x15, y15, z15, rfl, ho, hb⟩
            have HO15 := Lib.hid (ho.low HBD.out)
            have HBD := Lib.hid (Nat.le_trans HBD.out hb.size)
            have H15 := Lib.hid (H14.out.kept hb)
            have q15 := HQ.out _ H15.out.run
            have HO14 := Lib.hid (HO14.out.kept hb)
            clear ho hb
            refine hK.out _ _ q15 (fun hHeld => ?_)
            clear hK K
            refine wpAnyH_ready (rs := [17]) (by kernel_rfl) (by simp) ?_
            refine AllReadyH.cons rfl (fun K hK => ?_) AllReadyH.nil
            go_simp
            go_at_call 42
            refine (refRestore_any sc.s sc.x sc.y sc.z w15 (HIN.out _ H15.out.run.bel) HOKT.out).mono ?_; rintro e w16 ⟨x16, y16, z16, rfl, ho, hb⟩
            have HO16 := Lib.hid (ho.low HBD.out)
            have HBD := Lib.hid (Nat.le_trans HBD.out hb.size)
            have H16 := Lib.hid (H15.out.kept hb)
            have q16 := HQ.out _ H16.out.run
            have HO14 := Lib.hid (HO14.out.kept hb)
            have HO15 := Lib.hid (HO15.out.kept hb)
            clear ho hb
            refine hK.out _ _ q16 (fun hHeld => ?_)
            clear hK K
            refine wpAnyH_ready (rs := [18]) (by kernel_rfl) (by simp) ?_
            refine AllReadyH.cons rfl (fun K hK => ?_) AllReadyH.nil
            refine step_storeS (b := b14) (A := sarr (homeS sc.s) x14 y14 z14) rfl rfl rfl rfl rfl HO14.out.in_.one (H16.out.bx 2 rfl) rfl ?_; intro wt0 ht
            have HT0 : Hid (Ms w (.slice (some ad) q c) n m k r ((b14 + 2, noE) :: (b14 + 1, noE) :: (b14, (Sc.mk (homeS sc.s) x14 y14 z14)) :: ((b12, (Sc.mk KS k1 k2 k3)) :: [(b10, (Sc.mk Z d1 d2 d3)), (b8, (Sc.mk Y u v1 t)), (b6, (Sc.mk X x y z)), (b5, (Sc.mk sc.s xi yi zi))])) ((b14 + 3, (Sc.mk (homeS sc.s) x14 y14 z14)) :: ((0, (Sc.mk KS k1 k2 k3)) :: [(B10, (Sc.mk Z d1 d2 d3)), (B8, (Sc.mk Y u v1 t)), (B6, (Sc.mk X x y z)), (0, (Sc.mk sc.s xi yi zi))])) wt0) := Lib.hid (H16.out.put (H16.out.bx 2 rfl) (by have := HN.out; omega) (e := (Sc.mk (homeS sc.s) x14 y14 z14)) HO14.out ht (fun p hp => by
              have hn := HN.out
              simp only [List.mem_cons, List.not_mem_nil, or_false] at hp ⊢
              rcases hp with rfl | rfl | rfl | rfl | rfl | rfl | rfl | rfl
              all_goals first
                | exact .inl rfl
                | exact .inr ⟨by simp, by dsimp only; omega⟩))
            have HBD := Lib.hid (show b14 + 3 ≤ wt0.heap.size by rw [ht.size]; exact HBD.out)
            have HO15 := Lib.hid (ht.own2 (H16.out.bx 2 rfl) HO15.out)
            have HO16 := Lib.hid (ht.own2 (H16.out.bx 2 rfl) HO16.out)
            have qt0 := HQ.out _ HT0.out.run
            refine hK.out _ _ qt0 (fun hHeld => ?_)
            clear hK K
            refine wpAnyH_ready (rs := [19]) (by kernel_rfl) (by simp) ?_
            refine AllReadyH.cons rfl (fun K hK => ?_) AllReadyH.nil
            refine step_storeS (b := b14 + 1) (A := sarr (saveS sc.s) x15 y15 z15) rfl rfl rfl rfl rfl HO15.out.in_.one (HT0.out.bx 1 rfl) rfl ?_; intro wt1 ht
            have HT1 : Hid (Ms w (.slice (some ad) q c) n m k r ((b14 + 2, noE) :: (b14 + 1, (Sc.mk (saveS sc.s) x15 y15 z15)) :: (b14, (Sc.mk (homeS sc.s) x14 y14 z14)) :: ((b12, (Sc.mk KS k1 k2 k3)) :: [(b10, (Sc.mk Z d1 d2 d3)), (b8, (Sc.mk Y u v1 t)), (b6, (Sc.mk X x y z)), (b5, (Sc.mk sc.s xi yi zi))])) ((b14 + 3, (Sc.mk (saveS sc.s) x15 y15 z15)) :: ((b14 + 3, (Sc.mk (homeS sc.s) x14 y14 z14)) :: ((0, (Sc.mk KS k1 k2 k3)) :: [(B10, (Sc.mk Z d1 d2 d3)), (B8, (Sc.mk Y u v1 t)), (B6, (Sc.mk X x y z)), (0, (Sc.mk sc.s xi yi zi))]))) wt1) := Lib.hid (HT0.out.put (HT0.out.bx 1 rfl) (by have := HN.out; omega) (e := (Sc.mk (saveS sc.s) x15 y15 z15)) HO15.out ht (fun p hp => by
              have hn := HN.out
              simp only [List.mem_cons, List.not_mem_nil, or_false] at hp ⊢
              rcases hp with rfl | rfl | rfl | rfl | rfl | rfl | rfl | rfl
              all_goals first
                | exact .inl rfl
                | exact .inr ⟨by simp, by dsimp only; omega⟩))
            have HBD := Lib.hid (show b14 + 3 ≤ wt1.heap.size by rw [ht.size]; exact HBD.out)
            have HO16 := Lib.hid (ht.own2 (HT0.out.bx 1 rfl) HO16.out)
            have qt1 := HQ.out _ HT1.out.run
            refine hK.out _ _ qt1 (fun hHeld => ?_)
            clear hK K
            refine wpAnyH_ready (rs := [20]) (by kernel_rfl) (by simp) ?_
            refine AllReadyH.cons rfl (fun K hK => ?_) AllReadyH.nil
            refine step_storeS (b := b14 + 2) (A := sarr (restS sc.s) x16 y16 z16) rfl rfl rfl rfl rfl HO16.out.in_.one (HT1.out.bx 0 rfl) rfl ?_; intro wt2 ht
            have HT2 : Hid (Ms w (.slice (some ad) q c) n m k r ((b14 + 2, (Sc.mk (restS sc.s) x16 y16 z16)) :: (b14 + 1, (Sc.mk (saveS sc.s) x15 y15 z15)) :: (b14, (Sc.mk (homeS sc.s) x14 y14 z14)) :: ((b12, (Sc.mk KS k1 k2 k3)) :: [(b10, (Sc.mk Z d1 d2 d3)), (b8, (Sc.mk Y u v1 t)), (b6, (Sc.mk X x y z)), (b5, (Sc.mk sc.s xi yi zi))])) ((b14 + 3, (Sc.mk (restS sc.s) x16 y16 z16)) :: ((b14 + 3, (Sc.mk (saveS sc.s) x15 y15 z15)) :: ((b14 + 3, (Sc.mk (homeS sc.s) x14 y14 z14)) :: ((0, (Sc.mk KS k1 k2 k3)) :: [(B10, (Sc.mk Z d1 d2 d3)), (B8, (Sc.mk Y u v1 t)), (B6, (Sc.mk X x y z)), (0, (Sc.mk sc.s xi yi zi))])))) wt2) := Lib.hid (HT1.out.put (HT1.out.bx 0 rfl) (by have := HN.out; omega) (e := (Sc.mk (restS sc.s) x16 y16 z16)) HO16.out ht (fun p hp => by
              have hn := HN.out
              simp only [List.mem_cons, List.not_mem_nil, or_false] at hp ⊢
              rcases hp with rfl | rfl | rfl | rfl | rfl | rfl | rfl | rfl
              all_goals first
                | exact .inl rfl
                | exact .inr ⟨by simp, by dsimp only; omega⟩))
            have HBD := Lib.hid (show b14 + 3 ≤ wt2.heap.size by rw [ht.size]; exact HBD.out)
            have qt2 := HQ.out _ HT2.out.run
            refine hK.out _ _ qt2 (fun hHeld => ?_)
            clear hK K
            refine wpAnyH_done (by kernel_rfl) ?_ _
            go_upto_region 15 with (fail)
            have HD := Lib.hid (HT2.out.kept (Below.refl _ _).drew)
            have HBD : Hid (b14 + 3 ≤ wt2.drew.heap.size) := Lib.hid HBD.out
            have HQ2 : Hid (∀ W, Ms w (.slice (some ad) q c) n m k r ((b14 + 2, (Sc.mk (restS sc.s) x16 y16 z16)) :: (b14 + 1, (Sc.mk (saveS sc.s) x15 y15 z15)) :: (b14, (Sc.mk (homeS sc.s) x14 y14 z14)) :: ((b12, (Sc.mk KS k1 k2 k3)) :: [(b10, (Sc.mk Z d1 d2 d3)), (b8, (Sc.mk Y u v1 t)), (b6, (Sc.mk X x y z)), (b5, (Sc.mk sc.s xi yi zi))])) ((b14 + 3, (Sc.mk (restS sc.s) x16 y16 z16)) :: ((b14 + 3, (Sc.mk (saveS sc.s) x15 y15 z15)) :: ((b14 + 3, (Sc.mk (homeS sc.s) x14 y14 z14)) :: ((0, (Sc.mk KS k1 k2 k3)) :: [(B10, (Sc.mk Z d1 d2 d3)), (B8, (Sc.mk Y u v1 t)), (B6, (Sc.mk X x y z)), (0, (Sc.mk sc.s xi yi zi))])))) W → W.cell? ⟨w.heap.size, 0, none⟩ = some (.slice (some ad) q c) ∧ Hid (Below w.heap.size w W) ∧ Hid (SBox W b12 KS k1 k2 k3)) := Lib.hid fun W h => ⟨Blk.cell h.run.box 0, Lib.hid h.run.bel, Lib.hid (h.bx 3 rfl)⟩
            have q20 := HQ2.out _ HD.out
            refine wp_region_held_drew (S := fun w' => w'.cell? ⟨w.heap.size, 0, none⟩ = some (.slice (some ad) q c) ∧ Hid (Below w.heap.size w w') ∧ Hid (SBox w' b12 KS k1 k2 k3)) (by kernel_rfl) q20 (fun hHeld => ?_)
            generalize wt2.drew = wd2 at HD HBD q20 ⊢
            refine wpAnyH_take (i := 0) (v := ?_) rfl (by kernel_rfl) (by kernel_rfl) (by kernel_rfl) (fun _ _ _ h => h) (Or.inl ⟨by rfl, ?_⟩) (by assumption) ?_
            rotate_left
            · intro w' hSw; first | (go_simp; done) | (go_simp; with_reducible rfl)
            simp only [Act.put, List.getElem_toArray, List.getElem_cons_zero, List.setIfInBounds_toArray]
            refine wpAnyH_ready (rs := [1]) (by kernel_rfl) (by simp) ?_
            refine AllReadyH.cons rfl (fun K hK => ?_) AllReadyH.nil
            go_simp
            go_at_call 43
            refine (num10 ch wd2).mono ?_; rintro e wn ⟨rfl, hwn⟩
            rw [hwn]
            clear hwn wn
            refine hK.out _ _ q20 (fun hHeld => ?_)
            clear hK K
            have hch : ch = 0 := HKK.out.1
            subst hch
            refine wpAnyH_take (i := 2) (v := ?_) rfl (by kernel_rfl) (by kernel_rfl) (by kernel_rfl) (fun _ _ _ h => h) (Or.inl ⟨by rfl, ?_⟩) (by assumption) ?_
            rotate_left
            · intro w' hSw; first | (go_simp; done) | (go_simp; with_reducible rfl)
            simp only [Act.put, List.getElem_toArray, List.getElem_cons_zero, List.getElem_cons_succ, List.setIfInBounds_toArray, List.set_cons_zero, List.set_cons_succ]
            refine wpAnyH_take (i := 3) (v := ?_) rfl (by kernel_rfl) (by kernel_rfl) (by kernel_rfl) (fun _ _ _ h => h) (Or.inl ⟨by rfl, ?_⟩) (by assumption) ?_
            rotate_left
            · intro w' hSw; first | (go_simp; done) | (go_simp; with_reducible rfl)
            simp only [Act.put, List.getElem_toArray, List.getElem_cons_zero, List.getElem_cons_succ, List.setIfInBounds_toArray, List.set_cons_zero, List.set_cons_succ]
            refine wpAnyH_take (i := 4) (v := ?_) rfl (by kernel_rfl) (by kernel_rfl) (by kernel_rfl) (fun _ _ _ h => h) (Or.inl ⟨by rfl, ?_⟩) (by assumption) ?_
            rotate_left
            · intro w' hSw; first | (go_simp; done) | (go_simp; with_reducible rfl)
            simp only [Act.put, List.getElem_toArray, List.getElem_cons_zero, List.getElem_cons_succ, List.setIfInBounds_toArray, List.set_cons_zero, List.set_cons_succ]
            refine wpAnyH_take (i := 5) (v := curV sc.s.cur) rfl (by kernel_rfl) (by kernel_rfl) (by kernel_rfl) (fun _ _ _ h => h) (yields_loadK rfl rfl rfl (fun w' hS => (by have t := hS.2.2.out.at7; rw [HKK.out.2] at t; exact t))) (by assumption) ?_
            simp only [Act.put, List.getElem_toArray, List.getElem_cons_zero, List.getElem_cons_succ, List.setIfInBounds_toArray, List.set_cons_zero, List.set_cons_succ]
            refine wpAnyH_take (i := 6) (v := ?_) rfl (by kernel_rfl) (by kernel_rfl) (by kernel_rfl) (fun _ _ _ h => h) (Or.inl ⟨by rfl, ?_⟩) (by assumption) ?_
            rotate_left
            · intro w' hSw; first | (go_simp; done) | (go_simp; with_reducible rfl)
            simp only [Act.put, List.getElem_toArray, List.getElem_cons_zero, List.getElem_cons_succ, List.setIfInBounds_toArray, List.set_cons_zero, List.set_cons_succ]
            refine wpAnyH_take (i := 7) (v := ?_) rfl (by kernel_rfl) (by kernel_rfl) (by kernel_rfl) (fun _ _ _ h => h) (Or.inl ⟨by rfl, ?_⟩) (by assumption) ?_
            rotate_left
            · intro w' hSw; first | (go_simp; done) | (go_simp; with_reducible rfl)
            simp only [Act.put, List.getElem_toArray, List.getElem_cons_zero, List.getElem_cons_succ, List.setIfInBounds_toArray, List.set_cons_zero, List.set_cons_succ]
            refine wpAnyH_take (i := 8) (v := ?_) rfl (by kernel_rfl) (by kernel_rfl) (by kernel_rfl) (fun _ _ _ h => h) (Or.inl ⟨by rfl, ?_⟩) (by assumption) ?_
            rotate_left
            · intro w' hSw; first | (go_simp; done) | (go_simp; with_reducible rfl)
            simp only [Act.put, List.getElem_toArray, List.getElem_cons_zero, List.getElem_cons_succ, List.setIfInBounds_toArray, List.set_cons_zero, List.set_cons_succ]
            refine wpAnyH_take (i := 9) (v := ?_) rfl (by kernel_rfl) (by kernel_rfl) (by kernel_rfl) (fun _ _ _ h => h) (Or.inl ⟨by rfl, ?_⟩) (by assumption) ?_
            rotate_left
            · intro w' hSw; first | (go_simp; done) | (go_simp; with_reducible rfl)
            simp only [Act.put, List.getElem_toArray, List.getElem_cons_zero, List.getElem_cons_succ, List.setIfInBounds_toArray, List.set_cons_zero, List.set_cons_succ]
            refine wpAnyH_take (i := 10) (v := ?_) rfl (by kernel_rfl) (by kernel_rfl) (by kernel_rfl) (fun _ _ _ h => h) (Or.inl ⟨by rfl, ?_⟩) (by assumption) ?_
            rotate_left
            · intro w' hSw; first | (go_simp; done) | (go_simp; with_reducible rfl)
            simp only [Act.put, List.getElem_toArray, List.getElem_cons_zero, List.getElem_cons_succ, List.setIfInBounds_toArray, List.set_cons_zero, List.set_cons_succ]
            refine wpAnyH_take (i := 11) (v := curV sc.s.cur) rfl (by kernel_rfl) (by kernel_rfl) (by kernel_rfl) (fun _ _ _ h => h) (yields_loadK rfl rfl rfl (fun w' hS => loadK (HAT.out.kept hS.2.1.out))) (by assumption) ?_
            simp only [Act.put, List.getElem_toArray, List.getElem_cons_zero, List.getElem_cons_succ, List.setIfInBounds_toArray, List.set_cons_zero, List.set_cons_succ]
            refine wpAnyH_take (i := 12) (v := ?_) rfl (by kernel_rfl) (by kernel_rfl) (by kernel_rfl) (fun _ _ _ h => h) (Or.inl ⟨by rfl, ?_⟩) (by assumption) ?_
            rotate_left
            · intro w' hSw; first | (go_simp; done) | (go_simp; with_reducible rfl)
            simp only [Act.put, List.getElem_toArray, List.getElem_cons_zero, List.getElem_cons_succ, List.setIfInBounds_toArray, List.set_cons_zero, List.set_cons_succ]
            refine wpAnyH_take (i := 13) (v := ?_) rfl (by kernel_rfl) (by kernel_rfl) (by kernel_rfl) (fun _ _ _ h => h) (Or.inl ⟨by rfl, ?_⟩) (by assumption) ?_
            rotate_left
            · intro w' hSw; first | (go_simp; done) | (go_simp; with_reducible rfl)
            simp only [Act.put, List.getElem_toArray, List.getElem_cons_zero, List.getElem_cons_succ, List.setIfInBounds_toArray, List.set_cons_zero, List.set_cons_succ]
            refine wpAnyH_done (by kernel_rfl) ?_ _
            go_wp2_with fail
            go_meet
            exact ⟨(Sc.mk (homeS sc.s) x14 y14 z14), (Sc.mk (saveS sc.s) x15 y15 z15), (Sc.mk (restS sc.s) x16 y16 z16), HD, Lib.hid (fun _ => ⟨rfl, rfl, rfl⟩), HBD⟩
        case rest =>
          obtain ⟨E14, E15, E16, HM, HWN, HBW⟩ := hcut
          rename World => w20
          clear H13 HSZ
          obtain ⟨S14, x14, y14, z14⟩ := E14
          obtain ⟨S15, x15, y15, z15⟩ := E15
          obtain ⟨S16, x16, y16, z16⟩ := E16
          dsimp only at HWN
          have HQ : Hid (∀ O' W, Ms w (.slice (some ad) q c) n m k r ((b14 + 2, (Sc.mk S16 x16 y16 z16)) :: (b14 + 1, (Sc.mk S15 x15 y15 z15)) :: (b14, (Sc.mk S14 x14 y14 z14)) :: ((b12, (Sc.mk KS k1 k2 k3)) :: [(b10, (Sc.mk Z d1 d2 d3)), (b8, (Sc.mk Y u v1 t)), (b6, (Sc.mk X x y z)), (b5, (Sc.mk sc.s xi yi zi))])) O' W → W.cell? ⟨w.heap.size, 0, none⟩ = some (.slice (some ad) q c) ∧ Hid (Below w.heap.size w W) ∧ Hid (SBox W b5 sc.s xi yi zi) ∧ Hid (SBox W b6 X x y z) ∧ Hid (SBox W b8 Y u v1 t) ∧ Hid (SBox W b10 Z d1 d2 d3) ∧ Hid (SBox W b14 S14 x14 y14 z14) ∧ Hid (SBox W (b14 + 1) S15 x15 y15 z15) ∧ Hid (SBox W (b14 + 2) S16 x16 y16 z16)) := Lib.hid fun O' W h =>
            ⟨Blk.cell h.run.box 0, Lib.hid h.run.bel, Lib.hid (h.bx 7 rfl), Lib.hid (h.bx 6 rfl), Lib.hid (h.bx 5 rfl), Lib.hid (h.bx 4 rfl), Lib.hid (h.bx 2 rfl), Lib.hid (h.bx 1 rfl), Lib.hid (h.bx 0 rfl)⟩
          have HSA : Hid (∀ W, Ms w (.slice (some ad) q c) n m k r ((b14 + 2, (Sc.mk S16 x16 y16 z16)) :: (b14 + 1, (Sc.mk S15 x15 y15 z15)) :: (b14, (Sc.mk S14 x14 y14 z14)) :: ((b12, (Sc.mk KS k1 k2 k3)) :: [(b10, (Sc.mk Z d1 d2 d3)), (b8, (Sc.mk Y u v1 t)), (b6, (Sc.mk X x y z)), (b5, (Sc.mk sc.s xi yi zi))])) ((b14 + 3, (Sc.mk S16 x16 y16 z16)) :: (b14 + 3, (Sc.mk S15 x15 y15 z15)) :: (b14 + 3, (Sc.mk S14 x14 y14 z14)) :: ((0, (Sc.mk KS k1 k2 k3)) :: [(B10, (Sc.mk Z d1 d2 d3)), (B8, (Sc.mk Y u v1 t)), (B6, (Sc.mk X x y z)), (0, (Sc.mk sc.s xi yi zi))])) W → B6 ≤ W.heap.size → Calls Tryz.prog 21 #[sv X x y z, .int .i64 cd, .bool may, sv S14 x14 y14 z14, sv sc.s xi yi zi, sv sc.s sc.x sc.y sc.z] W fun e w' => e = .returned (.bool true) ∧ Below B6 W w' ∧ Boxes W w' ∧ Far W w' x y z) := Lib.hid fun W hq hsz =>
            same_any2 may B6 X S14 x y z x14 y14 z14 cd sc.s xi yi zi sc.x sc.y sc.z W hsz HA6.out.1
              (fun h => ⟨(HWN.out h).1.trans (HA6.out.2.1 h).symm, hq.ow 6 rfl, ((HWN.out h).1.trans (HA6.out.2.1 h).symm) ▸ (hq.ow 2 rfl).in_, by rw [HA6.out.2.1 h]; exact (moveS_ok (HOK.out h) 72 1 1).lens8⟩)
              HA6.out.2.2 (fun W' hb => ((hq.ow 7 rfl).keptB (HI6.out.mono (by have := HN.out; omega)) hb).in_) (fun W' hb => HIN.out W' (hq.run.bel.trans (hb.mono (by have := HN.out; omega)))) HFT.out.l
          have HSB : Hid (∀ W, Ms w (.slice (some ad) q c) n m k r ((b14 + 2, (Sc.mk S16 x16 y16 z16)) :: (b14 + 1, (Sc.mk S15 x15 y15 z15)) :: (b14, (Sc.mk S14 x14 y14 z14)) :: ((b12, (Sc.mk KS k1 k2 k3)) :: [(b10, (Sc.mk Z d1 d2 d3)), (b8, (Sc.mk Y u v1 t)), (b6, (Sc.mk X x y z)), (b5, (Sc.mk sc.s xi yi zi))])) [(b14 + 3, (Sc.mk S16 x16 y16 z16)), (b14 + 3, (Sc.mk S15 x15 y15 z15)), (B10, (Sc.mk Z d1 d2 d3)), (B8, (Sc.mk Y u v1 t)), (0, (Sc.mk sc.s xi yi zi))] W → B8 ≤ W.heap.size → Calls Tryz.prog 21 #[sv Y u v1 t, .int .i64 cf, .bool may, sv S15 x15 y15 z15, sv sc.s xi yi zi, sv sc.s sc.x sc.y sc.z] W fun e w' => e = .returned (.bool true) ∧ Below B8 W w' ∧ Boxes W w' ∧ Far W w' u v1 t) := Lib.hid fun W hq hsz =>
            same_any2 may B8 Y S15 u v1 t x15 y15 z15 cf sc.s xi yi zi sc.x sc.y sc.z W hsz HA8.out.1
              (fun h => ⟨(HWN.out h).2.1.trans (HA8.out.2.1 h).symm, hq.ow 3 rfl, ((HWN.out h).2.1.trans (HA8.out.2.1 h).symm) ▸ (hq.ow 1 rfl).in_, by rw [HA8.out.2.1 h]; exact (saveS_ok (HOK.out h)).lens8⟩)
              HA8.out.2.2 (fun W' hb => ((hq.ow 4 rfl).keptB (HI6.out.mono (by have := HN.out; omega)) hb).in_) (fun W' hb => HIN.out W' (hq.run.bel.trans (hb.mono (by have := HN.out; omega)))) HFT.out.l
          have HSC : Hid (∀ W, Ms w (.slice (some ad) q c) n m k r ((b14 + 2, (Sc.mk S16 x16 y16 z16)) :: (b14 + 1, (Sc.mk S15 x15 y15 z15)) :: (b14, (Sc.mk S14 x14 y14 z14)) :: ((b12, (Sc.mk KS k1 k2 k3)) :: [(b10, (Sc.mk Z d1 d2 d3)), (b8, (Sc.mk Y u v1 t)), (b6, (Sc.mk X x y z)), (b5, (Sc.mk sc.s xi yi zi))])) [(b14 + 3, (Sc.mk S16 x16 y16 z16)), (B10, (Sc.mk Z d1 d2 d3)), (0, (Sc.mk sc.s xi yi zi))] W → B10 ≤ W.heap.size → Calls Tryz.prog 21 #[sv Z d1 d2 d3, .int .i64 cg, .bool may, sv S16 x16 y16 z16, sv sc.s xi yi zi, sv sc.s sc.x sc.y sc.z] W fun e w' => e = .returned (.bool true) ∧ Below B10 W w' ∧ Boxes W w' ∧ Far W w' d1 d2 d3) := Lib.hid fun W hq hsz =>
            same_any2 may B10 Z S16 d1 d2 d3 x16 y16 z16 cg sc.s xi yi zi sc.x sc.y sc.z W hsz HA10.out.1
              (fun h => ⟨(HWN.out h).2.2.trans (HA10.out.2.1 h).symm, hq.ow 1 rfl, ((HWN.out h).2.2.trans (HA10.out.2.1 h).symm) ▸ (hq.ow 0 rfl).in_, by rw [HA10.out.2.1 h]; exact (restS_ok (HOK.out h)).lens8⟩)
              HA10.out.2.2 (fun W' hb => ((hq.ow 2 rfl).keptB (HI6.out.mono (by have := HN.out; omega)) hb).in_) (fun W' hb => HIN.out W' (hq.run.bel.trans (hb.mono (by have := HN.out; omega)))) HFT.out.l
          have HD := Lib.hid (HM.out.kept (Below.refl _ _).drew)
          have HBD : Hid (b14 + 3 ≤ w20.drew.heap.size) := Lib.hid HBW.out
          have q0 := HQ.out _ _ HD.out
          go_upto_region 17 with (fail)
          go_cut [134] from 95 to 134 (fun s113 wy => s113 = .bool false ∧ Hid (Run w wy (.slice (some ad) q c) n m k r))
          case first =>
            refine wp_region_held_drew (S := fun W => W.cell? ⟨w.heap.size, 0, none⟩ = some (.slice (some ad) q c) ∧ Hid (Below w.heap.size w W) ∧ Hid (SBox W b5 sc.s xi yi zi) ∧ Hid (SBox W b6 X x y z) ∧ Hid (SBox W b8 Y u v1 t) ∧ Hid (SBox W b10 Z d1 d2 d3) ∧ Hid (SBox W b14 S14 x14 y14 z14) ∧ Hid (SBox W (b14 + 1) S15 x15 y15 z15) ∧ Hid (SBox W (b14 + 2) S16 x16 y16 z16)) (by kernel_rfl) q0 (fun hHeld => ?_)
            clear HM HBW
            generalize w20.drew = wd at HD HBD q0 ⊢
            refine wpAnyH_take (i := 0) (v := sv X x y z) rfl (by kernel_rfl) (by kernel_rfl) (by kernel_rfl) (fun _ _ _ h => h) (yields_loadS rfl rfl rfl (fun w' hS => hS.2.2.2.1.out.at)) (by assumption) ?_
            simp only [Act.put, List.getElem_toArray, List.getElem_cons_zero, List.setIfInBounds_toArray, List.set_cons_zero, List.set_cons_succ]
            refine wpAnyH_take (i := 1) (v := ?_) rfl (by kernel_rfl) (by kernel_rfl) (by kernel_rfl) (fun _ _ _ h => h) (Or.inl ⟨by rfl, ?_⟩) (by assumption) ?_
            rotate_left
            · intro w' hSw; first | (go_simp; done) | (go_simp; with_reducible rfl)
            simp only [Act.put, List.getElem_toArray, List.getElem_cons_zero, List.getElem_cons_succ, List.setIfInBounds_toArray, List.set_cons_zero, List.set_cons_succ]
            refine wpAnyH_take (i := 2) (v := ?_) rfl (by kernel_rfl) (by kernel_rfl) (by kernel_rfl) (fun _ _ _ h => h) (Or.inl ⟨by rfl, ?_⟩) (by assumption) ?_
            rotate_left
            · intro w' hSw; first | (go_simp; done) | (go_simp; with_reducible rfl)
            simp only [Act.put, List.getElem_toArray, List.getElem_cons_zero, List.getElem_cons_succ, List.setIfInBounds_toArray, List.set_cons_zero, List.set_cons_succ]
            refine wpAnyH_take (i := 3) (v := sv S14 x14 y14 z14) rfl (by kernel_rfl) (by kernel_rfl) (by kernel_rfl) (fun _ _ _ h => h) (yields_loadS rfl rfl rfl (fun w' hS => hS.2.2.2.2.2.2.1.out.at)) (by assumption) ?_
            simp only [Act.put, List.getElem_toArray, List.getElem_cons_zero, List.getElem_cons_succ, List.setIfInBounds_toArray, List.set_cons_zero, List.set_cons_succ]
            refine wpAnyH_take (i := 4) (v := sv sc.s xi yi zi) rfl (by kernel_rfl) (by kernel_rfl) (by kernel_rfl) (fun _ _ _ h => h) (yields_loadS rfl rfl rfl (fun w' hS => hS.2.2.1.out.at)) (by assumption) ?_
            simp only [Act.put, List.getElem_toArray, List.getElem_cons_zero, List.getElem_cons_succ, List.setIfInBounds_toArray, List.set_cons_zero, List.set_cons_succ]
            refine wpAnyH_take (i := 5) (v := ?_) rfl (by kernel_rfl) (by kernel_rfl) (by kernel_rfl) (fun _ _ _ h => h) (Or.inl ⟨by rfl, ?_⟩) (by assumption) ?_
            rotate_left
            · intro w' hSw; first | (go_simp; done) | (go_simp; with_reducible rfl)
            simp only [Act.put, List.getElem_toArray, List.getElem_cons_zero, List.getElem_cons_succ, List.setIfInBounds_toArray, List.set_cons_zero, List.set_cons_succ]
            refine wpAnyH_take (i := 6) (v := ?_) rfl (by kernel_rfl) (by kernel_rfl) (by kernel_rfl) (fun _ _ _ h => h) (Or.inl ⟨by rfl, ?_⟩) (by assumption) ?_
            rotate_left
            · intro w' hSw; first | (go_simp; done) | (go_simp; with_reducible rfl)
            simp only [Act.put, List.getElem_toArray, List.getElem_cons_zero, List.getElem_cons_succ, List.setIfInBounds_toArray, List.set_cons_zero, List.set_cons_succ]
            refine wpAnyH_take (i := 7) (v := ?_) rfl (by kernel_rfl) (by kernel_rfl) (by kernel_rfl) (fun _ _ _ h => h) (Or.inl ⟨by rfl, ?_⟩) (by assumption) ?_
            rotate_left
            · intro w' hSw; first | (go_simp; done) | (go_simp; with_reducible rfl)
            simp only [Act.put, List.getElem_toArray, List.getElem_cons_zero, List.getElem_cons_succ, List.setIfInBounds_toArray, List.set_cons_zero, List.set_cons_succ]
            refine wpAnyH_take (i := 8) (v := ?_) rfl (by kernel_rfl) (by kernel_rfl) (by kernel_rfl) (fun _ _ _ h => h) (Or.inl ⟨by rfl, ?_⟩) (by assumption) ?_
            rotate_left
            · intro w' hSw; first | (go_simp; done) | (go_simp; with_reducible rfl)
            simp only [Act.put, List.getElem_toArray, List.getElem_cons_zero, List.getElem_cons_succ, List.setIfInBounds_toArray, List.set_cons_zero, List.set_cons_succ]
            refine wpAnyH_take (i := 9) (v := sv sc.s sc.x sc.y sc.z) rfl (by kernel_rfl) (by kernel_rfl) (by kernel_rfl) (fun _ _ _ h => h) (yields_loadS rfl rfl rfl (fun w' hS => HAT.out.kept hS.2.1.out)) (by assumption) ?_
            simp only [Act.put, List.getElem_toArray, List.getElem_cons_zero, List.getElem_cons_succ, List.setIfInBounds_toArray, List.set_cons_zero, List.set_cons_succ]
            refine wpAnyH_ready (rs := [10]) (by kernel_rfl) (by simp) ?_
            refine AllReadyH.cons rfl (fun K hK => ?_) AllReadyH.nil
            go_simp
            go_at_call 21
            refine (HSA.out wd HD.out (by have := HN.out; have := HBD.out; omega)).mono ?_; rintro e wqA ⟨rfl, hb, hx, hf⟩
            have HA : Hid (Ms w (.slice (some ad) q c) n m k r ((b14 + 2, (Sc.mk S16 x16 y16 z16)) :: (b14 + 1, (Sc.mk S15 x15 y15 z15)) :: (b14, (Sc.mk S14 x14 y14 z14)) :: ((b12, (Sc.mk KS k1 k2 k3)) :: [(b10, (Sc.mk Z d1 d2 d3)), (b8, (Sc.mk Y u v1 t)), (b6, (Sc.mk X x y z)), (b5, (Sc.mk sc.s xi yi zi))])) [(b14 + 3, (Sc.mk S16 x16 y16 z16)), (b14 + 3, (Sc.mk S15 x15 y15 z15)), (B10, (Sc.mk Z d1 d2 d3)), (B8, (Sc.mk Y u v1 t)), (0, (Sc.mk sc.s xi yi zi))] wqA) := Lib.hid (HD.out.after (by have := HN.out; omega) hb hx hf (fun p hp => by
              have hn := HN.out
              simp only [List.mem_cons, List.not_mem_nil, or_false] at hp
              rcases hp with rfl | rfl | rfl | rfl | rfl
              · exact ⟨by simp, .inr (HI8.out.mono (by dsimp only; omega))⟩
              · exact ⟨by simp, .inr (HI8.out.mono (by dsimp only; omega))⟩
              · exact ⟨by simp, .inr (HI8.out.mono (by dsimp only; omega))⟩
              · exact ⟨by simp, .inr (HI8.out.mono (by dsimp only; omega))⟩
              · exact ⟨by simp, .inl (HI6.out.mono (by omega))⟩))
            have HBD := Lib.hid (Nat.le_trans HBD.out hb.size)
            clear hb hx hf
            have qA := HQ.out _ _ HA.out
            refine hK.out _ _ qA (fun hHeld => ?_)
            clear hK K
            refine wpAnyH_take (i := 11) (v := ?_) rfl (by kernel_rfl) (by kernel_rfl) (by kernel_rfl) (fun _ _ _ h => h) (Or.inl ⟨by rfl, ?_⟩) (by assumption) ?_
            rotate_left
            · intro w' hSw; first | (go_simp; done) | (go_simp; with_reducible rfl)
            simp only [Act.put, List.getElem_toArray, List.getElem_cons_zero, List.getElem_cons_succ, List.setIfInBounds_toArray, List.set_cons_zero, List.set_cons_succ]
            refine wpAnyH_take (i := 12) (v := ?_) rfl (by kernel_rfl) (by kernel_rfl) (by kernel_rfl) (fun _ _ _ h => h) (Or.inl ⟨by rfl, ?_⟩) (by assumption) ?_
            rotate_left
            · intro w' hSw; first | (go_simp; done) | (go_simp; with_reducible rfl)
            simp only [Act.put, List.getElem_toArray, List.getElem_cons_zero, List.getElem_cons_succ, List.setIfInBounds_toArray, List.set_cons_zero, List.set_cons_succ]
            refine wpAnyH_take (i := 13) (v := sv Y u v1 t) rfl (by kernel_rfl) (by kernel_rfl) (by kernel_rfl) (fun _ _ _ h => h) (yields_loadS rfl rfl rfl (fun w' hS => hS.2.2.2.2.1.out.at)) (by assumption) ?_
            simp only [Act.put, List.getElem_toArray, List.getElem_cons_zero, List.getElem_cons_succ, List.setIfInBounds_toArray, List.set_cons_zero, List.set_cons_succ]
            refine wpAnyH_take (i := 14) (v := ?_) rfl (by kernel_rfl) (by kernel_rfl) (by kernel_rfl) (fun _ _ _ h => h) (Or.inl ⟨by rfl, ?_⟩) (by assumption) ?_
            rotate_left
            · intro w' hSw; first | (go_simp; done) | (go_simp; with_reducible rfl)
            simp only [Act.put, List.getElem_toArray, List.getElem_cons_zero, List.getElem_cons_succ, List.setIfInBounds_toArray, List.set_cons_zero, List.set_cons_succ]
            refine wpAnyH_take (i := 15) (v := ?_) rfl (by kernel_rfl) (by kernel_rfl) (by kernel_rfl) (fun _ _ _ h => h) (Or.inl ⟨by rfl, ?_⟩) (by assumption) ?_
            rotate_left
            · intro w' hSw; first | (go_simp; done) | (go_simp; with_reducible rfl)
            simp only [Act.put, List.getElem_toArray, List.getElem_cons_zero, List.getElem_cons_succ, List.setIfInBounds_toArray, List.set_cons_zero, List.set_cons_succ]
            refine wpAnyH_take (i := 16) (v := sv S15 x15 y15 z15) rfl (by kernel_rfl) (by kernel_rfl) (by kernel_rfl) (fun _ _ _ h => h) (yields_loadS rfl rfl rfl (fun w' hS => hS.2.2.2.2.2.2.2.1.out.at)) (by assumption) ?_
            simp only [Act.put, List.getElem_toArray, List.getElem_cons_zero, List.getElem_cons_succ, List.setIfInBounds_toArray, List.set_cons_zero, List.set_cons_succ]
            refine wpAnyH_take (i := 17) (v := sv sc.s xi yi zi) rfl (by kernel_rfl) (by kernel_rfl) (by kernel_rfl) (fun _ _ _ h => h) (yields_loadS rfl rfl rfl (fun w' hS => hS.2.2.1.out.at)) (by assumption) ?_
            simp only [Act.put, List.getElem_toArray, List.getElem_cons_zero, List.getElem_cons_succ, List.setIfInBounds_toArray, List.set_cons_zero, List.set_cons_succ]
            refine wpAnyH_take (i := 18) (v := ?_) rfl (by kernel_rfl) (by kernel_rfl) (by kernel_rfl) (fun _ _ _ h => h) (Or.inl ⟨by rfl, ?_⟩) (by assumption) ?_
            rotate_left
            · intro w' hSw; first | (go_simp; done) | (go_simp; with_reducible rfl)
            simp only [Act.put, List.getElem_toArray, List.getElem_cons_zero, List.getElem_cons_succ, List.setIfInBounds_toArray, List.set_cons_zero, List.set_cons_succ]
            refine wpAnyH_take (i := 19) (v := ?_) rfl (by kernel_rfl) (by kernel_rfl) (by kernel_rfl) (fun _ _ _ h => h) (Or.inl ⟨by rfl, ?_⟩) (by assumption) ?_
            rotate_left
            · intro w' hSw; first | (go_simp; done) | (go_simp; with_reducible rfl)
            simp only [Act.put, List.getElem_toArray, List.getElem_cons_zero, List.getElem_cons_succ, List.setIfInBounds_toArray, List.set_cons_zero, List.set_cons_succ]
            refine wpAnyH_take (i := 20) (v := ?_) rfl (by kernel_rfl) (by kernel_rfl) (by kernel_rfl) (fun _ _ _ h => h) (Or.inl ⟨by rfl, ?_⟩) (by assumption) ?_
            rotate_left
            · intro w' hSw; first | (go_simp; done) | (go_simp; with_reducible rfl)
            simp only [Act.put, List.getElem_toArray, List.getElem_cons_zero, List.getElem_cons_succ, List.setIfInBounds_toArray, List.set_cons_zero, List.set_cons_succ]
            refine wpAnyH_take (i := 21) (v := ?_) rfl (by kernel_rfl) (by kernel_rfl) (by kernel_rfl) (fun _ _ _ h => h) (Or.inl ⟨by rfl, ?_⟩) (by assumption) ?_
            rotate_left
            · intro w' hSw; first | (go_simp; done) | (go_simp; with_reducible rfl)
            simp only [Act.put, List.getElem_toArray, List.getElem_cons_zero, List.getElem_cons_succ, List.setIfInBounds_toArray, List.set_cons_zero, List.set_cons_succ]
            refine wpAnyH_take (i := 22) (v := sv sc.s sc.x sc.y sc.z) rfl (by kernel_rfl) (by kernel_rfl) (by kernel_rfl) (fun _ _ _ h => h) (yields_loadS rfl rfl rfl (fun w' hS => HAT.out.kept hS.2.1.out)) (by assumption) ?_
            simp only [Act.put, List.getElem_toArray, List.getElem_cons_zero, List.getElem_cons_succ, List.setIfInBounds_toArray, List.set_cons_zero, List.set_cons_succ]
            refine wpAnyH_ready (rs := [23]) (by kernel_rfl) (by simp) ?_
            refine AllReadyH.cons rfl (fun K hK => ?_) AllReadyH.nil
            go_simp
            go_at_call 21
            refine (HSB.out wqA HA.out (by have := HN.out; have := HBD.out; omega)).mono ?_; rintro e wqB ⟨rfl, hb, hx, hf⟩
            have HB : Hid (Ms w (.slice (some ad) q c) n m k r ((b14 + 2, (Sc.mk S16 x16 y16 z16)) :: (b14 + 1, (Sc.mk S15 x15 y15 z15)) :: (b14, (Sc.mk S14 x14 y14 z14)) :: ((b12, (Sc.mk KS k1 k2 k3)) :: [(b10, (Sc.mk Z d1 d2 d3)), (b8, (Sc.mk Y u v1 t)), (b6, (Sc.mk X x y z)), (b5, (Sc.mk sc.s xi yi zi))])) [(b14 + 3, (Sc.mk S16 x16 y16 z16)), (B10, (Sc.mk Z d1 d2 d3)), (0, (Sc.mk sc.s xi yi zi))] wqB) := Lib.hid (HA.out.after (by have := HN.out; omega) hb hx hf (fun p hp => by
              have hn := HN.out
              simp only [List.mem_cons, List.not_mem_nil, or_false] at hp
              rcases hp with rfl | rfl | rfl
              · exact ⟨by simp, .inr (HI10.out.mono (by dsimp only; omega))⟩
              · exact ⟨by simp, .inr (HI10.out.mono (by dsimp only; omega))⟩
              · exact ⟨by simp, .inl (HI6.out.mono (by omega))⟩))
            have HBD := Lib.hid (Nat.le_trans HBD.out hb.size)
            clear hb hx hf
            have qB := HQ.out _ _ HB.out
            refine hK.out _ _ qB (fun hHeld => ?_)
            clear hK K
            refine wpAnyH_take (i := 24) (v := ?_) rfl (by kernel_rfl) (by kernel_rfl) (by kernel_rfl) (fun _ _ _ h => h) (Or.inl ⟨by rfl, ?_⟩) (by assumption) ?_
            rotate_left
            · intro w' hSw; first | (go_simp; done) | (go_simp; with_reducible rfl)
            simp only [Act.put, List.getElem_toArray, List.getElem_cons_zero, List.getElem_cons_succ, List.setIfInBounds_toArray, List.set_cons_zero, List.set_cons_succ]
            refine wpAnyH_take (i := 25) (v := ?_) rfl (by kernel_rfl) (by kernel_rfl) (by kernel_rfl) (fun _ _ _ h => h) (Or.inl ⟨by rfl, ?_⟩) (by assumption) ?_
            rotate_left
            · intro w' hSw; first | (go_simp; done) | (go_simp; with_reducible rfl)
            simp only [Act.put, List.getElem_toArray, List.getElem_cons_zero, List.getElem_cons_succ, List.setIfInBounds_toArray, List.set_cons_zero, List.set_cons_succ]
            refine wpAnyH_take (i := 26) (v := ?_) rfl (by kernel_rfl) (by kernel_rfl) (by kernel_rfl) (fun _ _ _ h => h) (Or.inl ⟨by rfl, ?_⟩) (by assumption) ?_
            rotate_left
            · intro w' hSw; first | (go_simp; done) | (go_simp; with_reducible rfl)
            simp only [Act.put, List.getElem_toArray, List.getElem_cons_zero, List.getElem_cons_succ, List.setIfInBounds_toArray, List.set_cons_zero, List.set_cons_succ]
            refine wpAnyH_take (i := 27) (v := sv Z d1 d2 d3) rfl (by kernel_rfl) (by kernel_rfl) (by kernel_rfl) (fun _ _ _ h => h) (yields_loadS rfl rfl rfl (fun w' hS => hS.2.2.2.2.2.1.out.at)) (by assumption) ?_
            simp only [Act.put, List.getElem_toArray, List.getElem_cons_zero, List.getElem_cons_succ, List.setIfInBounds_toArray, List.set_cons_zero, List.set_cons_succ]
            refine wpAnyH_take (i := 28) (v := ?_) rfl (by kernel_rfl) (by kernel_rfl) (by kernel_rfl) (fun _ _ _ h => h) (Or.inl ⟨by rfl, ?_⟩) (by assumption) ?_
            rotate_left
            · intro w' hSw; first | (go_simp; done) | (go_simp; with_reducible rfl)
            simp only [Act.put, List.getElem_toArray, List.getElem_cons_zero, List.getElem_cons_succ, List.setIfInBounds_toArray, List.set_cons_zero, List.set_cons_succ]
            refine wpAnyH_take (i := 29) (v := ?_) rfl (by kernel_rfl) (by kernel_rfl) (by kernel_rfl) (fun _ _ _ h => h) (Or.inl ⟨by rfl, ?_⟩) (by assumption) ?_
            rotate_left
            · intro w' hSw; first | (go_simp; done) | (go_simp; with_reducible rfl)
            simp only [Act.put, List.getElem_toArray, List.getElem_cons_zero, List.getElem_cons_succ, List.setIfInBounds_toArray, List.set_cons_zero, List.set_cons_succ]
            refine wpAnyH_take (i := 30) (v := sv S16 x16 y16 z16) rfl (by kernel_rfl) (by kernel_rfl) (by kernel_rfl) (fun _ _ _ h => h) (yields_loadS rfl rfl rfl (fun w' hS => hS.2.2.2.2.2.2.2.2.out.at)) (by assumption) ?_
            simp only [Act.put, List.getElem_toArray, List.getElem_cons_zero, List.getElem_cons_succ, List.setIfInBounds_toArray, List.set_cons_zero, List.set_cons_succ]
            refine wpAnyH_take (i := 31) (v := sv sc.s xi yi zi) rfl (by kernel_rfl) (by kernel_rfl) (by kernel_rfl) (fun _ _ _ h => h) (yields_loadS rfl rfl rfl (fun w' hS => hS.2.2.1.out.at)) (by assumption) ?_
            simp only [Act.put, List.getElem_toArray, List.getElem_cons_zero, List.getElem_cons_succ, List.setIfInBounds_toArray, List.set_cons_zero, List.set_cons_succ]
            refine wpAnyH_take (i := 32) (v := ?_) rfl (by kernel_rfl) (by kernel_rfl) (by kernel_rfl) (fun _ _ _ h => h) (Or.inl ⟨by rfl, ?_⟩) (by assumption) ?_
            rotate_left
            · intro w' hSw; first | (go_simp; done) | (go_simp; with_reducible rfl)
            simp only [Act.put, List.getElem_toArray, List.getElem_cons_zero, List.getElem_cons_succ, List.setIfInBounds_toArray, List.set_cons_zero, List.set_cons_succ]
            refine wpAnyH_take (i := 33) (v := ?_) rfl (by kernel_rfl) (by kernel_rfl) (by kernel_rfl) (fun _ _ _ h => h) (Or.inl ⟨by rfl, ?_⟩) (by assumption) ?_
            rotate_left
            · intro w' hSw; first | (go_simp; done) | (go_simp; with_reducible rfl)
            simp only [Act.put, List.getElem_toArray, List.getElem_cons_zero, List.getElem_cons_succ, List.setIfInBounds_toArray, List.set_cons_zero, List.set_cons_succ]
            refine wpAnyH_take (i := 34) (v := ?_) rfl (by kernel_rfl) (by kernel_rfl) (by kernel_rfl) (fun _ _ _ h => h) (Or.inl ⟨by rfl, ?_⟩) (by assumption) ?_
            rotate_left
            · intro w' hSw; first | (go_simp; done) | (go_simp; with_reducible rfl)
            simp only [Act.put, List.getElem_toArray, List.getElem_cons_zero, List.getElem_cons_succ, List.setIfInBounds_toArray, List.set_cons_zero, List.set_cons_succ]
            refine wpAnyH_take (i := 35) (v := ?_) rfl (by kernel_rfl) (by kernel_rfl) (by kernel_rfl) (fun _ _ _ h => h) (Or.inl ⟨by rfl, ?_⟩) (by assumption) ?_
            rotate_left
            · intro w' hSw; first | (go_simp; done) | (go_simp; with_reducible rfl)
            simp only [Act.put, List.getElem_toArray, List.getElem_cons_zero, List.getElem_cons_succ, List.setIfInBounds_toArray, List.set_cons_zero, List.set_cons_succ]
            refine wpAnyH_take (i := 36) (v := sv sc.s sc.x sc.y sc.z) rfl (by kernel_rfl) (by kernel_rfl) (by kernel_rfl) (fun _ _ _ h => h) (yields_loadS rfl rfl rfl (fun w' hS => HAT.out.kept hS.2.1.out)) (by assumption) ?_
            simp only [Act.put, List.getElem_toArray, List.getElem_cons_zero, List.getElem_cons_succ, List.setIfInBounds_toArray, List.set_cons_zero, List.set_cons_succ]
            refine wpAnyH_ready (rs := [37]) (by kernel_rfl) (by simp) ?_
            refine AllReadyH.cons rfl (fun K hK => ?_) AllReadyH.nil
            go_simp
            go_at_call 21
            refine (HSC.out wqB HB.out (by have := HN.out; have := HBD.out; omega)).mono ?_; rintro e wqC ⟨rfl, hb, hx, hf⟩
            have HC : Hid (Ms w (.slice (some ad) q c) n m k r ((b14 + 2, (Sc.mk S16 x16 y16 z16)) :: (b14 + 1, (Sc.mk S15 x15 y15 z15)) :: (b14, (Sc.mk S14 x14 y14 z14)) :: ((b12, (Sc.mk KS k1 k2 k3)) :: [(b10, (Sc.mk Z d1 d2 d3)), (b8, (Sc.mk Y u v1 t)), (b6, (Sc.mk X x y z)), (b5, (Sc.mk sc.s xi yi zi))])) [] wqC) := Lib.hid (HB.out.after (by have := HN.out; omega) hb hx hf (fun p hp => by cases hp))
            have HBD := Lib.hid (Nat.le_trans HBD.out hb.size)
            clear hb hx hf
            have qC := HQ.out _ _ HC.out
            refine hK.out _ _ qC (fun hHeld => ?_)
            clear hK K
            refine wpAnyH_take (i := 38) (v := ?_) rfl (by kernel_rfl) (by kernel_rfl) (by kernel_rfl) (fun _ _ _ h => h) (Or.inl ⟨by rfl, ?_⟩) (by assumption) ?_
            rotate_left
            · intro w' hSw; first | (go_simp; done) | (go_simp; with_reducible rfl)
            simp only [Act.put, List.getElem_toArray, List.getElem_cons_zero, List.getElem_cons_succ, List.setIfInBounds_toArray, List.set_cons_zero, List.set_cons_succ]
            refine wpAnyH_take (i := 39) (v := ?_) rfl (by kernel_rfl) (by kernel_rfl) (by kernel_rfl) (fun _ _ _ h => h) (Or.inl ⟨by rfl, ?_⟩) (by assumption) ?_
            rotate_left
            · intro w' hSw; first | (go_simp; done) | (go_simp; with_reducible rfl)
            simp only [Act.put, List.getElem_toArray, List.getElem_cons_zero, List.getElem_cons_succ, List.setIfInBounds_toArray, List.set_cons_zero, List.set_cons_succ]
            refine wpAnyH_done (by kernel_rfl) ?_ _
            go_wp2_with fail
            go_meet
            exact ⟨rfl, Lib.hid HC.out.run⟩
          case rest =>
            obtain ⟨rfl, HRn⟩ := hcut
            clear HM HBW HQ HSA HSB HSC HD HBD q0 HWN HA6 HA8 HA10 HI6 HI8 HI10
            go_wp2_with fail
            go_roundw
            case rel => exact ⟨i + 1, by omega, by omega, by go_num, HRn⟩
            case measure => simp [intOf]; omega
      · go_wp2_with fail
        refine (HWK.out wr HR.out.bel).mono ?_; rintro e w2 ⟨rfl, hb⟩
        go_wp2_with fail
        go_ret
        exact ⟨rfl, HR.out.bel.trans (hb.mono HR.out.bel.size)⟩
    · go_wp2_with fail
      refine (HWK.out wr HR.out.bel).mono ?_; rintro e w2 ⟨rfl, hb⟩
      go_wp2_with fail
      go_ret
      exact ⟨rfl, HR.out.bel.trans (hb.mono HR.out.bel.size)⟩
end Scr
end Go.Proofs.YtceaoadlhdgnmaaGreatDoor
end
section
/- Of any screens of bulk at most 1048576 the law 'CursorKeeps' answers true, and leaves them as they were: Home, Save and Restore of each of the first four are the page's, or refused; what was kept is got back. Conditions: the library's two tables of package utf8 hold what its text lays (the card ties them to it). -/
namespace Go.Proofs.YtceaoadlhdgnmaaGreatDoor
set_option maxRecDepth 100000
open Go.ChangeShapes Go.WideShapes Go.ChangeAt Go.RowKit
namespace cursorKeeps

theorem readable : Tryz.prog.readableRec 24 = true := by kernel_rfl
theorem inTable : 24 < Tryz.prog.types.size := of_decide_eq_true (by kernel_rfl)
theorem contract (H : Type) (enc : TypeId × Value → H) (W : World) (base : Nat) (args : Array Value) (ds gs : List (DataW H)) (before : List MemPlace)
    (hval : ∀ (j : Nat) t v, Tryz.f13.params[j]? = some t → args[j]? = some v → Value.okWide Tryz.prog W .any base t v)
    (hW : DataW.Whole enc Tryz.prog Tryz.f13.params.toList Rows.cursorKeepsSpec.vars false W args.toList ds gs before)
    (hsz : (DataW.weightsEach Tryz.prog (Tryz.f13.params.toList ++ (OpenSpec.ofChange Rows.cursorKeepsSpec).bare.plain.varTypes Tryz.prog) (ds ++ gs)).all (· ≤ reachBytes) = true) (hk : Rows.uptoSmall H (ds ++ gs) = true) (hL : laidMetH Tryz.prog Rows.cursorKeepsUptoRow.laid W) :
    Calls Tryz.prog 13 args W fun e W' => ∃ v, e = .returned v ∧ Rows.cursorKeepsSpec.post enc Tryz.prog Tryz.f13 false true false false W args v W' := by
  have hW' := hW
  obtain ⟨p, q, hA0, hV, rfl, hfz, hnd⟩ := hW
  have hA : DataW.TrodAll enc Tryz.prog W 0 (fun _ => true) true Tryz.f13.params.toList args.toList ds p := hA0
  rw [Tryz.params13] at hA hval hsz
  obtain ⟨v0, vs0, d0, ds0, p0, q0, hargs, rfl, rfl, h0, r0⟩ := trodAll_cons hA
  obtain ⟨rfl, rfl, rfl⟩ := trodAll_nil r0
  obtain rfl : args = #[v0] := by cases args; simp_all
  obtain ⟨rfl, rfl⟩ := trodVars_none hV
  simp only [List.append_nil] at hW' h0
  rw [List.append_nil] at hsz hk
  have hbk : Rows.uptoBulk d0 ≤ 1048576 := by
    have h : Rows.uptoBulkAll [d0] ≤ 1048576 := of_decide_eq_true hk
    simp only [Rows.uptoBulkAll] at h
    omega
  obtain ⟨cs, rfl, hF⟩ := RowF.arg_fine (bnd := 1048576) Tryz.underlying24 (hval 0 24 v0 rfl rfl) h0 hsz (.inl hbk)
  obtain ⟨v, n, m, k, r, rfl, _, l, hS, hl⟩ := Scr.open_ask8 hF
  refine (Scr.lawCursorKeeps_any v l n m k r W hS hl (Row.tabs_of_laid hL)).mono fun e W' ⟨he, hB⟩ => ?_
  subst he
  exact ⟨_, rfl, law_post Tryz.laidOut readable inTable Tryz.params13 (by kernel_rfl) Tryz.underlying4 rfl ⟨rfl, rfl, rfl⟩ hW' h0 hB⟩

theorem reads (os : Os) {H : Type} (enc : TypeId × Value → H) : ∃ places, DataW.whole enc Tryz.prog ((Row.laidWorld os).forCall (fun _ _ => 0) ⟨#[], #[.agg #[.slice none 0 0, .int .i64 0, .int .i64 0, .int .i64 0, .int .i64 0]], []⟩).memory Tryz.f13.params.toList Rows.cursorKeepsSpec.vars false #[(.agg #[.slice none 0 0, .int .i64 0, .int .i64 0, .int .i64 0, .int .i64 0] : Value)].toList 8 = some ([.agg [.nil, .lit (.int .i64 0), .lit (.int .i64 0), .lit (.int .i64 0), .lit (.int .i64 0)]], [], places) :=
  ⟨[], by kernel_rfl⟩
set_option maxRecDepth 100000 in
theorem lifted (os : Os) (started : os.Started) (H : Type) (enc : TypeId × Value → H) (F : Stop.Interp) :
    ReturnsInHanded {} Tryz.checked os 13 .any ((Rows.OpenSpec.upto Rows.cursorKeepsSpec).preRow enc Tryz.prog Tryz.f13 Rows.cursorKeepsUptoRow.domain false Rows.cursorKeepsUptoRow.laid) (((Rows.OpenSpec.upto Rows.cursorKeepsSpec).at F).post enc Tryz.prog Tryz.f13 false true false false) := by
  obtain ⟨places, hx⟩ := reads os enc
  refine returnsInHanded_of_row (C := Tryz.checked) (s := Rows.OpenSpec.upto Rows.cursorKeepsSpec) Tryz.own started (by kernel_rfl) Tryz.func13
    (witness_row_at (enc := enc) (C := Tryz.checked) false (Row.laidWorld os) #[.agg #[.slice none 0 0, .int .i64 0, .int .i64 0, .int .i64 0, .int .i64 0]] rfl (by kernel_rfl) (by kernel_rfl) (by kernel_rfl)
      (OpenSpec.preRow_of_cond 8 hx (by kernel_rfl) (fun k hk => by cases hk; kernel_rfl) (by kernel_rfl) (Row.laid_met os _))) ?_
  intro W base args ds gs before hval hW _ hcond hsz hL _ _
  exact contract H enc W base args ds gs before hval hW hsz (hcond _ rfl) hL
theorem said : Rows.CursorKeepsUptoSaid :=
  OpenClaim.holds_of_cond 13 Tryz.f13 rfl rfl rfl rfl rfl rfl rfl ⟨rfl, rfl, rfl, rfl, rfl⟩ rfl rfl rfl rfl rfl (by kernel_rfl) Tryz.func13 (by kernel_rfl)
    (of_decide_eq_true (by kernel_rfl)) (by unfold Func.isWrapper; first | (rw [if_pos (by decide +kernel)]; kernel_rfl) | (rw [if_neg (by decide +kernel)]; exact ⟨rfl, rfl⟩))
    (fun os started H enc _ F => by rw [OpenClaim.pre_eq_preRow]; exact lifted os started H enc F)
/-- No parameter wants a stand-in; the program's own looks are as the card says. -/
theorem plain (f : FuncId) (fn : Func) (hf : Tryz.pinned.checked.prog.funcNamed "beacon/beaconlaw10.CursorKeeps" = some f) (hfn : Tryz.pinned.checked.prog.funcs[f]? = some fn) :
    true = Tryz.pinned.checked.prog.looks [] ∧ ∀ (j : Nat) t, fn.params[j]? = some t → Tryz.pinned.checked.prog.wantsStandIn t = false := by
  obtain rfl : f = 13 := Option.some.inj ((show Tryz.prog.funcNamed "beacon/beaconlaw10.CursorKeeps" = some 13 by kernel_rfl).symm.trans hf) |>.symm
  obtain rfl : fn = Tryz.f13 := (Option.some.inj (Tryz.func13.symm.trans hfn)).symm
  refine ⟨by kernel_rfl, fun j t ht => ?_⟩
  rw [Tryz.params13] at ht
  obtain rfl : t = 24 := by simpa using Array.mem_of_getElem? ht
  exact (show Tryz.prog.wantsStandIn 24 = false by kernel_rfl)
/-- The card. -/
theorem card : Rows.CursorKeepsUptoCardSaid :=
  Claim7.holds_tied_plain_at .later [] _ _ _ _ said (fun _ h => by cases h) (by kernel_rfl) (fun _ h => by cases h) cursorKeepsUpto_row_tie rfl ⟨rfl, rfl⟩ (by kernel_rfl) rfl plain (by kernel_rfl)
end cursorKeeps
end Go.Proofs.YtceaoadlhdgnmaaGreatDoor
end
