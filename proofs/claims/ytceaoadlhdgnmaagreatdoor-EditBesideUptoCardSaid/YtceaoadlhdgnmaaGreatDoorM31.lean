/- Joined texts: ScrRefNew. -/
import Derived.Test.YtceaoadlhdgnmaaGreatDoorM15
import Derived.Test.YtceaoadlhdgnmaaGreatDoorM30
import Derived.Deep.RegionLaw
namespace Go.Proofs.YtceaoadlhdgnmaaGreatDoor
set_option maxRecDepth 100000
section
open Go.RowKit
namespace Scr
open Go.Proofs.YtceaoadlhdgnmaaGreatDoor.Row
theorem step_storeS {w : World} {ops : Array Oper} {o : Oper} {a : Act} {K : Act → World → Prop} {Q : Exit → Act → World → Prop} {E : Prop} {x y : Operand} (hgd : o.guard = none) (ho : o.op = .store 36 x y)
    {b : Nat} {A old : Array Value} (hx : a.eval x = .pointer (some ⟨b, 0, none⟩)) (hy : a.eval y = .agg A) (hA : A.size = 43) (hA1 : A.all (·.oneCell') = true) (hg : w.heap[b]? = some (.cells old 36 (0, 0))) (hold : old.size = 43)
    (hK : ∀ w', Sto w b A w' → K (a.put o.dst undef) w') : if Region.wanted o (yielded ops a.tmps) = true then Oper.wp Tryz.prog o a w K Q else E := by
  have hw : Region.wanted o (yielded ops a.tmps) = true := by simp [Region.wanted, hgd]
  rw [if_pos hw]
  exact wp_store_row 36 x y ho b A hx hy _ old hg (by rw [hA]; exact sizeS) (by rw [hA, hold]) hA1 (hK _ ⟨setRow_heap _ _ _ _ _ _ hg, fun i hi => setRow_other _ _ _ _ hi, size_setRow _ _ _, fun B u hB h => below_setRow h hB _⟩)
theorem refPlain8 (w : World) : Calls Tryz.prog 65 #[] w fun e w' => e = .returned (.agg #[.int .i64 plain.fg, .int .i64 plain.bg, .int .i64 plain.flags]) ∧ Below w.heap.size w w' := by
  go_enter Tryz.func65, Tryz.ntmps65
  go_wp2_with fail
  go_returns
  exact ⟨rfl, by repeat (first | exact Below.refl _ _ | refine Below.alloc ?_ (Nat.le_refl _) _ | refine Below.alloc ?_ (by simp) _ | refine Below.setCell ?_ (by simp) _)⟩
def kall (w : World) (b : Nat) (k : Cur) : World :=
  (((((((((w.setCell ⟨b, 0, none⟩ (.int .i64 k.row)).setCell ⟨b, 1, none⟩ (.int .i64 k.col)).setCell ⟨b, 2, none⟩ (.bool k.wrap)).setCell ⟨b, 3, none⟩ (.int .i64 k.a.fg)).setCell ⟨b, 4, none⟩ (.int .i64 k.a.bg)).setCell ⟨b, 5, none⟩ (.int .i64 k.a.flags)).setCell ⟨b, 6, none⟩ (.int .i64 k.g0)).setCell ⟨b, 7, none⟩ (.int .i64 k.g1)).setCell ⟨b, 8, none⟩ (.int .i64 k.shift)).setCell ⟨b, 9, none⟩ (.bool k.origin)
theorem kall_box {w : World} {b : Nat} (h : w.heap[b]? = some cbox0) (k : Cur) : (kall w b k).heap[b]? = some (.cells #[.int .i64 k.row, .int .i64 k.col, .bool k.wrap, .int .i64 k.a.fg, .int .i64 k.a.bg, .int .i64 k.a.flags, .int .i64 k.g0, .int .i64 k.g1, .int .i64 k.shift, .bool k.origin] 33 (0, 0)) := by
  have h0 : (w.setCell ⟨b, 0, none⟩ (.int .i64 k.row)).heap[b]? = some (.cells #[.int .i64 k.row, .int .i64 0, .bool false, .int .i64 0, .int .i64 0, .int .i64 0, .int .i64 0, .int .i64 0, .int .i64 0, .bool false] 33 (0, 0)) := Blk.set h 0 _
  have h1 : ((w.setCell ⟨b, 0, none⟩ (.int .i64 k.row)).setCell ⟨b, 1, none⟩ (.int .i64 k.col)).heap[b]? = some (.cells #[.int .i64 k.row, .int .i64 k.col, .bool false, .int .i64 0, .int .i64 0, .int .i64 0, .int .i64 0, .int .i64 0, .int .i64 0, .bool false] 33 (0, 0)) := Blk.set h0 1 _
  have h2 : (((w.setCell ⟨b, 0, none⟩ (.int .i64 k.row)).setCell ⟨b, 1, none⟩ (.int .i64 k.col)).setCell ⟨b, 2, none⟩ (.bool k.wrap)).heap[b]? = some (.cells #[.int .i64 k.row, .int .i64 k.col, .bool k.wrap, .int .i64 0, .int .i64 0, .int .i64 0, .int .i64 0, .int .i64 0, .int .i64 0, .bool false] 33 (0, 0)) := Blk.set h1 2 _
  have h3 : ((((w.setCell ⟨b, 0, none⟩ (.int .i64 k.row)).setCell ⟨b, 1, none⟩ (.int .i64 k.col)).setCell ⟨b, 2, none⟩ (.bool k.wrap)).setCell ⟨b, 3, none⟩ (.int .i64 k.a.fg)).heap[b]? = some (.cells #[.int .i64 k.row, .int .i64 k.col, .bool k.wrap, .int .i64 k.a.fg, .int .i64 0, .int .i64 0, .int .i64 0, .int .i64 0, .int .i64 0, .bool false] 33 (0, 0)) := Blk.set h2 3 _
  have h4 : (((((w.setCell ⟨b, 0, none⟩ (.int .i64 k.row)).setCell ⟨b, 1, none⟩ (.int .i64 k.col)).setCell ⟨b, 2, none⟩ (.bool k.wrap)).setCell ⟨b, 3, none⟩ (.int .i64 k.a.fg)).setCell ⟨b, 4, none⟩ (.int .i64 k.a.bg)).heap[b]? = some (.cells #[.int .i64 k.row, .int .i64 k.col, .bool k.wrap, .int .i64 k.a.fg, .int .i64 k.a.bg, .int .i64 0, .int .i64 0, .int .i64 0, .int .i64 0, .bool false] 33 (0, 0)) := Blk.set h3 4 _
  have h5 : ((((((w.setCell ⟨b, 0, none⟩ (.int .i64 k.row)).setCell ⟨b, 1, none⟩ (.int .i64 k.col)).setCell ⟨b, 2, none⟩ (.bool k.wrap)).setCell ⟨b, 3, none⟩ (.int .i64 k.a.fg)).setCell ⟨b, 4, none⟩ (.int .i64 k.a.bg)).setCell ⟨b, 5, none⟩ (.int .i64 k.a.flags)).heap[b]? = some (.cells #[.int .i64 k.row, .int .i64 k.col, .bool k.wrap, .int .i64 k.a.fg, .int .i64 k.a.bg, .int .i64 k.a.flags, .int .i64 0, .int .i64 0, .int .i64 0, .bool false] 33 (0, 0)) := Blk.set h4 5 _
  have h6 : (((((((w.setCell ⟨b, 0, none⟩ (.int .i64 k.row)).setCell ⟨b, 1, none⟩ (.int .i64 k.col)).setCell ⟨b, 2, none⟩ (.bool k.wrap)).setCell ⟨b, 3, none⟩ (.int .i64 k.a.fg)).setCell ⟨b, 4, none⟩ (.int .i64 k.a.bg)).setCell ⟨b, 5, none⟩ (.int .i64 k.a.flags)).setCell ⟨b, 6, none⟩ (.int .i64 k.g0)).heap[b]? = some (.cells #[.int .i64 k.row, .int .i64 k.col, .bool k.wrap, .int .i64 k.a.fg, .int .i64 k.a.bg, .int .i64 k.a.flags, .int .i64 k.g0, .int .i64 0, .int .i64 0, .bool false] 33 (0, 0)) := Blk.set h5 6 _
  have h7 : ((((((((w.setCell ⟨b, 0, none⟩ (.int .i64 k.row)).setCell ⟨b, 1, none⟩ (.int .i64 k.col)).setCell ⟨b, 2, none⟩ (.bool k.wrap)).setCell ⟨b, 3, none⟩ (.int .i64 k.a.fg)).setCell ⟨b, 4, none⟩ (.int .i64 k.a.bg)).setCell ⟨b, 5, none⟩ (.int .i64 k.a.flags)).setCell ⟨b, 6, none⟩ (.int .i64 k.g0)).setCell ⟨b, 7, none⟩ (.int .i64 k.g1)).heap[b]? = some (.cells #[.int .i64 k.row, .int .i64 k.col, .bool k.wrap, .int .i64 k.a.fg, .int .i64 k.a.bg, .int .i64 k.a.flags, .int .i64 k.g0, .int .i64 k.g1, .int .i64 0, .bool false] 33 (0, 0)) := Blk.set h6 7 _
  have h8 : (((((((((w.setCell ⟨b, 0, none⟩ (.int .i64 k.row)).setCell ⟨b, 1, none⟩ (.int .i64 k.col)).setCell ⟨b, 2, none⟩ (.bool k.wrap)).setCell ⟨b, 3, none⟩ (.int .i64 k.a.fg)).setCell ⟨b, 4, none⟩ (.int .i64 k.a.bg)).setCell ⟨b, 5, none⟩ (.int .i64 k.a.flags)).setCell ⟨b, 6, none⟩ (.int .i64 k.g0)).setCell ⟨b, 7, none⟩ (.int .i64 k.g1)).setCell ⟨b, 8, none⟩ (.int .i64 k.shift)).heap[b]? = some (.cells #[.int .i64 k.row, .int .i64 k.col, .bool k.wrap, .int .i64 k.a.fg, .int .i64 k.a.bg, .int .i64 k.a.flags, .int .i64 k.g0, .int .i64 k.g1, .int .i64 k.shift, .bool false] 33 (0, 0)) := Blk.set h7 8 _
  have h9 : ((((((((((w.setCell ⟨b, 0, none⟩ (.int .i64 k.row)).setCell ⟨b, 1, none⟩ (.int .i64 k.col)).setCell ⟨b, 2, none⟩ (.bool k.wrap)).setCell ⟨b, 3, none⟩ (.int .i64 k.a.fg)).setCell ⟨b, 4, none⟩ (.int .i64 k.a.bg)).setCell ⟨b, 5, none⟩ (.int .i64 k.a.flags)).setCell ⟨b, 6, none⟩ (.int .i64 k.g0)).setCell ⟨b, 7, none⟩ (.int .i64 k.g1)).setCell ⟨b, 8, none⟩ (.int .i64 k.shift)).setCell ⟨b, 9, none⟩ (.bool k.origin)).heap[b]? = some (.cells #[.int .i64 k.row, .int .i64 k.col, .bool k.wrap, .int .i64 k.a.fg, .int .i64 k.a.bg, .int .i64 k.a.flags, .int .i64 k.g0, .int .i64 k.g1, .int .i64 k.shift, .bool k.origin] 33 (0, 0)) := Blk.set h8 9 _
  exact h9
theorem kall_below {B b : Nat} {a w : World} (h : Below B a w) (hB : B ≤ b) (k : Cur) : Below B a (kall w b k) :=
  (((((((((h.setCell hB _).setCell hB _).setCell hB _).setCell hB _).setCell hB _).setCell hB _).setCell hB _).setCell hB _).setCell hB _).setCell hB _
theorem sizeK : (Tryz.prog.info? 33).map (·.size) = some 10 := by kernel_rfl
theorem first8 (w : World) : Calls Tryz.prog 78 #[] w fun e w' => e = .returned (curV first) ∧ Below w.heap.size w w' := by
  have HB := Lib.hid (bel_alloc w cbox0)
  have HX : Hid ((w.alloc cbox0).heap[w.heap.size]? = some cbox0) := Lib.hid (heap_alloc_new _ _)
  go_enter Tryz.func78, Tryz.ntmps78
  go_wp2_with fail
  refine (refPlain8 _).mono ?_; rintro e w1 ⟨rfl, hb⟩
  have HX1 := Lib.hid (Blk.kept HX.out hb)
  have HB1 := Lib.hid (HB.out.trans (hb.mono HB.out.size))
  have f0 : ∀ j, w1.frozen? ⟨w.heap.size, j, none⟩ = false := Blk.free HX1.out
  have x0 : w1.cell? ⟨w.heap.size, 0, none⟩ = some (.int .i64 0) := Blk.cell HX1.out 0
  have x1 : w1.cell? ⟨w.heap.size, 1, none⟩ = some (.int .i64 0) := Blk.cell HX1.out 1
  have x2 : w1.cell? ⟨w.heap.size, 2, none⟩ = some (.bool false) := Blk.cell HX1.out 2
  have x3 : w1.cell? ⟨w.heap.size, 3, none⟩ = some (.int .i64 0) := Blk.cell HX1.out 3
  have x4 : w1.cell? ⟨w.heap.size, 4, none⟩ = some (.int .i64 0) := Blk.cell HX1.out 4
  have x5 : w1.cell? ⟨w.heap.size, 5, none⟩ = some (.int .i64 0) := Blk.cell HX1.out 5
  have x6 : w1.cell? ⟨w.heap.size, 6, none⟩ = some (.int .i64 0) := Blk.cell HX1.out 6
  have x7 : w1.cell? ⟨w.heap.size, 7, none⟩ = some (.int .i64 0) := Blk.cell HX1.out 7
  have x8 : w1.cell? ⟨w.heap.size, 8, none⟩ = some (.int .i64 0) := Blk.cell HX1.out 8
  have x9 : w1.cell? ⟨w.heap.size, 9, none⟩ = some (.bool false) := Blk.cell HX1.out 9
  clear hb
  have HF := Lib.hid (kall_box HX1.out first)
  have HB2 := Lib.hid (kall_below HB1.out (Nat.le_refl _) first)
  go_wp2_with fail
  show bodyPost _ _ _ _ _ (kall w1 w.heap.size first)
  clear f0 x0 x1 x2 x3 x4 x5 x6 x7 x8 x9
  generalize kall w1 w.heap.size first = wF at HF HB2 ⊢
  exact bodyPost_ret (results_cell_row rfl _ _ w.heap.size 33 _ (0, 0) _ rfl HF.out Tryz.underlying33 rfl sizeK) rfl ⟨rfl, HB2.out⟩
structure RnC (w0 : World) (r c b : Nat) (X Y : Value) (w : World) : Prop where
  n : NwM w0 r c b X w
  m : OwnCs w (w0.heap.size + 1) Y (news r c plain).flatten
theorem RnC.kept {w0 w w' : World} {r c b : Nat} {X Y : Value} (h : RnC w0 r c b X Y w) (hb : Below w.heap.size w w') : RnC w0 r c b X Y w' := ⟨h.n.kept hb, h.m.kept hb⟩
theorem RnC.cells {w0 w : World} {r c b : Nat} {X Y : Value} (h : RnC w0 r c b X Y w) : w.cell? ⟨b, 0, none⟩ = some (.int .i64 r) ∧ w.cell? ⟨b, 1, none⟩ = some (.int .i64 c) ∧ w.cell? ⟨b, 2, none⟩ = some X :=
  ⟨Blk.cell h.n.bx 0, Blk.cell h.n.bx 1, Blk.cell h.n.bx 2⟩
set_option maxHeartbeats 6400000 in
theorem refNew8 (r c : Nat) (w : World) (h1 : 1 ≤ r) (h2 : r ≤ 40) (h3 : 1 ≤ c) (h4 : c ≤ 40) :
    Calls Tryz.prog 69 #[.int .i64 r, .int .i64 c] w fun e w' => ∃ x y z, e = .returned (sv (newS r c) x y z) ∧ Own w' w.heap.size (newS r c) x y z ∧ Below w.heap.size w w' := by
  have HG := Lib.hid (fun W => refNew_any r c plain W h2 h4)
  rw [← news_flat] at HG
  have HT := Lib.hid (fun W => Tab.stops_any [] c (.slice none 0 0) W (Tab.Bl.nil W) (by simp) (by omega))
  have hsm : (news r c plain).flatten.length ≤ 1600 := by rw [news_flat, List.length_replicate]; exact Nat.mul_le_mul h2 h4
  have HCP := Lib.hid (fun (x : Value) (W : World) (k : Cs W x (news r c plain).flatten) => copyGrid_any (r : Int) (c : Int) (news r c plain).flatten x W k (by omega))
  have hw : IntKind.i64.wrap ((r : Int) - 1) = (r : Int) - 1 := by rw [IntKind.wrap_i64]; omega
  have H0 := Lib.hid (Nw.start w)
  clear h1 h2 h3 h4 hsm
  go_enter Tryz.func69, Tryz.ntmps69
  go_wp2_with (refine wp_allocS (n := w.heap.size) rfl rfl rfl ?_)
  refine (refPlain8 _).mono ?_; rintro e w1 ⟨rfl, hb⟩
  have H1 := Lib.hid (H0.out.kept hb)
  clear hb H0
  go_wp2_with fail
  refine (HG.out _).mono ?_; rintro e w2 ⟨x, rfl, ho, hb⟩
  obtain ⟨Ax, nx, cx, rfl⟩ : ∃ A n c, x = .slice A n c := (by obtain ⟨A, c, e, _⟩ := ho.rm.2; exact ⟨A, _, c, e⟩)
  have H2 := Lib.hid (H1.out.kept hb)
  have H3 := Lib.hid (NwM.make H2.out r c (ho.low H1.out.up))
  clear hb ho H1 H2
  go_upto_region 2 with (fail)
  change Code.wp _ _ _ _ (w2.alloc (gbox r c (.slice Ax nx cx)))
  generalize w2.alloc (gbox r c (.slice Ax nx cx)) = w3 at H3 ⊢
  generalize w2.heap.size = b at H3 ⊢
  have g0 : w3.cell? ⟨b, 0, none⟩ = some (.int .i64 r) := Blk.cell H3.out.bx 0
  have g1 : w3.cell? ⟨b, 1, none⟩ = some (.int .i64 c) := Blk.cell H3.out.bx 1
  have g2 : w3.cell? ⟨b, 2, none⟩ = some (.slice Ax nx cx) := Blk.cell H3.out.bx 2
  go_region_law (first
    | (have h := H7.out; go_simp; go_at_call 117; refine (HT.out w7).mono ?_; rintro e w8 ⟨z, rfl, ho, hb⟩; obtain ⟨Az, nz, cz, rfl⟩ : ∃ A n c, z = .slice A n c := (by obtain ⟨A, c, e, _⟩ := ho.bl.room; exact ⟨A, _, c, e⟩); have HZ := Lib.hid (And.intro (h.kept hb) (ho.low h.n.n.up)); obtain ⟨q0, q1, q2⟩ := HZ.out.1.cells; clear ho hb h;
        rename_i KK hKK; go_simp; refine hKK _ _ ?_; clear hKK KK;
        (first
          | (refine wpAny_take (i := 10) (v := .agg (sarr (newS r c) (.slice Ax nx cx) (.slice Ay ny cy) (.slice Az nz cz))) rfl (by kernel_rfl) (by kernel_rfl) (by kernel_rfl) (fun _ _ _ h => h) (Or.inl ⟨by rfl, fun w => (by go_simp; rfl)⟩) ?_)
          | (refine wpAny_ready (rs := [0]) (by kernel_rfl) (by simp) ?_; refine AllReady.cons rfl (fun K hK => ?_) AllReady.nil; go_simp; refine hK _ _ ?_; clear hK K; refine wpAny_take (i := 10) (v := .agg (sarr (newS r c) (.slice Ax nx cx) (.slice Ay ny cy) (.slice Az nz cz))) rfl (by kernel_rfl) (by kernel_rfl) (by kernel_rfl) (fun _ _ _ h => h) (Or.inl ⟨by rfl, fun w => (by go_simp; rfl)⟩) ?_));
        refine wpAny_ready (rs := [11]) (by kernel_rfl) (by simp) ?_;
        refine AllReady.cons rfl (fun K hK => ?_) AllReady.nil;
        refine step_storeS (b := w.heap.size) (A := sarr (newS r c) (.slice Ax nx cx) (.slice Ay ny cy) (.slice Az nz cz)) rfl rfl rfl rfl rfl (sarr_one rfl rfl rfl) HZ.out.1.n.n.box rfl ?_; intro w9 h9;
        refine hK _ _ ?_; clear hK K)
    | (have h := H6.out; go_simp; go_at_call 78; refine (first8 w6).mono ?_; rintro e w7 ⟨rfl, hb⟩; have H7 := Lib.hid (h.kept hb); obtain ⟨q0, q1, q2⟩ := H7.out.cells; clear hb)
    | (have h := H5.out; go_simp; go_at_call 78; refine (first8 w5).mono ?_; rintro e w6 ⟨rfl, hb⟩; have H6 := Lib.hid (h.kept hb); obtain ⟨q0, q1, q2⟩ := H6.out.cells; clear hb)
    | (have h := H4.out; go_simp; go_at_call 78; refine (first8 w4).mono ?_; rintro e w5 ⟨rfl, hb⟩; have H5 := Lib.hid (h.kept hb); obtain ⟨q0, q1, q2⟩ := H5.out.cells; clear hb)
    | (go_simp; go_at_call 50; refine (HCP.out _ w3.drew (H3.out.kept ((Below.refl _ _).drew)).m.cs).mono ?_; rintro e w4 ⟨y, rfl, ho, hb⟩; obtain ⟨Ay, ny, cy, rfl⟩ : ∃ A n c, y = .slice A n c := (by obtain ⟨A, c, e, _⟩ := ho.rm.2; exact ⟨A, _, c, e⟩); have H4 : Hid (RnC w r c b (.slice Ax nx cx) (.slice Ay ny cy) w4) := Lib.hid ⟨H3.out.kept ((Below.refl _ _).drew.trans hb), ho.low H3.out.n.up⟩; obtain ⟨q0, q1, q2⟩ := H4.out.cells; clear ho hb))
  all_goals
    go_wp2_with fail
    refine bodyPost_ret (ret1S (s := newS r c) rfl rfl h9.box) rfl ?_
    exact ⟨_, _, _, rfl, Own.low (h9.own ⟨HZ.out.1.n.m, HZ.out.1.m, HZ.out.2⟩ (by omega)) (by omega), h9.below _ _ (Nat.le_refl _) HZ.out.1.n.n.bel⟩
end Scr
end
end Go.Proofs.YtceaoadlhdgnmaaGreatDoor
