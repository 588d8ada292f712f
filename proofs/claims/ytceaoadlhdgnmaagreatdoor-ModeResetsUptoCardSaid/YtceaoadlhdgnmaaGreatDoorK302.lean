/- Joined texts: MdClo, MdWakes. -/
import Derived.Test.YtceaoadlhdgnmaaGreatDoorK301
import Derived.Deep.RegionLaw
import Derived.Deep.RegionHeld3
import Derived.BigRegion
section
/- Modes, margins, resets: the developers' Set, Margins, Soft, Hard, Align, for whatever screen and numbers. -/
namespace Go.Proofs.YtceaoadlhdgnmaaGreatDoor
set_option maxRecDepth 100000
open Go.RowKit
namespace Scr
open Go.Proofs.YtceaoadlhdgnmaaGreatDoor.Row Wid

set_option maxHeartbeats 3200000 in
theorem set_clo (w0 : World) (s : S) (x y z : Value) (p on : Bool) (n : Int) (a1 a2 a3 : Nat) (w : World) (h : Pb w0 s x y z w) (hok : Ok s) (hT : Tabs w0) (h1 : w.cell? ⟨a1, 0, none⟩ = some (.bool p)) (h2 : w.cell? ⟨a2, 0, none⟩ = some (.int .i64 n)) (h3 : w.cell? ⟨a3, 0, none⟩ = some (.bool on)) :
    Calls Tryz.prog 54 #[.pointer (some ⟨w0.heap.size, 0, none⟩), .pointer (some ⟨a1, 0, none⟩), .pointer (some ⟨a2, 0, none⟩), .pointer (some ⟨a3, 0, none⟩)] w fun e w' => e = .returned (.tuple #[]) ∧ ∃ x' y' z', Pb w0 (setS s p n on) x' y' z' w' := by
  have H1 := Lib.hid h
  have HC : Hid (∀ W, Below w.heap.size w W → W.cell? ⟨a1, 0, none⟩ = some (.bool p) ∧ W.cell? ⟨a2, 0, none⟩ = some (.int .i64 n) ∧ W.cell? ⟨a3, 0, none⟩ = some (.bool on)) := Lib.hid fun W hb => ⟨cell_kept hb h1, cell_kept hb h2, cell_kept hb h3⟩
  have HD := Lib.hid (fun W => deedM_any p n W)
  have HDO := Lib.hid (fun x y z W (k : Pb w0 s x y z W) => doM_any w0 s x y z (deedM p n) on W k hok hT (deedM_ok p n))
  have HE : Hid (setS s p n on = doM s on (deedM p n)) := Lib.hid rfl
  rw [HE.out]
  generalize deedM p n = d at HD HDO ⊢
  generalize doM s on d = S2 at HDO ⊢
  obtain ⟨q1, q2, q3⟩ := HC.out w.drew (Below.refl _ _).drew
  clear h hok hT h1 h2 h3 HE
  go_enter Tryz.func54, Tryz.ntmps54
  go_region_law (first
    | (go_simp; go_at_call 56; refine (HD.out _).mono ?_; rintro e wd ⟨rfl, hb⟩; have H2 := Lib.hid (H1.out.kept ((Below.refl _ _).drew.trans hb)); obtain ⟨r1, r2, r3⟩ := HC.out wd ((Below.refl _ _).drew.trans hb); clear hb)
    | (go_simp; go_at_call 55; refine (HDO.out _ _ _ _ H2.out).mono ?_; rintro e we ⟨rfl, x5, y5, z5, hp⟩; have H5 := Lib.hid hp; clear hp))
  all_goals
    go_end0
    exact ⟨rfl, _, _, _, H5.out⟩
/-- A box of one number, of one truth. -/
abbrev nbx (n : Int) : Obj := .cells #[.int .i64 n] 3 (0, 0)
abbrev tbx (p : Bool) : Obj := .cells #[.bool p] 4 (0, 0)
/-- Boxes on the way: the screen's, the answer's. -/
structure Sb (w0 : World) (c : Nat) (s : S) (x y z : Value) (w : World) : Prop where
  bel : Below w0.heap.size w0 w
  b0 : SBox w w0.heap.size s x y z
  bc : w.heap[c]? = some (.cells zarr 36 (0, 0))
  lt : w0.heap.size < c
theorem Sb.kept {w0 w w' : World} {c : Nat} {s : S} {x y z : Value} (h : Sb w0 c s x y z w) (hb : Below w.heap.size w w') : Sb w0 c s x y z w' := ⟨h.bel.trans (hb.mono h.bel.size), h.b0.kept hb, Blk.kept h.bc hb, h.lt⟩
theorem wp_allocS4 {w : World} {o1 o2 o3 o4 : Obj} {ops : Array Oper} {rest : List Oper} {o : Oper} {a : Act} {Q : Exit → Act → World → Prop} (hgd : Region.wanted o (yielded ops a.tmps) = true) (ho : o.op = .alloc 36)
    (k : wpList Tryz.prog ops Q rest (a.put o.dst (.pointer (some ⟨w.heap.size + 4, 0, none⟩))) (((((w.alloc o1).alloc o2).alloc o3).alloc o4).alloc (.cells zarr 36))) : wpList Tryz.prog ops Q (o :: rest) a ((((w.alloc o1).alloc o2).alloc o3).alloc o4) :=
  wp_allocS hgd ho (by simp) k
theorem wp_allocS3 {w : World} {o1 o2 o3 : Obj} {ops : Array Oper} {rest : List Oper} {o : Oper} {a : Act} {Q : Exit → Act → World → Prop} (hgd : Region.wanted o (yielded ops a.tmps) = true) (ho : o.op = .alloc 36)
    (k : wpList Tryz.prog ops Q rest (a.put o.dst (.pointer (some ⟨w.heap.size + 1 + 1 + 1, 0, none⟩))) ((((w.alloc o1).alloc o2).alloc o3).alloc (.cells zarr 36))) : wpList Tryz.prog ops Q (o :: rest) a (((w.alloc o1).alloc o2).alloc o3) :=
  wp_allocS hgd ho (by simp) k
abbrev sbx (s : S) (x y z : Value) : Obj := .cells (sarr s x y z) 36 (0, 0)
abbrev zbx : Obj := .cells zarr 36 (0, 0)
abbrev w5S (w : World) (s : S) (x y z : Value) (p : Bool) (n : Int) (on : Bool) : World := ((((w.alloc (sbx s x y z)).alloc (tbx p)).alloc (nbx n)).alloc (tbx on)).alloc zbx
theorem w5S_facts (w : World) (s : S) (x y z : Value) (p : Bool) (n : Int) (on : Bool) : Sb w (w.heap.size + 4) s x y z (w5S w s x y z p n on) ∧ (w5S w s x y z p n on).cell? ⟨w.heap.size + 1, 0, none⟩ = some (.bool p) ∧ (w5S w s x y z p n on).cell? ⟨w.heap.size + 1 + 1, 0, none⟩ = some (.int .i64 n) ∧ (w5S w s x y z p n on).cell? ⟨w.heap.size + 1 + 1 + 1, 0, none⟩ = some (.bool on) := by
  have h1 := bel_alloc w (sbx s x y z)
  have h2 := bel_alloc (w.alloc (sbx s x y z)) (tbx p)
  have h3 := bel_alloc ((w.alloc (sbx s x y z)).alloc (tbx p)) (nbx n)
  have h4 := bel_alloc (((w.alloc (sbx s x y z)).alloc (tbx p)).alloc (nbx n)) (tbx on)
  have h5 := bel_alloc ((((w.alloc (sbx s x y z)).alloc (tbx p)).alloc (nbx n)).alloc (tbx on)) zbx
  have e2 : (w.alloc (sbx s x y z)).heap.size = w.heap.size + 1 := by simp
  have e3 : ((w.alloc (sbx s x y z)).alloc (tbx p)).heap.size = w.heap.size + 1 + 1 := by simp
  have e4 : (((w.alloc (sbx s x y z)).alloc (tbx p)).alloc (nbx n)).heap.size = w.heap.size + 1 + 1 + 1 := by simp
  have e5 : ((((w.alloc (sbx s x y z)).alloc (tbx p)).alloc (nbx n)).alloc (tbx on)).heap.size = w.heap.size + 4 := by simp
  have x1 : (w.alloc (sbx s x y z)).heap[w.heap.size]? = some (sbx s x y z) := heap_alloc_new _ _
  have x2 : ((w.alloc (sbx s x y z)).alloc (tbx p)).heap[w.heap.size + 1]? = some (tbx p) := by rw [← e2]; exact heap_alloc_new _ _
  have x3 : (((w.alloc (sbx s x y z)).alloc (tbx p)).alloc (nbx n)).heap[w.heap.size + 1 + 1]? = some (nbx n) := by rw [← e3]; exact heap_alloc_new _ _
  have x4 : ((((w.alloc (sbx s x y z)).alloc (tbx p)).alloc (nbx n)).alloc (tbx on)).heap[w.heap.size + 1 + 1 + 1]? = some (tbx on) := by rw [← e4]; exact heap_alloc_new _ _
  have x5 : (w5S w s x y z p n on).heap[w.heap.size + 4]? = some zbx := by show (World.alloc _ _).heap[w.heap.size + 4]? = _; rw [← e5]; exact heap_alloc_new _ _
  exact ⟨⟨h1.trans ((h2.trans ((h3.trans ((h4.trans (h5.mono h4.size)).mono h3.size)).mono h2.size)).mono h1.size), Blk.kept (Blk.kept (Blk.kept (Blk.kept x1 h2) h3) h4) h5, x5, by omega⟩,
    Blk.cell (Blk.kept (Blk.kept (Blk.kept x2 h3) h4) h5) 0, Blk.cell (Blk.kept (Blk.kept x3 h4) h5) 0, Blk.cell (Blk.kept x4 h5) 0⟩
set_option maxHeartbeats 6400000 in
theorem setD (s : S) (x y z : Value) (p on : Bool) (n : Int) (w : World) (h : In w s x y z) (hh : Holds s) (hT : Tabs w) :
    Calls Tryz.prog 17 #[sv s x y z, .bool p, .int .i64 n, .bool on] w fun e w' => ∃ X x' y' z' code, e = .returned (.tuple #[sv X x' y' z', .int .i64 code]) ∧ Ans w w' (okB s && numB n) (setS s p n on) X x' y' z' code := by
  obtain ⟨hS, k1, k2, k3⟩ := w5S_facts w s x y z p n on
  have HS := Lib.hid hS
  have HI := Lib.hid (h.kept hS.bel)
  have HT := Lib.hid (hT.kept hS.bel)
  have HH := Lib.hid hh
  have HC : Hid (∀ W, Below (w5S w s x y z p n on).heap.size (w5S w s x y z p n on) W → W.cell? ⟨w.heap.size + 1, 0, none⟩ = some (.bool p) ∧ W.cell? ⟨w.heap.size + 1 + 1, 0, none⟩ = some (.int .i64 n) ∧ W.cell? ⟨w.heap.size + 1 + 1 + 1, 0, none⟩ = some (.bool on)) := Lib.hid fun W hb => ⟨cell_kept hb k1, cell_kept hb k2, cell_kept hb k3⟩
  clear h hh hT hS
  go_enter Tryz.func17, Tryz.ntmps17
  go_upto_region 1 with (refine wp_allocS4 rfl rfl ?_)
  go_simp
  change Code.wp _ _ _ _ (w5S w s x y z p n on)
  generalize w5S w s x y z p n on = w5 at HS HI HT HC k1 k2 k3 ⊢
  generalize w.heap.size + 1 + 1 + 1 = a3 at HC k3 ⊢
  generalize w.heap.size + 1 + 1 = a2 at HC k2 ⊢
  generalize w.heap.size + 1 = a1 at HC k1 ⊢
  generalize w.heap.size + 4 = c at HS ⊢
  have HCL : Hid (okB s = true → ∀ W x' y' z', Pb w5 s x' y' z' W → Apart x' y' → _) := Lib.hid (fun hok W x' y' z' k _ => set_clo w5 s x' y' z' p on n a1 a2 a3 W k ((ok_iff s).1 hok) HT.out (HC.out W k.bel).1 (HC.out W k.bel).2.1 (HC.out W k.bel).2.2)
  cases hn : numB n
  · have HM : Hid ((okB s && numB n) = false) := Lib.hid (by rw [hn, Bool.and_false])
    go_wp2_with fail
    refine (isCountM_any n w5).mono ?_; rintro e w5' ⟨rfl, rfl⟩
    rw [hn]
    go_wp2_with (refine wp_storeS (b := c) (A := zarr) rfl rfl rfl rfl rfl (sarr_one rfl rfl rfl) HS.out.bc rfl ?_; intro w7 h7)
    refine bodyPost_ret (ret2S (s := noS) (x := nilS) (y := nilS) (z := nilS) rfl rfl h7.box rfl) rfl ?_
    exact ⟨_, _, _, _, _, rfl, ans_no HM.out (h7.below _ _ (Nat.le_of_lt HS.out.lt) HS.out.bel)⟩
  · have HM : Hid ((okB s && numB n) = okB s) := Lib.hid (by rw [hn, Bool.and_true])
    go_wp2_with fail
    refine (isCountM_any n w5).mono ?_; rintro e w5' ⟨rfl, rfl⟩
    rw [hn]
    go_wp2_with (refine wp_loadS (b := w.heap.size) (s := s) rfl rfl rfl HS.out.b0 ?_)
    cases hok : okB s
    · refine (changedM_no _ s x y z _ HI.out HH.out HT.out hok).mono ?_; rintro e w6 ⟨rfl, hb⟩
      have H6 := Lib.hid (HS.out.kept hb)
      clear hb
      go_wp2_with (refine wp_storeS (b := c) (A := zarr) rfl rfl rfl rfl rfl (sarr_one rfl rfl rfl) H6.out.bc rfl ?_; intro w7 h7)
      refine bodyPost_ret (ret2S (s := noS) (x := nilS) (y := nilS) (z := nilS) rfl rfl h7.box rfl) rfl ?_
      exact ⟨_, _, _, _, _, rfl, ans_no (HM.out.trans hok) (h7.below _ _ (Nat.le_of_lt H6.out.lt) H6.out.bel)⟩
    · refine (changedM_set _ _ _ s (setS s p n on) x y z _ HI.out HH.out HT.out hok (HCL.out hok)).mono ?_; rintro e w6 ⟨x6, y6, z6, rfl, ho, hb⟩
      have H6 := Lib.hid (HS.out.kept hb)
      have HO := Lib.hid ho
      have HSZ := Lib.hid HS.out.bel.size
      clear ho hb
      go_wp2_with (refine wp_storeS (b := c) rfl rfl rfl rfl rfl HO.out.in_.one H6.out.bc rfl ?_; intro w9 h9)
      refine bodyPost_ret (ret2S rfl rfl h9.box rfl) rfl ?_
      exact ⟨_, _, _, _, _, rfl, h9.below _ _ (Nat.le_of_lt H6.out.lt) H6.out.bel, Own.low (h9.own2 H6.out.bc HO.out) HSZ.out, by rw [HM.out, hok]; rfl, fun _ => rfl, fun e => by rw [HM.out, hok] at e; cases e⟩
end Scr
end Go.Proofs.YtceaoadlhdgnmaaGreatDoor
end
section
/- The cursor not seen: it wakes the laws on modes. -/
namespace Go.Proofs.YtceaoadlhdgnmaaGreatDoor
set_option maxRecDepth 100000
open Go.RowKit
namespace Scr
open Go.Proofs.YtceaoadlhdgnmaaGreatDoor.Row Wid

def hid12 : S := setS (newS 2 2) true 25 false
theorem hid12_modes : hid12.modes = 1 := by kernel_rfl
theorem num12 (n : Int) (w : World) : Calls Tryz.prog 70 #[.int .i64 n] w fun e w' => e = .returned (.int .i64 n) ∧ w' = w := by
  go_enter Tryz.func70, Tryz.ntmps70
  go_wp2_with fail
  go_ret
  exact ⟨rfl, rfl⟩
set_option maxHeartbeats 3200000 in
theorem wakes12 (w : World) (hT : Tabs w) : Calls Tryz.prog 22 #[] w fun e w' => e = .returned (.bool true) ∧ Below w.heap.size w w' := by
  have HN := Lib.hid (refNew8 2 2 w (by decide) (by decide) (by decide) (by decide))
  have hok0 := newS_ok (r := 2) (c := 2) (by decide) (by decide) (by decide) (by decide)
  have HR2 := Lib.hid (fun x y z W (h : In W (newS 2 2) x y z) (t : Tabs W) => setD (newS 2 2) x y z true false 25 W h hok0.holds t)
  have HMAY : Hid ((okB (newS 2 2) && numB 25) = true) := Lib.hid (by rw [(ok_iff _).2 hok0]; rfl)
  have HL := Lib.hid hid12_modes
  have e2 : setS (newS 2 2) true 25 false = hid12 := rfl
  rw [e2] at HR2
  clear e2 hok0
  generalize (okB (newS 2 2) && numB 25) = may at HR2 HMAY
  generalize hid12 = S2 at HR2 HL
  have HT := Lib.hid hT
  clear hT
  go_enter Tryz.func22, Tryz.ntmps22
  go_wp2_with fail
  refine HN.out.mono ?_; rintro e w1 ⟨x, y, z, rfl, ho, hb⟩
  generalize newS 2 2 = S0 at HR2 ho ⊢
  have H1 := Lib.hid (And.intro ho.in_ hb)
  clear ho hb HN
  go_wp2_with fail
  refine (HR2.out x y z w1 H1.out.1 (HT.out.kept H1.out.2)).mono ?_; rintro e w4 ⟨X, x2, y2, z2, code, rfl, hans⟩
  obtain rfl := hans.yes HMAY.out
  have hcode : code = 0 := by rw [hans.code, HMAY.out]; rfl
  subst hcode
  have HO4 := Lib.hid hans.own
  have HB4 := Lib.hid (H1.out.2.trans (hans.bel.mono H1.out.2.size))
  clear hans H1 HR2
  go_wp2_with (first
    | (refine wp_allocS (n := w4.heap.size) rfl rfl rfl ?_)
    | (refine wp_storeS (b := w4.heap.size) rfl rfl rfl rfl rfl HO4.out.in_.one (heap_alloc_new _ _) rfl ?_; intro w5 h5; obtain ⟨hx5, hb5⟩ := bx_sto (e := ⟨X, x2, y2, z2⟩) HO4.out.in_ h5; have HX5 := Lib.hid hx5; have HB5 := Lib.hid (HB4.out.trans (hb5.mono HB4.out.size)); clear hx5 hb5 h5))
  refine (num12 0 w5).mono ?_; rintro e w6 ⟨rfl, rfl⟩
  have c40 : w6.cell? ⟨w4.heap.size, 40, none⟩ = some (.int .i64 1) := by have k := HX5.out.box.cell 40; rw [sarr_40, HL.out] at k; exact k
  go_wp2_with fail
  go_ret
  exact ⟨rfl, HB5.out⟩
end Scr
end Go.Proofs.YtceaoadlhdgnmaaGreatDoor
end
