/- Joined texts: MdClo, MdWakes, MdRef. -/
import Derived.Test.YtceaoadlhdgnmaaGreatDoorM301
import Derived.Deep.RegionLaw
import Derived.Deep.RegionHeld3
import Derived.BigRegion
namespace Go.Proofs.YtceaoadlhdgnmaaGreatDoor
set_option maxRecDepth 100000
section
open Go.RowKit
namespace Scr
open Go.Proofs.YtceaoadlhdgnmaaGreatDoor.Row Wid
set_option maxHeartbeats 3200000 in
theorem set_clo (w0 : World) (s : S) (x y z : Value) (p on : Bool) (n : Int) (a1 a2 a3 : Nat) (w : World) (h : Pb w0 s x y z w) (hok : Ok s) (hT : Tabs w0) (h1 : w.cell? ⟨a1, 0, none⟩ = some (.bool p)) (h2 : w.cell? ⟨a2, 0, none⟩ = some (.int .i64 n)) (h3 : w.cell? ⟨a3, 0, none⟩ = some (.bool on)) :
    Calls Tryz.prog 54 #[.pointer (some ⟨w0.heap.size, 0, none⟩), .pointer (some ⟨a1, 0, none⟩), .pointer (some ⟨a2, 0, none⟩), .pointer (some ⟨a3, 0, none⟩)] w fun e w' => e = .returned (.tuple #[]) ∧ ∃ x' y' z', Pb w0 (setS s p n on) x' y' z' w' := by
  have H1 := Lib.hid h
  have HC : Hid (∀ W, Below w.heap.size w W → W.cell? ⟨a1, 0, none⟩ = some (.bool p) ∧ W.cell? ⟨a2, 0, none⟩ = some (.int .i64 n) ∧ W.cell? ⟨a3, 0, none⟩ = some (.bool on)) := Lib.hid fun W hb => ⟨cell_kept hb h1, cell_kept hb h2, cell_kept hb h3⟩
  have HD := Lib.hid (fun W => deedM_any p n W)
  have HDO := Lib.hid (fun x y z W (k : Pb w0 s x y z W) => doM_any w0 s x y z (deedM p n) on W k hok hT (deedM_ok p n))
  have HE : Hid (setS s p n on = doM s on (deedM p n)) := Lib.hid rfl
  rw [HE.out]
  generalize deedM p n = d at HD HDO ⊢
  generalize doM s on d = S2 at HDO ⊢
  obtain ⟨q1, q2, q3⟩ := HC.out w.drew (Below.refl _ _).drew
  clear h hok hT h1 h2 h3 HE
  go_enter Tryz.func54, Tryz.ntmps54
  go_region_law (first
    | (go_simp; go_at_call 56; refine (HD.out _).mono ?_; rintro e wd ⟨rfl, hb⟩; have H2 := Lib.hid (H1.out.kept ((Below.refl _ _).drew.trans hb)); obtain ⟨r1, r2, r3⟩ := HC.out wd ((Below.refl _ _).drew.trans hb); clear hb)
    | (go_simp; go_at_call 55; refine (HDO.out _ _ _ _ H2.out).mono ?_; rintro e we ⟨rfl, x5, y5, z5, hp⟩; have H5 := Lib.hid hp; clear hp))
  all_goals
    go_end0
    exact ⟨rfl, _, _, _, H5.out⟩
abbrev nbx (n : Int) : Obj := .cells #[.int .i64 n] 3 (0, 0)
abbrev tbx (p : Bool) : Obj := .cells #[.bool p] 4 (0, 0)
structure Sb (w0 : World) (c : Nat) (s : S) (x y z : Value) (w : World) : Prop where
  bel : Below w0.heap.size w0 w
  b0 : SBox w w0.heap.size s x y z
  bc : w.heap[c]? = some (.cells zarr 36 (0, 0))
  lt : w0.heap.size < c
theorem Sb.kept {w0 w w' : World} {c : Nat} {s : S} {x y z : Value} (h : Sb w0 c s x y z w) (hb : Below w.heap.size w w') : Sb w0 c s x y z w' := ⟨h.bel.trans (hb.mono h.bel.size), h.b0.kept hb, Blk.kept h.bc hb, h.lt⟩
theorem wp_allocS4 {w : World} {o1 o2 o3 o4 : Obj} {ops : Array Oper} {rest : List Oper} {o : Oper} {a : Act} {Q : Exit → Act → World → Prop} (hgd : Region.wanted o (yielded ops a.tmps) = true) (ho : o.op = .alloc 36)
    (k : wpList Tryz.prog ops Q rest (a.put o.dst (.pointer (some ⟨w.heap.size + 4, 0, none⟩))) (((((w.alloc o1).alloc o2).alloc o3).alloc o4).alloc (.cells zarr 36))) : wpList Tryz.prog ops Q (o :: rest) a ((((w.alloc o1).alloc o2).alloc o3).alloc o4) :=
  wp_allocS hgd ho (by simp) k
abbrev sbx (s : S) (x y z : Value) : Obj := .cells (sarr s x y z) 36 (0, 0)
abbrev zbx : Obj := .cells zarr 36 (0, 0)
abbrev w5S (w : World) (s : S) (x y z : Value) (p : Bool) (n : Int) (on : Bool) : World := ((((w.alloc (sbx s x y z)).alloc (tbx p)).alloc (nbx n)).alloc (tbx on)).alloc zbx
theorem w5S_facts (w : World) (s : S) (x y z : Value) (p : Bool) (n : Int) (on : Bool) : Sb w (w.heap.size + 4) s x y z (w5S w s x y z p n on) ∧ (w5S w s x y z p n on).cell? ⟨w.heap.size + 1, 0, none⟩ = some (.bool p) ∧ (w5S w s x y z p n on).cell? ⟨w.heap.size + 1 + 1, 0, none⟩ = some (.int .i64 n) ∧ (w5S w s x y z p n on).cell? ⟨w.heap.size + 1 + 1 + 1, 0, none⟩ = some (.bool on) := by
  have h1 := bel_alloc w (sbx s x y z)
  have h2 := bel_alloc (w.alloc (sbx s x y z)) (tbx p)
  have h3 := bel_alloc ((w.alloc (sbx s x y z)).alloc (tbx p)) (nbx n)
  have h4 := bel_alloc (((w.alloc (sbx s x y z)).alloc (tbx p)).alloc (nbx n)) (tbx on)
  have h5 := bel_alloc ((((w.alloc (sbx s x y z)).alloc (tbx p)).alloc (nbx n)).alloc (tbx on)) zbx
  have e2 : (w.alloc (sbx s x y z)).heap.size = w.heap.size + 1 := by simp
  have e3 : ((w.alloc (sbx s x y z)).alloc (tbx p)).heap.size = w.heap.size + 1 + 1 := by simp
  have e4 : (((w.alloc (sbx s x y z)).alloc (tbx p)).alloc (nbx n)).heap.size = w.heap.size + 1 + 1 + 1 := by simp
  have e5 : ((((w.alloc (sbx s x y z)).alloc (tbx p)).alloc (nbx n)).alloc (tbx on)).heap.size = w.heap.size + 4 := by simp
  have x1 : (w.alloc (sbx s x y z)).heap[w.heap.size]? = some (sbx s x y z) := heap_alloc_new _ _
  have x2 : ((w.alloc (sbx s x y z)).alloc (tbx p)).heap[w.heap.size + 1]? = some (tbx p) := by rw [← e2]; exact heap_alloc_new _ _
  have x3 : (((w.alloc (sbx s x y z)).alloc (tbx p)).alloc (nbx n)).heap[w.heap.size + 1 + 1]? = some (nbx n) := by rw [← e3]; exact heap_alloc_new _ _
  have x4 : ((((w.alloc (sbx s x y z)).alloc (tbx p)).alloc (nbx n)).alloc (tbx on)).heap[w.heap.size + 1 + 1 + 1]? = some (tbx on) := by rw [← e4]; exact heap_alloc_new _ _
  have x5 : (w5S w s x y z p n on).heap[w.heap.size + 4]? = some zbx := by show (World.alloc _ _).heap[w.heap.size + 4]? = _; rw [← e5]; exact heap_alloc_new _ _
  exact ⟨⟨h1.trans ((h2.trans ((h3.trans ((h4.trans (h5.mono h4.size)).mono h3.size)).mono h2.size)).mono h1.size), Blk.kept (Blk.kept (Blk.kept (Blk.kept x1 h2) h3) h4) h5, x5, by omega⟩,
    Blk.cell (Blk.kept (Blk.kept (Blk.kept x2 h3) h4) h5) 0, Blk.cell (Blk.kept (Blk.kept x3 h4) h5) 0, Blk.cell (Blk.kept x4 h5) 0⟩
set_option maxHeartbeats 6400000 in
theorem setD (s : S) (x y z : Value) (p on : Bool) (n : Int) (w : World) (h : In w s x y z) (hh : Holds s) (hT : Tabs w) :
    Calls Tryz.prog 17 #[sv s x y z, .bool p, .int .i64 n, .bool on] w fun e w' => ∃ X x' y' z' code, e = .returned (.tuple #[sv X x' y' z', .int .i64 code]) ∧ Ans w w' (okB s && numB n) (setS s p n on) X x' y' z' code := by
  obtain ⟨hS, k1, k2, k3⟩ := w5S_facts w s x y z p n on
  have HS := Lib.hid hS
  have HI := Lib.hid (h.kept hS.bel)
  have HT := Lib.hid (hT.kept hS.bel)
  have HH := Lib.hid hh
  have HC : Hid (∀ W, Below (w5S w s x y z p n on).heap.size (w5S w s x y z p n on) W → W.cell? ⟨w.heap.size + 1, 0, none⟩ = some (.bool p) ∧ W.cell? ⟨w.heap.size + 1 + 1, 0, none⟩ = some (.int .i64 n) ∧ W.cell? ⟨w.heap.size + 1 + 1 + 1, 0, none⟩ = some (.bool on)) := Lib.hid fun W hb => ⟨cell_kept hb k1, cell_kept hb k2, cell_kept hb k3⟩
  clear h hh hT hS
  go_enter Tryz.func17, Tryz.ntmps17
  go_upto_region 1 with (refine wp_allocS4 rfl rfl ?_)
  go_simp
  change Code.wp _ _ _ _ (w5S w s x y z p n on)
  generalize w5S w s x y z p n on = w5 at HS HI HT HC k1 k2 k3 ⊢
  generalize w.heap.size + 1 + 1 + 1 = a3 at HC k3 ⊢
  generalize w.heap.size + 1 + 1 = a2 at HC k2 ⊢
  generalize w.heap.size + 1 = a1 at HC k1 ⊢
  generalize w.heap.size + 4 = c at HS ⊢
  have HCL : Hid (okB s = true → ∀ W x' y' z', Pb w5 s x' y' z' W → Apart x' y' → _) := Lib.hid (fun hok W x' y' z' k _ => set_clo w5 s x' y' z' p on n a1 a2 a3 W k ((ok_iff s).1 hok) HT.out (HC.out W k.bel).1 (HC.out W k.bel).2.1 (HC.out W k.bel).2.2)
  cases hn : numB n
  · have HM : Hid ((okB s && numB n) = false) := Lib.hid (by rw [hn, Bool.and_false])
    go_wp2_with fail
    refine (isCountM_any n w5).mono ?_; rintro e w5' ⟨rfl, rfl⟩
    rw [hn]
    go_wp2_with (refine wp_storeS (b := c) (A := zarr) rfl rfl rfl rfl rfl (sarr_one rfl rfl rfl) HS.out.bc rfl ?_; intro w7 h7)
    refine bodyPost_ret (ret2S (s := noS) (x := nilS) (y := nilS) (z := nilS) rfl rfl h7.box rfl) rfl ?_
    exact ⟨_, _, _, _, _, rfl, ans_no HM.out (h7.below _ _ (Nat.le_of_lt HS.out.lt) HS.out.bel)⟩
  · have HM : Hid ((okB s && numB n) = okB s) := Lib.hid (by rw [hn, Bool.and_true])
    go_wp2_with fail
    refine (isCountM_any n w5).mono ?_; rintro e w5' ⟨rfl, rfl⟩
    rw [hn]
    go_wp2_with (refine wp_loadS (b := w.heap.size) (s := s) rfl rfl rfl HS.out.b0 ?_)
    cases hok : okB s
    · refine (changedM_no _ s x y z _ HI.out HH.out HT.out hok).mono ?_; rintro e w6 ⟨rfl, hb⟩
      have H6 := Lib.hid (HS.out.kept hb)
      clear hb
      go_wp2_with (refine wp_storeS (b := c) (A := zarr) rfl rfl rfl rfl rfl (sarr_one rfl rfl rfl) H6.out.bc rfl ?_; intro w7 h7)
      refine bodyPost_ret (ret2S (s := noS) (x := nilS) (y := nilS) (z := nilS) rfl rfl h7.box rfl) rfl ?_
      exact ⟨_, _, _, _, _, rfl, ans_no (HM.out.trans hok) (h7.below _ _ (Nat.le_of_lt H6.out.lt) H6.out.bel)⟩
    · refine (changedM_set _ _ _ s (setS s p n on) x y z _ HI.out HH.out HT.out hok (HCL.out hok)).mono ?_; rintro e w6 ⟨x6, y6, z6, rfl, ho, hb⟩
      have H6 := Lib.hid (HS.out.kept hb)
      have HO := Lib.hid ho
      have HSZ := Lib.hid HS.out.bel.size
      clear ho hb
      go_wp2_with (refine wp_storeS (b := c) rfl rfl rfl rfl rfl HO.out.in_.one H6.out.bc rfl ?_; intro w9 h9)
      refine bodyPost_ret (ret2S rfl rfl h9.box rfl) rfl ?_
      exact ⟨_, _, _, _, _, rfl, h9.below _ _ (Nat.le_of_lt H6.out.lt) H6.out.bel, Own.low (h9.own2 H6.out.bc HO.out) HSZ.out, by rw [HM.out, hok]; rfl, fun _ => rfl, fun e => by rw [HM.out, hok] at e; cases e⟩
end Scr
end
section
open Go.RowKit
namespace Scr
open Go.Proofs.YtceaoadlhdgnmaaGreatDoor.Row Wid
def hid12 : S := setS (newS 2 2) true 25 false
theorem hid12_modes : hid12.modes = 1 := by kernel_rfl
theorem num12 (n : Int) (w : World) : Calls Tryz.prog 70 #[.int .i64 n] w fun e w' => e = .returned (.int .i64 n) ∧ w' = w := by
  go_enter Tryz.func70, Tryz.ntmps70
  go_wp2_with fail
  go_ret
  exact ⟨rfl, rfl⟩
set_option maxHeartbeats 3200000 in
theorem wakes12 (w : World) (hT : Tabs w) : Calls Tryz.prog 22 #[] w fun e w' => e = .returned (.bool true) ∧ Below w.heap.size w w' := by
  have HN := Lib.hid (refNew8 2 2 w (by decide) (by decide) (by decide) (by decide))
  have hok0 := newS_ok (r := 2) (c := 2) (by decide) (by decide) (by decide) (by decide)
  have HR2 := Lib.hid (fun x y z W (h : In W (newS 2 2) x y z) (t : Tabs W) => setD (newS 2 2) x y z true false 25 W h hok0.holds t)
  have HMAY : Hid ((okB (newS 2 2) && numB 25) = true) := Lib.hid (by rw [(ok_iff _).2 hok0]; rfl)
  have HL := Lib.hid hid12_modes
  have e2 : setS (newS 2 2) true 25 false = hid12 := rfl
  rw [e2] at HR2
  clear e2 hok0
  generalize (okB (newS 2 2) && numB 25) = may at HR2 HMAY
  generalize hid12 = S2 at HR2 HL
  have HT := Lib.hid hT
  clear hT
  go_enter Tryz.func22, Tryz.ntmps22
  go_wp2_with fail
  refine HN.out.mono ?_; rintro e w1 ⟨x, y, z, rfl, ho, hb⟩
  generalize newS 2 2 = S0 at HR2 ho ⊢
  have H1 := Lib.hid (And.intro ho.in_ hb)
  clear ho hb HN
  go_wp2_with fail
  refine (HR2.out x y z w1 H1.out.1 (HT.out.kept H1.out.2)).mono ?_; rintro e w4 ⟨X, x2, y2, z2, code, rfl, hans⟩
  obtain rfl := hans.yes HMAY.out
  have hcode : code = 0 := by rw [hans.code, HMAY.out]; rfl
  subst hcode
  have HO4 := Lib.hid hans.own
  have HB4 := Lib.hid (H1.out.2.trans (hans.bel.mono H1.out.2.size))
  clear hans H1 HR2
  go_wp2_with (first
    | (refine wp_allocS (n := w4.heap.size) rfl rfl rfl ?_)
    | (refine wp_storeS (b := w4.heap.size) rfl rfl rfl rfl rfl HO4.out.in_.one (heap_alloc_new _ _) rfl ?_; intro w5 h5; obtain ⟨hx5, hb5⟩ := bx_sto (e := ⟨X, x2, y2, z2⟩) HO4.out.in_ h5; have HX5 := Lib.hid hx5; have HB5 := Lib.hid (HB4.out.trans (hb5.mono HB4.out.size)); clear hx5 hb5 h5))
  refine (num12 0 w5).mono ?_; rintro e w6 ⟨rfl, rfl⟩
  have c40 : w6.cell? ⟨w4.heap.size, 40, none⟩ = some (.int .i64 1) := by have k := HX5.out.box.cell 40; rw [sarr_40, HL.out] at k; exact k
  go_wp2_with fail
  go_ret
  exact ⟨rfl, HB5.out⟩
end Scr
end
section
open Go.RowKit
namespace Scr
open Go.Proofs.YtceaoadlhdgnmaaGreatDoor.Row Wid
set_option maxHeartbeats 800000 in
theorem refInAt_any (l : List Int) (b c : Nat) (n : Int) (w : World) (h : Kv w b l) (hl : l.length ≤ 1000) :
    Calls Tryz.prog 112 #[.slice (some ⟨b, 0, none⟩) l.length c, .int .i64 n] w fun e w' => ∃ r, e = .returned (.int .i64 r) ∧ ((r = -1 ∧ ∀ i, i < l.length → l.getD i 0 ≠ n) ∨ ∃ k : Nat, k < l.length ∧ r = (k : Int) ∧ l.getD k 0 = n) ∧ w' = w := by
  have HA := Lib.hid h
  obtain ⟨m, hm⟩ : ∃ m, l.length = m := ⟨_, rfl⟩
  have HM := Lib.hid hm
  rw [hm] at hl ⊢
  clear hm h
  go_enter Tryz.func112, Tryz.ntmps112
  go_wp2_with fail
  go_loopw [5] (fun i wr => ∃ k : Nat, k ≤ m ∧ i = .int .i64 k ∧ wr = w ∧ Hid (∀ j, j < k → l.getD j 0 ≠ n)) (fun i _ => m - (intOf i).toNat)
  case atStart => exact ⟨0, by omega, rfl, rfl, Lib.hid (fun j hj => absurd hj (by omega))⟩
  case round =>
    obtain ⟨k, hk, rfl, rfl, HB⟩ := hrel
    by_cases hlt : k < m
    · have hE := HA.out k (by rw [HM.out]; exact hlt)
      by_cases he : l.getD k 0 = n
      · have HI : Hid (∃ q : Nat, q < m ∧ (k : Int) = (q : Int) ∧ l.getD q 0 = n) := Lib.hid ⟨k, hlt, rfl, he⟩
        rw [he] at hE
        clear he
        go_wp2_with fail
        go_ret
        exact ⟨_, rfl, .inr HI.out, rfl⟩
      · have HN : Hid (∀ j, j < k + 1 → l.getD j 0 ≠ n) := Lib.hid fun j hj => by
          by_cases e : j = k
          · subst e; exact he
          · exact HB.out j (by omega)
        have hne : (l.getD k 0 == n) = false := by rw [beq_eq_false_iff_ne]; exact he
        generalize l.getD k 0 = y at hE hne
        clear he
        go_wp2_with fail
        go_roundw
        case rel => exact ⟨k + 1, by omega, by go_num, by trivial, HN⟩
        case measure => simp [intOf]; omega
    · have HI : Hid (∀ i, i < m → l.getD i 0 ≠ n) := Lib.hid fun i hi => HB.out i (by omega)
      have hd : decide (k < m) = false := decide_eq_false hlt
      clear hlt
      go_wp2_with fail
      go_ret
      exact ⟨_, rfl, .inl ⟨rfl, HI.out⟩, rfl⟩
def bitsF : List Int := [1, 5, 7, 25, 66, 1000, 1004, 2004]
def bitsT : List Int := [16, 64, 1, 8, 32, 256, 512, 128]
theorem kv_eight (w : World) (a b c d e f g i : Int) (t : TypeId) : Kv (w.alloc (.cells #[.int .i64 a, .int .i64 b, .int .i64 c, .int .i64 d, .int .i64 e, .int .i64 f, .int .i64 g, .int .i64 i] t)) w.heap.size [a, b, c, d, e, f, g, i] := by
  have hx : (w.alloc (.cells #[.int .i64 a, .int .i64 b, .int .i64 c, .int .i64 d, .int .i64 e, .int .i64 f, .int .i64 g, .int .i64 i] t)).heap[w.heap.size]? = some (.cells #[.int .i64 a, .int .i64 b, .int .i64 c, .int .i64 d, .int .i64 e, .int .i64 f, .int .i64 g, .int .i64 i] t (0, 0)) := heap_alloc_new _ _
  intro j hj
  have h8 : j = 0 ∨ j = 1 ∨ j = 2 ∨ j = 3 ∨ j = 4 ∨ j = 5 ∨ j = 6 ∨ j = 7 := by simp at hj; omega
  rcases h8 with rfl | rfl | rfl | rfl | rfl | rfl | rfl | rfl
  · exact Blk.cell hx 0
  · exact Blk.cell hx 1
  · exact Blk.cell hx 2
  · exact Blk.cell hx 3
  · exact Blk.cell hx 4
  · exact Blk.cell hx 5
  · exact Blk.cell hx 6
  · exact Blk.cell hx 7
theorem bits_found : ∀ k : Fin 8, bitOf true (bitsF.getD k.val 0) = bitsT.getD k.val 0 := of_decide_eq_true (by kernel_rfl)
theorem bits_none {n : Int} (h : ∀ i, i < 8 → bitsF.getD i 0 ≠ n) : bitOf true n = 0 := by
  have h0 : (1 : Int) ≠ n := h 0 (by decide)
  have h1 : (5 : Int) ≠ n := h 1 (by decide)
  have h2 : (7 : Int) ≠ n := h 2 (by decide)
  have h3 : (25 : Int) ≠ n := h 3 (by decide)
  have h4 : (66 : Int) ≠ n := h 4 (by decide)
  have h5 : (1000 : Int) ≠ n := h 5 (by decide)
  have h6 : (1004 : Int) ≠ n := h 6 (by decide)
  have h7 : (2004 : Int) ≠ n := h 7 (by decide)
  unfold bitOf
  rw [if_pos rfl, if_neg h2.symm, if_neg h3.symm, if_neg h0.symm, if_neg h4.symm, if_neg h1.symm, if_neg h7.symm, if_neg h5.symm, if_neg h6.symm]
set_option maxHeartbeats 1600000 in
theorem refBit_any (p : Bool) (n : Int) (w : World) : Calls Tryz.prog 62 #[.bool p, .int .i64 n] w fun e w' => e = .returned (.int .i64 (bitOf p n)) ∧ Below w.heap.size w w' := by
  cases p with
  | false =>
    by_cases h4 : n = 4
    · subst h4
      have HE : Hid (bitOf false 4 = 2) := Lib.hid rfl
      rw [HE.out]
      go_enter Tryz.func62, Tryz.ntmps62
      go_wp2_with fail
      go_ret
      exact ⟨rfl, Below.refl _ _⟩
    by_cases h20 : n = 20
    · subst h20
      have HE : Hid (bitOf false 20 = 4) := Lib.hid rfl
      rw [HE.out]
      go_enter Tryz.func62, Tryz.ntmps62
      go_wp2_with fail
      go_ret
      exact ⟨rfl, Below.refl _ _⟩
    have HE : Hid (bitOf false n = 0) := Lib.hid (by unfold bitOf; rw [if_neg (by simp), if_neg h4, if_neg h20])
    rw [HE.out]
    have k4 : (n == 4) = false := by rw [beq_eq_false_iff_ne]; exact h4
    have k20 : (n == 20) = false := by rw [beq_eq_false_iff_ne]; exact h20
    go_enter Tryz.func62, Tryz.ntmps62
    go_wp2_with fail
    go_ret
    exact ⟨rfl, Below.refl _ _⟩
  | true =>
    have HB1 := Lib.hid (bel_alloc w (.cells #[.int .i64 1, .int .i64 5, .int .i64 7, .int .i64 25, .int .i64 66, .int .i64 1000, .int .i64 1004, .int .i64 2004] 3))
    have HK1 : Hid (Kv (w.alloc (.cells #[.int .i64 1, .int .i64 5, .int .i64 7, .int .i64 25, .int .i64 66, .int .i64 1000, .int .i64 1004, .int .i64 2004] 3)) w.heap.size bitsF) := Lib.hid (kv_eight w 1 5 7 25 66 1000 1004 2004 _)
    have HB2 := Lib.hid (bel_alloc (w.alloc (.cells #[.int .i64 1, .int .i64 5, .int .i64 7, .int .i64 25, .int .i64 66, .int .i64 1000, .int .i64 1004, .int .i64 2004] 3)) (.cells #[.int .i64 16, .int .i64 64, .int .i64 1, .int .i64 8, .int .i64 32, .int .i64 256, .int .i64 512, .int .i64 128] 3))
    have HK2 : Hid (Kv ((w.alloc (.cells #[.int .i64 1, .int .i64 5, .int .i64 7, .int .i64 25, .int .i64 66, .int .i64 1000, .int .i64 1004, .int .i64 2004] 3)).alloc (.cells #[.int .i64 16, .int .i64 64, .int .i64 1, .int .i64 8, .int .i64 32, .int .i64 256, .int .i64 512, .int .i64 128] 3)) (w.heap.size + 1) bitsT) := Lib.hid (by
      have k := kv_eight (w.alloc (.cells #[.int .i64 1, .int .i64 5, .int .i64 7, .int .i64 25, .int .i64 66, .int .i64 1000, .int .i64 1004, .int .i64 2004] 3)) 16 64 1 8 32 256 512 128 3
      rw [show (w.alloc (.cells #[.int .i64 1, .int .i64 5, .int .i64 7, .int .i64 25, .int .i64 66, .int .i64 1000, .int .i64 1004, .int .i64 2004] 3)).heap.size = w.heap.size + 1 by simp] at k
      exact k)
    have HIN := Lib.hid (refInAt_any bitsF w.heap.size 8 n _ (HK1.out.kept HB2.out) (by decide))
    have HBB : Hid (Below w.heap.size w ((w.alloc (.cells #[.int .i64 1, .int .i64 5, .int .i64 7, .int .i64 25, .int .i64 66, .int .i64 1000, .int .i64 1004, .int .i64 2004] 3)).alloc (.cells #[.int .i64 16, .int .i64 64, .int .i64 1, .int .i64 8, .int .i64 32, .int .i64 256, .int .i64 512, .int .i64 128] 3))) := Lib.hid (HB1.out.trans (HB2.out.mono (by simp)))
    have HLF : Hid (bitsF.length = 8) := Lib.hid rfl
    rw [HLF.out] at HIN
    obtain ⟨vb, hvb⟩ : ∃ v, bitOf true n = v := ⟨_, rfl⟩
    rw [hvb]
    have HVB := Lib.hid hvb
    clear hvb
    clear HK1 HB1 HB2
    go_enter Tryz.func62, Tryz.ntmps62
    go_wp2_with fail
    refine HIN.out.mono ?_; rintro e w2 ⟨r, rfl, hr, hw2⟩
    rw [hw2]
    clear hw2 w2 HIN
    rcases hr with ⟨rfl, hn⟩ | ⟨k, hk, rfl, hn⟩
    · have HE : Hid (vb = 0) := Lib.hid (by rw [← HVB.out]; exact bits_none hn)
      clear hn
      go_wp2_with fail
      go_ret
      exact ⟨by rw [HE.out]; rfl, HBB.out⟩
    · have HE : Hid (vb = bitsT.getD k 0) := Lib.hid (by rw [← HVB.out, ← hn]; exact bits_found ⟨k, hk⟩)
      have hc := HK2.out k hk
      generalize bitsT.getD k 0 = v at hc HE
      clear hn
      go_wp2_with fail
      go_ret
      exact ⟨by rw [HE.out]; rfl, HBB.out⟩
def putP (s : S) (b : Int) (on : Bool) : S := withM s (modeM s.modes b on)
theorem Pb.modes {w0 w : World} {s : S} {x y z : Value} (h : Pb w0 s x y z w) (m : Int) : Pb w0 (withM s m) x y z (w.setCell ⟨w0.heap.size, 40, none⟩ (.int .i64 m)) := h.cell 40 _ (Blk.set h.pn.box 40 _) rfl rfl rfl
set_option maxHeartbeats 1600000 in
theorem refPut_bit (w0 : World) (s : S) (x y z : Value) (b : Int) (on : Bool) (w : World) (h : Pb w0 s x y z w) :
    Calls Tryz.prog 63 #[.pointer (some ⟨w0.heap.size, 0, none⟩), .int .i64 b, .bool on] w fun e w' => e = .returned (.tuple #[]) ∧ Pb w0 (putP s b on) x y z w' := by
  have c40 : w.cell? ⟨w0.heap.size, 40, none⟩ = some (.int .i64 s.modes) := h.pn.box.cell 40
  have f40 : w.frozen? ⟨w0.heap.size, 40, none⟩ = false := h.pn.box.free 40
  have H1 := Lib.hid (h.modes (bits .andNot .i64 s.modes b))
  clear h
  cases on with
  | false =>
    have HE : Hid (putP s b false = withM s (bits .andNot .i64 s.modes b)) := Lib.hid rfl
    rw [HE.out]
    go_enter Tryz.func63, Tryz.ntmps63
    go_wp2_with fail
    go_end0
    exact ⟨rfl, H1.out⟩
  | true =>
    have HE : Hid (putP s b true = withM (withM s (bits .andNot .i64 s.modes b)) (bits .or .i64 (bits .andNot .i64 s.modes b) b)) := Lib.hid (by rw [or_andNot]; rfl)
    rw [HE.out]
    go_enter Tryz.func63, Tryz.ntmps63
    go_upto_region 2 with (fail)
    change Code.wp _ _ _ _ (w.setCell ⟨w0.heap.size, 40, none⟩ (.int .i64 (bits .andNot .i64 s.modes b)))
    clear c40 f40
    generalize w.setCell ⟨w0.heap.size, 40, none⟩ (.int .i64 (bits .andNot .i64 s.modes b)) = w1 at H1 ⊢
    have c40 : w1.cell? ⟨w0.heap.size, 40, none⟩ = some (.int .i64 (bits .andNot .i64 s.modes b)) := H1.out.pn.box.cell 40
    have f40 : w1.frozen? ⟨w0.heap.size, 40, none⟩ = false := H1.out.pn.box.free 40
    have H2 := Lib.hid (H1.out.modes (bits .or .i64 (bits .andNot .i64 s.modes b) b))
    clear H1
    go_wp2_with fail
    go_end0
    exact ⟨rfl, H2.out⟩
theorem Pb.other {w0 w : World} {s : S} {x y z v : Value} (h : Pb w0 s x y z w) (hs : s.swapped = true) {G : Gr} (hv : OwnCs w (w0.heap.size + 2) v G.cells) : Pb w0 { s with other := G } (putX s x v) (putY s y v) z (pput w w0.heap.size 3 G.rows G.cols v) := by
  have e1 : putG s G = { s with other := G } := by unfold putG; rw [hs]; rfl
  have e2 : seatO s = 3 := by unfold seatO; rw [hs]; rfl
  have k := h.pn.seen (G := G) hv
  rw [e1, e2] at k
  exact h.only k (pput_below (Below.refl _ _) (Nat.le_refl _) _ _ _) (pput_only (Only.refl _ _) _ _ _)
end Scr
end
end Go.Proofs.YtceaoadlhdgnmaaGreatDoor
