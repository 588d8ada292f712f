/- Joined texts: ScrFits, ScrCheck. -/
import Derived.Test.YtceaoadlhdgnmaaGreatDoorM13
namespace Go.Proofs.YtceaoadlhdgnmaaGreatDoor
set_option maxRecDepth 100000
section
open Go.RowKit
namespace Scr
open Go.Proofs.YtceaoadlhdgnmaaGreatDoor.Row Wid
set_option maxHeartbeats 3200000 in
theorem fits_grid (G : Gr) (x : Value) (R C : Int) (w : World) (hx : Rm w x G.cells) (hs : Held G.cells) :
    Calls Tryz.prog 122 #[.iface 29 (gridV G x), .int .i64 R, .int .i64 C] w fun e w' => e = .returned (.bool ((G.rows == R) && ((G.cols == C) && gridB G))) ∧ Below w.heap.size w w' := by
  obtain ⟨A, c, rfl, _⟩ := id hx.2
  have HB := Lib.hid (bel_alloc w (gbox G.rows G.cols (.slice A G.cells.length c)))
  have HC := Lib.hid (fun b (hb : gridB G = b) => gridCheck_any G b (.slice A G.cells.length c) _ (hx.kept HB.out) hs (by rw [← hb]; exact gridB_iff G))
  have HG : Hid (∃ b, gridB G = b) := Lib.hid ⟨_, rfl⟩
  obtain ⟨b, hb⟩ := HG.out
  have HC := Lib.hid (HC.out b hb)
  rw [hb]
  clear hb hx hs HG
  obtain ⟨rows, cols, cells⟩ := G
  simp only at HB HC ⊢
  generalize cells.length = n at HB HC ⊢
  cases h1 : (rows == R)
  · go_enter Tryz.func122, Tryz.ntmps122
    go_wp2_with fail
    go_ret
    exact ⟨rfl, HB.out⟩
  · cases h2 : (cols == C)
    · go_enter Tryz.func122, Tryz.ntmps122
      go_wp2_with fail
      go_ret
      exact ⟨rfl, HB.out⟩
    · go_enter Tryz.func122, Tryz.ntmps122
      go_wp2_with fail
      refine HC.out.mono ?_; rintro e w1 ⟨rfl, hb1⟩
      have HB1 : Hid (Below w.heap.size w w1) := Lib.hid (HB.out.trans (hb1.mono HB.out.size))
      clear hb1 HC
      cases b
      all_goals
        go_wp2_with fail
        go_ret
        exact ⟨rfl, HB1.out⟩
set_option maxHeartbeats 3200000 in
theorem fits_cursor (k : Cur) (R C m n : Int) (hm : IntKind.i64.wrap (R - 1) = m) (hn : IntKind.i64.wrap (C - 1) = n) (w : World) :
    Calls Tryz.prog 122 #[.iface 33 (curV k), .int .i64 R, .int .i64 C] w fun e w' => e = .returned (.bool (cursorB k m n)) ∧ Below w.heap.size w w' := by
  have HB := Lib.hid ((bel_alloc w (gbox 0 0 (.slice none 0 0))).alloc (by simp) (.cells #[.int .i64 k.row, .int .i64 k.col, .bool k.wrap, .int .i64 k.a.fg, .int .i64 k.a.bg, .int .i64 k.a.flags, .int .i64 k.g0, .int .i64 k.g1, .int .i64 k.shift, .bool k.origin] 33))
  have HC := Lib.hid (fun W => cursorFits_any k R C m n hm hn W)
  generalize cursorB k m n = b at HC ⊢
  clear hm hn
  go_enter Tryz.func122, Tryz.ntmps122
  go_wp2_with fail
  refine (HC.out _).mono ?_; rintro e w1 ⟨rfl, hb1⟩
  have HB1 : Hid (Below w.heap.size w w1) := Lib.hid (HB.out.trans (hb1.mono HB.out.size))
  clear hb1 HC
  go_wp2_with fail
  go_ret
  exact ⟨rfl, HB1.out⟩
abbrev cbox0 : Obj := .cells #[.int .i64 0, .int .i64 0, .bool false, .int .i64 0, .int .i64 0, .int .i64 0, .int .i64 0, .int .i64 0, .int .i64 0, .bool false] 33
abbrev mbox (t b : Int) : Obj := .cells #[.int .i64 t, .int .i64 b] 170
theorem bel3 (w : World) (t b : Int) : Below w.heap.size w (((w.alloc (gbox 0 0 (.slice none 0 0))).alloc cbox0).alloc (mbox t b)) := ((bel_alloc w _).alloc (by simp) _).alloc (by simp; omega) _
set_option maxHeartbeats 3200000 in
theorem fits_margins (t b R C : Int) (w : World) :
    Calls Tryz.prog 122 #[.iface 170 (.agg #[.int .i64 t, .int .i64 b]), .int .i64 R, .int .i64 C] w fun e w' => e = .returned (.bool (marginsB t b R)) ∧ Below w.heap.size w w' := by
  have HB := Lib.hid (bel3 w t b)
  have HC := Lib.hid (fun W => margins_any t b R W)
  generalize marginsB t b R = q at HC ⊢
  go_enter Tryz.func122, Tryz.ntmps122
  go_wp2_with fail
  refine (HC.out _).mono ?_; rintro e w1 ⟨rfl, hb1⟩
  have HB1 : Hid (Below w.heap.size w w1) := Lib.hid (HB.out.trans (hb1.mono HB.out.size))
  clear hb1 HC
  go_wp2_with fail
  go_ret
  exact ⟨rfl, HB1.out⟩
set_option maxHeartbeats 3200000 in
theorem fits_stops (l : List Bool) (x : Value) (R C : Int) (w : World) (hx : Tab.Bl w x l) :
    Calls Tryz.prog 122 #[.iface 171 x, .int .i64 R, .int .i64 C] w fun e w' => e = .returned (.bool (((l.length : Int) == C) && Tab.okB l)) ∧ Below w.heap.size w w' := by
  obtain ⟨A, c, rfl, _⟩ := id hx.room
  have HB := Lib.hid (bel3 w 0 0)
  have HC := Lib.hid (Tab.check_any l (.slice A l.length c) _ (hx.kept HB.out))
  obtain ⟨q, hq⟩ : ∃ q, Tab.okB l = q := ⟨_, rfl⟩
  rw [hq] at HC ⊢
  clear hx hq
  generalize l.length = n at HC ⊢
  cases h1 : ((n : Int) == C)
  · go_enter Tryz.func122, Tryz.ntmps122
    go_wp2_with fail
    go_ret
    exact ⟨rfl, HB.out⟩
  · cases q
    all_goals
      unfold Tab.codeOf at HC
      go_enter Tryz.func122, Tryz.ntmps122
      go_wp2_with fail
      refine pureT HC.out ?_
      go_wp2_with fail
      go_ret
      exact ⟨rfl, HB.out⟩
set_option maxHeartbeats 3200000 in
theorem fits_modes (n R C : Int) (w : World) :
    Calls Tryz.prog 122 #[.iface 172 (.int .i64 n), .int .i64 R, .int .i64 C] w fun e w' => e = .returned (.bool (rng n 0 1023)) ∧ Below w.heap.size w w' := by
  have HB := Lib.hid (bel3 w 0 0)
  go_enter Tryz.func122, Tryz.ntmps122
  go_wp2_with fail
  refine pureT (in_any n 0 1023 _) ?_
  go_wp2_with fail
  go_ret
  exact ⟨rfl, HB.out⟩
set_option maxHeartbeats 3200000 in
theorem fits_title (t : List UInt8) (R C : Int) (w : World) (ht : t.length ≤ 1152921504606846976) (hT : Tabs w) :
    Calls Tryz.prog 122 #[.iface 173 (.string ⟨t.toArray⟩), .int .i64 R, .int .i64 C] w fun e w' => e = .returned (.bool (titleB t)) ∧ Below w.heap.size w w' := by
  have HB := Lib.hid (bel3 w 0 0)
  have HC := Lib.hid (title_any t _ ht (hT.kept HB.out))
  generalize titleB t = q at HC ⊢
  generalize (⟨t.toArray⟩ : ByteArray) = s at HC ⊢
  clear ht hT
  go_enter Tryz.func122, Tryz.ntmps122
  go_wp2_with fail
  refine HC.out.mono ?_; rintro e w1 ⟨rfl, hb1⟩
  have HB1 : Hid (Below w.heap.size w w1) := Lib.hid (HB.out.trans (hb1.mono HB.out.size))
  clear hb1 HC
  go_wp2_with fail
  go_ret
  exact ⟨rfl, HB1.out⟩
set_option maxHeartbeats 3200000 in
theorem fits_last (r R C : Int) (w : World) :
    Calls Tryz.prog 122 #[.iface 174 (.int .i64 r), .int .i64 R, .int .i64 C] w fun e w' => e = .returned (.bool (lastB r)) ∧ Below w.heap.size w w' := by
  have HB := Lib.hid (bel3 w 0 0)
  have HC := Lib.hid (fun W => lastFits_any r W)
  generalize lastB r = q at HC ⊢
  go_enter Tryz.func122, Tryz.ntmps122
  go_wp2_with fail
  refine (HC.out _).mono ?_; rintro e w1 ⟨rfl, hb1⟩
  have HB1 : Hid (Below w.heap.size w w1) := Lib.hid (HB.out.trans (hb1.mono HB.out.size))
  clear hb1 HC
  go_wp2_with fail
  go_ret
  exact ⟨rfl, HB1.out⟩
end Scr
end
section
open Go.RowKit
namespace Scr
open Go.Proofs.YtceaoadlhdgnmaaGreatDoor.Row Wid
def wr1 (n : Int) : Int := IntKind.i64.wrap (n - 1)
noncomputable def pbs (s : S) : List Bool :=
  [(s.main.rows == s.main.rows) && ((s.main.cols == s.main.cols) && gridB s.main), (s.other.rows == s.main.rows) && ((s.other.cols == s.main.cols) && gridB s.other), cursorB s.cur (wr1 s.main.rows) (wr1 s.main.cols),
    cursorB s.saved (wr1 s.main.rows) (wr1 s.main.cols), cursorB s.too (wr1 s.main.rows) (wr1 s.main.cols), marginsB s.top s.bottom s.main.rows, ((s.tabs.length : Int) == s.main.cols) && Tab.okB s.tabs, rng s.modes 0 1023, titleB s.title, lastB s.last]
theorem gridB_sides {G : Gr} (h : gridB G = true) : (1 ≤ G.rows ∧ G.rows ≤ 40) ∧ (1 ≤ G.cols ∧ G.cols ≤ 40) := by
  have := (gridB_iff G).1 h
  exact ⟨this.1, this.2.1⟩
theorem wr1_of {n : Int} (h : 1 ≤ n ∧ n ≤ 40) : wr1 n = n - 1 := by unfold wr1; rw [IntKind.wrap_i64]; omega
theorem okB_pbs (s : S) : okB s = (pbs s).all id := by
  unfold okB pbs
  simp only [List.all_cons, List.all_nil, id, beq_self_eq_true, Bool.true_and, Bool.and_true]
  cases hg : gridB s.main
  · simp
  · have hs := gridB_sides hg
    rw [wr1_of hs.1, wr1_of hs.2]
    have ht : ((s.tabs.length : Int) == s.main.cols) = (((s.tabs.length : Int) == s.main.cols) && Tab.okB s.tabs) := by
      cases h : ((s.tabs.length : Int) == s.main.cols)
      · rfl
      · have : (s.tabs.length : Int) = s.main.cols := by simpa using h
        have : Tab.okB s.tabs = true := Tab.okB_yes.2 (by omega)
        rw [this]; rfl
    rw [← ht]
    cases gridB s.other <;> simp [Bool.and_assoc]
structure Holds (s : S) : Prop where
  m : Held s.main.cells
  o : Held s.other.cells
  t : s.title.length ≤ 1152921504606846976
def codeB (b : Bool) : Int := if b then 0 else 1
theorem part_fits (s : S) (x y z : Value) (w : World) (h : In w s x y z) (hh : Holds s) (hT : Tabs w) (k : Nat) (hk : k < 10) :
    ∃ v, (partVals s x y z)[k]? = some v ∧ Calls Tryz.prog 122 #[v, .int .i64 s.main.rows, .int .i64 s.main.cols] w fun e w' => e = .returned (.bool ((pbs s).getD k false)) ∧ Below w.heap.size w w' := by
  match k, hk with
  | 0, _ => exact ⟨_, rfl, fits_grid s.main x _ _ w h.m hh.m⟩
  | 1, _ => exact ⟨_, rfl, fits_grid s.other y _ _ w h.o hh.o⟩
  | 2, _ => exact ⟨_, rfl, fits_cursor s.cur _ _ _ _ rfl rfl w⟩
  | 3, _ => exact ⟨_, rfl, fits_cursor s.saved _ _ _ _ rfl rfl w⟩
  | 4, _ => exact ⟨_, rfl, fits_cursor s.too _ _ _ _ rfl rfl w⟩
  | 5, _ => exact ⟨_, rfl, fits_margins _ _ _ _ w⟩
  | 6, _ => exact ⟨_, rfl, fits_stops s.tabs z _ _ w h.t⟩
  | 7, _ => exact ⟨_, rfl, fits_modes _ _ _ w⟩
  | 8, _ => exact ⟨_, rfl, fits_title s.title _ _ w hh.t hT⟩
  | 9, _ => exact ⟨_, rfl, fits_last _ _ _ w⟩
  | k + 10, h => exact absurd h (by omega)
theorem all_ten {l : List Bool} (hl : l.length = 10) (h : ∀ j, j < 10 → l.getD j false = true) : l.all id = true := by
  rw [List.all_eq_true]
  intro b hb
  obtain ⟨j, hj, rfl⟩ := List.getElem_of_mem hb
  have := h j (by omega)
  simpa [List.getD, hj] using this
theorem none_ten {l : List Bool} {k : Nat} (hl : l.length = 10) (hk : k < 10) (h : l.getD k false = false) : l.all id = false := by
  rw [List.all_eq_false]
  refine ⟨l[k]'(by omega), List.getElem_mem _, ?_⟩
  have : l[k]'(by omega) = false := by simpa [List.getD, hl, hk] using h
  rw [this]; simp
structure Ck (w0 : World) (s : S) (x y z : Value) (g : Nat) (w : World) : Prop where
  bel : Below w0.heap.size w0 w
  b0 : SBox w w0.heap.size s x y z
  ps : w.heap[g]? = some (.cells (partVals s x y z) 133 (0, 0))
theorem Ck.kept {w0 w w' : World} {s : S} {x y z : Value} {g : Nat} (h : Ck w0 s x y z g w) (hb : Below w.heap.size w w') : Ck w0 s x y z g w' := ⟨h.bel.trans (hb.mono h.bel.size), h.b0.kept hb, Blk.kept h.ps hb⟩
set_option maxHeartbeats 3200000 in
theorem check_any (s : S) (x y z : Value) (w : World) (h : In w s x y z) (hh : Holds s) (hT : Tabs w) :
    Calls Tryz.prog 74 #[sv s x y z] w fun e w' => e = .returned (.int .i64 (codeB (okB s))) ∧ Below w.heap.size w w' := by
  have HP := Lib.hid (fun W (hb : Below w.heap.size w W) k hk => part_fits s x y z W (h.kept hb) hh (hT.kept hb) k hk)
  have HL : Hid ((pbs s).length = 10) := Lib.hid rfl
  have HE := Lib.hid (okB_pbs s)
  have HB := Lib.hid (bel_alloc w (.cells (sarr s x y z) 36))
  have H0 := Lib.hid (SBox.new w s x y z)
  generalize okB s = ok at HE ⊢
  generalize pbs s = bs at HP HL HE
  clear h hh hT
  go_enter Tryz.func74, Tryz.ntmps74
  go_wp2_with (refine wp_loadS (b := w.heap.size) (s := s) rfl rfl rfl H0.out ?_)
  refine (parts_any s x y z _).mono ?_
  rintro e w1 ⟨g, rfl, hg, hb1⟩
  have HC := Lib.hid (show Ck w s x y z g w1 from ⟨HB.out.trans (hb1.mono HB.out.size), H0.out.kept hb1, hg⟩)
  clear HB H0 hg hb1
  go_wp2_with fail
  go_loopw [8] (fun i wr => ∃ k : Nat, k ≤ 10 ∧ i = .int .i64 k ∧ Hid (∀ j, j < k → bs.getD j false = true) ∧ Hid (Ck w s x y z g wr)) (fun i _ => 10 - (intOf i).toNat)
  case atStart => exact ⟨0, by omega, rfl, Lib.hid fun j hj => absurd hj (by omega), HC⟩
  case round =>
    obtain ⟨k, hk, rfl, HA, HK⟩ := hrel
    by_cases hlt : k < 10
    · obtain ⟨v, hv, hcall⟩ := HP.out wr HK.out.bel k hlt
      have hc : wr.cell? ⟨g, k, none⟩ = some v := by rw [Blk.cell HK.out.ps k]; exact hv
      have c0 : ∀ j, wr.cell? ⟨w.heap.size, j, none⟩ = (sarr s x y z)[j]? := HK.out.b0.cell
      have HCA := Lib.hid hcall
      obtain ⟨q, hq⟩ : ∃ q, bs.getD k false = q := ⟨_, rfl⟩
      rw [hq] at HCA
      have HQ := Lib.hid hq
      clear hcall hv hq
      go_wp2_with fail
      refine HCA.out.mono ?_; rintro e w2 ⟨rfl, hb2⟩
      have HK2 := Lib.hid (HK.out.kept hb2)
      clear hb2 c0 hc HCA
      cases q
      · have HF : Hid (ok = false) := Lib.hid (by rw [HE.out]; exact none_ten HL.out hlt HQ.out)
        go_wp2_with fail
        go_ret
        exact ⟨by rw [HF.out]; rfl, HK2.out.bel⟩
      · go_wp2_with fail
        go_roundw
        case rel => exact ⟨k + 1, by omega, by go_num, Lib.hid fun j hj => (by
          by_cases e : j = k
          · subst e; exact HQ.out
          · exact HA.out j (by omega)), HK2⟩
        case measure => simp [intOf]; omega
    · have hk10 : k = 10 := by omega
      subst hk10
      have HF : Hid (ok = true) := Lib.hid (by rw [HE.out]; exact all_ten HL.out HA.out)
      go_wp2_with fail
      go_ret
      exact ⟨by rw [HF.out]; rfl, HK.out.bel⟩
end Scr
end
end Go.Proofs.YtceaoadlhdgnmaaGreatDoor
