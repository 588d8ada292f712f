/- Joined texts: PrnPutA, PrnWrite, PrnWriteA, PrnRune, PrnOk, PrnWrapP, PrnWriteW, PrnWriteN. -/
import Derived.Test.YtceaoadlhdgnmaaGreatDoorM402
import Derived.StillTailTactics
import Derived.BigRegion
namespace Go.Proofs.YtceaoadlhdgnmaaGreatDoor
set_option maxRecDepth 100000
section
open Go.RowKit
namespace Scr
open Go.Proofs.YtceaoadlhdgnmaaGreatDoor.Row Wid
set_option maxHeartbeats 12800000 in
theorem put_any (s : S) (x y z : Value) (b base g n0 cap : Nat) (r q : Int) (n : Nat) (w : World) (h : Pn w b base s x y z) (hap : Apart x y) (hok : Ok s) (hX : seenX s x y = .slice (some ⟨g, 0, none⟩) n0 cap)
    (hsh : ∀ W, Calls Tryz.prog 170 #[curV s.cur, .int .i64 r] W fun e w' => e = .returned (.int .i64 q) ∧ Below W.heap.size W w') (hr : wid q = n) (hn : 1 ≤ n) (hf : s.cur.col + n ≤ s.main.cols) :
    Calls Tryz.prog 129 #[.pointer (some ⟨b, 0, none⟩), bodyV r n] w fun e w' => e = .returned (.tuple #[]) ∧ Pn w' b base (withLine s (mid (roomS s n) s.cur.col.toNat (s.cur.col.toNat + n) (cellsOf q s.cur.a))) x y z ∧ Only g w w' ∧ Below base w w' := by
  have F := Lib.hid hok.facts
  have L := Lib.hid hok.line
  have HOK := Lib.hid hok
  have HAP := Lib.hid hap
  have H1 := Lib.hid (h.kept (bel_alloc w (bbox r n)))
  have HB1 : Hid ((w.alloc (bbox r n)).heap[w.heap.size]? = some (bbox r n)) := Lib.hid (heap_alloc_new _ _)
  have HO1 := Lib.hid (bel_alloc w (bbox r n))
  have HLN := Lib.hid (fun W (k : Pn W b base s x y z) => line_at s x y z b base g n0 cap W hX k hok)
  have HXX := Lib.hid hX
  have HUP := Lib.hid h.up
  clear h hap hok hX
  go_enter Tryz.func129, Tryz.ntmps129
  go_upto_region 1 with (fail)
  change Code.wp _ _ _ _ (w.alloc (bbox r n))
  generalize w.alloc (bbox r n) = w1 at H1 HB1 HO1 ⊢
  have HQ : Hid (∀ W, Below w1.heap.size w1 W → (W.cell? ⟨b, 7, none⟩ = some (.int .i64 s.cur.row) ∧ W.cell? ⟨b, 8, none⟩ = some (.int .i64 s.cur.col) ∧ W.cell? ⟨b, 9, none⟩ = some (.bool s.cur.wrap) ∧ W.cell? ⟨b, 10, none⟩ = some (.int .i64 s.cur.a.fg) ∧ W.cell? ⟨b, 11, none⟩ = some (.int .i64 s.cur.a.bg) ∧ W.cell? ⟨b, 12, none⟩ = some (.int .i64 s.cur.a.flags) ∧
      W.cell? ⟨b, 13, none⟩ = some (.int .i64 s.cur.g0) ∧ W.cell? ⟨b, 14, none⟩ = some (.int .i64 s.cur.g1) ∧ W.cell? ⟨b, 15, none⟩ = some (.int .i64 s.cur.shift) ∧ W.cell? ⟨b, 16, none⟩ = some (.bool s.cur.origin))) := Lib.hid fun W hb =>
    have k := (H1.out.kept hb).box
    ⟨k.cell 7, k.cell 8, k.cell 9, k.cell 10, k.cell 11, k.cell 12, k.cell 13, k.cell 14, k.cell 15, k.cell 16⟩
  go_cut [4, 5] from 6 to 11 (fun s4 s5 wx => ∃ b4 c', s4 = .pointer (some ⟨b4, 0, none⟩) ∧ s5 = .slice (some ⟨g, lineAt s * 6, none⟩) (seenG s).cols.toNat c' ∧ Hid (wx.heap[b4]? = some (kbox s.cur)) ∧ Hid (Below w1.heap.size w1 wx))
  case first =>
    have q1 := HQ.out w1.drew (Below.refl _ _).drew
    have HBA := Lib.hid (dal w1 cbox0)
    have HBB : Hid (∀ w2, Below (w1.alloc cbox0).drew.heap.size (w1.alloc cbox0).drew w2 → Below w1.heap.size w1 w2 ∧ w2.heap[w1.heap.size]? = some cbox0) := Lib.hid fun w2 hb => by
      have hs : w1.heap.size ≤ (w1.alloc cbox0).drew.heap.size := by show w1.heap.size ≤ (w1.alloc cbox0).heap.size; simp
      exact ⟨HBA.out.trans (hb.mono hs), Blk.kept (w := (w1.alloc cbox0).drew) (heap_alloc_new w1 cbox0) hb⟩
    have q2 := HQ.out ((w1.alloc cbox0).drew) HBA.out
    go_region_held3 (fun w' => w'.cell? ⟨b, 7, none⟩ = some (.int .i64 s.cur.row) ∧ w'.cell? ⟨b, 8, none⟩ = some (.int .i64 s.cur.col) ∧ w'.cell? ⟨b, 9, none⟩ = some (.bool s.cur.wrap) ∧ w'.cell? ⟨b, 10, none⟩ = some (.int .i64 s.cur.a.fg) ∧ w'.cell? ⟨b, 11, none⟩ = some (.int .i64 s.cur.a.bg) ∧ w'.cell? ⟨b, 12, none⟩ = some (.int .i64 s.cur.a.flags) ∧ w'.cell? ⟨b, 13, none⟩ = some (.int .i64 s.cur.g0) ∧ w'.cell? ⟨b, 14, none⟩ = some (.int .i64 s.cur.g1) ∧ w'.cell? ⟨b, 15, none⟩ = some (.int .i64 s.cur.shift) ∧ w'.cell? ⟨b, 16, none⟩ = some (.bool s.cur.origin)) (first | (with_reducible exact q6) | (with_reducible exact q5) | (with_reducible exact q4) | (with_reducible exact q3) | (with_reducible exact q2) | (with_reducible exact q1))
      ((first
        | (go_at_call 125; refine (HLN.out ((w1.alloc cbox0).drew) (H1.out.kept HBA.out)).mono ?_; rintro e w2 ⟨c', rfl, hb⟩; have HB2 := Lib.hid (HBB.out w2 hb).1; have HZ2 := Lib.hid (HBB.out w2 hb).2; have q3 := HQ.out w2 HB2.out; have q4 := HQ.out (kall w2 w1.heap.size s.cur) (kall_below HB2.out (Nat.le_refl _) s.cur); unfold kall at q4; obtain ⟨zf, z0, z1, z2, z3, z4, z5, z6, z7, z8, z9⟩ := cbox0_cells HZ2.out; have HE : Hid ((kall w2 w1.heap.size s.cur).heap[w1.heap.size]? = some (kbox s.cur) ∧ Below w1.heap.size w1 (kall w2 w1.heap.size s.cur)) := Lib.hid ⟨kall_box HZ2.out s.cur, kall_below HB2.out (Nat.le_refl _) s.cur⟩; clear hb)
        | (go_at_call 125; refine (HLN.out w1.drew (H1.out.kept (Below.refl _ _).drew)).mono ?_; rintro e w2 ⟨c', rfl, hb⟩; have HB2 : Hid (Below w1.heap.size w1 w2) := Lib.hid ((Below.refl _ _).drew.trans hb); have q3 := HQ.out w2 HB2.out; have q5 := HQ.out (w2.alloc cbox0) (HB2.out.trans ((bel_alloc w2 _).mono HB2.out.size)); have q6 := HQ.out (w2.alloc (kbox s.cur)) (HB2.out.trans ((bel_alloc w2 _).mono HB2.out.size)); have HE : Hid ((w2.alloc (kbox s.cur)).heap[w2.heap.size]? = some (kbox s.cur) ∧ Below w1.heap.size w1 (w2.alloc (kbox s.cur))) := Lib.hid ⟨heap_alloc_new _ _, HB2.out.trans ((bel_alloc w2 _).mono HB2.out.size)⟩; clear hb)))
    all_goals
      go_wp2_with fail
      go_meet
      exact ⟨_, _, rfl, rfl, Lib.hid HE.out.1, Lib.hid HE.out.2⟩
  case rest =>
    obtain ⟨b4, c', rfl, rfl, HK, HB2⟩ := hcut
    rename World => w2
    have H2 := Lib.hid (H1.out.kept HB2.out)
    have HD2 := Lib.hid (Blk.kept HB1.out HB2.out)
    have HA2 := Lib.hid (HO1.out.trans (HB2.out.mono HO1.out.size))
    clear HQ H1 HB1 HO1 HB2
    go_wp2_with fail
    refine (has_any s x y z b 2 w2 H2.out.box).mono ?_; rintro e w2' ⟨rfl, hw⟩
    have hw := hw.symm
    subst hw
    go_simp
    have HQ : Hid (∀ W, Below w2.heap.size w2 W → (W.cell? ⟨b4, 0, none⟩ = some (.int .i64 s.cur.row) ∧ W.cell? ⟨b4, 1, none⟩ = some (.int .i64 s.cur.col) ∧ W.cell? ⟨b4, 2, none⟩ = some (.bool s.cur.wrap) ∧ W.cell? ⟨b4, 3, none⟩ = some (.int .i64 s.cur.a.fg) ∧ W.cell? ⟨b4, 4, none⟩ = some (.int .i64 s.cur.a.bg) ∧ W.cell? ⟨b4, 5, none⟩ = some (.int .i64 s.cur.a.flags) ∧ W.cell? ⟨b4, 6, none⟩ = some (.int .i64 s.cur.g0) ∧ W.cell? ⟨b4, 7, none⟩ = some (.int .i64 s.cur.g1) ∧ W.cell? ⟨b4, 8, none⟩ = some (.int .i64 s.cur.shift) ∧ W.cell? ⟨b4, 9, none⟩ = some (.bool s.cur.origin) ∧ W.cell? ⟨w.heap.size, 0, none⟩ = some (.int .i64 r) ∧ W.cell? ⟨w.heap.size, 1, none⟩ = some (.int .i64 n))) := Lib.hid fun W hb =>
      have k := Blk.kept HK.out hb
      have d := Blk.kept HD2.out hb
      ⟨Blk.cell k 0, Blk.cell k 1, Blk.cell k 2, Blk.cell k 3, Blk.cell k 4, Blk.cell k 5, Blk.cell k 6, Blk.cell k 7, Blk.cell k 8, Blk.cell k 9, Blk.cell d 0, Blk.cell d 1⟩
    have hcol : (s.cur.col.toNat : Int) = s.cur.col := by have := F.out.col0; omega
    have hfn : s.cur.col.toNat + n ≤ (lineS s).length := by rw [L.out.len]; have := L.out.cI; omega
    have hroom : (roomS s n).length = (lineS s).length ∧ RowOk (roomS s n) ∧ Held (roomS s n) := room_facts s n L.out F.out.a hfn
    have HIN : Hid (∀ W, Pn W b base s x y z → _) := Lib.hid fun W k => insert_fits (lineS s) s.cur.a s.cur.col.toNat n n (by omega) (.slice (some ⟨g, lineAt s * 6, none⟩) (seenG s).cols.toNat c') W (k.line HXX.out L.out c') L.out.held (by rw [L.out.len]; have := L.out.c40; omega) L.out.ok F.out.a (by omega) (by have := L.out.c40; have := L.out.len; omega)
    rw [hcol] at HIN
    obtain ⟨ins, hins⟩ : ∃ q, hasB s.modes 2 = q := ⟨_, rfl⟩
    have HRM : Hid (roomS s n = bif ins then insertOf (lineS s) s.cur.col.toNat n s.cur.a else lineS s) := Lib.hid (by unfold roomS; rw [hins])
    rw [hins]
    go_upto_if 13 with (fail)
    go_cut [5] from 14 to 24 (fun s5 wx => Hid (Cs wx s5 (roomS s n)) ∧ Hid (Below w2.heap.size w2 wx))
    case first =>
      cases ins
      · go_wp2_with fail
        go_meet
        exact ⟨Lib.hid (by rw [HRM.out]; exact H2.out.line HXX.out L.out c'), Lib.hid (Below.refl _ _)⟩
      · have q2 := HQ.out w2 (Below.refl _ _)
        go_wp2_with fail
        refine (HIN.out w2 H2.out).mono ?_; rintro e w3 ⟨v3, rfl, ho3, hb3⟩
        have HO3 := Lib.hid ho3.cs
        have HB3 := Lib.hid hb3
        clear ho3 hb3 q2
        go_wp2_with fail
        go_meet
        exact ⟨Lib.hid (by rw [HRM.out]; exact HO3.out), HB3⟩
    case rest =>
      obtain ⟨HV, HB22⟩ := hcut
      rename World => wr
      obtain ⟨A5, c5, rfl, _⟩ := HV.out.form
      have q2 := HQ.out wr.drew HB22.out.drew
      have hfr : s.cur.col.toNat + n ≤ (roomS s n).length := by rw [hroom.1]; exact hfn
      have hml : (mid (roomS s n) s.cur.col.toNat (s.cur.col.toNat + n) (cellsOf q s.cur.a)).length = (seenG s).cols.toNat := by
        have h12 : wid q = 1 ∨ wid q = 2 := by rcases wid_cases q with e | e | e | e <;> omega
        have hcl := cells_length (a := s.cur.a) h12
        have := mid_length (show s.cur.col.toNat ≤ s.cur.col.toNat + n by omega) hfr (cellsOf q s.cur.a)
        rw [hroom.1, L.out.len] at this
        omega
      have HSH := Lib.hid hsh
      have HPT : Hid (∀ W, Cs W (.slice A5 (roomS s n).length c5) (roomS s n) → _) := Lib.hid fun W k => put_fits (roomS s n) s.cur.a s.cur.col.toNat n q (.slice A5 (roomS s n).length c5) W k hroom.2.2 (by rw [hroom.1, L.out.len]; have := L.out.c40; omega) hroom.2.1 F.out.a hr hn hfr
      rw [hcol] at HPT
      have HML := Lib.hid hml
      clear hml hfn hfr hcol hsh hr hins hroom HRM HIN
      obtain ⟨m, hm⟩ : ∃ m, mid (roomS s n) s.cur.col.toNat (s.cur.col.toNat + n) (cellsOf q s.cur.a) = m := ⟨_, rfl⟩
      have HMM := Lib.hid hm
      rw [hm] at HPT HML
      clear hm
      generalize (roomS s n).length = ln at HV HPT ⊢
      generalize roomS s n = rm at HV HPT
      go_upto_region 4 with (fail)
      go_region_held3 (fun w' => w'.cell? ⟨b4, 0, none⟩ = some (.int .i64 s.cur.row) ∧ w'.cell? ⟨b4, 1, none⟩ = some (.int .i64 s.cur.col) ∧ w'.cell? ⟨b4, 2, none⟩ = some (.bool s.cur.wrap) ∧ w'.cell? ⟨b4, 3, none⟩ = some (.int .i64 s.cur.a.fg) ∧ w'.cell? ⟨b4, 4, none⟩ = some (.int .i64 s.cur.a.bg) ∧ w'.cell? ⟨b4, 5, none⟩ = some (.int .i64 s.cur.a.flags) ∧ w'.cell? ⟨b4, 6, none⟩ = some (.int .i64 s.cur.g0) ∧ w'.cell? ⟨b4, 7, none⟩ = some (.int .i64 s.cur.g1) ∧ w'.cell? ⟨b4, 8, none⟩ = some (.int .i64 s.cur.shift) ∧ w'.cell? ⟨b4, 9, none⟩ = some (.bool s.cur.origin) ∧ w'.cell? ⟨w.heap.size, 0, none⟩ = some (.int .i64 r) ∧ w'.cell? ⟨w.heap.size, 1, none⟩ = some (.int .i64 n)) (first | (with_reducible exact q4) | (with_reducible exact q3) | (with_reducible exact q2))
        ((first
          | (have h3 := H3.out; go_at_call 169; refine (HPT.out w3 HV3.out).mono ?_; rintro e w4 ⟨v, rfl, ho, hb⟩; have H4 := Lib.hid (h3.kept hb); have HO4 := Lib.hid ho; have HB4 := Lib.hid (HB3.out.trans (hb.mono HB3.out.size)); have q4 := HQ.out w4 HB4.out; clear ho hb)
          | (go_at_call 170; refine (HSH.out wr.drew).mono ?_; rintro e w3 ⟨rfl, hb⟩; have HB3 : Hid (Below w2.heap.size w2 w3) := Lib.hid (HB22.out.drew.trans (hb.mono HB22.out.size)); have H3 := Lib.hid (H2.out.kept HB3.out); have HV3 := Lib.hid (HV.out.kept ((Below.refl _ _).drew.trans hb)); have q3 := HQ.out w3 HB3.out; clear hb)))
      all_goals
        have HA4 := Lib.hid (HA2.out.trans (HB4.out.mono HA2.out.size))
        go_wp2_with fail
        refine (HLN.out w4 H4.out).mono ?_; rintro e w5 ⟨c2, rfl, hb⟩
        have H5 := Lib.hid (H4.out.kept hb)
        have HO5 := Lib.hid (HO4.out.kept hb)
        have HA5 := Lib.hid (HA4.out.trans (hb.mono HA4.out.size))
        clear hb H2 H3 H4 HO4 HA4 HA2 HB3 HB4 q2 q3 q4 HV3 HV HB22
        have hC1 := L.out.c1
        rcases HO5.out.shape with ⟨_, e0⟩ | ⟨g2, cap2, e0, _, _⟩
        · have := HML.out; rw [e0] at this; simp at this; omega
        rw [HML.out] at e0
        subst e0
        have HSR := Lib.hid (HO5.out.cs.flat.2)
        obtain ⟨w6, hrun, ho6, hon6, hb6⟩ := run_copy_into (ty := 3) (k := lineAt s) (dCap := c2) (sCap := cap2) (H5.out.cells HXX.out) HML.out L.out.fit HSR.out
        have H6 := Lib.hid (H5.out.over HAP.out HXX.out ho6 hon6 hon6.1)
        have HN6 := Lib.hid (Only.trans ⟨HA5.out.size, fun g o _ e => Blk.kept e HA5.out⟩ hon6)
        have HB6 := Lib.hid (hb6 base w (HA5.out.mono HUP.out) ((H5.out.cells HXX.out).lt g rfl).1)
        clear ho6 hon6 hb6 H5 HO5 HA5 HSR HML HLN
        go_wp2_with fail
        go_end0
        rw [HMM.out]
        exact ⟨rfl, H6.out, HN6.out, HB6.out⟩
end Scr
end
section
open Go.RowKit
namespace Scr
open Go.Proofs.YtceaoadlhdgnmaaGreatDoor.Row Wid
theorem penSeen' (s : S) (x y z : Value) (b : Nat) (w : World) (h : SBox w b s x y z) : Calls Tryz.prog 126 #[.pointer (some ⟨b, 0, none⟩)] w fun e w' => e = .returned (.pointer (some ⟨b, seatO s, none⟩)) ∧ w' = w := (penSeen s x y z b w h).mono fun _ _ ⟨h1, h2⟩ => ⟨h1, h2.symm⟩
def passPut (w : World) (b : Nat) (c0 c : Int) (q : Bool) (r : Int) : World := (((w.setCell ⟨b, 8, none⟩ (.int .i64 c0)).setCell ⟨b, 9, none⟩ (.bool q)).setCell ⟨b, 8, none⟩ (.int .i64 c)).setCell ⟨b, 42, none⟩ (.int .i64 r)
theorem Pn.pass {w : World} {b base : Nat} {s : S} {x y z : Value} (h : Pn w b base s x y z) (c0 c : Int) (q : Bool) (r : Int) : Pn (passPut w b c0 c q r) b base (passed s c q r) x y z := by
  refine ⟨Blk.set (Blk.set (Blk.set (Blk.set h.box 8 _) 9 _) 8 _) 42 _, ((((h.own.set h.lt 8 _).set h.lt 9 _).set h.lt 8 _).set h.lt 42 _).as _ rfl rfl rfl, h.lt, ?_⟩
  unfold passPut
  rw [size_set, size_set, size_set, size_set]
  exact h.up
set_option maxHeartbeats 6400000 in
theorem write_here (s : S) (x y z : Value) (b base g n0 cap : Nat) (r : Int) (n : Nat) (w : World) (h : Pn w b base s x y z) (hap : Apart x y) (hok : Ok s) (hX : seenX s x y = .slice (some ⟨g, 0, none⟩) n0 cap)
    (hins : hasB s.modes 2 = false) (hset : setOf s.cur ≠ 1) (hr : wid r = n) (hn : n = 1 ∨ n = 2) (hf : s.cur.col + n ≤ s.main.cols) (hwr : s.cur.wrap = false) :
    Calls Tryz.prog 83 #[.pointer (some ⟨b, 0, none⟩), bodyV r n] w fun e w' => e = .returned (.tuple #[]) ∧ Pn w' b base (passed (withLine s (mid (lineS s) s.cur.col.toNat (s.cur.col.toNat + n) (cellsOf r s.cur.a))) (min (s.cur.col + n) (s.main.cols - 1)) (decide (s.cur.col + n = s.main.cols) && hasB s.modes 1) r) x y z ∧ Below b w w' ∧ ∀ q o, q ≠ b → q < base → w.heap[q]? = some o → w'.heap[q]? = some o := by
  have F := Lib.hid hok.facts
  have H1 := Lib.hid (h.kept (bel_alloc w (bbox r n)))
  have HB1 : Hid ((w.alloc (bbox r n)).heap[w.heap.size]? = some (bbox r n)) := Lib.hid (heap_alloc_new _ _)
  have HO1 := Lib.hid (bel_alloc w (bbox r n))
  have HPT : Hid (∀ W, Pn W b base s x y z → _) := Lib.hid fun W k => put_plain s x y z b base g n0 cap r n W k hap hok hX hins hset hr (by omega) hf
  have HGL : Hid (g < w.heap.size) := Lib.hid ((h.cells hX).lt g rfl).2
  have HLB : Hid (b ≤ base ∧ base ≤ w.heap.size) := Lib.hid ⟨by have := h.lt; omega, h.up⟩
  have HSA := Lib.hid (seat_arr s x y z)
  obtain ⟨p, hp⟩ : ∃ p, seatO s = p := ⟨_, rfl⟩
  rw [hp] at HSA
  have HSE : Hid (∀ W, SBox W b s x y z → Calls Tryz.prog 126 #[.pointer (some ⟨b, 0, none⟩)] W fun e w' => e = .returned (.pointer (some ⟨b, p, none⟩)) ∧ w' = W) := Lib.hid fun W k => by rw [← hp]; exact penSeen' s x y z b W k
  have HC : Hid (∀ W, SBox W b s x y z → W.cell? ⟨b, p + 1, none⟩ = some (.int .i64 s.main.cols)) := Lib.hid fun W k => by rw [k.cell, ← F.out.gc]; exact HSA.out.2.1
  obtain ⟨m, hm⟩ : ∃ m, mid (lineS s) s.cur.col.toNat (s.cur.col.toNat + n) (cellsOf r s.cur.a) = m := ⟨_, rfl⟩
  rw [hm] at HPT ⊢
  obtain ⟨W1, hW1⟩ : ∃ q, hasB s.modes 1 = q := ⟨_, rfl⟩
  have HH : Hid (∀ W, SBox W b s x y z → Calls Tryz.prog 127 #[.pointer (some ⟨b, 0, none⟩), .int .i64 1] W fun e w' => e = .returned (.bool W1) ∧ w' = W) := Lib.hid fun W k => by rw [← hW1]; exact has_any s x y z b 1 W k
  rw [hW1]
  obtain ⟨ce, hce⟩ : ∃ ce, s.cur.col + (n : Int) = ce := ⟨_, rfl⟩
  have hwa : IntKind.i64.wrap (s.cur.col + (n : Int)) = ce := by have := F.out.col0; have := F.out.col1; have := F.out.c40; rw [IntKind.wrap_i64]; omega
  rw [hce] at hf ⊢
  have hwb : IntKind.i64.wrap (s.main.cols - 1) = s.main.cols - 1 := by have := F.out.c1; have := F.out.c40; rw [IntKind.wrap_i64]; omega
  have hng : ¬ s.main.cols < (n : Int) := by have := F.out.col0; omega
  have HCE := Lib.hid hce
  clear hce
  have HWC := Lib.hid (withLine_cur s m)
  clear hp hm hW1 h hap hok hX hins hset hr
  go_enter Tryz.func83, Tryz.ntmps83
  go_upto_region 1 with (fail)
  change Code.wp _ _ _ _ (w.alloc (bbox r n))
  generalize w.alloc (bbox r n) = w1 at H1 HB1 HO1 ⊢
  have H1 := Lib.hid (H1.out.kept (Below.refl _ _).drew)
  have HB1 : Hid (w1.drew.heap[w.heap.size]? = some (bbox r n)) := Lib.hid HB1.out
  have HO1 : Hid (Below w.heap.size w w1.drew) := Lib.hid HO1.out.drew
  have p1 : w1.cell? ⟨b, p + 1, none⟩ = some (.int .i64 s.main.cols) := HC.out w1.drew H1.out.box
  refine wp_region_still_lit (by kernel_rfl) (by kernel_rfl) ?_
  repeat still_step
  still_call (HSE.out _ H1.out.box)
  repeat still_step
  still_call (HH.out _ H1.out.box)
  repeat still_step
  refine wpStill_nil ?_
  show Exit.then _ _ _ _ w1.drew
  clear p1 HSE HH
  generalize w1.drew = w2 at H1 HB1 HO1 ⊢
  have c8 : w2.cell? ⟨b, 8, none⟩ = some (.int .i64 s.cur.col) := H1.out.box.cell 8
  have d0 : w2.cell? ⟨w.heap.size, 0, none⟩ = some (.int .i64 r) := Blk.cell HB1.out 0
  have d1 : w2.cell? ⟨w.heap.size, 1, none⟩ = some (.int .i64 n) := Blk.cell HB1.out 1
  go_upto_region 2 with (fail)
  go_quiet (fail)
  have HQQ := Lib.hid (bel_drewN w2 nq)
  go_upto_region 3 with (fail)
  generalize w2.drewN nq = w3 at HQQ ⊢
  have H3 := Lib.hid (H1.out.kept HQQ.out)
  have HB3 := Lib.hid (Blk.kept HB1.out HQQ.out)
  have HO3 := Lib.hid (HO1.out.trans (HQQ.out.mono HO1.out.size))
  clear c8 d0 d1 H1 HB1 HO1 HQQ
  have c9 : w3.cell? ⟨b, 9, none⟩ = some (.bool false) := by rw [← hwr]; exact H3.out.box.cell 9
  have d0 : w3.cell? ⟨w.heap.size, 0, none⟩ = some (.int .i64 r) := Blk.cell HB3.out 0
  have d1 : w3.cell? ⟨w.heap.size, 1, none⟩ = some (.int .i64 n) := Blk.cell HB3.out 1
  cases W1
  · go_wp2_with fail
    refine (HPT.out w3 H3.out).mono ?_; rintro e w4 ⟨rfl, hp, hon, hb⟩
    have H4 := Lib.hid hp
    have HB4 := Lib.hid (hon.2 _ _ (by have := HGL.out; omega) HB3.out)
    have HO4 : Hid (Below b w w4) := Lib.hid ((HO3.out.mono (by have := HLB.out; omega)).trans (hb.mono HLB.out.1))
    have HF4 : Hid (∀ (q : Nat) (o : Obj), q < base → w.heap[q]? = some o → w4.heap[q]? = some o) := Lib.hid fun q o hq e => (hb.block q hq).trans (Blk.kept e HO3.out)
    clear hp hon hb c9 d0 d1 HPT H3 HB3 HO3
    have HE : Hid (∀ c0 c q, Pn (passPut w4 b c0 c q r).drew b base (passed (withLine s m) c q r) x y z ∧ Below b w (passPut w4 b c0 c q r).drew ∧ ∀ k o, k ≠ b → k < base → w.heap[k]? = some o → (passPut w4 b c0 c q r).drew.heap[k]? = some o) := Lib.hid fun c0 c q =>
      ⟨(H4.out.pass c0 c q r).kept (Below.refl _ _).drew, ((((HO4.out.setCell (show b ≤ b by omega) _).setCell (show b ≤ b by omega) _).setCell (show b ≤ b by omega) _).setCell (show b ≤ b by omega) _).drew, fun k o hk hl e => Blk.other (Blk.other (Blk.other (Blk.other (HF4.out k o hl e) hk _ _) hk _ _) hk _ _) hk _ _⟩
    have c8 : w4.cell? ⟨b, 8, none⟩ = some (.int .i64 s.cur.col) := by have k := H4.out.box.cell 8; rw [sarr_8, HWC.out.1] at k; exact k
    have c9 : w4.cell? ⟨b, 9, none⟩ = some (.bool s.cur.wrap) := by have k := H4.out.box.cell 9; rw [sarr_9, HWC.out.1] at k; exact k
    have c42 : w4.cell? ⟨b, 42, none⟩ = some (.int .i64 (withLine s m).last) := H4.out.box.cell 42
    have d0 : w4.cell? ⟨w.heap.size, 0, none⟩ = some (.int .i64 r) := Blk.cell HB4.out 0
    have d1 : w4.cell? ⟨w.heap.size, 1, none⟩ = some (.int .i64 n) := Blk.cell HB4.out 1
    have f4 : ∀ j, w4.frozen? ⟨b, j, none⟩ = false := H4.out.box.free
    have hne : w.heap.size ≠ b := by have h1 := HGL.out; have h2 := H4.out.lt; have h3 := HLB.out; omega
    clear hwr
    by_cases he : ce = s.main.cols
    · subst he
      go_upto_region 8 with (fail)
      go_region
      all_goals
        go_wp2_with fail
        go_end0
        exact ⟨rfl, HE.out _ _ _⟩
    · go_upto_region 8 with (fail)
      go_region
      all_goals
        go_wp2_with fail
        go_end0
        rw [show decide (ce = s.main.cols) = false from decide_eq_false he, Bool.false_and]
        exact ⟨rfl, HE.out _ _ _⟩
  · go_wp2_with fail
    refine (HPT.out w3 H3.out).mono ?_; rintro e w4 ⟨rfl, hp, hon, hb⟩
    have H4 := Lib.hid hp
    have HB4 := Lib.hid (hon.2 _ _ (by have := HGL.out; omega) HB3.out)
    have HO4 : Hid (Below b w w4) := Lib.hid ((HO3.out.mono (by have := HLB.out; omega)).trans (hb.mono HLB.out.1))
    have HF4 : Hid (∀ (q : Nat) (o : Obj), q < base → w.heap[q]? = some o → w4.heap[q]? = some o) := Lib.hid fun q o hq e => (hb.block q hq).trans (Blk.kept e HO3.out)
    clear hp hon hb c9 d0 d1 HPT H3 HB3 HO3
    have HE : Hid (∀ c0 c q, Pn (passPut w4 b c0 c q r).drew b base (passed (withLine s m) c q r) x y z ∧ Below b w (passPut w4 b c0 c q r).drew ∧ ∀ k o, k ≠ b → k < base → w.heap[k]? = some o → (passPut w4 b c0 c q r).drew.heap[k]? = some o) := Lib.hid fun c0 c q =>
      ⟨(H4.out.pass c0 c q r).kept (Below.refl _ _).drew, ((((HO4.out.setCell (show b ≤ b by omega) _).setCell (show b ≤ b by omega) _).setCell (show b ≤ b by omega) _).setCell (show b ≤ b by omega) _).drew, fun k o hk hl e => Blk.other (Blk.other (Blk.other (Blk.other (HF4.out k o hl e) hk _ _) hk _ _) hk _ _) hk _ _⟩
    have c8 : w4.cell? ⟨b, 8, none⟩ = some (.int .i64 s.cur.col) := by have k := H4.out.box.cell 8; rw [sarr_8, HWC.out.1] at k; exact k
    have c9 : w4.cell? ⟨b, 9, none⟩ = some (.bool s.cur.wrap) := by have k := H4.out.box.cell 9; rw [sarr_9, HWC.out.1] at k; exact k
    have c42 : w4.cell? ⟨b, 42, none⟩ = some (.int .i64 (withLine s m).last) := H4.out.box.cell 42
    have d0 : w4.cell? ⟨w.heap.size, 0, none⟩ = some (.int .i64 r) := Blk.cell HB4.out 0
    have d1 : w4.cell? ⟨w.heap.size, 1, none⟩ = some (.int .i64 n) := Blk.cell HB4.out 1
    have f4 : ∀ j, w4.frozen? ⟨b, j, none⟩ = false := H4.out.box.free
    have hne : w.heap.size ≠ b := by have h1 := HGL.out; have h2 := H4.out.lt; have h3 := HLB.out; omega
    clear hwr
    by_cases he : ce = s.main.cols
    · subst he
      go_upto_region 8 with (fail)
      go_region
      all_goals
        go_wp2_with fail
        go_end0
        exact ⟨rfl, HE.out _ _ _⟩
    · go_upto_region 8 with (fail)
      go_region
      all_goals
        go_wp2_with fail
        go_end0
        rw [show decide (ce = s.main.cols) = false from decide_eq_false he, Bool.false_and]
        exact ⟨rfl, HE.out _ _ _⟩
end Scr
end
section
open Go.RowKit
namespace Scr
open Go.Proofs.YtceaoadlhdgnmaaGreatDoor.Row Wid
set_option maxHeartbeats 6400000 in
theorem write_fits (s : S) (x y z : Value) (b base g n0 cap : Nat) (r q0 : Int) (n : Nat) (w : World) (h : Pn w b base s x y z) (hap : Apart x y) (hok : Ok s) (hX : seenX s x y = .slice (some ⟨g, 0, none⟩) n0 cap)
    (hsh : ∀ W, Calls Tryz.prog 170 #[curV s.cur, .int .i64 r] W fun e w' => e = .returned (.int .i64 q0) ∧ Below W.heap.size W w') (hr : wid q0 = n) (hn : n = 1 ∨ n = 2) (hf : s.cur.col + n ≤ s.main.cols) (hwr : hasB s.modes 1 = true → s.cur.wrap = false) :
    Calls Tryz.prog 83 #[.pointer (some ⟨b, 0, none⟩), bodyV r n] w fun e w' => e = .returned (.tuple #[]) ∧ Pn w' b base (passed (withLine s (mid (roomS s n) s.cur.col.toNat (s.cur.col.toNat + n) (cellsOf q0 s.cur.a))) (min (s.cur.col + n) (s.main.cols - 1)) (decide (s.cur.col + n = s.main.cols) && hasB s.modes 1) r) x y z ∧ Below b w w' ∧ ∀ q o, q ≠ b → q < base → w.heap[q]? = some o → w'.heap[q]? = some o := by
  have F := Lib.hid hok.facts
  have H1 := Lib.hid (h.kept (bel_alloc w (bbox r n)))
  have HB1 : Hid ((w.alloc (bbox r n)).heap[w.heap.size]? = some (bbox r n)) := Lib.hid (heap_alloc_new _ _)
  have HO1 := Lib.hid (bel_alloc w (bbox r n))
  have HPT : Hid (∀ W, Pn W b base s x y z → _) := Lib.hid fun W k => put_any s x y z b base g n0 cap r q0 n W k hap hok hX hsh hr (by omega) hf
  have HGL : Hid (g < w.heap.size) := Lib.hid ((h.cells hX).lt g rfl).2
  have HLB : Hid (b ≤ base ∧ base ≤ w.heap.size) := Lib.hid ⟨by have := h.lt; omega, h.up⟩
  have HSA := Lib.hid (seat_arr s x y z)
  obtain ⟨p, hp⟩ : ∃ p, seatO s = p := ⟨_, rfl⟩
  rw [hp] at HSA
  have HSE : Hid (∀ W, SBox W b s x y z → Calls Tryz.prog 126 #[.pointer (some ⟨b, 0, none⟩)] W fun e w' => e = .returned (.pointer (some ⟨b, p, none⟩)) ∧ w' = W) := Lib.hid fun W k => by rw [← hp]; exact penSeen' s x y z b W k
  have HC : Hid (∀ W, SBox W b s x y z → W.cell? ⟨b, p + 1, none⟩ = some (.int .i64 s.main.cols)) := Lib.hid fun W k => by rw [k.cell, ← F.out.gc]; exact HSA.out.2.1
  obtain ⟨m, hm⟩ : ∃ m, mid (roomS s n) s.cur.col.toNat (s.cur.col.toNat + n) (cellsOf q0 s.cur.a) = m := ⟨_, rfl⟩
  rw [hm] at HPT ⊢
  obtain ⟨W1, hW1⟩ : ∃ q, hasB s.modes 1 = q := ⟨_, rfl⟩
  have HH : Hid (∀ W, SBox W b s x y z → Calls Tryz.prog 127 #[.pointer (some ⟨b, 0, none⟩), .int .i64 1] W fun e w' => e = .returned (.bool W1) ∧ w' = W) := Lib.hid fun W k => by rw [← hW1]; exact has_any s x y z b 1 W k
  rw [hW1]
  obtain ⟨ce, hce⟩ : ∃ ce, s.cur.col + (n : Int) = ce := ⟨_, rfl⟩
  have hwa : IntKind.i64.wrap (s.cur.col + (n : Int)) = ce := by have := F.out.col0; have := F.out.col1; have := F.out.c40; rw [IntKind.wrap_i64]; omega
  rw [hce] at hf ⊢
  have hwb : IntKind.i64.wrap (s.main.cols - 1) = s.main.cols - 1 := by have := F.out.c1; have := F.out.c40; rw [IntKind.wrap_i64]; omega
  have hng : ¬ s.main.cols < (n : Int) := by have := F.out.col0; omega
  have HCE := Lib.hid hce
  clear hce
  have HWC := Lib.hid (withLine_cur s m)
  rw [hW1] at hwr
  clear hp hm hW1 h hap hok hX hsh hr
  go_enter Tryz.func83, Tryz.ntmps83
  go_upto_region 1 with (fail)
  change Code.wp _ _ _ _ (w.alloc (bbox r n))
  generalize w.alloc (bbox r n) = w1 at H1 HB1 HO1 ⊢
  have H1 := Lib.hid (H1.out.kept (Below.refl _ _).drew)
  have HB1 : Hid (w1.drew.heap[w.heap.size]? = some (bbox r n)) := Lib.hid HB1.out
  have HO1 : Hid (Below w.heap.size w w1.drew) := Lib.hid HO1.out.drew
  have p1 : w1.cell? ⟨b, p + 1, none⟩ = some (.int .i64 s.main.cols) := HC.out w1.drew H1.out.box
  refine wp_region_still_lit (by kernel_rfl) (by kernel_rfl) ?_
  repeat still_step
  still_call (HSE.out _ H1.out.box)
  repeat still_step
  still_call (HH.out _ H1.out.box)
  repeat still_step
  refine wpStill_nil ?_
  show Exit.then _ _ _ _ w1.drew
  clear p1 HSE HH
  generalize w1.drew = w2 at H1 HB1 HO1 ⊢
  have c8 : w2.cell? ⟨b, 8, none⟩ = some (.int .i64 s.cur.col) := H1.out.box.cell 8
  have d0 : w2.cell? ⟨w.heap.size, 0, none⟩ = some (.int .i64 r) := Blk.cell HB1.out 0
  have d1 : w2.cell? ⟨w.heap.size, 1, none⟩ = some (.int .i64 n) := Blk.cell HB1.out 1
  go_upto_region 2 with (fail)
  go_quiet (fail)
  have HQQ := Lib.hid (bel_drewN w2 nq)
  go_upto_region 3 with (fail)
  generalize w2.drewN nq = w3 at HQQ ⊢
  have H3 := Lib.hid (H1.out.kept HQQ.out)
  have HB3 := Lib.hid (Blk.kept HB1.out HQQ.out)
  have HO3 := Lib.hid (HO1.out.trans (HQQ.out.mono HO1.out.size))
  clear c8 d0 d1 H1 HB1 HO1 HQQ
  have c9 : w3.cell? ⟨b, 9, none⟩ = some (.bool s.cur.wrap) := H3.out.box.cell 9
  have d0 : w3.cell? ⟨w.heap.size, 0, none⟩ = some (.int .i64 r) := Blk.cell HB3.out 0
  have d1 : w3.cell? ⟨w.heap.size, 1, none⟩ = some (.int .i64 n) := Blk.cell HB3.out 1
  cases W1
  · go_wp2_with fail
    refine (HPT.out w3 H3.out).mono ?_; rintro e w4 ⟨rfl, hp, hon, hb⟩
    have H4 := Lib.hid hp
    have HB4 := Lib.hid (hon.2 _ _ (by have := HGL.out; omega) HB3.out)
    have HO4 : Hid (Below b w w4) := Lib.hid ((HO3.out.mono (by have := HLB.out; omega)).trans (hb.mono HLB.out.1))
    have HF4 : Hid (∀ (q : Nat) (o : Obj), q < base → w.heap[q]? = some o → w4.heap[q]? = some o) := Lib.hid fun q o hq e => (hb.block q hq).trans (Blk.kept e HO3.out)
    clear hp hon hb c9 d0 d1 HPT H3 HB3 HO3
    have HE : Hid (∀ c0 c q, Pn (passPut w4 b c0 c q r).drew b base (passed (withLine s m) c q r) x y z ∧ Below b w (passPut w4 b c0 c q r).drew ∧ ∀ k o, k ≠ b → k < base → w.heap[k]? = some o → (passPut w4 b c0 c q r).drew.heap[k]? = some o) := Lib.hid fun c0 c q =>
      ⟨(H4.out.pass c0 c q r).kept (Below.refl _ _).drew, ((((HO4.out.setCell (show b ≤ b by omega) _).setCell (show b ≤ b by omega) _).setCell (show b ≤ b by omega) _).setCell (show b ≤ b by omega) _).drew, fun k o hk hl e => Blk.other (Blk.other (Blk.other (Blk.other (HF4.out k o hl e) hk _ _) hk _ _) hk _ _) hk _ _⟩
    have c8 : w4.cell? ⟨b, 8, none⟩ = some (.int .i64 s.cur.col) := by have k := H4.out.box.cell 8; rw [sarr_8, HWC.out.1] at k; exact k
    have c9 : w4.cell? ⟨b, 9, none⟩ = some (.bool s.cur.wrap) := by have k := H4.out.box.cell 9; rw [sarr_9, HWC.out.1] at k; exact k
    have c42 : w4.cell? ⟨b, 42, none⟩ = some (.int .i64 (withLine s m).last) := H4.out.box.cell 42
    have d0 : w4.cell? ⟨w.heap.size, 0, none⟩ = some (.int .i64 r) := Blk.cell HB4.out 0
    have d1 : w4.cell? ⟨w.heap.size, 1, none⟩ = some (.int .i64 n) := Blk.cell HB4.out 1
    have f4 : ∀ j, w4.frozen? ⟨b, j, none⟩ = false := H4.out.box.free
    have hne : w.heap.size ≠ b := by have h1 := HGL.out; have h2 := H4.out.lt; have h3 := HLB.out; omega
    clear hwr
    by_cases he : ce = s.main.cols
    · subst he
      go_upto_region 8 with (fail)
      go_region
      all_goals
        go_wp2_with fail
        go_end0
        exact ⟨rfl, HE.out _ _ _⟩
    · go_upto_region 8 with (fail)
      go_region
      all_goals
        go_wp2_with fail
        go_end0
        rw [show decide (ce = s.main.cols) = false from decide_eq_false he, Bool.false_and]
        exact ⟨rfl, HE.out _ _ _⟩
  · rw [hwr rfl] at c9
    go_wp2_with fail
    refine (HPT.out w3 H3.out).mono ?_; rintro e w4 ⟨rfl, hp, hon, hb⟩
    have H4 := Lib.hid hp
    have HB4 := Lib.hid (hon.2 _ _ (by have := HGL.out; omega) HB3.out)
    have HO4 : Hid (Below b w w4) := Lib.hid ((HO3.out.mono (by have := HLB.out; omega)).trans (hb.mono HLB.out.1))
    have HF4 : Hid (∀ (q : Nat) (o : Obj), q < base → w.heap[q]? = some o → w4.heap[q]? = some o) := Lib.hid fun q o hq e => (hb.block q hq).trans (Blk.kept e HO3.out)
    clear hp hon hb c9 d0 d1 HPT H3 HB3 HO3
    have HE : Hid (∀ c0 c q, Pn (passPut w4 b c0 c q r).drew b base (passed (withLine s m) c q r) x y z ∧ Below b w (passPut w4 b c0 c q r).drew ∧ ∀ k o, k ≠ b → k < base → w.heap[k]? = some o → (passPut w4 b c0 c q r).drew.heap[k]? = some o) := Lib.hid fun c0 c q =>
      ⟨(H4.out.pass c0 c q r).kept (Below.refl _ _).drew, ((((HO4.out.setCell (show b ≤ b by omega) _).setCell (show b ≤ b by omega) _).setCell (show b ≤ b by omega) _).setCell (show b ≤ b by omega) _).drew, fun k o hk hl e => Blk.other (Blk.other (Blk.other (Blk.other (HF4.out k o hl e) hk _ _) hk _ _) hk _ _) hk _ _⟩
    have c8 : w4.cell? ⟨b, 8, none⟩ = some (.int .i64 s.cur.col) := by have k := H4.out.box.cell 8; rw [sarr_8, HWC.out.1] at k; exact k
    have c9 : w4.cell? ⟨b, 9, none⟩ = some (.bool s.cur.wrap) := by have k := H4.out.box.cell 9; rw [sarr_9, HWC.out.1] at k; exact k
    have c42 : w4.cell? ⟨b, 42, none⟩ = some (.int .i64 (withLine s m).last) := H4.out.box.cell 42
    have d0 : w4.cell? ⟨w.heap.size, 0, none⟩ = some (.int .i64 r) := Blk.cell HB4.out 0
    have d1 : w4.cell? ⟨w.heap.size, 1, none⟩ = some (.int .i64 n) := Blk.cell HB4.out 1
    have f4 : ∀ j, w4.frozen? ⟨b, j, none⟩ = false := H4.out.box.free
    have hne : w.heap.size ≠ b := by have h1 := HGL.out; have h2 := H4.out.lt; have h3 := HLB.out; omega
    clear hwr
    by_cases he : ce = s.main.cols
    · subst he
      go_upto_region 8 with (fail)
      go_region
      all_goals
        go_wp2_with fail
        go_end0
        exact ⟨rfl, HE.out _ _ _⟩
    · go_upto_region 8 with (fail)
      go_region
      all_goals
        go_wp2_with fail
        go_end0
        rw [show decide (ce = s.main.cols) = false from decide_eq_false he, Bool.false_and]
        exact ⟨rfl, HE.out _ _ _⟩
end Scr
end
section
open Go.RowKit
namespace Scr
open Go.Proofs.YtceaoadlhdgnmaaGreatDoor.Row Wid
theorem Pn.shape {w : World} {b base : Nat} {s : S} {x y z : Value} (h : Pn w b base s x y z) (hok : Ok s) : ∃ g n cap, seenX s x y = .slice (some ⟨g, 0, none⟩) n cap := by
  have hX : OwnCs w base (seenX s x y) (seenG s).cells := by
    unfold seenX seenG; cases s.swapped
    · exact h.own.m
    · exact h.own.o
  rcases hX.shape with ⟨_, e⟩ | ⟨g, cap, e, _, _⟩
  · have h1 := hok.line.fit; have h2 := hok.line.c1; rw [e] at h1; simp at h1; omega
  · exact ⟨g, _, cap, e⟩
set_option maxHeartbeats 6400000 in
theorem rune_here (s : S) (x y z : Value) (r : Int) (n : Nat) (w : World) (h : In w s x y z) (hh : Holds s) (hT : Tabs w) (hok : okB s = true)
    (hins : hasB s.modes 2 = false) (hset : setOf s.cur ≠ 1) (hr : wid r = n) (hn : n = 1 ∨ n = 2) (hf : s.cur.col + n ≤ s.main.cols) (hwr : s.cur.wrap = false) :
    Calls Tryz.prog 33 #[sv s x y z, .int .i64 r] w fun e w' => ∃ x' y' z', e = .returned (.tuple #[sv (hereS s r n) x' y' z', .int .i64 0]) ∧ Own w' w.heap.size (hereS s r n) x' y' z' ∧ Below w.heap.size w w' := by
  have HI := Lib.hid h
  have H0 := Lib.hid (Rz.start w s x y z)
  have HOK := Lib.hid ((ok_iff s).1 hok)
  have HCK : Hid (∀ W, Below w.heap.size w W → Calls Tryz.prog 74 #[sv s x y z] W fun e w' => e = .returned (.int .i64 0) ∧ Below W.heap.size W w') := Lib.hid fun W hb => by
    have k := check_any s x y z W (h.kept hb) hh (hT.kept hb)
    rw [hok] at k
    exact k
  have HLK := Lib.hid (fun W => look_body r n hr hn W)
  have HWR : Hid (∀ W b base x y z g n0 cap, Pn W b base s x y z → Apart x y → seenX s x y = .slice (some ⟨g, 0, none⟩) n0 cap → _) := Lib.hid fun W b base x y z g n0 cap k ka kx => write_here s x y z b base g n0 cap r n W k ka HOK.out kx hins hset hr hn hf hwr
  clear h hh hT hok hins hset hr hn hf hwr
  go_enter Tryz.func33, Tryz.ntmps33
  go_wp2_with (refine wp_allocS1 (w := w) rfl rfl ?_)
  refine (HLK.out _).mono ?_; rintro e w1 ⟨rfl, hb⟩
  have H1 := Lib.hid (H0.out.kept hb)
  clear hb H0 HLK
  have H2 : Hid (∀ o, Rz w s x y z (w1.alloc o)) := Lib.hid fun o => H1.out.kept (bel_alloc w1 o)
  go_wp2_with (refine wp_loadS (b := w.heap.size) (s := s) rfl rfl rfl (H2.out _).b0 ?_)
  refine (HCK.out _ (H2.out _).bel).mono ?_; rintro e w3 ⟨rfl, hb⟩
  have H3 := Lib.hid ((H2.out _).kept hb)
  clear hb H1 H2 HCK
  go_wp2_with (refine wp_loadS (b := w.heap.size) (s := s) rfl rfl rfl H3.out.b0 ?_)
  refine (copied_any s x y z _ (HI.out.kept H3.out.bel) HOK.out.lens).mono ?_; rintro e w4 ⟨x4, y4, z4, rfl, ho, hap, hb⟩
  have H4 := Lib.hid (H3.out.kept hb)
  have HO4 := Lib.hid (ho.low H3.out.up)
  have HAP := Lib.hid hap
  clear ho hb hap H3
  go_wp2_with (refine wp_storeS_then (b := w.heap.size) (A := sarr s x4 y4 z4) (T := Pb w s x4 y4 z4) rfl rfl rfl rfl rfl HO4.out.in_.one H4.out.b0 rfl (fun _ k => Pb.start H4.out HO4.out k) ?_; intro w5 H5)
  obtain ⟨g, n0, cap, hX⟩ := H5.out.pn.shape HOK.out
  refine (HWR.out w5 w.heap.size (w.heap.size + 2) x4 y4 z4 g n0 cap H5.out.pn HAP.out hX).mono ?_; rintro e w6 ⟨rfl, hp, hb, hfr⟩
  have HW : Hid (Pb w (hereS s r n) x4 y4 z4 w6) := Lib.hid ⟨hp, hfr _ _ (by omega) (by omega) H5.out.b1, H5.out.bel.trans hb⟩
  clear hp hb hfr hX H5 H4 HO4 HWR
  go_wp2_with (first
    | (refine wp_loadS (b := w.heap.size) (s := hereS s r n) rfl rfl rfl HW.out.pn.box ?_)
    | (refine wp_storeS (b := w.heap.size + 1) rfl rfl rfl rfl rfl HW.out.pn.own.in_.one HW.out.b1 rfl ?_; intro w9 h9))
  refine bodyPost_ret (ret2S rfl rfl h9.box rfl) rfl ?_
  exact ⟨_, _, _, rfl, Own.low (h9.own HW.out.pn.own (by omega)) (by omega), h9.below _ _ (by omega) HW.out.bel⟩
end Scr
end
section
open Go.RowKit
namespace Scr
open Go.Proofs.YtceaoadlhdgnmaaGreatDoor.Row Wid
theorem num9 (n : Int) (w : World) : Calls Tryz.prog 92 #[.int .i64 n] w fun e w' => e = .returned (.int .i64 n) ∧ w' = w := by
  go_enter Tryz.func92, Tryz.ntmps92
  go_wp2_with fail
  go_ret
  exact ⟨rfl, rfl⟩
theorem num9_then {w : World} {n : Int} {Q : Ending → World → Prop} (hQ : Q (.returned (.int .i64 n)) w) : Calls Tryz.prog 92 #[.int .i64 n] w Q :=
  (num9 n w).mono (by rintro e w' ⟨rfl, rfl⟩; exact hQ)
def twoS : S := hereS (hereS (newS 1 2) 97 1) 98 1
theorem two_facts : (hereS (newS 1 2) 97 1).cur.col = 1 ∧ (hereS (newS 1 2) 97 1).cur.wrap = false ∧ (hereS (newS 1 2) 97 1).main.cols = 2 ∧ hasB (hereS (newS 1 2) 97 1).modes 2 = false ∧ setOf (hereS (newS 1 2) 97 1).cur = 0 ∧
    twoS.main.cells.length = 2 ∧ (g twoS.main.cells 1).rune = 98 ∧ twoS.cur.wrap = true := by
  refine ⟨?_, ?_, ?_, ?_, ?_, ?_, ?_, ?_⟩ <;> kernel_rfl
theorem one_facts : hasB (newS 1 2).modes 2 = false ∧ setOf (newS 1 2).cur = 0 ∧ wid 97 = 1 ∧ wid 98 = 1 := by
  refine ⟨?_, ?_, ?_, ?_⟩ <;> kernel_rfl
end Scr
end
section
open Go.RowKit
namespace Scr
open Go.Proofs.YtceaoadlhdgnmaaGreatDoor.Row Wid
theorem shown_any (k : Cur) (r : Int) (w : World) : Calls Tryz.prog 170 #[curV k, .int .i64 r] w fun e w' => e = .returned (.int .i64 (shownS k r)) ∧ Below w.heap.size w w' := by
  unfold shownS
  split
  · rename_i h
    exact shown_lines k r h w
  · rename_i h
    exact shown_plain k r h w
end Scr
end
section
open Go.RowKit
namespace Scr
open Go.Proofs.YtceaoadlhdgnmaaGreatDoor.Row Wid
theorem down_pen (s : S) (x y z : Value) (b base : Nat) (w : World) (h : Pn w b base s x y z) (hok : Ok s) :
    Calls Tryz.prog 128 #[.pointer (some ⟨b, 0, none⟩)] w fun e w' => e = .returned (.tuple #[]) ∧ ∃ x' y', Pn w' b base (downS s) x' y' z ∧ (Apart x y → Apart x' y') ∧ Below b w w' ∧ Only b w w' := by
  unfold downS
  split
  · rename_i hr
    exact pdown_move s x y z b base w h hok hr
  · rename_i hr
    exact pdown_step s x y z b base w h hok hr
theorem Pn.col {w : World} {b base : Nat} {s : S} {x y z : Value} (h : Pn w b base s x y z) (c : Int) : Pn (w.setCell ⟨b, 8, none⟩ (.int .i64 c)) b base (atCol s c) x y z := by
  refine ⟨Blk.set h.box 8 _, (h.own.set h.lt 8 _).as _ rfl rfl rfl, h.lt, ?_⟩
  rw [size_set]
  exact h.up
theorem body_ne {w : World} {base g n cap k : Nat} {l : List Cl} {r : Int} {m : Nat} (h : OwnCs w base (.slice (some ⟨g, 0, none⟩) n cap) l) (e : w.heap[k]? = some (bbox r m)) : k ≠ g := by
  rintro rfl
  rcases h.2 with ⟨hv, _⟩ | ⟨g', cap', cur, hv, _, hg, _⟩
  · cases hv
  · injection hv with hv
    injection hv with hv
    injection hv with hv
    subst hv
    rw [hg] at e
    injection e with e
    injection e with _ e _
    exact absurd e (by decide)
def Frm (b base : Nat) (w w' : World) : Prop := Below b w w' ∧ ∀ (q : Nat) (o : Obj), q ≠ b → q < base → w.heap[q]? = some o → w'.heap[q]? = some o
theorem Frm.start {b base : Nat} {w w' : World} (h : Below w.heap.size w w') (h1 : b ≤ base) (h2 : base ≤ w.heap.size) : Frm b base w w' := ⟨h.mono (Nat.le_trans h1 h2), fun _ _ _ _ e => Blk.kept e h⟩
theorem Frm.only {b base : Nat} {w w1 w2 : World} (h : Frm b base w w1) (hb : Below b w1 w2) (ho : Only b w1 w2) : Frm b base w w2 := ⟨h.1.trans hb, fun q o hq hl e => ho.2 q o hq (h.2 q o hq hl e)⟩
theorem Frm.set {b base : Nat} {w w1 : World} (h : Frm b base w w1) (j : Nat) (u : Value) : Frm b base w (w1.setCell ⟨b, j, none⟩ u) := ⟨h.1.setCell (Nat.le_refl b) _, fun q o hq hl e => Blk.other (h.2 q o hq hl e) hq _ _⟩
theorem Frm.bel {b base : Nat} {w w1 w2 : World} (h : Frm b base w w1) (hb : b ≤ base) (h2 : Below base w1 w2) : Frm b base w w2 := ⟨h.1.trans (h2.mono hb), fun q o hq hl e => (h2.block q hl).trans (h.2 q o hq hl e)⟩
theorem Frm.drew {b base : Nat} {w w1 : World} (h : Frm b base w w1) : Frm b base w w1.drew := ⟨h.1.drew, h.2⟩
set_option maxHeartbeats 6400000 in
theorem write_wrap (s : S) (x y z : Value) (b base : Nat) (r q0 : Int) (n : Nat) (w : World) (h : Pn w b base s x y z) (hap : Apart x y) (hok : Ok s)
    (hsh : ∀ W, Calls Tryz.prog 170 #[curV (wrapS s).cur, .int .i64 r] W fun e w' => e = .returned (.int .i64 q0) ∧ Below W.heap.size W w') (hr : wid q0 = n) (hn : n = 1 ∨ n = 2) (hW : hasB s.modes 1 = true) (hf : (n : Int) ≤ s.main.cols) (hwr : s.cur.wrap = true ∨ (s.cur.wrap = false ∧ ¬ s.cur.col + n ≤ s.main.cols)) :
    Calls Tryz.prog 83 #[.pointer (some ⟨b, 0, none⟩), bodyV r n] w fun e w' => e = .returned (.tuple #[]) ∧ ∃ x' y', Pn w' b base (passed (withLine (wrapS s) (mid (roomS (wrapS s) n) (wrapS s).cur.col.toNat ((wrapS s).cur.col.toNat + n) (cellsOf q0 (wrapS s).cur.a))) (min n (s.main.cols - 1)) (decide ((n : Int) = s.main.cols)) r) x' y' z ∧ Apart x' y' ∧ Frm b base w w' := by
  have F := Lib.hid hok.facts
  have H1 := Lib.hid (h.kept (bel_alloc w (bbox r n)))
  have HB1 : Hid ((w.alloc (bbox r n)).heap[w.heap.size]? = some (bbox r n)) := Lib.hid (heap_alloc_new _ _)
  have HO1 := Lib.hid (bel_alloc w (bbox r n))
  have HLB : Hid (b ≤ base ∧ base ≤ w.heap.size) := Lib.hid ⟨by have := h.lt; omega, h.up⟩
  have HSA := Lib.hid (seat_arr s x y z)
  obtain ⟨p, hp⟩ : ∃ p, seatO s = p := ⟨_, rfl⟩
  rw [hp] at HSA
  have HSE : Hid (∀ W, SBox W b s x y z → Calls Tryz.prog 126 #[.pointer (some ⟨b, 0, none⟩)] W fun e w' => e = .returned (.pointer (some ⟨b, p, none⟩)) ∧ w' = W) := Lib.hid fun W k => by rw [← hp]; exact penSeen' s x y z b W k
  have HC : Hid (∀ W, SBox W b s x y z → W.cell? ⟨b, p + 1, none⟩ = some (.int .i64 s.main.cols)) := Lib.hid fun W k => by rw [k.cell, ← F.out.gc]; exact HSA.out.2.1
  obtain ⟨W1, hW1⟩ : ∃ q, hasB s.modes 1 = q := ⟨_, rfl⟩
  have HH : Hid (∀ W, SBox W b s x y z → Calls Tryz.prog 127 #[.pointer (some ⟨b, 0, none⟩), .int .i64 1] W fun e w' => e = .returned (.bool W1) ∧ w' = W) := Lib.hid fun W k => by rw [← hW1]; exact has_any s x y z b 1 W k
  obtain ⟨ce, hce⟩ : ∃ ce, s.cur.col + (n : Int) = ce := ⟨_, rfl⟩
  have hwa : IntKind.i64.wrap (s.cur.col + (n : Int)) = ce := by have := F.out.col0; have := F.out.col1; have := F.out.c40; rw [IntKind.wrap_i64]; omega
  rw [hce] at hwr
  have hwb : IntKind.i64.wrap (s.main.cols - 1) = s.main.cols - 1 := by have := F.out.c1; have := F.out.c40; rw [IntKind.wrap_i64]; omega
  rw [hW1] at hW
  subst hW
  have hng : ¬ s.main.cols < (n : Int) := by omega
  clear hp hW1 h hce
  go_enter Tryz.func83, Tryz.ntmps83
  go_upto_region 1 with (fail)
  change Code.wp _ _ _ _ (w.alloc (bbox r n))
  generalize w.alloc (bbox r n) = w1 at H1 HB1 HO1 ⊢
  have H1 := Lib.hid (H1.out.kept (Below.refl _ _).drew)
  have HB1 : Hid (w1.drew.heap[w.heap.size]? = some (bbox r n)) := Lib.hid HB1.out
  have HO1 : Hid (Below w.heap.size w w1.drew) := Lib.hid HO1.out.drew
  have p1 : w1.cell? ⟨b, p + 1, none⟩ = some (.int .i64 s.main.cols) := HC.out w1.drew H1.out.box
  refine wp_region_still_lit (by kernel_rfl) (by kernel_rfl) ?_
  repeat still_step
  still_call (HSE.out _ H1.out.box)
  repeat still_step
  still_call (HH.out _ H1.out.box)
  repeat still_step
  refine wpStill_nil ?_
  show Exit.then _ _ _ _ w1.drew
  clear p1 HSE HH
  generalize w1.drew = w2 at H1 HB1 HO1 ⊢
  have c8 : w2.cell? ⟨b, 8, none⟩ = some (.int .i64 s.cur.col) := H1.out.box.cell 8
  have d0 : w2.cell? ⟨w.heap.size, 0, none⟩ = some (.int .i64 r) := Blk.cell HB1.out 0
  have d1 : w2.cell? ⟨w.heap.size, 1, none⟩ = some (.int .i64 n) := Blk.cell HB1.out 1
  go_upto_region 2 with (fail)
  go_quiet (fail)
  have HQQ := Lib.hid (bel_drewN w2 nq)
  go_upto_region 3 with (fail)
  generalize w2.drewN nq = w3 at HQQ ⊢
  have H3 := Lib.hid (H1.out.kept HQQ.out)
  have HB3 := Lib.hid (Blk.kept HB1.out HQQ.out)
  have HO3 := Lib.hid (HO1.out.trans (HQQ.out.mono HO1.out.size))
  clear c8 d0 d1 H1 HB1 HO1 HQQ
  have d0 : w3.cell? ⟨w.heap.size, 0, none⟩ = some (.int .i64 r) := Blk.cell HB3.out 0
  have d1 : w3.cell? ⟨w.heap.size, 1, none⟩ = some (.int .i64 n) := Blk.cell HB3.out 1
  have HDN := Lib.hid (fun W (k : Pn W b base s x y z) => down_pen s x y z b base W k hok)
  have c9 : w3.cell? ⟨b, 9, none⟩ = some (.bool s.cur.wrap) := H3.out.box.cell 9
  have HF2 : Hid ((wrapS s).cur.col + (n : Int) ≤ (wrapS s).main.cols) := Lib.hid (by
    have h1 : (wrapS s).cur.col = 0 := rfl
    have h2 : (wrapS s).main.cols = s.main.cols := (down_same hok).2.2.2.2.2.1
    omega)
  have hcase : (s.cur.wrap = true ∧ ce ≤ s.main.cols) ∨ (s.cur.wrap = true ∧ ¬ ce ≤ s.main.cols) ∨ (s.cur.wrap = false ∧ ¬ ce ≤ s.main.cols) := by
    by_cases q : ce ≤ s.main.cols
    · rcases hwr with h | h
      · exact .inl ⟨h, q⟩
      · exact absurd q h.2
    · rcases hwr with h | h
      · exact .inr (.inl ⟨h, q⟩)
      · exact .inr (.inr ⟨h.1, q⟩)
  clear hwr
  rcases hcase with ⟨hw, hle⟩ | ⟨hw, hle⟩ | ⟨hw, hle⟩
  · rw [hw] at c9
    go_wp2_with fail
    refine (HDN.out w3 H3.out).mono ?_; rintro e w4 ⟨rfl, x', y', hp, hap', hbl, hon⟩
    have hap2 := hap' hap
    have hne : w.heap.size ≠ b := by have h2 := H3.out.lt; have h3 := HLB.out; omega
    have H4 := Lib.hid hp
    have HB4 := Lib.hid (hon.2 _ _ hne HB3.out)
    have HO4 : Hid (Frm b base w w4) := Lib.hid ((Frm.start HO3.out HLB.out.1 HLB.out.2).only hbl hon)
    have c8 : w4.cell? ⟨b, 8, none⟩ = some (.int .i64 (downS s).cur.col) := by have k := H4.out.box.cell 8; rw [sarr_8] at k; exact k
    have f4 : ∀ j, w4.frozen? ⟨b, j, none⟩ = false := H4.out.box.free
    clear hp hap' hbl hon c9 d0 d1 H3 HB3 HO3
    go_upto_region 7 with (fail)
    have H5 := Lib.hid (H4.out.col 0)
    have HB5 : Hid ((w4.setCell ⟨b, 8, none⟩ (.int .i64 0)).heap[w.heap.size]? = some (bbox r n)) := Lib.hid (Blk.other HB4.out hne _ _)
    have HO5 : Hid (Frm b base w (w4.setCell ⟨b, 8, none⟩ (.int .i64 0))) := Lib.hid (HO4.out.set _ _)
    clear c8 f4 H4 HB4 HO4
    generalize w4.setCell ⟨b, 8, none⟩ (.int .i64 0) = w5 at H5 HB5 HO5 ⊢
    have d0 : w5.cell? ⟨w.heap.size, 0, none⟩ = some (.int .i64 r) := Blk.cell HB5.out 0
    have d1 : w5.cell? ⟨w.heap.size, 1, none⟩ = some (.int .i64 n) := Blk.cell HB5.out 1
    obtain ⟨g, n0, cap, hX⟩ := H5.out.shape (wrapS_ok hok)
    have HG := Lib.hid (body_ne (H5.out.cells hX) HB5.out)
    have HPT := Lib.hid (put_any (wrapS s) x' y' z b base g n0 cap r q0 n w5 H5.out hap2 (wrapS_ok hok) hX hsh hr (by omega) HF2.out)
    obtain ⟨m, hm⟩ : ∃ m, mid (roomS (wrapS s) n) (wrapS s).cur.col.toNat ((wrapS s).cur.col.toNat + n) (cellsOf q0 (wrapS s).cur.a) = m := ⟨_, rfl⟩
    rw [hm] at HPT
    have HM := Lib.hid hm
    clear hm
    go_wp2_with fail
    refine HPT.out.mono ?_; rintro e w6 ⟨rfl, hp, hon, hb⟩
    have H6 := Lib.hid hp
    have HB6 := Lib.hid (hon.2 _ _ HG.out HB5.out)
    have HO6 : Hid (Frm b base w w6) := Lib.hid (HO5.out.bel HLB.out.1 hb)
    clear hp hon hb d0 d1 H5 HB5 HO5 HPT
    have HE : Hid (∀ c0 c q, Pn (passPut w6 b c0 c q r).drew b base (passed (withLine (wrapS s) m) c q r) x' y' z ∧ Frm b base w (passPut w6 b c0 c q r).drew) := Lib.hid fun c0 c q =>
      ⟨(H6.out.pass c0 c q r).kept (Below.refl _ _).drew, ((((HO6.out.set _ _).set _ _).set _ _).set _ _).drew⟩
    have HWC := withLine_cur (wrapS s) m
    have c8 : w6.cell? ⟨b, 8, none⟩ = some (.int .i64 0) := by have k := H6.out.box.cell 8; rw [sarr_8, HWC.1] at k; exact k
    have c9 : w6.cell? ⟨b, 9, none⟩ = some (.bool (wrapS s).cur.wrap) := by have k := H6.out.box.cell 9; rw [sarr_9, HWC.1] at k; exact k
    have c42 : w6.cell? ⟨b, 42, none⟩ = some (.int .i64 (withLine (wrapS s) m).last) := H6.out.box.cell 42
    have d0 : w6.cell? ⟨w.heap.size, 0, none⟩ = some (.int .i64 r) := Blk.cell HB6.out 0
    have d1 : w6.cell? ⟨w.heap.size, 1, none⟩ = some (.int .i64 n) := Blk.cell HB6.out 1
    have f4 : ∀ j, w6.frozen? ⟨b, j, none⟩ = false := H6.out.box.free
    have hwn : IntKind.i64.wrap (n : Int) = (n : Int) := by rw [IntKind.wrap_i64]; omega
    clear HWC
    by_cases he : (n : Int) = s.main.cols
    · go_upto_region 8 with (fail)
      go_region
      all_goals
        go_wp2_with fail
        go_end0
        rw [HM.out, decide_eq_true he, he]
        exact ⟨rfl, x', y', (HE.out _ _ _).1, hap2, (HE.out _ _ _).2⟩
    · go_upto_region 8 with (fail)
      go_region
      all_goals
        go_wp2_with fail
        go_end0
        rw [HM.out, decide_eq_false he]
        exact ⟨rfl, x', y', (HE.out _ _ _).1, hap2, (HE.out _ _ _).2⟩
  · rw [hw] at c9
    go_wp2_with fail
    refine (HDN.out w3 H3.out).mono ?_; rintro e w4 ⟨rfl, x', y', hp, hap', hbl, hon⟩
    have hap2 := hap' hap
    have hne : w.heap.size ≠ b := by have h2 := H3.out.lt; have h3 := HLB.out; omega
    have H4 := Lib.hid hp
    have HB4 := Lib.hid (hon.2 _ _ hne HB3.out)
    have HO4 : Hid (Frm b base w w4) := Lib.hid ((Frm.start HO3.out HLB.out.1 HLB.out.2).only hbl hon)
    have c8 : w4.cell? ⟨b, 8, none⟩ = some (.int .i64 (downS s).cur.col) := by have k := H4.out.box.cell 8; rw [sarr_8] at k; exact k
    have f4 : ∀ j, w4.frozen? ⟨b, j, none⟩ = false := H4.out.box.free
    clear hp hap' hbl hon c9 d0 d1 H3 HB3 HO3
    go_upto_region 7 with (fail)
    have H5 := Lib.hid (H4.out.col 0)
    have HB5 : Hid ((w4.setCell ⟨b, 8, none⟩ (.int .i64 0)).heap[w.heap.size]? = some (bbox r n)) := Lib.hid (Blk.other HB4.out hne _ _)
    have HO5 : Hid (Frm b base w (w4.setCell ⟨b, 8, none⟩ (.int .i64 0))) := Lib.hid (HO4.out.set _ _)
    clear c8 f4 H4 HB4 HO4
    generalize w4.setCell ⟨b, 8, none⟩ (.int .i64 0) = w5 at H5 HB5 HO5 ⊢
    have d0 : w5.cell? ⟨w.heap.size, 0, none⟩ = some (.int .i64 r) := Blk.cell HB5.out 0
    have d1 : w5.cell? ⟨w.heap.size, 1, none⟩ = some (.int .i64 n) := Blk.cell HB5.out 1
    obtain ⟨g, n0, cap, hX⟩ := H5.out.shape (wrapS_ok hok)
    have HG := Lib.hid (body_ne (H5.out.cells hX) HB5.out)
    have HPT := Lib.hid (put_any (wrapS s) x' y' z b base g n0 cap r q0 n w5 H5.out hap2 (wrapS_ok hok) hX hsh hr (by omega) HF2.out)
    obtain ⟨m, hm⟩ : ∃ m, mid (roomS (wrapS s) n) (wrapS s).cur.col.toNat ((wrapS s).cur.col.toNat + n) (cellsOf q0 (wrapS s).cur.a) = m := ⟨_, rfl⟩
    rw [hm] at HPT
    have HM := Lib.hid hm
    clear hm
    go_wp2_with fail
    refine HPT.out.mono ?_; rintro e w6 ⟨rfl, hp, hon, hb⟩
    have H6 := Lib.hid hp
    have HB6 := Lib.hid (hon.2 _ _ HG.out HB5.out)
    have HO6 : Hid (Frm b base w w6) := Lib.hid (HO5.out.bel HLB.out.1 hb)
    clear hp hon hb d0 d1 H5 HB5 HO5 HPT
    have HE : Hid (∀ c0 c q, Pn (passPut w6 b c0 c q r).drew b base (passed (withLine (wrapS s) m) c q r) x' y' z ∧ Frm b base w (passPut w6 b c0 c q r).drew) := Lib.hid fun c0 c q =>
      ⟨(H6.out.pass c0 c q r).kept (Below.refl _ _).drew, ((((HO6.out.set _ _).set _ _).set _ _).set _ _).drew⟩
    have HWC := withLine_cur (wrapS s) m
    have c8 : w6.cell? ⟨b, 8, none⟩ = some (.int .i64 0) := by have k := H6.out.box.cell 8; rw [sarr_8, HWC.1] at k; exact k
    have c9 : w6.cell? ⟨b, 9, none⟩ = some (.bool (wrapS s).cur.wrap) := by have k := H6.out.box.cell 9; rw [sarr_9, HWC.1] at k; exact k
    have c42 : w6.cell? ⟨b, 42, none⟩ = some (.int .i64 (withLine (wrapS s) m).last) := H6.out.box.cell 42
    have d0 : w6.cell? ⟨w.heap.size, 0, none⟩ = some (.int .i64 r) := Blk.cell HB6.out 0
    have d1 : w6.cell? ⟨w.heap.size, 1, none⟩ = some (.int .i64 n) := Blk.cell HB6.out 1
    have f4 : ∀ j, w6.frozen? ⟨b, j, none⟩ = false := H6.out.box.free
    have hwn : IntKind.i64.wrap (n : Int) = (n : Int) := by rw [IntKind.wrap_i64]; omega
    clear HWC
    by_cases he : (n : Int) = s.main.cols
    · go_upto_region 8 with (fail)
      go_region
      all_goals
        go_wp2_with fail
        go_end0
        rw [HM.out, decide_eq_true he, he]
        exact ⟨rfl, x', y', (HE.out _ _ _).1, hap2, (HE.out _ _ _).2⟩
    · go_upto_region 8 with (fail)
      go_region
      all_goals
        go_wp2_with fail
        go_end0
        rw [HM.out, decide_eq_false he]
        exact ⟨rfl, x', y', (HE.out _ _ _).1, hap2, (HE.out _ _ _).2⟩
  · rw [hw] at c9
    go_wp2_with fail
    refine (HDN.out w3 H3.out).mono ?_; rintro e w4 ⟨rfl, x', y', hp, hap', hbl, hon⟩
    have hap2 := hap' hap
    have hne : w.heap.size ≠ b := by have h2 := H3.out.lt; have h3 := HLB.out; omega
    have H4 := Lib.hid hp
    have HB4 := Lib.hid (hon.2 _ _ hne HB3.out)
    have HO4 : Hid (Frm b base w w4) := Lib.hid ((Frm.start HO3.out HLB.out.1 HLB.out.2).only hbl hon)
    have c8 : w4.cell? ⟨b, 8, none⟩ = some (.int .i64 (downS s).cur.col) := by have k := H4.out.box.cell 8; rw [sarr_8] at k; exact k
    have f4 : ∀ j, w4.frozen? ⟨b, j, none⟩ = false := H4.out.box.free
    clear hp hap' hbl hon c9 d0 d1 H3 HB3 HO3
    go_upto_region 7 with (fail)
    have H5 := Lib.hid (H4.out.col 0)
    have HB5 : Hid ((w4.setCell ⟨b, 8, none⟩ (.int .i64 0)).heap[w.heap.size]? = some (bbox r n)) := Lib.hid (Blk.other HB4.out hne _ _)
    have HO5 : Hid (Frm b base w (w4.setCell ⟨b, 8, none⟩ (.int .i64 0))) := Lib.hid (HO4.out.set _ _)
    clear c8 f4 H4 HB4 HO4
    generalize w4.setCell ⟨b, 8, none⟩ (.int .i64 0) = w5 at H5 HB5 HO5 ⊢
    have d0 : w5.cell? ⟨w.heap.size, 0, none⟩ = some (.int .i64 r) := Blk.cell HB5.out 0
    have d1 : w5.cell? ⟨w.heap.size, 1, none⟩ = some (.int .i64 n) := Blk.cell HB5.out 1
    obtain ⟨g, n0, cap, hX⟩ := H5.out.shape (wrapS_ok hok)
    have HG := Lib.hid (body_ne (H5.out.cells hX) HB5.out)
    have HPT := Lib.hid (put_any (wrapS s) x' y' z b base g n0 cap r q0 n w5 H5.out hap2 (wrapS_ok hok) hX hsh hr (by omega) HF2.out)
    obtain ⟨m, hm⟩ : ∃ m, mid (roomS (wrapS s) n) (wrapS s).cur.col.toNat ((wrapS s).cur.col.toNat + n) (cellsOf q0 (wrapS s).cur.a) = m := ⟨_, rfl⟩
    rw [hm] at HPT
    have HM := Lib.hid hm
    clear hm
    go_wp2_with fail
    refine HPT.out.mono ?_; rintro e w6 ⟨rfl, hp, hon, hb⟩
    have H6 := Lib.hid hp
    have HB6 := Lib.hid (hon.2 _ _ HG.out HB5.out)
    have HO6 : Hid (Frm b base w w6) := Lib.hid (HO5.out.bel HLB.out.1 hb)
    clear hp hon hb d0 d1 H5 HB5 HO5 HPT
    have HE : Hid (∀ c0 c q, Pn (passPut w6 b c0 c q r).drew b base (passed (withLine (wrapS s) m) c q r) x' y' z ∧ Frm b base w (passPut w6 b c0 c q r).drew) := Lib.hid fun c0 c q =>
      ⟨(H6.out.pass c0 c q r).kept (Below.refl _ _).drew, ((((HO6.out.set _ _).set _ _).set _ _).set _ _).drew⟩
    have HWC := withLine_cur (wrapS s) m
    have c8 : w6.cell? ⟨b, 8, none⟩ = some (.int .i64 0) := by have k := H6.out.box.cell 8; rw [sarr_8, HWC.1] at k; exact k
    have c9 : w6.cell? ⟨b, 9, none⟩ = some (.bool (wrapS s).cur.wrap) := by have k := H6.out.box.cell 9; rw [sarr_9, HWC.1] at k; exact k
    have c42 : w6.cell? ⟨b, 42, none⟩ = some (.int .i64 (withLine (wrapS s) m).last) := H6.out.box.cell 42
    have d0 : w6.cell? ⟨w.heap.size, 0, none⟩ = some (.int .i64 r) := Blk.cell HB6.out 0
    have d1 : w6.cell? ⟨w.heap.size, 1, none⟩ = some (.int .i64 n) := Blk.cell HB6.out 1
    have f4 : ∀ j, w6.frozen? ⟨b, j, none⟩ = false := H6.out.box.free
    have hwn : IntKind.i64.wrap (n : Int) = (n : Int) := by rw [IntKind.wrap_i64]; omega
    clear HWC
    by_cases he : (n : Int) = s.main.cols
    · go_upto_region 8 with (fail)
      go_region
      all_goals
        go_wp2_with fail
        go_end0
        rw [HM.out, decide_eq_true he, he]
        exact ⟨rfl, x', y', (HE.out _ _ _).1, hap2, (HE.out _ _ _).2⟩
    · go_upto_region 8 with (fail)
      go_region
      all_goals
        go_wp2_with fail
        go_end0
        rw [HM.out, decide_eq_false he]
        exact ⟨rfl, x', y', (HE.out _ _ _).1, hap2, (HE.out _ _ _).2⟩
end Scr
end
section
open Go.RowKit
namespace Scr
open Go.Proofs.YtceaoadlhdgnmaaGreatDoor.Row Wid
set_option maxHeartbeats 6400000 in
theorem write_no (s : S) (x y z : Value) (b base : Nat) (r : Int) (n : Nat) (w : World) (h : Pn w b base s x y z) (hok : Ok s) (hn : n = 1 ∨ n = 2)
    (hno : s.main.cols < (n : Int) ∨ (¬ s.main.cols < (n : Int) ∧ ¬ s.cur.col + n ≤ s.main.cols ∧ hasB s.modes 1 = false)) :
    Calls Tryz.prog 83 #[.pointer (some ⟨b, 0, none⟩), bodyV r n] w fun e w' => e = .returned (.tuple #[]) ∧ Pn w' b base s x y z ∧ Below w.heap.size w w' := by
  have F := Lib.hid hok.facts
  have H1 := Lib.hid (h.kept (bel_alloc w (bbox r n)))
  have HB1 : Hid ((w.alloc (bbox r n)).heap[w.heap.size]? = some (bbox r n)) := Lib.hid (heap_alloc_new _ _)
  have HO1 := Lib.hid (bel_alloc w (bbox r n))
  have HSA := Lib.hid (seat_arr s x y z)
  obtain ⟨p, hp⟩ : ∃ p, seatO s = p := ⟨_, rfl⟩
  rw [hp] at HSA
  have HSE : Hid (∀ W, SBox W b s x y z → Calls Tryz.prog 126 #[.pointer (some ⟨b, 0, none⟩)] W fun e w' => e = .returned (.pointer (some ⟨b, p, none⟩)) ∧ w' = W) := Lib.hid fun W k => by rw [← hp]; exact penSeen' s x y z b W k
  have HC : Hid (∀ W, SBox W b s x y z → W.cell? ⟨b, p + 1, none⟩ = some (.int .i64 s.main.cols)) := Lib.hid fun W k => by rw [k.cell, ← F.out.gc]; exact HSA.out.2.1
  obtain ⟨W1, hW1⟩ : ∃ q, hasB s.modes 1 = q := ⟨_, rfl⟩
  have HH : Hid (∀ W, SBox W b s x y z → Calls Tryz.prog 127 #[.pointer (some ⟨b, 0, none⟩), .int .i64 1] W fun e w' => e = .returned (.bool W1) ∧ w' = W) := Lib.hid fun W k => by rw [← hW1]; exact has_any s x y z b 1 W k
  obtain ⟨ce, hce⟩ : ∃ ce, s.cur.col + (n : Int) = ce := ⟨_, rfl⟩
  have hwa : IntKind.i64.wrap (s.cur.col + (n : Int)) = ce := by have := F.out.col0; have := F.out.col1; have := F.out.c40; rw [IntKind.wrap_i64]; omega
  rw [hW1, hce] at hno
  have hwb : IntKind.i64.wrap (s.main.cols - 1) = s.main.cols - 1 := by have := F.out.c1; have := F.out.c40; rw [IntKind.wrap_i64]; omega
  clear hp hW1 h hok hce
  go_enter Tryz.func83, Tryz.ntmps83
  go_upto_region 1 with (fail)
  change Code.wp _ _ _ _ (w.alloc (bbox r n))
  generalize w.alloc (bbox r n) = w1 at H1 HB1 HO1 ⊢
  have H1 := Lib.hid (H1.out.kept (Below.refl _ _).drew)
  have HB1 : Hid (w1.drew.heap[w.heap.size]? = some (bbox r n)) := Lib.hid HB1.out
  have HO1 : Hid (Below w.heap.size w w1.drew) := Lib.hid HO1.out.drew
  have p1 : w1.cell? ⟨b, p + 1, none⟩ = some (.int .i64 s.main.cols) := HC.out w1.drew H1.out.box
  refine wp_region_still_lit (by kernel_rfl) (by kernel_rfl) ?_
  repeat still_step
  still_call (HSE.out _ H1.out.box)
  repeat still_step
  still_call (HH.out _ H1.out.box)
  repeat still_step
  refine wpStill_nil ?_
  show Exit.then _ _ _ _ w1.drew
  clear p1 HSE HH
  generalize w1.drew = w2 at H1 HB1 HO1 ⊢
  have c8 : w2.cell? ⟨b, 8, none⟩ = some (.int .i64 s.cur.col) := H1.out.box.cell 8
  have d0 : w2.cell? ⟨w.heap.size, 0, none⟩ = some (.int .i64 r) := Blk.cell HB1.out 0
  have d1 : w2.cell? ⟨w.heap.size, 1, none⟩ = some (.int .i64 n) := Blk.cell HB1.out 1
  go_upto_region 2 with (fail)
  go_quiet (fail)
  have HQQ := Lib.hid (bel_drewN w2 nq)
  go_upto_region 3 with (fail)
  generalize w2.drewN nq = w3 at HQQ ⊢
  have H3 := Lib.hid (H1.out.kept HQQ.out)
  have HB3 := Lib.hid (Blk.kept HB1.out HQQ.out)
  have HO3 := Lib.hid (HO1.out.trans (HQQ.out.mono HO1.out.size))
  clear c8 d0 d1 H1 HB1 HO1 HQQ
  have d0 : w3.cell? ⟨w.heap.size, 0, none⟩ = some (.int .i64 r) := Blk.cell HB3.out 0
  have d1 : w3.cell? ⟨w.heap.size, 1, none⟩ = some (.int .i64 n) := Blk.cell HB3.out 1
  rcases hno with hlt | ⟨hlt, hle, rfl⟩
  · go_wp2_with fail
    go_returns
    exact ⟨rfl, H3.out, HO3.out⟩
  · go_wp2_with fail
    go_returns
    exact ⟨rfl, H3.out, HO3.out⟩
end Scr
end
end Go.Proofs.YtceaoadlhdgnmaaGreatDoor
