/- Joined texts: PrnPutA. -/
import Derived.Test.YtgjpojaegjdjcaaGreatDoorJ1
import Derived.Test.YtgjpojaegjdjcaaGreatDoorJ2
import Derived.Test.YtgjpojaegjdjcaaGreatDoorJ3
import Derived.Test.YtgjpojaegjdjcaaGreatDoorJ4
import Derived.Test.YtgjpojaegjdjcaaGreatDoorJ5
import Derived.Test.YtgjpojaegjdjcaaGreatDoorJ6
import Derived.Test.YtgjpojaegjdjcaaGreatDoorJ7
import Derived.Test.YtgjpojaegjdjcaaGreatDoorJ8
import Derived.Test.YtgjpojaegjdjcaaGreatDoorJ9
import Derived.Test.YtgjpojaegjdjcaaGreatDoorJ10
import Derived.Test.YtgjpojaegjdjcaaGreatDoorJ11
import Derived.Test.YtgjpojaegjdjcaaGreatDoorJ12
import Derived.Test.YtgjpojaegjdjcaaGreatDoorJ13
import Derived.Test.YtgjpojaegjdjcaaGreatDoorJ14
import Derived.Test.YtgjpojaegjdjcaaGreatDoorJ15
import Derived.Test.YtgjpojaegjdjcaaGreatDoorJ17
import Derived.Test.YtgjpojaegjdjcaaGreatDoorJ18
import Derived.Test.YtgjpojaegjdjcaaGreatDoorJ19
import Derived.Test.YtgjpojaegjdjcaaGreatDoorJ20
import Derived.Test.YtgjpojaegjdjcaaGreatDoorJ21
import Derived.Test.YtgjpojaegjdjcaaGreatDoorJ22
import Derived.Test.YtgjpojaegjdjcaaGreatDoorJ23
import Derived.Test.YtgjpojaegjdjcaaGreatDoorJ24
import Derived.Test.YtgjpojaegjdjcaaGreatDoorJ27
import Derived.Test.YtgjpojaegjdjcaaGreatDoorJ29
import Derived.Test.YtgjpojaegjdjcaaGreatDoorJ30
import Derived.Test.YtgjpojaegjdjcaaGreatDoorJ31
import Derived.Test.YtgjpojaegjdjcaaGreatDoorJ43
import Derived.Test.YtgjpojaegjdjcaaGreatDoorJ44
import Derived.Test.YtgjpojaegjdjcaaGreatDoorJ45
import Derived.Test.YtgjpojaegjdjcaaGreatDoorJ46
import Derived.Test.YtgjpojaegjdjcaaGreatDoorJ48
import Derived.Test.YtgjpojaegjdjcaaGreatDoorJ49
import Derived.Test.YtgjpojaegjdjcaaGreatDoorJ51
import Derived.Test.YtgjpojaegjdjcaaGreatDoorJ55
import Derived.Test.YtgjpojaegjdjcaaGreatDoorJ61
section
/- A body put into the cursor's row: any set, with or without room made for it. -/
namespace Go.Proofs.YtgjpojaegjdjcaaGreatDoor
set_option maxRecDepth 100000
open Go.RowKit
namespace Scr
open Go.Proofs.YtgjpojaegjdjcaaGreatDoor.Row Wid

/-- The row that a body is put into: with room made for it where the mode says so. -/
def roomS (s : S) (n : Nat) : List Cl := bif hasB s.modes 2 then insertOf (lineS s) s.cur.col.toNat n s.cur.a else lineS s
theorem held_room (n : Nat) (a : Look) : Held (List.replicate n (Row.blank a)) := fun i hi => by
  rw [List.length_replicate] at hi
  have : g (List.replicate n (Row.blank a)) i = Row.blank a := by simp [g, hi]
  rw [this]
  exact Nat.zero_le _
theorem room_facts (s : S) (n : Nat) (L : LineFacts s) (ha : attrOk s.cur.a = true) (hf : s.cur.col.toNat + n ≤ (lineS s).length) : (roomS s n).length = (lineS s).length ∧ RowOk (roomS s n) ∧ Held (roomS s n) := by
  unfold roomS
  cases hasB s.modes 2
  · exact ⟨rfl, L.ok, L.held⟩
  · have h := insertOk L.ok ha hf
    refine ⟨h.2, h.1, ?_⟩
    show Held (insertOf (lineS s) s.cur.col.toNat n s.cur.a)
    unfold insertOf
    have hl := repl_length (l := lineS s) (low := (lineS s).length - n) (high := (lineS s).length) (by omega) (Nat.le_refl _) []
    rw [List.length_nil] at hl
    have h1 : Held (repl (lineS s) ((lineS s).length - n) (lineS s).length []) := held_repl L.held held_nil (by omega) (Nat.le_refl _)
    exact held_repl h1 (held_room n _) (Nat.le_refl _) (by omega)
set_option maxHeartbeats 12800000 in
theorem put_any (s : S) (x y z : Value) (b base g n0 cap : Nat) (r q : Int) (n : Nat) (w : World) (h : Pn w b base s x y z) (hap : Apart x y) (hok : Ok s) (hX : seenX s x y = .slice (some ⟨g, 0, none⟩) n0 cap)
    (hsh : ∀ W, Calls Tryz.prog 112 #[curV s.cur, .int .i64 r] W fun e w' => e = .returned (.int .i64 q) ∧ Below W.heap.size W w') (hr : wid q = n) (hn : 1 ≤ n) (hf : s.cur.col + n ≤ s.main.cols) :
    Calls Tryz.prog 76 #[.pointer (some ⟨b, 0, none⟩), bodyV r n] w fun e w' => e = .returned (.tuple #[]) ∧ Pn w' b base (withLine s (mid (roomS s n) s.cur.col.toNat (s.cur.col.toNat + n) (cellsOf q s.cur.a))) x y z ∧ Only g w w' ∧ Below base w w' := by
  have F := Lib.hid hok.facts
  have L := Lib.hid hok.line
  have HOK := Lib.hid hok
  have HAP := Lib.hid hap
  have H1 := Lib.hid (h.kept (bel_alloc w (bbox r n)))
  have HB1 : Hid ((w.alloc (bbox r n)).heap[w.heap.size]? = some (bbox r n)) := Lib.hid (heap_alloc_new _ _)
  have HO1 := Lib.hid (bel_alloc w (bbox r n))
  have HLN := Lib.hid (fun W (k : Pn W b base s x y z) => line_at s x y z b base g n0 cap W hX k hok)
  have HXX := Lib.hid hX
  have HUP := Lib.hid h.up
  clear h hap hok hX
  go_enter Tryz.func76, Tryz.ntmps76
  go_upto_region 1 with (fail)
  change Code.wp _ _ _ _ (w.alloc (bbox r n))
  generalize w.alloc (bbox r n) = w1 at H1 HB1 HO1 ⊢
  have HQ : Hid (∀ W, Below w1.heap.size w1 W → (W.cell? ⟨b, 7, none⟩ = some (.int .i64 s.cur.row) ∧ W.cell? ⟨b, 8, none⟩ = some (.int .i64 s.cur.col) ∧ W.cell? ⟨b, 9, none⟩ = some (.bool s.cur.wrap) ∧ W.cell? ⟨b, 10, none⟩ = some (.int .i64 s.cur.a.fg) ∧ W.cell? ⟨b, 11, none⟩ = some (.int .i64 s.cur.a.bg) ∧ W.cell? ⟨b, 12, none⟩ = some (.int .i64 s.cur.a.flags) ∧
      W.cell? ⟨b, 13, none⟩ = some (.int .i64 s.cur.g0) ∧ W.cell? ⟨b, 14, none⟩ = some (.int .i64 s.cur.g1) ∧ W.cell? ⟨b, 15, none⟩ = some (.int .i64 s.cur.shift) ∧ W.cell? ⟨b, 16, none⟩ = some (.bool s.cur.origin))) := Lib.hid fun W hb =>
    have k := (H1.out.kept hb).box
    ⟨k.cell 7, k.cell 8, k.cell 9, k.cell 10, k.cell 11, k.cell 12, k.cell 13, k.cell 14, k.cell 15, k.cell 16⟩
  go_cut [4, 5] from 6 to 11 (fun s4 s5 wx => ∃ b4 c', s4 = .pointer (some ⟨b4, 0, none⟩) ∧ s5 = .slice (some ⟨g, lineAt s * 6, none⟩) (seenG s).cols.toNat c' ∧ Hid (wx.heap[b4]? = some (kbox s.cur)) ∧ Hid (Below w1.heap.size w1 wx))
  case first =>
    have q1 := HQ.out w1.drew (Below.refl _ _).drew
    have HBA := Lib.hid (dal w1 cbox0)
    have HBB : Hid (∀ w2, Below (w1.alloc cbox0).drew.heap.size (w1.alloc cbox0).drew w2 → Below w1.heap.size w1 w2 ∧ w2.heap[w1.heap.size]? = some cbox0) := Lib.hid fun w2 hb => by
      have hs : w1.heap.size ≤ (w1.alloc cbox0).drew.heap.size := by show w1.heap.size ≤ (w1.alloc cbox0).heap.size; simp
      exact ⟨HBA.out.trans (hb.mono hs), Blk.kept (w := (w1.alloc cbox0).drew) (heap_alloc_new w1 cbox0) hb⟩
    have q2 := HQ.out ((w1.alloc cbox0).drew) HBA.out
    go_region_held3 (fun w' => w'.cell? ⟨b, 7, none⟩ = some (.int .i64 s.cur.row) ∧ w'.cell? ⟨b, 8, none⟩ = some (.int .i64 s.cur.col) ∧ w'.cell? ⟨b, 9, none⟩ = some (.bool s.cur.wrap) ∧ w'.cell? ⟨b, 10, none⟩ = some (.int .i64 s.cur.a.fg) ∧ w'.cell? ⟨b, 11, none⟩ = some (.int .i64 s.cur.a.bg) ∧ w'.cell? ⟨b, 12, none⟩ = some (.int .i64 s.cur.a.flags) ∧ w'.cell? ⟨b, 13, none⟩ = some (.int .i64 s.cur.g0) ∧ w'.cell? ⟨b, 14, none⟩ = some (.int .i64 s.cur.g1) ∧ w'.cell? ⟨b, 15, none⟩ = some (.int .i64 s.cur.shift) ∧ w'.cell? ⟨b, 16, none⟩ = some (.bool s.cur.origin)) (first | (with_reducible exact q6) | (with_reducible exact q5) | (with_reducible exact q4) | (with_reducible exact q3) | (with_reducible exact q2) | (with_reducible exact q1))
      ((first
        | (go_at_call 73; refine (HLN.out ((w1.alloc cbox0).drew) (H1.out.kept HBA.out)).mono ?_; rintro e w2 ⟨c', rfl, hb⟩; have HB2 := Lib.hid (HBB.out w2 hb).1; have HZ2 := Lib.hid (HBB.out w2 hb).2; have q3 := HQ.out w2 HB2.out; have q4 := HQ.out (kall w2 w1.heap.size s.cur) (kall_below HB2.out (Nat.le_refl _) s.cur); unfold kall at q4; obtain ⟨zf, z0, z1, z2, z3, z4, z5, z6, z7, z8, z9⟩ := cbox0_cells HZ2.out; have HE : Hid ((kall w2 w1.heap.size s.cur).heap[w1.heap.size]? = some (kbox s.cur) ∧ Below w1.heap.size w1 (kall w2 w1.heap.size s.cur)) := Lib.hid ⟨kall_box HZ2.out s.cur, kall_below HB2.out (Nat.le_refl _) s.cur⟩; clear hb)
        | (go_at_call 73; refine (HLN.out w1.drew (H1.out.kept (Below.refl _ _).drew)).mono ?_; rintro e w2 ⟨c', rfl, hb⟩; have HB2 : Hid (Below w1.heap.size w1 w2) := Lib.hid ((Below.refl _ _).drew.trans hb); have q3 := HQ.out w2 HB2.out; have q5 := HQ.out (w2.alloc cbox0) (HB2.out.trans ((bel_alloc w2 _).mono HB2.out.size)); have q6 := HQ.out (w2.alloc (kbox s.cur)) (HB2.out.trans ((bel_alloc w2 _).mono HB2.out.size)); have HE : Hid ((w2.alloc (kbox s.cur)).heap[w2.heap.size]? = some (kbox s.cur) ∧ Below w1.heap.size w1 (w2.alloc (kbox s.cur))) := Lib.hid ⟨heap_alloc_new _ _, HB2.out.trans ((bel_alloc w2 _).mono HB2.out.size)⟩; clear hb)))
    all_goals
      go_wp2_with fail
      go_meet
      exact ⟨_, _, rfl, rfl, Lib.hid HE.out.1, Lib.hid HE.out.2⟩
  case rest =>
    obtain ⟨b4, c', rfl, rfl, HK, HB2⟩ := hcut
    rename World => w2
    have H2 := Lib.hid (H1.out.kept HB2.out)
    have HD2 := Lib.hid (Blk.kept HB1.out HB2.out)
    have HA2 := Lib.hid (HO1.out.trans (HB2.out.mono HO1.out.size))
    clear HQ H1 HB1 HO1 HB2
    go_wp2_with fail
    refine (has_any s x y z b 2 w2 H2.out.box).mono ?_; rintro e w2' ⟨rfl, hw⟩
    have hw := hw.symm
    subst hw
    go_simp
    have HQ : Hid (∀ W, Below w2.heap.size w2 W → (W.cell? ⟨b4, 0, none⟩ = some (.int .i64 s.cur.row) ∧ W.cell? ⟨b4, 1, none⟩ = some (.int .i64 s.cur.col) ∧ W.cell? ⟨b4, 2, none⟩ = some (.bool s.cur.wrap) ∧ W.cell? ⟨b4, 3, none⟩ = some (.int .i64 s.cur.a.fg) ∧ W.cell? ⟨b4, 4, none⟩ = some (.int .i64 s.cur.a.bg) ∧ W.cell? ⟨b4, 5, none⟩ = some (.int .i64 s.cur.a.flags) ∧ W.cell? ⟨b4, 6, none⟩ = some (.int .i64 s.cur.g0) ∧ W.cell? ⟨b4, 7, none⟩ = some (.int .i64 s.cur.g1) ∧ W.cell? ⟨b4, 8, none⟩ = some (.int .i64 s.cur.shift) ∧ W.cell? ⟨b4, 9, none⟩ = some (.bool s.cur.origin) ∧ W.cell? ⟨w.heap.size, 0, none⟩ = some (.int .i64 r) ∧ W.cell? ⟨w.heap.size, 1, none⟩ = some (.int .i64 n))) := Lib.hid fun W hb =>
      have k := Blk.kept HK.out hb
      have d := Blk.kept HD2.out hb
      ⟨Blk.cell k 0, Blk.cell k 1, Blk.cell k 2, Blk.cell k 3, Blk.cell k 4, Blk.cell k 5, Blk.cell k 6, Blk.cell k 7, Blk.cell k 8, Blk.cell k 9, Blk.cell d 0, Blk.cell d 1⟩
    have hcol : (s.cur.col.toNat : Int) = s.cur.col := by have := F.out.col0; omega
    have hfn : s.cur.col.toNat + n ≤ (lineS s).length := by rw [L.out.len]; have := L.out.cI; omega
    have hroom : (roomS s n).length = (lineS s).length ∧ RowOk (roomS s n) ∧ Held (roomS s n) := room_facts s n L.out F.out.a hfn
    have HIN : Hid (∀ W, Pn W b base s x y z → _) := Lib.hid fun W k => insert_fits (lineS s) s.cur.a s.cur.col.toNat n n (by omega) (.slice (some ⟨g, lineAt s * 6, none⟩) (seenG s).cols.toNat c') W (k.line HXX.out L.out c') L.out.held (by rw [L.out.len]; have := L.out.c40; omega) L.out.ok F.out.a (by omega) (by have := L.out.c40; have := L.out.len; omega)
    rw [hcol] at HIN
    obtain ⟨ins, hins⟩ : ∃ q, hasB s.modes 2 = q := ⟨_, rfl⟩
    have HRM : Hid (roomS s n = bif ins then insertOf (lineS s) s.cur.col.toNat n s.cur.a else lineS s) := Lib.hid (by unfold roomS; rw [hins])
    rw [hins]
    go_upto_if 13 with (fail)
    go_cut [5] from 14 to 24 (fun s5 wx => Hid (Cs wx s5 (roomS s n)) ∧ Hid (Below w2.heap.size w2 wx))
    case first =>
      cases ins
      · go_wp2_with fail
        go_meet
        exact ⟨Lib.hid (by rw [HRM.out]; exact H2.out.line HXX.out L.out c'), Lib.hid (Below.refl _ _)⟩
      · have q2 := HQ.out w2 (Below.refl _ _)
        go_wp2_with fail
        refine (HIN.out w2 H2.out).mono ?_; rintro e w3 ⟨v3, rfl, ho3, hb3⟩
        have HO3 := Lib.hid ho3.cs
        have HB3 := Lib.hid hb3
        clear ho3 hb3 q2
        go_wp2_with fail
        go_meet
        exact ⟨Lib.hid (by rw [HRM.out]; exact HO3.out), HB3⟩
    case rest =>
      obtain ⟨HV, HB22⟩ := hcut
      rename World => wr
      obtain ⟨A5, c5, rfl, _⟩ := HV.out.form
      have q2 := HQ.out wr.drew HB22.out.drew
      have hfr : s.cur.col.toNat + n ≤ (roomS s n).length := by rw [hroom.1]; exact hfn
      have hml : (mid (roomS s n) s.cur.col.toNat (s.cur.col.toNat + n) (cellsOf q s.cur.a)).length = (seenG s).cols.toNat := by
        have h12 : wid q = 1 ∨ wid q = 2 := by rcases wid_cases q with e | e | e | e <;> omega
        have hcl := cells_length (a := s.cur.a) h12
        have := mid_length (show s.cur.col.toNat ≤ s.cur.col.toNat + n by omega) hfr (cellsOf q s.cur.a)
        rw [hroom.1, L.out.len] at this
        omega
      have HSH := Lib.hid hsh
      have HPT : Hid (∀ W, Cs W (.slice A5 (roomS s n).length c5) (roomS s n) → _) := Lib.hid fun W k => put_fits (roomS s n) s.cur.a s.cur.col.toNat n q (.slice A5 (roomS s n).length c5) W k hroom.2.2 (by rw [hroom.1, L.out.len]; have := L.out.c40; omega) hroom.2.1 F.out.a hr hn hfr
      rw [hcol] at HPT
      have HML := Lib.hid hml
      clear hml hfn hfr hcol hsh hr hins hroom HRM HIN
      obtain ⟨m, hm⟩ : ∃ m, mid (roomS s n) s.cur.col.toNat (s.cur.col.toNat + n) (cellsOf q s.cur.a) = m := ⟨_, rfl⟩
      have HMM := Lib.hid hm
      rw [hm] at HPT HML
      clear hm
      generalize (roomS s n).length = ln at HV HPT ⊢
      generalize roomS s n = rm at HV HPT
      go_upto_region 4 with (fail)
      go_region_held3 (fun w' => w'.cell? ⟨b4, 0, none⟩ = some (.int .i64 s.cur.row) ∧ w'.cell? ⟨b4, 1, none⟩ = some (.int .i64 s.cur.col) ∧ w'.cell? ⟨b4, 2, none⟩ = some (.bool s.cur.wrap) ∧ w'.cell? ⟨b4, 3, none⟩ = some (.int .i64 s.cur.a.fg) ∧ w'.cell? ⟨b4, 4, none⟩ = some (.int .i64 s.cur.a.bg) ∧ w'.cell? ⟨b4, 5, none⟩ = some (.int .i64 s.cur.a.flags) ∧ w'.cell? ⟨b4, 6, none⟩ = some (.int .i64 s.cur.g0) ∧ w'.cell? ⟨b4, 7, none⟩ = some (.int .i64 s.cur.g1) ∧ w'.cell? ⟨b4, 8, none⟩ = some (.int .i64 s.cur.shift) ∧ w'.cell? ⟨b4, 9, none⟩ = some (.bool s.cur.origin) ∧ w'.cell? ⟨w.heap.size, 0, none⟩ = some (.int .i64 r) ∧ w'.cell? ⟨w.heap.size, 1, none⟩ = some (.int .i64 n)) (first | (with_reducible exact q4) | (with_reducible exact q3) | (with_reducible exact q2))
        ((first
          | (have h3 := H3.out; go_at_call 111; refine (HPT.out w3 HV3.out).mono ?_; rintro e w4 ⟨v, rfl, ho, hb⟩; have H4 := Lib.hid (h3.kept hb); have HO4 := Lib.hid ho; have HB4 := Lib.hid (HB3.out.trans (hb.mono HB3.out.size)); have q4 := HQ.out w4 HB4.out; clear ho hb)
          | (go_at_call 112; refine (HSH.out wr.drew).mono ?_; rintro e w3 ⟨rfl, hb⟩; have HB3 : Hid (Below w2.heap.size w2 w3) := Lib.hid (HB22.out.drew.trans (hb.mono HB22.out.size)); have H3 := Lib.hid (H2.out.kept HB3.out); have HV3 := Lib.hid (HV.out.kept ((Below.refl _ _).drew.trans hb)); have q3 := HQ.out w3 HB3.out; clear hb)))
      all_goals
        have HA4 := Lib.hid (HA2.out.trans (HB4.out.mono HA2.out.size))
        go_wp2_with fail
        refine (HLN.out w4 H4.out).mono ?_; rintro e w5 ⟨c2, rfl, hb⟩
        have H5 := Lib.hid (H4.out.kept hb)
        have HO5 := Lib.hid (HO4.out.kept hb)
        have HA5 := Lib.hid (HA4.out.trans (hb.mono HA4.out.size))
        clear hb H2 H3 H4 HO4 HA4 HA2 HB3 HB4 q2 q3 q4 HV3 HV HB22
        have hC1 := L.out.c1
        rcases HO5.out.shape with ⟨_, e0⟩ | ⟨g2, cap2, e0, _, _⟩
        · have := HML.out; rw [e0] at this; simp at this; omega
        rw [HML.out] at e0
        subst e0
        have HSR := Lib.hid (HO5.out.cs.flat.2)
        obtain ⟨w6, hrun, ho6, hon6, hb6⟩ := run_copy_into (ty := 3) (k := lineAt s) (dCap := c2) (sCap := cap2) (H5.out.cells HXX.out) HML.out L.out.fit HSR.out
        have H6 := Lib.hid (H5.out.over HAP.out HXX.out ho6 hon6 hon6.1)
        have HN6 := Lib.hid (Only.trans ⟨HA5.out.size, fun g o _ e => Blk.kept e HA5.out⟩ hon6)
        have HB6 := Lib.hid (hb6 base w (HA5.out.mono HUP.out) ((H5.out.cells HXX.out).lt g rfl).1)
        clear ho6 hon6 hb6 H5 HO5 HA5 HSR HML HLN
        go_wp2_with fail
        go_end0
        rw [HMM.out]
        exact ⟨rfl, H6.out, HN6.out, HB6.out⟩
end Scr
end Go.Proofs.YtgjpojaegjdjcaaGreatDoor
end
