/- Joined texts: ScrLawX. -/
import Derived.Test.YtmilpdhnblmflaaGreatDoorJ1
import Derived.Test.YtmilpdhnblmflaaGreatDoorJ2
import Derived.Test.YtmilpdhnblmflaaGreatDoorJ3
import Derived.Test.YtmilpdhnblmflaaGreatDoorJ4
import Derived.Test.YtmilpdhnblmflaaGreatDoorJ5
import Derived.Test.YtmilpdhnblmflaaGreatDoorJ6
import Derived.Test.YtmilpdhnblmflaaGreatDoorJ7
import Derived.Test.YtmilpdhnblmflaaGreatDoorJ8
import Derived.Test.YtmilpdhnblmflaaGreatDoorJ9
import Derived.Test.YtmilpdhnblmflaaGreatDoorJ10
import Derived.Test.YtmilpdhnblmflaaGreatDoorJ11
import Derived.Test.YtmilpdhnblmflaaGreatDoorJ12
import Derived.Test.YtmilpdhnblmflaaGreatDoorJ13
import Derived.Test.YtmilpdhnblmflaaGreatDoorJ14
import Derived.Test.YtmilpdhnblmflaaGreatDoorJ15
import Derived.Test.YtmilpdhnblmflaaGreatDoorJ16
import Derived.Test.YtmilpdhnblmflaaGreatDoorJ17
import Derived.Test.YtmilpdhnblmflaaGreatDoorJ18
import Derived.Test.YtmilpdhnblmflaaGreatDoorJ19
import Derived.Test.YtmilpdhnblmflaaGreatDoorJ20
import Derived.Test.YtmilpdhnblmflaaGreatDoorJ21
import Derived.Test.YtmilpdhnblmflaaGreatDoorJ22
import Derived.Test.YtmilpdhnblmflaaGreatDoorJ23
import Derived.Test.YtmilpdhnblmflaaGreatDoorJ24
import Derived.Test.YtmilpdhnblmflaaGreatDoorJ25
import Derived.Test.YtmilpdhnblmflaaGreatDoorJ26
import Derived.Test.YtmilpdhnblmflaaGreatDoorJ27
import Derived.Test.YtmilpdhnblmflaaGreatDoorJ28
import Derived.Test.YtmilpdhnblmflaaGreatDoorJ29
import Derived.Test.YtmilpdhnblmflaaGreatDoorJ30
import Derived.Test.YtmilpdhnblmflaaGreatDoorJ31
import Derived.Test.YtmilpdhnblmflaaGreatDoorJ32
import Derived.Test.YtmilpdhnblmflaaGreatDoorJ33
import Derived.Test.YtmilpdhnblmflaaGreatDoorJ34
import Derived.Test.YtmilpdhnblmflaaGreatDoorJ35
import Derived.Test.YtmilpdhnblmflaaGreatDoorJ36
import Derived.Test.YtmilpdhnblmflaaGreatDoorJ37
import Derived.Test.YtmilpdhnblmflaaGreatDoorJ38
import Derived.Test.YtmilpdhnblmflaaGreatDoorJ39
import Derived.BigQuiet
section
/- The law on stage 8's calls: walked. -/
namespace Go.Proofs.YtmilpdhnblmflaaGreatDoor
set_option maxRecDepth 100000
open Go.RowKit
namespace Scr
open Go.Proofs.YtmilpdhnblmflaaGreatDoor.Row

/-- The sizes that are played: five pairs. -/
def Szs (w : World) (b : Nat) : Prop := ∀ a, a < 5 → ∃ R C : Int, w.cell? ⟨b, a * 2, none⟩ = some (.int .i64 R) ∧ w.cell? ⟨b, a * 2 + 1, none⟩ = some (.int .i64 C)
theorem Szs.kept {w w' : World} {b : Nat} (h : Szs w b) (hb : Below w.heap.size w w') : Szs w' b := fun a ha => by
  obtain ⟨R, C, h1, h2⟩ := h a ha
  exact ⟨R, C, cell_kept hb h1, cell_kept hb h2⟩
theorem Szs.made (w : World) (a b c d e f g h i j : Int) (t : TypeId) : Szs (w.alloc (.cells #[.int .i64 a, .int .i64 b, .int .i64 c, .int .i64 d, .int .i64 e, .int .i64 f, .int .i64 g, .int .i64 h, .int .i64 i, .int .i64 j] t)) w.heap.size := by
  intro k hk
  have hx : (w.alloc (.cells #[.int .i64 a, .int .i64 b, .int .i64 c, .int .i64 d, .int .i64 e, .int .i64 f, .int .i64 g, .int .i64 h, .int .i64 i, .int .i64 j] t)).heap[w.heap.size]? = some (.cells #[.int .i64 a, .int .i64 b, .int .i64 c, .int .i64 d, .int .i64 e, .int .i64 f, .int .i64 g, .int .i64 h, .int .i64 i, .int .i64 j] t (0, 0)) := heap_alloc_new _ _
  have h5 : k = 0 ∨ k = 1 ∨ k = 2 ∨ k = 3 ∨ k = 4 := by omega
  rcases h5 with rfl | rfl | rfl | rfl | rfl
  · exact ⟨a, b, Blk.cell hx 0, Blk.cell hx 1⟩
  · exact ⟨c, d, Blk.cell hx 2, Blk.cell hx 3⟩
  · exact ⟨e, f, Blk.cell hx 4, Blk.cell hx 5⟩
  · exact ⟨g, h, Blk.cell hx 6, Blk.cell hx 7⟩
  · exact ⟨i, j, Blk.cell hx 8, Blk.cell hx 9⟩
/-- A size's round under way: the new screen in its box, the page's in its own. -/
structure Od (wq : World) (b7 b9 : Nat) (X : S) (x y z : Value) (Wn : S) (x' y' z' : Value) (wx : World) : Prop where
  bel : Below wq.heap.size wq wx
  x7 : SBox wx b7 X x y z
  x9 : SBox wx b9 Wn x' y' z'
  own : Own wx wq.heap.size X x y z
  want : In wx Wn x' y' z'
  ne : b7 ≠ b9
theorem Od.kept {wq w w' : World} {b7 b9 : Nat} {X Wn : S} {x y z x' y' z' : Value} (h : Od wq b7 b9 X x y z Wn x' y' z' w) (hb : Below w.heap.size w w') : Od wq b7 b9 X x y z Wn x' y' z' w' :=
  ⟨h.bel.trans (hb.mono h.bel.size), h.x7.kept hb, h.x9.kept hb, h.own.kept hb, h.want.kept hb, h.ne⟩
theorem Od.start {wq w3 w4 : World} {X : S} {x y z : Value} (hb : Below wq.heap.size wq w3) (ho : Own w3 wq.heap.size X x y z) (h : Sto (w3.alloc (.cells zarr 38)) w3.heap.size (sarr X x y z) w4) :
    Od wq w3.heap.size w4.heap.size X x y z noS nilS nilS nilS (w4.alloc (.cells zarr 38)) := by
  obtain ⟨h1, h2⟩ := bx_sto (e := ⟨X, x, y, z⟩) ho.in_ h
  have hb4 : Below wq.heap.size wq w4 := hb.trans (h2.mono hb.size)
  have hl : w3.heap.size < w4.heap.size := Blk.lt h1.box
  exact ⟨hb4.trans ((bel_alloc w4 _).mono hb4.size), h1.box.kept (bel_alloc w4 _), heap_alloc_new _ _, (ho.kept h2).kept (bel_alloc w4 _), (own_nil _ 0).in_, by omega⟩
theorem Od.put {wq wy wz : World} {b7 b9 base : Nat} {X Wn N : S} {x y z x' y' z' a b c : Value} (h : Od wq b7 b9 X x y z Wn x' y' z' wy) (ho : Own wy base N a b c) (hs : Sto wy b9 (sarr N a b c) wz) (hu : wq.heap.size ≤ b9) : Od wq b7 b9 X x y z N a b c wz :=
  ⟨hs.below _ _ hu h.bel, hs.boxed h.ne h.x7, hs.box, hs.own2 h.x9 h.own, (hs.own2 h.x9 ho).in_, h.ne⟩
/-- What stands of a size's round behind its first part. -/
structure Oe (wq : World) (b9 : Nat) (wx : World) : Prop where
  bel : Below wq.heap.size wq wx
  x9 : ∃ Wn x' y' z', SBox wx b9 Wn x' y' z'
theorem Run.far {w wq wx : World} {v : Value} {n m k r : Int} (h : Run w wq v n m k r) (hb : Below wq.heap.size wq wx) : Run w wx v n m k r := h.kept hb
/-- Where a screen's own memory ends. -/
structure Lt3 (x y z : Value) (B : Nat) : Prop where
  x : ∀ k, x.ownBlock = some k → k < B
  y : ∀ k, y.ownBlock = some k → k < B
  z : ∀ k, z.ownBlock = some k → k < B
theorem Own.lt3 {w : World} {base : Nat} {s : S} {x y z : Value} (h : Own w base s x y z) : Lt3 x y z w.heap.size :=
  ⟨fun k e => (h.m.lt k e).2, fun k e => (h.o.lt k e).2, fun k e => (World.ownsRow.lt h.t k e).2⟩
theorem Own.keptB {w w' : World} {base B : Nat} {s : S} {x y z : Value} (h : Own w base s x y z) (hl : Lt3 x y z B) (hb : Below B w w') : Own w' base s x y z := by
  have k1 : ∀ {v : Value} {l : List Cl}, OwnCs w base v l → (∀ k, v.ownBlock = some k → k < B) → OwnCs w' base v l := fun {v l} hv hlt => by
    refine ⟨hv.1, ?_⟩
    rcases hv.2 with h0 | ⟨g, cap, cur, rfl, hg, hc, rest⟩
    · exact .inl h0
    · exact .inr ⟨g, cap, cur, rfl, hg, (hb.block g (hlt g rfl)).trans hc, rest⟩
  refine ⟨k1 h.m hl.x, k1 h.o hl.y, h.t.1, ?_⟩
  rcases h.t.2 with h0 | ⟨g, cap, cur, hv, hg, hc, rest⟩
  · exact .inl h0
  · exact .inr ⟨g, cap, cur, hv, hg, (hb.block g (hl.z g (by rw [hv]; rfl))).trans hc, rest⟩
/-- A screen's round under way: what was handed in, in its box and memory of the law's own; the answer, in its box; the page's. -/
structure Iq (wq : World) (b11 b12 b9 : Nat) (B : Nat) (s : S) (xi yi zi : Value) (X : S) (x y z : Value) (Wn : S) (x' y' z' : Value) (wx : World) : Prop where
  bel : Below wq.heap.size wq wx
  up : B ≤ wx.heap.size
  x11 : SBox wx b11 s xi yi zi
  x12 : SBox wx b12 X x y z
  x9 : SBox wx b9 Wn x' y' z'
  own : Own wx B X x y z
  ini : Own wx 0 s xi yi zi
  lti : Lt3 xi yi zi B
  n1 : b11 ≠ b9
  n2 : b12 ≠ b9
theorem Iq.kept {wq w w' : World} {b11 b12 b9 B : Nat} {s X Wn : S} {xi yi zi x y z x' y' z' : Value} (h : Iq wq b11 b12 b9 B s xi yi zi X x y z Wn x' y' z' w) (hb : Below w.heap.size w w') : Iq wq b11 b12 b9 B s xi yi zi X x y z Wn x' y' z' w' :=
  ⟨h.bel.trans (hb.mono h.bel.size), Nat.le_trans h.up hb.size, h.x11.kept hb, h.x12.kept hb, h.x9.kept hb, h.own.kept hb, h.ini.kept hb, h.lti, h.n1, h.n2⟩
theorem Iq.put {wq wy wz : World} {b11 b12 b9 B base : Nat} {s X Wn N : S} {xi yi zi x y z x' y' z' a b c : Value} (h : Iq wq b11 b12 b9 B s xi yi zi X x y z Wn x' y' z' wy) (ho : Own wy base N a b c) (hs : Sto wy b9 (sarr N a b c) wz) (hu : wq.heap.size ≤ b9) :
    Iq wq b11 b12 b9 B s xi yi zi X x y z N a b c wz ∧ In wz N a b c :=
  ⟨⟨hs.below _ _ hu h.bel, by rw [hs.size]; exact h.up, hs.boxed h.n1 h.x11, hs.boxed h.n2 h.x12, hs.box, hs.own2 h.x9 h.own, hs.own2 h.x9 h.ini, h.lti, h.n1, h.n2⟩, (hs.own2 h.x9 ho).in_⟩
theorem Oe.kept {wq w w' : World} {b9 : Nat} (h : Oe wq b9 w) (hb : Below w.heap.size w w') : Oe wq b9 w' := by
  obtain ⟨a, b, c, d, hx⟩ := h.x9
  exact ⟨h.bel.trans (hb.mono h.bel.size), a, b, c, d, hx.kept hb⟩
theorem Iq.start {wq w3 w4 w5 w6 : World} {b9 base : Nat} {s X : S} {xi yi zi x y z : Value} (h : Oe wq b9 w3) (ho3 : Own w3 base s xi yi zi) (h4 : Sto (w3.alloc (.cells zarr 38)) w3.heap.size (sarr s xi yi zi) w4) (hb : Below w4.heap.size w4 w5) (ho : Own w5 w4.heap.size X x y z) (hs : Sto (w5.alloc (.cells zarr 38)) w5.heap.size (sarr X x y z) w6) :
    ∃ Wn x' y' z', Iq wq w3.heap.size w5.heap.size b9 w4.heap.size s xi yi zi X x y z Wn x' y' z' w6 := by
  obtain ⟨a, b, c, d, h9⟩ := h.x9
  obtain ⟨k1, k2⟩ := bx_sto (e := ⟨s, xi, yi, zi⟩) ho3.in_ h4
  obtain ⟨h1, h2⟩ := bx_sto (e := ⟨X, x, y, z⟩) ho.in_ hs
  have hf : Below w4.heap.size w4 w6 := hb.trans (h2.mono hb.size)
  have ho4 := ho3.kept k2
  have l9 := Blk.lt h9
  have l11 := Blk.lt k1.box
  have l5 := hb.size
  exact ⟨a, b, c, d, (h.bel.trans (k2.mono h.bel.size)).trans (hf.mono (by have := h.bel.size; have := k2.size; omega)), by have := hf.size; omega, k1.box.kept hf, h1.box, (h9.kept k2).kept hf, ho.kept h2, (ho4.low (Nat.zero_le _)).kept hf, ho4.lt3, by omega, by omega⟩
theorem vput_other {w : World} {g b : Nat} {o : Obj} (h : w.heap[g]? = some o) (hn : g ≠ b) (R C : Int) (v : Value) (row col modes : Int) (t : List UInt8) : (vput w b R C v row col modes t).heap[g]? = some o :=
  Blk.other (Blk.other (Blk.other (Blk.other (Blk.other (Blk.other (Blk.other h hn _ _) hn _ _) hn _ _) hn _ _) hn _ _) hn _ _) hn _ _
/-- A view's box is no row of cells: own cells stay where it is stored. -/
theorem vput_own2 {w : World} {b base : Nat} {x : Value} {l : List Cl} {A : Array Value} (hb : w.heap[b]? = some (.cells A 50 (0, 0))) (h : OwnCs w base x l) (R C : Int) (v : Value) (row col modes : Int) (t : List UInt8) : OwnCs (vput w b R C v row col modes t) base x l := by
  refine h.only (b := b) (((((((((Only.refl b w).set 0 _).set 1 _).set 2 _).set 3 _).set 4 _).set 5 _).set 6 _)) ?_
  rcases h.2 with ⟨rfl, _⟩ | ⟨g', cap', cur', rfl, _, hc, _⟩
  · exact fun q => by cases q
  · intro q
    have e : g' = b := Option.some.inj q
    subst e
    rw [hb] at hc
    injection hc with e2
    injection e2 with _ e3
    exact absurd e3 (by decide)
theorem size8' (r c : Int) (w : World) : Calls Tryz.prog 10 #[.int .i64 r, .int .i64 c] w fun e w' => e = .returned (.bool (sizeB r c)) ∧ w' = w := (size8 r c w).mono fun _ _ ⟨h1, h2⟩ => ⟨h1, h2.symm⟩
theorem wi8_lt (i : Int) {n : Nat} (h : 0 < n) : wi8 i n < n := Nat.mod_lt _ h
set_option maxHeartbeats 12000000 in
theorem lawExact_any (v : Value) (l : List Sc) (n m k r : Int) (w : World) (h : Scrs 1048576 w v l) (hl : l.length ≤ 140737488355328) (hT : Tabs w) :
    Calls Tryz.prog 3 #[.agg #[v, .int .i64 n, .int .i64 m, .int .i64 k, .int .i64 r]] w fun e w' => e = .returned (.bool true) ∧ Below w.heap.size w w' := by
  have HS := Lib.hid h
  have HT := Lib.hid hT
  obtain ⟨⟨A, c, rfl, hc, hf⟩, h2⟩ := id h
  have HF := Lib.hid hf
  have H2 := Lib.hid h2
  have H0 := Lib.hid (Run.start w (.slice A l.length c) n m k r)
  have HH := Lib.hid (heavy8 (.slice A l.length c) l n m k r _ (h.kept H0.out.bel) hl (by decide))
  have HWK := Lib.hid (fun W (hW : Below w.heap.size w W) => wakes8 W (hT.kept hW))
  obtain ⟨q, hq⟩ : ∃ q, l.length = q := ⟨_, rfl⟩
  rw [hq] at HF H2 H0 HH ⊢
  clear h hT h2 hf hl hc hq
  go_enter Tryz.func3, Tryz.ntmps3
  go_wp2_with fail
  refine HH.out.mono ?_; rintro e w1 ⟨b, rfl, hw, hb⟩
  have H1 := Lib.hid (H0.out.kept hb)
  have HW := Lib.hid hw
  clear hw hb HH H0
  cases b
  case true =>
    go_wp2_with fail
    go_ret
    exact ⟨rfl, H1.out.bel⟩
  have hn9 := wi8_lt n (show 0 < 9 by decide)
  have hm9 := wi8_lt m (show 0 < 9 by decide)
  have HN := Lib.hid (within8 n 9 (by decide) (by decide) w1.drew)
  have HM := Lib.hid (within8 m 9 (by decide) (by decide) w1.drew)
  generalize wi8 n 9 = n9 at hn9 HN
  generalize wi8 m 9 = m9 at hm9 HM
  have hwn : IntKind.i64.wrap (1 + (n9 : Int)) = 1 + (n9 : Int) := by rw [IntKind.wrap_i64]; omega
  have hwm : IntKind.i64.wrap (1 + (m9 : Int)) = 1 + (m9 : Int) := by rw [IntKind.wrap_i64]; omega
  have b1 : w1.cell? ⟨w.heap.size, 1, none⟩ = some (.int .i64 n) := Blk.cell H1.out.box 1
  have b2 : w1.cell? ⟨w.heap.size, 2, none⟩ = some (.int .i64 m) := Blk.cell H1.out.box 2
  go_upto_region 3 with (fail)
  go_still_tail 17, (by kernel_rfl)
  still_call HN.out
  repeat still_step
  still_call HM.out
  repeat still_step
  refine wpStill_nil ?_
  change wpList _ _ _ _ _ w1.drew
  go_wp2_with fail
  have HZ1 := Lib.hid (Szs.made w1 n m (1 + (n9 : Int)) (1 + (m9 : Int)) 1 1 0 3 40 41 26)
  have HR1 := Lib.hid (H1.out.kept (bel_alloc w1 (.cells #[.int .i64 n, .int .i64 m, .int .i64 (1 + (n9 : Int)), .int .i64 (1 + (m9 : Int)), .int .i64 1, .int .i64 1, .int .i64 0, .int .i64 3, .int .i64 40, .int .i64 41] 26)))
  clear HN HM hn9 hm9 hwn hwm b1 b2 H1
  generalize w1.alloc (.cells #[.int .i64 n, .int .i64 m, .int .i64 (1 + (n9 : Int)), .int .i64 (1 + (m9 : Int)), .int .i64 1, .int .i64 1, .int .i64 0, .int .i64 3, .int .i64 40, .int .i64 41] 26) = w2 at HZ1 HR1 ⊢
  generalize w1.heap.size = bs at HZ1 ⊢
  go_loopw [4] (fun i wr => ∃ a : Nat, a ≤ 5 ∧ i = .int .i64 a ∧ Hid (Run w wr (.slice A q c) n m k r) ∧ Hid (Szs wr bs)) (fun i _ => 5 - (intOf i).toNat)
  case atStart => exact ⟨0, by omega, rfl, Lib.hid (HR1.out.kept (Below.refl _ _).drew), Lib.hid (HZ1.out.kept (Below.refl _ _).drew)⟩
  case round =>
    obtain ⟨a, ha, rfl, HR, HZ⟩ := hrel
    by_cases hlt : a < 5
    · obtain ⟨R, C, e0, e1⟩ := HZ.out a hlt
      have hai : (a : Int) < 5 := by omega
      go_upto_region 7 with (fail)
      go_quiet (fail)
      have HQQ := Lib.hid (belq wr nq)
      generalize wr.drewN nq = wq at HQQ ⊢
      have HR := Lib.hid (HR.out.kept HQQ.out)
      have HZ := Lib.hid (HZ.out.kept HQQ.out)
      clear HQQ e0 e1 hai
      have HLO : Hid (w.heap.size ≤ wq.heap.size) := Lib.hid HR.out.bel.size
      have HBW : Hid (∀ W, Below wq.heap.size wq W → Below w.heap.size w W) := Lib.hid fun W hb => HR.out.bel.trans (hb.mono HLO.out)
      go_wp2_with fail
      refine (newD R C wq).mono ?_; rintro e w3 ⟨X, x, y, z, code, rfl, hans⟩
      have HA := Lib.hid hans
      clear hans
      have HI3 := Lib.hid HA.out.own.in_
      go_upto_region 10 with (first
        | (refine wp_allocS (n := w3.heap.size) rfl rfl rfl ?_)
        | (refine wp_storeS (b := w3.heap.size) rfl rfl rfl rfl rfl HI3.out.one (heap_alloc_new _ _) rfl ?_; intro w4 h4; have H5 := Lib.hid (Od.start HA.out.bel HA.out.own h4); have HU9 : Hid (wq.heap.size ≤ w4.heap.size) := Lib.hid (by have h1 := HA.out.bel.size; have h2 := Blk.lt h4.box; omega); clear h4)
        | (refine wp_allocS (n := w4.heap.size) rfl rfl rfl ?_))
      go_simp
      change Code.wp _ _ _ _ (w4.alloc (.cells zarr 38))
      generalize w4.alloc (.cells zarr 38) = w5 at H5 ⊢
      generalize w3.heap.size = b7 at H5 ⊢
      generalize w4.heap.size = b9 at H5 HU9 ⊢
      have HY := Lib.hid HA.out.yes
      have HNO := Lib.hid HA.out.no
      have HCD := Lib.hid HA.out.code
      clear HI3 HA
      go_cut [65] from 63 to 65 (fun s65 wx => s65 = .bool (sizeB R C) ∧ w5 = wx)
      case first =>
        go_wp2_with fail
        refine (size8' R C _).mono ?_; rintro e w5' ⟨rfl, rfl⟩
        go_wp2_with fail
        go_meet
        exact ⟨rfl, rfl⟩
      case rest =>
        obtain ⟨rfl, rfl⟩ := hcut
        go_upto_if 65 with (fail)
        go_cut [68] from 65 to 68 (fun _ wx => ∃ Wn x' y' z', Hid (Od wq b7 b9 X x y z Wn x' y' z' wx) ∧ Hid (sizeB R C = true → Wn = newS R.toNat C.toNat))
        case first =>
          cases hsz : sizeB R C
          · go_wp2_with fail
            go_meet
            exact ⟨noS, nilS, nilS, nilS, H5, Lib.hid (fun h => by rw [hsz] at h; cases h)⟩
          · go_wp2_with fail
            refine (refNewD R C _ hsz).mono ?_; rintro e w6 ⟨x', y', z', rfl, ho, hb⟩
            have H6 := Lib.hid (H5.out.kept hb)
            have HO6 := Lib.hid ho
            clear ho hb
            go_wp2_with (refine wp_storeS_then (b := b9) (A := sarr (newS R.toNat C.toNat) x' y' z') (T := Od wq b7 b9 X x y z (newS R.toNat C.toNat) x' y' z') rfl rfl rfl rfl rfl HO6.out.in_.one H6.out.x9 rfl (fun _ k => H6.out.put HO6.out k HU9.out) ?_; intro w7 H7)
            go_meet
            exact ⟨_, _, _, _, H7, Lib.hid fun _ => rfl⟩
        case rest =>
          obtain ⟨Wn, x', y', z', H6, HWN⟩ := hcut
          rename World => w6
          clear H5
          have HSM : Hid (∀ W, Below wq.heap.size wq W → Own W wq.heap.size X x y z → In W Wn x' y' z' → Calls Tryz.prog 12 #[sv X x y z, .int .i64 code, .bool (sizeB R C), sv Wn x' y' z', sv noS nilS nilS nilS, sv noS nilS nilS nilS] W fun e w' => e = .returned (.bool true) ∧ Below wq.heap.size W w' ∧ Boxes W w') := Lib.hid fun W hb ho hi =>
            same_any (sizeB R C) wq.heap.size X Wn x y z x' y' z' code noS nilS nilS nilS nilS nilS nilS W hb.size HCD.out (fun h => ⟨(HWN.out h).trans (HY.out h).symm, ho, ((HWN.out h).trans (HY.out h).symm) ▸ hi, by rw [HY.out h]; exact newS_lens h⟩) HNO.out (fun _ _ => (own_nil _ 0).in_) (fun _ _ => (own_nil _ 0).in_) lens_no
          go_upto_region 12 with (fail)
          go_cut [78] from 69 to 78 (fun s78 wx => s78 = .bool false ∧ Hid (Oe wq b9 wx))
          case first =>
            refine wp_region_still_tail 8 (by kernel_rfl) (by kernel_rfl) ?_
            simp only [List.take_succ_cons, List.take_zero, List.drop_succ_cons, List.drop_zero]
            refine still_loadS (p := ⟨b7, 0, none⟩) (s := X) (x0 := x) (y0 := y) (z0 := z) rfl rfl rfl (H6.out.kept (Below.refl _ _).drew).x7.at ?_
            repeat still_step
            still_call (size8' R C _)
            refine still_loadS (p := ⟨b9, 0, none⟩) (s := Wn) (x0 := x') (y0 := y') (z0 := z') rfl rfl rfl (H6.out.kept (Below.refl _ _).drew).x9.at ?_
            repeat still_step
            refine wpStill_nil ?_
            change wpList _ _ _ _ _ w6.drew
            have H6 := Lib.hid (H6.out.kept (Below.refl _ _).drew)
            go_wp2_with fail
            refine (HSM.out _ H6.out.bel H6.out.own H6.out.want).mono ?_; rintro e w8 ⟨rfl, hb, hbx⟩
            have H8 : Hid (Oe wq b9 w8) := Lib.hid ⟨H6.out.bel.trans hb, _, _, _, _, hbx _ _ H6.out.x9⟩
            clear hb hbx
            go_wp2_with fail
            go_meet
            exact ⟨rfl, H8⟩
          case rest =>
          obtain ⟨rfl, H8⟩ := hcut
          rename World => w8
          clear H6 HSM HWN HY HNO HCD
          go_wp2_with fail
          go_loopw [10] (fun j wr => ∃ i : Nat, i ≤ q ∧ i ≤ 4 ∧ j = .int .i64 i ∧ Hid (Oe wq b9 wr)) (fun j _ => q - (intOf j).toNat)
          case atStart => exact ⟨0, by omega, by omega, rfl, H8⟩
          case round =>
            obtain ⟨i, hi, hi4, rfl, HE⟩ := hrel
            clear H8
            have HRr := Lib.hid (HR.out.kept HE.out.bel)
            have b0 : wr.cell? ⟨w.heap.size, 0, none⟩ = some (.slice A q c) := Blk.cell HRr.out.box 0
            by_cases hiq : i < q
            · by_cases h4 : i < 4
              · obtain ⟨ad, rfl, hat⟩ := HF.out i hiq
                have hI := H2.out i hiq
                have hFt := fit8 hI.2 (HW.out trivial i hiq)
                generalize l.getD i noSc = sc at hat hI hFt
                have HAT := Lib.hid (show At w (ad.add (i * 43)) (sarr sc.s sc.x sc.y sc.z).toList from hat)
                have HIN : Hid (∀ W, Below w.heap.size w W → sc.in_ W) := Lib.hid fun W hb => hI.1.kept hb
                have HFT := Lib.hid hFt
                clear hat hI hFt
                go_wp2_with (refine wp_loadArg rfl rfl rfl (HAT.out.kept HRr.out.bel) ?_)
                refine (copyScreen_any sc.s sc.x sc.y sc.z wr (HIN.out _ HRr.out.bel) ⟨HFT.out.l.m, HFT.out.l.o, HFT.out.l.t⟩).mono ?_; rintro e w3 ⟨xi, yi, zi, rfl, ho, hb⟩
                have HO3 := Lib.hid ho
                have HI3 := Lib.hid ho.in_
                have HE3 := Lib.hid (HE.out.kept hb)
                clear ho hb HE HRr b0
                go_wp2_with (first
                  | (refine wp_allocS (n := w3.heap.size) rfl rfl rfl ?_)
                  | (refine wp_storeS (b := w3.heap.size) rfl rfl rfl rfl rfl HI3.out.one (heap_alloc_new _ _) rfl ?_; intro w4 h4; obtain ⟨hx4, hb4⟩ := bx_sto (e := ⟨sc.s, xi, yi, zi⟩) HI3.out h4; have HX4 := Lib.hid hx4; have HE4 := Lib.hid (HE3.out.kept hb4); have HS4 := Lib.hid h4; clear hx4 hb4 h4)
                  | (refine wp_loadS (b := w3.heap.size) (s := sc.s) (x0 := xi) (y0 := yi) (z0 := zi) rfl rfl rfl HX4.out.box ?_))
                have HR4 := Lib.hid (HR.out.kept HE4.out.bel)
                clear HI3
                refine (resizeD sc.s xi yi zi R C w4 HX4.out.i HFT.out.h (HT.out.kept HR4.out.bel)).mono ?_; rintro e w5 ⟨X2, x2, y2, z2, code2, rfl, hans⟩
                have HA := Lib.hid hans
                have HI5 := Lib.hid hans.own.in_
                clear hans
                go_upto_region 19 with (first
                  | (refine wp_allocS (n := w5.heap.size) rfl rfl rfl ?_)
                  | (refine wp_storeS (b := w5.heap.size) rfl rfl rfl rfl rfl HI5.out.one (heap_alloc_new _ _) rfl ?_; intro w6 h6; have HQ6 := Lib.hid (Iq.start HE3.out HO3.out HS4.out HA.out.bel HA.out.own h6); clear h6))
                go_simp
                change Code.wp _ _ _ _ w6
                generalize w5.heap.size = b12 at HQ6 ⊢
                have HB11 : Hid (∀ W, Below w4.heap.size w6 W → True) := Lib.hid fun _ _ => trivial
                generalize w3.heap.size = b11 at HQ6 HS4 HX4 ⊢
                have HY := Lib.hid HA.out.yes
                have HNO := Lib.hid HA.out.no
                have HCD := Lib.hid HA.out.code
                have HL4 : Hid (wq.heap.size ≤ w4.heap.size) := Lib.hid HE4.out.bel.size
                clear HA HI5 HE4 HE3 HO3 HS4 HX4 HB11 HR4
                generalize w4.heap.size = B4 at HQ6 HL4 ⊢
                go_cut [14] from 103 to 113 (fun s14 wx => s14 = .bool (okB sc.s && sizeB R C) ∧ Hid (∃ Wn x' y' z', Iq wq b11 b12 b9 B4 sc.s xi yi zi X2 x2 y2 z2 Wn x' y' z' wx))
                case first =>
                  obtain ⟨Wm, xm, ym, zm, hq⟩ := HQ6.out
                  have HQ := Lib.hid hq
                  have HB6 := Lib.hid (HBW.out _ hq.bel)
                  clear hq HQ6
                  have b0 : w6.cell? ⟨w.heap.size, 0, none⟩ = some (.slice (some ad) q c) := Blk.cell (HR.out.kept HQ.out.bel).box 0
                  go_wp2_with (refine wp_loadArg rfl rfl rfl (HAT.out.kept HB6.out) ?_)
                  refine (refScreen_any sc.s sc.x sc.y sc.z w6 (HIN.out _ HB6.out) HFT.out.sh (HT.out.kept HB6.out)).mono ?_; rintro e w7 ⟨rfl, hb⟩
                  have HQ7 := Lib.hid (HQ.out.kept hb)
                  clear hb HQ
                  cases hok : okB sc.s
                  · go_wp2_with fail
                    go_meet
                    exact ⟨by rw [hok]; rfl, Lib.hid ⟨_, _, _, _, HQ7.out⟩⟩
                  · go_wp2_with fail
                    refine (size8' R C _).mono ?_; rintro e w7' ⟨rfl, rfl⟩
                    go_wp2_with fail
                    go_meet
                    exact ⟨by rw [hok]; rfl, Lib.hid ⟨_, _, _, _, HQ7.out⟩⟩
                case rest =>
                  obtain ⟨rfl, HQ7⟩ := hcut
                  rename World => w7
                  clear HQ6
                  go_upto_if 114 with (fail)
                  go_cut [14] from 114 to 122 (fun s14 wx => s14 = .bool (okB sc.s && sizeB R C) ∧ Hid (∃ Wn x' y' z', Iq wq b11 b12 b9 B4 sc.s xi yi zi X2 x2 y2 z2 Wn x' y' z' wx ∧ ((okB sc.s && sizeB R C) = true → Wn = resized sc.s R.toNat C.toNat ∧ In wx Wn x' y' z')))
                  case first =>
                    obtain ⟨Wm, xm, ym, zm, hq⟩ := HQ7.out
                    have HQ := Lib.hid hq
                    have HB7 := Lib.hid (HBW.out _ hq.bel)
                    clear hq HQ7
                    have b0 : w7.cell? ⟨w.heap.size, 0, none⟩ = some (.slice (some ad) q c) := Blk.cell (HR.out.kept HQ.out.bel).box 0
                    cases hm : (okB sc.s && sizeB R C)
                    · go_wp2_with fail
                      go_meet
                      exact ⟨by rw [hm], Lib.hid ⟨_, _, _, _, HQ.out, fun h => by rw [hm] at h; cases h⟩⟩
                    · have HM2 : Hid (okB sc.s = true ∧ sizeB R C = true) := Lib.hid ((Bool.and_eq_true _ _).mp hm)
                      have HMM := Lib.hid hm
                      clear hm
                      go_wp2_with (refine wp_loadArg rfl rfl rfl (HAT.out.kept HB7.out) ?_)
                      refine (refResizeD sc.s sc.x sc.y sc.z R C w7 (HIN.out _ HB7.out) HM2.out.1 HM2.out.2).mono ?_; rintro e w8 ⟨xr, yr, zr, rfl, ho, hb⟩
                      have HQ8 := Lib.hid (HQ.out.kept hb)
                      have HO8 := Lib.hid ho
                      clear ho hb HQ
                      go_wp2_with (refine wp_storeS_then (b := b9) (A := sarr (resized sc.s R.toNat C.toNat) xr yr zr) (T := fun W => Iq wq b11 b12 b9 B4 sc.s xi yi zi X2 x2 y2 z2 (resized sc.s R.toNat C.toNat) xr yr zr W ∧ In W (resized sc.s R.toNat C.toNat) xr yr zr) rfl rfl rfl rfl rfl HO8.out.in_.one HQ8.out.x9 rfl (fun _ k => HQ8.out.put HO8.out k HU9.out) ?_; intro w9 H9)
                      go_meet
                      exact ⟨by rw [HMM.out], Lib.hid ⟨_, _, _, _, H9.out.1, fun _ => ⟨rfl, H9.out.2⟩⟩⟩
                  case rest =>
                    obtain ⟨rfl, hcut⟩ := hcut
                    obtain ⟨Wm, xm, ym, zm, hq⟩ := hcut.out
                    clear hcut HQ7
                    rename World => w9
                    have HQ := Lib.hid hq.1
                    have HWN := Lib.hid hq.2
                    clear hq
                    have HSM : Hid (∀ W, Iq wq b11 b12 b9 B4 sc.s xi yi zi X2 x2 y2 z2 Wm xm ym zm W → (∀ N a b c, In w9 N a b c → In W N a b c) → Calls Tryz.prog 12 #[sv X2 x2 y2 z2, .int .i64 code2, .bool (okB sc.s && sizeB R C), sv Wm xm ym zm, sv sc.s xi yi zi, sv sc.s sc.x sc.y sc.z] W fun e w' => e = .returned (.bool true) ∧ Below B4 W w' ∧ Boxes W w') := Lib.hid fun W hq hk =>
                      same_any (okB sc.s && sizeB R C) B4 X2 Wm x2 y2 z2 xm ym zm code2 sc.s xi yi zi sc.x sc.y sc.z W hq.up HCD.out
                        (fun h => ⟨(HWN.out h).1.trans (HY.out h).symm, hq.own, ((HWN.out h).1.trans (HY.out h).symm) ▸ hk _ _ _ _ (HWN.out h).2, by rw [HY.out h]; exact resized_lens ((Bool.and_eq_true _ _).mp h).1 ((Bool.and_eq_true _ _).mp h).2⟩)
                        HNO.out (fun w' hb => (hq.ini.keptB hq.lti hb).in_) (fun w' hb => HIN.out w' ((HBW.out _ hq.bel).trans (hb.mono (Nat.le_trans HLO.out HL4.out)))) HFT.out.l
                    have b0 : w9.cell? ⟨w.heap.size, 0, none⟩ = some (.slice (some ad) q c) := Blk.cell (HR.out.kept HQ.out.bel).box 0
                    go_upto_region 22 with (fail)
                    go_cut [134] from 123 to 134 (fun s134 wx => s134 = .bool false ∧ Hid (Oe wq b9 wx))
                    case first =>
                      have HQ := Lib.hid (HQ.out.kept (Below.refl _ _).drew)
                      refine wp_region_still_tail 10 (by kernel_rfl) (by kernel_rfl) ?_
                      simp only [List.take_succ_cons, List.take_zero, List.drop_succ_cons, List.drop_zero]
                      refine still_loadS (p := ⟨b12, 0, none⟩) (s := X2) (x0 := x2) (y0 := y2) (z0 := z2) rfl rfl rfl HQ.out.x12.at ?_
                      still_step
                      still_step
                      refine still_loadS (p := ⟨b9, 0, none⟩) (s := Wm) (x0 := xm) (y0 := ym) (z0 := zm) rfl rfl rfl HQ.out.x9.at ?_
                      refine still_loadS (p := ⟨b11, 0, none⟩) (s := sc.s) (x0 := xi) (y0 := yi) (z0 := zi) rfl rfl rfl HQ.out.x11.at ?_
                      still_step
                      still_step
                      still_step
                      still_step
                      refine still_loadS (s := sc.s) (x0 := sc.x) (y0 := sc.y) (z0 := sc.z) rfl rfl rfl (HAT.out.kept (HBW.out _ HQ.out.bel)) ?_
                      refine wpStill_nil ?_
                      change wpList _ _ _ _ _ w9.drew
                      go_wp2_with fail
                      refine (HSM.out _ HQ.out (fun N a b c h => h.kept (Below.refl _ _).drew)).mono ?_; rintro e w10 ⟨rfl, hb, hbx⟩
                      have H10 : Hid (Oe wq b9 w10) := Lib.hid ⟨HQ.out.bel.trans (hb.mono HL4.out), _, _, _, _, hbx _ _ HQ.out.x9⟩
                      clear hb hbx
                      go_wp2_with fail
                      go_meet
                      exact ⟨rfl, H10⟩
                    case rest =>
                      obtain ⟨rfl, H10⟩ := hcut
                      rename World => w10
                      clear HQ HSM HWN HY HNO HCD b0
                      go_wp2_with fail
                      go_roundw
                      case rel => exact ⟨i + 1, by omega, by omega, by go_num, H10⟩
                      case measure => simp [intOf]; omega
              · have HRr := Lib.hid (HR.out.kept HE.out.bel)
                have HZr := Lib.hid (HZ.out.kept HE.out.bel)
                go_wp2_with fail
                go_roundw
                case rel => exact ⟨a + 1, by omega, by go_num, HRr, HZr⟩
                case measure => simp [intOf]; omega
            · have HRr := Lib.hid (HR.out.kept HE.out.bel)
              have HZr := Lib.hid (HZ.out.kept HE.out.bel)
              go_wp2_with fail
              go_roundw
              case rel => exact ⟨a + 1, by omega, by go_num, HRr, HZr⟩
              case measure => simp [intOf]; omega
    · have hai : ¬ (a : Int) < 5 := by omega
      clear hlt ha
      go_wp2_with fail
      clear hai
      go_loopw [15] (fun j wr => ∃ i : Nat, i ≤ q ∧ i ≤ 4 ∧ j = .int .i64 i ∧ Hid (Run w wr (.slice A q c) n m k r)) (fun j _ => q - (intOf j).toNat)
      case atStart => exact ⟨0, by omega, by omega, rfl, HR⟩
      case round =>
        clear HR HZ
        obtain ⟨i, hi, hi4, rfl, HR⟩ := hrel
        have b0 : wr.cell? ⟨w.heap.size, 0, none⟩ = some (.slice A q c) := Blk.cell HR.out.box 0
        by_cases hiq : i < q
        · by_cases h4 : i < 4
          · obtain ⟨ad, rfl, hat⟩ := HF.out i hiq
            have hI := H2.out i hiq
            have hFt := fit8 hI.2 (HW.out trivial i hiq)
            generalize l.getD i noSc = sc at hat hI hFt
            have HAT := Lib.hid (show At w (ad.add (i * 43)) (sarr sc.s sc.x sc.y sc.z).toList from hat)
            have HIN : Hid (∀ W, Below w.heap.size w W → sc.in_ W) := Lib.hid fun W hb => hI.1.kept hb
            have HFT := Lib.hid hFt
            clear hat hI hFt
            go_wp2_with (refine wp_loadArg rfl rfl rfl (HAT.out.kept HR.out.bel) ?_)
            refine (refScreen_any sc.s sc.x sc.y sc.z wr (HIN.out _ HR.out.bel) HFT.out.sh (HT.out.kept HR.out.bel)).mono ?_; rintro e w3 ⟨rfl, hb⟩
            have HR3 := Lib.hid (HR.out.kept hb)
            clear hb HR b0
            have b0 : w3.cell? ⟨w.heap.size, 0, none⟩ = some (.slice (some ad) q c) := Blk.cell HR3.out.box 0
            cases hok : okB sc.s
            · go_wp2_with (refine wp_loadArg rfl rfl rfl (HAT.out.kept HR3.out.bel) ?_)
              refine (view_no sc.s sc.x sc.y sc.z w3 (HIN.out _ HR3.out.bel) HFT.out.h (HT.out.kept HR3.out.bel) hok).mono ?_; rintro e w4 ⟨rfl, hb⟩
              have HR4 := Lib.hid (HR3.out.kept hb)
              have HCK := Lib.hid (fun W (hb : Below w.heap.size w W) => check_any sc.s sc.x sc.y sc.z W (HIN.out _ hb) HFT.out.h (HT.out.kept hb))
              rw [hok] at HCK
              unfold codeB at HCK
              clear hb HR3 b0 hok
              have b0 : w4.cell? ⟨w.heap.size, 0, none⟩ = some (.slice (some ad) q c) := Blk.cell HR4.out.box 0
              have HB5 : Hid (∀ o1 o2, Below w4.heap.size w4 ((w4.alloc o1).alloc o2)) := Lib.hid fun o1 o2 => (bel_alloc w4 o1).alloc (by simp) o2
              go_upto_region 32 with (fail)
              change Code.wp _ _ _ _ ((w4.alloc (vbox noG nilV 0 0 0 [])).alloc (vbox noG nilV 0 0 0 []))
              have HR7 := Lib.hid (HR4.out.kept (HB5.out (vbox noG nilV 0 0 0 []) (vbox noG nilV 0 0 0 [])))
              have HX7 : Hid (((w4.alloc (vbox noG nilV 0 0 0 [])).alloc (vbox noG nilV 0 0 0 [])).heap[w4.heap.size]? = some (vbox noG nilV 0 0 0 [])) := Lib.hid (heap_alloc2_old _ _ _)
              have HY7 : Hid (((w4.alloc (vbox noG nilV 0 0 0 [])).alloc (vbox noG nilV 0 0 0 [])).heap[w4.heap.size + 1]? = some (vbox noG nilV 0 0 0 [])) := Lib.hid (heap_alloc2_new _ _ _)
              generalize (w4.alloc (vbox noG nilV 0 0 0 [])).alloc (vbox noG nilV 0 0 0 []) = w7 at HR7 HX7 HY7 ⊢
              have HB7 := Lib.hid HR7.out.bel
              clear b0 HR4
              have b0 : w7.cell? ⟨w.heap.size, 0, none⟩ = some (.slice (some ad) q c) := Blk.cell HR7.out.box 0
              go_wp2_with (refine wp_loadArg rfl rfl rfl (HAT.out.kept HB7.out) ?_)
              refine (HCK.out _ HB7.out).mono ?_; rintro e w8 ⟨rfl, hb⟩
              have HR8 := Lib.hid (HR7.out.kept hb)
              have HX8 := Lib.hid (Blk.kept HX7.out hb)
              have HY8 := Lib.hid (Blk.kept HY7.out hb)
              clear hb
              go_wp2_with fail
              refine num8_then ?_
              go_wp2_with fail
              refine num8_then ?_
              obtain ⟨x0, x1, x2, x3, x4, x5, x6⟩ := vbox_cells HX8.out
              obtain ⟨y0, y1, y2, y3, y4, y5, y6⟩ := vbox_cells HY8.out
              go_wp2_with fail
              refine (eqView8 noG nilV nilV 0 0 0 [] w8 (Rm.nil _) (Rm.nil _) (by simp [noG])).mono ?_; rintro e w9 ⟨rfl, hb⟩
              have HR9 := Lib.hid (HR8.out.kept hb)
              clear hb x0 x1 x2 x3 x4 x5 x6 y0 y1 y2 y3 y4 y5 y6
              go_wp2_with fail
              go_roundw
              case rel => exact ⟨i + 1, by omega, by omega, by go_num, HR9⟩
              case measure => simp [intOf]; omega
            · have HOK := Lib.hid ((ok_iff _).1 hok)
              have hsl : (seenG sc.s).cells.length ≤ 1000000 := by
                have h1 := gridB_small HOK.out.m
                have h2 := gridB_small HOK.out.o
                unfold seenG; split <;> omega
              have HSL := Lib.hid hsl
              have HCK := Lib.hid (fun W (hb : Below w.heap.size w W) => check_any sc.s sc.x sc.y sc.z W (HIN.out _ hb) HFT.out.h (HT.out.kept hb))
              rw [hok] at HCK
              unfold codeB at HCK
              have HVW := Lib.hid (fun W (hb : Below w.heap.size w W) => view_any sc.s sc.x sc.y sc.z W (HIN.out _ hb) HFT.out.h (HT.out.kept hb) hok hsl)
              have HRV := Lib.hid (fun W (hb : Below w.heap.size w W) => refView8 sc.s sc.x sc.y sc.z W (HIN.out _ hb) hsl)
              obtain ⟨G, hG⟩ : ∃ G, seenG sc.s = G := ⟨_, rfl⟩
              rw [hG] at HVW HRV HSL
              clear hG hok hsl HOK
              go_wp2_with (refine wp_loadArg rfl rfl rfl (HAT.out.kept HR3.out.bel) ?_)
              refine (HVW.out w3 HR3.out.bel).mono ?_; rintro e w4 ⟨v4, rfl, ho, hb⟩
              obtain ⟨A4, n4, c4, rfl⟩ : ∃ A n c, v4 = .slice A n c := (by obtain ⟨A, c, e, _⟩ := ho.rm.2; exact ⟨A, _, c, e⟩)
              have HR4 := Lib.hid (HR3.out.kept hb)
              have HO4 := Lib.hid ho
              clear ho hb HR3 b0 HVW
              have HB5 : Hid (∀ o1 o2, Below w4.heap.size w4 ((w4.alloc o1).alloc o2)) := Lib.hid fun o1 o2 => (bel_alloc w4 o1).alloc (by simp) o2
              go_upto_region 31 with (fail)
              change Code.wp _ _ _ _ ((w4.alloc (vbox G (.slice A4 n4 c4) sc.s.cur.row sc.s.cur.col sc.s.modes sc.s.title)).alloc (vbox noG nilV 0 0 0 []))
              have HR5 := Lib.hid (HR4.out.kept (HB5.out (vbox G (.slice A4 n4 c4) sc.s.cur.row sc.s.cur.col sc.s.modes sc.s.title) (vbox noG nilV 0 0 0 [])))
              have HX5 : Hid (((w4.alloc (vbox G (.slice A4 n4 c4) sc.s.cur.row sc.s.cur.col sc.s.modes sc.s.title)).alloc (vbox noG nilV 0 0 0 [])).heap[w4.heap.size]? = some (vbox G (.slice A4 n4 c4) sc.s.cur.row sc.s.cur.col sc.s.modes sc.s.title)) := Lib.hid (heap_alloc2_old _ _ _)
              have HY5 : Hid (((w4.alloc (vbox G (.slice A4 n4 c4) sc.s.cur.row sc.s.cur.col sc.s.modes sc.s.title)).alloc (vbox noG nilV 0 0 0 [])).heap[w4.heap.size + 1]? = some (vbox noG nilV 0 0 0 [])) := Lib.hid (heap_alloc2_new _ _ _)
              have HO5 := Lib.hid (HO4.out.kept (HB5.out (vbox G (.slice A4 n4 c4) sc.s.cur.row sc.s.cur.col sc.s.modes sc.s.title) (vbox noG nilV 0 0 0 [])))
              have HL5 : Hid (w.heap.size ≤ w4.heap.size) := Lib.hid HR4.out.bel.size
              generalize (w4.alloc (vbox G (.slice A4 n4 c4) sc.s.cur.row sc.s.cur.col sc.s.modes sc.s.title)).alloc (vbox noG nilV 0 0 0 []) = w5 at HR5 HX5 HY5 HO5 ⊢
              clear HR4 HO4 HB5
              generalize w4.heap.size = b4 at HX5 HY5 HL5 ⊢
              have b0 : w5.cell? ⟨w.heap.size, 0, none⟩ = some (.slice (some ad) q c) := Blk.cell HR5.out.box 0
              go_wp2_with (refine wp_loadArg rfl rfl rfl (HAT.out.kept HR5.out.bel) ?_)
              refine (HRV.out w5 HR5.out.bel).mono ?_; rintro e w6 ⟨v6, rfl, ho, hb⟩
              obtain ⟨A6, n6, c6, rfl⟩ : ∃ A n c, v6 = .slice A n c := (by obtain ⟨A, c, e, _⟩ := ho.rm.2; exact ⟨A, _, c, e⟩)
              have HR6 := Lib.hid (HR5.out.kept hb)
              have HX6 := Lib.hid (Blk.kept HX5.out hb)
              have HY6 := Lib.hid (Blk.kept HY5.out hb)
              have HB7 := Lib.hid (vput_below HR6.out.bel (show w.heap.size ≤ b4 + 1 by have := HL5.out; omega) G.rows G.cols (.slice A6 n6 c6) sc.s.cur.row sc.s.cur.col sc.s.modes sc.s.title)
              have HY7 := Lib.hid (vput_box HY6.out G (.slice A6 n6 c6) sc.s.cur.row sc.s.cur.col sc.s.modes sc.s.title)
              have HX7 : Hid ((vput w6 (b4 + 1) G.rows G.cols (.slice A6 n6 c6) sc.s.cur.row sc.s.cur.col sc.s.modes sc.s.title).heap[b4]? = some (vbox G (.slice A4 n4 c4) sc.s.cur.row sc.s.cur.col sc.s.modes sc.s.title)) := Lib.hid (vput_other HX6.out (by omega) _ _ _ _ _ _ _)
              have HR7 : Hid (Run w (vput w6 (b4 + 1) G.rows G.cols (.slice A6 n6 c6) sc.s.cur.row sc.s.cur.col sc.s.modes sc.s.title) (.slice (some ad) q c) n m k r) := Lib.hid ⟨HB7.out, vput_other HR6.out.box (by have := HL5.out; omega) _ _ _ _ _ _ _⟩
              have HO7 : Hid (Rm (vput w6 (b4 + 1) G.rows G.cols (.slice A6 n6 c6) sc.s.cur.row sc.s.cur.col sc.s.modes sc.s.title) (.slice A4 n4 c4) G.cells ∧ Rm (vput w6 (b4 + 1) G.rows G.cols (.slice A6 n6 c6) sc.s.cur.row sc.s.cur.col sc.s.modes sc.s.title) (.slice A6 n6 c6) G.cells) := Lib.hid ⟨(vput_own2 HY6.out (HO5.out.kept hb) _ _ _ _ _ _ _).rm, (vput_own2 HY6.out ho _ _ _ _ _ _ _).rm⟩
              obtain ⟨z0, z1, z2, z3, z4, z5, z6⟩ := vbox_cells HY6.out
              have zf : ∀ j, w6.frozen? ⟨b4 + 1, j, none⟩ = false := Blk.free HY6.out
              clear ho hb HR5 HX5 HY5 HO5 b0 HRV
              go_upto_region 32 with (fail)
              change Code.wp _ _ _ _ (vput w6 (b4 + 1) G.rows G.cols (.slice A6 n6 c6) sc.s.cur.row sc.s.cur.col sc.s.modes sc.s.title)
              clear z0 z1 z2 z3 z4 z5 z6 zf HX6 HY6 HR6
              generalize vput w6 (b4 + 1) G.rows G.cols (.slice A6 n6 c6) sc.s.cur.row sc.s.cur.col sc.s.modes sc.s.title = w7 at HB7 HR7 HX7 HY7 HO7 ⊢
              have b0 : w7.cell? ⟨w.heap.size, 0, none⟩ = some (.slice (some ad) q c) := Blk.cell HR7.out.box 0
              go_wp2_with (refine wp_loadArg rfl rfl rfl (HAT.out.kept HB7.out) ?_)
              refine (HCK.out _ HB7.out).mono ?_; rintro e w8 ⟨rfl, hb⟩
              have HR8 := Lib.hid (HR7.out.kept hb)
              have HX8 := Lib.hid (Blk.kept HX7.out hb)
              have HY8 := Lib.hid (Blk.kept HY7.out hb)
              have HO8 := Lib.hid (And.intro (HO7.out.1.kept hb) (HO7.out.2.kept hb))
              clear hb
              go_wp2_with fail
              refine num8_then ?_
              go_wp2_with fail
              refine num8_then ?_
              obtain ⟨x0, x1, x2, x3, x4, x5, x6⟩ := vbox_cells HX8.out
              obtain ⟨y0, y1, y2, y3, y4, y5, y6⟩ := vbox_cells HY8.out
              go_wp2_with fail
              refine (eqView8 G (.slice A4 n4 c4) (.slice A6 n6 c6) sc.s.cur.row sc.s.cur.col sc.s.modes sc.s.title w8 HO8.out.1 HO8.out.2 (Nat.le_trans HSL.out (by decide))).mono ?_; rintro e w9 ⟨rfl, hb⟩
              have HR9 := Lib.hid (HR8.out.kept hb)
              clear hb x0 x1 x2 x3 x4 x5 x6 y0 y1 y2 y3 y4 y5 y6
              go_wp2_with fail
              go_roundw
              case rel => exact ⟨i + 1, by omega, by omega, by go_num, HR9⟩
              case measure => simp [intOf]; omega
          · go_wp2_with fail
            refine (HWK.out wr HR.out.bel).mono ?_; rintro e w2 ⟨rfl, hb⟩
            go_wp2_with fail
            go_ret
            exact ⟨rfl, HR.out.bel.trans (hb.mono HR.out.bel.size)⟩
        · go_wp2_with fail
          refine (HWK.out wr HR.out.bel).mono ?_; rintro e w2 ⟨rfl, hb⟩
          go_wp2_with fail
          go_ret
          exact ⟨rfl, HR.out.bel.trans (hb.mono HR.out.bel.size)⟩
end Scr
end Go.Proofs.YtmilpdhnblmflaaGreatDoor
end
