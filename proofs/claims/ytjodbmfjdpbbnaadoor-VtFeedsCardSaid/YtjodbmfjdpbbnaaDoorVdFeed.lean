/- Contract of the developers' Feed: all bytes, in any state. -/
import Derived.Test.YtjodbmfjdpbbnaaDoorVdComes
import Derived.Test.YtjodbmfjdpbbnaaDoorVdCheck3
import Derived.Test.YtjodbmfjdpbbnaaDoorVdTold
namespace Go.Proofs.YtjodbmfjdpbbnaaDoor
set_option maxRecDepth 100000
open Go.RowKit
namespace Vd
open Vt

/-- What feeding tells: the events, of the call's own; the state, its numbers the call's own; no error. -/
def FedD (base : Nat) (w : World) (m : Mc) (e : Ending) (w' : World) : Prop :=
  ∃ lv pv, e = .returned (.tuple #[lv, .agg #[.int .i64 m.p.state, .string ⟨m.p.part.toArray⟩, pv, .string ⟨m.p.inter.toArray⟩, .string ⟨m.p.text.toArray⟩], .int .i64 0]) ∧ OwnEvs w' base lv m.l ∧ w'.ownsRow base 3 1 pv m.p.params.length (ints m.p.params) ∧ Below base w w' ∧ ∀ e ∈ m.l, Good e
/-- An error alone. -/
def ErrD (n : Int) (w : World) (e : Ending) (w' : World) : Prop :=
  e = .returned (.tuple #[.slice none 0 0, .agg #[.int .i64 0, .string ⟨#[]⟩, .slice none 0 0, .string ⟨#[]⟩, .string ⟨#[]⟩], .int .i64 n]) ∧ Below w.heap.size w w'

set_option maxHeartbeats 3200000 in
theorem feed_err (p : Ps) (u : Value) (s : ByteArray) (n : Int) (w : World) (hu : Src w u p.params.length (ints p.params)) (hp : p.part.length ≤ 1000000) (hn : p.params.length ≤ 100000000) (hi : p.inter.length ≤ 1000000000) (htx : p.text.length ≤ 1000000000) (ht : Utf.Tabs w)
    (he : (okB p = false ∧ n = 1) ∨ (okB p = true ∧ 4000 < s.size ∧ n = 2)) :
    Calls Tryd.prog 11 #[.agg #[.int .i64 p.state, .string ⟨p.part.toArray⟩, u, .string ⟨p.inter.toArray⟩, .string ⟨p.text.toArray⟩], .string s] w (ErrD n w) := by
  obtain ⟨A, c, rfl, _⟩ := hu.form
  have hw0 : Below w.heap.size w ((w.alloc (.cells #[.int .i64 p.state, .string ⟨p.part.toArray⟩, .slice A p.params.length c, .string ⟨p.inter.toArray⟩, .string ⟨p.text.toArray⟩] 31)).alloc (.cells #[.int .i64 0, .string ⟨#[]⟩, .slice none 0 0, .string ⟨#[]⟩, .string ⟨#[]⟩] 31)) := ((Below.refl _ _).alloc (Nat.le_refl _) _).alloc (by simp) _
  have hblk : ((w.alloc (.cells #[.int .i64 p.state, .string ⟨p.part.toArray⟩, .slice A p.params.length c, .string ⟨p.inter.toArray⟩, .string ⟨p.text.toArray⟩] 31)).alloc (.cells #[.int .i64 0, .string ⟨#[]⟩, .slice none 0 0, .string ⟨#[]⟩, .string ⟨#[]⟩] 31)).heap[w.heap.size + 1]? = some (.cells #[.int .i64 0, .string ⟨#[]⟩, .slice none 0 0, .string ⟨#[]⟩, .string ⟨#[]⟩] 31) := by
    have := heap_alloc_new (w.alloc (.cells #[.int .i64 p.state, .string ⟨p.part.toArray⟩, .slice A p.params.length c, .string ⟨p.inter.toArray⟩, .string ⟨p.text.toArray⟩] 31)) (.cells #[.int .i64 0, .string ⟨#[]⟩, .slice none 0 0, .string ⟨#[]⟩, .string ⟨#[]⟩] 31)
    simpa using this
  have hblk0 : ((w.alloc (.cells #[.int .i64 p.state, .string ⟨p.part.toArray⟩, .slice A p.params.length c, .string ⟨p.inter.toArray⟩, .string ⟨p.text.toArray⟩] 31)).alloc (.cells #[.int .i64 0, .string ⟨#[]⟩, .slice none 0 0, .string ⟨#[]⟩, .string ⟨#[]⟩] 31)).heap[w.heap.size]? = some (.cells #[.int .i64 p.state, .string ⟨p.part.toArray⟩, .slice A p.params.length c, .string ⟨p.inter.toArray⟩, .string ⟨p.text.toArray⟩] 31) := by
    have h1 := heap_alloc_new w (.cells #[.int .i64 p.state, .string ⟨p.part.toArray⟩, .slice A p.params.length c, .string ⟨p.inter.toArray⟩, .string ⟨p.text.toArray⟩] 31)
    exact (((Below.refl _ _).alloc (Nat.le_refl _) (.cells #[.int .i64 0, .string ⟨#[]⟩, .slice none 0 0, .string ⟨#[]⟩, .string ⟨#[]⟩] 31)).block _ (by simp)).trans h1
  have hsz : ((w.alloc (.cells #[.int .i64 p.state, .string ⟨p.part.toArray⟩, .slice A p.params.length c, .string ⟨p.inter.toArray⟩, .string ⟨p.text.toArray⟩] 31)).alloc (.cells #[.int .i64 0, .string ⟨#[]⟩, .slice none 0 0, .string ⟨#[]⟩, .string ⟨#[]⟩] 31)).heap.size = w.heap.size + 2 := by simp
  have HU := Lib.hid (hu.kept hw0)
  have HT := Lib.hid (ht.kept hw0)
  have HW0 := Lib.hid hw0
  have HBLK := Lib.hid hblk
  have HBLK0 := Lib.hid hblk0
  have HSZ := Lib.hid hsz
  clear hu ht hw0 hblk hblk0 hsz
  go_enter Tryd.func11, Tryd.ntmps11
  go_wp2_with fail
  generalize (w.alloc (.cells #[.int .i64 p.state, .string ⟨p.part.toArray⟩, .slice A p.params.length c, .string ⟨p.inter.toArray⟩, .string ⟨p.text.toArray⟩] 31)).alloc (.cells #[.int .i64 0, .string ⟨#[]⟩, .slice none 0 0, .string ⟨#[]⟩, .string ⟨#[]⟩] 31) = wz at HU HT HW0 HBLK HBLK0 HSZ ⊢
  refine (check_any p (.slice A p.params.length c) _ HU.out hp (by omega) hi htx HT.out).mono ?_
  rintro e w1 ⟨rfl, hb1⟩
  have b1 : w1.heap[w.heap.size + 1]? = some _ := (hb1.block _ (by rw [HSZ.out]; omega)).trans HBLK.out
  have b0 : w1.heap[w.heap.size]? = some _ := (hb1.block _ (by rw [HSZ.out]; omega)).trans HBLK0.out
  have q0 : w1.cell? ⟨w.heap.size + 1, 0, none⟩ = some (.int .i64 0) := block_cell b1 0
  have q1 : w1.cell? ⟨w.heap.size + 1, 1, none⟩ = some (.string ⟨#[]⟩) := block_cell b1 1
  have q2 : w1.cell? ⟨w.heap.size + 1, 2, none⟩ = some (.slice none 0 0) := block_cell b1 2
  have q3 : w1.cell? ⟨w.heap.size + 1, 3, none⟩ = some (.string ⟨#[]⟩) := block_cell b1 3
  have q4 : w1.cell? ⟨w.heap.size + 1, 4, none⟩ = some (.string ⟨#[]⟩) := block_cell b1 4
  have g0 := block_free b1 0
  have g1 := block_free b1 1
  have g2 := block_free b1 2
  have g3 := block_free b1 3
  have g4 := block_free b1 4
  have r0 : w1.cell? ⟨w.heap.size, 0, none⟩ = some (.int .i64 p.state) := block_cell b0 0
  have r1 : w1.cell? ⟨w.heap.size, 1, none⟩ = some (.string ⟨p.part.toArray⟩) := block_cell b0 1
  have r2 : w1.cell? ⟨w.heap.size, 2, none⟩ = some (.slice A p.params.length c) := block_cell b0 2
  have r3 : w1.cell? ⟨w.heap.size, 3, none⟩ = some (.string ⟨p.inter.toArray⟩) := block_cell b0 3
  have r4 : w1.cell? ⟨w.heap.size, 4, none⟩ = some (.string ⟨p.text.toArray⟩) := block_cell b0 4
  have B1 := Lib.hid b1
  have B0 := Lib.hid b0
  have hz1 := hb1.size
  have HB1 := Lib.hid hb1
  clear b1 b0 hb1
  rcases he with ⟨hk, rfl⟩ | ⟨hk, hl, rfl⟩
  · have hc : chk p = 1 := by unfold chk; rw [hk]; rfl
    rw [hc]
    clear hc hk
    go_wp2_with fail
    refine bodyPost_ret (v := .tuple #[.slice none 0 0, .agg #[.int .i64 0, .string ⟨#[]⟩, .slice none 0 0, .string ⟨#[]⟩, .string ⟨#[]⟩], .int .i64 1]) (by simp [results, Tryd.results11, go_sem, q0, q1, q2, q3, q4]) rfl ⟨rfl, ?_⟩
    repeat (refine Below.setCell ?_ (by simp) _)
    exact HW0.out.trans (HB1.out.mono HW0.out.size)
  · have hc : chk p = 0 := by unfold chk; rw [hk]; rfl
    rw [hc]
    have hd : decide (4000 < (s.size : Int)) = true := decide_eq_true (by omega)
    clear hc hk
    go_wp2_with fail
    refine bodyPost_ret (v := .tuple #[.slice none 0 0, .agg #[.int .i64 0, .string ⟨#[]⟩, .slice none 0 0, .string ⟨#[]⟩, .string ⟨#[]⟩], .int .i64 2]) (by simp [results, Tryd.results11, go_sem, q0, q1, q2, q3, q4]) rfl ⟨rfl, ?_⟩
    repeat (refine Below.setCell ?_ (by simp) _)
    exact HW0.out.trans (HB1.out.mono HW0.out.size)

theorem own_set {w w' : World} {base b : Nat} {v : Value} {l : List Ev} {cs : Array Value} (h : OwnEvs w base v l) (hg : w.grownBy w' (some b)) (hb : w.heap[b]? = some (.cells cs 31 (0, 0))) : OwnEvs w' base v l := by
  obtain ⟨pvs, h1, h2, h3⟩ := h
  exact ⟨pvs, h1, h2.kept hg (own_not h2 hb (by decide)), fun k hk => (h3 k hk).kept hg (own_not (h3 k hk) hb (by decide))⟩
theorem owns_low {w : World} {base B : Nat} {v : Value} {l : List Ev} (h : OwnEvs w base v l) (hB : B ≤ base) : OwnEvs w B v l := by
  obtain ⟨pvs, h1, h2, h3⟩ := h
  exact ⟨pvs, h1, h2.mono hB, fun k hk => (h3 k hk).mono hB⟩

set_option maxHeartbeats 3200000 in
theorem feed_ok (p : Ps) (u : Value) (s : ByteArray) (w : World) (hu : Src w u p.params.length (ints p.params)) (hk : Ok p) (hs : s.size ≤ 4000) (ht : Utf.Tabs w) :
    Calls Tryd.prog 11 #[.agg #[.int .i64 p.state, .string ⟨p.part.toArray⟩, u, .string ⟨p.inter.toArray⟩, .string ⟨p.text.toArray⟩], .string s] w (FedD w.heap.size w (Mc.feed ⟨p, []⟩ s.data.toList)) := by
  obtain ⟨A, c, rfl, _⟩ := hu.form
  have HK := Lib.hid hk
  have hn : p.params.length ≤ 16 := hk.n16
  have hi : p.inter.length ≤ 1000000000 := by have := hk.i3; omega
  have htx : p.text.length ≤ 1000000000 := by have := hk.t64; omega
  have hp : p.part.length ≤ 1000000 := by have := Utf.fits_len hk.fit; omega
  have hc : chk p = 0 := by unfold chk; rw [(ok_iff p).2 hk]; rfl
  have ht2 := ht.1
  clear hk
  have hw0 : Below w.heap.size w ((w.alloc (.cells #[.int .i64 p.state, .string ⟨p.part.toArray⟩, .slice A p.params.length c, .string ⟨p.inter.toArray⟩, .string ⟨p.text.toArray⟩] 31)).alloc (.cells #[.int .i64 0, .string ⟨#[]⟩, .slice none 0 0, .string ⟨#[]⟩, .string ⟨#[]⟩] 31)) := ((Below.refl _ _).alloc (Nat.le_refl _) _).alloc (by simp) _
  have hblk : ((w.alloc (.cells #[.int .i64 p.state, .string ⟨p.part.toArray⟩, .slice A p.params.length c, .string ⟨p.inter.toArray⟩, .string ⟨p.text.toArray⟩] 31)).alloc (.cells #[.int .i64 0, .string ⟨#[]⟩, .slice none 0 0, .string ⟨#[]⟩, .string ⟨#[]⟩] 31)).heap[w.heap.size + 1]? = some (.cells #[.int .i64 0, .string ⟨#[]⟩, .slice none 0 0, .string ⟨#[]⟩, .string ⟨#[]⟩] 31) := by
    have := heap_alloc_new (w.alloc (.cells #[.int .i64 p.state, .string ⟨p.part.toArray⟩, .slice A p.params.length c, .string ⟨p.inter.toArray⟩, .string ⟨p.text.toArray⟩] 31)) (.cells #[.int .i64 0, .string ⟨#[]⟩, .slice none 0 0, .string ⟨#[]⟩, .string ⟨#[]⟩] 31)
    simpa using this
  have hblk0 : ((w.alloc (.cells #[.int .i64 p.state, .string ⟨p.part.toArray⟩, .slice A p.params.length c, .string ⟨p.inter.toArray⟩, .string ⟨p.text.toArray⟩] 31)).alloc (.cells #[.int .i64 0, .string ⟨#[]⟩, .slice none 0 0, .string ⟨#[]⟩, .string ⟨#[]⟩] 31)).heap[w.heap.size]? = some (.cells #[.int .i64 p.state, .string ⟨p.part.toArray⟩, .slice A p.params.length c, .string ⟨p.inter.toArray⟩, .string ⟨p.text.toArray⟩] 31) := by
    have h1 := heap_alloc_new w (.cells #[.int .i64 p.state, .string ⟨p.part.toArray⟩, .slice A p.params.length c, .string ⟨p.inter.toArray⟩, .string ⟨p.text.toArray⟩] 31)
    exact (((Below.refl _ _).alloc (Nat.le_refl _) (.cells #[.int .i64 0, .string ⟨#[]⟩, .slice none 0 0, .string ⟨#[]⟩, .string ⟨#[]⟩] 31)).block _ (by simp)).trans h1
  have hsz : ((w.alloc (.cells #[.int .i64 p.state, .string ⟨p.part.toArray⟩, .slice A p.params.length c, .string ⟨p.inter.toArray⟩, .string ⟨p.text.toArray⟩] 31)).alloc (.cells #[.int .i64 0, .string ⟨#[]⟩, .slice none 0 0, .string ⟨#[]⟩, .string ⟨#[]⟩] 31)).heap.size = w.heap.size + 2 := by simp
  have HU := Lib.hid (hu.kept hw0)
  have HT := Lib.hid (ht.kept hw0)
  have HW0 := Lib.hid hw0
  have HBLK := Lib.hid hblk
  have HBLK0 := Lib.hid hblk0
  have HSZ := Lib.hid hsz
  clear hu ht hw0 hblk hblk0 hsz
  go_enter Tryd.func11, Tryd.ntmps11
  go_wp2_with fail
  generalize (w.alloc (.cells #[.int .i64 p.state, .string ⟨p.part.toArray⟩, .slice A p.params.length c, .string ⟨p.inter.toArray⟩, .string ⟨p.text.toArray⟩] 31)).alloc (.cells #[.int .i64 0, .string ⟨#[]⟩, .slice none 0 0, .string ⟨#[]⟩, .string ⟨#[]⟩] 31) = wz at HU HT HW0 HBLK HBLK0 HSZ ⊢
  refine (check_any p (.slice A p.params.length c) _ HU.out hp (by omega) hi htx HT.out).mono ?_
  rintro e w1 ⟨rfl, hb1⟩
  have b1 : w1.heap[w.heap.size + 1]? = some _ := (hb1.block _ (by rw [HSZ.out]; omega)).trans HBLK.out
  have b0 : w1.heap[w.heap.size]? = some _ := (hb1.block _ (by rw [HSZ.out]; omega)).trans HBLK0.out
  have q0 : w1.cell? ⟨w.heap.size + 1, 0, none⟩ = some (.int .i64 0) := block_cell b1 0
  have q1 : w1.cell? ⟨w.heap.size + 1, 1, none⟩ = some (.string ⟨#[]⟩) := block_cell b1 1
  have q2 : w1.cell? ⟨w.heap.size + 1, 2, none⟩ = some (.slice none 0 0) := block_cell b1 2
  have q3 : w1.cell? ⟨w.heap.size + 1, 3, none⟩ = some (.string ⟨#[]⟩) := block_cell b1 3
  have q4 : w1.cell? ⟨w.heap.size + 1, 4, none⟩ = some (.string ⟨#[]⟩) := block_cell b1 4
  have g0 := block_free b1 0
  have g1 := block_free b1 1
  have g2 := block_free b1 2
  have g3 := block_free b1 3
  have g4 := block_free b1 4
  have r0 : w1.cell? ⟨w.heap.size, 0, none⟩ = some (.int .i64 p.state) := block_cell b0 0
  have r1 : w1.cell? ⟨w.heap.size, 1, none⟩ = some (.string ⟨p.part.toArray⟩) := block_cell b0 1
  have r2 : w1.cell? ⟨w.heap.size, 2, none⟩ = some (.slice A p.params.length c) := block_cell b0 2
  have r3 : w1.cell? ⟨w.heap.size, 3, none⟩ = some (.string ⟨p.inter.toArray⟩) := block_cell b0 3
  have r4 : w1.cell? ⟨w.heap.size, 4, none⟩ = some (.string ⟨p.text.toArray⟩) := block_cell b0 4
  have B1 := Lib.hid b1
  have B0 := Lib.hid b0
  have hz1 := hb1.size
  have hlt0 : w.heap.size < w1.heap.size := by have := HSZ.out; omega
  have hlt1 : w.heap.size + 1 < w1.heap.size := by have := HSZ.out; omega
  have HB1 := Lib.hid hb1
  clear b1 b0 hb1
  rw [hc]
  have hd : decide (4000 < (s.size : Int)) = false := decide_eq_false (by omega)
  clear hc
  go_wp2_with fail
  have HC : Hid (Src (w1.alloc (.cells #[.int .i64 p.state, .string ⟨p.part.toArray⟩, .slice A p.params.length c, .string ⟨p.inter.toArray⟩, .string ⟨p.text.toArray⟩, .slice none 0 0] 55)) (.slice A p.params.length c) p.params.length (ints p.params)) := Lib.hid ((HU.out.kept HB1.out).kept ((Below.refl _ _).alloc (Nat.le_refl _) _))
  refine (clone_any (.slice A p.params.length c) p.params _ HC.out (by omega)).mono ?_
  rintro e w2 ⟨v, rfl, ho, hb2⟩
  obtain ⟨A2, c2, rfl⟩ := own_shape ho
  have bm2 : w2.heap[w1.heap.size]? = some (.cells #[.int .i64 p.state, .string ⟨p.part.toArray⟩, .slice A p.params.length c, .string ⟨p.inter.toArray⟩, .string ⟨p.text.toArray⟩, .slice none 0 0] 55 (0, 0)) := (hb2.block _ (by simp)).trans (heap_alloc_new w1 _)
  have k2 : w2.cell? ⟨w1.heap.size, 2, none⟩ = some (.slice A p.params.length c) := block_cell bm2 2
  have kg2 := block_free bm2 2
  have hz2 := hb2.size
  have hbw2 : Below wz.heap.size wz w2 := (HB1.out.alloc hz1 _).trans (hb2.mono (by simp; omega))
  have ho3 : (w2.setCell ⟨w1.heap.size, 2, none⟩ (.slice A2 p.params.length c2)).ownsRow wz.heap.size 3 1 (.slice A2 p.params.length c2) p.params.length (ints p.params) :=
    (ho.mono (by simp; omega)).kept (set_grown w2 ⟨w1.heap.size, 2, none⟩ _) (own_not ho bm2 (by decide))
  have HM0 : Hid (Md (w2.setCell ⟨w1.heap.size, 2, none⟩ (.slice A2 p.params.length c2)) wz.heap.size w1.heap.size ⟨p, []⟩) := Lib.hid
    ⟨.slice A2 p.params.length c2, .slice none 0 0, [], ⟨block_set bm2 2 _, hz1, ho3, rfl, by simpa using World.ownsRow_nil _ _ _ _, fun k hk => absurd hk (by simp), fun e he => absurd he (by simp)⟩, fun k hk => absurd hk (by simp)⟩
  have HB3 : Hid (Below wz.heap.size wz (w2.setCell ⟨w1.heap.size, 2, none⟩ (.slice A2 p.params.length c2))) := Lib.hid (hbw2.setCell hz1 _)
  have hzb : wz.heap.size ≤ (w2.setCell ⟨w1.heap.size, 2, none⟩ (.slice A2 p.params.length c2)).heap.size := by simp at hz2 ⊢; omega
  clear ho hb2 bm2 hbw2 ho3 q0 q1 q2 q3 q4 g0 g1 g2 g3 g4 r0 r1 r2 r3 r4
  go_wp2_with fail
  go_loopw [29] (fun i wr => ∃ k : Nat, k ≤ s.size ∧ i = .int .i64 k ∧ Hid (Md wr wz.heap.size w1.heap.size (Mc.feed ⟨p, []⟩ (s.data.toList.take k))) ∧ Hid (Below wz.heap.size wz wr) ∧ wz.heap.size ≤ wr.heap.size) (fun i _ => s.size - (intOf i).toNat)
  case atStart => exact ⟨0, by omega, rfl, HM0, HB3, hzb⟩
  case round =>
    obtain ⟨k, hk, rfl, HM, HBL, hbs⟩ := hrel
    have hb2z : 2 ≤ wz.heap.size := by have := HSZ.out; omega
    by_cases hlt : k < s.size
    · have hfl := feeds_len (s.data.toList.take k) ⟨p, []⟩
      have htl : (s.data.toList.take k).length ≤ k := List.length_take_le _ _
      simp only [List.length_nil, Nat.zero_add] at hfl
      have HOK : Hid (Ok (Mc.feed ⟨p, []⟩ (s.data.toList.take k)).p) := Lib.hid (ok_feeds _ HK.out)
      have HS : Hid (Mc.feed ⟨p, []⟩ (s.data.toList.take (k + 1)) = (Mc.feed ⟨p, []⟩ (s.data.toList.take k)).byte s[k]) := Lib.hid (by
        rw [feed_take _ _ _ hlt, Utf.getD_byte s k hlt])
      generalize Mc.feed ⟨p, []⟩ (s.data.toList.take k) = m at HM hfl HOK HS
      go_wp2_with fail
      refine (comes_any wz.heap.size w1.heap.size m s[k] _ HM.out (by omega) ⟨hb2z, hbs⟩ HOK.out (HT.out.low HBL.out hb2z)).mono ?_
      rintro e w2 ⟨rfl, hm2, hb2⟩
      have HM2 := Lib.hid hm2
      have hz2 := hb2.size
      clear hm2
      go_wp2_with fail
      go_roundw
      case rel => exact ⟨k + 1, by omega, by go_num, by rw [HS.out]; exact HM2, Lib.hid (HBL.out.trans hb2), by omega⟩
      case measure => simp [intOf]; omega
    · have HTK : Hid (s.data.toList.take k = s.data.toList) := Lib.hid (List.take_of_length_le (by show s.size ≤ k; omega))
      have hdk : decide (k < s.size) = false := decide_eq_false hlt
      have hfl := feeds_len s.data.toList ⟨p, []⟩
      have hsl : s.data.toList.length = s.size := rfl
      simp only [List.length_nil, Nat.zero_add, hsl] at hfl
      rw [HTK.out] at HM
      obtain ⟨m, hme⟩ : ∃ m, Mc.feed ⟨p, []⟩ s.data.toList = m := ⟨_, rfl⟩
      rw [hme] at HM hfl
      have HME := Lib.hid hme
      clear hme
      obtain ⟨pv, lv, pvs, hm, _⟩ := HM.out
      obtain ⟨A1, c1, rfl⟩ := own_shape hm.nums
      obtain ⟨A4, c4, rfl⟩ := own_shape hm.evs
      obtain ⟨r0, r1, r2, r3, r4, r5⟩ := hm.reads
      have HMM := Lib.hid hm
      have hb1 : wr.heap[w.heap.size + 1]? = some (.cells #[.int .i64 0, .string ⟨#[]⟩, .slice none 0 0, .string ⟨#[]⟩, .string ⟨#[]⟩] 31 (0, 0)) := (HBL.out.block _ (by rw [HSZ.out]; omega)).trans HBLK.out
      have q0 : wr.cell? ⟨w.heap.size + 1, 0, none⟩ = some (.int .i64 0) := block_cell hb1 0
      have q1 : wr.cell? ⟨w.heap.size + 1, 1, none⟩ = some (.string ⟨#[]⟩) := block_cell hb1 1
      have q2 : wr.cell? ⟨w.heap.size + 1, 2, none⟩ = some (.slice none 0 0) := block_cell hb1 2
      have q3 : wr.cell? ⟨w.heap.size + 1, 3, none⟩ = some (.string ⟨#[]⟩) := block_cell hb1 3
      have q4 : wr.cell? ⟨w.heap.size + 1, 4, none⟩ = some (.string ⟨#[]⟩) := block_cell hb1 4
      have g0 := block_free hb1 0
      have g1 := block_free hb1 1
      have g2 := block_free hb1 2
      have g3 := block_free hb1 3
      have g4 := block_free hb1 4
      have hne : w1.heap.size ≠ w.heap.size + 1 := by have := HSZ.out; omega
      have HB1' := Lib.hid hb1
      clear hm hb1 hlt
      go_wp2_with fail
      have HBS := Lib.hid hbs
      have HFL := Lib.hid hfl
      go_region_law (first
        | (go_simp; go_at_call 29; refine (told_any wz.heap.size m.l (.slice A4 m.l.length c4) pvs wr.drew HMM.out.evs HMM.out.len (fun k hk => HMM.out.each k hk) HMM.out.good (by have := HFL.out; omega) HBS.out).mono ?_; rintro e w5 ⟨lv5, rfl, ho5, hb5, hs5⟩; have BM5 := Lib.hid (hs5 w1.heap.size _ 55 (by decide) HMM.out.block); have BK5 := Lib.hid ((hb5.block (w.heap.size + 1) (by rw [HSZ.out]; omega)).trans HB1'.out); have t0 : w5.cell? ⟨w1.heap.size, 0, none⟩ = some (.int .i64 m.p.state) := block_cell BM5.out 0; have t1 : w5.cell? ⟨w1.heap.size, 1, none⟩ = some (.string ⟨m.p.part.toArray⟩) := block_cell BM5.out 1; have t2 : w5.cell? ⟨w1.heap.size, 2, none⟩ = some (.slice A1 m.p.params.length c1) := block_cell BM5.out 2; have t3 : w5.cell? ⟨w1.heap.size, 3, none⟩ = some (.string ⟨m.p.inter.toArray⟩) := block_cell BM5.out 3; have t4 : w5.cell? ⟨w1.heap.size, 4, none⟩ = some (.string ⟨m.p.text.toArray⟩) := block_cell BM5.out 4; have k0 : w5.cell? ⟨w.heap.size + 1, 0, none⟩ = some (.int .i64 0) := block_cell BK5.out 0; have kg0 := block_free BK5.out 0; have k1 : w5.cell? ⟨w.heap.size + 1, 1, none⟩ = some (.string ⟨#[]⟩) := block_cell BK5.out 1; have kg1 := block_free BK5.out 1; have k2 : w5.cell? ⟨w.heap.size + 1, 2, none⟩ = some (.slice none 0 0) := block_cell BK5.out 2; have kg2 := block_free BK5.out 2; have k3 : w5.cell? ⟨w.heap.size + 1, 3, none⟩ = some (.string ⟨#[]⟩) := block_cell BK5.out 3; have kg3 := block_free BK5.out 3; have k4 : w5.cell? ⟨w.heap.size + 1, 4, none⟩ = some (.string ⟨#[]⟩) := block_cell BK5.out 4; have kg4 := block_free BK5.out 4; have HO5 := Lib.hid ho5; have HB5 := Lib.hid hb5; have HS5 := Lib.hid hs5; clear ho5 hb5 hs5))
      all_goals
        go_wp2_with fail
        have hk1 : w5.grownBy (((((w5.setCell ⟨w.heap.size + 1, 0, none⟩ (.int .i64 m.p.state)).setCell ⟨w.heap.size + 1, 1, none⟩ (.string ⟨m.p.part.toArray⟩)).setCell ⟨w.heap.size + 1, 2, none⟩ (.slice A1 m.p.params.length c1)).setCell ⟨w.heap.size + 1, 3, none⟩ (.string ⟨m.p.inter.toArray⟩)).setCell ⟨w.heap.size + 1, 4, none⟩ (.string ⟨m.p.text.toArray⟩)) (some (w.heap.size + 1)) :=
          ((((set_grown w5 ⟨w.heap.size + 1, 0, none⟩ _).trans (set_grown _ ⟨w.heap.size + 1, 1, none⟩ _)).trans (set_grown _ ⟨w.heap.size + 1, 2, none⟩ _)).trans (set_grown _ ⟨w.heap.size + 1, 3, none⟩ _)).trans (set_grown _ ⟨w.heap.size + 1, 4, none⟩ _)
        have hbB : Below w.heap.size w (((((w5.setCell ⟨w.heap.size + 1, 0, none⟩ (.int .i64 m.p.state)).setCell ⟨w.heap.size + 1, 1, none⟩ (.string ⟨m.p.part.toArray⟩)).setCell ⟨w.heap.size + 1, 2, none⟩ (.slice A1 m.p.params.length c1)).setCell ⟨w.heap.size + 1, 3, none⟩ (.string ⟨m.p.inter.toArray⟩)).setCell ⟨w.heap.size + 1, 4, none⟩ (.string ⟨m.p.text.toArray⟩)) :=
          (((((HW0.out.trans ((HBL.out.drew.trans HB5.out).mono (by rw [HSZ.out]; omega))).setCell (p := ⟨w.heap.size + 1, 0, none⟩) (by simp) _).setCell (p := ⟨w.heap.size + 1, 1, none⟩) (by simp) _).setCell (p := ⟨w.heap.size + 1, 2, none⟩) (by simp) _).setCell (p := ⟨w.heap.size + 1, 3, none⟩) (by simp) _).setCell (p := ⟨w.heap.size + 1, 4, none⟩) (by simp) _
        have hnums := HS5.out.own (w := wr.drew) HMM.out.nums (by decide)
        refine bodyPost_ret (v := .tuple #[lv5, .agg #[.int .i64 m.p.state, .string ⟨m.p.part.toArray⟩, .slice A1 m.p.params.length c1, .string ⟨m.p.inter.toArray⟩, .string ⟨m.p.text.toArray⟩], .int .i64 0]) (by simp [results, Tryd.results11, go_sem, k0, k1, k2, k3, k4]) rfl ?_
        rw [HME.out]
        refine ⟨_, _, rfl, ?_, ?_, ?_, HMM.out.good⟩
        · exact own_set (owns_low HO5.out (by rw [HSZ.out]; omega)) hk1 BK5.out
        · exact (hnums.mono (by rw [HSZ.out]; omega)).kept hk1 (own_not hnums BK5.out (by decide))
        · exact hbB
end Vd
end Go.Proofs.YtjodbmfjdpbbnaaDoor
