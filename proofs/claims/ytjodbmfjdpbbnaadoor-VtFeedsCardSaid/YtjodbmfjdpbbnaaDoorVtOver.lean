/- Events written over: nothing but events and numbers has turned, each block has the shape that it had; states and errors told as one. -/
import Derived.Test.YtjodbmfjdpbbnaaDoorVtLawS
namespace Go.Proofs.YtjodbmfjdpbbnaaDoor
set_option maxRecDepth 100000
open Go.RowKit
namespace Vt
/-- All rows of cells stand but those of events and of numbers. -/
def Other (w w' : World) : Prop := ∀ (b : Nat) (cs : Array Value) (t : TypeId), t ≠ 3 → t ≠ 63 → w.heap[b]? = some (.cells cs t (0, 0)) → w'.heap[b]? = some (.cells cs t (0, 0))
theorem Other.refl (w : World) : Other w w := fun _ _ _ _ _ h => h
theorem Other.trans {w w1 w2 : World} (h : Other w w1) (k : Other w1 w2) : Other w w2 := fun b cs t hi he hb => k b cs t hi he (h b cs t hi he hb)
theorem Other.grown {w w' : World} {base C n : Nat} {e : TypeId} {v : Value} {xs : List Value} (ho : w.ownsRow base e C v n xs) (he : e = 3 ∨ e = 63) (hg : w.grownBy w' v.ownBlock) : Other w w' := fun b cs t hi hv hb => by
  refine (hg.block b (block_lt hb) ?_).trans hb
  intro eq
  rcases ho.2 with ⟨rfl, _⟩ | ⟨g, cap, cur, rfl, _, hgc, _⟩
  · cases eq
  · simp only [Value.ownBlock] at eq
    injection eq with eq
    subst eq
    rw [hb] at hgc
    injection hgc with hgc
    injection hgc with _ h2 _
    rcases he with he | he
    · exact hi (h2.trans he)
    · exact hv (h2.trans he)
set_option maxHeartbeats 1600000 in
theorem events_both (l : List Ev) (x : Value) (base : Nat) (w : World) (hx : OwnEvs w base x l) (hn : l.length ≤ 1000000000) (hp : ∀ e ∈ l, e.params.length ≤ 1000000000) (hbase : base ≤ w.heap.size) :
    Calls Tryd.prog 15 #[x] w fun e w' => e = .returned (.tuple #[]) ∧ Below base w w' ∧ Shapes w w' ∧ Other w w' := by
  obtain ⟨pvs, h1, h2, h3⟩ := hx
  have hv : x = .slice none 0 0 ∧ l.length = 0 ∨ ∃ g cap, x = .slice (some ⟨g, 0, none⟩) l.length cap ∧ base ≤ g := by
    rcases h2.2 with h0 | ⟨g, cap, cur, h0, hb, _⟩
    · exact .inl h0
    · exact .inr ⟨g, cap, h0, hb⟩
  rcases hv with ⟨rfl, h0⟩ | ⟨g, cap, rfl, hg⟩
  · clear h1 h2 h3 hp
    go_enter Tryd.func15, Tryd.ntmps15
    go_wp2_with fail
    go_rounds 1
    go_end0
    exact ⟨rfl, Below.refl _ _, Shapes.refl _, Other.refl _⟩
  · have H3 := Lib.hid h3
    have HP := Lib.hid hp
    have HG := Lib.hid hg
    have HZ : Hid (∀ k, k < l.length → ∀ j, j < 5 → (List.zipWith evVals l pvs).flatten[k * 5 + j]? = (evVals (l.getD k (printE 0)) (pvs.getD k undef))[j]?) := Lib.hid fun k hk j hj => by
      have hp' : k < pvs.length := by omega
      have hr : (List.zipWith evVals l pvs)[k]? = some (evVals (l.getD k (printE 0)) (pvs.getD k undef)) := by simp [List.getD, List.getElem?_zipWith, hk, hp']
      have hj' : j < (evVals (l.getD k (printE 0)) (pvs.getD k undef)).length := hj
      rw [flatten_get _ zip_len k _ hr j _ (List.getElem?_eq_getElem hj'), List.getElem?_eq_getElem hj']
    have H2 := Lib.hid h2
    generalize (List.zipWith evVals l pvs).flatten = os at HZ H2
    clear h1 h2 h3 hp hg
    go_enter Tryd.func15, Tryd.ntmps15
    go_wp2_with fail
    go_loopw [2] (fun i wr => ∃ k : Nat, k ≤ l.length ∧ i = .int .i64 k ∧ FromOn wr base (.slice (some ⟨g, 0, none⟩) l.length cap) l.length k os ∧ Below base w wr ∧ Shapes w wr ∧ Hid (Other w wr)) (fun i _ => l.length - (intOf i).toNat)
    case atStart => exact ⟨0, by omega, rfl, ⟨os, H2.out, fun _ _ => rfl⟩, Below.refl _ _, Shapes.refl _, Lib.hid (Other.refl _)⟩
    case round =>
      obtain ⟨k, hk, rfl, ⟨ys, hown, hys⟩, hbl, hsh, HOT⟩ := hrel
      by_cases hlt : k < l.length
      · have hcell : ∀ j, j < 5 → wr.cell? ⟨g, k * 5 + j, none⟩ = (evVals (l.getD k (printE 0)) (pvs.getD k undef))[j]? := fun j hj => by
          rw [hown.cellAt (k * 5 + j) (by omega), hys _ (by omega), HZ.out k hlt j hj]
        obtain ⟨zs, hz⟩ := hsh.owned (H3.out k hlt)
        have hle : (l.getD k (printE 0)).params.length ≤ 1000000000 := HP.out _ (by simp [List.getD, hlt])
        generalize l.getD k (printE 0) = ev at hcell hz hle
        generalize pvs.getD k undef = pv at hcell hz
        obtain ⟨kind, rune, ps, it, tx⟩ := ev
        have c0 := hcell 0 (by decide)
        have c1 := hcell 1 (by decide)
        have c2 := hcell 2 (by decide)
        have c3 := hcell 3 (by decide)
        have c4 := hcell 4 (by decide)
        simp only [evVals, Nat.add_zero, List.getElem?_cons_zero, List.getElem?_cons_succ] at c0 c1 c2 c3 c4
        obtain ⟨A', c', rfl⟩ := own_shape hz
        have HZZ := Lib.hid hz
        have HOW := Lib.hid hown
        have HYS := Lib.hid hys
        clear hcell hz hown hys
        go_wp2_with fail
        refine (numbers_over _ zs _ HZZ.out hle).mono ?_
        rintro e w1 ⟨rfl, hg1, hs1⟩
        have ho1 : w1.ownsRow base 63 5 (.slice (some ⟨g, 0, none⟩) l.length cap) l.length ys := HOW.out.kept hg1 (own_apart HOW.out HZZ.out (by decide))
        have hyl := ho1.1
        have d0 := ho1.cellAt (k * 5) (by omega)
        have d1 := ho1.cellAt (k * 5 + 1) (by omega)
        have d2 := ho1.cellAt (k * 5 + 2) (by omega)
        have d3 := ho1.cellAt (k * 5 + 3) (by omega)
        have d4 := ho1.cellAt (k * 5 + 4) (by omega)
        rw [List.getElem?_eq_getElem (by omega)] at d0 d1 d2 d3 d4
        have f0 := ho1.frozenAt (k * 5)
        have f1 := ho1.frozenAt (k * 5 + 1)
        have f2 := ho1.frozenAt (k * 5 + 2)
        have f3 := ho1.frozenAt (k * 5 + 3)
        have f4 := ho1.frozenAt (k * 5 + 4)
        have s0 := ho1.stored (k * 5) (.int .i64 (-9))
        have s1 := s0.1.stored (k * 5 + 1) (.int .i64 0)
        have s2 := s1.1.stored (k * 5 + 2) (.slice none 0 0)
        have s3 := s2.1.stored (k * 5 + 3) (.string ⟨#[]⟩)
        have s4 := s3.1.stored (k * 5 + 4) (.string ⟨#[]⟩)
        have HS4 := Lib.hid s4.1
        have hb1 : Below base w w1 := hbl.grown hg1 (Nat.le_trans hbase hbl.size) (fun j hj => (HZZ.out.lt j hj).1)
        have hgb := HG.out
        have hb2 : Below base w (((((w1.setCell ⟨g, k * 5, none⟩ (.int .i64 (-9))).setCell ⟨g, k * 5 + 1, none⟩ (.int .i64 0)).setCell ⟨g, k * 5 + 2, none⟩ (.slice none 0 0)).setCell ⟨g, k * 5 + 3, none⟩ (.string ⟨#[]⟩)).setCell ⟨g, k * 5 + 4, none⟩ (.string ⟨#[]⟩)) :=
          ((((hb1.setCell hgb _).setCell hgb _).setCell hgb _).setCell hgb _).setCell hgb _
        have hsh2 := (((((hsh.trans hs1).setCell ⟨g, k * 5, none⟩ (.int .i64 (-9))).setCell ⟨g, k * 5 + 1, none⟩ (.int .i64 0)).setCell ⟨g, k * 5 + 2, none⟩ (.slice none 0 0)).setCell ⟨g, k * 5 + 3, none⟩ (.string ⟨#[]⟩)).setCell ⟨g, k * 5 + 4, none⟩ (.string ⟨#[]⟩)
        have hgr : w1.grownBy (((((w1.setCell ⟨g, k * 5, none⟩ (.int .i64 (-9))).setCell ⟨g, k * 5 + 1, none⟩ (.int .i64 0)).setCell ⟨g, k * 5 + 2, none⟩ (.slice none 0 0)).setCell ⟨g, k * 5 + 3, none⟩ (.string ⟨#[]⟩)).setCell ⟨g, k * 5 + 4, none⟩ (.string ⟨#[]⟩)) (some g) :=
          ((((set_grown w1 ⟨g, k * 5, none⟩ _).trans (set_grown _ ⟨g, k * 5 + 1, none⟩ _)).trans (set_grown _ ⟨g, k * 5 + 2, none⟩ _)).trans (set_grown _ ⟨g, k * 5 + 3, none⟩ _)).trans (set_grown _ ⟨g, k * 5 + 4, none⟩ _)
        have HOT2 := Lib.hid (HOT.out.trans ((Other.grown HZZ.out (.inl rfl) hg1).trans (Other.grown ho1 (.inr rfl) hgr)))
        have HB2 := Lib.hid hb2
        have HSH2 := Lib.hid hsh2
        clear s0 s1 s2 s3 s4 ho1 hb2 hsh2 hs1 hgr
        generalize ys[k * 5] = e0 at d0
        generalize ys[k * 5 + 1] = e1 at d1
        generalize ys[k * 5 + 2] = e2 at d2
        generalize ys[k * 5 + 3] = e3 at d3
        generalize ys[k * 5 + 4] = e4 at d4
        go_wp2_with fail
        go_roundw
        case rel =>
          refine ⟨k + 1, by omega, by go_num, ⟨_, HS4.out, fun j hj => ?_⟩, HB2.out, HSH2.out, HOT2⟩
          rw [List.getElem?_set_ne (by omega), List.getElem?_set_ne (by omega), List.getElem?_set_ne (by omega), List.getElem?_set_ne (by omega), List.getElem?_set_ne (by omega)]
          exact HYS.out j (by omega)
        case measure => simp [intOf]; omega
      · have hd : decide (k < l.length) = false := decide_eq_false hlt
        clear hlt
        go_wp2_with fail
        go_end0
        exact ⟨rfl, hbl, hsh, HOT.out⟩
end Vt
namespace Vl
open Vt Vd

/-- A feeding told, whatever came of it: events, state, number. -/
def FedN (n : Int) (base : Nat) (w : World) (m : Mc) (e : Ending) (w' : World) : Prop :=
  ∃ lv pv, e = .returned (.tuple #[lv, .agg #[.int .i64 m.p.state, .string ⟨m.p.part.toArray⟩, pv, .string ⟨m.p.inter.toArray⟩, .string ⟨m.p.text.toArray⟩], .int .i64 n]) ∧ OwnEvs w' base lv m.l ∧ w'.ownsRow base 3 1 pv m.p.params.length (ints m.p.params) ∧ Below base w w' ∧ ∀ e ∈ m.l, Vd.Good e
/-- What feeding leads to. -/
def out (p : Ps) (l : List UInt8) : Mc := if okB p = true then Mc.feed ⟨p, []⟩ l else ⟨none_ 0, []⟩
theorem feedN_at (p : Ps) (u : Value) (s : ByteArray) (m : Mc) (hm : out p s.data.toList = m) (n : Int) (hn : chk p = n) (w : World) (hu : Src w u p.params.length (ints p.params)) (hp : Slim p 2000) (hs : s.size ≤ 4000) (ht : Utf.Tabs w) :
    Calls Tryd.prog 11 #[.agg #[.int .i64 p.state, .string ⟨p.part.toArray⟩, u, .string ⟨p.inter.toArray⟩, .string ⟨p.text.toArray⟩], .string s] w (FedN n w.heap.size w m) := by
  subst hm
  subst hn
  cases hk : okB p with
  | true =>
    have e1 : out p s.data.toList = Mc.feed ⟨p, []⟩ s.data.toList := by unfold out; rw [hk]; rfl
    have e2 : chk p = 0 := by unfold chk; rw [hk]; rfl
    rw [e1, e2]
    exact feed_ok p u s w hu ((ok_iff p).1 hk) hs ht
  | false =>
    have e1 : out p s.data.toList = ⟨none_ 0, []⟩ := by unfold out; rw [hk]; rfl
    have e2 : chk p = 1 := by unfold chk; rw [hk]; rfl
    rw [e1, e2]
    refine (feed_err p u s 1 w hu (by have := hp.part; omega) (by have := hp.params; omega) (by have := hp.inter; omega) (by have := hp.text; omega) ht (.inl ⟨hk, rfl⟩)).mono ?_
    rintro e w1 ⟨rfl, hb⟩
    exact ⟨.slice none 0 0, .slice none 0 0, rfl, OwnEvs.nil _ _, World.ownsRow_nil _ _ _ _, hb, fun e he => absurd he (by simp)⟩
theorem out_few (p : Ps) (l : List UInt8) : (out p l).l.length ≤ 2 * l.length := by
  unfold out
  split
  · have := feeds_len l ⟨p, []⟩
    simpa using this
  · simp
theorem out_params (p : Ps) (l : List UInt8) : (out p l).p.params.length ≤ 16 := by
  unfold out
  split
  · rename_i h
    exact (ok_feeds l (m := ⟨p, []⟩) ((ok_iff p).1 h)).n16
  · simp [none_]
/-- What lies where a feeding's three answers went. -/
def GotN (n : Int) (wb : World) (m : Mc) (lv xp ev : Value) (wx : World) : Prop :=
  ∃ A c g, xp = .pointer (some ⟨g, 0, none⟩) ∧ ev = .int .i64 n ∧ wb.heap.size ≤ g ∧ wx.heap[g]? = some (.cells #[.int .i64 m.p.state, .string ⟨m.p.part.toArray⟩, .slice A m.p.params.length c, .string ⟨m.p.inter.toArray⟩, .string ⟨m.p.text.toArray⟩] 31 (0, 0)) ∧
    OwnEvs wx wb.heap.size lv m.l ∧ wx.ownsRow wb.heap.size 3 1 (.slice A m.p.params.length c) m.p.params.length (ints m.p.params) ∧ Below wb.heap.size wb wx
theorem gotN {n : Int} {wb : World} {m : Mc} {lv xp : Value} {wx : World} (h : Got wb m lv xp (.int .i64 0) wx) : GotN n wb m lv xp (.int .i64 n) wx := by
  obtain ⟨A, c, g, h1, _, h2⟩ := h
  exact ⟨A, c, g, h1, rfl, h2⟩
/-- What is due: the state in block g, the events, all the call's own. -/
def Due (wb : World) (g : Nat) (m : Mc) (lv : Value) (wx : World) : Prop :=
  ∃ A c, wx.heap[g]? = some (.cells #[.int .i64 m.p.state, .string ⟨m.p.part.toArray⟩, .slice A m.p.params.length c, .string ⟨m.p.inter.toArray⟩, .string ⟨m.p.text.toArray⟩] 31 (0, 0)) ∧
    OwnEvs wx wb.heap.size lv m.l ∧ wx.ownsRow wb.heap.size 3 1 (.slice A m.p.params.length c) m.p.params.length (ints m.p.params) ∧ Below wb.heap.size wb wx
theorem due_set {wb w5 : World} {m : Mc} {lv : Value} {A : Option Addr} {c g : Nat} (ho : OwnEvs w5 wb.heap.size lv m.l) (hn : w5.ownsRow wb.heap.size 3 1 (.slice A m.p.params.length c) m.p.params.length (ints m.p.params)) (hb : Below wb.heap.size wb w5)
    (hg : wb.heap.size ≤ g) (hblk : w5.heap[g]? = some (.cells #[.int .i64 0, .string ⟨#[]⟩, .slice none 0 0, .string ⟨#[]⟩, .string ⟨#[]⟩] 31 (0, 0))) :
    Due wb g m lv (((((w5.setCell ⟨g, 0, none⟩ (.int .i64 m.p.state)).setCell ⟨g, 1, none⟩ (.string ⟨m.p.part.toArray⟩)).setCell ⟨g, 2, none⟩ (.slice A m.p.params.length c)).setCell ⟨g, 3, none⟩ (.string ⟨m.p.inter.toArray⟩)).setCell ⟨g, 4, none⟩ (.string ⟨m.p.text.toArray⟩)) := by
  obtain ⟨A', c', g', h1, _, _, h2, h3, h4, h5⟩ := got_set (cs := #[.int .i64 0, .string ⟨#[]⟩, .slice none 0 0, .string ⟨#[]⟩, .string ⟨#[]⟩]) rfl ho hn hb hg hblk
  injection h1 with h1
  injection h1 with h1
  injection h1 with h1 _
  subst h1
  exact ⟨A', c', h2, h3, h4, h5⟩
end Vl
end Go.Proofs.YtjodbmfjdpbbnaaDoor
