/- Contract of the reference's Feed: all bytes, in a state that may be. -/
import Derived.Test.YtjodbmfjdpbbnaaDoorVtByteB
namespace Go.Proofs.YtjodbmfjdpbbnaaDoor
set_option maxRecDepth 100000
open Go.RowKit
namespace Vt

theorem flush_len (m : Mc) : m.flush.l.length ≤ m.l.length + 1 := by
  unfold Mc.flush
  split
  · omega
  · have := prints_len [65533]
    show (m.l ++ prints [65533]).length ≤ _
    rw [List.length_append]; simp at this; omega
theorem control_len (m : Mc) (c : UInt8) : (m.control c).l.length = m.l.length + 1 := by simp [Mc.control, Mc.tell]
theorem tell_len (m : Mc) (e : Ev) : (m.tell e).l.length = m.l.length + 1 := by simp [Mc.tell]
theorem ground_len (m : Mc) (c : UInt8) : (m.ground c).l.length ≤ m.l.length + 2 := by
  have hf := flush_len m
  unfold Mc.ground
  split
  · rw [control_len]; omega
  split
  · omega
  · have h1 := prints_len (Utf.next m.p.part c).1
    have h2 := Utf.next_len m.p.part c
    show (m.l ++ prints (Utf.next m.p.part c).1).length ≤ _
    rw [List.length_append]; omega
theorem escape_len (m : Mc) (c : UInt8) : (m.escape c).l.length ≤ m.l.length + 2 := by
  have ht : ((m.tell ⟨3, c.toNat, [], m.p.inter, []⟩).to 0).l.length = m.l.length + 1 := tell_len m _
  have hc := control_len m c
  unfold Mc.escape
  repeat' split
  all_goals first | omega | (show m.l.length ≤ _; omega)
theorem csi_len (m : Mc) (c : UInt8) : (m.csi c).l.length ≤ m.l.length + 2 := by
  have ht : ((m.tell ⟨4, c.toNat, m.p.params, m.p.inter, []⟩).to 0).l.length = m.l.length + 1 := tell_len m _
  have hc := control_len m c
  unfold Mc.csi
  repeat' split
  all_goals first | omega | (show m.l.length ≤ _; omega)
theorem low_len (m : Mc) (c : UInt8) : (m.low c).l.length ≤ m.l.length + 2 := by
  have ht : ((m.tell ⟨5, 0, [], [], m.p.text⟩).to 0).l.length = m.l.length + 1 := tell_len m _
  have hc := control_len m c
  have h1 := ground_len m c
  have h2 := escape_len m c
  have h3 := csi_len m c
  unfold Mc.low
  repeat' split
  all_goals first | omega | (show m.l.length ≤ _; omega)
theorem byte_len (m : Mc) (c : UInt8) : (m.byte c).l.length ≤ m.l.length + 2 := by
  have hf := flush_len m
  have hfc := control_len m.flush c
  have hl := low_len m c
  have he := escape_len (m.to 1) c
  have ht := tell_len m ⟨5, 0, [], [], m.p.text⟩
  unfold Mc.byte
  repeat' split
  · show (m.flush.control c).l.length ≤ _; omega
  · show m.flush.l.length ≤ _; omega
  · exact hl
  · show (m.tell ⟨5, 0, [], [], m.p.text⟩).l.length ≤ _; omega
  · show m.l.length ≤ _; omega
  · exact he
theorem feeds_len : ∀ (s : List UInt8) (m : Mc), (m.feed s).l.length ≤ m.l.length + 2 * s.length
  | [], _ => by simp [Mc.feed]
  | c :: s, m => by
    have h1 := feeds_len s (m.byte c)
    have h2 := byte_len m c
    show ((m.byte c).feed s).l.length ≤ _
    simp only [List.length_cons]
    omega
theorem feed_take (m : Mc) (s : List UInt8) (k : Nat) (h : k < s.length) : m.feed (s.take (k + 1)) = (m.feed (s.take k)).byte (s.getD k 0) := by
  rw [List.take_succ_eq_append_getElem h]
  unfold Mc.feed
  rw [List.foldl_append]
  simp [List.getD, h]

/-- What feeding tells: the events, of the call's own; the state, its numbers the call's own and apart from the events'. -/
def Fed (base : Nat) (w : World) (m : Mc) (e : Ending) (w' : World) : Prop :=
  ∃ lv pv, e = .returned (.tuple #[lv, .agg #[.int .i64 m.p.state, .string ⟨m.p.part.toArray⟩, pv, .string ⟨m.p.inter.toArray⟩, .string ⟨m.p.text.toArray⟩]]) ∧ OwnEvs w' base lv m.l ∧ w'.ownsRow base 3 1 pv m.p.params.length (ints m.p.params) ∧ Below base w w'

set_option maxRecDepth 100000 in
set_option maxHeartbeats 3200000 in
theorem refFeed_any (p : Ps) (u : Value) (s : ByteArray) (w : World) (hu : Src w u p.params.length (ints p.params)) (hk : Ok p) (hs : s.size ≤ 1000000) :
    Calls Tryd.prog 12 #[.agg #[.int .i64 p.state, .string ⟨p.part.toArray⟩, u, .string ⟨p.inter.toArray⟩, .string ⟨p.text.toArray⟩], .string s] w (Fed w.heap.size w (Mc.feed ⟨p, []⟩ s.data.toList)) := by
  obtain ⟨A, c, rfl, _⟩ := hu.form
  have HU := Lib.hid hu
  have HK := Lib.hid hk
  have hn : p.params.length ≤ 16 := hk.n16
  clear hu hk
  go_enter Tryd.func12, Tryd.ntmps12
  go_wp2_with fail
  refine (copyParse_any p.state ⟨p.part.toArray⟩ ⟨p.inter.toArray⟩ ⟨p.text.toArray⟩ p.params _ _ (Src.kept HU.out (((Below.refl w.heap.size w).alloc (Nat.le_refl _) _).alloc (by simp) _)) (by omega)).mono ?_
  rintro e w1 ⟨v, rfl, ho, hb⟩
  obtain ⟨A', c', rfl⟩ := own_shape ho
  have hw0 : Below w.heap.size w ((w.alloc (.cells #[.int .i64 p.state, .string ⟨p.part.toArray⟩, .slice A p.params.length c, .string ⟨p.inter.toArray⟩, .string ⟨p.text.toArray⟩] 31)).alloc (.cells #[.int .i64 0, .string ⟨#[]⟩, .slice none 0 0, .string ⟨#[]⟩, .string ⟨#[]⟩] 31)) := ((Below.refl _ _).alloc (Nat.le_refl _) _).alloc (by simp) _
  have hblk : ((w.alloc (.cells #[.int .i64 p.state, .string ⟨p.part.toArray⟩, .slice A p.params.length c, .string ⟨p.inter.toArray⟩, .string ⟨p.text.toArray⟩] 31)).alloc (.cells #[.int .i64 0, .string ⟨#[]⟩, .slice none 0 0, .string ⟨#[]⟩, .string ⟨#[]⟩] 31)).heap[w.heap.size + 1]? = some (.cells #[.int .i64 0, .string ⟨#[]⟩, .slice none 0 0, .string ⟨#[]⟩, .string ⟨#[]⟩] 31) := by
    have := heap_alloc_new (w.alloc (.cells #[.int .i64 p.state, .string ⟨p.part.toArray⟩, .slice A p.params.length c, .string ⟨p.inter.toArray⟩, .string ⟨p.text.toArray⟩] 31)) (.cells #[.int .i64 0, .string ⟨#[]⟩, .slice none 0 0, .string ⟨#[]⟩, .string ⟨#[]⟩] 31)
    simpa using this
  have hsz : ((w.alloc (.cells #[.int .i64 p.state, .string ⟨p.part.toArray⟩, .slice A p.params.length c, .string ⟨p.inter.toArray⟩, .string ⟨p.text.toArray⟩] 31)).alloc (.cells #[.int .i64 0, .string ⟨#[]⟩, .slice none 0 0, .string ⟨#[]⟩, .string ⟨#[]⟩] 31)).heap.size = w.heap.size + 2 := by simp
  generalize (w.alloc (.cells #[.int .i64 p.state, .string ⟨p.part.toArray⟩, .slice A p.params.length c, .string ⟨p.inter.toArray⟩, .string ⟨p.text.toArray⟩] 31)).alloc (.cells #[.int .i64 0, .string ⟨#[]⟩, .slice none 0 0, .string ⟨#[]⟩, .string ⟨#[]⟩] 31) = wz at hb ho hw0 hblk hsz
  have hzw := hb.size
  have HM0 : Hid (Mach (w1.alloc (.cells #[.int .i64 p.state, .string ⟨p.part.toArray⟩, .slice A' p.params.length c', .string ⟨p.inter.toArray⟩, .string ⟨p.text.toArray⟩, .slice none 0 0] 60)) wz.heap.size w1.heap.size ⟨p, []⟩) := Lib.hid
    ⟨.slice A' p.params.length c', .slice none 0 0, [], ⟨heap_alloc_new w1 _, hzw, ho.alloc _, rfl, by simpa using World.ownsRow_nil _ _ _ _, fun k hk => absurd hk (by simp)⟩⟩
  have HW0 := Lib.hid hw0
  have HBLK := Lib.hid hblk
  have HSZ := Lib.hid hsz
  have HB := Lib.hid (hb.alloc hzw (.cells #[.int .i64 p.state, .string ⟨p.part.toArray⟩, .slice A' p.params.length c', .string ⟨p.inter.toArray⟩, .string ⟨p.text.toArray⟩, .slice none 0 0] 60))
  clear ho hb hw0 hblk hsz
  go_wp2_with fail
  go_loopw [7] (fun i wr => ∃ k : Nat, k ≤ s.size ∧ i = .int .i64 k ∧ Hid (Mach wr wz.heap.size w1.heap.size (Mc.feed ⟨p, []⟩ (s.data.toList.take k))) ∧ Hid (Below wz.heap.size wz wr) ∧ wz.heap.size ≤ wr.heap.size) (fun i _ => s.size - (intOf i).toNat)
  case atStart => exact ⟨0, by omega, rfl, HM0, HB, by simp; omega⟩
  case round =>
    obtain ⟨k, hk, rfl, HM, HBL, hbs⟩ := hrel
    by_cases hlt : k < s.size
    · have hfl := feeds_len (s.data.toList.take k) ⟨p, []⟩
      have htl : (s.data.toList.take k).length ≤ k := List.length_take_le _ _
      simp only [List.length_nil, Nat.zero_add] at hfl
      have HOK : Hid (Ok (Mc.feed ⟨p, []⟩ (s.data.toList.take k)).p) := Lib.hid (ok_feeds _ HK.out)
      have HS : Hid (Mc.feed ⟨p, []⟩ (s.data.toList.take (k + 1)) = (Mc.feed ⟨p, []⟩ (s.data.toList.take k)).byte s[k]) := Lib.hid (by
        rw [feed_take _ _ _ hlt, Utf.getD_byte s k hlt])
      generalize Mc.feed ⟨p, []⟩ (s.data.toList.take k) = m at HM hfl HOK HS
      go_wp2_with fail
      refine (byte_any wz.heap.size w1.heap.size m s[k] _ HM.out (by omega) hbs HOK.out).mono ?_
      rintro e w2 ⟨rfl, hm2, hb2⟩
      have HM2 := Lib.hid hm2
      have hz2 := hb2.size
      clear hm2
      go_wp2_with fail
      go_roundw
      case rel => exact ⟨k + 1, by omega, by go_num, by rw [HS.out]; exact HM2, Lib.hid (HBL.out.trans hb2), by omega⟩
      case measure => simp [intOf]; omega
    · have HT : Hid (s.data.toList.take k = s.data.toList) := Lib.hid (List.take_of_length_le (by show s.size ≤ k; omega))
      have hdk : decide (k < s.size) = false := decide_eq_false hlt
      rw [HT.out] at HM
      obtain ⟨m, hme⟩ : ∃ m, Mc.feed ⟨p, []⟩ s.data.toList = m := ⟨_, rfl⟩
      rw [hme] at HM
      have HME := Lib.hid hme
      clear hme
      obtain ⟨pv, lv, pvs, hm⟩ := HM.out
      obtain ⟨A1, c1, rfl⟩ := own_shape hm.nums
      obtain ⟨A2, c2, rfl⟩ := own_shape hm.evs
      obtain ⟨r0, r1, r2, r3, r4, r5⟩ := hm.reads
      have HMM := Lib.hid hm
      have hb1 : wr.heap[w.heap.size + 1]? = some (.cells #[.int .i64 0, .string ⟨#[]⟩, .slice none 0 0, .string ⟨#[]⟩, .string ⟨#[]⟩] 31) := (HBL.out.block _ (by rw [HSZ.out]; omega)).trans HBLK.out
      have q0 : wr.cell? ⟨w.heap.size + 1, 0, none⟩ = some (.int .i64 0) := block_cell hb1 0
      have q1 : wr.cell? ⟨w.heap.size + 1, 1, none⟩ = some (.string ⟨#[]⟩) := block_cell hb1 1
      have q2 : wr.cell? ⟨w.heap.size + 1, 2, none⟩ = some (.slice none 0 0) := block_cell hb1 2
      have q3 : wr.cell? ⟨w.heap.size + 1, 3, none⟩ = some (.string ⟨#[]⟩) := block_cell hb1 3
      have q4 : wr.cell? ⟨w.heap.size + 1, 4, none⟩ = some (.string ⟨#[]⟩) := block_cell hb1 4
      have g0 := block_free hb1 0
      have g1 := block_free hb1 1
      have g2 := block_free hb1 2
      have g3 := block_free hb1 3
      have g4 := block_free hb1 4
      have hne : w1.heap.size ≠ w.heap.size + 1 := by have := HSZ.out; omega
      have HB1 := Lib.hid hb1
      clear hm hb1 hlt
      go_wp2_with fail
      go_region
      go_wp2_with fail
      have hk1 : wr.grownBy (((((wr.setCell ⟨w.heap.size + 1, 0, none⟩ (.int .i64 m.p.state)).setCell ⟨w.heap.size + 1, 1, none⟩ (.string ⟨m.p.part.toArray⟩)).setCell ⟨w.heap.size + 1, 2, none⟩ (.slice A1 m.p.params.length c1)).setCell ⟨w.heap.size + 1, 3, none⟩ (.string ⟨m.p.inter.toArray⟩)).setCell ⟨w.heap.size + 1, 4, none⟩ (.string ⟨m.p.text.toArray⟩)) (some (w.heap.size + 1)) :=
        ((((set_grown wr ⟨w.heap.size + 1, 0, none⟩ _).trans (set_grown _ ⟨w.heap.size + 1, 1, none⟩ _)).trans (set_grown _ ⟨w.heap.size + 1, 2, none⟩ _)).trans (set_grown _ ⟨w.heap.size + 1, 3, none⟩ _)).trans (set_grown _ ⟨w.heap.size + 1, 4, none⟩ _)
      have hbB : Below w.heap.size w (((((wr.setCell ⟨w.heap.size + 1, 0, none⟩ (.int .i64 m.p.state)).setCell ⟨w.heap.size + 1, 1, none⟩ (.string ⟨m.p.part.toArray⟩)).setCell ⟨w.heap.size + 1, 2, none⟩ (.slice A1 m.p.params.length c1)).setCell ⟨w.heap.size + 1, 3, none⟩ (.string ⟨m.p.inter.toArray⟩)).setCell ⟨w.heap.size + 1, 4, none⟩ (.string ⟨m.p.text.toArray⟩)) :=
        (((((HW0.out.trans (HBL.out.mono (by rw [HSZ.out]; omega))).setCell (p := ⟨w.heap.size + 1, 0, none⟩) (by simp) _).setCell (p := ⟨w.heap.size + 1, 1, none⟩) (by simp) _).setCell (p := ⟨w.heap.size + 1, 2, none⟩) (by simp) _).setCell (p := ⟨w.heap.size + 1, 3, none⟩) (by simp) _).setCell (p := ⟨w.heap.size + 1, 4, none⟩) (by simp) _
      have hev := HMM.out
      refine bodyPost_ret (v := .tuple #[.slice A2 m.l.length c2, .agg #[.int .i64 m.p.state, .string ⟨m.p.part.toArray⟩, .slice A1 m.p.params.length c1, .string ⟨m.p.inter.toArray⟩, .string ⟨m.p.text.toArray⟩]]) (by simp [results, Tryd.results12, go_sem, q0, q1, q2, q3, q4]) rfl ?_
      rw [HME.out]
      refine ⟨_, _, rfl, ?_, ?_, ?_⟩
      · exact ⟨pvs, hev.len, ((hev.evs.mono (by rw [HSZ.out]; omega)).kept hk1 (own_not hev.evs HB1.out (by decide))).drew, fun k hk => (((hev.each k hk).1.mono (by rw [HSZ.out]; omega)).kept hk1 (own_not (hev.each k hk).1 HB1.out (by decide))).drew⟩
      · exact ((hev.nums.mono (by rw [HSZ.out]; omega)).kept hk1 (own_not hev.nums HB1.out (by decide))).drew
      · exact hbB.drew
end Vt
end Go.Proofs.YtjodbmfjdpbbnaaDoor
