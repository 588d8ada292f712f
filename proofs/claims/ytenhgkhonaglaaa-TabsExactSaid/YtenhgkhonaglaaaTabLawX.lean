/- The law on what stops tell: walked. -/
import Derived.Test.YtenhgkhonaglaaaTabAsk
import Derived.StillTailTactics
import Derived.Deep.DeepCutAuto
namespace Go.Proofs.Ytenhgkhonaglaaa
set_option maxRecDepth 100000
open Go.RowKit
namespace Tab

/-- The law under way, its stops at hand. -/
structure Runs (w wr : World) (x y tv : Value) (T : List Bool) : Prop where
  asks : Asks w wr x y
  t : Bl wr tv T
theorem Runs.kept {w wr w2 : World} {x y tv : Value} {T : List Bool} (h : Runs w wr x y tv T) (hb : Below wr.heap.size wr w2) : Runs w w2 x y tv T := ⟨h.asks.kept hb, h.t.kept hb⟩
/-- Two numbers in a block. -/
def Pair (w : World) (b : Nat) (p q : Int) : Prop := w.heap[b]? = some (.cells #[.int .i64 p, .int .i64 q] 3 (0, 0))
theorem Pair.kept {w w2 : World} {b : Nat} {p q : Int} (h : Pair w b p q) (hb : Below w.heap.size w w2) : Pair w2 b p q := Blk.kept h hb
theorem Pair.made (w : World) (p q : Int) : Pair (w.alloc (.cells #[.int .i64 p, .int .i64 q] 3)) w.heap.size p q := heap_alloc_new _ _

theorem goes_no {T : List Bool} {a n : Int} (h : goes T a n = false) : codeOf (goes T a n) = 1 ∧ nxOf T a n = 0 ∧ bkOf T a n = 0 := by
  unfold nxOf bkOf; rw [h]; exact ⟨rfl, rfl, rfl⟩
theorem goes_in {T : List Bool} {a n : Int} (h : goes T a n = true) : codeOf (goes T a n) = 0 ∧ ∃ p q : Nat, a = p ∧ n = q ∧ p < T.length ∧ q ≤ 9999 ∧ nxOf T a n = nextOf T p q ∧ bkOf T a n = backOf T p q := by
  obtain ⟨_, ⟨h3, h4⟩, h5, h6⟩ := goes_yes.1 h
  obtain ⟨p, rfl⟩ := Int.eq_ofNat_of_zero_le h3
  obtain ⟨q, rfl⟩ := Int.eq_ofNat_of_zero_le h5
  refine ⟨by rw [h]; rfl, p, q, rfl, rfl, by omega, by omega, ?_, ?_⟩
  · unfold nxOf; rw [if_pos h]; rfl
  · unfold bkOf; rw [if_pos h]; rfl
theorem code_zero (b : Bool) : ((codeOf b : Int) == 0) = b := by cases b <;> rfl
theorem setOk_in {T : List Bool} {a : Int} (h : setOk T a = true) : ∃ p : Nat, a = p ∧ p < T.length ∧ ∀ t, setOf T a t = T.set p t := by
  have h' := h
  unfold setOk at h'
  rw [Bool.and_eq_true] at h'
  have hr := rng_yes.1 h'.2
  obtain ⟨p, rfl⟩ := Int.eq_ofNat_of_zero_le hr.1
  refine ⟨p, rfl, by omega, fun t => ?_⟩
  unfold setOf; rw [if_pos h]; rfl
theorem setOf_no {T : List Bool} {a : Int} (h : setOk T a = false) (t : Bool) : setOf T a t = [] := by unfold setOf; rw [h]; rfl
theorem cutOf_no {T : List Bool} {a : Int} (h : cutOk T a = false) : cutOf T a = [] := by unfold cutOf; rw [h]; rfl
theorem cutOf_le (T : List Bool) (a : Int) : (cutOf T a).length ≤ 1000000 := by
  unfold cutOf cutOk
  split
  · rename_i h
    rw [Bool.and_eq_true] at h
    have := rng_yes.1 h.2
    rw [grownOf_length]; omega
  · simp
theorem anewOf_le (a : Int) : (anewOf a).length ≤ 1000000 := by
  unfold anewOf
  split
  · rename_i h
    have := rng_yes.1 h
    rw [grownOf_length]; omega
  · simp
theorem setOf_le {T : List Bool} (a : Int) (t : Bool) (h : T.length ≤ 200) : (setOf T a t).length ≤ 200 := by
  unfold setOf
  split
  · rw [List.length_set]; exact h
  · simp
theorem drawn_alloc (w : World) (o : Obj) : Below w.heap.size w (w.drew.alloc o) := (Below.refl _ _).drew.alloc (Nat.le_refl _) _
/-- Behind a call that only reads. -/
theorem pure_then {f : FuncId} {args : Array Value} {w : World} {v : Value} {Q : Ending → World → Prop} (h : Calls Try.prog f args w fun e w' => e = .returned v ∧ w = w') (hQ : Q (.returned v) w) : Calls Try.prog f args w Q :=
  h.mono (by rintro e w' ⟨rfl, rfl⟩; exact hQ)
/-- Behind a call: what stands. -/
theorem st_then {f : FuncId} {args : Array Value} {w : World} {v : Value} {Q : Ending → World → Prop} {S : World → Prop} (h : Calls Try.prog f args w fun e w' => e = .returned v ∧ Below w.heap.size w w') (hS : ∀ w', Below w.heap.size w w' → S w')
    (hQ : ∀ w', Hid (S w') → Q (.returned v) w') : Calls Try.prog f args w Q :=
  h.mono (by rintro e w' ⟨rfl, hb⟩; exact hQ w' (Lib.hid (hS w' hb)))
/-- Behind a call that makes stops. -/
theorem mk_then {f : FuncId} {args : Array Value} {w : World} {ys : List Bool} {Q : Ending → World → Prop} {S : Value → World → Prop} (h : Calls Try.prog f args w fun e w' => ∃ v, e = .returned v ∧ OwnB w' w.heap.size v ys ∧ Below w.heap.size w w')
    (hS : ∀ v w', OwnB w' w.heap.size v ys → Below w.heap.size w w' → S v w') (hQ : ∀ v w', Hid (S v w') → Q (.returned v) w') : Calls Try.prog f args w Q :=
  h.mono (by rintro e w' ⟨v, rfl, ho, hb⟩; exact hQ v w' (Lib.hid (hS v w' ho hb)))
/-- .. and tells an error's number. -/
theorem mk2_then {f : FuncId} {args : Array Value} {w : World} {ys : List Bool} {c : Int} {Q : Ending → World → Prop} {S : Value → World → Prop} (h : Calls Try.prog f args w fun e w' => ∃ v, e = .returned (.tuple #[v, .int .i64 c]) ∧ OwnB w' w.heap.size v ys ∧ Below w.heap.size w w')
    (hS : ∀ v w', OwnB w' w.heap.size v ys → Below w.heap.size w w' → S v w') (hQ : ∀ v w', Hid (S v w') → Q (.returned (.tuple #[v, .int .i64 c])) w') : Calls Try.prog f args w Q :=
  h.mono (by rintro e w' ⟨v, rfl, ho, hb⟩; exact hQ v w' (Lib.hid (hS v w' ho hb)))
/-- A round under way: the law's argument, its stops, the two pairs of numbers. -/
structure InS (w : World) (x y tv : Value) (T : List Bool) (ba bn : Nat) (p0 q0 : Int) (wr : World) : Prop where
  runs : Runs w wr x y tv T
  pa : Pair wr ba p0 (wi p0 45)
  pn : Pair wr bn q0 (wi q0 6)
theorem InS.kept {w wr w2 : World} {x y tv : Value} {T : List Bool} {ba bn : Nat} {p0 q0 : Int} (h : InS w x y tv T ba bn p0 q0 wr) (hb : Below wr.heap.size wr w2) : InS w x y tv T ba bn p0 q0 w2 := ⟨h.runs.kept hb, h.pa.kept hb, h.pn.kept hb⟩
/-- Behind the copy of the stops: what has come since, the cut ones, the new ones. -/
structure Mid (wS : World) (vcut vnew : Value) (ycut ynew : List Bool) (wr : World) : Prop where
  bel : Below wS.heap.size wS wr
  cut : OwnB wr wS.heap.size vcut ycut
  new : Bl wr vnew ynew
theorem Mid.kept {wS wr w2 : World} {vcut vnew : Value} {ycut ynew : List Bool} (h : Mid wS vcut vnew ycut ynew wr) (hb : Below wr.heap.size wr w2) : Mid wS vcut vnew ycut ynew w2 := ⟨h.bel.trans (hb.mono h.bel.size), h.cut.kept hb, h.new.kept hb⟩
/-- .. and the page's. -/
structure Mid2 (wS : World) (vcut vnew u v : Value) (ycut ynew : List Bool) (wr : World) : Prop where
  mid : Mid wS vcut vnew ycut ynew wr
  u : Bl wr u ycut
  v : Bl wr v ynew
theorem Mid2.kept {wS wr w2 : World} {vcut vnew u v : Value} {ycut ynew : List Bool} (h : Mid2 wS vcut vnew u v ycut ynew wr) (hb : Below wr.heap.size wr w2) : Mid2 wS vcut vnew u v ycut ynew w2 := ⟨h.mid.kept hb, h.u.kept hb, h.v.kept hb⟩
/-- A truth written into stops of the call's own. -/
theorem put_own {w0 w : World} {v : Value} {T : List Bool} {p : Nat} {t : Bool} (ho : OwnB w w0.heap.size v T) (hb : Below w0.heap.size w0 w) (hp : p < T.length) :
    ∃ g cap, v = .slice (some ⟨g, 0, none⟩) T.length cap ∧ w.frozen? ⟨g, p, none⟩ = false ∧ w.cell? ⟨g, p, none⟩ = some (.bool (T.getD p false)) ∧ Hid (OwnB (w.setCell ⟨g, p, none⟩ (.bool t)) w0.heap.size (.slice (some ⟨g, 0, none⟩) T.length cap) (T.set p t)) ∧
      Hid (Below w0.heap.size w0 (w.setCell ⟨g, p, none⟩ (.bool t))) := by
  have hv : ∃ g cap, v = .slice (some ⟨g, 0, none⟩) T.length cap ∧ w0.heap.size ≤ g := by
    rcases ho.2 with ⟨_, h0⟩ | ⟨g, cap, cur, h0, hb, _⟩
    · omega
    · exact ⟨g, cap, h0, hb⟩
  obtain ⟨g, cap, rfl, hg⟩ := hv
  have hown : w.ownsRow w0.heap.size 4 1 (.slice (some ⟨g, 0, none⟩) T.length cap) T.length (bools T) := ho
  have hc := hown.cellAt p (by omega)
  rw [bools_get hp] at hc
  have hs2 := hown.stored p (.bool t)
  refine ⟨g, cap, rfl, hown.frozenAt p, hc, Lib.hid ?_, Lib.hid (hb.setCell (p := ⟨g, p, none⟩) hg (.bool t))⟩
  have := hs2.1
  unfold OwnB
  rw [List.length_set]
  have e : bools (T.set p t) = (bools T).set p (.bool t) := by simp [bools, List.map_set]
  rw [e]; exact this
set_option maxHeartbeats 800000 in
theorem lawFar_any (x : Value) (l : List Bool) (y : Value) (L : List Int) (w : World) (hx : Bl w x l) (hy : Sl w y L) (hf : 200 < l.length ∨ 200 < L.length) (hn : l.length ≤ 1000000000000000) (hm : L.length ≤ 1000000000000000) :
    Calls Try.prog 4 #[.agg #[x, y]] w fun e w' => e = .returned (.bool true) ∧ Below w.heap.size w w' := by
  have HA0 := Lib.hid (Asks.start w x y)
  obtain ⟨A, c, rfl⟩ := hx.shape
  obtain ⟨AL, cL, rfl, _⟩ := hy.room
  clear hx hy
  generalize l.length = m at *
  generalize L.length = m2 at *
  by_cases h200 : 200 < m
  · clear hf
    go_enter Try.func4, Try.ntmps4
    go_wp2_with fail
    go_ret
    exact ⟨rfl, HA0.out.bel⟩
  · have hL200 : 200 < m2 := by omega
    clear hf
    go_enter Try.func4, Try.ntmps4
    go_wp2_with fail
    go_ret
    exact ⟨rfl, HA0.out.bel⟩
set_option maxHeartbeats 3200000 in
theorem lawExact_any (x y : Value) (l : List Bool) (L : List Int) (w : World) (hx : Bl w x l) (hy : Sl w y L) (hn : l.length ≤ 1000000000000000) (hm : L.length ≤ 1000000000000000) :
    Calls Try.prog 4 #[.agg #[x, y]] w fun e w' => e = .returned (.bool true) ∧ Below w.heap.size w w' := by
  obtain ⟨A, c, rfl⟩ := hx.shape
  obtain ⟨AL, cL, rfl, _⟩ := hy.room
  by_cases h200 : 200 < l.length
  · exact lawFar_any _ l _ L w hx hy (.inl h200) hn hm
  by_cases hL200 : 200 < L.length
  · exact lawFar_any _ l _ L w hx hy (.inr hL200) hn hm
  have HWK := Lib.hid (fun w' => wakes_any w')
  have HA0 := Lib.hid (Asks.start w (.slice A l.length c) (.slice AL L.length cL))
  have HCP := Lib.hid (copyBools_any l _ (hx.kept HA0.out.bel) (by omega))
  have HG := Lib.hid hy.get
  have HW45 : Hid (∀ i w', Calls Try.prog 16 #[.int .i64 i, .int .i64 45] w' fun e w'' => e = .returned (.int .i64 (wi i 45)) ∧ w'' = w') := Lib.hid fun i w' => (lawWithin_any i 45 (by decide) (by decide) w').mono fun _ _ q => ⟨q.1, q.2.symm⟩
  have HW6 : Hid (∀ i w', Calls Try.prog 16 #[.int .i64 i, .int .i64 6] w' fun e w'' => e = .returned (.int .i64 (wi i 6)) ∧ w'' = w') := Lib.hid fun i w' => (lawWithin_any i 6 (by decide) (by decide) w').mono fun _ _ q => ⟨q.1, q.2.symm⟩
  have HLL : Hid (l.length ≤ 200) := Lib.hid (by omega)
  obtain ⟨n, hnn⟩ : ∃ n, L.length = n := ⟨_, rfl⟩
  simp only [hnn] at HG HA0 HCP hm hL200 ⊢
  clear hx hy hnn hn
  obtain ⟨m, hmm⟩ : ∃ m, l.length = m := ⟨_, rfl⟩
  simp only [hmm] at HA0 HCP h200 ⊢
  clear hmm
  go_enter Try.func4, Try.ntmps4
  go_wp2_with fail
  refine mk_then (S := fun v w' => Runs w w' (.slice A m c) (.slice AL n cL) v l) HCP.out (fun v w' ho hb => ⟨HA0.out.kept hb, ho.bl⟩) ?_; intro v1 w1 HR1
  clear HCP HA0
  go_wp2_with fail
  go_loopw [3, 4] (fun tv i wr => ∃ (k : Nat) (T : List Bool), k ≤ 200 ∧ i = .int .i64 k ∧ Hid (T.length ≤ 200) ∧ Hid (Runs w wr (.slice A m c) (.slice AL n cL) tv T)) (fun _ i _ => n - (intOf i).toNat)
  case atStart => exact ⟨0, l, by omega, rfl, HLL, HR1⟩
  case round => as_aux_lemma =>
    obtain ⟨k, T, hk, rfl, HTL, HR⟩ := hrel
    obtain ⟨AT, cT, rfl⟩ := HR.out.t.shape
    have b1 : wr.cell? ⟨w.heap.size, 1, none⟩ = some (.slice AL n cL) := Blk.cell HR.out.asks.box 1
    by_cases hlt : k + 1 < n
    · by_cases h8 : k < 8
      · obtain ⟨ad, rfl, g0⟩ := HG.out k (by omega)
        obtain ⟨ad', e, g1⟩ := HG.out (k + 1) (by omega)
        injection e with e
        subst e
        have g0 := cell_kept HR.out.asks.bel g0
        have g1 := cell_kept HR.out.asks.bel g1
        generalize L.getD k 0 = p0 at g0
        generalize L.getD (k + 1) 0 = q0 at g1
        obtain ⟨k1, hk1⟩ : ∃ k1, k + 1 = k1 := ⟨_, rfl⟩
        rw [hk1] at g1
        have hkn : k < n := by omega
        have hTl : T.length ≤ 1000000 := by have := HTL.out; omega
        obtain ⟨ok, hok⟩ : ∃ ok, okB T = ok := ⟨_, rfl⟩
        have HOK := refTabs_any T _ wr HR.out.t
        rw [hok] at HOK
        have HOK := Lib.hid HOK
        have HOKE := Lib.hid hok
        clear h200 hm hok
        go_wp2_with fail
        refine pure_then HOK.out ?_
        clear HOK
        go_wp2_with fail
        go_cut [6] from 56 to 67 (fun s6 wx => ∃ b, s6 = .slice (some ⟨b, 0, none⟩) 2 2 ∧ Hid (Pair wx b p0 (wi p0 45)) ∧ Hid (Below wr.heap.size wr wx))
        case first =>
          go_still_tail 11, (by kernel_rfl)
          still_call (HW45.out _ _)
          repeat still_step
          refine wpStill_nil ?_
          change wpList _ _ _ _ _ wr.drew
          go_wp2_with fail
          go_meet
          exact ⟨_, rfl, Lib.hid (Pair.made _ _ _), Lib.hid (drawn_alloc _ _)⟩
        case rest =>
          obtain ⟨ba, rfl, HPA, HBA⟩ := hcut
          rename World => we
          have HR2 := Lib.hid (HR.out.kept HBA.out)
          have g1 := cell_kept HBA.out g1
          have hwk : IntKind.i64.wrap ((k : Int) + 1) = (k1 : Int) := by rw [IntKind.wrap_i64]; omega
          have hk1n : k1 < n := by omega
          clear b1 g0
          have b1 : we.cell? ⟨w.heap.size, 1, none⟩ = some (.slice (some ad) n cL) := Blk.cell HR2.out.asks.box 1
          go_wp2_with fail
          go_cut [7] from 68 to 81 (fun s7 wx => ∃ b, s7 = .slice (some ⟨b, 0, none⟩) 2 2 ∧ Hid (Pair wx b q0 (wi q0 6)) ∧ Hid (Below we.heap.size we wx))
          case first =>
            go_still_tail 13, (by kernel_rfl)
            still_call (HW6.out _ _)
            repeat still_step
            refine wpStill_nil ?_
            change wpList _ _ _ _ _ we.drew
            go_wp2_with fail
            go_meet
            exact ⟨_, rfl, Lib.hid (Pair.made _ _ _), Lib.hid (drawn_alloc _ _)⟩
          case rest =>
            obtain ⟨bn, rfl, HPN, HBN⟩ := hcut
            rename World => wf
            have HS0 : Hid (InS w (.slice A m c) (.slice (some ad) n cL) (.slice AT T.length cT) T ba bn p0 q0 wf) := Lib.hid ⟨HR2.out.kept HBN.out, HPA.out.kept HBN.out, HPN.out⟩
            clear b1 g1 hwk hk1n hk1 HPA HBA HBN HR2 HPN HW45 HW6
            go_wp2_with fail
            go_loopw [3, 8] (fun tv j wr => ∃ (i : Nat) (T2 : List Bool), i ≤ 4 ∧ j = .int .i64 i ∧ Hid (i < 4 → T2 = T) ∧ Hid (T2.length ≤ 200) ∧ Hid (InS w (.slice A m c) (.slice (some ad) n cL) tv T2 ba bn p0 q0 wr)) (fun _ j _ => 4 - (intOf j).toNat)
            case atStart => exact ⟨0, T, by omega, rfl, Lib.hid fun _ => rfl, HTL, HS0⟩
            case round => as_aux_lemma =>
              obtain ⟨i, T2, hi, rfl, HT2, HTL2, HS⟩ := hrel
              by_cases hi4 : i < 4
              · obtain rfl := HT2.out hi4
                clear HT2 HTL HS0 HR
                obtain ⟨AU, cU, rfl⟩ := HS.out.runs.t.shape
                go_upto_region 13 with (fail)
                go_cut [9, 10] from 86 to 95 (fun s9 s10 wx => ∃ a q : Int, s9 = .int .i64 a ∧ s10 = .int .i64 q ∧ Hid (InS w (.slice A m c) (.slice (some ad) n cL) (.slice AU T2.length cU) T2 ba bn p0 q0 wx))
                case first =>
                  have c0 : wr.cell? ⟨ba, 0, none⟩ = some (.int .i64 p0) := Blk.cell HS.out.pa 0
                  have c1 : wr.cell? ⟨ba, 1, none⟩ = some (.int .i64 (wi p0 45)) := Blk.cell HS.out.pa 1
                  have d0 : wr.cell? ⟨bn, 0, none⟩ = some (.int .i64 q0) := Blk.cell HS.out.pn 0
                  have d1 : wr.cell? ⟨bn, 1, none⟩ = some (.int .i64 (wi q0 6)) := Blk.cell HS.out.pn 1
                  rcases (by omega : i = 0 ∨ i = 1 ∨ i = 2 ∨ i = 3) with rfl | rfl | rfl | rfl
                  all_goals
                    go_quiet (fail)
                    go_wp2_with fail
                    go_meet
                    exact ⟨_, _, rfl, rfl, Lib.hid (HS.out.kept (below_drewN (Below.refl _ _) _))⟩
                case rest =>
                  obtain ⟨a, nn, rfl, rfl, HSg⟩ := hcut
                  rename World => wg
                  clear HS
                  go_wp2_with fail
                  refine st_then (next_any T2 a nn _ wg HSg.out.runs.t hTl) (fun _ hb => HSg.out.kept hb) ?_; intro w2 HS2
                  clear HSg
                  go_wp2_with fail
                  refine st_then (back_any T2 a nn _ w2 HS2.out.runs.t hTl) (fun _ hb => HS2.out.kept hb) ?_; intro w3 HS3
                  clear HS2
                  have hw1 : IntKind.i64.wrap ((T2.length : Int) - 1) = (T2.length : Int) - 1 := by rw [IntKind.wrap_i64]; omega
                  go_upto_region 17 with (fail)
                  go_cut [121] from 110 to 121 (fun s121 wx => s121 = .bool (goes T2 a nn) ∧ w3 = wx)
                  case first =>
                    have hoke := HOKE.out
                    cases ok
                    · have HG0 : Hid (goes T2 a nn = false) := Lib.hid (by unfold goes; rw [hoke]; rfl)
                      clear hoke
                      go_wp2_with fail
                      go_meet
                      exact ⟨by rw [HG0.out], rfl⟩
                    · have HG0 : Hid (goes T2 a nn = (rng a 0 ((T2.length : Int) - 1) && rng nn 0 9999)) := Lib.hid (by unfold goes; rw [hoke]; rfl)
                      clear hoke
                      have HQ := Lib.hid (num_any a ((T2.length : Int) - 1) w3)
                      generalize rng a 0 ((T2.length : Int) - 1) = q at HG0 HQ
                      cases q
                      · go_wp2_with fail
                        refine pure_then HQ.out ?_
                        go_wp2_with fail
                        go_meet
                        exact ⟨by rw [HG0.out]; rfl, rfl⟩
                      · go_wp2_with fail
                        refine pure_then HQ.out ?_
                        go_wp2_with fail
                        refine pure_then (num_any nn 9999 w3) ?_
                        go_wp2_with fail
                        go_meet
                        exact ⟨by rw [HG0.out]; rfl, rfl⟩
                  case rest =>
                  obtain ⟨rfl, rfl⟩ := hcut
                  go_upto_if 121 with (fail)
                  go_cut [15, 16, 17] from 121 to 129 (fun s15 s16 s17 wx => s15 = .int .i64 (codeOf (goes T2 a nn)) ∧ s16 = .int .i64 (nxOf T2 a nn) ∧ s17 = .int .i64 (bkOf T2 a nn) ∧ Hid (InS w (.slice A m c) (.slice (some ad) n cL) (.slice AU T2.length cU) T2 ba bn p0 q0 wx))
                  case first =>
                    obtain ⟨gg, hgg⟩ : ∃ gg, goes T2 a nn = gg := ⟨_, rfl⟩
                    have hgv : (Value.bool (goes T2 a nn)) = .bool gg := by rw [hgg]
                    rw [hgv]
                    clear hgv
                    cases gg
                    · have HG0 := Lib.hid (goes_no hgg)
                      clear hgg
                      go_wp2_with fail
                      go_meet
                      exact ⟨by rw [HG0.out.1], by rw [HG0.out.2.1], by rw [HG0.out.2.2], HS3⟩
                    · obtain ⟨hc, a', n', rfl, rfl, ha', hn', hx', hy'⟩ := goes_in hgg
                      have HG0 := Lib.hid (And.intro hc (And.intro hx' hy'))
                      clear hc hx' hy' hgg
                      go_wp2_with fail
                      refine st_then (refNext_any T2 a' n' _ w3 HS3.out.runs.t ha' hTl hn') (fun _ hb => HS3.out.kept hb) ?_; intro w4 HS4
                      go_wp2_with fail
                      refine st_then (refBack_any T2 a' n' _ w4 HS4.out.runs.t ha' hTl hn') (fun _ hb => HS4.out.kept hb) ?_; intro w5 HS5
                      go_wp2_with fail
                      go_meet
                      exact ⟨by rw [HG0.out.1], by rw [HG0.out.2.1], by rw [HG0.out.2.2], HS5⟩
                  case rest =>
                    obtain ⟨rfl, rfl, rfl, HS5⟩ := hcut
                    rename World => wh
                    clear HS3
                    go_wp2_with fail
                    refine pure_then (num_eq _ _) ?_
                    go_wp2_with fail
                    refine pure_then (num_eq _ _) ?_
                    go_wp2_with fail
                    refine mk_then (S := fun v w' => Bl w' v T2 ∧ InS w (.slice A m c) (.slice (some ad) n cL) (.slice AU T2.length cU) T2 ba bn p0 q0 w') (copyBools_any T2 wh HS5.out.runs.t hTl) (fun v w' ho hb => ⟨ho.bl, HS5.out.kept hb⟩) ?_; intro vin wS HI
                    clear HS5
                    go_wp2_with fail
                    refine mk2_then (S := fun v w' => Below wS.heap.size wS w' ∧ OwnB w' wS.heap.size v (cutOf T2 a)) (resize_any T2 a vin wS HI.out.1) (fun v w' ho hb => ⟨hb, ho⟩) ?_; intro vcut wj HJ
                    go_wp2_with fail
                    refine mk2_then (S := fun v w' => Mid wS vcut v (cutOf T2 a) (anewOf a) w') (new_any a wj) (fun v w' ho hb => ⟨HJ.out.1.trans (hb.mono HJ.out.1.size), HJ.out.2.kept hb, ho.bl⟩) ?_; intro vnew wl HM
                    clear HJ
                    go_upto_region 26 with (fail)
                    go_cut [164] from 163 to 164 (fun s164 wx => s164 = .bool (rng a 1 40) ∧ wl = wx)
                    case first =>
                      go_wp2_with fail
                      refine pure_then (between_any a 1 40 wl) ?_
                      go_wp2_with fail
                      go_meet
                      exact ⟨rfl, rfl⟩
                    case rest =>
                    obtain ⟨rfl, rfl⟩ := hcut
                    go_upto_if 164 with (fail)
                    go_cut [15, 23, 24, 25] from 164 to 170 (fun s15 s23 s24 s25 wx => s15 = .int .i64 (codeOf (cutOk T2 a)) ∧ s23 = .int .i64 (codeOf (rng a 1 40)) ∧ Hid (Mid2 wS vcut vnew s24 s25 (cutOf T2 a) (anewOf a) wx))
                    case first =>
                      obtain ⟨rr, hrr⟩ : ∃ rr, rng a 1 40 = rr := ⟨_, rfl⟩
                      have hgv : (Value.bool (rng a 1 40)) = .bool rr := by rw [hrr]
                      rw [hgv]
                      clear hgv
                      cases rr
                      · have HK : Hid (cutOk T2 a = false) := Lib.hid (by unfold cutOk; rw [hrr, Bool.and_false])
                        have HA : Hid (anewOf a = []) := Lib.hid (by unfold anewOf; rw [hrr]; rfl)
                        have HRR := Lib.hid hrr
                        clear hrr
                        go_wp2_with fail
                        go_meet
                        exact ⟨by rw [HK.out]; rfl, by rw [HRR.out]; rfl, Lib.hid ⟨HM.out, by rw [cutOf_no HK.out]; exact Bl.nil _, by rw [HA.out]; exact Bl.nil _⟩⟩
                      · obtain ⟨a', rfl, ha'⟩ : ∃ a' : Nat, a = a' ∧ a' ≤ 1000000 := by
                          have := rng_yes.1 hrr
                          exact ⟨a.toNat, by omega, by omega⟩
                        have HA : Hid (anewOf a' = grownOf [] a') := Lib.hid (by unfold anewOf; rw [hrr]; rfl)
                        have HRR := Lib.hid hrr
                        have HC := Lib.hid (stops_any [] a' _ wl (Bl.nil _) (by simp) ha')
                        rw [← HA.out] at HC
                        have hoke := HOKE.out
                        cases ok
                        · have HK : Hid (cutOk T2 a' = false) := Lib.hid (by unfold cutOk; rw [hoke]; rfl)
                          clear hrr hoke
                          go_wp2_with fail
                          refine mk_then (S := fun v w' => Mid wS vcut vnew (cutOf T2 a') (anewOf a') w' ∧ Bl w' v (anewOf a')) HC.out (fun v w' ho hb => ⟨HM.out.kept hb, ho.bl⟩) ?_; intro v w2 H2
                          go_wp2_with fail
                          go_meet
                          exact ⟨by rw [HK.out]; rfl, by rw [HRR.out]; rfl, Lib.hid ⟨H2.out.1, by rw [cutOf_no HK.out]; exact Bl.nil _, H2.out.2⟩⟩
                        · have hck : cutOk T2 a' = true := by unfold cutOk; rw [hoke, hrr]; rfl
                          have HK := Lib.hid hck
                          have HCO : Hid (cutOf T2 a' = grownOf T2 a') := Lib.hid (by unfold cutOf; rw [hck]; rfl)
                          clear hck hrr hoke
                          go_wp2_with fail
                          refine mk_then (S := fun v w' => Mid wS vcut vnew (cutOf T2 a') (anewOf a') w' ∧ Bl w' v (anewOf a')) HC.out (fun v w' ho hb => ⟨HM.out.kept hb, ho.bl⟩) ?_; intro v w2 H2
                          have HC2 := Lib.hid (stops_any T2 a' _ w2 (HI.out.2.runs.t.kept H2.out.1.bel) hTl ha')
                          rw [← HCO.out] at HC2
                          go_wp2_with fail
                          refine mk_then (S := fun u w' => Mid2 wS vcut vnew u v (cutOf T2 a') (anewOf a') w') HC2.out (fun u w' ho hb => ⟨H2.out.1.kept hb, ho.bl, H2.out.2.kept hb⟩) ?_; intro u w3' H3
                          go_wp2_with fail
                          go_meet
                          exact ⟨by rw [HK.out]; rfl, by rw [HRR.out]; rfl, H3⟩
                    case rest =>
                    obtain ⟨rfl, rfl, HM2⟩ := hcut
                    rename World => wm
                    clear HM
                    go_wp2_with fail
                    refine pure_then (num_eq _ _) ?_
                    go_wp2_with fail
                    refine pure_then (num_eq _ _) ?_
                    go_wp2_with fail
                    refine st_then (eqBools_same (cutOf T2 a) (cutOf T2 a) wm HM2.out.mid.cut.bl HM2.out.u rfl (Nat.le_trans (cutOf_le T2 a) (by decide))) (fun _ hb => HM2.out.kept hb) ?_; intro w4 HM4
                    clear HM2
                    go_wp2_with fail
                    refine st_then (eqBools_same (anewOf a) (anewOf a) w4 HM4.out.mid.new HM4.out.v rfl (Nat.le_trans (anewOf_le a) (by decide))) (fun _ hb => HM4.out.mid.kept hb) ?_; intro w5 HM5
                    clear HM4
                    go_wp2_with fail
                    refine st_then (eqBools_same T2 T2 w5 (HI.out.1.kept HM5.out.bel) (HI.out.2.runs.t.kept HM5.out.bel) rfl (by omega)) (fun _ hb => HM5.out.kept hb) ?_; intro w6 HM6
                    clear HM5
                    have HC : Hid (Calls Try.prog 28 #[vcut] w6 fun e w' => e = .returned (.tuple #[]) ∧ Below wS.heap.size wS w') := Lib.hid ((boolsOver_any (cutOf T2 a) w6 HM6.out.cut (cutOf_le T2 a)).mono fun _ _ q => ⟨q.1, HM6.out.bel.trans q.2⟩)
                    go_wp2_with fail
                    refine HC.out.mono ?_; rintro e w7 ⟨rfl, hb⟩
                    have HB7 := Lib.hid hb
                    clear hb HC HM6
                    go_wp2_with fail
                    refine st_then (eqBools_same T2 T2 w7 (HI.out.1.kept HB7.out) (HI.out.2.runs.t.kept HB7.out) rfl (by omega)) (fun _ hb => HI.out.2.kept (HB7.out.trans (hb.mono HB7.out.size))) ?_; intro w8 HS8
                    clear HB7 HI
                    go_wp2_with fail
                    refine mk2_then (S := fun v w' => Bl w' v (setOf T2 a (nn.tmod 2 == 0)) ∧ InS w (.slice A m c) (.slice (some ad) n cL) (.slice AU T2.length cU) T2 ba bn p0 q0 w') (set_any T2 a (nn.tmod 2 == 0) _ w8 HS8.out.runs.t hTl) (fun v w' ho hb => ⟨ho.bl, HS8.out.kept hb⟩) ?_; intro vset w9 H9
                    clear HS8
                    go_upto_region 38 with (fail)
                    go_cut [221] from 214 to 221 (fun s221 wx => s221 = .bool (setOk T2 a) ∧ w9 = wx)
                    case first =>
                      have hoke := HOKE.out
                      cases ok
                      · have HS0 : Hid (setOk T2 a = false) := Lib.hid (by unfold setOk; rw [hoke]; rfl)
                        clear hoke
                        go_wp2_with fail
                        go_meet
                        exact ⟨by rw [HS0.out], rfl⟩
                      · have HS0 : Hid (setOk T2 a = rng a 0 ((T2.length : Int) - 1)) := Lib.hid (by unfold setOk; rw [hoke]; rfl)
                        clear hoke
                        go_wp2_with fail
                        refine pure_then (num_any a ((T2.length : Int) - 1) w9) ?_
                        go_wp2_with fail
                        go_meet
                        exact ⟨by rw [HS0.out], rfl⟩
                    case rest =>
                    obtain ⟨rfl, rfl⟩ := hcut
                    go_upto_if 221 with (fail)
                    go_cut [15, 28] from 221 to 229 (fun s15 s28 wx => s15 = .int .i64 (codeOf (setOk T2 a)) ∧ Hid (Bl wx s28 (setOf T2 a (nn.tmod 2 == 0))) ∧ Hid (Below w9.heap.size w9 wx))
                    case first =>
                      obtain ⟨sk, hsk⟩ : ∃ sk, setOk T2 a = sk := ⟨_, rfl⟩
                      have hgv : (Value.bool (setOk T2 a)) = .bool sk := by rw [hsk]
                      rw [hgv]
                      clear hgv
                      cases sk
                      · have HK := Lib.hid hsk
                        clear hsk
                        go_wp2_with fail
                        go_meet
                        exact ⟨by rw [HK.out]; rfl, Lib.hid (by rw [setOf_no HK.out]; exact Bl.nil _), Lib.hid (Below.refl _ _)⟩
                      · obtain ⟨a', rfl, ha', hset⟩ := setOk_in hsk
                        have HK := Lib.hid hsk
                        have HSE := Lib.hid (hset (nn.tmod 2 == 0))
                        clear hsk hset
                        go_wp2_with fail
                        refine mk_then (S := fun v w' => OwnB w' w9.heap.size v T2 ∧ Below w9.heap.size w9 w') (copyBools_any T2 w9 H9.out.2.runs.t hTl) (fun v w' ho hb => ⟨ho, hb⟩) ?_; intro v w10 H10
                        obtain ⟨g, cap, rfl, hf, hc, HO, HB⟩ := put_own (t := (nn.tmod 2 == 0)) H10.out.1 H10.out.2 ha'
                        generalize T2.getD a' false = old at hc
                        clear H10
                        go_wp2_with fail
                        go_meet
                        exact ⟨by rw [HK.out]; rfl, Lib.hid (by rw [HSE.out]; exact HO.out.bl), HB⟩
                    case rest =>
                    obtain ⟨rfl, HV28, HB28⟩ := hcut
                    rename World => wo
                    have H10 : Hid ((Bl wo vset (setOf T2 a (nn.tmod 2 == 0)) ∧ Bl wo u28 (setOf T2 a (nn.tmod 2 == 0))) ∧ InS w (.slice A m c) (.slice (some ad) n cL) (.slice AU T2.length cU) T2 ba bn p0 q0 wo) := Lib.hid ⟨⟨H9.out.1.kept HB28.out, HV28.out⟩, H9.out.2.kept HB28.out⟩
                    clear H9 HV28 HB28
                    go_wp2_with fail
                    refine pure_then (num_eq _ _) ?_
                    go_wp2_with fail
                    refine st_then (eqBools_same (setOf T2 a (nn.tmod 2 == 0)) (setOf T2 a (nn.tmod 2 == 0)) wo H10.out.1.1 H10.out.1.2 rfl (Nat.le_trans (setOf_le a _ HTL2.out) (by decide))) (S := fun w' => Bl w' u28 (setOf T2 a (nn.tmod 2 == 0)) ∧ InS w (.slice A m c) (.slice (some ad) n cL) (.slice AU T2.length cU) T2 ba bn p0 q0 w') (fun _ hb => ⟨H10.out.1.2.kept hb, H10.out.2.kept hb⟩) ?_; intro w11 H11
                    clear H10
                    have HC := check_any T2 _ w11 H11.out.2.runs.t
                    rw [HOKE.out] at HC
                    have HC := Lib.hid HC
                    have hok0 := code_zero ok
                    go_wp2_with fail
                    refine pure_then HC.out ?_
                    clear HC
                    go_wp2_with fail
                    refine pure_then (num_eq _ _) ?_
                    have hsk0 := code_zero (setOk T2 a)
                    generalize setOk T2 a = sk at hsk0 ⊢
                    cases sk
                    · go_wp2_with fail
                      go_roundw
                      case rel => exact ⟨i + 1, T2, by omega, by go_num, Lib.hid fun _ => rfl, HTL2, Lib.hid H11.out.2⟩
                      case measure => simp [intOf]; omega
                    · by_cases h3 : i = 3
                      · subst h3
                        go_wp2_with fail
                        go_roundw
                        case rel => exact ⟨4, _, by omega, by go_num, Lib.hid fun h => absurd h (by decide), Lib.hid (setOf_le a _ HTL2.out), Lib.hid ⟨⟨H11.out.2.runs.asks, H11.out.1⟩, H11.out.2.pa, H11.out.2.pn⟩⟩
                        case measure => simp [intOf]
                      · have hne3 : ((i : Int) == 3) = false := by rw [beq_eq_false_iff_ne]; omega
                        go_wp2_with fail
                        go_roundw
                        case rel => exact ⟨i + 1, T2, by omega, by go_num, Lib.hid fun _ => rfl, HTL2, Lib.hid H11.out.2⟩
                        case measure => simp [intOf]; omega
              · have hi5 : i = 4 := by omega
                subst hi5
                go_wp2_with fail
                go_roundw
                case rel => exact ⟨k + 1, T2, by omega, by go_num, HTL2, Lib.hid HS.out.runs⟩
                case measure => simp [intOf]; omega
      · go_wp2_with fail
        refine st_then (S := fun w' => Below w.heap.size w w') (HWK.out wr) (fun _ hb => HR.out.asks.bel.trans (hb.mono HR.out.asks.bel.size)) ?_; intro w2 H2
        go_wp2_with fail
        go_ret
        exact ⟨rfl, H2.out⟩
    · go_wp2_with fail
      refine st_then (S := fun w' => Below w.heap.size w w') (HWK.out wr) (fun _ hb => HR.out.asks.bel.trans (hb.mono HR.out.asks.bel.size)) ?_; intro w2 H2
      go_wp2_with fail
      go_ret
      exact ⟨rfl, H2.out⟩
end Tab
end Go.Proofs.Ytenhgkhonaglaaa
