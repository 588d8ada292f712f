/- The developers' Apply. -/
import Derived.Test.YtabplmhmanbmjaaSgrDev4
namespace Go.Proofs.Ytabplmhmanbmjaa
set_option maxRecDepth 100000
open Go.RowKit
namespace Sd
open Sgr
/-- How long a slice's value says it is. -/
def lenOf : Value → Nat
  | .slice _ n _ => n
  | _ => 0
theorem Sl.lenOf_ {w : World} {x : Value} {l : List Int} (h : Sl w x l) : lenOf x = l.length := by
  obtain ⟨A, c, rfl, _⟩ := h.room; rfl
theorem slice_form {v : Value} {n : Nat} (h : lenOf v = n) (hp : 0 < n) : ∃ A c, v = .slice A n c := by
  cases v <;> simp [lenOf] at h <;> first | omega | (subst h; exact ⟨_, _, rfl⟩)
/-- The two blocks of one run. -/
structure Two (w : World) (g : Nat) (X : Look) (wr : World) : Prop where
  look : wr.heap[g]? = some (.cells #[.int .i64 X.fg, .int .i64 X.bg, .int .i64 X.flags] 29 (0, 0))
  back : wr.heap[g + 1]? = some (.cells #[.int .i64 0, .int .i64 0, .int .i64 0] 29 (0, 0))
  below : Below g w wr
  size : w.heap.size = g
theorem Two.kept {w : World} {g : Nat} {X : Look} {wr w' : World} (h : Two w g X wr) (hb : Below wr.heap.size wr w') : Two w g X w' :=
  ⟨Blk.kept h.look hb, Blk.kept h.back hb, h.below.trans (hb.mono (by have := h.below.size; have := h.size; omega)), h.size⟩
theorem Two.all {w : World} {g : Nat} {X : Look} {wr : World} (h : Two w g X wr) (Y : Look) :
    Two w g Y (((wr.setCell ⟨g, 0, none⟩ (.int .i64 Y.fg)).setCell ⟨g, 1, none⟩ (.int .i64 Y.bg)).setCell ⟨g, 2, none⟩ (.int .i64 Y.flags)) :=
  ⟨Blk.set (Blk.set (Blk.set h.look 0 _) 1 _) 2 _, Blk.other (Blk.other (Blk.other h.back (by omega) _ _) (by omega) _ _) (by omega) _ _, ((h.below.setCell (Nat.le_refl _) _).setCell (Nat.le_refl _) _).setCell (Nat.le_refl _) _, h.size⟩
theorem Two.handed {w : World} {g : Nat} {X : Look} {wr : World} (h : Two w g X wr) :
    ((((wr.setCell ⟨g + 1, 0, none⟩ (.int .i64 X.fg)).setCell ⟨g + 1, 1, none⟩ (.int .i64 X.bg)).setCell ⟨g + 1, 2, none⟩ (.int .i64 X.flags)).heap[g + 1]? = some (.cells #[.int .i64 X.fg, .int .i64 X.bg, .int .i64 X.flags] 29 (0, 0))) ∧
    Below g w (((wr.setCell ⟨g + 1, 0, none⟩ (.int .i64 X.fg)).setCell ⟨g + 1, 1, none⟩ (.int .i64 X.bg)).setCell ⟨g + 1, 2, none⟩ (.int .i64 X.flags)) :=
  ⟨Blk.set (Blk.set (Blk.set h.back 0 _) 1 _) 2 _, ((h.below.setCell (by simp) _).setCell (by simp) _).setCell (by simp) _⟩
/-- The attribute, and an error. -/
def Ans (w : World) (a : Look) (n : Int) (e : Ending) (w' : World) : Prop := e = .returned (.tuple #[.agg #[.int .i64 a.fg, .int .i64 a.bg, .int .i64 a.flags], .int .i64 n]) ∧ Below w.heap.size w w'
set_option maxHeartbeats 1600000 in
theorem apply_bad (a : Look) (l : List Int) (x : Value) (w : World) (hx : Sl w x l) (hl : l.length ≤ 1000000) (hb : (attrOk a && (decide (l.length ≤ 32) && paramsOk l)) = false) :
    Calls Try.prog 15 #[.agg #[.int .i64 a.fg, .int .i64 a.bg, .int .i64 a.flags], x] w (Ans w ⟨0, 0, 0⟩ 1) := by
  have HX := Lib.hid hx
  clear hx
  cases h1 : attrOk a with
  | false =>
    clear hb
    have HA := Lib.hid h1
    clear h1
    go_enter Try.func15, Try.ntmps15
    go_wp2_with fail
    refine (check_any a false HA.out _).mono ?_; rintro e w2 ⟨rfl, hb2⟩
    have hR : w2.heap[w.heap.size + 1]? = some (.cells #[.int .i64 0, .int .i64 0, .int .i64 0] 29 (0, 0)) := Blk.kept (new_alloc _ _ _ (by simp)) hb2
    have c0 : w2.cell? ⟨w.heap.size + 1, 0, none⟩ = some (.int .i64 0) := Blk.cell hR 0
    have c1 : w2.cell? ⟨w.heap.size + 1, 1, none⟩ = some (.int .i64 0) := Blk.cell hR 1
    have c2 : w2.cell? ⟨w.heap.size + 1, 2, none⟩ = some (.int .i64 0) := Blk.cell hR 2
    have f0 := Blk.free hR 0
    have f1 := Blk.free hR 1
    have f2 := Blk.free hR 2
    have HB : Hid (Below w.heap.size w w2) := Lib.hid ((((Below.refl _ _).alloc (Nat.le_refl _) _).alloc (by simp) _).trans (hb2.mono (by simp; omega)))
    have hF := Blk.set (Blk.set (Blk.set hR 0 (.int .i64 0)) 1 (.int .i64 0)) 2 (.int .i64 0)
    have hBF := ((HB.out.setCell (p := ⟨w.heap.size + 1, 0, none⟩) (by simp) (.int .i64 0)).setCell (p := ⟨w.heap.size + 1, 1, none⟩) (by simp) (.int .i64 0)).setCell (p := ⟨w.heap.size + 1, 2, none⟩) (by simp) (.int .i64 0)
    have HF := Lib.hid hF
    have HBF := Lib.hid hBF
    clear hR hb2 hF hBF
    go_wp2_with fail
    clear c0 c1 c2 f0 f1 f2
    generalize ((w2.setCell ⟨w.heap.size + 1, 0, none⟩ (.int .i64 0)).setCell ⟨w.heap.size + 1, 1, none⟩ (.int .i64 0)).setCell ⟨w.heap.size + 1, 2, none⟩ (.int .i64 0) = wF at HF HBF ⊢
    have c0 : wF.cell? ⟨w.heap.size + 1, 0, none⟩ = some (.int .i64 0) := Blk.cell HF.out 0
    have c1 : wF.cell? ⟨w.heap.size + 1, 1, none⟩ = some (.int .i64 0) := Blk.cell HF.out 1
    have c2 : wF.cell? ⟨w.heap.size + 1, 2, none⟩ = some (.int .i64 0) := Blk.cell HF.out 2
    exact bodyPost_ret (v := .tuple #[.agg #[.int .i64 0, .int .i64 0, .int .i64 0], .int .i64 1]) (by simp [results, Try.results15, go_sem, c0, c1, c2]) rfl ⟨rfl, HBF.out⟩
  | true =>
    have HF : Hid ((decide (l.length ≤ 32) && paramsOk l) = false) := Lib.hid (by rw [h1, Bool.true_and] at hb; exact hb)
    have HA := Lib.hid h1
    clear h1 hb
    go_enter Try.func15, Try.ntmps15
    go_wp2_with fail
    refine (check_any a true HA.out _).mono ?_; rintro e w2 ⟨rfl, hb2⟩
    have hR : w2.heap[w.heap.size + 1]? = some (.cells #[.int .i64 0, .int .i64 0, .int .i64 0] 29 (0, 0)) := Blk.kept (new_alloc _ _ _ (by simp)) hb2
    have c0 : w2.cell? ⟨w.heap.size + 1, 0, none⟩ = some (.int .i64 0) := Blk.cell hR 0
    have c1 : w2.cell? ⟨w.heap.size + 1, 1, none⟩ = some (.int .i64 0) := Blk.cell hR 1
    have c2 : w2.cell? ⟨w.heap.size + 1, 2, none⟩ = some (.int .i64 0) := Blk.cell hR 2
    have f0 := Blk.free hR 0
    have f1 := Blk.free hR 1
    have f2 := Blk.free hR 2
    have HB : Hid (Below w.heap.size w w2) := Lib.hid ((((Below.refl _ _).alloc (Nat.le_refl _) _).alloc (by simp) _).trans (hb2.mono (by simp; omega)))
    have hF := Blk.set (Blk.set (Blk.set hR 0 (.int .i64 0)) 1 (.int .i64 0)) 2 (.int .i64 0)
    have hBF := ((HB.out.setCell (p := ⟨w.heap.size + 1, 0, none⟩) (by simp) (.int .i64 0)).setCell (p := ⟨w.heap.size + 1, 1, none⟩) (by simp) (.int .i64 0)).setCell (p := ⟨w.heap.size + 1, 2, none⟩) (by simp) (.int .i64 0)
    have HF2 := Lib.hid hF
    have HBF := Lib.hid hBF
    clear hR hb2 hF hBF
    go_wp2_with fail
    refine (numbersFit_any l x _ (HX.out.kept HB.out) (by omega)).mono ?_; rw [HF.out]; rintro e w' ⟨rfl, rfl⟩
    go_wp2_with fail
    clear c0 c1 c2 f0 f1 f2
    generalize ((w2.setCell ⟨w.heap.size + 1, 0, none⟩ (.int .i64 0)).setCell ⟨w.heap.size + 1, 1, none⟩ (.int .i64 0)).setCell ⟨w.heap.size + 1, 2, none⟩ (.int .i64 0) = wF at HF2 HBF ⊢
    have c0 : wF.cell? ⟨w.heap.size + 1, 0, none⟩ = some (.int .i64 0) := Blk.cell HF2.out 0
    have c1 : wF.cell? ⟨w.heap.size + 1, 1, none⟩ = some (.int .i64 0) := Blk.cell HF2.out 1
    have c2 : wF.cell? ⟨w.heap.size + 1, 2, none⟩ = some (.int .i64 0) := Blk.cell HF2.out 2
    exact bodyPost_ret (v := .tuple #[.agg #[.int .i64 0, .int .i64 0, .int .i64 0], .int .i64 1]) (by simp [results, Try.results15, go_sem, c0, c1, c2]) rfl ⟨rfl, HBF.out⟩
theorem params_get {l : List Int} (h : paramsOk l = true) (k : Nat) (hk : k < l.length) : -1 ≤ l.getD k 0 ∧ l.getD k 0 ≤ 9999 := by
  unfold paramsOk rng at h
  rw [List.all_eq_true] at h
  have := h (l.getD k 0) (by simp [List.getD, hk])
  simpa using this
def Fits (l : List Int) : Prop := ∀ n ∈ l, 0 ≤ n ∧ n ≤ 9999
theorem Fits.get {l : List Int} (h : Fits l) (k : Nat) (hk : k < l.length) : 0 ≤ l.getD k 0 ∧ l.getD k 0 ≤ 9999 := h _ (by simp [List.getD, hk])
theorem meant_fits {l : List Int} (h : paramsOk l = true) : Fits (meantOf l) := by
  unfold meantOf zeros Fits
  unfold paramsOk rng at h
  rw [List.all_eq_true] at h
  split
  · intro n hn
    obtain rfl : n = 0 := by simpa using hn
    omega
  · intro n hn
    obtain ⟨m, hm, rfl⟩ := List.mem_map.1 hn
    have := h m hm
    simp at this
    omega
theorem read_fits (x : Int) (l : List Int) (h : Fits l) : Fits (readOf (x :: l)).2 := by
  have hl : Fits (longOf l).2 := by
    unfold longOf
    simp only []
    split
    · intro n hn; simp at hn
    · exact fun n hn => h n (List.mem_of_mem_drop hn)
  rw [readOf_cons]
  repeat' split
  · exact hl
  · exact hl
  · exact h
theorem read_byt {a : Look} (h : Byt a.flags) (x : Int) (l : List Int) : Byt (obeyOf a (readOf (x :: l)).1).flags := by
  rw [readOf_cons]
  have hl : Byt (obeyOf a (longOf l).1).flags ∧ Byt (obeyOf a (behindOf (longOf l).1)).flags := by
    unfold longOf
    simp only []
    split <;> exact ⟨h, h⟩
  repeat' split
  · exact hl.1
  · exact hl.2
  · show Byt (obeyOf a (aloneOf x)).flags
    rw [alone_one]; exact one_byt h x
set_option maxHeartbeats 3200000 in
theorem apply_good (a : Look) (l : List Int) (x : Value) (w : World) (hx : Sl w x l) (hl : l.length ≤ 32) (ha : attrOk a = true) (hp : paramsOk l = true) :
    Calls Try.prog 15 #[.agg #[.int .i64 a.fg, .int .i64 a.bg, .int .i64 a.flags], x] w (Ans w (applyOf a l) 0) := by
  have HX := Lib.hid hx
  have HF : Hid ((decide (l.length ≤ 32) && paramsOk l) = true) := Lib.hid (by rw [hp, decide_eq_true hl]; rfl)
  have HA := Lib.hid ha
  have HP := Lib.hid hp
  clear hx ha hp
  go_enter Try.func15, Try.ntmps15
  go_wp2_with fail
  refine (check_any a true HA.out _).mono ?_; rintro e w2 ⟨rfl, hb2⟩
  have HT2 : Hid (Two w w.heap.size a w2) := Lib.hid ⟨Blk.kept (old_alloc (heap_alloc_new _ _) _) hb2, Blk.kept (new_alloc _ _ _ (by simp)) hb2, (((Below.refl _ _).alloc (Nat.le_refl _) _).alloc (by simp) _).trans (hb2.mono (by simp; omega)), rfl⟩
  clear hb2
  go_wp2_with fail
  refine (numbersFit_any l x _ (HX.out.kept HT2.out.below) (by omega)).mono ?_; rw [HF.out]; rintro e w' ⟨rfl, rfl⟩
  go_wp2_with fail
  refine (meant_any l x _ (HX.out.kept HT2.out.below) (by omega)).mono ?_; rintro e w3 ⟨V, rfl, hV, hVc, hb3⟩
  have HVC : Hid (Clear w.heap.size V) := Lib.hid (hVc _ (by have := HT2.out.below.size; have := Blk.lt HT2.out.back; omega))
  clear hVc
  have HT3 := Lib.hid (HT2.out.kept hb3)
  have HV := Lib.hid hV
  have HR : Hid (runs a (meantOf l) = applyOf a l) := Lib.hid (apply_meant a l).symm
  have HML : Hid ((meantOf l).length ≤ 32) := Lib.hid (by have := meant_len l; omega)
  clear hV hb3
  go_wp2_with fail
  generalize w.heap.size = g at *
  go_loopw [6] (fun v wr => ∃ (X : Look) (r : List Int), Hid (Sl wr v r) ∧ Hid (Clear g v) ∧ Hid (Fits r) ∧ r.length ≤ 32 ∧ Hid (runs X r = applyOf a l) ∧ Hid (Byt X.flags) ∧ Hid (Two w g X wr)) (fun v _ => lenOf v)
  case atStart => exact ⟨a, meantOf l, HV, HVC, Lib.hid (meant_fits HP.out), HML.out, HR, Lib.hid (attr_byt HA.out), HT3⟩
  case round =>
    obtain ⟨X, r, HS, HSC, HFR, hr, HRR, HB, HT⟩ := hrel
    have q0 : wr.cell? ⟨g, 0, none⟩ = some (.int .i64 X.fg) := Blk.cell HT.out.look 0
    have q1 : wr.cell? ⟨g, 1, none⟩ = some (.int .i64 X.bg) := Blk.cell HT.out.look 1
    have q2 : wr.cell? ⟨g, 2, none⟩ = some (.int .i64 X.flags) := Blk.cell HT.out.look 2
    obtain ⟨A, c, hv, _⟩ := HS.out.room
    match r with
    | [] =>
      subst hv
      have r0 : wr.cell? ⟨g + 1, 0, none⟩ = some (.int .i64 0) := Blk.cell HT.out.back 0
      have r1 : wr.cell? ⟨g + 1, 1, none⟩ = some (.int .i64 0) := Blk.cell HT.out.back 1
      have r2 : wr.cell? ⟨g + 1, 2, none⟩ = some (.int .i64 0) := Blk.cell HT.out.back 2
      have s0 := Blk.free HT.out.back 0
      have s1 := Blk.free HT.out.back 1
      have s2 := Blk.free HT.out.back 2
      have HE : Hid (X = applyOf a l) := Lib.hid (by rw [← HRR.out, runs_nil])
      simp only [List.length_nil]
      go_wp2_with fail
      have hF := HT.out.handed
      clear q0 q1 q2 r0 r1 r2 s0 s1 s2
      generalize ((wr.setCell ⟨g + 1, 0, none⟩ (.int .i64 X.fg)).setCell ⟨g + 1, 1, none⟩ (.int .i64 X.bg)).setCell ⟨g + 1, 2, none⟩ (.int .i64 X.flags) = wF at hF ⊢
      obtain ⟨hF, hBF⟩ := hF
      have c0 : wF.cell? ⟨g + 1, 0, none⟩ = some (.int .i64 X.fg) := Blk.cell hF 0
      have c1 : wF.cell? ⟨g + 1, 1, none⟩ = some (.int .i64 X.bg) := Blk.cell hF 1
      have c2 : wF.cell? ⟨g + 1, 2, none⟩ = some (.int .i64 X.flags) := Blk.cell hF 2
      have HBF := Lib.hid hBF
      clear hF hBF
      exact bodyPost_ret (v := .tuple #[.agg #[.int .i64 X.fg, .int .i64 X.bg, .int .i64 X.flags], .int .i64 0]) (by simp [results, Try.results15, go_sem, c0, c1, c2]) rfl ⟨by rw [← HE.out], by rw [HT.out.size]; exact HBF.out⟩
    | y :: t =>
      have hyt := HFR.out
      have hy : 0 ≤ y ∧ y ≤ 9999 := hyt y (by simp)
      have HFt : Hid (Fits t) := Lib.hid fun n hn => hyt n (by simp [hn])
      have hlen : (0 : Int) < (y :: t).length := by simp
      have htl : t.length ≤ 31 := by simp at hr; omega
      have HNX : Hid (runs (obeyOf X (readOf (y :: t)).1) (readOf (y :: t)).2 = applyOf a l) := Lib.hid (by rw [← HRR.out, runs_read X y t hy.1])
      have HNF := Lib.hid (read_fits y t HFt.out)
      have HNL := Lib.hid (read_len y t)
      have HNB := Lib.hid (read_byt HB.out y t)
      have HLN : Hid (lenOf u6 = t.length + 1) := Lib.hid (Sl.lenOf_ HS.out)
      subst hv
      clear hyt hr
      go_wp2_with fail
      refine (read_any y t _ _ HS.out (by omega) HFt.out.get hy).mono ?_
      rintro e w4 ⟨U, rfl, hU, hUc, hb4⟩
      have HUC := Lib.hid (hUc g HSC.out)
      clear hUc
      have HT4 := Lib.hid (HT.out.kept hb4)
      have HU := Lib.hid hU
      clear hU hb4 q0 q1 q2
      have q0 : w4.cell? ⟨g, 0, none⟩ = some (.int .i64 X.fg) := Blk.cell HT4.out.look 0
      have q1 : w4.cell? ⟨g, 1, none⟩ = some (.int .i64 X.bg) := Blk.cell HT4.out.look 1
      have q2 : w4.cell? ⟨g, 2, none⟩ = some (.int .i64 X.flags) := Blk.cell HT4.out.look 2
      generalize readOf (y :: t) = p at *
      go_wp2_with fail
      refine (obey_any X p.1 _).mono ?_
      rintro e w5 ⟨rfl, hb5⟩
      have HT5 := Lib.hid (HT4.out.kept hb5)
      have HU5 := Lib.hid (HU.out.kept hb5)
      clear hb5 q0 q1 q2
      have q0 : w5.cell? ⟨g, 0, none⟩ = some (.int .i64 X.fg) := Blk.cell HT5.out.look 0
      have q1 : w5.cell? ⟨g, 1, none⟩ = some (.int .i64 X.bg) := Blk.cell HT5.out.look 1
      have q2 : w5.cell? ⟨g, 2, none⟩ = some (.int .i64 X.flags) := Blk.cell HT5.out.look 2
      have g0 := Blk.free HT5.out.look 0
      have g1 := Blk.free HT5.out.look 1
      have g2 := Blk.free HT5.out.look 2
      go_wp2_with fail
      go_roundw
      case rel => exact ⟨obeyOf X p.1, p.2, Lib.hid (((HU5.out.set HUC.out _ _).set HUC.out _ _).set HUC.out _ _), HUC, HNF, by have := HNL.out; omega, HNX, HNB, Lib.hid (HT5.out.all (obeyOf X p.1))⟩
      case measure => rw [HLN.out, Sl.lenOf_ HU5.out]; have := HNL.out; omega
theorem apply_any (a : Look) (l : List Int) (x : Value) (w : World) (hx : Sl w x l) (hl : l.length ≤ 1000000) (b : Bool) (hb : (attrOk a && (decide (l.length ≤ 32) && paramsOk l)) = b) :
    Calls Try.prog 15 #[.agg #[.int .i64 a.fg, .int .i64 a.bg, .int .i64 a.flags], x] w (Ans w (bif b then applyOf a l else ⟨0, 0, 0⟩) (bif b then 0 else 1)) := by
  cases b with
  | false => exact apply_bad a l x w hx hl hb
  | true =>
    simp only [Bool.and_eq_true, decide_eq_true_eq] at hb
    exact apply_good a l x w hx hb.2.1 hb.1 hb.2.2
end Sd
end Go.Proofs.Ytabplmhmanbmjaa
