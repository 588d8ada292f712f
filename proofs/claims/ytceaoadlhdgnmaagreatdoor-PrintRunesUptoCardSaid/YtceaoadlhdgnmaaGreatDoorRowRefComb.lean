/- The page's Comb of a row: one mark more over what is seen at a place. -/
import Derived.Test.YtceaoadlhdgnmaaGreatDoorMRestS
import Derived.Test.YtceaoadlhdgnmaaGreatDoorM401
import Derived.Test.YtceaoadlhdgnmaaGreatDoorM101
import Derived.Test.YtceaoadlhdgnmaaGreatDoorM32
import Derived.Test.YtceaoadlhdgnmaaGreatDoorM4
import Derived.Laws.Cover4
import Derived.Deep.CutRange
import Derived.Deep.DeepCutAuto
import Derived.BigRegion
namespace Go.Proofs.YtceaoadlhdgnmaaGreatDoor
set_option maxRecDepth 100000
open Go.RowKit
namespace Row
open Utf Wid

/-- How many runes a text of marks has. -/
theorem numM_runes {c : Cl} (h : kind c ≠ 0) : (runesN c.comb.length c.comb).length = numM c := by
  obtain ⟨n, hn, _⟩ := kind_comb h
  have hm := marks_runes c.comb.length c.comb (Nat.le_refl _)
  rw [hn] at hm
  unfold numM
  rw [hn]
  split at hm
  · injection hm with hm; exact hm.symm
  · cases hm
/-- 'string([]rune{r})'. -/
theorem run_one (r : Int) (W : World) (a : Addr) (n : Nat) (h : W.cell? a = some (.int .i32 r)) : (convert 139 9 (.slice (some a) 1 n)).run Tryz.prog W = .ok (.string (Utf8.encode r)) W := by
  have q := run_convert_runes (P := Tryz.prog) W 139 9 21 a 1 n [r] (Nat.le_refl _) Tryz.underlying139 Tryz.underlying21 Tryz.underlying9 (fun j hj => by
    have : j = 0 := by simpa using hj
    subst this
    rw [show a.add 0 = a by simp [Addr.add]]
    exact h)
  rw [q]
  have e : runesBytes ([r].take 1) = Utf8.encode r := by
    show ByteArray.empty ++ Utf8.encode r = Utf8.encode r
    exact ByteArray.empty_append
  rw [e]
theorem wide_owner {l : List Cl} (hg : Good l) {k : Nat} (hk : k < l.length) : ((g l k).wide = 2 ↔ kind (g l k) = 3) := by
  have h0 := okAt_kind (hg k hk)
  exact ⟨fun h => kind_of_wide2 h0 h, fun h => kind_3w h⟩
set_option maxHeartbeats 1600000 in
theorem refComb_any (l : List Cl) (k : Nat) (r : Int) (x : Value) (w : World) (hx : Cs w x l) (h : RowOk l) (hk : k < l.length) (hr0 : 0 ≤ r) (hr1 : r ≤ 1114111) :
    Calls Tryz.prog 87 #[x, .int .i64 k, .int .i64 r] w fun e w' => ∃ v, e = .returned v ∧ OwnCs w' w.heap.size v (combL l k r) ∧ Below w.heap.size w w' := by
  have hl40 := h.2.1
  have hg := h.2.2
  have HCP := Lib.hid (copyCells_any l x w hx (by omega))
  have hj := ownerAt_lt hk
  have hkd := (owner_kind hg hk).1
  obtain ⟨n, hn, hn2⟩ := kind_comb hkd
  have hsh : (g l (ownerAt l k)).comb.length ≤ 1000000000 := by have := good_texts hg _ hj; omega
  have hnm := numM_runes hkd
  have hcl : (g l (ownerAt l k)).comb.length < 9223372036854775000 := by omega
  have hsz : ¬ 9223372036854775807 < (g l (ownerAt l k)).comb.length + (Utf8.encode r).size := by have h1 := Go.encode_size_le r; omega
  have hwr : IntKind.i32.wrap r = r := by rw [IntKind.wrap_i32]; omega
  have HOW : Hid (((g l k).wide = 2 → (k : Int) - 1 = ((ownerAt l k : Nat) : Int) ∧ 1 ≤ k) ∧ ((g l k).wide ≠ 2 → k = ownerAt l k)) := Lib.hid (by
    have q := wide_owner hg hk
    unfold ownerAt
    refine ⟨fun e => ?_, fun e => ?_⟩
    · rw [if_pos (q.1 e)]
      rcases hg k hk with h' | ⟨h', _⟩ | ⟨_, h0, _⟩
      · have := q.1 e; rw [h'] at this; cases this
      · have := q.1 e; rw [h'] at this; cases this
      · exact ⟨by omega, h0⟩
    · rw [if_neg fun c => e (q.2 c)])
  have HRN := Lib.hid (fun w' => run_runes ⟨(g l (ownerAt l k)).comb.toArray⟩ w' hsh)
  have HRN : Hid (∀ w' : World, ∃ c w'', (convert 9 139 (.string ⟨(g l (ownerAt l k)).comb.toArray⟩)).run Tryz.prog w' = .ok (.slice (some ⟨w'.heap.size, 0, none⟩) (numM (g l (ownerAt l k))) c) w'' ∧ Below w'.heap.size w' w'') := Lib.hid fun w' => by
    obtain ⟨c, w'', h1, _, h3⟩ := HRN.out w'
    refine ⟨c, w'', ?_, h3⟩
    rw [← hnm]
    exact h1
  have HYES : Hid (numM (g l (ownerAt l k)) < 2 → ∀ w' base b cap, OwnCs w' base (.slice (some ⟨b, 0, none⟩) l.length cap) l → OwnCs (w'.setCell ⟨b, ownerAt l k * 6 + 1, none⟩ (.string (⟨(g l (ownerAt l k)).comb.toArray⟩ ++ Utf8.encode r))) base (.slice (some ⟨b, 0, none⟩) l.length cap) (combL l k r)) := Lib.hid fun hlt w' base b cap h1 => by
    have := h1.comb hj ((g l (ownerAt l k)).comb ++ (Utf8.encode r).data.toList)
    unfold combL combC
    rw [if_pos hlt, app_str]
    exact this
  have HNO : Hid (¬ numM (g l (ownerAt l k)) < 2 → combL l k r = l) := Lib.hid fun hlt => by
    unfold combL combC
    rw [if_neg hlt, set_same l _ hj]
  have HFC : Hid (∀ w' base b cap, OwnCs w' base (.slice (some ⟨b, 0, none⟩) l.length cap) l → w'.cell? ⟨b, ownerAt l k * 6 + 1, none⟩ = some (.string ⟨(g l (ownerAt l k)).comb.toArray⟩) ∧ w'.frozen? ⟨b, ownerAt l k * 6 + 1, none⟩ = false ∧ w'.cell? ⟨b, k * 6 + 2, none⟩ = some (.int .i64 (g l k).wide)) := Lib.hid fun w' base b cap h1 => ⟨h1.cell hj (by decide), h1.free _, h1.cell hk (by decide)⟩
  generalize (g l k).wide = wd at HOW HFC
  have hjl : ownerAt l k < l.length := hj
  generalize ownerAt l k = j at HOW HRN HYES HNO HFC hsz hcl hjl
  generalize numM (g l j) = m at HRN HYES HNO
  generalize (g l j).comb = cb at HRN HYES HFC hsz hcl
  generalize combL l k r = res at HYES HNO ⊢
  have hl1 := h.1
  clear hx h hg hj hkd hn hsh hnm
  go_enter Tryz.func87, Tryz.ntmps87
  go_wp2_with fail
  refine HCP.out.mono ?_; rintro e w1 ⟨v1, rfl, ho1, hb1⟩
  rcases ho1.shape with ⟨_, e0⟩ | ⟨b, cap, rfl, hbb, _⟩
  · exfalso; rw [e0] at hl1; simp at hl1
  have HO1 := Lib.hid ho1
  have HB1 := Lib.hid hb1
  have HBB := Lib.hid hbb
  obtain ⟨q1, f1, p1⟩ := HFC.out w1 _ b cap ho1
  clear ho1 hb1 hbb
  go_upto_if 14 with (fail)
  go_cut [1] from 14 to 16 (fun s1 wx => s1 = .int .i64 (j : Int) ∧ wx = w1)
  case first =>
    by_cases hw : wd = 2
    · have hkj := HOW.out.1 hw
      have hwj : IntKind.i64.wrap ((k : Int) - 1) = (j : Int) := by rw [IntKind.wrap_i64]; omega
      subst hw
      go_wp2_with fail
      go_meet
      exact ⟨rfl, rfl⟩
    · obtain rfl := HOW.out.2 hw
      have hwb : (wd == 2) = false := by rw [beq_eq_false_iff_ne]; exact hw
      go_wp2_with fail
      go_meet
      exact ⟨rfl, rfl⟩
  case rest =>
  obtain ⟨rfl, hwx⟩ := hcut
  subst hwx
  rename World => w1
  clear p1
  obtain ⟨cc, w2, hrun, hb2⟩ := HRN.out w1
  have HB2 := Lib.hid (HB1.out.trans (hb2.mono HB1.out.size))
  have HO2 := Lib.hid (HO1.out.kept hb2)
  have hjl6 : (j : Int) < l.length := by omega
  clear hb2
  by_cases hm : m < 2
  · have hm2 : decide ((m : Int) < 2) = true := decide_eq_true (by omega)
    obtain ⟨c2, f2, _⟩ := HFC.out w2 _ b cap HO2.out
    have hb3 : b < w2.heap.size := World.block_lt_of_cell? w2 _ c2
    have hcv := run_one r (w2.alloc (.cells #[.int .i32 r] 21)).drew ⟨w2.heap.size, 0, none⟩ 1 (Blk.cell (w := (w2.alloc (.cells #[.int .i32 r] 21)).drew) (heap_alloc_new w2 (.cells #[.int .i32 r] 21)) 0)
    go_upto_region 5 with (fail)
    go_region
    all_goals
      have HO3 := Lib.hid (HYES.out hm w2 _ b cap HO2.out)
      have HB3 := Lib.hid (HB2.out.setCell (p := ⟨b, j * 6 + 1, none⟩) HBB.out (.string (⟨cb.toArray⟩ ++ Utf8.encode r)))
      clear hcv c2 f2 hrun q1 f1
      generalize w2.setCell ⟨b, j * 6 + 1, none⟩ (.string (⟨cb.toArray⟩ ++ Utf8.encode r)) = w3 at HO3 HB3 ⊢
      have hb4 : Below w3.heap.size w3 (w3.alloc (.cells #[.int .i32 r] 21)).drew := ((Below.refl _ _).alloc (Nat.le_refl _) _).drew
      have HO4 := Lib.hid (HO3.out.kept hb4)
      have HB4 := Lib.hid (HB3.out.trans (hb4.mono HB3.out.size))
      clear hb4
      generalize (w3.alloc (.cells #[.int .i32 r] 21)).drew = w4 at HO4 HB4 ⊢
      go_wp2_with fail
      go_ret
      exact ⟨_, rfl, HO4.out, HB4.out⟩
  · have hm2 : decide ((m : Int) < 2) = false := decide_eq_false (by omega)
    go_wp2_with fail
    go_ret
    exact ⟨_, rfl, by rw [HNO.out hm]; exact HO2.out, HB2.out⟩
end Row
end Go.Proofs.YtceaoadlhdgnmaaGreatDoor
