/- Joined texts: EdPlain, EdKey. -/
import Derived.Test.YtceaoadlhdgnmaaGreatDoorM105
import Derived.Test.YtceaoadlhdgnmaaGreatDoorM118
import Derived.BigQuiet
namespace Go.Proofs.YtceaoadlhdgnmaaGreatDoor
set_option maxRecDepth 100000
section
namespace Scr
open Go.Proofs.YtceaoadlhdgnmaaGreatDoor.Row Wid
def rowG (G : Gr) (i : Nat) : List Cl := Row.rowAt G.cells G.cols.toNat i
def withRow (G : Gr) (i : Nat) (r : List Cl) : Gr := { G with cells := overL G.cells (i * G.cols.toNat) r }
structure RowF (G : Gr) (i : Nat) : Prop where
  fit : i * G.cols.toNat + G.cols.toNat ≤ G.cells.length
  len : (rowG G i).length = G.cols.toNat
  ok : RowOk (rowG G i)
  held : Held (rowG G i)
  c1 : 1 ≤ G.cols.toNat
  c40 : G.cols.toNat ≤ 40
  cI : (G.cols.toNat : Int) = G.cols
  small : i * G.cols.toNat ≤ 1600
  i40 : i < 40
theorem rowF {G : Gr} (h : gridB G = true) {i : Nat} (hi : (i : Int) < G.rows) : RowF G i := by
  obtain ⟨R, C, rs, rfl, hr, _⟩ := parts_of h
  have hiR : i < R := by have : (i : Int) < (R : Int) := hi; omega
  have hm : (i + 1) * C ≤ rs.flatten.length := by rw [even_length hr.even, hr.len]; exact Nat.mul_le_mul_right C hiR
  have hls : rowG ⟨R, C, rs.flatten⟩ i = rowOf rs i := rowAt_flat hr.even (by rw [hr.len]; exact hiR)
  have hok := hr.ok i hiR
  refine ⟨?_, ?_, by rw [hls]; exact hok, by rw [hls]; exact hok.held, hr.c1, hr.c40, rfl, ?_, by have := hr.r40; omega⟩
  · show i * C + C ≤ rs.flatten.length
    rw [Nat.succ_mul] at hm; exact hm
  · rw [hls]; exact hr.rlen hiR
  · show i * C ≤ 1600
    have := Nat.mul_le_mul (show i ≤ 40 by have := hr.r40; omega) hr.c40
    omega
theorem withRow_ok {G : Gr} (h : gridB G = true) {i : Nat} (hi : (i : Int) < G.rows) {m : List Cl} (hm : RowOk m) (hl : m.length = G.cols.toNat) : gridB (withRow G i m) = true := by
  obtain ⟨R, C, rs, rfl, hr, _⟩ := parts_of h
  have hiR : i < R := by have : (i : Int) < (R : Int) := hi; omega
  show gridB ⟨(R : Int), (C : Int), overL rs.flatten (i * C) m⟩ = true
  rw [overL_flat hr.even (by rw [hr.len]; exact hiR) hl]
  exact (gridB_iff _).2 (set_rws hr hiR hm hl).grid
theorem putting_over {l m : List Cl} {p C : Nat} (h : m.length = C) : l.take p ++ m.take C ++ l.drop (p + C) = overL l p m := by
  unfold overL
  rw [List.take_of_length_le (l := m) (by omega), List.append_assoc, h]
def loC (lo C : Int) (i : Nat) : Int := max (lo - i * C) 0
def hiC (hi C : Int) (i : Nat) : Int := min (hi - i * C) C
def eraseL (l : List Cl) (lo hi : Nat) (a : Look) : List Cl := repl l lo hi (List.replicate (hi - lo) (Row.blank a))
def wipeRow (lo hi : Int) (a : Look) (G : Gr) (i : Nat) : Gr :=
  if loC lo G.cols i < hiC hi G.cols i then withRow G i (eraseL (rowG G i) (loC lo G.cols i).toNat (hiC hi G.cols i).toNat a) else G
def wipeN (lo hi : Int) (a : Look) : Nat → Gr → Gr
  | 0, G => G
  | k + 1, G => wipeRow lo hi a (wipeN lo hi a k G) k
theorem wipeRow_sides (lo hi : Int) (a : Look) (G : Gr) (i : Nat) : (wipeRow lo hi a G i).rows = G.rows ∧ (wipeRow lo hi a G i).cols = G.cols := by
  unfold wipeRow; split <;> exact ⟨rfl, rfl⟩
theorem wipeN_sides (lo hi : Int) (a : Look) : ∀ (k : Nat) (G : Gr), (wipeN lo hi a k G).rows = G.rows ∧ (wipeN lo hi a k G).cols = G.cols
  | 0, _ => ⟨rfl, rfl⟩
  | k + 1, G => by
    have h := wipeN_sides lo hi a k G
    have h2 := wipeRow_sides lo hi a (wipeN lo hi a k G) k
    exact ⟨h2.1.trans h.1, h2.2.trans h.2⟩
theorem erase_row {l : List Cl} {C : Nat} (h : RowOk l) (hl : l.length = C) {a : Look} (ha : attrOk a = true) {lo hi : Nat} (h1 : lo ≤ hi) (h2 : hi ≤ C) : RowOk (eraseL l lo hi a) ∧ (eraseL l lo hi a).length = C := by
  have h3 := repl_length (l := l) h1 (by omega) (List.replicate (hi - lo) (Row.blank a))
  rw [List.length_replicate] at h3
  exact ⟨eraseOk h ha h1 (by omega), by unfold eraseL; omega⟩
theorem wipeRow_ok {G : Gr} (h : gridB G = true) {a : Look} (ha : attrOk a = true) (lo hi : Int) {i : Nat} (hi' : (i : Int) < G.rows) : gridB (wipeRow lo hi a G i) = true := by
  unfold wipeRow
  by_cases e : loC lo G.cols i < hiC hi G.cols i
  · rw [if_pos e]
    have F := rowF h hi'
    have h1 : (0 : Int) ≤ loC lo G.cols i := by unfold loC; omega
    have h2 : hiC hi G.cols i ≤ G.cols := by unfold hiC; omega
    have h3 := F.cI
    have hE := erase_row F.ok F.len ha (lo := (loC lo G.cols i).toNat) (hi := (hiC hi G.cols i).toNat) (by omega) (by omega)
    exact withRow_ok h hi' hE.1 hE.2
  · rw [if_neg e]; exact h
theorem wipeN_ok {a : Look} (ha : attrOk a = true) (lo hi : Int) : ∀ (k : Nat) (G : Gr), gridB G = true → (k : Int) ≤ G.rows → gridB (wipeN lo hi a k G) = true
  | 0, _, h, _ => h
  | k + 1, G, h, hk => by
    have hs := wipeN_sides lo hi a k G
    exact wipeRow_ok (wipeN_ok ha lo hi k G h (by omega)) ha lo hi (by rw [hs.1]; omega)
inductive Deed where
  | wipe (lo hi : Int)
  | shift (n : Int)
  | lines (n : Int)
  | scroll (n : Int)
def atI (s : S) : Int := s.cur.row * s.main.cols + s.cur.col
def wipedR (at_ first end_ n : Int) : Int × Int := if n = -1 ∨ n = 0 then (at_, end_) else if n = 1 then (first, at_ + 1) else if n = 2 then (first, end_) else (0, 0)
def deedL (s : S) (key n : Int) : Deed :=
  if key = 74 then .wipe (wipedR (atI s) 0 (s.main.rows * s.main.cols) n).1 (wipedR (atI s) 0 (s.main.rows * s.main.cols) n).2
  else if key = 75 then .wipe (wipedR (atI s) (s.cur.row * s.main.cols) (s.cur.row * s.main.cols + s.main.cols) n).1 (wipedR (atI s) (s.cur.row * s.main.cols) (s.cur.row * s.main.cols + s.main.cols) n).2
  else if key = 88 then .wipe (atI s) (min (atI s + max n 1) (s.cur.row * s.main.cols + s.main.cols))
  else if key = 80 then .shift (-(max n 1))
  else if key = 64 then .shift (max n 1)
  else if key = 76 then .lines (max n 1)
  else if key = 77 then .lines (-(max n 1))
  else if key = 83 then .scroll (-(max n 1))
  else .scroll (max n 1)
def wipeS (s : S) (lo hi : Int) : S := putG s (wipeN lo hi s.cur.a s.main.rows.toNat (seenG s))
def roomN (s : S) (n : Nat) : Nat := min n ((seenG s).cols.toNat - s.cur.col.toNat)
def deleteS (s : S) (n : Nat) : S := withLine s (deleteOf (lineS s) s.cur.col.toNat (roomN s n) s.cur.a)
def insertS (s : S) (n : Nat) : S := withLine s (insertOf (lineS s) s.cur.col.toNat (roomN s n) s.cur.a)
def pushS (s : S) (n : Int) : S := if n < 0 then deleteS s (-n).toNat else insertS s n.toNat
def rollS (s : S) (top n : Int) : S := putG s (moveG (seenG s) top s.bottom (-n) s.cur.a)
def col0 (s : S) : S := { s with cur := { s.cur with col := 0 } }
def openS (s : S) (n : Int) : S := if s.cur.row < s.top ∨ s.bottom < s.cur.row then s else col0 (rollS s s.cur.row n)
def doS (s : S) : Deed → S
  | .scroll n => rollS s s.top n
  | .wipe lo hi => wipeS (noWrap s) lo hi
  | .shift n => pushS (noWrap s) n
  | .lines n => openS (noWrap s) n
def editS (s : S) (key n : Int) : S := doS s (deedL s key n)
theorem seenG_putG (s : S) (G : Gr) : seenG (putG s G) = G := by
  unfold seenG putG
  cases h : s.swapped with
  | false => simp
  | true => simp
theorem putG_putG (s : S) (G H : Gr) : putG (putG s G) H = putG s H := by
  unfold putG
  cases h : s.swapped with
  | false => simp
  | true => simp
theorem putG_self (s : S) : putG s (seenG s) = s := by
  unfold putG seenG
  cases h : s.swapped with
  | false => obtain ⟨m, o, sw, k1, k2, k3, t, b, tb, md, ti, la⟩ := s; simp at h ⊢; exact h
  | true => obtain ⟨m, o, sw, k1, k2, k3, t, b, tb, md, ti, la⟩ := s; simp at h ⊢; exact h
theorem putG_wrap (s : S) (G : Gr) : (putG s G).cur = s.cur := by unfold putG; split <;> rfl
def ekeysL : List Int := [74, 75, 88, 80, 64, 76, 77, 83, 84]
def ekeyB (key : Int) : Bool := ekeysL.any fun k => k == key
end Scr
end
section
open Go.RowKit
namespace Scr
open Go.Proofs.YtceaoadlhdgnmaaGreatDoor.Row
theorem ekeys_iff {key : Int} : ekeyB key = true ↔ ∃ i, i < 9 ∧ ekeysL.getD i 0 = key := by
  unfold ekeyB ekeysL
  simp only [List.any_cons, List.any_nil, Bool.or_false, Bool.or_eq_true, beq_iff_eq]
  constructor
  · intro h
    rcases h with rfl | rfl | rfl | rfl | rfl | rfl | rfl | rfl | rfl
    · exact ⟨0, by decide, rfl⟩
    · exact ⟨1, by decide, rfl⟩
    · exact ⟨2, by decide, rfl⟩
    · exact ⟨3, by decide, rfl⟩
    · exact ⟨4, by decide, rfl⟩
    · exact ⟨5, by decide, rfl⟩
    · exact ⟨6, by decide, rfl⟩
    · exact ⟨7, by decide, rfl⟩
    · exact ⟨8, by decide, rfl⟩
  · rintro ⟨i, hi, rfl⟩
    have : i = 0 ∨ i = 1 ∨ i = 2 ∨ i = 3 ∨ i = 4 ∨ i = 5 ∨ i = 6 ∨ i = 7 ∨ i = 8 := by omega
    rcases this with rfl | rfl | rfl | rfl | rfl | rfl | rfl | rfl | rfl <;> simp
abbrev ekbox : Obj := .cells #[.int .i64 74, .int .i64 75, .int .i64 88, .int .i64 80, .int .i64 64, .int .i64 76, .int .i64 77, .int .i64 83, .int .i64 84] 3
def ekB : ByteArray := ⟨#[74, 75, 88, 80, 64, 76, 77, 83, 84]⟩
def ekN : List Nat := [74, 75, 88, 80, 64, 76, 77, 83, 84]
theorem ek_step : ∀ j : Fin 9, Utf.dec (ekB.data.toList.drop j.val) = (ekN.getD j.val 0, 1) := of_decide_eq_true (by kernel_rfl)
theorem ek_size : ekB.size = 9 := by kernel_rfl
theorem ek_lt : ∀ j : Fin 9, ekN.getD j.val 0 < 128 := by decide
theorem ek_same : ∀ j : Fin 9, ekeysL.getD j.val 0 = ((ekN.getD j.val 0 : Nat) : Int) := by decide
theorem ek_yes {key : Int} {j : Nat} (hj : j < 9) (h : (ekN.getD j 0 : Int) = key) : ekeyB key = true := ekeys_iff.2 ⟨j, hj, (ek_same ⟨j, hj⟩).trans h⟩
theorem ek_no {key : Int} (h : ∀ j, j < 9 → (ekN.getD j 0 : Int) ≠ key) : ekeyB key = false := by
  cases e : ekeyB key
  · rfl
  · obtain ⟨j, hj, q⟩ := ekeys_iff.1 e
    exact absurd ((ek_same ⟨j, hj⟩).symm.trans q) (h j hj)
set_option maxHeartbeats 1600000 in
theorem isKey_any (key : Int) (w : World) : Calls Tryz.prog 99 #[.int .i64 key] w fun e w' => e = .returned (.bool (ekeyB key)) ∧ Below w.heap.size w w' := by
  have HY : Hid (∀ j, j < 9 → (ekN.getD j 0 : Int) = key → ekeyB key = true) := Lib.hid fun j hj h => ek_yes hj h
  have HN : Hid ((∀ j, j < 9 → (ekN.getD j 0 : Int) ≠ key) → ekeyB key = false) := Lib.hid ek_no
  generalize ekeyB key = kb at HY HN ⊢
  go_enter Tryz.func99, Tryz.ntmps99
  go_wp2_with fail
  go_loopw [] (fun wr => ∃ j : Nat, j ≤ 9 ∧ Hid (∀ i, i < j → (ekN.getD i 0 : Int) ≠ key) ∧ Hid (wr.heap[w.heap.size]? = some (.stringIter ekB j)) ∧ Below w.heap.size w wr) (fun wr => 9 - wr.iterPos w.heap.size)
  case atStart => exact ⟨0, by omega, Lib.hid (fun i hi => absurd hi (by omega)), Lib.hid (World.iter_heap _ _ _), Utf.below_iter (Below.refl _ _) (Nat.le_refl _) _ _⟩
  case round =>
    obtain ⟨j, hj, HA, HI, hbl⟩ := hrel
    have HIP : Hid (wr.iterPos w.heap.size = j) := Lib.hid (by simp [World.iterPos, HI.out])
    by_cases hp : j < 9
    · have hd := ek_step ⟨j, hp⟩
      simp only at hd
      have hnx : ∀ ty, (Instr.next (.pointer (some ⟨w.heap.size, 0, none⟩)) true ty).run Tryz.prog wr = _ := fun ty => Lib.run_next_any_at wr w.heap.size ekB j ty HI.out (by rw [ek_size]; exact hp)
      rw [Utf.dec_at] at hnx
      have hsm := Utf.dec_small (ekB.data.toList.drop j)
      rw [hd] at hnx hsm
      simp only at hnx hsm
      have HYJ := Lib.hid (HY.out j hp)
      have HPL := Lib.hid (ek_lt ⟨j, hp⟩)
      have hit2 := Lib.iterAt_heap wr w.heap.size ekB j (j + 1) HI.out
      have HIT2 := Lib.hid hit2
      have HIP2 : Hid ((wr.iterAt w.heap.size ekB (j + 1)).iterPos w.heap.size = j + 1) := Lib.hid (by simp [World.iterPos, hit2])
      have HBL2 : Hid (Below w.heap.size w (wr.iterAt w.heap.size ekB (j + 1))) := Lib.hid (Lib.below_iterAt hbl (Nat.le_refl _) _ _)
      have HAJ : Hid ((ekN.getD j 0 : Int) ≠ key → ∀ i, i < j + 1 → (ekN.getD i 0 : Int) ≠ key) := Lib.hid fun q i hi => by
        by_cases e : i = j
        · subst e; exact q
        · exact HA.out i (by omega)
      clear hit2 hbl hd HA
      obtain ⟨r, hr⟩ : ∃ r, ekN.getD j 0 = r := ⟨_, rfl⟩
      simp only [hr] at hnx hsm HYJ HPL HAJ
      have hwr : IntKind.i64.wrap (r : Int) = (r : Int) := by rw [IntKind.wrap_i64]; have := HPL.out; omega
      by_cases he : (r : Int) = key
      · have HE := Lib.hid (HYJ.out he)
        have hq : ((r : Int) == key) = true := by rw [beq_iff_eq]; exact he
        clear HYJ HAJ he
        go_wp2_with fail
        go_ret
        exact ⟨ret_bool HE.out.symm, HBL2.out⟩
      · have HE := Lib.hid (HAJ.out he)
        have hq : ((r : Int) == key) = false := by rw [beq_eq_false_iff_ne]; exact he
        clear HYJ HAJ he
        go_wp2_with fail
        go_roundw
        case rel => exact ⟨j + 1, by omega, HE, HIT2, HBL2.out⟩
        case measure => rw [HIP2.out, HIP.out]; omega
    · have hnx : ∀ ty, (Instr.next (.pointer (some ⟨w.heap.size, 0, none⟩)) true ty).run Tryz.prog wr = _ := fun ty => Lib.run_next_end_at wr w.heap.size ekB j ty HI.out (by rw [show j = 9 by omega, ek_size]; decide)
      have HE := Lib.hid (HN.out (fun i hi => HA.out i (by omega)))
      go_wp2_with fail
      go_ret
      exact ⟨ret_bool HE.out.symm, hbl⟩
end Scr
end
end Go.Proofs.YtceaoadlhdgnmaaGreatDoor
