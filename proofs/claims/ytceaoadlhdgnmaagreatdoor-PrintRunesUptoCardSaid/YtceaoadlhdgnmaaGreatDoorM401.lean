/- Joined texts: RowOwn, RowMark, RowComb, RowCombOk. -/
import Derived.Test.YtceaoadlhdgnmaaGreatDoorM5
import Derived.Test.YtceaoadlhdgnmaaGreatDoorMRestR
import Derived.Laws.Cover4
namespace Go.Proofs.YtceaoadlhdgnmaaGreatDoor
set_option maxRecDepth 100000
section
open Go.RowKit
namespace Row
open Utf Wid
@[go_sem] theorem first_0 (p : Option Addr) (w : World) : (Instr.field 222 (.agg #[.pointer p]) 0).run Tryz.prog w = .ok (.pointer p) w := by kernel_rfl
set_option maxHeartbeats 800000 in
theorem owner_not (l : List Cl) (base b k cap : Nat) (w : World) (ho : OwnCs w base (.slice (some ⟨b, 0, none⟩) l.length cap) l) (hs : Held l) (hk : k < l.length) (h0 : kind (g l k) ≠ 0) (h3 : kind (g l k) ≠ 3) :
    Calls Tryz.prog 165 #[.slice (some ⟨b, 0, none⟩) l.length cap, .int .i64 k] w fun e w' => e = .returned (.pointer (some ⟨b, k * 6, none⟩)) ∧ Below w.heap.size w w' := by
  have HAT := Lib.hid (ho.at hk)
  have HLK := Lib.hid (fun w' (h : At w' ⟨b, k * 6, none⟩ (cvals (g l k))) => look_any (g l k) ⟨b, k * 6, none⟩ w' h (hs k hk))
  have hkl := kind_le (g l k)
  rcases (by omega : kind (g l k) = 1 ∨ kind (g l k) = 2) with e | e
  · rw [e, partV_1] at HLK
    clear hs ho h0 h3 e hkl
    go_enter Tryz.func165, Tryz.ntmps165
    go_wp2_with fail
    refine (HLK.out _ HAT.out).mono ?_; rintro e w1 ⟨rfl, hb1⟩
    have HB1 := Lib.hid hb1
    clear hb1
    go_wp2_with fail
    go_ret
    exact ⟨rfl, by have h1 := HB1.out; have h2 := h1.size; repeat (first | exact h1 | refine Below.alloc ?_ (by first | exact h2 | (simp; omega)) _)⟩
  · rw [e, partV_2] at HLK
    clear hs ho h0 h3 e hkl
    go_enter Tryz.func165, Tryz.ntmps165
    go_wp2_with fail
    refine (HLK.out _ HAT.out).mono ?_; rintro e w1 ⟨rfl, hb1⟩
    have HB1 := Lib.hid hb1
    clear hb1
    go_wp2_with fail
    go_ret
    exact ⟨rfl, by have h1 := HB1.out; have h2 := h1.size; repeat (first | exact h1 | refine Below.alloc ?_ (by first | exact h2 | (simp; omega)) _)⟩
set_option maxHeartbeats 800000 in
theorem owner_snd (l : List Cl) (base b k j cap : Nat) (w : World) (ho : OwnCs w base (.slice (some ⟨b, 0, none⟩) l.length cap) l) (hs : Held l) (hl : l.length ≤ 1000000) (hk : k < l.length) (hj : k = j + 1) (h3 : kind (g l k) = 3) (h2 : kind (g l j) = 2) :
    Calls Tryz.prog 165 #[.slice (some ⟨b, 0, none⟩) l.length cap, .int .i64 k] w fun e w' => e = .returned (.pointer (some ⟨b, j * 6, none⟩)) ∧ Below w.heap.size w w' := by
  have hjl : j < l.length := by omega
  have HLK := Lib.hid (fun w' (h : At w' ⟨b, k * 6, none⟩ (cvals (g l k))) => look_any (g l k) ⟨b, k * 6, none⟩ w' h (hs k hk))
  have HLJ := Lib.hid (fun w' (h : At w' ⟨b, j * 6, none⟩ (cvals (g l j))) => look_any (g l j) ⟨b, j * 6, none⟩ w' h (hs j hjl))
  rw [h3, partV_3] at HLK
  rw [h2, partV_2] at HLJ
  have HO := Lib.hid ho
  have hk1 : IntKind.i64.wrap ((k : Int) - 1) = (j : Int) := by rw [IntKind.wrap_i64]; omega
  clear hs ho h3 h2 hj
  go_enter Tryz.func165, Tryz.ntmps165
  go_wp2_with fail
  refine (HLK.out _ (HO.out.at hk)).mono ?_; rintro e w1 ⟨rfl, hb1⟩
  have HB1 := Lib.hid hb1
  have z1 := hb1.size
  clear hb1
  go_wp2_with fail
  have hb2 : Below w.heap.size w (w1.alloc (.cells #[.pointer (some ⟨b, k * 6, none⟩)] 218)) := HB1.out.alloc HB1.out.size _
  refine (HLJ.out _ ((HO.out.kept hb2).at hjl)).mono ?_; rintro e w2 ⟨rfl, hb3⟩
  have HB3 : Hid (Below w.heap.size w w2) := Lib.hid (hb2.trans (hb3.mono hb2.size))
  clear hb2 hb3
  go_wp2_with fail
  go_ret
  exact ⟨rfl, HB3.out⟩
end Row
end
section
open Go.RowKit
namespace Row
open Utf Wid
theorem marks_app : ∀ (k : Nat) (l e : List UInt8) (n : Nat), l.length ≤ k → marks l = some n → marks (l ++ e) = (marks e).map (· + n)
  | 0, l, e, n, h, hm => by
    have : l = [] := List.eq_nil_of_length_eq_zero (by omega)
    subst this
    rw [marks_nil] at hm
    injection hm with hm
    subst hm
    rw [List.nil_append]
    cases marks e <;> rfl
  | k + 1, l, e, n, h, hm => by
    by_cases hl : l = []
    · subst hl
      rw [marks_nil] at hm
      injection hm with hm
      subst hm
      rw [List.nil_append]
      cases marks e <;> rfl
    · rw [marks_step hl] at hm
      by_cases hw : wid (dec l).1 = 0
      · rw [if_pos hw] at hm
        obtain ⟨m, hm', hmn⟩ := Option.map_eq_some_iff.1 hm
        rcases Utf.dec_rune l hl with ⟨e1, _⟩ | ⟨h2, h1, hr, _⟩
        · rw [e1] at hw
          exact absurd hw (by decide)
        · have hd : dec (l ++ e) = dec l := by
            have := dec_head hr (l.drop (dec l).2 ++ e)
            rw [← List.append_assoc, List.take_append_drop, List.length_take, Nat.min_eq_left h2] at this
            exact this
          rw [marks_step (by simp [hl]), hd, if_pos hw, List.drop_append_of_le_length h2, marks_app k _ e m (by rw [List.length_drop]; omega) hm']
          cases marks e
          · rfl
          · simp; omega
      · rw [if_neg hw] at hm
        cases hm
theorem tn {n : Nat} (h : n < 256) : (UInt8.ofNat n).toNat = n := by simp; omega
theorem rune_encoded {r : Nat} (hv : Utf8.valid (r : Int) = true) : ∃ l, (Utf8.encode (r : Int)).data.toList = l ∧ Utf.Rune l r := by
  have hv' : r < 55296 ∨ (57343 < r ∧ r ≤ 1114111) := by simp [Utf8.valid] at hv; omega
  unfold Utf8.encode
  simp only [hv, if_true, Int.toNat_natCast]
  split
  · rename_i h
    exact ⟨_, rfl, by rw [tn (by omega)]; exact h, by rw [tn (by omega)]⟩
  · split
    · rename_i h1 h2
      refine ⟨_, rfl, ?_, ?_, ?_⟩
      · rw [tn (by omega)]; unfold more; repeat' split
        all_goals omega
      · rw [tn (by omega), tn (by omega)]; refine follows_iff.2 ?_; simp only [low, high, if_true]; repeat' split
        all_goals omega
      · show r = (UInt8.ofNat (192 + r / 64)).toNat % 32 * 64 + (UInt8.ofNat (128 + r % 64)).toNat % 64
        rw [tn (by omega), tn (by omega)]; omega
    · split
      · rename_i h1 h2 h3
        refine ⟨_, rfl, ?_, ?_, ?_, ?_⟩
        · rw [tn (by omega)]; unfold more; repeat' split
          all_goals omega
        · rw [tn (by omega), tn (by omega)]; refine follows_iff.2 ?_; simp only [low, high, if_true]; repeat' split
          all_goals omega
        · rw [tn (by omega), tn (by omega)]; refine follows_iff.2 ?_; simp only [low, high]; repeat' split
          all_goals omega
        · show r = ((UInt8.ofNat (224 + r / 4096)).toNat % 16 * 64 + (UInt8.ofNat (128 + r / 64 % 64)).toNat % 64) * 64 + (UInt8.ofNat (128 + r % 64)).toNat % 64
          rw [tn (by omega), tn (by omega), tn (by omega)]; omega
      · rename_i h1 h2 h3
        refine ⟨_, rfl, ?_, ?_, ?_, ?_, ?_⟩
        · rw [tn (by omega)]; unfold more; repeat' split
          all_goals omega
        · rw [tn (by omega), tn (by omega)]; refine follows_iff.2 ?_; simp only [low, high, if_true]; repeat' split
          all_goals omega
        · rw [tn (by omega), tn (by omega)]; refine follows_iff.2 ?_; simp only [low, high]; repeat' split
          all_goals omega
        · rw [tn (by omega), tn (by omega)]; refine follows_iff.2 ?_; simp only [low, high]; repeat' split
          all_goals omega
        · show r = (((UInt8.ofNat (240 + r / 262144)).toNat % 8 * 64 + (UInt8.ofNat (128 + r / 4096 % 64)).toNat % 64) * 64 + (UInt8.ofNat (128 + r / 64 % 64)).toNat % 64) * 64 + (UInt8.ofNat (128 + r % 64)).toNat % 64
          rw [tn (by omega), tn (by omega), tn (by omega), tn (by omega)]; omega
theorem marks_one {l : List UInt8} {r : Nat} (h : Utf.Rune l r) (hw : wid (r : Int) = 0) : marks l = some 1 := by
  have hl : l ≠ [] := by rintro rfl; exact h.elim
  have hd := dec_head h []
  rw [List.append_nil] at hd
  rw [marks_step hl, hd]
  simp only
  rw [if_pos hw, List.drop_length, marks_nil]
  rfl
end Row
end
section
open Go.RowKit
namespace Row
open Utf Wid
def ownerAt (l : List Cl) (k : Nat) : Nat := if kind (g l k) = 3 then k - 1 else k
theorem ownerAt_lt {l : List Cl} {k : Nat} (hk : k < l.length) : ownerAt l k < l.length := by unfold ownerAt; split <;> omega
theorem kind_comb {c : Cl} (h : kind c ≠ 0) : ∃ n, marks c.comb = some n ∧ n ≤ 2 := by
  have h1 : combOk c.comb = true := by
    cases e : combOk c.comb
    · exact absurd (kind_bad e) h
    · rfl
  unfold combOk at h1
  split at h1
  · rename_i n hn
    exact ⟨n, hn, of_decide_eq_true h1⟩
  · cases h1
def numM (c : Cl) : Nat := (marks c.comb).getD 0
def combC (r : Int) (c : Cl) : Cl := if numM c < 2 then { c with comb := c.comb ++ (Utf8.encode r).data.toList } else c
def combL (l : List Cl) (k : Nat) (r : Int) : List Cl := l.set (ownerAt l k) (combC r (g l (ownerAt l k)))
theorem owner_kind {l : List Cl} (hg : Good l) {k : Nat} (hk : k < l.length) : kind (g l (ownerAt l k)) ≠ 0 ∧ kind (g l (ownerAt l k)) ≠ 3 := by
  unfold ownerAt
  split
  · rename_i h3
    rcases hg k hk with h | ⟨h, _⟩ | ⟨_, h0, hw⟩
    · rw [h3] at h; cases h
    · rw [h3] at h; cases h
    · have := kind_of_wide1 (okAt_kind (hg (k - 1) (by omega))) hw
      rw [this]; decide
  · rename_i h3
    exact ⟨okAt_kind (hg k hk), h3⟩
theorem owner_good (l : List Cl) (base b k cap : Nat) (w : World) (ho : OwnCs w base (.slice (some ⟨b, 0, none⟩) l.length cap) l) (hs : Held l) (hl : l.length ≤ 1000000) (hk : k < l.length) (hg : Good l) :
    Calls Tryz.prog 165 #[.slice (some ⟨b, 0, none⟩) l.length cap, .int .i64 k] w fun e w' => e = .returned (.pointer (some ⟨b, ownerAt l k * 6, none⟩)) ∧ Below w.heap.size w w' := by
  unfold ownerAt
  split
  · rename_i h3
    rcases hg k hk with h | ⟨h, _⟩ | ⟨_, h0, hw⟩
    · rw [h3] at h; cases h
    · rw [h3] at h; cases h
    · exact owner_snd l base b k (k - 1) cap w ho hs hl hk (by omega) h3 (kind_of_wide1 (okAt_kind (hg (k - 1) (by omega))) hw)
  · rename_i h3
    exact owner_not l base b k cap w ho hs hk (okAt_kind (hg k hk)) h3
theorem flat_comb (s : List UInt8) : ∀ (l : List Cl) (k : Nat) (_ : k < l.length), (flat l).set (k * 6 + 1) (.string ⟨s.toArray⟩) = flat (l.set k { g l k with comb := s })
  | x :: l, 0, _ => by
    show _ = cvals _ ++ flat l
    rw [flat_cons]
    rfl
  | x :: l, k + 1, h => by
    have ih := flat_comb s l k (by simpa using h)
    show _ = cvals x ++ flat (l.set k _)
    have hx : (cvals x).length = 6 := rfl
    rw [flat_cons, List.set_append_right _ _ (by rw [hx]; omega), hx, show (k + 1) * 6 + 1 - 6 = k * 6 + 1 from by omega, ih]
    rfl
theorem OwnCs.comb {w : World} {base b n cap : Nat} {l : List Cl} (h : OwnCs w base (.slice (some ⟨b, 0, none⟩) n cap) l) {k : Nat} (hk : k < l.length) (s : List UInt8) :
    OwnCs (w.setCell ⟨b, k * 6 + 1, none⟩ (.string ⟨s.toArray⟩)) base (.slice (some ⟨b, 0, none⟩) n cap) (l.set k { g l k with comb := s }) := by
  have hn : n = l.length := h.n
  subst hn
  have s0 := (World.ownsRow.stored h (k * 6 + 1) (.string ⟨s.toArray⟩)).1
  rw [flat_comb s l k hk] at s0
  unfold OwnCs
  rw [List.length_set]
  exact s0
theorem set_same (l : List Cl) (k : Nat) (hk : k < l.length) : l.set k (g l k) = l := by
  have e : g l k = l[k] := by unfold g; simp [List.getD, hk]
  rw [e, List.set_getElem_self]
theorem app_str (a : List UInt8) (s : ByteArray) : (⟨a.toArray⟩ : ByteArray) ++ s = ⟨(a ++ s.data.toList).toArray⟩ := by
  apply ByteArray.ext
  simp
set_option maxHeartbeats 1600000 in
theorem comb_fits (l : List Cl) (k : Nat) (r : Int) (x : Value) (w : World) (hx : Cs w x l) (hs : Held l) (h : RowOk l) (hk : k < l.length) (hr : wid r = 0) (hr0 : 0 ≤ r) (hr1 : r ≤ 1114111) :
    Calls Tryz.prog 124 #[x, .int .i64 k, .int .i64 r] w fun e w' => ∃ v, e = .returned (.tuple #[v, .int .i64 0]) ∧ OwnCs w' w.heap.size v (combL l k r) ∧ Below w.heap.size w w' := by
  have HX := Lib.hid hx
  have hl40 := h.2.1
  have HCK : Hid (∀ w', Cs w' x l → Calls Tryz.prog 163 #[x] w' fun e w'' => e = .returned (.int .i64 0) ∧ Below w'.heap.size w' w'') := Lib.hid fun w' k => rowCheck_any l true x w' k hs (by omega) (by simp [h])
  have HR : Hid (rng (k : Int) 0 ((l.length : Int) - 1) = true) := Lib.hid (rng_yes (by omega) (by omega))
  have hwrap : IntKind.i64.wrap ((l.length : Int) - 1) = (l.length : Int) - 1 := by rw [IntKind.wrap_i64]; omega
  have HOF := Lib.hid (fun w' => of_any r w')
  rw [hr] at HOF
  have HCL := Lib.hid (fun w' (h1 : Cs w' x l) => clone_any l x w' h1 (by omega))
  have HOW := Lib.hid (fun base b cap w' (h1 : OwnCs w' base (.slice (some ⟨b, 0, none⟩) l.length cap) l) => owner_good l base b k cap w' h1 hs (by omega) hk h.2.2)
  have hj := ownerAt_lt hk
  obtain ⟨n, hn, hn2⟩ := kind_comb (owner_kind h.2.2 hk).1
  have HMK := Lib.hid (fun w' => marks_any ⟨(g l (ownerAt l k)).comb.toArray⟩ w' (hs _ hj))
  have hsz : ¬ 9223372036854775807 < (g l (ownerAt l k)).comb.length + (Utf8.encode r).size := by have h1 := Go.encode_size_le r; have h2 := hs _ hj; omega
  have hnum : numM (g l (ownerAt l k)) = n := by unfold numM; rw [hn]; rfl
  rw [show (⟨(g l (ownerAt l k)).comb.toArray⟩ : ByteArray).data.toList = (g l (ownerAt l k)).comb from rfl, hn, marksV_some] at HMK
  have HRES : Hid (∀ w' base b cap, base ≤ b → OwnCs w' base (.slice (some ⟨b, 0, none⟩) l.length cap) l → w'.cell? ⟨b, ownerAt l k * 6 + 1, none⟩ = some (.string ⟨(g l (ownerAt l k)).comb.toArray⟩) ∧ w'.frozen? ⟨b, ownerAt l k * 6 + 1, none⟩ = false) := Lib.hid fun w' base b cap _ h1 => ⟨h1.cell hj (by decide), h1.free _⟩
  have HYES : Hid (n < 2 → ∀ w' base b cap, OwnCs w' base (.slice (some ⟨b, 0, none⟩) l.length cap) l → OwnCs (w'.setCell ⟨b, ownerAt l k * 6 + 1, none⟩ (.string (⟨(g l (ownerAt l k)).comb.toArray⟩ ++ Utf8.encode r))) base (.slice (some ⟨b, 0, none⟩) l.length cap) (combL l k r)) := Lib.hid fun hlt w' base b cap h1 => by
    have := h1.comb hj ((g l (ownerAt l k)).comb ++ (Utf8.encode r).data.toList)
    unfold combL combC
    rw [if_pos (by omega), app_str]
    exact this
  have HNO : Hid (¬ n < 2 → combL l k r = l) := Lib.hid fun hlt => by
    unfold combL combC
    rw [if_neg (by omega), set_same l _ hj]
  generalize ownerAt l k = j at HOW HMK HRES HYES hj hsz
  generalize (g l j).comb = cb at HMK HRES HYES hsz
  generalize combL l k r = res at HYES HNO ⊢
  have hwr : IntKind.i32.wrap r = r := by rw [IntKind.wrap_i32]; omega
  have hl1 := h.1
  obtain ⟨A, c, rfl, _⟩ := hx.form
  clear hx hs h hn hnum hr
  go_enter Tryz.func124, Tryz.ntmps124
  go_wp2_with fail
  refine (HCK.out _ HX.out).mono ?_; rintro e w1 ⟨rfl, hb1⟩
  have HB1 := Lib.hid hb1
  clear hb1
  go_wp2_with fail
  refine (rowIn_at _ _ _ _ HR.out _).mono ?_; rintro e w1' ⟨rfl, rfl⟩
  go_wp2_with fail
  refine (HOF.out _).mono ?_; rintro e w2 ⟨rfl, hb2⟩
  have HB2 : Hid (Below w.heap.size w w2) := Lib.hid (HB1.out.trans (hb2.mono HB1.out.size))
  clear hb2
  go_wp2_with fail
  refine (HCL.out _ (HX.out.kept HB2.out)).mono ?_; rintro e w3 ⟨v3, rfl, ho3, hb3⟩
  have HB3 : Hid (Below w.heap.size w w3) := Lib.hid (HB2.out.trans (hb3.mono HB2.out.size))
  have hbase := HB2.out.size
  rcases ho3.shape with ⟨_, e0⟩ | ⟨b, cap, rfl, hbb, _⟩
  · exfalso; rw [e0] at hl1; simp at hl1
  have HO3 := Lib.hid (ho3.low hbase)
  have HBB : Hid (w.heap.size ≤ b) := Lib.hid (by omega)
  clear ho3 hb3 hbase hbb
  go_wp2_with fail
  refine (HOW.out _ _ _ _ HO3.out).mono ?_; rintro e w4 ⟨rfl, hb4⟩
  have HB4 : Hid (Below w.heap.size w w4) := Lib.hid (HB3.out.trans (hb4.mono HB3.out.size))
  have HO4 := Lib.hid (HO3.out.kept hb4)
  clear hb4
  have q4 := (HRES.out w4 _ b cap HBB.out HO4.out).1
  go_wp2_with fail
  refine (HMK.out _).mono ?_; rintro e w5 ⟨rfl, hb5⟩
  have HB5 : Hid (Below w.heap.size w w5) := Lib.hid (HB4.out.trans (hb5.mono HB4.out.size))
  have HO5 := Lib.hid (HO4.out.kept hb5)
  clear hb5 q4
  obtain ⟨q5, f5⟩ := HRES.out w5 _ b cap HBB.out HO5.out
  by_cases hlt : n < 2
  · have hi : (n : Int) < 2 := by omega
    go_wp2_with fail
    go_ret2
    exact ⟨_, rfl, HYES.out hlt _ _ _ _ HO5.out, HB5.out.setCell HBB.out _⟩
  · have hi : ¬ (n : Int) < 2 := by omega
    go_wp2_with fail
    go_ret2
    exact ⟨_, rfl, by rw [HNO.out hlt]; exact HO5.out, HB5.out⟩
end Row
end
section
open Go.RowKit
namespace Row
open Utf Wid
theorem mark_rune {r : Int} (h : wid r = 0) : 768 ≤ r ∧ r ≤ 65071 ∧ Utf8.valid r = true := by
  unfold wid at h
  cases h1 : isNone r <;> rw [h1] at h <;> simp at h
  cases h2 : isMark r <;> rw [h2] at h <;> simp at h
  · cases h3 : isWide r <;> rw [h3] at h <;> simp at h
  · have hm : (768 ≤ r ∧ r ≤ 879) ∨ (6832 ≤ r ∧ r ≤ 6911) ∨ (8203 ≤ r ∧ r ≤ 8207) ∨ (8400 ≤ r ∧ r ≤ 8447) ∨ (65024 ≤ r ∧ r ≤ 65039) ∨ (65056 ≤ r ∧ r ≤ 65071) := by
      simpa [isMark, within] using h2
    refine ⟨by omega, by omega, ?_⟩
    simp [Utf8.valid]
    omega
theorem kind_as {c c' : Cl} (h0 : kind c ≠ 0) (h3 : kind c ≠ 3) (hr : c'.rune = c.rune) (hw : c'.wide = c.wide) (ha : c'.a = c.a) (hc : combOk c'.comb = true) : kind c' = kind c := by
  have hcc : combOk c.comb = true := by
    cases e : combOk c.comb
    · exact absurd (kind_bad e) h0
    · rfl
  unfold kind at h0 h3 ⊢
  rw [hr, hw, ha, hc, hcc]
  rw [hcc] at h0 h3
  cases e : attrOk c.a
  · rfl
  · rw [e] at h0 h3
    cases e1 : decide (wid c.rune = 1) && decide (c.wide = 0)
    · cases e2 : decide (wid c.rune = 2) && decide (c.wide = 1)
      · rw [e1, e2] at h0 h3
        exfalso
        cases e3 : isSec c <;> rw [e3] at h0 h3 <;> simp at h0 h3
      · rfl
    · rfl
theorem mark_encode {r : Int} (h1 : 768 ≤ r) (hv : Utf8.valid r = true) (hr : wid r = 0) : marks (Utf8.encode r).data.toList = some 1 := by
  obtain ⟨m, hm⟩ : ∃ m : Nat, r = (m : Int) := ⟨r.toNat, by omega⟩
  rw [hm] at hv hr ⊢
  obtain ⟨l, hl, h3⟩ := rune_encoded hv
  rw [hl]
  exact marks_one h3 hr
theorem combC_same (r : Int) (c : Cl) : (combC r c).rune = c.rune ∧ (combC r c).wide = c.wide ∧ (combC r c).a = c.a := by
  unfold combC
  split <;> exact ⟨rfl, rfl, rfl⟩
theorem combC_ok {r : Int} {c : Cl} (h0 : kind c ≠ 0) (hr : wid r = 0) : combOk (combC r c).comb = true := by
  obtain ⟨n, hn, hn2⟩ := kind_comb h0
  have hnum : numM c = n := by unfold numM; rw [hn]; rfl
  unfold combC
  rw [hnum]
  split
  · rename_i hlt
    obtain ⟨h1, h2, hv⟩ := mark_rune hr
    have he : marks (Utf8.encode r).data.toList = some 1 := mark_encode h1 hv hr
    generalize (Utf8.encode r).data.toList = e at he ⊢
    have := marks_app c.comb.length c.comb e n (Nat.le_refl _) hn
    rw [he, Option.map_some] at this
    show combOk (c.comb ++ e) = true
    unfold combOk
    rw [this]
    exact decide_eq_true (show 1 + n ≤ 2 by omega)
  · unfold combOk
    rw [hn]
    exact decide_eq_true hn2
theorem combL_length (l : List Cl) (k : Nat) (r : Int) : (combL l k r).length = l.length := List.length_set
theorem combOkRow {l : List Cl} {k : Nat} {r : Int} (h : RowOk l) (hk : k < l.length) (hr : wid r = 0) : RowOk (combL l k r) := by
  have hj := ownerAt_lt hk
  obtain ⟨k0, k3⟩ := owner_kind h.2.2 hk
  refine ⟨by rw [combL_length]; exact h.1, by rw [combL_length]; exact h.2.1, ?_⟩
  unfold combL
  generalize ownerAt l k = j at hj k0 k3
  have hs := combC_same r (g l j)
  have hc := combC_ok (r := r) k0 hr
  have hkd := kind_as k0 k3 hs.1 hs.2.1 hs.2.2 hc
  generalize combC r (g l j) = c' at hs hc hkd
  have hkind : ∀ i, kind (g (l.set j c') i) = kind (g l i) := fun i => by
    by_cases e : j = i
    · subst e; rw [g_set_same hj]; exact hkd
    · rw [g_set_ne e]
  have hwide : ∀ i, (g (l.set j c') i).wide = (g l i).wide := fun i => by
    by_cases e : j = i
    · subst e; rw [g_set_same hj]; exact hs.2.1
    · rw [g_set_ne e]
  have hattr : ∀ i, (g (l.set j c') i).a = (g l i).a := fun i => by
    by_cases e : j = i
    · subst e; rw [g_set_same hj]; exact hs.2.2
    · rw [g_set_ne e]
  intro i hi
  rw [List.length_set] at hi
  rcases h.2.2 i hi with q | ⟨q1, q2, q3⟩ | ⟨q1, q2, q3⟩
  · exact .inl (by rw [hkind]; exact q)
  · refine .inr (.inl ⟨by rw [hkind]; exact q1, by rw [List.length_set]; exact q2, ?_⟩)
    rw [hattr, g_set_ne ?_]
    · exact q3
    · rintro rfl
      rw [q3] at k3
      exact k3 (kind_sec (kind_attr (c := g l i) (by rw [q1]; decide)))
  · exact .inr (.inr ⟨by rw [hkind]; exact q1, q2, by rw [hwide]; exact q3⟩)
end Row
end
end Go.Proofs.YtceaoadlhdgnmaaGreatDoor
