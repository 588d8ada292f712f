/- The developers' cut: a wide rune across a place is mended on both sides. -/
import Derived.Test.YthkfcfmnccfbnaaRowCheck
import Derived.Deep.RegionHeld
namespace Go.Proofs.Ythkfcfmnccfbnaa
set_option maxRecDepth 100000
open Go.RowKit
namespace Row
open Utf Wid

set_option maxHeartbeats 400000 in
theorem cut_end (l : List Cl) (base : Nat) (v : Value) (w : World) (ho : OwnCs w base v l) :
    Calls Try.prog 51 #[v, .int .i64 l.length] w fun e w' => e = .returned (.tuple #[]) ∧ w = w' := by
  obtain ⟨A, c, rfl, _⟩ := ho.cs.form
  clear ho
  go_enter Try.func51, Try.ntmps51
  go_wp2_with fail
  go_returns
  exact ⟨rfl, rfl⟩

set_option maxHeartbeats 800000 in
theorem cut_not (l : List Cl) (base b k cap : Nat) (w : World) (ho : OwnCs w base (.slice (some ⟨b, 0, none⟩) l.length cap) l) (hs : Held l) (hk : k < l.length) (h0 : kind (g l k) ≠ 0) (h3 : kind (g l k) ≠ 3) :
    Calls Try.prog 51 #[.slice (some ⟨b, 0, none⟩) l.length cap, .int .i64 k] w fun e w' => e = .returned (.tuple #[]) ∧ Below w.heap.size w w' := by
  obtain ⟨A, c, e, ha⟩ := ho.cs.form
  injection e with e1 e2 e3
  subst e1
  obtain ⟨ad, e, hat⟩ := ha k hk
  injection e with e
  subst e
  have hl : ((⟨b, 0, none⟩ : Addr).add (k * 6)) = ⟨b, k * 6, none⟩ := by
    unfold Addr.add
    split
    · rename_i h; rw [h]
    · simp
  rw [hl] at hat
  have HLK := Lib.hid (fun w' (h : At w' ⟨b, k * 6, none⟩ (cvals (g l k))) => look_any (g l k) ⟨b, k * 6, none⟩ w' h (hs k hk))
  have HAT := Lib.hid hat
  have hkl := kind_le (g l k)
  have hne : ((k : Int) == (l.length : Int)) = false := by rw [beq_eq_false_iff_ne]; omega
  rcases (by omega : kind (g l k) = 1 ∨ kind (g l k) = 2) with e | e
  · rw [e, partV_1] at HLK
    clear ha hat hs ho h0 h3 e hkl hl
    go_enter Try.func51, Try.ntmps51
    go_wp2_with fail
    refine (HLK.out _ HAT.out).mono ?_; rintro e w1 ⟨rfl, hb1⟩
    have HB1 := Lib.hid hb1
    clear hb1
    go_wp2_with fail
    go_end0
    exact ⟨rfl, by have h1 := HB1.out; have h2 := h1.size; repeat (first | exact h1 | refine Below.alloc ?_ (by first | exact h2 | (simp; omega)) _)⟩
  · rw [e, partV_2] at HLK
    clear ha hat hs ho h0 h3 e hkl hl
    go_enter Try.func51, Try.ntmps51
    go_wp2_with fail
    refine (HLK.out _ HAT.out).mono ?_; rintro e w1 ⟨rfl, hb1⟩
    have HB1 := Lib.hid hb1
    clear hb1
    go_wp2_with fail
    go_end0
    exact ⟨rfl, by have h1 := HB1.out; have h2 := h1.size; repeat (first | exact h1 | refine Below.alloc ?_ (by first | exact h2 | (simp; omega)) _)⟩

theorem addr_at (b k : Nat) : ((⟨b, 0, none⟩ : Addr).add (k * 6)) = ⟨b, k * 6, none⟩ := by
  unfold Addr.add
  split
  · rename_i h; rw [h]
  · simp
theorem OwnCs.at {w : World} {base b n cap : Nat} {l : List Cl} (h : OwnCs w base (.slice (some ⟨b, 0, none⟩) n cap) l) {k : Nat} (hk : k < l.length) : At w ⟨b, k * 6, none⟩ (cvals (g l k)) := by
  intro j u hu
  have hj : j < 6 := (List.getElem?_eq_some_iff.1 hu).1
  have e : (⟨b, k * 6, none⟩ : Addr).add j = ⟨b, k * 6 + j, none⟩ := by
    unfold Addr.add
    split
    · rename_i h; rw [h]; rfl
    · rfl
  rw [e, h.cell hk hj]; exact hu

theorem first_facts {w : World} {base b n cap j : Nat} {l : List Cl} {r x a1 a2 a3 : Int} {c : List UInt8} (h : OwnCs w base (.slice (some ⟨b, 0, none⟩) n cap) l) (hj : j < l.length) (hg : g l j = ⟨r, c, x, ⟨a1, a2, a3⟩⟩) :
    w.cell? ⟨b, j * 6, none⟩ = some (.int .i64 r) ∧
    w.cell? ⟨b, j * 6 + 1, none⟩ = some (.string ⟨c.toArray⟩) ∧
    w.cell? ⟨b, j * 6 + 2, none⟩ = some (.int .i64 x) ∧
    w.cell? ⟨b, j * 6 + 3, none⟩ = some (.int .i64 a1) ∧
    w.cell? ⟨b, j * 6 + 4, none⟩ = some (.int .i64 a2) ∧
    w.cell? ⟨b, j * 6 + 5, none⟩ = some (.int .i64 a3) ∧
    w.frozen? ⟨b, j * 6, none⟩ = false ∧
    w.frozen? ⟨b, j * 6 + 1, none⟩ = false ∧
    w.frozen? ⟨b, j * 6 + 2, none⟩ = false ∧
    w.frozen? ⟨b, j * 6 + 3, none⟩ = false ∧
    w.frozen? ⟨b, j * 6 + 4, none⟩ = false ∧
    w.frozen? ⟨b, j * 6 + 5, none⟩ = false := by
  have e : ∀ i, i < 6 → w.cell? ⟨b, j * 6 + i, none⟩ = (cvals ⟨r, c, x, ⟨a1, a2, a3⟩⟩)[i]? := fun i hi => by rw [h.cell hj hi, hg]
  exact ⟨e 0 (by decide), e 1 (by decide), e 2 (by decide), e 3 (by decide), e 4 (by decide), e 5 (by decide), h.free _, h.free _, h.free _, h.free _, h.free _, h.free _⟩
theorem second_facts {w : World} {base b n cap j k : Nat} {l : List Cl} {jb r x a1 a2 a3 : Int} {c : List UInt8} (h : OwnCs (putCell w b j ⟨32, [], 0, ⟨-1, jb, 0⟩⟩) base (.slice (some ⟨b, 0, none⟩) n cap) l) (hk : k < l.length) (hg : g l k = ⟨r, c, x, ⟨a1, a2, a3⟩⟩) :
    ((((((w.setCell ⟨b, j * 6, none⟩ (.int .i64 32)).setCell ⟨b, j * 6 + 1, none⟩ (.string ⟨#[]⟩)).setCell ⟨b, j * 6 + 2, none⟩ (.int .i64 0)).setCell ⟨b, j * 6 + 3, none⟩ (.int .i64 (-1))).setCell ⟨b, j * 6 + 4, none⟩ (.int .i64 jb)).setCell ⟨b, j * 6 + 5, none⟩ (.int .i64 0)).cell? ⟨b, k * 6, none⟩ = some (.int .i64 r) ∧
    ((((((w.setCell ⟨b, j * 6, none⟩ (.int .i64 32)).setCell ⟨b, j * 6 + 1, none⟩ (.string ⟨#[]⟩)).setCell ⟨b, j * 6 + 2, none⟩ (.int .i64 0)).setCell ⟨b, j * 6 + 3, none⟩ (.int .i64 (-1))).setCell ⟨b, j * 6 + 4, none⟩ (.int .i64 jb)).setCell ⟨b, j * 6 + 5, none⟩ (.int .i64 0)).cell? ⟨b, k * 6 + 1, none⟩ = some (.string ⟨c.toArray⟩) ∧
    ((((((w.setCell ⟨b, j * 6, none⟩ (.int .i64 32)).setCell ⟨b, j * 6 + 1, none⟩ (.string ⟨#[]⟩)).setCell ⟨b, j * 6 + 2, none⟩ (.int .i64 0)).setCell ⟨b, j * 6 + 3, none⟩ (.int .i64 (-1))).setCell ⟨b, j * 6 + 4, none⟩ (.int .i64 jb)).setCell ⟨b, j * 6 + 5, none⟩ (.int .i64 0)).cell? ⟨b, k * 6 + 2, none⟩ = some (.int .i64 x) ∧
    ((((((w.setCell ⟨b, j * 6, none⟩ (.int .i64 32)).setCell ⟨b, j * 6 + 1, none⟩ (.string ⟨#[]⟩)).setCell ⟨b, j * 6 + 2, none⟩ (.int .i64 0)).setCell ⟨b, j * 6 + 3, none⟩ (.int .i64 (-1))).setCell ⟨b, j * 6 + 4, none⟩ (.int .i64 jb)).setCell ⟨b, j * 6 + 5, none⟩ (.int .i64 0)).cell? ⟨b, k * 6 + 3, none⟩ = some (.int .i64 a1) ∧
    ((((((w.setCell ⟨b, j * 6, none⟩ (.int .i64 32)).setCell ⟨b, j * 6 + 1, none⟩ (.string ⟨#[]⟩)).setCell ⟨b, j * 6 + 2, none⟩ (.int .i64 0)).setCell ⟨b, j * 6 + 3, none⟩ (.int .i64 (-1))).setCell ⟨b, j * 6 + 4, none⟩ (.int .i64 jb)).setCell ⟨b, j * 6 + 5, none⟩ (.int .i64 0)).cell? ⟨b, k * 6 + 4, none⟩ = some (.int .i64 a2) ∧
    ((((((w.setCell ⟨b, j * 6, none⟩ (.int .i64 32)).setCell ⟨b, j * 6 + 1, none⟩ (.string ⟨#[]⟩)).setCell ⟨b, j * 6 + 2, none⟩ (.int .i64 0)).setCell ⟨b, j * 6 + 3, none⟩ (.int .i64 (-1))).setCell ⟨b, j * 6 + 4, none⟩ (.int .i64 jb)).setCell ⟨b, j * 6 + 5, none⟩ (.int .i64 0)).cell? ⟨b, k * 6 + 5, none⟩ = some (.int .i64 a3) ∧
    ((((((w.setCell ⟨b, j * 6, none⟩ (.int .i64 32)).setCell ⟨b, j * 6 + 1, none⟩ (.string ⟨#[]⟩)).setCell ⟨b, j * 6 + 2, none⟩ (.int .i64 0)).setCell ⟨b, j * 6 + 3, none⟩ (.int .i64 (-1))).setCell ⟨b, j * 6 + 4, none⟩ (.int .i64 jb)).setCell ⟨b, j * 6 + 5, none⟩ (.int .i64 0)).frozen? ⟨b, k * 6, none⟩ = false ∧
    ((((((w.setCell ⟨b, j * 6, none⟩ (.int .i64 32)).setCell ⟨b, j * 6 + 1, none⟩ (.string ⟨#[]⟩)).setCell ⟨b, j * 6 + 2, none⟩ (.int .i64 0)).setCell ⟨b, j * 6 + 3, none⟩ (.int .i64 (-1))).setCell ⟨b, j * 6 + 4, none⟩ (.int .i64 jb)).setCell ⟨b, j * 6 + 5, none⟩ (.int .i64 0)).frozen? ⟨b, k * 6 + 1, none⟩ = false ∧
    ((((((w.setCell ⟨b, j * 6, none⟩ (.int .i64 32)).setCell ⟨b, j * 6 + 1, none⟩ (.string ⟨#[]⟩)).setCell ⟨b, j * 6 + 2, none⟩ (.int .i64 0)).setCell ⟨b, j * 6 + 3, none⟩ (.int .i64 (-1))).setCell ⟨b, j * 6 + 4, none⟩ (.int .i64 jb)).setCell ⟨b, j * 6 + 5, none⟩ (.int .i64 0)).frozen? ⟨b, k * 6 + 2, none⟩ = false ∧
    ((((((w.setCell ⟨b, j * 6, none⟩ (.int .i64 32)).setCell ⟨b, j * 6 + 1, none⟩ (.string ⟨#[]⟩)).setCell ⟨b, j * 6 + 2, none⟩ (.int .i64 0)).setCell ⟨b, j * 6 + 3, none⟩ (.int .i64 (-1))).setCell ⟨b, j * 6 + 4, none⟩ (.int .i64 jb)).setCell ⟨b, j * 6 + 5, none⟩ (.int .i64 0)).frozen? ⟨b, k * 6 + 3, none⟩ = false ∧
    ((((((w.setCell ⟨b, j * 6, none⟩ (.int .i64 32)).setCell ⟨b, j * 6 + 1, none⟩ (.string ⟨#[]⟩)).setCell ⟨b, j * 6 + 2, none⟩ (.int .i64 0)).setCell ⟨b, j * 6 + 3, none⟩ (.int .i64 (-1))).setCell ⟨b, j * 6 + 4, none⟩ (.int .i64 jb)).setCell ⟨b, j * 6 + 5, none⟩ (.int .i64 0)).frozen? ⟨b, k * 6 + 4, none⟩ = false ∧
    ((((((w.setCell ⟨b, j * 6, none⟩ (.int .i64 32)).setCell ⟨b, j * 6 + 1, none⟩ (.string ⟨#[]⟩)).setCell ⟨b, j * 6 + 2, none⟩ (.int .i64 0)).setCell ⟨b, j * 6 + 3, none⟩ (.int .i64 (-1))).setCell ⟨b, j * 6 + 4, none⟩ (.int .i64 jb)).setCell ⟨b, j * 6 + 5, none⟩ (.int .i64 0)).frozen? ⟨b, k * 6 + 5, none⟩ = false :=
  first_facts h hk hg
theorem put_far {w : World} {b p : Nat} (h : b ≠ p) (k : Nat) (c : Cl) (o : Nat) : (putCell w b k c).cell? ⟨p, o, none⟩ = w.cell? ⟨p, o, none⟩ := by
  unfold putCell
  rw [World.cell?_setCell_far _ _ _ _ h, World.cell?_setCell_far _ _ _ _ h, World.cell?_setCell_far _ _ _ _ h, World.cell?_setCell_far _ _ _ _ h, World.cell?_setCell_far _ _ _ _ h, World.cell?_setCell_far _ _ _ _ h]
theorem far_1 {w : World} {b p j o : Nat} {jb : Int} {v : Value} (h : b ≠ p) (hc : w.cell? ⟨p, o, none⟩ = some v) :
    ((((((w.setCell ⟨b, j * 6, none⟩ (.int .i64 32)).setCell ⟨b, j * 6 + 1, none⟩ (.string ⟨#[]⟩)).setCell ⟨b, j * 6 + 2, none⟩ (.int .i64 0)).setCell ⟨b, j * 6 + 3, none⟩ (.int .i64 (-1))).setCell ⟨b, j * 6 + 4, none⟩ (.int .i64 jb)).setCell ⟨b, j * 6 + 5, none⟩ (.int .i64 0)).cell? ⟨p, o, none⟩ = some v := (put_far h j ⟨32, [], 0, ⟨-1, jb, 0⟩⟩ o).trans hc
theorem far_2 {w : World} {b p j k o : Nat} {jb kb : Int} {v : Value} (h : b ≠ p) (hc : w.cell? ⟨p, o, none⟩ = some v) :
    ((((((((((((w.setCell ⟨b, j * 6, none⟩ (.int .i64 32)).setCell ⟨b, j * 6 + 1, none⟩ (.string ⟨#[]⟩)).setCell ⟨b, j * 6 + 2, none⟩ (.int .i64 0)).setCell ⟨b, j * 6 + 3, none⟩ (.int .i64 (-1))).setCell ⟨b, j * 6 + 4, none⟩ (.int .i64 jb)).setCell ⟨b, j * 6 + 5, none⟩ (.int .i64 0)).setCell ⟨b, k * 6, none⟩ (.int .i64 32)).setCell ⟨b, k * 6 + 1, none⟩ (.string ⟨#[]⟩)).setCell ⟨b, k * 6 + 2, none⟩ (.int .i64 0)).setCell ⟨b, k * 6 + 3, none⟩ (.int .i64 (-1))).setCell ⟨b, k * 6 + 4, none⟩ (.int .i64 kb)).setCell ⟨b, k * 6 + 5, none⟩ (.int .i64 0)).cell? ⟨p, o, none⟩ = some v := (put_far h k ⟨32, [], 0, ⟨-1, kb, 0⟩⟩ o).trans (far_1 h hc)
set_option maxHeartbeats 6400000 in
theorem cut_pair (l : List Cl) (base b j k cap : Nat) (w : World) (ho : OwnCs w base (.slice (some ⟨b, 0, none⟩) l.length cap) l) (hb : base ≤ w.heap.size) (hs : Held l) (hl : l.length ≤ 1000000) (hk : k < l.length) (hj : k = j + 1) (h3 : kind (g l k) = 3) (h2 : kind (g l j) = 2) :
    Calls Try.prog 51 #[.slice (some ⟨b, 0, none⟩) l.length cap, .int .i64 k] w fun e w' => e = .returned (.tuple #[]) ∧ OwnCs w' base (.slice (some ⟨b, 0, none⟩) l.length cap) ((l.set j (blank (g l j).a)).set k (blank (g l k).a)) ∧ Below base w w' := by
  have hjl : j < l.length := by omega
  have hwrap : IntKind.i64.wrap ((k : Int) - 1) = (j : Int) := by rw [IntKind.wrap_i64]; omega
  have hne : ((k : Int) == (l.length : Int)) = false := by rw [beq_eq_false_iff_ne]; omega
  have HLK := Lib.hid (fun w' (h : At w' ⟨b, k * 6, none⟩ (cvals (g l k))) => look_any (g l k) ⟨b, k * 6, none⟩ w' h (hs k hk))
  have HLJ := Lib.hid (fun w' (h : At w' ⟨b, j * 6, none⟩ (cvals (g l j))) => look_any (g l j) ⟨b, j * 6, none⟩ w' h (hs j hjl))
  rw [h3, partV_3] at HLK
  rw [h2, partV_2] at HLJ
  have HO := Lib.hid ho
  have HBS := Lib.hid hb
  have hbb : base ≤ b := by
    rcases ho.shape with ⟨e, _⟩ | ⟨b', _, e, h, _⟩
    · injection e with e; cases e
    · injection e with e; injection e with e; injection e with e; rw [e]; exact h
  have hlt : b < w.heap.size := (ho.lt b rfl).2
  have HBB := Lib.hid hbb
  have HJK := Lib.hid hj
  clear hs ho h3 h2 hb hbb hj
  go_enter Try.func51, Try.ntmps51
  go_wp2_with fail
  refine (HLK.out _ (HO.out.at hk)).mono ?_; rintro e w1 ⟨rfl, hb1⟩
  have HB1 := Lib.hid hb1
  have z1 := hb1.size
  clear hb1
  go_wp2_with fail
  have hb2 : Below w.heap.size w (w1.alloc (.cells #[.pointer (some ⟨b, k * 6, none⟩)] 81)) := HB1.out.alloc HB1.out.size _
  refine (HLJ.out _ ((HO.out.kept hb2).at hjl)).mono ?_; rintro e w2 ⟨rfl, hb3⟩
  have HB3 : Hid (Below w.heap.size w w2) := Lib.hid (hb2.trans (hb3.mono hb2.size))
  have HP4 : Hid (w2.heap[w1.heap.size]? = some (.cells #[.pointer (some ⟨b, k * 6, none⟩)] 81 (0, 0))) := Lib.hid (Blk.kept (heap_alloc_new _ _) hb3)
  have z3 : w1.heap.size < w2.heap.size := Blk.lt HP4.out
  clear hb2 hb3
  go_wp2_with fail
  have HB4 : Hid (Below w.heap.size w (w2.alloc (.cells #[.pointer (some ⟨b, j * 6, none⟩)] 78))) := Lib.hid (HB3.out.alloc HB3.out.size _)
  have HP4' : Hid ((w2.alloc (.cells #[.pointer (some ⟨b, j * 6, none⟩)] 78)).heap[w1.heap.size]? = some (.cells #[.pointer (some ⟨b, k * 6, none⟩)] 81 (0, 0))) := Lib.hid (by rw [heap_alloc_old _ _ z3]; exact HP4.out)
  have HP6 : Hid ((w2.alloc (.cells #[.pointer (some ⟨b, j * 6, none⟩)] 78)).heap[w2.heap.size]? = some (.cells #[.pointer (some ⟨b, j * 6, none⟩)] 78 (0, 0))) := Lib.hid (heap_alloc_new _ _)
  generalize w2.heap.size = p6 at HP6 z3 ⊢
  generalize w1.heap.size = p4 at HP4' z1 z3 ⊢
  generalize w2.alloc (.cells #[.pointer (some ⟨b, j * 6, none⟩)] 78) = w3 at HB4 HP4' HP6 ⊢
  clear HP4 HB3 HB1
  have HO3 := Lib.hid (HO.out.kept HB4.out)
  have hn4 : b ≠ p4 := by omega
  have hn6 : b ≠ p6 := by omega
  have hn46 : p4 ≠ p6 := by omega
  have HJN : Hid (j ≠ k) := Lib.hid (by have := HJK.out; omega)
  have hq4 : w3.cell? ⟨p4, 0, none⟩ = some (.pointer (some ⟨b, k * 6, none⟩)) := Blk.cell HP4'.out 0
  have hq6 : w3.cell? ⟨p6, 0, none⟩ = some (.pointer (some ⟨b, j * 6, none⟩)) := Blk.cell HP6.out 0
  have HF : Hid (∃ f : Cl, g l j = f) := Lib.hid ⟨_, rfl⟩
  have aj := HO3.out.at hjl
  have ak := HO3.out.at hk
  have HPJ := Lib.hid (fun (w' : World) (h : OwnCs w' base (.slice (some ⟨b, 0, none⟩) l.length cap) l) => h.put hjl (blank (g l j).a))
  have HGK : Hid (g (l.set j (blank (g l j).a)) k = g l k) := Lib.hid (g_set_ne HJN.out _)
  have HKL : Hid (k < (l.set j (blank (g l j).a)).length) := Lib.hid (by rw [List.length_set]; exact hk)
  have HPK := Lib.hid (fun (w' : World) (h : OwnCs w' base (.slice (some ⟨b, 0, none⟩) l.length cap) (l.set j (blank (g l j).a))) => h.put HKL.out (blank (g l k).a))
  have HBJ := Lib.hid (fun w' => blank_any (g l j).a w')
  have HBK := Lib.hid (fun w' => blank_any (g l k).a w')
  generalize l.set j (blank (g l j).a) = lj at HPJ HGK HKL HPK ⊢
  generalize hfj : g l j = fj at aj HPJ HBJ
  generalize hfk : g l k = fk at ak HGK HPK HBK ⊢
  have HFJ := Lib.hid hfj
  have HFK := Lib.hid hfk
  clear hfj hfk HF
  obtain ⟨jr, jc, jw, ⟨j1, j2, j3⟩⟩ := fj
  obtain ⟨kr, kc, kw, ⟨k1, k2, k3⟩⟩ := fk
  have HEND : Hid (∀ wB, OwnCs wB base (.slice (some ⟨b, 0, none⟩) l.length cap) l → OwnCs (putCell (putCell wB b j ⟨32, [], 0, ⟨-1, j2, 0⟩⟩) b k ⟨32, [], 0, ⟨-1, k2, 0⟩⟩) base (.slice (some ⟨b, 0, none⟩) l.length cap) ((l.set j (blank (g l j).a)).set k (blank (g l k).a))) := Lib.hid fun wB h => by
    have h1 := h.put hjl (blank (g l j).a)
    have h2 := h1.put (show k < (l.set j (blank (g l j).a)).length by rw [List.length_set]; exact hk) (blank (g l k).a)
    rw [HFJ.out, HFK.out] at h2 ⊢
    exact h2
  have x3 := aj.next 2 rfl
  have x4 := aj.next 3 rfl
  have x5 := aj.next 4 rfl
  have y3 := ak.next 2 rfl
  have y4 := ak.next 3 rfl
  have y5 := ak.next 4 rfl
  clear aj ak
  have HBJ : Hid (∀ w', Calls Try.prog 49 #[.agg #[.int .i64 j1, .int .i64 j2, .int .i64 j3]] w' fun e w'' => e = .returned (.agg #[.int .i64 32, .string ⟨#[]⟩, .int .i64 0, .int .i64 (-1), .int .i64 j2, .int .i64 0]) ∧ Below w'.heap.size w' w'') := HBJ
  have HBK : Hid (∀ w', Calls Try.prog 49 #[.agg #[.int .i64 k1, .int .i64 k2, .int .i64 k3]] w' fun e w'' => e = .returned (.agg #[.int .i64 32, .string ⟨#[]⟩, .int .i64 0, .int .i64 (-1), .int .i64 k2, .int .i64 0]) ∧ Below w'.heap.size w' w'') := HBK
  have HBW : Hid (Below base w w3) := Lib.hid (HB4.out.mono HBS.out)
  have z9 := Blk.lt HP6.out
  have q4 : w3.drew.cell? ⟨p4, 0, none⟩ = some (.pointer (some ⟨b, k * 6, none⟩)) := hq4
  have q6 : w3.drew.cell? ⟨p6, 0, none⟩ = some (.pointer (some ⟨b, j * 6, none⟩)) := hq6
  refine wp_region_held_drew (S := fun w' => w'.cell? ⟨p4, 0, none⟩ = some (.pointer (some ⟨b, k * 6, none⟩)) ∧ w'.cell? ⟨p6, 0, none⟩ = some (.pointer (some ⟨b, j * 6, none⟩))) (by kernel_rfl) ⟨q4, q6⟩ (fun hHeld => ?_)
  refine wpAnyH_take (i := 0) (v := ?_) rfl (by kernel_rfl) (by kernel_rfl) (by kernel_rfl) (fun _ _ _ h => h) (Or.inl ⟨by rfl, ?_⟩) (by assumption) ?_
  rotate_left
  · intro w' hSw; first | (go_simp; done) | (go_simp; with_reducible rfl)
  simp only [Act.put, List.getElem_toArray, List.getElem_cons_zero, List.setIfInBounds_toArray, List.set_cons_zero, List.set_cons_succ]
  refine wpAnyH_take (i := 1) (v := ?_) rfl (by kernel_rfl) (by kernel_rfl) (by kernel_rfl) (fun _ _ _ h => h) (Or.inl ⟨by rfl, ?_⟩) (by assumption) ?_
  rotate_left
  · intro w' hSw; first | (go_simp; done) | (go_simp; with_reducible rfl)
  simp only [Act.put, List.getElem_toArray, List.getElem_cons_zero, List.getElem_cons_succ, List.setIfInBounds_toArray, List.set_cons_zero, List.set_cons_succ]
  refine wpAnyH_take (i := 2) (v := ?_) rfl (by kernel_rfl) (by kernel_rfl) (by kernel_rfl) (fun _ _ _ h => h) (Or.inl ⟨by rfl, ?_⟩) (by assumption) ?_
  rotate_left
  · intro w' hSw; first | (go_simp; done) | (go_simp; with_reducible rfl)
  simp only [Act.put, List.getElem_toArray, List.getElem_cons_zero, List.getElem_cons_succ, List.setIfInBounds_toArray, List.set_cons_zero, List.set_cons_succ]
  refine wpAnyH_take (i := 3) (v := ?_) rfl (by kernel_rfl) (by kernel_rfl) (by kernel_rfl) (fun _ _ _ h => h) (Or.inl ⟨by rfl, ?_⟩) (by assumption) ?_
  rotate_left
  · intro w' hSw; first | (go_simp; done) | (go_simp; with_reducible rfl)
  simp only [Act.put, List.getElem_toArray, List.getElem_cons_zero, List.getElem_cons_succ, List.setIfInBounds_toArray, List.set_cons_zero, List.set_cons_succ]
  refine wpAnyH_take (i := 4) (v := ?_) rfl (by kernel_rfl) (by kernel_rfl) (by kernel_rfl) (fun _ _ _ h => h) (Or.inl ⟨by rfl, ?_⟩) (by assumption) ?_
  rotate_left
  · intro w' hSw; first | (go_simp; done) | (go_simp; with_reducible rfl)
  simp only [Act.put, List.getElem_toArray, List.getElem_cons_zero, List.getElem_cons_succ, List.setIfInBounds_toArray, List.set_cons_zero, List.set_cons_succ]
  refine wpAnyH_take (i := 5) (v := ?_) rfl (by kernel_rfl) (by kernel_rfl) (by kernel_rfl) (fun _ _ _ h => h) (Or.inl ⟨by rfl, ?_⟩) (by assumption) ?_
  rotate_left
  · intro w' hSw; first | (go_simp; done) | (go_simp; with_reducible rfl)
  simp only [Act.put, List.getElem_toArray, List.getElem_cons_zero, List.getElem_cons_succ, List.setIfInBounds_toArray, List.set_cons_zero, List.set_cons_succ]
  refine wpAnyH_take (i := 6) (v := ?_) rfl (by kernel_rfl) (by kernel_rfl) (by kernel_rfl) (fun _ _ _ h => h) (Or.inl ⟨by rfl, ?_⟩) (by assumption) ?_
  rotate_left
  · intro w' hSw; first | (go_simp; done) | (go_simp; with_reducible rfl)
  simp only [Act.put, List.getElem_toArray, List.getElem_cons_zero, List.getElem_cons_succ, List.setIfInBounds_toArray, List.set_cons_zero, List.set_cons_succ]
  refine wpAnyH_take (i := 7) (v := ?_) rfl (by kernel_rfl) (by kernel_rfl) (by kernel_rfl) (fun _ _ _ h => h) (Or.inl ⟨by rfl, ?_⟩) (by assumption) ?_
  rotate_left
  · intro w' hSw; first | (go_simp; done) | (go_simp; with_reducible rfl)
  simp only [Act.put, List.getElem_toArray, List.getElem_cons_zero, List.getElem_cons_succ, List.setIfInBounds_toArray, List.set_cons_zero, List.set_cons_succ]
  refine wpAnyH_take (i := 10) (v := ?_) rfl (by kernel_rfl) (by kernel_rfl) (by kernel_rfl) (fun _ _ _ h => h) (Or.inl ⟨by rfl, ?_⟩) (by assumption) ?_
  rotate_left
  · intro w' hSw; first | (go_simp; done) | (go_simp; with_reducible rfl)
  simp only [Act.put, List.getElem_toArray, List.getElem_cons_zero, List.getElem_cons_succ, List.setIfInBounds_toArray, List.set_cons_zero, List.set_cons_succ]
  refine wpAnyH_take (i := 11) (v := ?_) rfl (by kernel_rfl) (by kernel_rfl) (by kernel_rfl) (fun _ _ _ h => h) (Or.inl ⟨by rfl, ?_⟩) (by assumption) ?_
  rotate_left
  · intro w' hSw; first | (go_simp; done) | (go_simp; with_reducible rfl)
  simp only [Act.put, List.getElem_toArray, List.getElem_cons_zero, List.getElem_cons_succ, List.setIfInBounds_toArray, List.set_cons_zero, List.set_cons_succ]
  refine wpAnyH_take (i := 12) (v := ?_) rfl (by kernel_rfl) (by kernel_rfl) (by kernel_rfl) (fun _ _ _ h => h) (Or.inl ⟨by rfl, ?_⟩) (by assumption) ?_
  rotate_left
  · intro w' hSw; first | (go_simp; done) | (go_simp; with_reducible rfl)
  simp only [Act.put, List.getElem_toArray, List.getElem_cons_zero, List.getElem_cons_succ, List.setIfInBounds_toArray, List.set_cons_zero, List.set_cons_succ]
  refine wpAnyH_take (i := 13) (v := ?_) rfl (by kernel_rfl) (by kernel_rfl) (by kernel_rfl) (fun _ _ _ h => h) (Or.inl ⟨by rfl, ?_⟩) (by assumption) ?_
  rotate_left
  · intro w' hSw; first | (go_simp; done) | (go_simp; with_reducible rfl)
  simp only [Act.put, List.getElem_toArray, List.getElem_cons_zero, List.getElem_cons_succ, List.setIfInBounds_toArray, List.set_cons_zero, List.set_cons_succ]
  refine wpAnyH_ready (rs := [8, 14]) (by kernel_rfl) (by simp) ?_
  refine AllReadyH.cons rfl (fun K hK => ?_) ?_
  · go_simp
    refine hK.out _ _ ⟨q4, q6⟩ (fun hHeld => ?_)
    clear hK K
    refine wpAnyH_ready (rs := [9, 14]) (by kernel_rfl) (by simp) ?_
    refine AllReadyH.cons rfl (fun K hK => ?_) ?_
    · go_simp
      go_wp2_with (go_at_call 49; refine (HBJ.out _).mono ?_; rintro e wA ⟨rfl, hbA⟩; have hbA : Below w3.heap.size w3 wA := (Below.refl _ _).drew.trans hbA; have HOA := Lib.hid (HO3.out.kept hbA); have HBWA : Hid (Below base w wA) := Lib.hid (HBW.out.trans (hbA.mono (Nat.le_trans HBS.out HB4.out.size))); have c4A := cell_kept hbA hq4; have c6A := cell_kept hbA hq6; have y3A := cell_kept hbA y3; have y4A := cell_kept hbA y4; have y5A := cell_kept hbA y5; have HSZ : Hid (w3.heap.size ≤ wA.heap.size) := Lib.hid hbA.size; clear hbA)
      refine hK.out _ _ ⟨c4A, c6A⟩ (fun hHeld => ?_)
      clear hK K
      refine wpAnyH_ready (rs := [14]) (by kernel_rfl) (by simp) ?_
      refine AllReadyH.cons rfl (fun K hK => ?_) ?_
      · go_simp
        refine hK.out _ _ ⟨c4A, c6A⟩ (fun hHeld => ?_)
        clear hK K
        refine wpAnyH_ready (rs := [15]) (by kernel_rfl) (by simp) ?_
        refine AllReadyH.cons rfl (fun K hK => ?_) ?_
        · go_simp
          go_wp2_with (go_at_call 49; refine (HBK.out _).mono ?_; rintro e wB ⟨rfl, hbB⟩; have HOB := Lib.hid (HOA.out.kept hbB); have HBWB : Hid (Below base w wB) := Lib.hid (HBWA.out.trans (hbB.mono (Nat.le_trans HBS.out (Nat.le_trans HB4.out.size HSZ.out)))); have c4B := cell_kept hbB c4A; have c6B := cell_kept hbB c6A; obtain ⟨d0, d1, d2, d3, d4, d5, f0, f1, f2, f3, f4, f5⟩ := first_facts HOB.out hjl HFJ.out; obtain ⟨e0, e1, e2, e3, e4, e5, g0, g1, g2, g3, g4, g5⟩ := second_facts (HPJ.out _ HOB.out) HKL.out HGK.out; have v4 := far_1 (j := j) (jb := j2) hn4 c4B; have v6 := far_1 (j := j) (jb := j2) hn6 c6B; have u4 := far_2 (j := j) (k := k) (jb := j2) (kb := k2) hn4 c4B; have u6 := far_2 (j := j) (k := k) (jb := j2) (kb := k2) hn6 c6B; clear hbB)
          refine hK.out _ _ ⟨c4B, c6B⟩ (fun hHeld => ?_)
          clear hK K
          refine wpAnyH_take (i := 16) (v := ?_) rfl (by kernel_rfl) (by kernel_rfl) (by kernel_rfl) (fun _ _ _ h => h) (Or.inl ⟨by rfl, ?_⟩) (by assumption) ?_
          rotate_left
          · intro w' hSw; first | (go_simp; done) | (go_simp; with_reducible rfl)
          simp only [Act.put, List.getElem_toArray, List.getElem_cons_zero, List.getElem_cons_succ, List.setIfInBounds_toArray, List.set_cons_zero, List.set_cons_succ]
          refine wpAnyH_ready (rs := [17]) (by kernel_rfl) (by simp) ?_
          refine AllReadyH.cons rfl (fun K hK => ?_) ?_
          · go_simp
            refine hK.out _ _ ⟨v4, v6⟩ (fun hHeld => ?_)
            clear hK K
            refine wpAnyH_take (i := 18) (v := ?_) rfl (by kernel_rfl) (by kernel_rfl) (by kernel_rfl) (fun _ _ _ h => h) (Or.inl ⟨by rfl, ?_⟩) (by assumption) ?_
            rotate_left
            · intro w' hSw; first | (go_simp; done) | (go_simp; with_reducible rfl)
            simp only [Act.put, List.getElem_toArray, List.getElem_cons_zero, List.getElem_cons_succ, List.setIfInBounds_toArray, List.set_cons_zero, List.set_cons_succ]
            refine wpAnyH_ready (rs := [19]) (by kernel_rfl) (by simp) ?_
            refine AllReadyH.cons rfl (fun K hK => ?_) ?_
            · go_simp
              refine hK.out _ _ ⟨u4, u6⟩ (fun hHeld => ?_)
              clear hK K
              refine wpAnyH_done (by kernel_rfl) ?_ _
              go_wp2_with fail
              go_end0
              exact ⟨rfl, HEND.out _ HOB.out, below_put (below_put HBWB.out HBB.out j ⟨32, [], 0, ⟨-1, j2, 0⟩⟩) HBB.out k ⟨32, [], 0, ⟨-1, k2, 0⟩⟩⟩
            exact AllReadyH.nil
          exact AllReadyH.nil
        exact AllReadyH.nil
      exact AllReadyH.nil
    refine AllReadyH.cons rfl (fun K hK => ?_) ?_
    · go_simp
      refine hK.out _ _ ⟨q4, q6⟩ (fun hHeld => ?_)
      clear hK K
      refine wpAnyH_ready (rs := [9]) (by kernel_rfl) (by simp) ?_
      refine AllReadyH.cons rfl (fun K hK => ?_) ?_
      · go_simp
        go_wp2_with (go_at_call 49; refine (HBJ.out _).mono ?_; rintro e wA ⟨rfl, hbA⟩; have hbA : Below w3.heap.size w3 wA := (Below.refl _ _).drew.trans hbA; have HOA := Lib.hid (HO3.out.kept hbA); have HBWA : Hid (Below base w wA) := Lib.hid (HBW.out.trans (hbA.mono (Nat.le_trans HBS.out HB4.out.size))); have c4A := cell_kept hbA hq4; have c6A := cell_kept hbA hq6; have y3A := cell_kept hbA y3; have y4A := cell_kept hbA y4; have y5A := cell_kept hbA y5; have HSZ : Hid (w3.heap.size ≤ wA.heap.size) := Lib.hid hbA.size; clear hbA)
        refine hK.out _ _ ⟨c4A, c6A⟩ (fun hHeld => ?_)
        clear hK K
        refine wpAnyH_ready (rs := [15]) (by kernel_rfl) (by simp) ?_
        refine AllReadyH.cons rfl (fun K hK => ?_) ?_
        · go_simp
          go_wp2_with (go_at_call 49; refine (HBK.out _).mono ?_; rintro e wB ⟨rfl, hbB⟩; have HOB := Lib.hid (HOA.out.kept hbB); have HBWB : Hid (Below base w wB) := Lib.hid (HBWA.out.trans (hbB.mono (Nat.le_trans HBS.out (Nat.le_trans HB4.out.size HSZ.out)))); have c4B := cell_kept hbB c4A; have c6B := cell_kept hbB c6A; obtain ⟨d0, d1, d2, d3, d4, d5, f0, f1, f2, f3, f4, f5⟩ := first_facts HOB.out hjl HFJ.out; obtain ⟨e0, e1, e2, e3, e4, e5, g0, g1, g2, g3, g4, g5⟩ := second_facts (HPJ.out _ HOB.out) HKL.out HGK.out; have v4 := far_1 (j := j) (jb := j2) hn4 c4B; have v6 := far_1 (j := j) (jb := j2) hn6 c6B; have u4 := far_2 (j := j) (k := k) (jb := j2) (kb := k2) hn4 c4B; have u6 := far_2 (j := j) (k := k) (jb := j2) (kb := k2) hn6 c6B; clear hbB)
          refine hK.out _ _ ⟨c4B, c6B⟩ (fun hHeld => ?_)
          clear hK K
          refine wpAnyH_take (i := 16) (v := ?_) rfl (by kernel_rfl) (by kernel_rfl) (by kernel_rfl) (fun _ _ _ h => h) (Or.inl ⟨by rfl, ?_⟩) (by assumption) ?_
          rotate_left
          · intro w' hSw; first | (go_simp; done) | (go_simp; with_reducible rfl)
          simp only [Act.put, List.getElem_toArray, List.getElem_cons_zero, List.getElem_cons_succ, List.setIfInBounds_toArray, List.set_cons_zero, List.set_cons_succ]
          refine wpAnyH_ready (rs := [17]) (by kernel_rfl) (by simp) ?_
          refine AllReadyH.cons rfl (fun K hK => ?_) ?_
          · go_simp
            refine hK.out _ _ ⟨v4, v6⟩ (fun hHeld => ?_)
            clear hK K
            refine wpAnyH_take (i := 18) (v := ?_) rfl (by kernel_rfl) (by kernel_rfl) (by kernel_rfl) (fun _ _ _ h => h) (Or.inl ⟨by rfl, ?_⟩) (by assumption) ?_
            rotate_left
            · intro w' hSw; first | (go_simp; done) | (go_simp; with_reducible rfl)
            simp only [Act.put, List.getElem_toArray, List.getElem_cons_zero, List.getElem_cons_succ, List.setIfInBounds_toArray, List.set_cons_zero, List.set_cons_succ]
            refine wpAnyH_ready (rs := [19]) (by kernel_rfl) (by simp) ?_
            refine AllReadyH.cons rfl (fun K hK => ?_) ?_
            · go_simp
              refine hK.out _ _ ⟨u4, u6⟩ (fun hHeld => ?_)
              clear hK K
              refine wpAnyH_done (by kernel_rfl) ?_ _
              go_wp2_with fail
              go_end0
              exact ⟨rfl, HEND.out _ HOB.out, below_put (below_put HBWB.out HBB.out j ⟨32, [], 0, ⟨-1, j2, 0⟩⟩) HBB.out k ⟨32, [], 0, ⟨-1, k2, 0⟩⟩⟩
            exact AllReadyH.nil
          exact AllReadyH.nil
        exact AllReadyH.nil
      exact AllReadyH.nil
    exact AllReadyH.nil
  refine AllReadyH.cons rfl (fun K hK => ?_) ?_
  · go_simp
    refine hK.out _ _ ⟨q4, q6⟩ (fun hHeld => ?_)
    clear hK K
    refine wpAnyH_ready (rs := [8]) (by kernel_rfl) (by simp) ?_
    refine AllReadyH.cons rfl (fun K hK => ?_) ?_
    · go_simp
      refine hK.out _ _ ⟨q4, q6⟩ (fun hHeld => ?_)
      clear hK K
      refine wpAnyH_ready (rs := [9]) (by kernel_rfl) (by simp) ?_
      refine AllReadyH.cons rfl (fun K hK => ?_) ?_
      · go_simp
        go_wp2_with (go_at_call 49; refine (HBJ.out _).mono ?_; rintro e wA ⟨rfl, hbA⟩; have hbA : Below w3.heap.size w3 wA := (Below.refl _ _).drew.trans hbA; have HOA := Lib.hid (HO3.out.kept hbA); have HBWA : Hid (Below base w wA) := Lib.hid (HBW.out.trans (hbA.mono (Nat.le_trans HBS.out HB4.out.size))); have c4A := cell_kept hbA hq4; have c6A := cell_kept hbA hq6; have y3A := cell_kept hbA y3; have y4A := cell_kept hbA y4; have y5A := cell_kept hbA y5; have HSZ : Hid (w3.heap.size ≤ wA.heap.size) := Lib.hid hbA.size; clear hbA)
        refine hK.out _ _ ⟨c4A, c6A⟩ (fun hHeld => ?_)
        clear hK K
        refine wpAnyH_ready (rs := [15]) (by kernel_rfl) (by simp) ?_
        refine AllReadyH.cons rfl (fun K hK => ?_) ?_
        · go_simp
          go_wp2_with (go_at_call 49; refine (HBK.out _).mono ?_; rintro e wB ⟨rfl, hbB⟩; have HOB := Lib.hid (HOA.out.kept hbB); have HBWB : Hid (Below base w wB) := Lib.hid (HBWA.out.trans (hbB.mono (Nat.le_trans HBS.out (Nat.le_trans HB4.out.size HSZ.out)))); have c4B := cell_kept hbB c4A; have c6B := cell_kept hbB c6A; obtain ⟨d0, d1, d2, d3, d4, d5, f0, f1, f2, f3, f4, f5⟩ := first_facts HOB.out hjl HFJ.out; obtain ⟨e0, e1, e2, e3, e4, e5, g0, g1, g2, g3, g4, g5⟩ := second_facts (HPJ.out _ HOB.out) HKL.out HGK.out; have v4 := far_1 (j := j) (jb := j2) hn4 c4B; have v6 := far_1 (j := j) (jb := j2) hn6 c6B; have u4 := far_2 (j := j) (k := k) (jb := j2) (kb := k2) hn4 c4B; have u6 := far_2 (j := j) (k := k) (jb := j2) (kb := k2) hn6 c6B; clear hbB)
          refine hK.out _ _ ⟨c4B, c6B⟩ (fun hHeld => ?_)
          clear hK K
          refine wpAnyH_take (i := 16) (v := ?_) rfl (by kernel_rfl) (by kernel_rfl) (by kernel_rfl) (fun _ _ _ h => h) (Or.inl ⟨by rfl, ?_⟩) (by assumption) ?_
          rotate_left
          · intro w' hSw; first | (go_simp; done) | (go_simp; with_reducible rfl)
          simp only [Act.put, List.getElem_toArray, List.getElem_cons_zero, List.getElem_cons_succ, List.setIfInBounds_toArray, List.set_cons_zero, List.set_cons_succ]
          refine wpAnyH_ready (rs := [17]) (by kernel_rfl) (by simp) ?_
          refine AllReadyH.cons rfl (fun K hK => ?_) ?_
          · go_simp
            refine hK.out _ _ ⟨v4, v6⟩ (fun hHeld => ?_)
            clear hK K
            refine wpAnyH_take (i := 18) (v := ?_) rfl (by kernel_rfl) (by kernel_rfl) (by kernel_rfl) (fun _ _ _ h => h) (Or.inl ⟨by rfl, ?_⟩) (by assumption) ?_
            rotate_left
            · intro w' hSw; first | (go_simp; done) | (go_simp; with_reducible rfl)
            simp only [Act.put, List.getElem_toArray, List.getElem_cons_zero, List.getElem_cons_succ, List.setIfInBounds_toArray, List.set_cons_zero, List.set_cons_succ]
            refine wpAnyH_ready (rs := [19]) (by kernel_rfl) (by simp) ?_
            refine AllReadyH.cons rfl (fun K hK => ?_) ?_
            · go_simp
              refine hK.out _ _ ⟨u4, u6⟩ (fun hHeld => ?_)
              clear hK K
              refine wpAnyH_done (by kernel_rfl) ?_ _
              go_wp2_with fail
              go_end0
              exact ⟨rfl, HEND.out _ HOB.out, below_put (below_put HBWB.out HBB.out j ⟨32, [], 0, ⟨-1, j2, 0⟩⟩) HBB.out k ⟨32, [], 0, ⟨-1, k2, 0⟩⟩⟩
            exact AllReadyH.nil
          exact AllReadyH.nil
        exact AllReadyH.nil
      exact AllReadyH.nil
    exact AllReadyH.nil
  exact AllReadyH.nil

/-- cut of a row of the call's own that may be: what the page's cut makes of it. -/
theorem cut_any (l : List Cl) (base : Nat) (v : Value) (p : Nat) (w : World) (ho : OwnCs w base v l) (hb : base ≤ w.heap.size) (hg : Good l) (hs : Held l) (hl : l.length ≤ 1000000) (hp : p ≤ l.length) :
    Calls Try.prog 51 #[v, .int .i64 p] w fun e w' => e = .returned (.tuple #[]) ∧ OwnCs w' base v (cutL l p) ∧ Below base w w' := by
  rcases Nat.lt_or_ge p l.length with hlt | hge
  · rcases ho.shape with ⟨_, e⟩ | ⟨b, cap, rfl, hbb, _⟩
    · subst e; simp at hlt
    · have hk0 := okAt_kind (hg p hlt)
      by_cases h3 : kind (g l p) = 3
      · obtain ⟨hp0, h2, _⟩ := good_ahead hg hlt h3
        have hc : cutL l p = (l.set (p - 1) (blank (g l (p - 1)).a)).set p (blank (g l p).a) := by
          unfold cutL; rw [if_pos ⟨hp0, hlt, kind_3w h3⟩]
        rw [hc]
        exact cut_pair l base b (p - 1) p cap w ho hb hs hl hlt (by omega) h3 h2
      · have hc : cutL l p = l := by
          unfold cutL
          rw [if_neg]
          rintro ⟨_, _, hw⟩
          exact h3 (kind_of_wide2 hk0 hw)
        rw [hc]
        refine (cut_not l base b p cap w ho hs hlt hk0 h3).mono ?_
        rintro e w1 ⟨rfl, h1⟩
        exact ⟨rfl, ho.kept h1, h1.mono hb⟩
  · have he : p = l.length := by omega
    subst he
    have hc : cutL l l.length = l := by unfold cutL; rw [if_neg (by omega)]
    rw [hc]
    refine (cut_end l base v w ho).mono ?_
    rintro e w1 ⟨rfl, rfl⟩
    exact ⟨rfl, ho, Below.refl _ _⟩
end Row
end Go.Proofs.Ythkfcfmnccfbnaa
