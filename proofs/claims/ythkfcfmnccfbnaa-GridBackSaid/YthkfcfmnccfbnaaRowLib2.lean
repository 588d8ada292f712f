/- The library's Mul, Grow and Concat at cells of a row; copy of elements of several cells. -/
import Derived.Test.YthkfcfmnccfbnaaRowLib
import Derived.Lib.Mul64
import Derived.Laws.BitsAllLaws
import Derived.Laws.CopyOwn
namespace Go.Proofs.Ythkfcfmnccfbnaa
set_option maxRecDepth 100000
open Go.RowKit
namespace Row

set_option maxHeartbeats 1600000 in
theorem mul64_one (n : Nat) (hn : n ≤ 1000000) (w : World) :
    Calls Try.prog 46 #[.int .u64 1, .int .u64 n] w fun e w' => e = .returned (.tuple #[.int .u64 0, .int .u64 n]) ∧ w = w' := by
  have h1 : bits .and .u64 1 4294967295 = 1 := by decide
  have h0 : bits .and .u64 0 4294967295 = 0 := by decide
  have h2 : bits .and .u64 (n : Int) 4294967295 = n := by
    have := u64_and_nat n 4294967295 (by omega) (by omega)
    rw [show ((4294967295 : Nat) : Int) = 4294967295 from rfl] at this
    rw [this]
    congr 1
    rw [show (4294967295 : Nat) = 2 ^ 32 - 1 from rfl, Nat.and_two_pow_sub_one_eq_mod]
    exact Nat.mod_eq_of_lt (by omega)
  have hq : (n : Int) / 4294967296 = 0 := by omega
  go_enter Try.func46, Try.ntmps46
  go_wp2_with fail
  go_ret2
  exact ⟨rfl, rfl⟩
theorem mul_one (n : Nat) (hn : n ≤ 1000000) (w : World) :
    Calls Try.prog 37 #[.int .u64 1, .int .u64 n] w fun e w' => e = .returned (.tuple #[.int .u64 0, .int .u64 n]) ∧ w = w' := by
  go_enter Try.func37, Try.ntmps37
  go_wp2_with fail
  refine (mul64_one n hn _).mono ?_; rintro e w' ⟨rfl, rfl⟩
  go_wp2_with fail
  go_ret2
  exact ⟨rfl, rfl⟩

theorem run_copy_wide {P : Program} (w : World) (dT sT ty elem : TypeId) (g o dLen dCap : Nat) (a : Addr) (sLen sCap : Nat) (cur : Array Value) (t : TypeId) (cs : List Value) (sz m : Nat)
    (hu : P.underlying dT = some (.slice elem)) (hs : (P.info? elem).map (·.size) = some sz)
    (hg : w.heap[g]? = some (.cells cur t (0, 0))) (hm : m = Nat.min sLen dLen) (hn : cs.length = m * sz)
    (hsrc : ∀ j v, cs[j]? = some v → w.cell? (a.add j) = some v) (hfit : o + cs.length ≤ cur.size) (h1 : ∀ v ∈ cs, v.oneCell' = true) :
    (Builtin.copy_ #[dT, sT] ty #[.slice (some ⟨g, o, none⟩) dLen dCap, .slice (some a) sLen sCap]).run P w =
      .ok (goInt m) (w.setRow g (cur.toList.take o ++ cs ++ cur.toList.drop (o + cs.length)).toArray) := by
  have hl := run_loadCells_list (P := P) w a cs hsrc
  have hst := run_storeCells_at P g o t cs 0 cur w hg (by simpa using hfit) h1
  cases hq : P.info? elem with
  | none => simp [hq] at hs
  | some i =>
    have hi : i.size = sz := by simpa [hq] using hs
    simp [Builtin.copy_, run_underlying hu, Builtin.lenOf, Builtin.firstCells, sizeOf, typeInfo, hq, hi, ← hm, ← hn, hl, hst]

theorem run_grow {w : World} {n : Nat} {ty : TypeId} (h0 : 0 < n) (hn : n ≤ 1000000) :
    ∃ cap w', (Builtin.append_ #[22, 3] ty #[.slice none 0 0, .int .i64 n]).run Try.prog w = .ok (.slice (some ⟨w.heap.size, 0, none⟩) n cap) w' ∧ n ≤ cap ∧ OwnCs w' w.heap.size (.slice (some ⟨w.heap.size, 0, none⟩) 0 cap) [] ∧ Below w.heap.size w w' := by
  obtain ⟨i, hi, hz, h6, h56⟩ := cell_row
  have hr := Lib.run_append_nil_zeros (P := Try.prog) w 22 3 ty 39 i _ .i64 .i64 Try.underlying22 Try.underlying3 hi hz n h0 (by rw [h6]; decide) (by omega) (by rw [h56]; omega)
  refine ⟨_, _, hr, ?_, ?_, ?_⟩
  · have := grownCap_ge w n 0 39; omega
  · have hge := grownCap_ge w n 0 39
    have hle := grownCap_le_maxLen w n 0 39 (by simp only [maxLen]; omega)
    generalize grownCap w n 0 39 = cap at hge hle
    refine ⟨rfl, .inr ⟨w.heap.size, cap, _, rfl, Nat.le_refl _, heap_alloc_new w.drew _, Nat.zero_le _, hle, ?_, rfl⟩⟩
    simp only [Array.size_append, size_zeroCells]
    show n * 6 + (cap - n) * 6 = cap * 6
    omega
  · exact ((Below.refl _ _).drew).alloc (Nat.le_refl _) _

set_option maxHeartbeats 800000 in
theorem grow_any (n : Nat) (hn : n ≤ 1000000) (w : World) :
    Calls Try.prog 54 #[.slice none 0 0, .int .i64 n] w fun e w' => ∃ v, e = .returned v ∧ OwnCs w' w.heap.size v [] ∧ Below w.heap.size w w' := by
  by_cases h0 : 0 < n
  · obtain ⟨cap, w1, hr, hcap, ho, hb⟩ := run_grow (w := w) (ty := 22) h0 hn
    have HO := Lib.hid ho
    have HB := Lib.hid hb
    clear ho hb
    go_enter Try.func54, Try.ntmps54
    go_wp2_with (at_builtin; refine Lib.wpList_append_run _ rfl _ _ _ _ rfl _ _ rfl rfl _ _ hr ?_)
    go_ret
    exact ⟨_, rfl, HO.out, HB.out⟩
  · have h0 : n = 0 := by omega
    subst h0
    go_enter Try.func54, Try.ntmps54
    go_wp2_with fail
    go_ret
    exact ⟨_, rfl, OwnCs.nil _ _, Below.refl _ _⟩

def lensTo (ls : List (List Cl)) (k : Nat) : Nat := (ls.take k).flatten.length
theorem take_succ_ls {ls : List (List Cl)} {k : Nat} (h : k < ls.length) : (ls.take (k + 1)).flatten = (ls.take k).flatten ++ ls.getD k [] := by
  rw [List.take_succ_eq_append_getElem h, List.flatten_append]; simp [List.getD, h]
theorem lensTo_le (ls : List (List Cl)) (k : Nat) : lensTo ls k ≤ ls.flatten.length := by
  unfold lensTo
  have h : ls.flatten = (ls.take k).flatten ++ (ls.drop k).flatten := by rw [← List.flatten_append, List.take_append_drop]
  rw [h, List.length_append]; omega
set_option maxHeartbeats 1600000 in
theorem concat_any (ls : List (List Cl)) (xs : List Value) (x : Value) (w : World) (hxl : xs.length = ls.length) (hx : Src w x xs.length xs) (hc : ∀ k, k < ls.length → Cs w (xs.getD k undef) (ls.getD k [])) (hb : ls.flatten.length ≤ 1000000) (hl : ls.length ≤ 1000) :
    Calls Try.prog 52 #[x] w fun e w' => ∃ v, e = .returned v ∧ OwnCs w' w.heap.size v ls.flatten ∧ Below w.heap.size w w' := by
  obtain ⟨A, c, rfl, ha⟩ := hx.form
  rw [hxl] at ha ⊢
  have HA : Hid (∀ k, k < ls.length → ∃ ad, A = some ad ∧ w.cell? (ad.add k) = some (xs.getD k undef)) := Lib.hid fun k hk => by
    obtain ⟨ad, h1, h2⟩ := ha k hk
    exact ⟨ad, h1, by rw [h2]; simp [List.getD, hxl, hk]⟩
  have HC := Lib.hid hc
  have HLE := Lib.hid (lensTo_le ls)
  have HB := Lib.hid hb
  clear ha hx hc hb
  go_enter Try.func52, Try.ntmps52
  go_wp2_with fail
  go_loopw [3, 11] (fun s i wr => ∃ k : Nat, k ≤ ls.length ∧ i = .int .i64 k ∧ s = .int .i64 (lensTo ls k) ∧ w = wr) (fun _ i _ => ls.length - (intOf i).toNat)
  case atStart => exact ⟨0, by omega, rfl, rfl, rfl⟩
  case round =>
    obtain ⟨k, hk, rfl, rfl, rfl⟩ := hrel
    by_cases hlt : k < ls.length
    · obtain ⟨ad, rfl, h1⟩ := HA.out k hlt
      obtain ⟨A2, c2, e2, _⟩ := (HC.out k hlt).form
      rw [e2] at h1
      have HT : Hid (lensTo ls (k + 1) = lensTo ls k + (ls.getD k []).length) := Lib.hid (by unfold lensTo; rw [take_succ_ls hlt, List.length_append])
      have hle := HLE.out (k + 1)
      have hbb := HB.out
      rw [HT.out] at hle
      generalize (ls.getD k []).length = m at h1 HT hle
      generalize lensTo ls k = s at HT hle
      clear e2
      go_wp2_with fail
      go_roundw
      case rel => exact ⟨k + 1, by omega, by go_num, by rw [HT.out]; go_num, by first | rfl | trivial⟩
      case measure => simp [intOf]; omega
    · have hkn : k = ls.length := by omega
      subst hkn
      have hle := HLE.out ls.length
      have hbb := HB.out
      generalize lensTo ls ls.length = s at hle
      go_wp2_with fail
      refine (grow_any s (by omega) _).mono ?_
      rintro e w1 ⟨v1, rfl, ho1, hb1⟩
      have HO1 := Lib.hid ho1
      have HB1 := Lib.hid hb1
      clear ho1 hb1
      go_wp2_with fail
      go_loopw [6, 27] (fun v i wr => ∃ k : Nat, k ≤ ls.length ∧ i = .int .i64 k ∧ OwnCs wr w.heap.size v (ls.take k).flatten ∧ Below w.heap.size w wr) (fun _ i _ => ls.length - (intOf i).toNat)
      case atStart => exact ⟨0, by omega, rfl, HO1.out, HB1.out⟩
      case round =>
        obtain ⟨k, hk, rfl, hown, hbl⟩ := hrel
        by_cases hlt : k < ls.length
        · obtain ⟨ad, rfl, h1⟩ := HA.out k hlt
          have h1 := cell_kept hbl h1
          have HCK := Lib.hid ((HC.out k hlt).kept hbl)
          have HT := Lib.hid (take_succ_ls hlt)
          have HLN : Hid ((ls.take k).flatten.length + (ls.getD k []).length ≤ 1000000) := Lib.hid (by
            have := HLE.out (k + 1); unfold lensTo at this; rw [take_succ_ls hlt, List.length_append] at this; omega)
          generalize xs.getD k undef = y at h1 HCK
          generalize ls.getD k [] = r at HCK HT HLN
          have HOW := Lib.hid hown
          clear hown
          go_wp2_with (at_builtin; refine wp_append_cs rfl rfl w.heap.size _ _ (ls.take k).flatten r rfl HOW.out rfl HCK.out (by have := HLN.out; omega) hbl.size ?_; intro v2 w2 ho2 hg2 hat2)
          have hbl2 : Below w.heap.size w w2 := below_cs hbl hg2 hbl.size HOW.out
          have HO2 := Lib.hid ho2
          clear ho2
          go_roundw
          case rel => exact ⟨k + 1, by omega, by go_num, by rw [HT.out]; exact HO2.out, hbl2⟩
          case measure => simp [intOf]; omega
        · have hkn : k = ls.length := by omega
          subst hkn
          have HE : Hid (ls.take ls.length = ls) := Lib.hid (List.take_of_length_le (Nat.le_refl _))
          go_wp2_with fail
          go_ret
          rw [HE.out] at hown
          exact ⟨_, rfl, hown, hbl⟩
end Row
end Go.Proofs.Ythkfcfmnccfbnaa
