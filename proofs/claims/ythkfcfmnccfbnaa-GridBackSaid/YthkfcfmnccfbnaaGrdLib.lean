/- The library's Grow, Concat and Repeat at lines of a grid; its Concat at rows. -/
import Derived.Test.YthkfcfmnccfbnaaGrdLine
import Derived.Test.YthkfcfmnccfbnaaRowRep
import Derived.Test.YthkfcfmnccfbnaaRowLib2
import Derived.Deep.RegionLaw
namespace Go.Proofs.Ythkfcfmnccfbnaa
set_option maxRecDepth 100000
open Go.RowKit
namespace Row

theorem run_growL {w : World} {n : Nat} {ty : TypeId} (h0 : 0 < n) (hn : n ≤ 1000000) :
    ∃ cap w', (Builtin.append_ #[50, 3] ty #[.slice none 0 0, .int .i64 n]).run Try.prog w = .ok (.slice (some ⟨w.heap.size, 0, none⟩) n cap) w' ∧ n ≤ cap ∧ OwnL w' w.heap.size (.slice (some ⟨w.heap.size, 0, none⟩) 0 cap) [] ∧ Below w.heap.size w w' := by
  obtain ⟨i, hi, hz, h1, h16⟩ := line_row
  have hr := Lib.run_append_nil_zeros (P := Try.prog) w 50 3 ty 54 i _ .i64 .i64 Try.underlying50 Try.underlying3 hi hz n h0 (by rw [h1]; decide) (by omega) (by rw [h16]; omega)
  refine ⟨_, _, hr, ?_, ?_, ?_⟩
  · have := grownCap_ge w n 0 54; omega
  · have hge := grownCap_ge w n 0 54
    have hle := grownCap_le_maxLen w n 0 54 (by simp only [maxLen]; omega)
    generalize grownCap w n 0 54 = cap at hge hle
    refine ⟨rfl, .inr ⟨w.heap.size, cap, _, rfl, Nat.le_refl _, heap_alloc_new w.drew _, Nat.zero_le _, hle, ?_, rfl⟩⟩
    simp only [Array.size_append, size_zeroCells]
    show n * 1 + (cap - n) * 1 = cap * 1
    omega
  · exact ((Below.refl _ _).drew).alloc (Nat.le_refl _) _
set_option maxHeartbeats 800000 in
theorem growL_any (n : Nat) (hn : n ≤ 1000000) (w : World) :
    Calls Try.prog 29 #[.slice none 0 0, .int .i64 n] w fun e w' => ∃ v, e = .returned v ∧ OwnL w' w.heap.size v [] ∧ Below w.heap.size w w' := by
  by_cases h0 : 0 < n
  · obtain ⟨cap, w1, hr, hcap, ho, hb⟩ := run_growL (w := w) (ty := 50) h0 hn
    have HO := Lib.hid ho
    have HB := Lib.hid hb
    clear ho hb
    go_enter Try.func29, Try.ntmps29
    go_wp2_with (at_builtin; refine Lib.wpList_append_run _ rfl _ _ _ _ rfl _ _ rfl rfl _ _ hr ?_)
    go_ret
    exact ⟨_, rfl, HO.out, HB.out⟩
  · have h0 : n = 0 := by omega
    subst h0
    go_enter Try.func29, Try.ntmps29
    go_wp2_with fail
    go_ret
    exact ⟨_, rfl, OwnL.nil _ _, Below.refl _ _⟩

def lensToL (ls : List (List Ln)) (k : Nat) : Nat := (ls.take k).flatten.length
theorem take_succ_lsL {ls : List (List Ln)} {k : Nat} (h : k < ls.length) : (ls.take (k + 1)).flatten = (ls.take k).flatten ++ ls.getD k [] := by
  rw [List.take_succ_eq_append_getElem h, List.flatten_append]; simp [List.getD, h]
theorem lensToL_le (ls : List (List Ln)) (k : Nat) : lensToL ls k ≤ ls.flatten.length := by
  unfold lensToL
  have h : ls.flatten = (ls.take k).flatten ++ (ls.drop k).flatten := by rw [← List.flatten_append, List.take_append_drop]
  rw [h, List.length_append]; omega
set_option maxHeartbeats 1600000 in
theorem concatL_any (ls : List (List Ln)) (xs : List Value) (x : Value) (w : World) (hxl : xs.length = ls.length) (hx : Src w x xs.length xs) (hc : ∀ k, k < ls.length → Sv w (xs.getD k undef) (ls.getD k [])) (hb : ls.flatten.length ≤ 1000000) (hl : ls.length ≤ 1000) :
    Calls Try.prog 18 #[x] w fun e w' => ∃ v, e = .returned v ∧ OwnL w' w.heap.size v ls.flatten ∧ Below w.heap.size w w' := by
  obtain ⟨A, c, rfl, ha⟩ := hx.form
  rw [hxl] at ha ⊢
  have HA : Hid (∀ k, k < ls.length → ∃ ad, A = some ad ∧ w.cell? (ad.add k) = some (xs.getD k undef)) := Lib.hid fun k hk => by
    obtain ⟨ad, h1, h2⟩ := ha k hk
    exact ⟨ad, h1, by rw [h2]; simp [List.getD, hxl, hk]⟩
  have HC := Lib.hid hc
  have HLE := Lib.hid (lensToL_le ls)
  have HB := Lib.hid hb
  clear ha hx hc hb
  go_enter Try.func18, Try.ntmps18
  go_wp2_with fail
  go_loopw [3, 11] (fun s i wr => ∃ k : Nat, k ≤ ls.length ∧ i = .int .i64 k ∧ s = .int .i64 (lensToL ls k) ∧ w = wr) (fun _ i _ => ls.length - (intOf i).toNat)
  case atStart => exact ⟨0, by omega, rfl, rfl, rfl⟩
  case round =>
    obtain ⟨k, hk, rfl, rfl, rfl⟩ := hrel
    by_cases hlt : k < ls.length
    · obtain ⟨ad, rfl, h1⟩ := HA.out k hlt
      obtain ⟨A2, c2, e2, _⟩ := (HC.out k hlt).2
      rw [e2] at h1
      have HT : Hid (lensToL ls (k + 1) = lensToL ls k + (ls.getD k []).length) := Lib.hid (by unfold lensToL; rw [take_succ_lsL hlt, List.length_append])
      have hle := HLE.out (k + 1)
      have hbb := HB.out
      rw [HT.out] at hle
      generalize (ls.getD k []).length = m at h1 HT hle
      generalize lensToL ls k = s at HT hle
      clear e2
      go_wp2_with fail
      go_roundw
      case rel => exact ⟨k + 1, by omega, by go_num, by rw [HT.out]; go_num, by first | rfl | trivial⟩
      case measure => simp [intOf]; omega
    · have hkn : k = ls.length := by omega
      subst hkn
      have hle := HLE.out ls.length
      have hbb := HB.out
      generalize lensToL ls ls.length = s at hle
      go_wp2_with fail
      refine (growL_any s (by omega) _).mono ?_
      rintro e w1 ⟨v1, rfl, ho1, hb1⟩
      have HO1 := Lib.hid ho1
      have HB1 := Lib.hid hb1
      clear ho1 hb1
      go_wp2_with fail
      go_loopw [6, 27] (fun v i wr => ∃ k : Nat, k ≤ ls.length ∧ i = .int .i64 k ∧ OwnL wr w.heap.size v (ls.take k).flatten ∧ Below w.heap.size w wr) (fun _ i _ => ls.length - (intOf i).toNat)
      case atStart => exact ⟨0, by omega, rfl, HO1.out, HB1.out⟩
      case round =>
        obtain ⟨k, hk, rfl, hown, hbl⟩ := hrel
        by_cases hlt : k < ls.length
        · obtain ⟨ad, rfl, h1⟩ := HA.out k hlt
          have h1 := cell_kept hbl h1
          have HCK := Lib.hid ((HC.out k hlt).kept hbl)
          have HT := Lib.hid (take_succ_lsL hlt)
          have HLN : Hid ((ls.take k).flatten.length + (ls.getD k []).length ≤ 1000000) := Lib.hid (by
            have := HLE.out (k + 1); unfold lensToL at this; rw [take_succ_lsL hlt, List.length_append] at this; omega)
          generalize xs.getD k undef = y at h1 HCK
          generalize ls.getD k [] = r at HCK HT HLN
          have HOW := Lib.hid hown
          clear hown
          go_wp2_with (at_builtin; refine wp_append_ln rfl rfl w.heap.size _ _ (ls.take k).flatten r rfl HOW.out rfl HCK.out (by have := HLN.out; omega) hbl.size ?_; intro v2 w2 ho2 hg2 hat2)
          have hbl2 : Below w.heap.size w w2 := below_ln hbl hg2 hbl.size HOW.out
          have HO2 := Lib.hid ho2
          clear ho2
          go_roundw
          case rel => exact ⟨k + 1, by omega, by go_num, by rw [HT.out]; exact HO2.out, hbl2⟩
          case measure => simp [intOf]; omega
        · have hkn : k = ls.length := by omega
          subst hkn
          have HE : Hid (ls.take ls.length = ls) := Lib.hid (List.take_of_length_le (Nat.le_refl _))
          go_wp2_with fail
          go_ret
          rw [HE.out] at hown
          exact ⟨_, rfl, hown, hbl⟩

/-- append of cells where the slice's type is a kept line's. -/
theorem run_append_ck {w : World} {base : Nat} {ty : TypeId} {v x : Value} {l r : List Cl} (hown : OwnCs w base v l) (hx : Cs w x r) (hl : l.length + r.length ≤ 1000000000) (hbase : base ≤ w.heap.size) :
    ∃ v' w', (Builtin.append_ #[57, 57] ty #[v, x]).run Try.prog w = .ok v' w' ∧ OwnCs w' base v' (l ++ r) ∧ w.grownBy w' v.ownBlock ∧ (v'.ownBlock = v.ownBlock ∨ v'.ownBlock = some w.heap.size) := by
  obtain ⟨i, hi, hz, h6, h56⟩ := cell_row
  rcases hx.2.2 with ⟨rfl, h0⟩ | ⟨ad, c, rfl, _⟩
  · have hr : r = [] := List.eq_nil_of_length_eq_zero h0
    subst hr
    exact ⟨v, w, run_append_owned_none (P := Try.prog) (w := w) base _ ty 39 i 6 Try.underlying57 hi v l.length _ hown, by rw [List.append_nil]; exact hown, World.grownBy.refl w _, .inl rfl⟩
  · obtain ⟨v', w', hr, h2, h3, _, h5⟩ := run_append_own_at (P := Try.prog) w base 57 ty 39 i _ 6 56 Try.underlying57 hi hz h6 h56 rfl (by decide) v l.length _ hown ad r.length c (flat r) (flat_length r) hx.flat.2 (flat_cells r) (by simp only [maxLen]; omega) (by omega) hbase
    exact ⟨v', w', hr, by unfold OwnCs; rw [List.length_append, flat_append]; exact h2, h3, h5⟩
theorem wp_append_ck {w : World} {ops : Array Oper} {rest : List Oper} {o : Oper} {a : Act} {Q : Exit → Act → World → Prop} {s x : Operand} (hgd : o.guard = none)
    (ho : o.op = .call { callee := .builtin .append, args := #[s, x], argTypes := #[57, 57] }) (base : Nat) (v y : Value) (l r : List Cl) (hs : a.eval s = v) (hown : OwnCs w base v l)
    (hy : a.eval x = y) (hx : Cs w y r) (hl : l.length + r.length ≤ 1000000000) (hbase : base ≤ w.heap.size)
    (h : ∀ v' w', OwnCs w' base v' (l ++ r) → w.grownBy w' v.ownBlock → (v'.ownBlock = v.ownBlock ∨ v'.ownBlock = some w.heap.size) → wpList Try.prog ops Q rest (a.put o.dst v') w') :
    wpList Try.prog ops Q (o :: rest) a w := by
  refine wpList_plain hgd fun K hK => ?_
  obtain ⟨v', w', hr, h2, h3, h4⟩ := run_append_ck (ty := o.type) hown hx hl hbase
  unfold Oper.wp execOp
  simp only [ho, resolve, invoke, builtin, Sem.run_bind, Sem.run_pure, Result.andThen_ok, List.map_toArray, List.map_cons, List.map_nil, hs, hy, hr]
  exact hK _ _ (h v' w' h2 h3 h4)
theorem run_growK {w : World} {n : Nat} {ty : TypeId} (h0 : 0 < n) (hn : n ≤ 1000000) :
    ∃ cap w', (Builtin.append_ #[57, 3] ty #[.slice none 0 0, .int .i64 n]).run Try.prog w = .ok (.slice (some ⟨w.heap.size, 0, none⟩) n cap) w' ∧ n ≤ cap ∧ OwnCs w' w.heap.size (.slice (some ⟨w.heap.size, 0, none⟩) 0 cap) [] ∧ Below w.heap.size w w' := by
  obtain ⟨i, hi, hz, h6, h56⟩ := cell_row
  have hr := Lib.run_append_nil_zeros (P := Try.prog) w 57 3 ty 39 i _ .i64 .i64 Try.underlying57 Try.underlying3 hi hz n h0 (by rw [h6]; decide) (by omega) (by rw [h56]; omega)
  refine ⟨_, _, hr, ?_, ?_, ?_⟩
  · have := grownCap_ge w n 0 39; omega
  · have hge := grownCap_ge w n 0 39
    have hle := grownCap_le_maxLen w n 0 39 (by simp only [maxLen]; omega)
    generalize grownCap w n 0 39 = cap at hge hle
    refine ⟨rfl, .inr ⟨w.heap.size, cap, _, rfl, Nat.le_refl _, heap_alloc_new w.drew _, Nat.zero_le _, hle, ?_, rfl⟩⟩
    simp only [Array.size_append, size_zeroCells]
    show n * 6 + (cap - n) * 6 = cap * 6
    omega
  · exact ((Below.refl _ _).drew).alloc (Nat.le_refl _) _
set_option maxHeartbeats 800000 in
theorem growK_any (n : Nat) (hn : n ≤ 1000000) (w : World) :
    Calls Try.prog 40 #[.slice none 0 0, .int .i64 n] w fun e w' => ∃ v, e = .returned v ∧ OwnCs w' w.heap.size v [] ∧ Below w.heap.size w w' := by
  by_cases h0 : 0 < n
  · obtain ⟨cap, w1, hr, hcap, ho, hb⟩ := run_growK (w := w) (ty := 57) h0 hn
    have HO := Lib.hid ho
    have HB := Lib.hid hb
    clear ho hb
    go_enter Try.func40, Try.ntmps40
    go_wp2_with (at_builtin; refine Lib.wpList_append_run _ rfl _ _ _ _ rfl _ _ rfl rfl _ _ hr ?_)
    go_ret
    exact ⟨_, rfl, HO.out, HB.out⟩
  · have h0 : n = 0 := by omega
    subst h0
    go_enter Try.func40, Try.ntmps40
    go_wp2_with fail
    go_ret
    exact ⟨_, rfl, OwnCs.nil _ _, Below.refl _ _⟩
set_option maxHeartbeats 1600000 in
theorem concatK_any (ls : List (List Cl)) (xs : List Value) (x : Value) (w : World) (hxl : xs.length = ls.length) (hx : Src w x xs.length xs) (hc : ∀ k, k < ls.length → Cs w (xs.getD k undef) (ls.getD k [])) (hb : ls.flatten.length ≤ 1000000) (hl : ls.length ≤ 1000) :
    Calls Try.prog 32 #[x] w fun e w' => ∃ v, e = .returned v ∧ OwnCs w' w.heap.size v ls.flatten ∧ Below w.heap.size w w' := by
  obtain ⟨A, c, rfl, ha⟩ := hx.form
  rw [hxl] at ha ⊢
  have HA : Hid (∀ k, k < ls.length → ∃ ad, A = some ad ∧ w.cell? (ad.add k) = some (xs.getD k undef)) := Lib.hid fun k hk => by
    obtain ⟨ad, h1, h2⟩ := ha k hk
    exact ⟨ad, h1, by rw [h2]; simp [List.getD, hxl, hk]⟩
  have HC := Lib.hid hc
  have HLE := Lib.hid (lensTo_le ls)
  have HB := Lib.hid hb
  clear ha hx hc hb
  go_enter Try.func32, Try.ntmps32
  go_wp2_with fail
  go_loopw [3, 11] (fun s i wr => ∃ k : Nat, k ≤ ls.length ∧ i = .int .i64 k ∧ s = .int .i64 (lensTo ls k) ∧ w = wr) (fun _ i _ => ls.length - (intOf i).toNat)
  case atStart => exact ⟨0, by omega, rfl, rfl, rfl⟩
  case round =>
    obtain ⟨k, hk, rfl, rfl, rfl⟩ := hrel
    by_cases hlt : k < ls.length
    · obtain ⟨ad, rfl, h1⟩ := HA.out k hlt
      obtain ⟨A2, c2, e2, _⟩ := (HC.out k hlt).form
      rw [e2] at h1
      have HT : Hid (lensTo ls (k + 1) = lensTo ls k + (ls.getD k []).length) := Lib.hid (by unfold lensTo; rw [take_succ_ls hlt, List.length_append])
      have hle := HLE.out (k + 1)
      have hbb := HB.out
      rw [HT.out] at hle
      generalize (ls.getD k []).length = m at h1 HT hle
      generalize lensTo ls k = s at HT hle
      clear e2
      go_wp2_with fail
      go_roundw
      case rel => exact ⟨k + 1, by omega, by go_num, by rw [HT.out]; go_num, by first | rfl | trivial⟩
      case measure => simp [intOf]; omega
    · have hkn : k = ls.length := by omega
      subst hkn
      have hle := HLE.out ls.length
      have hbb := HB.out
      generalize lensTo ls ls.length = s at hle
      go_wp2_with fail
      refine (growK_any s (by omega) _).mono ?_
      rintro e w1 ⟨v1, rfl, ho1, hb1⟩
      have HO1 := Lib.hid ho1
      have HB1 := Lib.hid hb1
      clear ho1 hb1
      go_wp2_with fail
      go_loopw [6, 27] (fun v i wr => ∃ k : Nat, k ≤ ls.length ∧ i = .int .i64 k ∧ OwnCs wr w.heap.size v (ls.take k).flatten ∧ Below w.heap.size w wr) (fun _ i _ => ls.length - (intOf i).toNat)
      case atStart => exact ⟨0, by omega, rfl, HO1.out, HB1.out⟩
      case round =>
        obtain ⟨k, hk, rfl, hown, hbl⟩ := hrel
        by_cases hlt : k < ls.length
        · obtain ⟨ad, rfl, h1⟩ := HA.out k hlt
          have h1 := cell_kept hbl h1
          have HCK := Lib.hid ((HC.out k hlt).kept hbl)
          have HT := Lib.hid (take_succ_ls hlt)
          have HLN : Hid ((ls.take k).flatten.length + (ls.getD k []).length ≤ 1000000) := Lib.hid (by
            have := HLE.out (k + 1); unfold lensTo at this; rw [take_succ_ls hlt, List.length_append] at this; omega)
          generalize xs.getD k undef = y at h1 HCK
          generalize ls.getD k [] = r at HCK HT HLN
          have HOW := Lib.hid hown
          clear hown
          go_wp2_with (at_builtin; refine wp_append_ck rfl rfl w.heap.size _ _ (ls.take k).flatten r rfl HOW.out rfl HCK.out (by have := HLN.out; omega) hbl.size ?_; intro v2 w2 ho2 hg2 hat2)
          have hbl2 : Below w.heap.size w w2 := below_cs hbl hg2 hbl.size HOW.out
          have HO2 := Lib.hid ho2
          clear ho2
          go_roundw
          case rel => exact ⟨k + 1, by omega, by go_num, by rw [HT.out]; exact HO2.out, hbl2⟩
          case measure => simp [intOf]; omega
        · have hkn : k = ls.length := by omega
          subst hkn
          have HE : Hid (ls.take ls.length = ls) := Lib.hid (List.take_of_length_le (Nat.le_refl _))
          go_wp2_with fail
          go_ret
          rw [HE.out] at hown
          exact ⟨_, rfl, hown, hbl⟩
end Row
end Go.Proofs.Ythkfcfmnccfbnaa
