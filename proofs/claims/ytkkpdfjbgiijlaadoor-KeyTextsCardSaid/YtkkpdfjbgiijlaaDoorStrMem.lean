/- Slices of texts of the call's own: appended, copied. -/
import Derived.Test.YtkkpdfjbgiijlaaDoorTexts
import Derived.Test.YtkkpdfjbgiijlaaDoorBlk
import Derived.Test.YtkkpdfjbgiijlaaDoorRecs
namespace Go.Proofs.YtkkpdfjbgiijlaaDoor
set_option maxRecDepth 100000
open Go.RowKit
namespace Str

def svals (l : List ByteArray) : List Value := l.map Value.string
theorem svals_length (l : List ByteArray) : (svals l).length = l.length := List.length_map _
theorem svals_append (a b : List ByteArray) : svals (a ++ b) = svals a ++ svals b := List.map_append
theorem svals_cells (l : List ByteArray) : ∀ u ∈ svals l, u.oneCell' = true := by
  intro u hu
  obtain ⟨_, _, rfl⟩ := List.mem_map.1 hu
  rfl
def OwnS (w : World) (base : Nat) (v : Value) (l : List ByteArray) : Prop := w.ownsRow base 9 1 v l.length (svals l)
theorem OwnS.nil (w : World) (base : Nat) : OwnS w base (.slice none 0 0) [] := World.ownsRow_nil _ _ _ _
theorem OwnS.kept {w w' : World} {base : Nat} {v : Value} {l : List ByteArray} (h : OwnS w base v l) (hb : Below w.heap.size w w') : OwnS w' base v l := own_kept h hb
theorem OwnS.low {w : World} {base b2 : Nat} {v : Value} {l : List ByteArray} (h : OwnS w base v l) (hb : b2 ≤ base) : OwnS w b2 v l := Blk.low h hb
theorem OwnS.strs {w : World} {base : Nat} {v : Value} {l : List ByteArray} (h : OwnS w base v l) : Strs w v l := Src.own h
theorem OwnS.shape {w : World} {base : Nat} {v : Value} {l : List ByteArray} (h : OwnS w base v l) : ∃ A c, v = .slice A l.length c := own_shape h
theorem str_info : (Tryd.prog.info? 9).map (fun i => (i.zero, i.size, i.bytes)) = some (some (.string ⟨#[]⟩), 1, 16) := by kernel_rfl
theorem str_row : ∃ i : TypeInfo, Tryd.prog.info? 9 = some i ∧ i.zero = some (.string ⟨#[]⟩) ∧ i.size = 1 ∧ i.bytes = 16 := by
  obtain ⟨i, h, h1, h2, h3⟩ := info_parts str_info
  exact ⟨i, h, h1, h2, h3⟩
/-- append of texts to texts of the call's own. -/
theorem wp_append_strs {w : World} {ops : Array Oper} {rest : List Oper} {o : Oper} {a : Act} {Q : Exit → Act → World → Prop} {s x : Operand} (hgd : o.guard = none)
    (ho : o.op = .call { callee := .builtin .append, args := #[s, x], argTypes := #[23, 23] }) (base : Nat) (v : Value) (xs : List ByteArray) (hs : a.eval s = v) (hown : OwnS w base v xs)
    (y : Value) (news : List ByteArray) (hy : a.eval x = y) (hx : Src w y news.length (svals news)) (hb : (xs.length + news.length) * 16 ≤ 140737488355328) (hbase : base ≤ w.heap.size)
    (h : ∀ v' w', OwnS w' base v' (xs ++ news) → w.grownBy w' v.ownBlock → (v'.ownBlock = v.ownBlock ∨ v'.ownBlock = some w.heap.size) → wpList Tryd.prog ops Q rest (a.put o.dst v') w') :
    wpList Tryd.prog ops Q (o :: rest) a w := by
  obtain ⟨i, hi, hz, h1, h8⟩ := str_row
  refine wpList_append_src hgd ho base 9 i _ 16 Tryd.underlying23 hi hz h1 h8 rfl v xs.length (svals xs) hs hown y news.length (svals news) hy hx (svals_cells _) (by simp only [maxLen]; omega) hb hbase fun v' w' h2 h3 h4 => ?_
  exact h v' w' (by unfold OwnS; rw [svals_append, List.length_append]; exact h2) h3 h4
theorem take_succ_s {l : List ByteArray} {k : Nat} (h : k < l.length) : l.take (k + 1) = l.take k ++ [l.getD k ByteArray.empty] := by
  rw [List.take_succ_eq_append_getElem h]; simp [h]
set_option maxHeartbeats 800000 in
theorem copyStrings_any (l : List ByteArray) (x : Value) (w : World) (hx : Strs w x l) (hn : l.length * 16 ≤ 140737488355328) :
    Calls Tryd.prog 18 #[x] w fun e w' => ∃ v, e = .returned v ∧ OwnS w' w.heap.size v l ∧ Below w.heap.size w w' := by
  obtain ⟨A, c, rfl, ha⟩ := hx.at_
  have ha' := Lib.hid ha
  clear ha hx
  go_enter Tryd.func18, Tryd.ntmps18
  go_wp2_with fail
  go_loopw [3, 4] (fun v i wr => ∃ k : Nat, k ≤ l.length ∧ i = .int .i64 k ∧ OwnS wr w.heap.size v (l.take k) ∧ Below w.heap.size w wr) (fun _ i _ => l.length - (intOf i).toNat)
  case atStart => exact ⟨0, by omega, rfl, OwnS.nil _ _, Below.refl _ _⟩
  case round =>
    obtain ⟨k, hk, rfl, hown, hbl⟩ := hrel
    by_cases hlt : k < l.length
    · obtain ⟨ad, rfl, h1⟩ := ha'.out k hlt
      have h1 := cell_kept hbl h1
      have HT := Lib.hid (take_succ_s hlt)
      have hlk : Hid ((l.take k).length = k) := Lib.hid (by rw [List.length_take]; omega)
      have hwk : IntKind.i64.wrap ((k : Int) + 1) = ((k + 1 : Nat) : Int) := by rw [IntKind.wrap_i64]; omega
      have HBY : Hid (((l.take k).length + 1) * 16 ≤ 140737488355328) := Lib.hid (by rw [hlk.out]; omega)
      generalize l.getD k ByteArray.empty = p at h1 HT
      have HOW := Lib.hid hown
      clear hown
      go_wp2_with (at_builtin; refine wp_append_strs rfl rfl w.heap.size _ (l.take k) rfl (HOW.out.kept ((Below.refl _ _).alloc (Nat.le_refl _) _)) _ [p] rfl (Src.one wr _ _ _) HBY.out (by simp; have := hbl.size; omega) ?_; intro v1 w1 ho1 hg1 hat1)
      have HB2 := Lib.hid (below_own (hbl.alloc hbl.size _) hg1 (by simp; have := hbl.size; omega) (HOW.out.kept ((Below.refl _ _).alloc (Nat.le_refl _) _)))
      have HO2 := Lib.hid ho1
      clear ho1
      go_roundw
      case rel => exact ⟨k + 1, by omega, rfl, by rw [HT.out]; exact HO2.out, HB2.out⟩
      case measure => simp [intOf]; omega
    · have hkn : k = l.length := by omega
      subst hkn
      have HE : Hid (l.take l.length = l) := Lib.hid (List.take_of_length_le (Nat.le_refl _))
      go_wp2_with fail
      go_ret
      rw [HE.out] at hown
      exact ⟨_, rfl, hown, hbl⟩
end Str
end Go.Proofs.YtkkpdfjbgiijlaaDoor
