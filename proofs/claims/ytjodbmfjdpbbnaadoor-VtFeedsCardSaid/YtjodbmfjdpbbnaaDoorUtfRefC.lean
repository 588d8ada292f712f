/- Contract of the reference's Next. -/
import Derived.Test.YtjodbmfjdpbbnaaDoorUtfRefB
namespace Go.Proofs.YtjodbmfjdpbbnaaDoor
open Go.RowKit
namespace Utf

/-- What a call answers that makes runes and a part: new memory. -/
def Gives (w : World) (x : List Int × List UInt8) (e : Ending) (w' : World) : Prop :=
  ∃ v, e = .returned (.tuple #[v, .string ⟨x.2.toArray⟩]) ∧ w'.ownsRow w.heap.size 3 1 v x.1.length (ints x.1) ∧ Below w.heap.size w w'
theorem Gives.mk_ {w w' : World} {x : List Int × List UInt8} {v : Value} {xs : List Int} {q : List UInt8} (hx : x = (xs, q)) (ho : w'.ownsRow w.heap.size 3 1 v xs.length (ints xs)) (hb : Below w.heap.size w w') :
    Gives w x (.returned (.tuple #[v, .string ⟨q.toArray⟩])) w' := by
  subst hx; exact ⟨v, rfl, ho, hb⟩
set_option maxRecDepth 100000 in
set_option maxHeartbeats 400000 in
theorem next_empty (b : UInt8) (w : World) : Calls Tryd.prog 63 #[.string ⟨#[]⟩, .int .u8 b.toNat] w (Gives w (start b)) := by
  have hb := byte_lt b
  by_cases h0 : b.toNat < 128
  · have HS : Hid (start b = ([(b.toNat : Int)], [])) := Lib.hid (by unfold start; rw [if_pos h0])
    go_enter Tryd.func63, Tryd.ntmps63
    go_wp2_with fail
    go_ret2
    exact Gives.mk_ HS.out (owns_one w.heap.size w _ _ (Nat.le_refl _)) ((Below.refl _ _).alloc (Nat.le_refl _) _)
  · by_cases h1 : 0 < more b.toNat
    · have HS : Hid (start b = ([], [b])) := Lib.hid (by unfold start; rw [if_neg h0, if_pos h1])
      have hz : decide (0 < moreZ b.toNat) = true := by unfold moreZ; rw [if_neg (by omega)]; simp; omega
      have hcv := fun (W : World) (hc : W.cell? ⟨w.heap.size, 0, none⟩ = some (.int .u8 b.toNat)) => run_convert_byte1 (P := Tryd.prog) W 46 9 5 ⟨w.heap.size, 0, none⟩ 1 b Tryd.underlying46 Tryd.underlying5 Tryd.underlying9 hc
      go_enter Tryd.func63, Tryd.ntmps63
      go_wp2_with fail
      refine (more_any _ _ hb).mono ?_; rintro e w' ⟨rfl, rfl⟩
      go_wp2_with fail
      go_region
      go_wp2_with fail
      go_ret2
      exact Gives.mk_ HS.out (World.ownsRow_nil _ _ _ _) ((Below.refl _ _).alloc (Nat.le_refl _) _).drew
    · have HS : Hid (start b = ([65533], [])) := Lib.hid (by unfold start; rw [if_neg h0, if_neg h1])
      have hz : decide (0 < moreZ b.toNat) = false := by unfold moreZ; rw [if_pos (by omega)]; rfl
      go_enter Tryd.func63, Tryd.ntmps63
      go_wp2_with fail
      refine (more_any _ _ hb).mono ?_; rintro e w' ⟨rfl, rfl⟩
      go_wp2_with fail
      go_ret2
      exact Gives.mk_ HS.out (owns_one w.heap.size w _ _ (Nat.le_refl _)) ((Below.refl _ _).alloc (Nat.le_refl _) _)

theorem str_list (s : ByteArray) {l : List UInt8} (h : s.data.toList = l) : s = ⟨l.toArray⟩ := by subst h; cases s; simp
theorem str_snoc (l : List UInt8) (b : UInt8) : (⟨l.toArray⟩ ++ ⟨#[b]⟩ : ByteArray) = ⟨(l ++ [b]).toArray⟩ := by
  apply ByteArray.ext; simp

set_option maxRecDepth 100000 in
set_option maxHeartbeats 800000 in
theorem next_broken (f : UInt8) (r : List UInt8) (b : UInt8) (w : World) (hp : isPart (f :: r) = true) (hf : follows f.toNat (r.length + 1) b.toNat = false) :
    Calls Tryd.prog 63 #[.string ⟨(f :: r).toArray⟩, .int .u8 b.toNat] w (Gives w (next (f :: r) b)) := by
  have hb := byte_lt b
  have hl := (part_len hp).2
  have HN : Hid (next (f :: r) b = (65533 :: (start b).1, (start b).2)) := Lib.hid (by rw [next_cons, hf]; rfl)
  have hl1 : (start b).1.length ≤ 1 := by unfold start; repeat' split
                                          all_goals simp
  clear hp
  go_enter Tryd.func63, Tryd.ntmps63
  go_wp2_with fail
  refine (follows_at f.toNat (r.length + 1) b.toNat _ rfl (by omega) rfl hb).mono ?_; rintro e w' ⟨rfl, rfl⟩
  go_wp2_with fail
  refine (next_empty b _).mono ?_; rintro e w' ⟨v, rfl, ho, hbl⟩
  go_wp2_with (at_builtin; refine wp_append_ints rfl rfl w.heap.size _ 1 [65533] rfl (owns_one _ w' _ _ hbl.size) _ _ (start b).1 rfl (Src.own (ho.alloc _)) (by omega) (by simp; have := hbl.size; omega) ?_; intro v1 w1 ho1 hg1 hat1)
  go_ret2
  exact Gives.mk_ HN.out (by rw [Nat.add_comm] at ho1; exact ho1) (below_own (hbl.alloc hbl.size _) hg1 (by simp; have := hbl.size; omega) (owns_one _ w' _ _ hbl.size))

set_option maxRecDepth 100000 in
set_option maxHeartbeats 800000 in
theorem next_more (f : UInt8) (r : List UInt8) (b : UInt8) (w : World) (hp : isPart (f :: r) = true) (hf : follows f.toNat (r.length + 1) b.toNat = true) (hm : r.length + 1 < more f.toNat) :
    Calls Tryd.prog 63 #[.string ⟨(f :: r).toArray⟩, .int .u8 b.toNat] w (Gives w (next (f :: r) b)) := by
  have hb := byte_lt b
  have hl := (part_len hp).2
  have HN : Hid (next (f :: r) b = ([], f :: r ++ [b])) := Lib.hid (by rw [next_cons, hf, if_pos rfl, if_pos hm])
  have hz : decide ((r.length : Int) + 1 < moreZ f.toNat) = true := by unfold moreZ; rw [if_neg (by omega)]; simp; omega
  have hcv := fun (W : World) (hc : W.cell? ⟨w.heap.size, 0, none⟩ = some (.int .u8 b.toNat)) => run_convert_byte1 (P := Tryd.prog) W 46 9 5 ⟨w.heap.size, 0, none⟩ 1 b Tryd.underlying46 Tryd.underlying5 Tryd.underlying9 hc
  have hcat : ¬ 9223372036854775807 < r.length + 1 + 1 := by simp at hl; omega
  clear hp
  go_enter Tryd.func63, Tryd.ntmps63
  go_wp2_with fail
  refine (follows_at f.toNat (r.length + 1) b.toNat _ rfl (by omega) rfl hb).mono ?_; rintro e w' ⟨rfl, rfl⟩
  go_wp2_with fail
  refine (more_at f.toNat _ rfl (byte_lt _)).mono ?_; rintro e w' ⟨rfl, rfl⟩
  go_wp2_with fail
  go_region
  go_wp2_with fail
  go_ret2
  rw [str_snoc]
  exact Gives.mk_ HN.out (World.ownsRow_nil _ _ _ _) ((Below.refl _ _).alloc (Nat.le_refl _) _).drew

set_option maxRecDepth 100000 in
set_option maxHeartbeats 1600000 in
theorem next_val1 (f : UInt8) (b : UInt8) (w : World) (hf : follows f.toNat 1 b.toNat = true) (hm : more f.toNat = 1) :
    Calls Tryd.prog 63 #[.string ⟨#[f]⟩, .int .u8 b.toNat] w (Gives w (next [f] b)) := by
  have hb := byte_lt b
  have hbf := byte_lt f
  have ef : ∀ q, (⟨#[f]⟩ : ByteArray)[0]'q = f := fun _ => rfl
  have HN : Hid (next [f] b = ([(value [f] b : Int)], [])) := Lib.hid (by rw [next_cons]; simp [hf, hm])
  have hz : decide (1 < moreZ f.toNat) = false := by unfold moreZ; rw [if_neg (by omega)]; simp; omega
  have a0 : bits .and .i64 (f.toNat : Int) 31 = (f.toNat : Int) % 32 := i64_and31 _ (by omega) (by omega)
  have ab : bits .and .i64 (b.toNat : Int) 63 = (b.toNat : Int) % 64 := i64_and63 _ (by omega) (by omega)
  have ob : bits .or .i64 (((f.toNat : Int) % 32) * 64) ((b.toNat : Int) % 64) = ((f.toNat : Int) % 32) * 64 + (b.toNat : Int) % 64 := i64_or6 _ _ (by omega) (by omega) (by omega) (by omega) (by omega)
  go_enter Tryd.func63, Tryd.ntmps63
  go_wp2_with fail
  refine (follows_at f.toNat 1 b.toNat _ rfl rfl rfl hb).mono ?_; rintro e w' ⟨rfl, rfl⟩
  go_wp2_with fail
  refine (more_at f.toNat _ rfl (byte_lt _)).mono ?_; rintro e w' ⟨rfl, rfl⟩
  go_wp2_with fail
  go_region
  go_wp2_with fail
  go_rounds 1
  go_wp2_with fail
  go_ret2
  exact Gives.mk_ (xs := [((f.toNat : Int) % 32) * 64 + (b.toNat : Int) % 64]) (by rw [HN.out]; simp [value]) (owns_one w.heap.size w.drew _ _ (Nat.le_refl _)) ((Below.refl _ _).drew.alloc (Nat.le_refl _) _)

set_option maxRecDepth 100000 in
set_option maxHeartbeats 1600000 in
theorem next_val2 (f g : UInt8) (b : UInt8) (w : World) (hf : follows f.toNat 2 b.toNat = true) (hm : more f.toNat = 2) :
    Calls Tryd.prog 63 #[.string ⟨#[f, g]⟩, .int .u8 b.toNat] w (Gives w (next [f, g] b)) := by
  have hb := byte_lt b
  have hbf := byte_lt f
  have ef : ∀ q, (⟨#[f, g]⟩ : ByteArray)[0]'q = f := fun _ => rfl
  have hbg := byte_lt g
  have eg : ∀ q, (⟨#[f, g]⟩ : ByteArray)[1]'q = g := fun _ => rfl
  have HN : Hid (next [f, g] b = ([(value [f, g] b : Int)], [])) := Lib.hid (by rw [next_cons]; simp [hf, hm])
  have hz : decide (2 < moreZ f.toNat) = false := by unfold moreZ; rw [if_neg (by omega)]; simp; omega
  have a0 : bits .and .i64 (f.toNat : Int) 15 = (f.toNat : Int) % 16 := i64_and15 _ (by omega) (by omega)
  have ag : bits .and .i64 (g.toNat : Int) 63 = (g.toNat : Int) % 64 := i64_and63 _ (by omega) (by omega)
  have og : bits .or .i64 (((f.toNat : Int) % 16) * 64) ((g.toNat : Int) % 64) = ((f.toNat : Int) % 16) * 64 + (g.toNat : Int) % 64 := i64_or6 _ _ (by omega) (by omega) (by omega) (by omega) (by omega)
  have ab : bits .and .i64 (b.toNat : Int) 63 = (b.toNat : Int) % 64 := i64_and63 _ (by omega) (by omega)
  have ob : bits .or .i64 ((((f.toNat : Int) % 16) * 64 + (g.toNat : Int) % 64) * 64) ((b.toNat : Int) % 64) = (((f.toNat : Int) % 16) * 64 + (g.toNat : Int) % 64) * 64 + (b.toNat : Int) % 64 := i64_or6 _ _ (by omega) (by omega) (by omega) (by omega) (by omega)
  go_enter Tryd.func63, Tryd.ntmps63
  go_wp2_with fail
  refine (follows_at f.toNat 2 b.toNat _ rfl rfl rfl hb).mono ?_; rintro e w' ⟨rfl, rfl⟩
  go_wp2_with fail
  refine (more_at f.toNat _ rfl (byte_lt _)).mono ?_; rintro e w' ⟨rfl, rfl⟩
  go_wp2_with fail
  go_region
  go_wp2_with fail
  go_rounds 2
  go_wp2_with fail
  go_ret2
  exact Gives.mk_ (xs := [(((f.toNat : Int) % 16) * 64 + (g.toNat : Int) % 64) * 64 + (b.toNat : Int) % 64]) (by rw [HN.out]; simp [value]) (owns_one w.heap.size w.drew _ _ (Nat.le_refl _)) ((Below.refl _ _).drew.alloc (Nat.le_refl _) _)

set_option maxRecDepth 100000 in
set_option maxHeartbeats 1600000 in
theorem next_val3 (f g h : UInt8) (b : UInt8) (w : World) (hf : follows f.toNat 3 b.toNat = true) (hm : more f.toNat = 3) :
    Calls Tryd.prog 63 #[.string ⟨#[f, g, h]⟩, .int .u8 b.toNat] w (Gives w (next [f, g, h] b)) := by
  have hb := byte_lt b
  have hbf := byte_lt f
  have ef : ∀ q, (⟨#[f, g, h]⟩ : ByteArray)[0]'q = f := fun _ => rfl
  have hbg := byte_lt g
  have eg : ∀ q, (⟨#[f, g, h]⟩ : ByteArray)[1]'q = g := fun _ => rfl
  have hbh := byte_lt h
  have eh : ∀ q, (⟨#[f, g, h]⟩ : ByteArray)[2]'q = h := fun _ => rfl
  have HN : Hid (next [f, g, h] b = ([(value [f, g, h] b : Int)], [])) := Lib.hid (by rw [next_cons]; simp [hf, hm])
  have hz : decide (3 < moreZ f.toNat) = false := by unfold moreZ; rw [if_neg (by omega)]; simp; omega
  have a0 : bits .and .i64 (f.toNat : Int) 7 = (f.toNat : Int) % 8 := i64_and7 _ (by omega) (by omega)
  have ag : bits .and .i64 (g.toNat : Int) 63 = (g.toNat : Int) % 64 := i64_and63 _ (by omega) (by omega)
  have og : bits .or .i64 (((f.toNat : Int) % 8) * 64) ((g.toNat : Int) % 64) = ((f.toNat : Int) % 8) * 64 + (g.toNat : Int) % 64 := i64_or6 _ _ (by omega) (by omega) (by omega) (by omega) (by omega)
  have ah : bits .and .i64 (h.toNat : Int) 63 = (h.toNat : Int) % 64 := i64_and63 _ (by omega) (by omega)
  have oh : bits .or .i64 ((((f.toNat : Int) % 8) * 64 + (g.toNat : Int) % 64) * 64) ((h.toNat : Int) % 64) = (((f.toNat : Int) % 8) * 64 + (g.toNat : Int) % 64) * 64 + (h.toNat : Int) % 64 := i64_or6 _ _ (by omega) (by omega) (by omega) (by omega) (by omega)
  have ab : bits .and .i64 (b.toNat : Int) 63 = (b.toNat : Int) % 64 := i64_and63 _ (by omega) (by omega)
  have ob : bits .or .i64 (((((f.toNat : Int) % 8) * 64 + (g.toNat : Int) % 64) * 64 + (h.toNat : Int) % 64) * 64) ((b.toNat : Int) % 64) = ((((f.toNat : Int) % 8) * 64 + (g.toNat : Int) % 64) * 64 + (h.toNat : Int) % 64) * 64 + (b.toNat : Int) % 64 := i64_or6 _ _ (by omega) (by omega) (by omega) (by omega) (by omega)
  go_enter Tryd.func63, Tryd.ntmps63
  go_wp2_with fail
  refine (follows_at f.toNat 3 b.toNat _ rfl rfl rfl hb).mono ?_; rintro e w' ⟨rfl, rfl⟩
  go_wp2_with fail
  refine (more_at f.toNat _ rfl (byte_lt _)).mono ?_; rintro e w' ⟨rfl, rfl⟩
  go_wp2_with fail
  go_region
  go_wp2_with fail
  go_rounds 3
  go_wp2_with fail
  go_ret2
  exact Gives.mk_ (xs := [((((f.toNat : Int) % 8) * 64 + (g.toNat : Int) % 64) * 64 + (h.toNat : Int) % 64) * 64 + (b.toNat : Int) % 64]) (by rw [HN.out]; simp [value]) (owns_one w.heap.size w.drew _ _ (Nat.le_refl _)) ((Below.refl _ _).drew.alloc (Nat.le_refl _) _)

/-- What the reference makes of a byte behind what may be. -/
theorem next_any (s : ByteArray) (l : List UInt8) (hs : s.data.toList = l) (b : UInt8) {x : Int} (hx : x = b.toNat) (w : World) (hp : fits l = true) : Calls Tryd.prog 63 #[.string s, .int .u8 x] w (Gives w (next l b)) := by
  subst hx
  rw [str_list s hs]
  match l, hp with
  | [], _ => exact next_empty b w
  | f :: r, hp =>
    have hp : isPart (f :: r) = true := by rcases fits_cases hp with e | e; cases e; exact e
    cases hf : follows f.toNat (r.length + 1) b.toNat
    · exact next_broken f r b w hp hf
    · by_cases hm : r.length + 1 < more f.toNat
      · exact next_more f r b w hp hf hm
      · have hm : more f.toNat = r.length + 1 := by have := part_more hp; omega
        match r, hp, hf, hm with
        | [], _, hf, hm => exact next_val1 f b w hf hm
        | [g], _, hf, hm => exact next_val2 f g b w hf hm
        | [g, h], _, hf, hm => exact next_val3 f g h b w hf hm
        | _ :: _ :: _ :: _, hp, _, _ => simp [isPart] at hp
end Utf
end Go.Proofs.YtjodbmfjdpbbnaaDoor
