/- Joined texts: UtfPlain, WidPlain, Base, Src, Recs, Blk, Wid, WidRef. -/
import Derived.Lib.TrimUEq
import Derived.Test.YtceaoadlhdgnmaaGreatDoorRows
import Derived.WalkKit
import Derived.Outline
import Derived.BigQuiet
import Derived.Deep.QuietTactic
import Derived.WalkSpells
import Derived.WalkLawsBesides
import Derived.Below
import Derived.OwnWalk
import Derived.Laws.OwnMore
import Derived.Deep.AppendLies
import Derived.Deep.Draws
import Derived.Maps.AppendAt
import Derived.RegionTactic
import Derived.Lib.Hide
import Derived.Handy
import Derived.Laws.BitsLemmas
import Derived.Laws.BytesString
import Derived.Laws.IdiomStrings
import Derived.Deep.Slices
import Derived.Deep.Onto
import Derived.StillTailTactics
import Derived.Deep.RegionHeld3
import Derived.OneCell
namespace Go.Proofs.YtceaoadlhdgnmaaGreatDoor
set_option maxRecDepth 100000
section
namespace Utf
def more (b : Nat) : Nat := if 194 ≤ b ∧ b ≤ 223 then 1 else if 224 ≤ b ∧ b ≤ 239 then 2 else if 240 ≤ b ∧ b ≤ 244 then 3 else 0
def low (f i : Nat) : Nat := if i = 1 then (if f = 224 then 160 else if f = 240 then 144 else 128) else 128
def high (f i : Nat) : Nat := if i = 1 then (if f = 237 then 159 else if f = 244 then 143 else 191) else 191
def follows (f i b : Nat) : Bool := decide (low f i ≤ b ∧ b ≤ high f i)
theorem follows_iff {f i b : Nat} : follows f i b = true ↔ low f i ≤ b ∧ b ≤ high f i := decide_eq_true_iff
def isPart : List UInt8 → Bool
  | [f] => decide (0 < more f.toNat)
  | [f, g] => decide (1 < more f.toNat) && follows f.toNat 1 g.toNat
  | [f, g, h] => decide (2 < more f.toNat) && (follows f.toNat 1 g.toNat && follows f.toNat 2 h.toNat)
  | _ => false
def fits (p : List UInt8) : Bool := p.isEmpty || isPart p
def value : List UInt8 → UInt8 → Nat
  | [f], b => f.toNat % 32 * 64 + b.toNat % 64
  | [f, g], b => (f.toNat % 16 * 64 + g.toNat % 64) * 64 + b.toNat % 64
  | [f, g, h], b => ((f.toNat % 8 * 64 + g.toNat % 64) * 64 + h.toNat % 64) * 64 + b.toNat % 64
  | _, _ => 0
def start (b : UInt8) : List Int × List UInt8 :=
  if b.toNat < 128 then ([(b.toNat : Int)], []) else if 0 < more b.toNat then ([], [b]) else ([65533], [])
def brk (p : List UInt8) : List Int := if p = [] then [] else [65533]
def next (p : List UInt8) (b : UInt8) : List Int × List UInt8 :=
  match p with
  | [] => start b
  | f :: r =>
    if follows f.toNat (r.length + 1) b.toNat then
      (if r.length + 1 < more f.toNat then ([], f :: r ++ [b]) else ([(value (f :: r) b : Int)], []))
    else (65533 :: (start b).1, (start b).2)
def all : List UInt8 → List UInt8 → List Int × List UInt8
  | p, [] => ([], p)
  | p, b :: s => ((next p b).1 ++ (all (next p b).2 s).1, (all (next p b).2 s).2)
theorem byte_lt (b : UInt8) : b.toNat < 256 := b.toNat_lt
theorem more_pos {b : Nat} (h : 0 < more b) : 194 ≤ b ∧ b ≤ 244 := by
  unfold more at h
  repeat' split at h
  all_goals omega
theorem follows_pos {f i b : Nat} (h : follows f i b = true) : 128 ≤ b ∧ b ≤ 191 := by
  unfold follows low high at h
  have h := of_decide_eq_true h
  repeat' split at h
  all_goals omega
theorem all_append : ∀ (p s t : List UInt8), all p (s ++ t) = ((all p s).1 ++ (all (all p s).2 t).1, (all (all p s).2 t).2)
  | _, [], _ => by simp [all]
  | p, b :: s, t => by simp [all, all_append (next p b).2 s t]
def dec (l : List UInt8) : Nat × Nat := Lib.decodeN l.length (l.getD 0 0).toNat (l.getD 1 0).toNat (l.getD 2 0).toNat (l.getD 3 0).toNat
def own : List UInt8 → Bool
  | a :: b :: c :: _ => a == 239 && (b == 191 && c == 189)
  | _ => false
def Rune : List UInt8 → Nat → Prop
  | [b], r => b.toNat < 128 ∧ r = b.toNat
  | [f, g], r => more f.toNat = 1 ∧ follows f.toNat 1 g.toNat = true ∧ r = value [f] g
  | [f, g, k], r => more f.toNat = 2 ∧ follows f.toNat 1 g.toNat = true ∧ follows f.toNat 2 k.toNat = true ∧ r = value [f, g] k
  | [f, g, k, j], r => more f.toNat = 3 ∧ follows f.toNat 1 g.toNat = true ∧ follows f.toNat 2 k.toNat = true ∧ follows f.toNat 3 j.toNat = true ∧ r = value [f, g, k] j
  | _, _ => False
theorem more_1 {f : Nat} (h : 194 ≤ f ∧ f ≤ 223) : more f = 1 := by unfold more; rw [if_pos h]
theorem more_2 {f : Nat} (h : 224 ≤ f ∧ f ≤ 239) : more f = 2 := by unfold more; rw [if_neg (by omega), if_pos h]
theorem more_3 {f : Nat} (h : 240 ≤ f ∧ f ≤ 244) : more f = 3 := by unfold more; rw [if_neg (by omega), if_neg (by omega), if_pos h]
theorem follows_1 {f b : Nat} (h : (if f = 224 then 160 else if f = 240 then 144 else 128) ≤ b ∧ b ≤ (if f = 237 then 159 else if f = 244 then 143 else 191)) : follows f 1 b = true := by
  simp only [follows, low, high, if_true]; exact decide_eq_true h
theorem follows_n {f i b : Nat} (hi : i ≠ 1) (h : 128 ≤ b ∧ b ≤ 191) : follows f i b = true := by
  simp only [follows, low, high, if_neg hi]; exact decide_eq_true h
theorem dec_own {l : List UInt8} (h : own l = true) : dec l = (65533, 3) := by
  match l with
  | [] => simp [own] at h
  | [_] => simp [own] at h
  | [_, _] => simp [own] at h
  | a :: b :: c :: r =>
    simp [own] at h
    obtain ⟨rfl, rfl, rfl⟩ := h
    simp [dec, Lib.decodeN]
set_option maxHeartbeats 1000000 in
theorem decodeN_cases (n a b c d : Nat) (ha : a < 256) (hb : b < 256) (hc : c < 256) (hd : d < 256) :
    Lib.decodeN n a b c d = (65533, 1) ∨ (a < 128 ∧ Lib.decodeN n a b c d = (a, 1)) ∨
    (1 < n ∧ more a = 1 ∧ follows a 1 b = true ∧ Lib.decodeN n a b c d = (a % 32 * 64 + b % 64, 2)) ∨
    (2 < n ∧ more a = 2 ∧ follows a 1 b = true ∧ follows a 2 c = true ∧ Lib.decodeN n a b c d = ((a % 16 * 64 + b % 64) * 64 + c % 64, 3)) ∨
    (3 < n ∧ more a = 3 ∧ follows a 1 b = true ∧ follows a 2 c = true ∧ follows a 3 d = true ∧ Lib.decodeN n a b c d = (((a % 8 * 64 + b % 64) * 64 + c % 64) * 64 + d % 64, 4)) := by
  unfold Lib.decodeN
  split
  · exact .inr (.inl ⟨by assumption, rfl⟩)
  split
  · rename_i _ h
    split
    · rename_i h2
      refine .inr (.inr (.inl ⟨h.2.1, more_1 (by omega), follows_1 ⟨?_, ?_⟩, rfl⟩))
      · repeat' split
        all_goals omega
      · repeat' split
        all_goals omega
    · exact .inl rfl
  split
  · rename_i _ h
    split
    · rename_i h2
      refine .inr (.inr (.inr (.inl ⟨h.2.2.1, more_2 (by omega), follows_1 ⟨?_, ?_⟩, follows_n (by omega) (by omega), ?_⟩)))
      · repeat' split
        all_goals omega
      · repeat' split
        all_goals omega
      · refine Prod.ext ?_ rfl
        show _ = (_ : Nat)
        omega
    · exact .inl rfl
  split
  · rename_i _ h
    split
    · rename_i h2
      refine .inr (.inr (.inr (.inr ⟨h.2.2.2.1, more_3 (by omega), follows_1 ⟨?_, ?_⟩, follows_n (by omega) (by omega), follows_n (by omega) (by omega), ?_⟩)))
      · repeat' split
        all_goals omega
      · repeat' split
        all_goals omega
      · refine Prod.ext ?_ rfl
        show _ = (_ : Nat)
        omega
    · exact .inl rfl
  · exact .inl rfl
theorem dec_rune (l : List UInt8) (h : l ≠ []) : (dec l = (65533, 1) ∧ own l = false) ∨ ((dec l).2 ≤ l.length ∧ 1 ≤ (dec l).2 ∧ Rune (l.take (dec l).2) (dec l).1 ∧ ((dec l).1 = 65533 → own l = true)) := by
  have hown : ∀ {x : List UInt8}, dec x = (65533, 1) → own x = false := fun {x} e => by
    cases ho : own x
    · rfl
    · rw [dec_own ho] at e; cases e
  rcases decodeN_cases l.length (l.getD 0 0).toNat (l.getD 1 0).toNat (l.getD 2 0).toNat (l.getD 3 0).toNat (byte_lt _) (byte_lt _) (byte_lt _) (byte_lt _) with e | ⟨h1, e⟩ | ⟨hn, h1, h2, e⟩ | ⟨hn, h1, h2, h3, e⟩ | ⟨hn, h1, h2, h3, h4, e⟩
  · exact .inl ⟨e, hown e⟩
  · have e' : dec l = _ := e
    match l, h with
    | a :: r, _ =>
      refine .inr ?_
      rw [e']
      refine ⟨by simp, Nat.le_refl _, ⟨h1, rfl⟩, fun e => ?_⟩
      simp at e h1
      omega
  · have e' : dec l = _ := e
    match l, hn with
    | a :: b :: r, _ =>
      refine .inr ?_
      rw [e']
      refine ⟨by simp, by simp, ⟨h1, h2, rfl⟩, fun e => ?_⟩
      simp at e
      omega
  · have e' : dec l = _ := e
    match l, hn with
    | a :: b :: c :: r, _ =>
      refine .inr ?_
      rw [e']
      refine ⟨by simp, by simp, ⟨h1, h2, h3, rfl⟩, fun e => ?_⟩
      simp at e h1 h2 h3
      have q1 := more_pos (b := a.toNat) (by omega)
      have q2 := follows_pos h2
      have q3 := follows_pos h3
      have hx : more a.toNat = 2 → 224 ≤ a.toNat ∧ a.toNat ≤ 239 := by
        intro hh; unfold more at hh; repeat' split at hh
        all_goals omega
      have := hx h1
      have ea : a = 239 := UInt8.toNat_inj.1 (by show _ = 239; omega)
      have eb : b = 191 := UInt8.toNat_inj.1 (by show _ = 191; omega)
      have ec : c = 189 := UInt8.toNat_inj.1 (by show _ = 189; omega)
      subst ea; subst eb; subst ec
      simp [own]
  · have e' : dec l = _ := e
    match l, hn with
    | a :: b :: c :: d :: r, _ =>
      refine .inr ?_
      rw [e']
      refine ⟨by simp, by simp, ⟨h1, h2, h3, h4, rfl⟩, fun e => ?_⟩
      simp at e h1 h2
      unfold follows low high at h2
      have h2 := of_decide_eq_true h2
      have hx : more a.toNat = 3 → 240 ≤ a.toNat ∧ a.toNat ≤ 244 := by
        intro hh; unfold more at hh; repeat' split at hh
        all_goals omega
      have := hx h1
      rw [if_pos rfl, if_pos rfl] at h2
      repeat' split at h2
      all_goals omega
end Utf
end
section
namespace Wid
def within (r lo hi : Int) : Bool := decide (lo ≤ r) && decide (r ≤ hi)
def isNone (r : Int) : Bool := decide (r < 32) || (within r 127 159 || (within r 55296 57343 || decide (1114111 < r)))
def isMark (r : Int) : Bool := within r 768 879 || (within r 6832 6911 || (within r 8203 8207 || (within r 8400 8447 || (within r 65024 65039 || within r 65056 65071))))
def isWide (r : Int) : Bool := within r 4352 4447 || (within r 11904 12350 || (within r 12353 42191 || (within r 44032 55203 || (within r 63744 64255 || (within r 65072 65135 || (within r 65280 65376 || (within r 65504 65510 || (within r 127744 128591 || (within r 129280 129535 || within r 131072 262141)))))))))
def wid (r : Int) : Int := bif isNone r then -1 else bif isMark r then 0 else bif isWide r then 2 else 1
def adds (r : Int) : Int := bif isNone r then 0 else bif isMark r then 0 else bif isWide r then 2 else 1
def pairs (r : Int) : List Int → Bool
  | lo :: hi :: l => within r lo hi || pairs r l
  | _ => false
def sums : Nat → List UInt8 → Int
  | 0, _ => 0
  | n + 1, l => if l = [] then 0 else adds (Utf.dec l).1 + sums n (l.drop (Utf.dec l).2)
def text (l : List UInt8) : Int := sums l.length l
theorem dec_pos {l : List UInt8} (h : l ≠ []) : 1 ≤ (Utf.dec l).2 := by
  rcases Utf.dec_rune l h with ⟨e, _⟩ | ⟨_, h1, _⟩
  · rw [e]; exact Nat.le_refl _
  · exact h1
theorem dec_le {l : List UInt8} (h : l ≠ []) : (Utf.dec l).2 ≤ l.length := by
  rcases Utf.dec_rune l h with ⟨e, _⟩ | ⟨h1, _⟩
  · rw [e]; exact List.length_pos_iff.2 h
  · exact h1
end Wid
end
section
open Go.RowKit
theorem ret_int {k : IntKind} {a b : Int} (h : a = b) : Ending.returned (.int k a) = .returned (.int k b) := by rw [h]
theorem ret_bool {a b : Bool} (h : a = b) : Ending.returned (.bool a) = .returned (.bool b) := by rw [h]
theorem below_drewN {B : Nat} {u w : World} (hb : Below B u w) (q : Nat) : Below B u (w.drewN q) :=
  hb.trans ⟨rfl, rfl, rfl, Nat.le_refl _, fun _ _ => rfl⟩
def ints (l : List Int) : List Value := l.map (Value.int .i64)
theorem ints_length (l : List Int) : (ints l).length = l.length := List.length_map _
def Src (w : World) (x : Value) (m : Nat) (news : List Value) : Prop :=
  news.length = m ∧ ((x = .slice none 0 0 ∧ m = 0) ∨ ∃ ad c, x = .slice (some ad) m c ∧ ∀ j u, news[j]? = some u → w.cell? (ad.add j) = some u)
theorem Src.own {w : World} {base : Nat} {e : TypeId} {v : Value} {n : Nat} {xs : List Value} (h : w.ownsRow base e 1 v n xs) : Src w v n xs := by
  refine ⟨by simpa using h.1, ?_⟩
  rcases h.2 with ⟨rfl, h0⟩ | ⟨g, cap, cur, rfl, _⟩
  · exact .inl ⟨rfl, h0⟩
  · exact .inr ⟨_, _, rfl, h.cells (g := g) rfl⟩
theorem Src.one (W : World) (u : Value) (e : TypeId) (c : Nat) : Src (W.alloc (.cells #[u] e)) (.slice (some ⟨W.heap.size, 0, none⟩) 1 c) 1 [u] :=
  ⟨rfl, .inr ⟨_, _, rfl, cell_one_new W u e⟩⟩
theorem run_append_src {P : Program} (w : World) (base : Nat) (t ty e : TypeId) (i : TypeInfo) (z : Value) (bytes : Nat) (ht : P.underlying t = some (.slice e)) (hi : P.info? e = some i) (hz : i.zero = some z)
    (hsize : i.size = 1) (hby : i.bytes = bytes) (hzs : z.cells.size = 1) (v : Value) (n : Nat) (xs : List Value) (hown : w.ownsRow base e 1 v n xs)
    (x : Value) (m : Nat) (news : List Value) (hx : Src w x m news) (h1 : ∀ u ∈ news, u.oneCell' = true) (h63 : n + m ≤ maxLen) (hbytes : (n + m) * bytes ≤ 140737488355328) (hbase : base ≤ w.heap.size) :
    ∃ v' w', (Builtin.append_ #[t, t] ty #[v, x]).run P w = .ok v' w' ∧ w'.ownsRow base e 1 v' (n + m) (xs ++ news) ∧ w.grownBy w' v.ownBlock ∧ (v'.ownBlock = v.ownBlock ∨ v'.ownBlock = some w.heap.size) := by
  rcases hx with ⟨hl, ⟨rfl, h0⟩ | ⟨ad, c, rfl, hc⟩⟩
  · have hn : news = [] := List.eq_nil_of_length_eq_zero (by omega)
    subst hn
    subst h0
    exact ⟨v, w, run_append_owned_none (P := P) (w := w) base t ty e i 1 ht hi v n xs hown, by simpa using hown, World.grownBy.refl w _, .inl rfl⟩
  · obtain ⟨v', w', hr, h2, h3, _, h5⟩ := run_append_own_at (P := P) w base t ty e i z 1 bytes ht hi hz hsize hby hzs (by omega) v n xs hown ad m c news (by simpa using hl) hc h1 h63 hbytes hbase
    exact ⟨v', w', hr, h2, h3, h5⟩
theorem wpList_append_src {P : Program} {w : World} {ops : Array Oper} {rest : List Oper} {o : Oper} {a : Act} {Q : Exit → Act → World → Prop} {s x : Operand} {t : TypeId} (hgd : o.guard = none)
    (ho : o.op = .call { callee := .builtin .append, args := #[s, x], argTypes := #[t, t] }) (base : Nat) (e : TypeId) (i : TypeInfo) (z : Value) (bytes : Nat) (ht : P.underlying t = some (.slice e)) (hi : P.info? e = some i) (hz : i.zero = some z)
    (hsize : i.size = 1) (hby : i.bytes = bytes) (hzs : z.cells.size = 1) (v : Value) (n : Nat) (xs : List Value) (hs : a.eval s = v) (hown : w.ownsRow base e 1 v n xs)
    (y : Value) (m : Nat) (news : List Value) (hy : a.eval x = y) (hx : Src w y m news) (h1 : ∀ u ∈ news, u.oneCell' = true) (h63 : n + m ≤ maxLen) (hbytes : (n + m) * bytes ≤ 140737488355328) (hbase : base ≤ w.heap.size)
    (h : ∀ v' w', w'.ownsRow base e 1 v' (n + m) (xs ++ news) → w.grownBy w' v.ownBlock → (v'.ownBlock = v.ownBlock ∨ v'.ownBlock = some w.heap.size) → wpList P ops Q rest (a.put o.dst v') w') :
    wpList P ops Q (o :: rest) a w := by
  refine wpList_plain hgd fun K hK => ?_
  obtain ⟨v', w', hr, h2, h3, h4⟩ := run_append_src (P := P) w base t o.type e i z bytes ht hi hz hsize hby hzs v n xs hown y m news hx h1 h63 hbytes hbase
  unfold Oper.wp execOp
  simp only [ho, resolve, invoke, builtin, Sem.run_bind, Sem.run_pure, Result.andThen_ok, List.map_toArray, List.map_cons, List.map_nil, hs, hy, hr]
  exact hK _ _ (h v' w' h2 h3 h4)
theorem own_kept {w w' : World} {B : Nat} {v : Value} {n : Nat} {e : TypeId} {xs : List Value} (ho : w.ownsRow B e 1 v n xs) (hb : Below w.heap.size w w') : w'.ownsRow B e 1 v n xs :=
  ho.kept (row := none) ⟨hb.os, hb.tape, hb.output, hb.size, fun k hk _ => hb.block k hk⟩ (by cases v.ownBlock <;> simp)
theorem below_own {B : Nat} {a w w' : World} {v : Value} {n : Nat} {e : TypeId} {xs : List Value} (h : Below B a w) (hg : w.grownBy w' v.ownBlock) (hB : B ≤ w.heap.size) (ho : w.ownsRow B e 1 v n xs) : Below B a w' :=
  h.grown hg hB fun k hk => (ho.lt k hk).1
end
section
open Go.RowKit
theorem Src.form {w : World} {x : Value} {m : Nat} {news : List Value} (h : Src w x m news) : ∃ A c, x = .slice A m c ∧ ∀ k, k < m → ∃ ad, A = some ad ∧ w.cell? (ad.add k) = news[k]? := by
  rcases h with ⟨hl, ⟨rfl, h0⟩ | ⟨ad, c, rfl, hc⟩⟩
  · subst h0
    exact ⟨none, 0, rfl, fun k hk => absurd hk (by omega)⟩
  · refine ⟨some ad, c, rfl, fun k hk => ⟨ad, rfl, ?_⟩⟩
    have : news[k]? = some (news[k]'(by omega)) := List.getElem?_eq_getElem (by omega)
    rw [this]; exact hc k _ this
theorem Src.len {w : World} {x : Value} {m : Nat} {news : List Value} (h : Src w x m news) : news.length = m := h.1
theorem ints_get {l : List Int} {k : Nat} (h : k < l.length) : (ints l)[k]? = some (.int .i64 (l.getD k 0)) := by
  unfold ints; simp [h]
def Alike (a b : List Int) (k : Nat) : Prop := ∀ j, j < k → a.getD j 0 = b.getD j 0
theorem Alike.succ {a b : List Int} {k : Nat} (h : Alike a b k) (e : a.getD k 0 = b.getD k 0) : Alike a b (k + 1) := by
  intro j hj
  by_cases hjk : j = k
  · subst hjk; exact e
  · exact h j (by omega)
theorem drewN_drewN (w : World) (a b : Nat) : (w.drewN a).drewN b = w.drewN (a + b) := World.drewN_drewN w a b
theorem Src.drewN {w : World} {x : Value} {m : Nat} {news : List Value} (h : Src w x m news) (q : Nat) : Src (w.drewN q) x m news := h
theorem add_block (ad : Addr) (k : Nat) : (ad.add k).block = ad.block := by unfold Addr.add; split <;> rfl
theorem cell_kept {w w' : World} {p : Addr} {u : Value} (hb : Below w.heap.size w w') (h : w.cell? p = some u) : w'.cell? p = some u := by
  rw [hb.cell (World.block_lt_of_cell? w p h)]; exact h
theorem Src.kept {w w' : World} {x : Value} {m : Nat} {news : List Value} (h : Src w x m news) (hb : Below w.heap.size w w') : Src w' x m news := by
  refine ⟨h.1, ?_⟩
  rcases h.2 with h0 | ⟨ad, c, rfl, hc⟩
  · exact .inl h0
  · exact .inr ⟨ad, c, rfl, fun j u hu => cell_kept hb (hc j u hu)⟩
theorem Src.made (w : World) (xs : List Value) (e : TypeId) (n c : Nat) (h : xs.length = n) : Src (w.alloc (.cells xs.toArray e)) (.slice (some ⟨w.heap.size, 0, none⟩) n c) n xs :=
  ⟨h, .inr ⟨_, _, rfl, fun j u hu => by
    have hb : (w.alloc (.cells xs.toArray e)).heap[w.heap.size]? = some (.cells xs.toArray e) := by
      show (w.heap.push _)[w.heap.size]? = _
      simp
    have ha : (⟨w.heap.size, 0, none⟩ : Addr).add j = ⟨w.heap.size, j, none⟩ := by
      unfold Addr.add
      by_cases h0 : j = 0
      · subst h0; rfl
      · simp [h0]
    rw [ha]
    simp only [World.cell?, hb]
    simpa using hu⟩⟩
theorem Src.made_at (w : World) (b : Nat) (xs : List Value) (cs : Array Value) (e : TypeId) (n c : Nat) (hb : b = w.heap.size) (hc : xs.toArray = cs) (h : xs.length = n) : Src (w.alloc (.cells cs e)) (.slice (some ⟨b, 0, none⟩) n c) n xs := by
  subst hb; subst hc; exact Src.made w xs e n c h
end
section
open Go.RowKit
def At (w : World) (a : Addr) (cs : List Value) : Prop := ∀ j u, cs[j]? = some u → w.cell? (a.add j) = some u
theorem At.kept {w w' : World} {a : Addr} {cs : List Value} (h : At w a cs) (hb : Below w.heap.size w w') : At w' a cs := fun j u hu => cell_kept hb (h j u hu)
theorem At.head {w : World} {a : Addr} {u : Value} {cs : List Value} (h : At w a (u :: cs)) : w.cell? a = some u := by
  have := h 0 u rfl
  simpa [Addr.add] using this
theorem At.next {w : World} {a : Addr} {cs : List Value} (h : At w a cs) (j : Nat) {u : Value} (hu : cs[j + 1]? = some u) : w.cell? { block := a.block, off := a.off + (j + 1) } = some u := by
  have := h (j + 1) u hu
  simpa [Addr.add] using this
def Recs (w : World) (x : Value) (C n : Nat) (rs : List (List Value)) : Prop :=
  rs.length = n ∧ (∀ r ∈ rs, r.length = C) ∧ ((x = .slice none 0 0 ∧ n = 0) ∨ ∃ ad c, x = .slice (some ad) n c ∧ ∀ i r, rs[i]? = some r → At w (ad.add (i * C)) r)
theorem Recs.kept {w w' : World} {x : Value} {C n : Nat} {rs : List (List Value)} (h : Recs w x C n rs) (hb : Below w.heap.size w w') : Recs w' x C n rs := by
  refine ⟨h.1, h.2.1, ?_⟩
  rcases h.2.2 with h0 | ⟨ad, c, e, hc⟩
  · exact .inl h0
  · exact .inr ⟨ad, c, e, fun i r hr => (hc i r hr).kept hb⟩
theorem Recs.drewN {w : World} {x : Value} {C n : Nat} {rs : List (List Value)} (h : Recs w x C n rs) (q : Nat) : Recs (w.drewN q) x C n rs := h
theorem Recs.form {w : World} {x : Value} {C n : Nat} {rs : List (List Value)} (h : Recs w x C n rs) : ∃ A c, x = .slice A n c ∧ ∀ k, k < n → ∃ ad, A = some ad ∧ At w (ad.add (k * C)) (rs.getD k []) := by
  rcases h.2.2 with ⟨rfl, h0⟩ | ⟨ad, c, rfl, hc⟩
  · subst h0
    exact ⟨none, 0, rfl, fun k hk => absurd hk (by omega)⟩
  · refine ⟨some ad, c, rfl, fun k hk => ⟨ad, rfl, ?_⟩⟩
    have hk' : k < rs.length := by rw [h.1]; exact hk
    exact hc k _ (by simp [List.getD, hk'])
theorem flatten_get {C : Nat} : ∀ (rs : List (List Value)) (_ : ∀ r ∈ rs, r.length = C) (i : Nat) (r : List Value) (_ : rs[i]? = some r) (j : Nat) (u : Value) (_ : r[j]? = some u), rs.flatten[i * C + j]? = some u
  | [], _, i, r, hr, _, _, _ => by simp at hr
  | x :: rs, hl, 0, r, hr, j, u, hu => by
    obtain rfl : x = r := by simpa using hr
    have hj : j < x.length := (List.getElem?_eq_some_iff.1 hu).1
    rw [List.flatten_cons, Nat.zero_mul, Nat.zero_add, List.getElem?_append_left hj]; exact hu
  | x :: rs, hl, i + 1, r, hr, j, u, hu => by
    have hx : x.length = C := hl x (by simp)
    rw [List.flatten_cons, List.getElem?_append_right (by rw [hx, Nat.succ_mul]; omega)]
    rw [show (i + 1) * C + j - x.length = i * C + j from by rw [hx, Nat.succ_mul]; omega]
    exact flatten_get rs (fun r h => hl r (by simp [h])) i r (by simpa using hr) j u hu
theorem flatten_len {C : Nat} : ∀ (rs : List (List Value)) (_ : ∀ r ∈ rs, r.length = C), rs.flatten.length = rs.length * C
  | [], _ => by simp
  | x :: rs, hl => by
    rw [List.flatten_cons, List.length_append, flatten_len rs (fun r h => hl r (by simp [h])), hl x (by simp), List.length_cons, Nat.succ_mul]; omega
theorem Recs.own {w : World} {base : Nat} {e : TypeId} {C n : Nat} {v : Value} {rs : List (List Value)} (h : w.ownsRow base e C v n rs.flatten) (hn : rs.length = n) (hl : ∀ r ∈ rs, r.length = C) : Recs w v C n rs := by
  refine ⟨hn, hl, ?_⟩
  rcases h.2 with ⟨rfl, h0⟩ | ⟨g, cap, cur, rfl, _⟩
  · exact .inl ⟨rfl, h0⟩
  · refine .inr ⟨_, _, rfl, fun i r hr j u hu => ?_⟩
    rw [Go.Deep.add_add]
    exact h.cells (g := g) rfl _ _ (flatten_get rs hl i r hr j u hu)
theorem own_shape {w : World} {base C : Nat} {e : TypeId} {v : Value} {n : Nat} {xs : List Value} (h : w.ownsRow base e C v n xs) : ∃ A c, v = .slice A n c := by
  rcases h.2 with ⟨rfl, h0⟩ | ⟨g, cap, cur, rfl, _⟩
  · subst h0; exact ⟨none, 0, rfl⟩
  · exact ⟨_, _, rfl⟩
end
section
open Go.RowKit
namespace Blk
theorem lt {w : World} {b : Nat} {o : Obj} (h : w.heap[b]? = some o) : b < w.heap.size := (Array.getElem?_eq_some_iff.1 h).1
theorem cell {w : World} {b : Nat} {cs : Array Value} {t : TypeId} (h : w.heap[b]? = some (.cells cs t (0, 0))) (j : Nat) : w.cell? ⟨b, j, none⟩ = cs[j]? := cell_of_row w b j cs t _ h
theorem free {w : World} {b : Nat} {cs : Array Value} {t : TypeId} (h : w.heap[b]? = some (.cells cs t (0, 0))) (j : Nat) : w.frozen? ⟨b, j, none⟩ = false := frozen_of_row w b j cs t h
theorem set {w : World} {b : Nat} {cs : Array Value} {t : TypeId} (h : w.heap[b]? = some (.cells cs t (0, 0))) (j : Nat) (u : Value) : (w.setCell ⟨b, j, none⟩ u).heap[b]? = some (.cells (cs.setIfInBounds j u) t (0, 0)) := heap_setCell_same w b j cs t u h
theorem other {w : World} {b g : Nat} {o : Obj} (h : w.heap[b]? = some o) (hn : b ≠ g) (j : Nat) (u : Value) : (w.setCell ⟨g, j, none⟩ u).heap[b]? = some o := by
  rw [heap_setCell_other w ⟨g, j, none⟩ b u hn]; exact h
theorem kept {w w' : World} {b : Nat} {o : Obj} (h : w.heap[b]? = some o) (hb : Below w.heap.size w w') : w'.heap[b]? = some o := (hb.block b (lt h)).trans h
theorem low {w : World} {base b2 e C n : Nat} {v : Value} {xs : List Value} (h : w.ownsRow base e C v n xs) (hb : b2 ≤ base) : w.ownsRow b2 e C v n xs := by
  refine ⟨h.1, ?_⟩
  rcases h.2 with h0 | ⟨g, cap, cur, h1, h2, rest⟩
  · exact .inl h0
  · exact .inr ⟨g, cap, cur, h1, Nat.le_trans hb h2, rest⟩
end Blk
structure Sl (w : World) (x : Value) (l : List Int) : Prop where
  src : Src w x l.length (ints l)
  room : ∃ A c, x = .slice A l.length c ∧ l.length ≤ c
theorem Sl.kept {w w' : World} {x : Value} {l : List Int} (h : Sl w x l) (hb : Below w.heap.size w w') : Sl w' x l := ⟨h.src.kept hb, h.room⟩
theorem Sl.drewN {w : World} {x : Value} {l : List Int} (h : Sl w x l) (q : Nat) : Sl (w.drewN q) x l := ⟨h.src.drewN q, h.room⟩
theorem Sl.nil (w : World) : Sl w (.slice none 0 0) [] := ⟨⟨rfl, .inl ⟨rfl, rfl⟩⟩, none, 0, rfl, by simp⟩
theorem Sl.made (w : World) (xs : List Int) (e : TypeId) : Sl (w.alloc (.cells (ints xs).toArray e)) (.slice (some ⟨w.heap.size, 0, none⟩) xs.length xs.length) xs :=
  ⟨Src.made w (ints xs) e xs.length xs.length (ints_length _), _, _, rfl, Nat.le_refl _⟩
theorem Sl.own {w : World} {base : Nat} {e : TypeId} {v : Value} {xs : List Int} (h : w.ownsRow base e 1 v xs.length (ints xs)) : Sl w v xs := by
  refine ⟨Src.own h, ?_⟩
  rcases h.2 with ⟨rfl, h0⟩ | ⟨g, cap, cur, rfl, _, _, hc, _⟩
  · exact ⟨none, 0, by rw [h0], by omega⟩
  · exact ⟨_, _, rfl, hc⟩
theorem Sl.get {w : World} {A : Option Addr} {n c : Nat} {l : List Int} (h : Sl w (.slice A n c) l) : ∀ k, k < l.length → ∃ ad, A = some ad ∧ w.cell? (ad.add k) = some (.int .i64 (l.getD k 0)) := by
  intro k hk
  obtain ⟨A', c', e, hf⟩ := h.src.form
  injection e with e1 e2 e3
  subst e1
  obtain ⟨ad, rfl, hc⟩ := hf k hk
  exact ⟨ad, rfl, by rw [hc, ints_get hk]⟩
theorem ints_drop (l : List Int) (k : Nat) : (ints l).drop k = ints (l.drop k) := by unfold ints; rw [List.map_drop]
def Clear (g : Nat) (v : Value) : Prop := ∀ ad n c, v = .slice (some ad) n c → ad.block ≠ g
theorem Clear.nil (g : Nat) : Clear g (.slice none 0 0) := fun _ _ _ e => by cases e
theorem Sl.set {w : World} {x : Value} {l : List Int} {g : Nat} (h : Sl w x l) (hc : Clear g x) (j : Nat) (u : Value) : Sl (w.setCell ⟨g, j, none⟩ u) x l := by
  refine ⟨⟨h.src.1, ?_⟩, h.room⟩
  rcases h.src.2 with h0 | ⟨ad, c, rfl, hf⟩
  · exact .inl h0
  · refine .inr ⟨ad, c, rfl, fun k v hv => ?_⟩
    have hb := hc ad _ c rfl
    rw [World.cell?_setCell_other _ _ _ _ (fun e => hb (by rw [← add_block ad k, ← e]))]
    exact hf k v hv
theorem Sl.tail {w : World} {A : Option Addr} {n c : Nat} {l : List Int} (h : Sl w (.slice A n c) l) (k : Nat) (hk : k ≤ l.length) (i : Int) (hi : i = k) :
    ∃ V, (∀ w' : World, (Instr.slice 26 (.slice A n c) (some (.int .i64 i)) none none).run Tryz.prog w' = .ok V w') ∧ Sl w V (l.drop k) ∧ ∀ g, Clear g (.slice A n c) → Clear g V := by
  obtain ⟨A', c', e, hc⟩ := h.room
  injection e with e1 e2 e3
  subst e1; subst e2; subst e3; subst hi
  have hu : Tryz.prog.underlying 26 = some (.slice (Tryz.prog.elem 26)) := by kernel_rfl
  refine ⟨.slice (if c = k then A else A.map (·.add k)) (l.length - k) (c - k), fun w' => ?_, ⟨⟨by rw [ints_length], ?_⟩, ?_⟩, ?_⟩
  · rw [run_slice_l w' 26 A l.length c hu .i64 k (by omega) (by omega)]
    have hs : (sizeOf (Tryz.prog.elem 26)).run Tryz.prog w' = .ok 1 w' := by kernel_rfl
    rw [hs]
    simp [Result.andThen, sliced]
  · rw [List.length_drop]
    rcases h.src.2 with ⟨e, h0⟩ | ⟨ad, c2, e, hcell⟩
    · injection e with e1 e2 e3
      subst e1; subst e3
      left
      refine ⟨?_, by omega⟩
      have : k = 0 := by omega
      subst this
      simp [h0]
    · injection e with e1 e2 e3
      subst e1; subst e3
      right
      by_cases hck : c = k
      · rw [if_pos hck]
        refine ⟨ad, c - k, rfl, fun j u hu => ?_⟩
        have : l.drop k = [] := List.drop_eq_nil_of_le (by omega)
        rw [this] at hu
        simp [ints] at hu
      · rw [if_neg hck]
        refine ⟨ad.add k, c - k, rfl, fun j u hu => ?_⟩
        rw [Go.Deep.add_add]
        refine hcell (k + j) u ?_
        rw [← ints_drop, List.getElem?_drop] at hu
        exact hu
  · exact ⟨_, _, by rw [List.length_drop], by rw [List.length_drop]; omega⟩
  · intro g hg ad n' c' e
    injection e with e1 e2 e3
    split at e1
    · subst e1; exact hg ad _ c rfl
    · cases A with
      | none => cases e1
      | some a =>
        have : ad = a.add k := by simpa using e1.symm
        rw [this, add_block]; exact hg a _ c rfl
end
section
open Go.RowKit
namespace Wid
theorem within_yes {r lo hi : Int} (h : lo ≤ r) (k : r ≤ hi) : within r lo hi = true := by unfold within; rw [decide_eq_true h, decide_eq_true k]; rfl
theorem within_low {r lo hi : Int} (h : ¬ lo ≤ r) : within r lo hi = false := by unfold within; rw [decide_eq_false h]; rfl
theorem within_high {r lo hi : Int} (h : ¬ r ≤ hi) : within r lo hi = false := by unfold within; rw [decide_eq_false h]; cases decide (lo ≤ r) <;> rfl
theorem in_any (r lo hi : Int) (w : World) : Calls Tryz.prog 185 #[.int .i64 r, .int .i64 lo, .int .i64 hi] w fun e w' => e = .returned (.bool (within r lo hi)) ∧ w = w' := by
  by_cases h : lo ≤ r
  · by_cases k : r ≤ hi
    · have H := Lib.hid (within_yes h k)
      go_enter Tryz.func185, Tryz.ntmps185
      go_wp2_with fail
      go_ret
      exact ⟨ret_bool H.out.symm, rfl⟩
    · have H := Lib.hid (within_high (lo := lo) k)
      have hd : decide (r ≤ hi) = false := decide_eq_false k
      go_enter Tryz.func185, Tryz.ntmps185
      go_wp2_with fail
      go_ret
      exact ⟨ret_bool H.out.symm, rfl⟩
  · have H := Lib.hid (within_low (hi := hi) h)
    have hd : decide (lo ≤ r) = false := decide_eq_false h
    go_enter Tryz.func185, Tryz.ntmps185
    go_wp2_with fail
    go_ret
    exact ⟨ret_bool H.out.symm, rfl⟩
def kindOf (r : Int) : Value := bif isNone r then .iface 186 (.agg #[]) else bif isMark r then .iface 188 (.agg #[]) else bif isWide r then .iface 190 (.int .i64 2) else .iface 190 (.int .i64 1)
theorem ret_val {a b : Value} (h : a = b) : Ending.returned a = .returned b := by rw [h]
set_option maxRecDepth 100000 in
theorem look_0 (r : Int) (w : World) (h0 : decide (r < 32) = true) : Calls Tryz.prog 162 #[.int .i64 r] w fun e w' => e = .returned (kindOf r) ∧ w = w' := by
  have HK : Hid (.iface 186 (.agg #[]) = kindOf r) := Lib.hid (by unfold kindOf isNone; (rw [h0]) <;> rfl)
  go_enter Tryz.func162, Tryz.ntmps162
  go_wp2_with (go_at_call 185; refine (in_any _ _ _ _).mono ?_; rintro e w' ⟨rfl, rfl⟩)
  go_ret
  exact ⟨ret_val HK.out, rfl⟩
set_option maxRecDepth 100000 in
theorem look_1 (r : Int) (w : World) (h0 : decide (r < 32) = false) (h1 : within r 127 159 = true) : Calls Tryz.prog 162 #[.int .i64 r] w fun e w' => e = .returned (kindOf r) ∧ w = w' := by
  have HK : Hid (.iface 186 (.agg #[]) = kindOf r) := Lib.hid (by unfold kindOf isNone; (rw [h0, h1]) <;> rfl)
  go_enter Tryz.func162, Tryz.ntmps162
  go_wp2_with (go_at_call 185; refine (in_any _ _ _ _).mono ?_; rintro e w' ⟨rfl, rfl⟩)
  go_ret
  exact ⟨ret_val HK.out, rfl⟩
set_option maxRecDepth 100000 in
theorem look_2 (r : Int) (w : World) (h0 : decide (r < 32) = false) (h1 : within r 127 159 = false) (h2 : within r 55296 57343 = true) : Calls Tryz.prog 162 #[.int .i64 r] w fun e w' => e = .returned (kindOf r) ∧ w = w' := by
  have HK : Hid (.iface 186 (.agg #[]) = kindOf r) := Lib.hid (by unfold kindOf isNone; (rw [h0, h1, h2]) <;> rfl)
  go_enter Tryz.func162, Tryz.ntmps162
  go_wp2_with (go_at_call 185; refine (in_any _ _ _ _).mono ?_; rintro e w' ⟨rfl, rfl⟩)
  go_ret
  exact ⟨ret_val HK.out, rfl⟩
set_option maxRecDepth 100000 in
theorem look_3 (r : Int) (w : World) (h0 : decide (r < 32) = false) (h1 : within r 127 159 = false) (h2 : within r 55296 57343 = false) (h3 : decide (1114111 < r) = true) : Calls Tryz.prog 162 #[.int .i64 r] w fun e w' => e = .returned (kindOf r) ∧ w = w' := by
  have HK : Hid (.iface 186 (.agg #[]) = kindOf r) := Lib.hid (by unfold kindOf isNone; (rw [h0, h1, h2, h3]) <;> rfl)
  go_enter Tryz.func162, Tryz.ntmps162
  go_wp2_with (go_at_call 185; refine (in_any _ _ _ _).mono ?_; rintro e w' ⟨rfl, rfl⟩)
  go_ret
  exact ⟨ret_val HK.out, rfl⟩
set_option maxRecDepth 100000 in
theorem look_4 (r : Int) (w : World) (h0 : decide (r < 32) = false) (h1 : within r 127 159 = false) (h2 : within r 55296 57343 = false) (h3 : decide (1114111 < r) = false) (h4 : within r 768 879 = true) : Calls Tryz.prog 162 #[.int .i64 r] w fun e w' => e = .returned (kindOf r) ∧ w = w' := by
  have HK : Hid (.iface 188 (.agg #[]) = kindOf r) := Lib.hid (by unfold kindOf isNone isMark; (rw [h0, h1, h2, h3, h4]) <;> rfl)
  go_enter Tryz.func162, Tryz.ntmps162
  go_wp2_with (go_at_call 185; refine (in_any _ _ _ _).mono ?_; rintro e w' ⟨rfl, rfl⟩)
  go_ret
  exact ⟨ret_val HK.out, rfl⟩
set_option maxRecDepth 100000 in
theorem look_5 (r : Int) (w : World) (h0 : decide (r < 32) = false) (h1 : within r 127 159 = false) (h2 : within r 55296 57343 = false) (h3 : decide (1114111 < r) = false) (h4 : within r 768 879 = false) (h5 : within r 6832 6911 = true) : Calls Tryz.prog 162 #[.int .i64 r] w fun e w' => e = .returned (kindOf r) ∧ w = w' := by
  have HK : Hid (.iface 188 (.agg #[]) = kindOf r) := Lib.hid (by unfold kindOf isNone isMark; (rw [h0, h1, h2, h3, h4, h5]) <;> rfl)
  go_enter Tryz.func162, Tryz.ntmps162
  go_wp2_with (go_at_call 185; refine (in_any _ _ _ _).mono ?_; rintro e w' ⟨rfl, rfl⟩)
  go_ret
  exact ⟨ret_val HK.out, rfl⟩
set_option maxRecDepth 100000 in
theorem look_6 (r : Int) (w : World) (h0 : decide (r < 32) = false) (h1 : within r 127 159 = false) (h2 : within r 55296 57343 = false) (h3 : decide (1114111 < r) = false) (h4 : within r 768 879 = false) (h5 : within r 6832 6911 = false) (h6 : within r 8203 8207 = true) : Calls Tryz.prog 162 #[.int .i64 r] w fun e w' => e = .returned (kindOf r) ∧ w = w' := by
  have HK : Hid (.iface 188 (.agg #[]) = kindOf r) := Lib.hid (by unfold kindOf isNone isMark; (rw [h0, h1, h2, h3, h4, h5, h6]) <;> rfl)
  go_enter Tryz.func162, Tryz.ntmps162
  go_wp2_with (go_at_call 185; refine (in_any _ _ _ _).mono ?_; rintro e w' ⟨rfl, rfl⟩)
  go_ret
  exact ⟨ret_val HK.out, rfl⟩
set_option maxRecDepth 100000 in
theorem look_7 (r : Int) (w : World) (h0 : decide (r < 32) = false) (h1 : within r 127 159 = false) (h2 : within r 55296 57343 = false) (h3 : decide (1114111 < r) = false) (h4 : within r 768 879 = false) (h5 : within r 6832 6911 = false) (h6 : within r 8203 8207 = false) (h7 : within r 8400 8447 = true) : Calls Tryz.prog 162 #[.int .i64 r] w fun e w' => e = .returned (kindOf r) ∧ w = w' := by
  have HK : Hid (.iface 188 (.agg #[]) = kindOf r) := Lib.hid (by unfold kindOf isNone isMark; (rw [h0, h1, h2, h3, h4, h5, h6, h7]) <;> rfl)
  go_enter Tryz.func162, Tryz.ntmps162
  go_wp2_with (go_at_call 185; refine (in_any _ _ _ _).mono ?_; rintro e w' ⟨rfl, rfl⟩)
  go_ret
  exact ⟨ret_val HK.out, rfl⟩
set_option maxRecDepth 100000 in
theorem look_8 (r : Int) (w : World) (h0 : decide (r < 32) = false) (h1 : within r 127 159 = false) (h2 : within r 55296 57343 = false) (h3 : decide (1114111 < r) = false) (h4 : within r 768 879 = false) (h5 : within r 6832 6911 = false) (h6 : within r 8203 8207 = false) (h7 : within r 8400 8447 = false) (h8 : within r 65024 65039 = true) : Calls Tryz.prog 162 #[.int .i64 r] w fun e w' => e = .returned (kindOf r) ∧ w = w' := by
  have HK : Hid (.iface 188 (.agg #[]) = kindOf r) := Lib.hid (by unfold kindOf isNone isMark; (rw [h0, h1, h2, h3, h4, h5, h6, h7, h8]) <;> rfl)
  go_enter Tryz.func162, Tryz.ntmps162
  go_wp2_with (go_at_call 185; refine (in_any _ _ _ _).mono ?_; rintro e w' ⟨rfl, rfl⟩)
  go_ret
  exact ⟨ret_val HK.out, rfl⟩
set_option maxRecDepth 100000 in
theorem look_9 (r : Int) (w : World) (h0 : decide (r < 32) = false) (h1 : within r 127 159 = false) (h2 : within r 55296 57343 = false) (h3 : decide (1114111 < r) = false) (h4 : within r 768 879 = false) (h5 : within r 6832 6911 = false) (h6 : within r 8203 8207 = false) (h7 : within r 8400 8447 = false) (h8 : within r 65024 65039 = false) (h9 : within r 65056 65071 = true) : Calls Tryz.prog 162 #[.int .i64 r] w fun e w' => e = .returned (kindOf r) ∧ w = w' := by
  have HK : Hid (.iface 188 (.agg #[]) = kindOf r) := Lib.hid (by unfold kindOf isNone isMark; (rw [h0, h1, h2, h3, h4, h5, h6, h7, h8, h9]) <;> rfl)
  go_enter Tryz.func162, Tryz.ntmps162
  go_wp2_with (go_at_call 185; refine (in_any _ _ _ _).mono ?_; rintro e w' ⟨rfl, rfl⟩)
  go_ret
  exact ⟨ret_val HK.out, rfl⟩
set_option maxRecDepth 100000 in
theorem look_10 (r : Int) (w : World) (h0 : decide (r < 32) = false) (h1 : within r 127 159 = false) (h2 : within r 55296 57343 = false) (h3 : decide (1114111 < r) = false) (h4 : within r 768 879 = false) (h5 : within r 6832 6911 = false) (h6 : within r 8203 8207 = false) (h7 : within r 8400 8447 = false) (h8 : within r 65024 65039 = false) (h9 : within r 65056 65071 = false) (h10 : within r 4352 4447 = true) : Calls Tryz.prog 162 #[.int .i64 r] w fun e w' => e = .returned (kindOf r) ∧ w = w' := by
  have HK : Hid (.iface 190 (.int .i64 2) = kindOf r) := Lib.hid (by unfold kindOf isNone isMark isWide; (rw [h0, h1, h2, h3, h4, h5, h6, h7, h8, h9, h10]) <;> rfl)
  go_enter Tryz.func162, Tryz.ntmps162
  go_wp2_with (go_at_call 185; refine (in_any _ _ _ _).mono ?_; rintro e w' ⟨rfl, rfl⟩)
  go_ret
  exact ⟨ret_val HK.out, rfl⟩
set_option maxRecDepth 100000 in
theorem look_11 (r : Int) (w : World) (h0 : decide (r < 32) = false) (h1 : within r 127 159 = false) (h2 : within r 55296 57343 = false) (h3 : decide (1114111 < r) = false) (h4 : within r 768 879 = false) (h5 : within r 6832 6911 = false) (h6 : within r 8203 8207 = false) (h7 : within r 8400 8447 = false) (h8 : within r 65024 65039 = false) (h9 : within r 65056 65071 = false) (h10 : within r 4352 4447 = false) (h11 : within r 11904 12350 = true) : Calls Tryz.prog 162 #[.int .i64 r] w fun e w' => e = .returned (kindOf r) ∧ w = w' := by
  have HK : Hid (.iface 190 (.int .i64 2) = kindOf r) := Lib.hid (by unfold kindOf isNone isMark isWide; (rw [h0, h1, h2, h3, h4, h5, h6, h7, h8, h9, h10, h11]) <;> rfl)
  go_enter Tryz.func162, Tryz.ntmps162
  go_wp2_with (go_at_call 185; refine (in_any _ _ _ _).mono ?_; rintro e w' ⟨rfl, rfl⟩)
  go_ret
  exact ⟨ret_val HK.out, rfl⟩
set_option maxRecDepth 100000 in
theorem look_12 (r : Int) (w : World) (h0 : decide (r < 32) = false) (h1 : within r 127 159 = false) (h2 : within r 55296 57343 = false) (h3 : decide (1114111 < r) = false) (h4 : within r 768 879 = false) (h5 : within r 6832 6911 = false) (h6 : within r 8203 8207 = false) (h7 : within r 8400 8447 = false) (h8 : within r 65024 65039 = false) (h9 : within r 65056 65071 = false) (h10 : within r 4352 4447 = false) (h11 : within r 11904 12350 = false) (h12 : within r 12353 42191 = true) : Calls Tryz.prog 162 #[.int .i64 r] w fun e w' => e = .returned (kindOf r) ∧ w = w' := by
  have HK : Hid (.iface 190 (.int .i64 2) = kindOf r) := Lib.hid (by unfold kindOf isNone isMark isWide; (rw [h0, h1, h2, h3, h4, h5, h6, h7, h8, h9, h10, h11, h12]) <;> rfl)
  go_enter Tryz.func162, Tryz.ntmps162
  go_wp2_with (go_at_call 185; refine (in_any _ _ _ _).mono ?_; rintro e w' ⟨rfl, rfl⟩)
  go_ret
  exact ⟨ret_val HK.out, rfl⟩
set_option maxRecDepth 100000 in
theorem look_13 (r : Int) (w : World) (h0 : decide (r < 32) = false) (h1 : within r 127 159 = false) (h2 : within r 55296 57343 = false) (h3 : decide (1114111 < r) = false) (h4 : within r 768 879 = false) (h5 : within r 6832 6911 = false) (h6 : within r 8203 8207 = false) (h7 : within r 8400 8447 = false) (h8 : within r 65024 65039 = false) (h9 : within r 65056 65071 = false) (h10 : within r 4352 4447 = false) (h11 : within r 11904 12350 = false) (h12 : within r 12353 42191 = false) (h13 : within r 44032 55203 = true) : Calls Tryz.prog 162 #[.int .i64 r] w fun e w' => e = .returned (kindOf r) ∧ w = w' := by
  have HK : Hid (.iface 190 (.int .i64 2) = kindOf r) := Lib.hid (by unfold kindOf isNone isMark isWide; (rw [h0, h1, h2, h3, h4, h5, h6, h7, h8, h9, h10, h11, h12, h13]) <;> rfl)
  go_enter Tryz.func162, Tryz.ntmps162
  go_wp2_with (go_at_call 185; refine (in_any _ _ _ _).mono ?_; rintro e w' ⟨rfl, rfl⟩)
  go_ret
  exact ⟨ret_val HK.out, rfl⟩
set_option maxRecDepth 100000 in
theorem look_14 (r : Int) (w : World) (h0 : decide (r < 32) = false) (h1 : within r 127 159 = false) (h2 : within r 55296 57343 = false) (h3 : decide (1114111 < r) = false) (h4 : within r 768 879 = false) (h5 : within r 6832 6911 = false) (h6 : within r 8203 8207 = false) (h7 : within r 8400 8447 = false) (h8 : within r 65024 65039 = false) (h9 : within r 65056 65071 = false) (h10 : within r 4352 4447 = false) (h11 : within r 11904 12350 = false) (h12 : within r 12353 42191 = false) (h13 : within r 44032 55203 = false) (h14 : within r 63744 64255 = true) : Calls Tryz.prog 162 #[.int .i64 r] w fun e w' => e = .returned (kindOf r) ∧ w = w' := by
  have HK : Hid (.iface 190 (.int .i64 2) = kindOf r) := Lib.hid (by unfold kindOf isNone isMark isWide; (rw [h0, h1, h2, h3, h4, h5, h6, h7, h8, h9, h10, h11, h12, h13, h14]) <;> rfl)
  go_enter Tryz.func162, Tryz.ntmps162
  go_wp2_with (go_at_call 185; refine (in_any _ _ _ _).mono ?_; rintro e w' ⟨rfl, rfl⟩)
  go_ret
  exact ⟨ret_val HK.out, rfl⟩
set_option maxRecDepth 100000 in
theorem look_15 (r : Int) (w : World) (h0 : decide (r < 32) = false) (h1 : within r 127 159 = false) (h2 : within r 55296 57343 = false) (h3 : decide (1114111 < r) = false) (h4 : within r 768 879 = false) (h5 : within r 6832 6911 = false) (h6 : within r 8203 8207 = false) (h7 : within r 8400 8447 = false) (h8 : within r 65024 65039 = false) (h9 : within r 65056 65071 = false) (h10 : within r 4352 4447 = false) (h11 : within r 11904 12350 = false) (h12 : within r 12353 42191 = false) (h13 : within r 44032 55203 = false) (h14 : within r 63744 64255 = false) (h15 : within r 65072 65135 = true) : Calls Tryz.prog 162 #[.int .i64 r] w fun e w' => e = .returned (kindOf r) ∧ w = w' := by
  have HK : Hid (.iface 190 (.int .i64 2) = kindOf r) := Lib.hid (by unfold kindOf isNone isMark isWide; (rw [h0, h1, h2, h3, h4, h5, h6, h7, h8, h9, h10, h11, h12, h13, h14, h15]) <;> rfl)
  go_enter Tryz.func162, Tryz.ntmps162
  go_wp2_with (go_at_call 185; refine (in_any _ _ _ _).mono ?_; rintro e w' ⟨rfl, rfl⟩)
  go_ret
  exact ⟨ret_val HK.out, rfl⟩
set_option maxRecDepth 100000 in
theorem look_16 (r : Int) (w : World) (h0 : decide (r < 32) = false) (h1 : within r 127 159 = false) (h2 : within r 55296 57343 = false) (h3 : decide (1114111 < r) = false) (h4 : within r 768 879 = false) (h5 : within r 6832 6911 = false) (h6 : within r 8203 8207 = false) (h7 : within r 8400 8447 = false) (h8 : within r 65024 65039 = false) (h9 : within r 65056 65071 = false) (h10 : within r 4352 4447 = false) (h11 : within r 11904 12350 = false) (h12 : within r 12353 42191 = false) (h13 : within r 44032 55203 = false) (h14 : within r 63744 64255 = false) (h15 : within r 65072 65135 = false) (h16 : within r 65280 65376 = true) : Calls Tryz.prog 162 #[.int .i64 r] w fun e w' => e = .returned (kindOf r) ∧ w = w' := by
  have HK : Hid (.iface 190 (.int .i64 2) = kindOf r) := Lib.hid (by unfold kindOf isNone isMark isWide; (rw [h0, h1, h2, h3, h4, h5, h6, h7, h8, h9, h10, h11, h12, h13, h14, h15, h16]) <;> rfl)
  go_enter Tryz.func162, Tryz.ntmps162
  go_wp2_with (go_at_call 185; refine (in_any _ _ _ _).mono ?_; rintro e w' ⟨rfl, rfl⟩)
  go_ret
  exact ⟨ret_val HK.out, rfl⟩
set_option maxRecDepth 100000 in
theorem look_17 (r : Int) (w : World) (h0 : decide (r < 32) = false) (h1 : within r 127 159 = false) (h2 : within r 55296 57343 = false) (h3 : decide (1114111 < r) = false) (h4 : within r 768 879 = false) (h5 : within r 6832 6911 = false) (h6 : within r 8203 8207 = false) (h7 : within r 8400 8447 = false) (h8 : within r 65024 65039 = false) (h9 : within r 65056 65071 = false) (h10 : within r 4352 4447 = false) (h11 : within r 11904 12350 = false) (h12 : within r 12353 42191 = false) (h13 : within r 44032 55203 = false) (h14 : within r 63744 64255 = false) (h15 : within r 65072 65135 = false) (h16 : within r 65280 65376 = false) (h17 : within r 65504 65510 = true) : Calls Tryz.prog 162 #[.int .i64 r] w fun e w' => e = .returned (kindOf r) ∧ w = w' := by
  have HK : Hid (.iface 190 (.int .i64 2) = kindOf r) := Lib.hid (by unfold kindOf isNone isMark isWide; (rw [h0, h1, h2, h3, h4, h5, h6, h7, h8, h9, h10, h11, h12, h13, h14, h15, h16, h17]) <;> rfl)
  go_enter Tryz.func162, Tryz.ntmps162
  go_wp2_with (go_at_call 185; refine (in_any _ _ _ _).mono ?_; rintro e w' ⟨rfl, rfl⟩)
  go_ret
  exact ⟨ret_val HK.out, rfl⟩
set_option maxRecDepth 100000 in
theorem look_18 (r : Int) (w : World) (h0 : decide (r < 32) = false) (h1 : within r 127 159 = false) (h2 : within r 55296 57343 = false) (h3 : decide (1114111 < r) = false) (h4 : within r 768 879 = false) (h5 : within r 6832 6911 = false) (h6 : within r 8203 8207 = false) (h7 : within r 8400 8447 = false) (h8 : within r 65024 65039 = false) (h9 : within r 65056 65071 = false) (h10 : within r 4352 4447 = false) (h11 : within r 11904 12350 = false) (h12 : within r 12353 42191 = false) (h13 : within r 44032 55203 = false) (h14 : within r 63744 64255 = false) (h15 : within r 65072 65135 = false) (h16 : within r 65280 65376 = false) (h17 : within r 65504 65510 = false) (h18 : within r 127744 128591 = true) : Calls Tryz.prog 162 #[.int .i64 r] w fun e w' => e = .returned (kindOf r) ∧ w = w' := by
  have HK : Hid (.iface 190 (.int .i64 2) = kindOf r) := Lib.hid (by unfold kindOf isNone isMark isWide; (rw [h0, h1, h2, h3, h4, h5, h6, h7, h8, h9, h10, h11, h12, h13, h14, h15, h16, h17, h18]) <;> rfl)
  go_enter Tryz.func162, Tryz.ntmps162
  go_wp2_with (go_at_call 185; refine (in_any _ _ _ _).mono ?_; rintro e w' ⟨rfl, rfl⟩)
  go_ret
  exact ⟨ret_val HK.out, rfl⟩
set_option maxRecDepth 100000 in
theorem look_19 (r : Int) (w : World) (h0 : decide (r < 32) = false) (h1 : within r 127 159 = false) (h2 : within r 55296 57343 = false) (h3 : decide (1114111 < r) = false) (h4 : within r 768 879 = false) (h5 : within r 6832 6911 = false) (h6 : within r 8203 8207 = false) (h7 : within r 8400 8447 = false) (h8 : within r 65024 65039 = false) (h9 : within r 65056 65071 = false) (h10 : within r 4352 4447 = false) (h11 : within r 11904 12350 = false) (h12 : within r 12353 42191 = false) (h13 : within r 44032 55203 = false) (h14 : within r 63744 64255 = false) (h15 : within r 65072 65135 = false) (h16 : within r 65280 65376 = false) (h17 : within r 65504 65510 = false) (h18 : within r 127744 128591 = false) (h19 : within r 129280 129535 = true) : Calls Tryz.prog 162 #[.int .i64 r] w fun e w' => e = .returned (kindOf r) ∧ w = w' := by
  have HK : Hid (.iface 190 (.int .i64 2) = kindOf r) := Lib.hid (by unfold kindOf isNone isMark isWide; (rw [h0, h1, h2, h3, h4, h5, h6, h7, h8, h9, h10, h11, h12, h13, h14, h15, h16, h17, h18, h19]) <;> rfl)
  go_enter Tryz.func162, Tryz.ntmps162
  go_wp2_with (go_at_call 185; refine (in_any _ _ _ _).mono ?_; rintro e w' ⟨rfl, rfl⟩)
  go_ret
  exact ⟨ret_val HK.out, rfl⟩
set_option maxRecDepth 100000 in
theorem look_20 (r : Int) (w : World) (h0 : decide (r < 32) = false) (h1 : within r 127 159 = false) (h2 : within r 55296 57343 = false) (h3 : decide (1114111 < r) = false) (h4 : within r 768 879 = false) (h5 : within r 6832 6911 = false) (h6 : within r 8203 8207 = false) (h7 : within r 8400 8447 = false) (h8 : within r 65024 65039 = false) (h9 : within r 65056 65071 = false) (h10 : within r 4352 4447 = false) (h11 : within r 11904 12350 = false) (h12 : within r 12353 42191 = false) (h13 : within r 44032 55203 = false) (h14 : within r 63744 64255 = false) (h15 : within r 65072 65135 = false) (h16 : within r 65280 65376 = false) (h17 : within r 65504 65510 = false) (h18 : within r 127744 128591 = false) (h19 : within r 129280 129535 = false) (h20 : within r 131072 262141 = true) : Calls Tryz.prog 162 #[.int .i64 r] w fun e w' => e = .returned (kindOf r) ∧ w = w' := by
  have HK : Hid (.iface 190 (.int .i64 2) = kindOf r) := Lib.hid (by unfold kindOf isNone isMark isWide; (rw [h0, h1, h2, h3, h4, h5, h6, h7, h8, h9, h10, h11, h12, h13, h14, h15, h16, h17, h18, h19, h20]) <;> rfl)
  go_enter Tryz.func162, Tryz.ntmps162
  go_wp2_with (go_at_call 185; refine (in_any _ _ _ _).mono ?_; rintro e w' ⟨rfl, rfl⟩)
  go_ret
  exact ⟨ret_val HK.out, rfl⟩
set_option maxRecDepth 100000 in
theorem look_21 (r : Int) (w : World) (h0 : decide (r < 32) = false) (h1 : within r 127 159 = false) (h2 : within r 55296 57343 = false) (h3 : decide (1114111 < r) = false) (h4 : within r 768 879 = false) (h5 : within r 6832 6911 = false) (h6 : within r 8203 8207 = false) (h7 : within r 8400 8447 = false) (h8 : within r 65024 65039 = false) (h9 : within r 65056 65071 = false) (h10 : within r 4352 4447 = false) (h11 : within r 11904 12350 = false) (h12 : within r 12353 42191 = false) (h13 : within r 44032 55203 = false) (h14 : within r 63744 64255 = false) (h15 : within r 65072 65135 = false) (h16 : within r 65280 65376 = false) (h17 : within r 65504 65510 = false) (h18 : within r 127744 128591 = false) (h19 : within r 129280 129535 = false) (h20 : within r 131072 262141 = false) : Calls Tryz.prog 162 #[.int .i64 r] w fun e w' => e = .returned (kindOf r) ∧ w = w' := by
  have HK : Hid (.iface 190 (.int .i64 1) = kindOf r) := Lib.hid (by unfold kindOf isNone isMark isWide; (rw [h0, h1, h2, h3, h4, h5, h6, h7, h8, h9, h10, h11, h12, h13, h14, h15, h16, h17, h18, h19, h20]) <;> rfl)
  go_enter Tryz.func162, Tryz.ntmps162
  go_wp2_with (go_at_call 185; refine (in_any _ _ _ _).mono ?_; rintro e w' ⟨rfl, rfl⟩)
  go_ret
  exact ⟨ret_val HK.out, rfl⟩
theorem look_any (r : Int) (w : World) : Calls Tryz.prog 162 #[.int .i64 r] w fun e w' => e = .returned (kindOf r) ∧ w = w' := by
  cases h0 : decide (r < 32)
  case true => exact look_0 r w h0
  cases h1 : within r 127 159
  case true => exact look_1 r w h0 h1
  cases h2 : within r 55296 57343
  case true => exact look_2 r w h0 h1 h2
  cases h3 : decide (1114111 < r)
  case true => exact look_3 r w h0 h1 h2 h3
  cases h4 : within r 768 879
  case true => exact look_4 r w h0 h1 h2 h3 h4
  cases h5 : within r 6832 6911
  case true => exact look_5 r w h0 h1 h2 h3 h4 h5
  cases h6 : within r 8203 8207
  case true => exact look_6 r w h0 h1 h2 h3 h4 h5 h6
  cases h7 : within r 8400 8447
  case true => exact look_7 r w h0 h1 h2 h3 h4 h5 h6 h7
  cases h8 : within r 65024 65039
  case true => exact look_8 r w h0 h1 h2 h3 h4 h5 h6 h7 h8
  cases h9 : within r 65056 65071
  case true => exact look_9 r w h0 h1 h2 h3 h4 h5 h6 h7 h8 h9
  cases h10 : within r 4352 4447
  case true => exact look_10 r w h0 h1 h2 h3 h4 h5 h6 h7 h8 h9 h10
  cases h11 : within r 11904 12350
  case true => exact look_11 r w h0 h1 h2 h3 h4 h5 h6 h7 h8 h9 h10 h11
  cases h12 : within r 12353 42191
  case true => exact look_12 r w h0 h1 h2 h3 h4 h5 h6 h7 h8 h9 h10 h11 h12
  cases h13 : within r 44032 55203
  case true => exact look_13 r w h0 h1 h2 h3 h4 h5 h6 h7 h8 h9 h10 h11 h12 h13
  cases h14 : within r 63744 64255
  case true => exact look_14 r w h0 h1 h2 h3 h4 h5 h6 h7 h8 h9 h10 h11 h12 h13 h14
  cases h15 : within r 65072 65135
  case true => exact look_15 r w h0 h1 h2 h3 h4 h5 h6 h7 h8 h9 h10 h11 h12 h13 h14 h15
  cases h16 : within r 65280 65376
  case true => exact look_16 r w h0 h1 h2 h3 h4 h5 h6 h7 h8 h9 h10 h11 h12 h13 h14 h15 h16
  cases h17 : within r 65504 65510
  case true => exact look_17 r w h0 h1 h2 h3 h4 h5 h6 h7 h8 h9 h10 h11 h12 h13 h14 h15 h16 h17
  cases h18 : within r 127744 128591
  case true => exact look_18 r w h0 h1 h2 h3 h4 h5 h6 h7 h8 h9 h10 h11 h12 h13 h14 h15 h16 h17 h18
  cases h19 : within r 129280 129535
  case true => exact look_19 r w h0 h1 h2 h3 h4 h5 h6 h7 h8 h9 h10 h11 h12 h13 h14 h15 h16 h17 h18 h19
  cases h20 : within r 131072 262141
  case true => exact look_20 r w h0 h1 h2 h3 h4 h5 h6 h7 h8 h9 h10 h11 h12 h13 h14 h15 h16 h17 h18 h19 h20
  exact look_21 r w h0 h1 h2 h3 h4 h5 h6 h7 h8 h9 h10 h11 h12 h13 h14 h15 h16 h17 h18 h19 h20
end Wid
end
section
open Go.RowKit
namespace Wid
theorem pairs_step (r a b : Int) (l : List Int) : pairs r (a :: b :: l) = (within r a b || pairs r l) := rfl
theorem drop_two {l : List Int} {k : Nat} (h : k + 1 < l.length) : l.drop k = l.getD k 0 :: l.getD (k + 1) 0 :: l.drop (k + 2) := by
  rw [List.drop_eq_getElem_cons (by omega), List.drop_eq_getElem_cons (by omega)]
  simp [List.getD, show k < l.length by omega, h]
theorem pairs_short {r : Int} {l : List Int} (h : l.length ≤ 1) : pairs r l = false := by
  match l, h with
  | [], _ => rfl
  | [_], _ => rfl
set_option maxHeartbeats 800000 in
theorem between_any {x : Value} (r : Int) (n : Nat) (l : List Int) (w : World) (hx : Src w x n (ints l)) (hn : n ≤ 1000) :
    Calls Tryz.prog 84 #[.int .i64 r, x] w fun e w' => e = .returned (.bool (pairs r l)) ∧ w = w' := by
  have ln : l.length = n := by have := hx.len; rwa [ints_length] at this
  obtain ⟨A, c, rfl, ha⟩ := hx.form
  have ha' := Lib.hid ha
  have ln' := Lib.hid ln
  clear ha hx ln
  go_enter Tryz.func84, Tryz.ntmps84
  go_wp2_with fail
  go_loop [5] (fun i => ∃ k : Nat, k ≤ n + 1 ∧ i = .int .i64 k ∧ Hid (pairs r (l.drop k) = pairs r l)) (fun i => n + 2 - (intOf i).toNat)
  case atStart => exact ⟨0, by omega, rfl, Lib.hid rfl⟩
  case round =>
    obtain ⟨k, hk, rfl, HP⟩ := hrel
    by_cases hlt : k + 1 < n
    · obtain ⟨ad, rfl, h1⟩ := ha'.out k (by omega)
      obtain ⟨ad', e, h2⟩ := ha'.out (k + 1) hlt
      injection e with e; subst e
      rw [ints_get (by rw [ln'.out]; omega)] at h1
      rw [ints_get (by rw [ln'.out]; omega), show ad.add (k + 1) = { block := ad.block, off := ad.off + (k + 1) } from by simp [Addr.add]] at h2
      have HD : Hid (pairs r l = (within r (l.getD k 0) (l.getD (k + 1) 0) || pairs r (l.drop (k + 2)))) := Lib.hid (by
        rw [← HP.out, drop_two (by rw [ln'.out]; exact hlt), pairs_step])
      generalize l.getD k 0 = a at h1 HD
      generalize l.getD (k + 1) 0 = b at h2 HD
      have hc : decide ((k : Int) + 1 < (n : Int)) = true := decide_eq_true (by omega)
      by_cases g1 : a ≤ r
      · by_cases g2 : r ≤ b
        · have HR : Hid (pairs r l = true) := Lib.hid (by
            rw [HD.out]; unfold within; rw [decide_eq_true g1, decide_eq_true g2]; rfl)
          go_wp2_with fail
          go_ret
          exact ⟨ret_bool HR.out.symm, rfl⟩
        · have HR : Hid (pairs r (l.drop (k + 2)) = pairs r l) := Lib.hid (by
            rw [HD.out]; unfold within; rw [decide_eq_false g2, Bool.and_false, Bool.false_or])
          have hg2 : decide (r ≤ b) = false := decide_eq_false g2
          clear g2
          go_wp2_with fail
          go_round
          case rel => exact ⟨k + 2, by omega, by go_num, HR⟩
          case measure => simp [intOf]; omega
      · have HR : Hid (pairs r (l.drop (k + 2)) = pairs r l) := Lib.hid (by
          rw [HD.out]; unfold within; rw [decide_eq_false g1, Bool.false_and, Bool.false_or])
        have hg1 : decide (a ≤ r) = false := decide_eq_false g1
        clear g1
        go_wp2_with fail
        go_round
        case rel => exact ⟨k + 2, by omega, by go_num, HR⟩
        case measure => simp [intOf]; omega
    · have HR : Hid (pairs r l = false) := Lib.hid (by rw [← HP.out, pairs_short (by rw [List.length_drop, ln'.out]; omega)])
      have hc : decide ((k : Int) + 1 < (n : Int)) = false := decide_eq_false (by omega)
      clear hlt
      go_wp2_with fail
      go_ret
      exact ⟨ret_bool HR.out.symm, rfl⟩
def noneL : List Int := [127, 159, 55296, 57343]
def markL : List Int := [768, 879, 6832, 6911, 8203, 8207, 8400, 8447, 65024, 65039, 65056, 65071]
def wideL : List Int := [4352, 4447, 11904, 12350, 12353, 42191, 44032, 55203, 63744, 64255, 65072, 65135, 65280, 65376, 65504, 65510, 127744, 128591, 129280, 129535, 131072, 262141]
theorem none_pairs (r : Int) (h : decide (r < 32) = false) (k : decide (1114111 < r) = false) : isNone r = pairs r noneL := by
  unfold isNone; rw [h, k]; simp [noneL, pairs]
theorem mark_pairs (r : Int) : isMark r = pairs r markL := by simp [isMark, markL, pairs]
theorem wide_pairs (r : Int) : isWide r = pairs r wideL := by simp [isWide, wideL, pairs]
theorem between_at {x : Value} (r : Int) (n : Nat) (l : List Int) (b : Bool) (hb : pairs r l = b) (w : World) (hx : Src w x n (ints l)) (hn : n ≤ 1000) :
    Calls Tryz.prog 84 #[.int .i64 r, x] w fun e w' => e = .returned (.bool b) ∧ w = w' := by subst hb; exact between_any r n l w hx hn
set_option maxRecDepth 100000 in
set_option maxHeartbeats 1600000 in
theorem width_any (r : Int) (w : World) : Calls Tryz.prog 34 #[.int .i64 r] w fun e w' => e = .returned (.int .i64 (wid r)) ∧ Below w.heap.size w w' := by
  by_cases h1 : r < 32
  · have HW : Hid (wid r = -1) := Lib.hid (by unfold wid isNone; rw [decide_eq_true h1]; rfl)
    go_enter Tryz.func34, Tryz.ntmps34
    go_wp2_with fail
    go_ret
    exact ⟨ret_int HW.out.symm, Below.refl _ _⟩
  · by_cases h2 : 1114111 < r
    · have HW : Hid (wid r = -1) := Lib.hid (by unfold wid isNone; rw [decide_eq_true h2, Bool.or_true, Bool.or_true, Bool.or_true]; rfl)
      have hd1 : decide (r < 32) = false := decide_eq_false h1
      go_enter Tryz.func34, Tryz.ntmps34
      go_wp2_with fail
      go_ret
      exact ⟨ret_int HW.out.symm, Below.refl _ _⟩
    · have hd1 : decide (r < 32) = false := decide_eq_false h1
      have hd2 : decide (1114111 < r) = false := decide_eq_false h2
      have hN := none_pairs r hd1 hd2
      have hM := mark_pairs r
      have hI := wide_pairs r
      have hw : wid r = bif pairs r noneL then -1 else bif pairs r markL then 0 else bif pairs r wideL then 2 else 1 := by
        unfold wid; rw [hN, hM, hI]
      clear hN hM hI h1 h2
      cases p1 : pairs r noneL
      case true =>
        have HW : Hid (wid r = -1) := Lib.hid (by rw [hw, p1]; rfl)
        have P1 := Lib.hid p1
        clear hw p1
        go_enter Tryz.func34, Tryz.ntmps34
        go_wp2_with fail
        refine (between_at r 4 noneL _ P1.out _ (Src.made_at _ _ _ _ _ _ _ rfl rfl rfl) (by decide)).mono ?_; rintro e w' ⟨rfl, rfl⟩
        go_wp2_with fail
        go_ret
        exact ⟨ret_int HW.out.symm, (Below.refl _ _).alloc (Nat.le_refl _) _⟩
      case false =>
        have P1 := Lib.hid p1
        cases p2 : pairs r markL
        case true =>
          have HW : Hid (wid r = 0) := Lib.hid (by rw [hw, p1, p2]; rfl)
          have P2 := Lib.hid p2
          clear hw p1 p2
          go_enter Tryz.func34, Tryz.ntmps34
          go_wp2_with fail
          refine (between_at r 4 noneL _ P1.out _ (Src.made_at _ _ _ _ _ _ _ rfl rfl rfl) (by decide)).mono ?_; rintro e w' ⟨rfl, rfl⟩
          go_wp2_with fail
          refine (between_at r 12 markL _ P2.out _ (Src.made_at _ _ _ _ _ _ _ (by simp) rfl rfl) (by decide)).mono ?_; rintro e w' ⟨rfl, rfl⟩
          go_wp2_with fail
          go_ret
          exact ⟨ret_int HW.out.symm, ((Below.refl _ _).alloc (Nat.le_refl _) _).alloc (by simp) _⟩
        case false =>
          have P2 := Lib.hid p2
          cases p3 : pairs r wideL
          all_goals
            have HW : Hid (wid r = _) := Lib.hid (by rw [hw, p1, p2, p3])
            have P3 := Lib.hid p3
            clear hw p1 p2 p3
            go_enter Tryz.func34, Tryz.ntmps34
            go_wp2_with fail
            refine (between_at r 4 noneL _ P1.out _ (Src.made_at _ _ _ _ _ _ _ rfl rfl rfl) (by decide)).mono ?_; rintro e w' ⟨rfl, rfl⟩
            go_wp2_with fail
            refine (between_at r 12 markL _ P2.out _ (Src.made_at _ _ _ _ _ _ _ (by simp) rfl rfl) (by decide)).mono ?_; rintro e w' ⟨rfl, rfl⟩
            go_wp2_with fail
            refine (between_at r 22 wideL _ P3.out _ (Src.made_at _ _ _ _ _ _ _ (by simp) rfl rfl) (by decide)).mono ?_; rintro e w' ⟨rfl, rfl⟩
            go_wp2_with fail
            go_ret
            exact ⟨ret_int HW.out.symm, (((Below.refl _ _).alloc (Nat.le_refl _) _).alloc (by simp) _).alloc (by simp; omega) _⟩
end Wid
end
end Go.Proofs.YtceaoadlhdgnmaaGreatDoor
