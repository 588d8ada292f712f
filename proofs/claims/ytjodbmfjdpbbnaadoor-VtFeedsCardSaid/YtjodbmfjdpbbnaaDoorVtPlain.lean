/- The parser as plain data: which states may be, what a byte does in each, what all bytes do. No program stands in this text. -/
import Derived.Test.YtjodbmfjdpbbnaaDoorUtfPlain
namespace Go.Proofs.YtjodbmfjdpbbnaaDoor
set_option maxRecDepth 100000
namespace Vt

/-- A state of the parser. -/
structure Ps where
  state : Int
  part : List UInt8
  params : List Int
  inter : List UInt8
  text : List UInt8
/-- What it tells. -/
structure Ev where
  kind : Int
  rune : Int
  params : List Int
  inter : List UInt8
  text : List UInt8
def none_ (s : Int) : Ps := ⟨s, [], [], [], []⟩
/-- A machine: its state, what it has told. -/
structure Mc where
  p : Ps
  l : List Ev

def printE (r : Int) : Ev := ⟨1, r, [], [], []⟩
def shown (r : Int) : Bool := decide (r < 128) || decide (159 < r)
def prints (l : List Int) : List Ev := (l.filter shown).map printE
def Mc.to (m : Mc) (s : Int) : Mc := ⟨none_ s, m.l⟩
def Mc.tell (m : Mc) (e : Ev) : Mc := ⟨m.p, m.l ++ [e]⟩
def Mc.print (m : Mc) (l : List Int) : Mc := ⟨m.p, m.l ++ prints l⟩
def Mc.control (m : Mc) (b : UInt8) : Mc := m.tell ⟨2, b.toNat, [], [], []⟩
def Mc.flush (m : Mc) : Mc := if m.p.part = [] then m else ⟨{ m.p with part := [] }, m.l ++ prints [65533]⟩
def Mc.ground (m : Mc) (b : UInt8) : Mc :=
  if b.toNat < 32 then m.flush.control b
  else if b.toNat = 127 then m.flush
  else ⟨{ m.p with part := (Utf.next m.p.part b).2 }, m.l ++ prints (Utf.next m.p.part b).1⟩
def isStr (b : UInt8) : Bool := b.toNat == 80 || b.toNat == 88 || b.toNat == 94 || b.toNat == 95
def Mc.escape (m : Mc) (b : UInt8) : Mc :=
  if b.toNat < 32 then m.control b
  else if b.toNat ≤ 47 then ⟨{ m.p with state := 2, inter := if m.p.inter.length < 3 then m.p.inter ++ [b] else m.p.inter }, m.l⟩
  else if b.toNat = 127 then m
  else if 127 < b.toNat then m.to 0
  else if m.p.state = 1 ∧ b.toNat = 91 then m.to 3
  else if m.p.state = 1 ∧ b.toNat = 93 then m.to 5
  else if m.p.state = 1 ∧ isStr b = true then m.to 6
  else (m.tell ⟨3, b.toNat, [], m.p.inter, []⟩).to 0
/-- A byte from 0x20 to 0x2f has come last. -/
def between (i : List UInt8) : Bool := decide (0 < i.length) && decide ((i.getD (i.length - 1) 0).toNat ≤ 47)
def digit (l : List Int) (b : UInt8) : List Int :=
  let l := if l = [] then [-1] else l
  l.set (l.length - 1) (min 9999 (10 * max 0 (l.getD (l.length - 1) 0) + ((b.toNat : Int) - 48)))
def Mc.csi (m : Mc) (b : UInt8) : Mc :=
  if b.toNat < 32 then m.control b
  else if b.toNat ≤ 47 then (if m.p.inter.length = 3 then m.to 4 else ⟨{ m.p with inter := m.p.inter ++ [b] }, m.l⟩)
  else if b.toNat ≤ 63 ∧ between m.p.inter = true then m.to 4
  else if b.toNat ≤ 57 then ⟨{ m.p with params := digit m.p.params b }, m.l⟩
  else if b.toNat ≤ 59 then (if m.p.params.length = 16 then m.to 4 else ⟨{ m.p with params := (if m.p.params = [] then [-1] else m.p.params) ++ [-1] }, m.l⟩)
  else if b.toNat ≤ 63 then (if 0 < m.p.params.length ∨ m.p.inter ≠ [] then m.to 4 else ⟨{ m.p with inter := [b] }, m.l⟩)
  else if b.toNat = 127 then m
  else if 127 < b.toNat then m.to 0
  else (m.tell ⟨4, b.toNat, m.p.params, m.p.inter, []⟩).to 0
/-- A byte in a state that is not one behind an escape within a text. -/
def Mc.low (m : Mc) (b : UInt8) : Mc :=
  if m.p.state = 0 then m.ground b
  else if m.p.state = 1 ∨ m.p.state = 2 then m.escape b
  else if m.p.state = 3 then m.csi b
  else if m.p.state = 4 then (if b.toNat < 32 then m.control b else if 64 ≤ b.toNat ∧ b.toNat ≠ 127 then m.to 0 else m)
  else if m.p.state = 5 then
    (if b.toNat = 7 then (m.tell ⟨5, 0, [], [], m.p.text⟩).to 0
     else if b.toNat = 27 then ⟨{ m.p with state := 7 }, m.l⟩
     else if 32 ≤ b.toNat ∧ m.p.text.length < 64 then ⟨{ m.p with text := m.p.text ++ [b] }, m.l⟩ else m)
  else (if b.toNat = 27 then m.to 8 else m)
def Mc.byte (m : Mc) (b : UInt8) : Mc :=
  if b.toNat = 24 ∨ b.toNat = 26 then (m.flush.control b).to 0
  else if b.toNat = 27 ∧ ¬ (m.p.state = 5 ∨ m.p.state = 6) then m.flush.to 1
  else if m.p.state ≤ 6 then m.low b
  else if b.toNat = 92 then (if m.p.state = 7 then m.tell ⟨5, 0, [], [], m.p.text⟩ else m).to 0
  else (m.to 1).escape b
def Mc.feed (m : Mc) (s : List UInt8) : Mc := s.foldl Mc.byte m
/-- All bytes, in a state: what is told, and the state behind them. -/
def feed (p : Ps) (s : List UInt8) : List Ev × Ps := ((Mc.feed ⟨p, []⟩ s).l, (Mc.feed ⟨p, []⟩ s).p)

/-! ### which states may be -/
def paramOk (n : Int) : Bool := decide (-1 ≤ n) && decide (n ≤ 9999)
def interOk (csi : Bool) (i : Nat) (b : UInt8) : Bool := (decide (i = 0) && csi && decide (60 ≤ b.toNat) && decide (b.toNat ≤ 63)) || (decide (32 ≤ b.toNat) && decide (b.toNat ≤ 47))
def intersOk (csi : Bool) : Nat → List UInt8 → Bool
  | _, [] => true
  | i, b :: l => interOk csi i b && intersOk csi (i + 1) l
def textOk (l : List UInt8) : Bool := l.all fun b => decide (32 ≤ b.toNat)
/-- The first line of what is asked. -/
def headOk (p : Ps) : Bool :=
  decide (0 ≤ p.state) && decide (p.state ≤ 8) && Utf.fits p.part && !(decide (p.part ≠ []) && decide (p.state ≠ 0)) && decide (p.params.length ≤ 16) && !(decide (0 < p.params.length) && decide (p.state ≠ 3)) && decide (p.inter.length ≤ 3) && decide (p.text.length ≤ 64)
def restOk (p : Ps) : Bool :=
  !(decide (p.state ≠ 3) && (decide (p.state = 2) != decide (p.inter ≠ [])))
def okB (p : Ps) : Bool :=
  headOk p && p.params.all paramOk && intersOk (decide (p.state = 3)) 0 p.inter && restOk p && textOk p.text && (decide (p.text = []) || decide (p.state = 5) || decide (p.state = 7))

structure Ok (p : Ps) : Prop where
  s0 : 0 ≤ p.state
  s8 : p.state ≤ 8
  fit : Utf.fits p.part = true
  part : p.state ≠ 0 → p.part = []
  n16 : p.params.length ≤ 16
  csi : p.state ≠ 3 → p.params = []
  i3 : p.inter.length ≤ 3
  t64 : p.text.length ≤ 64
  par : ∀ n ∈ p.params, -1 ≤ n ∧ n ≤ 9999
  int_ : intersOk (decide (p.state = 3)) 0 p.inter = true
  two : p.state = 2 → p.inter ≠ []
  non : p.state ≠ 2 → p.state ≠ 3 → p.inter = []
  txt : textOk p.text = true
  osc : p.state ≠ 5 → p.state ≠ 7 → p.text = []
theorem ok_iff (p : Ps) : okB p = true ↔ Ok p := by
  constructor
  · intro h
    simp only [okB, headOk, restOk, Bool.and_eq_true, Bool.not_eq_true', Bool.and_eq_false_iff, decide_eq_true_eq, decide_eq_false_iff_not, Bool.or_eq_true, List.all_eq_true, paramOk, bne_eq_false_iff_eq, decide_eq_decide] at h
    obtain ⟨⟨⟨⟨⟨⟨⟨⟨⟨⟨⟨⟨h1, h2⟩, h3⟩, h4⟩, h5⟩, h6⟩, h7⟩, h8⟩, h9⟩, h10⟩, h11⟩, h12⟩, h13⟩ := h
    refine ⟨h1, h2, h3, fun hs => ?_, h5, fun hs => ?_, h7, h8, h9, h10, fun hs => ?_, fun h2' h3' => ?_, h12, fun a b => ?_⟩
    · rcases h4 with h | h
      · exact Classical.not_not.1 h
      · exact absurd hs h
    · rcases h6 with h | h
      · exact List.eq_nil_of_length_eq_zero (by omega)
      · exact absurd hs h
    · rcases h11 with h | h
      · exfalso; exact h (by omega)
      · exact h.1 hs
    · rcases h11 with h | h
      · exact absurd h3' h
      · exact Classical.not_not.1 fun hh => h2' (h.2 hh)
    · rcases h13 with (h | h) | h
      · exact h
      · exact absurd h a
      · exact absurd h b
  · intro h
    simp only [okB, headOk, restOk, Bool.and_eq_true, Bool.not_eq_true', Bool.and_eq_false_iff, decide_eq_true_eq, decide_eq_false_iff_not, Bool.or_eq_true, List.all_eq_true, paramOk, bne_eq_false_iff_eq, decide_eq_decide]
    refine ⟨⟨⟨⟨⟨⟨⟨⟨⟨⟨⟨⟨h.s0, h.s8⟩, h.fit⟩, ?_⟩, h.n16⟩, ?_⟩, h.i3⟩, h.t64⟩, h.par⟩, h.int_⟩, ?_⟩, h.txt⟩, ?_⟩
    · by_cases hs : p.state = 0
      · exact .inr (fun e => e hs)
      · exact .inl (fun e => e (h.part hs))
    · by_cases hs : p.state = 3
      · exact .inr (fun e => e hs)
      · left; rw [h.csi hs]; simp
    · by_cases hs : p.state = 3
      · exact .inl (fun e => e hs)
      · right
        constructor
        · exact h.two
        · intro hi
          by_cases h2 : p.state = 2
          · exact h2
          · exact absurd (h.non h2 hs) hi
    · by_cases h5 : p.state = 5
      · exact .inl (.inr h5)
      · by_cases h7 : p.state = 7
        · exact .inr h7
        · exact .inl (.inl (h.osc h5 h7))

/-! ### what was told before stays ahead -/
def Mc.behind (l : List Ev) (m : Mc) : Mc := ⟨m.p, l ++ m.l⟩
section
variable (l : List Ev) (m : Mc) (b : UInt8)
theorem behind_p : (m.behind l).p = m.p := rfl
theorem to_behind (s : Int) : (m.behind l).to s = (m.to s).behind l := rfl
theorem tell_behind (e : Ev) : (m.behind l).tell e = (m.tell e).behind l := by simp [Mc.behind, Mc.tell]
theorem control_behind : (m.behind l).control b = (m.control b).behind l := tell_behind l m _
theorem flush_behind : (m.behind l).flush = m.flush.behind l := by
  unfold Mc.flush
  rw [behind_p]
  split
  · rfl
  · simp [Mc.behind]
theorem ground_behind : (m.behind l).ground b = (m.ground b).behind l := by
  unfold Mc.ground
  rw [behind_p, flush_behind]
  split
  · exact control_behind l _ b
  · split
    · rfl
    · simp [Mc.behind]
theorem escape_behind : (m.behind l).escape b = (m.escape b).behind l := by
  unfold Mc.escape
  rw [behind_p]
  by_cases h1 : b.toNat < 32
  · rw [if_pos h1, if_pos h1]; exact control_behind l m b
  rw [if_neg h1, if_neg h1]
  by_cases h2 : b.toNat ≤ 47
  · rw [if_pos h2, if_pos h2]; rfl
  rw [if_neg h2, if_neg h2]
  by_cases h3 : b.toNat = 127
  · rw [if_pos h3, if_pos h3]
  rw [if_neg h3, if_neg h3]
  by_cases h4 : 127 < b.toNat
  · rw [if_pos h4, if_pos h4]; rfl
  rw [if_neg h4, if_neg h4]
  by_cases h5 : m.p.state = 1 ∧ b.toNat = 91
  · rw [if_pos h5, if_pos h5]; rfl
  rw [if_neg h5, if_neg h5]
  by_cases h6 : m.p.state = 1 ∧ b.toNat = 93
  · rw [if_pos h6, if_pos h6]; rfl
  rw [if_neg h6, if_neg h6]
  by_cases h7 : m.p.state = 1 ∧ isStr b = true
  · rw [if_pos h7, if_pos h7]; rfl
  rw [if_neg h7, if_neg h7, tell_behind]; rfl
theorem csi_behind : (m.behind l).csi b = (m.csi b).behind l := by
  unfold Mc.csi
  rw [behind_p]
  by_cases h1 : b.toNat < 32
  · rw [if_pos h1, if_pos h1]; exact control_behind l m b
  rw [if_neg h1, if_neg h1]
  by_cases h2 : b.toNat ≤ 47
  · rw [if_pos h2, if_pos h2]
    split <;> rfl
  rw [if_neg h2, if_neg h2]
  by_cases h3 : b.toNat ≤ 63 ∧ between m.p.inter = true
  · rw [if_pos h3, if_pos h3]; rfl
  rw [if_neg h3, if_neg h3]
  by_cases h4 : b.toNat ≤ 57
  · rw [if_pos h4, if_pos h4]; rfl
  rw [if_neg h4, if_neg h4]
  by_cases h5 : b.toNat ≤ 59
  · rw [if_pos h5, if_pos h5]
    by_cases h : m.p.params.length = 16
    · rw [if_pos h, if_pos h]; rfl
    · rw [if_neg h, if_neg h]; rfl
  rw [if_neg h5, if_neg h5]
  by_cases h6 : b.toNat ≤ 63
  · rw [if_pos h6, if_pos h6]
    by_cases h : 0 < m.p.params.length ∨ m.p.inter ≠ []
    · rw [if_pos h, if_pos h]; rfl
    · rw [if_neg h, if_neg h]; rfl
  rw [if_neg h6, if_neg h6]
  by_cases h7 : b.toNat = 127
  · rw [if_pos h7, if_pos h7]
  rw [if_neg h7, if_neg h7]
  by_cases h8 : 127 < b.toNat
  · rw [if_pos h8, if_pos h8]; rfl
  rw [if_neg h8, if_neg h8, tell_behind]; rfl
theorem low_behind : (m.behind l).low b = (m.low b).behind l := by
  unfold Mc.low
  rw [behind_p]
  by_cases h0 : m.p.state = 0
  · rw [if_pos h0, if_pos h0]; exact ground_behind l m b
  rw [if_neg h0, if_neg h0]
  by_cases h1 : m.p.state = 1 ∨ m.p.state = 2
  · rw [if_pos h1, if_pos h1]; exact escape_behind l m b
  rw [if_neg h1, if_neg h1]
  by_cases h3 : m.p.state = 3
  · rw [if_pos h3, if_pos h3]; exact csi_behind l m b
  rw [if_neg h3, if_neg h3]
  by_cases h4 : m.p.state = 4
  · rw [if_pos h4, if_pos h4]
    by_cases g : b.toNat < 32
    · rw [if_pos g, if_pos g]; exact control_behind l m b
    rw [if_neg g, if_neg g]
    by_cases g : 64 ≤ b.toNat ∧ b.toNat ≠ 127
    · rw [if_pos g, if_pos g]; rfl
    · rw [if_neg g, if_neg g]
  rw [if_neg h4, if_neg h4]
  by_cases h5 : m.p.state = 5
  · rw [if_pos h5, if_pos h5]
    by_cases g : b.toNat = 7
    · rw [if_pos g, if_pos g, tell_behind]; rfl
    rw [if_neg g, if_neg g]
    by_cases g : b.toNat = 27
    · rw [if_pos g, if_pos g]; rfl
    rw [if_neg g, if_neg g]
    by_cases g : 32 ≤ b.toNat ∧ m.p.text.length < 64
    · rw [if_pos g, if_pos g]; rfl
    · rw [if_neg g, if_neg g]
  rw [if_neg h5, if_neg h5]
  by_cases g : b.toNat = 27
  · rw [if_pos g, if_pos g]; rfl
  · rw [if_neg g, if_neg g]
theorem byte_behind : (m.behind l).byte b = (m.byte b).behind l := by
  unfold Mc.byte
  rw [behind_p, flush_behind]
  by_cases h1 : b.toNat = 24 ∨ b.toNat = 26
  · rw [if_pos h1, if_pos h1, control_behind]; rfl
  rw [if_neg h1, if_neg h1]
  by_cases h2 : b.toNat = 27 ∧ ¬ (m.p.state = 5 ∨ m.p.state = 6)
  · rw [if_pos h2, if_pos h2]; rfl
  rw [if_neg h2, if_neg h2]
  by_cases h3 : m.p.state ≤ 6
  · rw [if_pos h3, if_pos h3]; exact low_behind l m b
  rw [if_neg h3, if_neg h3]
  by_cases h4 : b.toNat = 92
  · rw [if_pos h4, if_pos h4]
    by_cases h7 : m.p.state = 7
    · rw [if_pos h7, if_pos h7, tell_behind]; rfl
    · rw [if_neg h7, if_neg h7]; rfl
  rw [if_neg h4, if_neg h4, to_behind]; exact escape_behind l _ b
end
theorem feed_behind (l : List Ev) : ∀ (s : List UInt8) (m : Mc), (m.behind l).feed s = (m.feed s).behind l
  | [], _ => rfl
  | b :: s, m => by
    show ((m.behind l).byte b).feed s = ((m.byte b).feed s).behind l
    rw [byte_behind]; exact feed_behind l s _
/-- In pieces it is the same. -/
theorem feed_append (p : Ps) (s t : List UInt8) : feed p (s ++ t) = ((feed p s).1 ++ (feed (feed p s).2 t).1, (feed (feed p s).2 t).2) := by
  have h : Mc.feed ⟨p, []⟩ (s ++ t) = (Mc.feed ⟨(feed p s).2, []⟩ t).behind (feed p s).1 := by
    have e : Mc.feed ⟨p, []⟩ s = Mc.behind (feed p s).1 ⟨(feed p s).2, []⟩ := by simp [Mc.behind, feed]
    unfold Mc.feed
    rw [List.foldl_append]
    show Mc.feed (Mc.feed ⟨p, []⟩ s) t = _
    rw [e]; exact feed_behind _ _ _
  unfold feed at h ⊢
  rw [h]; rfl

/-! ### a state that may be leads to one -/
theorem ok_none {s : Int} (h0 : 0 ≤ s) (h8 : s ≤ 8) (h2 : s ≠ 2) : Ok (none_ s) :=
  ⟨h0, h8, rfl, fun _ => rfl, by simp [none_], fun _ => rfl, by simp [none_], by simp [none_], by simp [none_], rfl, fun e => absurd e h2, fun _ _ => rfl, rfl, fun _ _ => rfl⟩
theorem intersOk_snoc (c : Bool) (b : UInt8) : ∀ (l : List UInt8) (i : Nat), intersOk c i (l ++ [b]) = (intersOk c i l && interOk c (i + l.length) b)
  | [], i => by simp [intersOk]
  | a :: l, i => by
    simp only [List.cons_append, intersOk, List.length_cons]
    rw [intersOk_snoc c b l (i + 1), Bool.and_assoc, show i + 1 + l.length = i + (l.length + 1) from by omega]
theorem interOk_mid {c : Bool} {i : Nat} {b : UInt8} (h : 32 ≤ b.toNat) (k : b.toNat ≤ 47) : interOk c i b = true := by
  unfold interOk; rw [decide_eq_true h, decide_eq_true k]; simp
theorem ok_flush {m : Mc} (h : Ok m.p) : Ok m.flush.p := by
  unfold Mc.flush
  split
  · exact h
  · exact ⟨h.s0, h.s8, rfl, fun _ => rfl, h.n16, h.csi, h.i3, h.t64, h.par, h.int_, h.two, h.non, h.txt, h.osc⟩
theorem ok_ground {m : Mc} (b : UInt8) (h : Ok m.p) (hs : m.p.state = 0) : Ok (m.ground b).p := by
  unfold Mc.ground
  split
  · exact ok_flush h
  split
  · exact ok_flush h
  · exact ⟨h.s0, h.s8, Utf.next_fits b h.fit, fun e => absurd hs e, h.n16, h.csi, h.i3, h.t64, h.par, h.int_, h.two, h.non, h.txt, h.osc⟩
theorem ok_escape {m : Mc} (b : UInt8) (h : Ok m.p) (hs : m.p.state = 1 ∨ m.p.state = 2) : Ok (m.escape b).p := by
  have e3 : decide (m.p.state = 3) = false := decide_eq_false (by omega)
  have hi := h.int_
  rw [e3] at hi
  unfold Mc.escape
  split
  · exact h
  rename_i c1
  split
  · rename_i c2
    refine ⟨by show (0 : Int) ≤ 2; decide, by show (2 : Int) ≤ 8; decide, h.fit, fun _ => h.part (by omega), h.n16, fun _ => h.csi (by omega), ?_, h.t64, h.par, ?_, fun _ => ?_, fun e _ => absurd rfl e, h.txt, fun _ _ => h.osc (by omega) (by omega)⟩
    · show (if m.p.inter.length < 3 then m.p.inter ++ [b] else m.p.inter).length ≤ 3
      split
      · simp; omega
      · exact h.i3
    · show intersOk (decide ((2 : Int) = 3)) 0 (if m.p.inter.length < 3 then m.p.inter ++ [b] else m.p.inter) = true
      rw [show decide ((2 : Int) = 3) = false from rfl]
      split
      · rw [intersOk_snoc, hi, interOk_mid (by omega) c2]; rfl
      · exact hi
    · show (if m.p.inter.length < 3 then m.p.inter ++ [b] else m.p.inter) ≠ []
      split
      · simp
      · intro e; rename_i c3; rw [e] at c3; simp at c3
  split
  · exact h
  split
  · exact ok_none (by decide) (by decide) (by decide)
  split
  · exact ok_none (by decide) (by decide) (by decide)
  split
  · exact ok_none (by decide) (by decide) (by decide)
  split
  · exact ok_none (by decide) (by decide) (by decide)
  · exact ok_none (by decide) (by decide) (by decide)
theorem digit_ok {l : List Int} {b : UInt8} (h : ∀ n ∈ l, -1 ≤ n ∧ n ≤ 9999) (h1 : 48 ≤ b.toNat) : ∀ n ∈ digit l b, -1 ≤ n ∧ n ≤ 9999 := by
  intro n hn
  unfold digit at hn
  have hl : ∀ n ∈ (if l = [] then [-1] else l), -1 ≤ n ∧ n ≤ 9999 := by
    split
    · intro n hn; simp at hn; omega
    · exact h
  rcases List.mem_or_eq_of_mem_set hn with hn | rfl
  · exact hl n hn
  · omega
theorem digit_len (l : List Int) (b : UInt8) : (digit l b).length = if l = [] then 1 else l.length := by
  unfold digit
  rw [List.length_set]
  split <;> rfl
theorem ok_csi {m : Mc} (b : UInt8) (h : Ok m.p) (hs : m.p.state = 3) : Ok (m.csi b).p := by
  have e3 : decide (m.p.state = 3) = true := decide_eq_true hs
  have hi := h.int_
  rw [e3] at hi
  unfold Mc.csi
  split
  · exact h
  rename_i c1
  split
  · rename_i c2
    split
    · exact ok_none (by decide) (by decide) (by decide)
    · rename_i c3
      have := h.i3
      refine ⟨h.s0, h.s8, h.fit, h.part, h.n16, h.csi, ?_, h.t64, h.par, ?_, fun _ => ?_, fun _ e => absurd hs e, h.txt, h.osc⟩
      · show (m.p.inter ++ [b]).length ≤ 3
        simp; omega
      · show intersOk (decide (m.p.state = 3)) 0 (m.p.inter ++ [b]) = true
        rw [e3, intersOk_snoc, hi, interOk_mid (by omega) c2]; rfl
      · show m.p.inter ++ [b] ≠ []
        simp
  rename_i c2
  split
  · exact ok_none (by decide) (by decide) (by decide)
  split
  · refine ⟨h.s0, h.s8, h.fit, h.part, ?_, fun e => absurd hs e, h.i3, h.t64, digit_ok h.par (by omega), h.int_, h.two, h.non, h.txt, h.osc⟩
    show (digit m.p.params b).length ≤ 16
    rw [digit_len]
    have := h.n16
    split <;> omega
  split
  · split
    · exact ok_none (by decide) (by decide) (by decide)
    · rename_i c5
      have := h.n16
      refine ⟨h.s0, h.s8, h.fit, h.part, ?_, fun e => absurd hs e, h.i3, h.t64, ?_, h.int_, h.two, h.non, h.txt, h.osc⟩
      · show ((if m.p.params = [] then [-1] else m.p.params) ++ [-1]).length ≤ 16
        split
        · simp
        · simp; omega
      · intro n hn
        have hn : n ∈ (if m.p.params = [] then [-1] else m.p.params) ++ [-1] := hn
        rcases List.mem_append.1 hn with hn | hn
        · split at hn
          · simp at hn; omega
          · exact h.par n hn
        · simp at hn; omega
  split
  · split
    · exact ok_none (by decide) (by decide) (by decide)
    · rename_i c3 c4 c5 c6
      refine ⟨h.s0, h.s8, h.fit, h.part, h.n16, h.csi, by show [b].length ≤ 3; simp, h.t64, h.par, ?_, fun _ => by show [b] ≠ []; simp, fun _ e => absurd hs e, h.txt, h.osc⟩
      show intersOk (decide (m.p.state = 3)) 0 [b] = true
      rw [e3]
      simp [intersOk, interOk]
      omega
  split
  · exact h
  split
  · exact ok_none (by decide) (by decide) (by decide)
  · exact ok_none (by decide) (by decide) (by decide)
theorem textOk_snoc {l : List UInt8} {b : UInt8} (h : textOk l = true) (hb : 32 ≤ b.toNat) : textOk (l ++ [b]) = true := by
  unfold textOk at h ⊢
  rw [List.all_append, h]
  simp [hb]
theorem ok_low {m : Mc} (b : UInt8) (h : Ok m.p) : Ok (m.low b).p := by
  unfold Mc.low
  split
  · rename_i c; exact ok_ground b h c
  split
  · rename_i c; exact ok_escape b h c
  split
  · rename_i c; exact ok_csi b h c
  split
  · split
    · exact h
    split
    · exact ok_none (by decide) (by decide) (by decide)
    · exact h
  rename_i c0 c1 c3 c4
  split
  · rename_i c5
    split
    · exact ok_none (by decide) (by decide) (by decide)
    split
    · refine ⟨by show (0 : Int) ≤ 7; decide, by show (7 : Int) ≤ 8; decide, h.fit, fun _ => h.part (by omega), h.n16, fun _ => h.csi (by omega), h.i3, h.t64, h.par, ?_, fun e => absurd (show (7 : Int) = 2 from e) (by decide), fun _ _ => h.non (by omega) (by omega), h.txt, fun _ e => absurd rfl e⟩
      show intersOk (decide ((7 : Int) = 3)) 0 m.p.inter = true
      rw [h.non (by omega) (by omega)]; rfl
    split
    · rename_i c6
      refine ⟨h.s0, h.s8, h.fit, h.part, h.n16, h.csi, h.i3, ?_, h.par, h.int_, h.two, h.non, textOk_snoc h.txt c6.1, fun e => absurd c5 e⟩
      show (m.p.text ++ [b]).length ≤ 64
      simp; omega
    · exact h
  split
  · exact ok_none (by decide) (by decide) (by decide)
  · exact h
theorem ok_byte {m : Mc} (b : UInt8) (h : Ok m.p) : Ok (m.byte b).p := by
  unfold Mc.byte
  split
  · exact ok_none (by decide) (by decide) (by decide)
  split
  · exact ok_none (by decide) (by decide) (by decide)
  split
  · exact ok_low b h
  split
  · exact ok_none (by decide) (by decide) (by decide)
  · exact ok_escape b (ok_none (by decide) (by decide) (by decide)) (.inl rfl)
theorem ok_feeds : ∀ (s : List UInt8) {m : Mc}, Ok m.p → Ok (m.feed s).p
  | [], _, h => h
  | b :: s, _, h => ok_feeds s (ok_byte b h)
theorem ok_feed {p : Ps} (s : List UInt8) (h : Ok p) : Ok (feed p s).2 := ok_feeds s h
end Vt
end Go.Proofs.YtjodbmfjdpbbnaaDoor
