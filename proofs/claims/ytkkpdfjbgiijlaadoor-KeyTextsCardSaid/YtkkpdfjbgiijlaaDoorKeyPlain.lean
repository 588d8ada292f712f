/- Keys as plain data: which may be, their bytes under modes, their text and back. No program stands in this text. -/
import Derived.Test.YtkkpdfjbgiijlaaDoorTri
namespace Go.Proofs.YtkkpdfjbgiijlaaDoor
set_option maxRecDepth 100000
open Go.RowKit
namespace Key
open Tri

def rng (n lo hi : Int) : Bool := decide (lo ≤ n) && decide (n ≤ hi)
theorem rng_yes {n lo hi : Int} : rng n lo hi = true ↔ lo ≤ n ∧ n ≤ hi := by unfold rng; rw [Bool.and_eq_true, decide_eq_true_eq, decide_eq_true_eq]
theorem rng_no {n lo hi : Int} : rng n lo hi = false ↔ ¬ (lo ≤ n ∧ n ≤ hi) := by rw [← rng_yes]; cases rng n lo hi <;> simp
def runeOk (r : Int) : Bool := rng r 32 1114111 && (decide (r ≠ 127) && !rng r 55296 57343)
def keyB (k : T3) : Bool := rng k.c 0 7 && (if k.a = 1 then runeOk k.b else if k.a = 12 then rng k.b 1 2 else rng k.a 2 11 && decide (k.b = 0))
/-- Is a bit of it set? -/
def hasF (m f : Int) : Bool := bits .and .i64 m f != 0
def altOf (m : Int) : ByteArray := if hasF m 2 = true then ⟨#[27]⟩ else ⟨#[]⟩
def ctrlOk (k : T3) : Bool := hasF k.c 4 && (rng k.b 64 95 || rng k.b 97 122)
def lastOf (kind : Int) : UInt8 := [65, 66, 67, 68, 72, 70].getD (kind - 2).toNat 0
def low5 (r : Int) : UInt8 := UInt8.ofNat (bits .and .i64 r 31).toNat
def runeK (k : T3) : ByteArray := if ctrlOk k = true then ⟨#[low5 k.b]⟩ else Utf8.encode k.b
def pasteK (r modes : Int) : ByteArray := if hasF modes 128 = true then (if r = 1 then ⟨#[27, 91, 50, 48, 48, 126]⟩ else ⟨#[27, 91, 50, 48, 49, 126]⟩) else ⟨#[]⟩
def goK (kind mods modes : Int) : ByteArray := if mods ≠ 0 then ⟨#[27, 91, 49, 59, UInt8.ofNat (49 + mods.toNat), lastOf kind]⟩ else if hasF modes 16 = true then ⟨#[27, 79, lastOf kind]⟩ else ⟨#[27, 91, lastOf kind]⟩
def bytesK (k : T3) (modes : Int) : ByteArray :=
  if k.a = 1 then altOf k.c ++ runeK k
  else if k.a = 8 then altOf k.c ++ (if hasF modes 4 = true then ⟨#[13, 10]⟩ else ⟨#[13]⟩)
  else if k.a = 9 then (if hasF k.c 1 = true then ⟨#[27, 91, 90]⟩ else altOf k.c ++ ⟨#[9]⟩)
  else if k.a = 10 then altOf k.c ++ ⟨#[127]⟩
  else if k.a = 11 then altOf k.c ++ ⟨#[27]⟩
  else if k.a = 12 then pasteK k.b modes
  else goK k.a k.c modes
/-! ### texts of keys -/
def u8 (n : Int) : UInt8 := UInt8.ofNat (n % 256).toNat
def five (k : T3) : List UInt8 := [u8 k.a, u8 k.c, u8 (k.b / 65536), u8 (k.b / 256), u8 k.b]
def textK (l : List T3) : List UInt8 := l.flatMap five
def b8 (s : List UInt8) (i : Nat) : Int := (s.getD i 0).toNat
/-- The key that five bytes tell, from there on. -/
def keyAt (s : List UInt8) (i : Nat) : T3 := ⟨b8 s i, b8 s (i + 2) * 65536 + b8 s (i + 3) * 256 + b8 s (i + 4), b8 s (i + 1)⟩
def keysOf (s : List UInt8) : List T3 := (List.range (s.length / 5)).map fun j => keyAt s (j * 5)
def keysB (l : List T3) : Bool := l.all keyB
def takeOk (s : List UInt8) : Bool := decide (s.length % 5 = 0) && (decide (s.length ≤ 1000) && keysB (keysOf s))
theorem five_len (k : T3) : (five k).length = 5 := rfl
theorem textK_length : ∀ l : List T3, (textK l).length = l.length * 5
  | [] => rfl
  | k :: l => by
    show (five k ++ textK l).length = _
    rw [List.length_append, textK_length l, five_len, List.length_cons]; omega
theorem textK_snoc (l : List T3) (k : T3) : textK (l ++ [k]) = textK l ++ five k := by
  unfold textK; rw [List.flatMap_append]; simp
theorem textK_take {l : List T3} {k : Nat} (h : k < l.length) : textK (l.take (k + 1)) = textK (l.take k) ++ five (g l k) := by
  rw [take_succ_g h, textK_snoc]
theorem u8_of (b : UInt8) (n : Int) (h : n % 256 = b.toNat) : u8 n = b := by
  unfold u8; rw [h]; simp
theorem b8_lt (s : List UInt8) (i : Nat) : 0 ≤ b8 s i ∧ b8 s i < 256 := by
  unfold b8
  have := (s.getD i 0).toNat_lt
  omega
/-- What five bytes tell is told by them. -/
theorem five_keyAt (s : List UInt8) (i : Nat) : five (keyAt s i) = [s.getD i 0, s.getD (i + 1) 0, s.getD (i + 2) 0, s.getD (i + 3) 0, s.getD (i + 4) 0] := by
  have h1 := b8_lt s i
  have h2 := b8_lt s (i + 1)
  have h3 := b8_lt s (i + 2)
  have h4 := b8_lt s (i + 3)
  have h5 := b8_lt s (i + 4)
  unfold five keyAt
  simp only
  rw [u8_of (s.getD i 0) _ (by unfold b8 at *; omega), u8_of (s.getD (i + 1) 0) _ (by unfold b8 at *; omega), u8_of (s.getD (i + 2) 0) _ (by unfold b8 at *; omega),
    u8_of (s.getD (i + 3) 0) _ (by unfold b8 at *; omega), u8_of (s.getD (i + 4) 0) _ (by unfold b8 at *; omega)]
theorem keysOf_length (s : List UInt8) : (keysOf s).length = s.length / 5 := by unfold keysOf; simp
theorem keysOf_get {s : List UInt8} {j : Nat} (h : j < s.length / 5) : g (keysOf s) j = keyAt s (j * 5) := by
  unfold g keysOf
  simp [h]
theorem take5 {s : List UInt8} {k : Nat} (h : k + 5 ≤ s.length) : s.take (k + 5) = s.take k ++ [s.getD k 0, s.getD (k + 1) 0, s.getD (k + 2) 0, s.getD (k + 3) 0, s.getD (k + 4) 0] := by
  have e : ∀ j, j < s.length → s.take (j + 1) = s.take j ++ [s.getD j 0] := fun j hj => by rw [List.take_succ_eq_append_getElem hj]; simp [hj]
  rw [show k + 5 = k + 4 + 1 from rfl, e (k + 4) (by omega), show k + 4 = k + 3 + 1 from rfl, e (k + 3) (by omega), show k + 3 = k + 2 + 1 from rfl, e (k + 2) (by omega), show k + 2 = k + 1 + 1 from rfl, e (k + 1) (by omega), e k (by omega)]
  simp
theorem text_upto (s : List UInt8) : ∀ j, j * 5 ≤ s.length → textK ((keysOf s).take j) = s.take (j * 5)
  | 0, _ => by simp [textK]
  | j + 1, h => by
    have hj : j < (keysOf s).length := by rw [keysOf_length]; omega
    rw [textK_take hj, text_upto s j (by omega), keysOf_get (by rw [keysOf_length] at hj; exact hj), five_keyAt, show (j + 1) * 5 = j * 5 + 5 from by omega, take5 (by omega)]
/-- The keys of a text are told by it. -/
theorem text_keys (s : List UInt8) (h : s.length % 5 = 0) : textK (keysOf s) = s := by
  have e := text_upto s (s.length / 5) (by omega)
  rw [show s.length / 5 * 5 = s.length from by omega, List.take_of_length_le (Nat.le_refl _), List.take_of_length_le (by rw [keysOf_length]; exact Nat.le_refl _)] at e
  exact e
theorem keyB_facts {k : T3} (h : keyB k = true) : 0 ≤ k.a ∧ k.a ≤ 12 ∧ 0 ≤ k.c ∧ k.c ≤ 7 ∧ 0 ≤ k.b ∧ k.b ≤ 1114111 := by
  unfold keyB at h
  rw [Bool.and_eq_true] at h
  have hc := rng_yes.1 h.1
  have h2 := h.2
  split at h2
  · unfold runeOk at h2
    rw [Bool.and_eq_true] at h2
    have := rng_yes.1 h2.1
    omega
  · split at h2
    · have := rng_yes.1 h2
      omega
    · rw [Bool.and_eq_true, decide_eq_true_eq] at h2
      have := rng_yes.1 h2.1
      omega
end Key
end Go.Proofs.YtkkpdfjbgiijlaaDoor
