/- An act on both sides, when it puts or erases. -/
import Derived.Test.YtchdkgmednoobaaDoorRowStepE
namespace Go.Proofs.YtchdkgmednoobaaDoor
set_option maxRecDepth 100000
open Go.RowKit
namespace Row
open Utf Wid

theorem stepPut_any (l : List Cl) (a : Look) (p nn r : Int) (x : Value) (w : World) (hx : Cs w x l) (hs : Bnd l) (hl : l.length ≤ 200) (hT : Tabs w) :
    Calls Tryd.prog 42 #[x, .agg #[.int .i64 0, .int .i64 p, .int .i64 nn, .int .i64 r, .int .i64 a.fg, .int .i64 a.bg, .int .i64 a.flags]] w (Stepped l w) := by
  by_cases h : RowOk l
  · by_cases ha : attrOk a = true
    · by_cases hp : 0 ≤ p ∧ p ≤ (l.length : Int) - 1
      · by_cases hr : wid r < 1
        · exact stepPut_T l a p nn r x w hx hs hl hT h ha hp hr
        · by_cases hf : p + wid r ≤ l.length
          · obtain ⟨k, rfl⟩ := Int.eq_ofNat_of_zero_le hp.1
            obtain ⟨n, hn⟩ := Int.eq_ofNat_of_zero_le (show 0 ≤ wid r by omega)
            exact stepPut_P l a k n nn r x w hx hs hl hT h ha hn (by omega) (by omega)
          · exact stepPut_F l a p nn r x w hx hs hl hT h ha hp (by omega) hf
      · exact stepPut_O l a p nn r x w hx hs hl hT h ha hp
    · exact stepPut_U2 l a p nn r x w hx hs hl hT h (by simpa using ha)
  · exact stepPut_U1 l a p nn r x w hx hs hl hT h

theorem stepErase_any (l : List Cl) (a : Look) (p nn r : Int) (x : Value) (w : World) (hx : Cs w x l) (hs : Bnd l) (hl : l.length ≤ 200) (hT : Tabs w) :
    Calls Tryd.prog 42 #[x, .agg #[.int .i64 4, .int .i64 p, .int .i64 nn, .int .i64 r, .int .i64 a.fg, .int .i64 a.bg, .int .i64 a.flags]] w (Stepped l w) := by
  by_cases h : RowOk l
  · by_cases ha : attrOk a = true
    · by_cases hp : 0 ≤ p ∧ p ≤ (l.length : Int)
      · by_cases hq : p ≤ nn ∧ nn ≤ (l.length : Int)
        · obtain ⟨k, rfl⟩ := Int.eq_ofNat_of_zero_le hp.1
          obtain ⟨n, rfl⟩ := Int.eq_ofNat_of_zero_le (show 0 ≤ nn by omega)
          exact stepErase_P l a k n r x w hx hs hl hT h ha (by omega) (by omega)
        · exact stepErase_B l a p nn r x w hx hs hl hT h ha hp hq
      · exact stepErase_O l a p nn r x w hx hs hl hT h ha hp
    · exact stepErase_U2 l a p nn r x w hx hs hl hT h (by simpa using ha)
  · exact stepErase_U1 l a p nn r x w hx hs hl hT h

/-- An act of one of the two kinds. -/
theorem step_any (d : Int) (hd : d = 0 ∨ d = 4) (l : List Cl) (a : Look) (p nn r : Int) (x : Value) (w : World) (hx : Cs w x l) (hs : Bnd l) (hl : l.length ≤ 200) (hT : Tabs w) :
    Calls Tryd.prog 42 #[x, .agg #[.int .i64 d, .int .i64 p, .int .i64 nn, .int .i64 r, .int .i64 a.fg, .int .i64 a.bg, .int .i64 a.flags]] w (Stepped l w) := by
  rcases hd with rfl | rfl
  · exact stepPut_any l a p nn r x w hx hs hl hT
  · exact stepErase_any l a p nn r x w hx hs hl hT
end Row
end Go.Proofs.YtchdkgmednoobaaDoor
