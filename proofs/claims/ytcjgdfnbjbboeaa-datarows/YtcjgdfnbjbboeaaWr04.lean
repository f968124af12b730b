/- The walks of exact's small functions over digits: areDigits, digit, piece, length, signOf, top. The walk of Join of package bits, way by way. The walk of Parts of package bits: what the call gives, for every int and every width. Join of package bits: noughts, what is below 0, exponents that are too far. Join of package bits gives back what Parts has told. bits.Join at what rounding hands it: the rung. The walks of exact's functions over digits: length, top, signOf, areDigits, fit, Valid. The walks of exact's Valid, allValid, fit, digitsOf, trailing. -/
import Derived.Test.YtcjgdfnbjbboeaaWr02
import Derived.Test.YtcjgdfnbjbboeaaWr01
import Derived.Deep.RegionHeld
namespace Go.Proofs.Ytcjgdfnbjbboeaa
open Go.ChangeShapes Go.WideShapes Go.ChangeAt Go.RowKit

def Reads (w : World) (b off : Nat) (L : List Int) : Prop := ∀ i, i < L.length → w.cell? ⟨b, off + i, none⟩ = some (.int .i64 (L.getD i 0))
def Sl (w : World) (v : Value) (L : List Int) : Prop :=
  ∃ ao cap, v = .slice ao L.length cap ∧ L.length ≤ cap ∧ cap ≤ maxLen ∧ (L ≠ [] → ∃ b off, ao = some ⟨b, off, none⟩ ∧ b < w.heap.size ∧ Reads w b off L)

theorem Reads.kept {w w' : World} {b off : Nat} {L : List Int} (h : Reads w b off L) (hb : b < w.heap.size) (k : Kept w w') : Reads w' b off L :=
  fun i hi => (k.below.cell (p := ⟨b, off + i, none⟩) hb).trans (h i hi)
theorem Sl.kept {w w' : World} {v : Value} {L : List Int} (h : Sl w v L) (k : Kept w w') : Sl w' v L := by
  obtain ⟨ao, cap, e, hc, hm, hr⟩ := h
  refine ⟨ao, cap, e, hc, hm, fun hne => ?_⟩
  obtain ⟨b, off, e2, hb, hr⟩ := hr hne
  exact ⟨b, off, e2, Nat.lt_of_lt_of_le hb k.below.size, hr.kept hb k⟩

end Go.Proofs.Ytcjgdfnbjbboeaa
namespace Go.Proofs.Ytcjgdfnbjbboeaa
open Go.ChangeShapes Go.WideShapes Go.ChangeAt Go.RowKit
set_option linter.unusedVariables false

end Go.Proofs.Ytcjgdfnbjbboeaa

namespace Go.Proofs.Ytcjgdfnbjbboeaa
open Go.ChangeShapes Go.WideShapes Go.ChangeAt Go.RowKit

theorem ret_parts {p q p' q' : Bool} {a c a' c' : Int} (h1 : p = p') (h2 : a = a') (h3 : c = c') (h4 : q = q') : Ending.returned (.tuple #[.bool p, .int .i64 a, .int .i64 c, .bool q]) = .returned (.tuple #[.bool p', .int .i64 a', .int .i64 c', .bool q']) := by rw [h1, h2, h3, h4]

end Go.Proofs.Ytcjgdfnbjbboeaa

namespace Go.Proofs.Ytcjgdfnbjbboeaa
open Go.ChangeShapes Go.WideShapes Go.ChangeAt Go.RowKit
set_option linter.unusedVariables false

/-! ### Odd part, length: plain arithmetic -/
end Go.Proofs.Ytcjgdfnbjbboeaa

namespace Go.Proofs.Ytcjgdfnbjbboeaa
open Go.ChangeShapes Go.WideShapes Go.ChangeAt Go.RowKit
set_option linter.unusedVariables false

end Go.Proofs.Ytcjgdfnbjbboeaa

namespace Go.Proofs.Ytcjgdfnbjbboeaa
open Go.ChangeShapes Go.WideShapes Go.ChangeAt Go.RowKit
set_option linter.unusedVariables false
set_option linter.unusedSimpArgs false

end Go.Proofs.Ytcjgdfnbjbboeaa

namespace Go.Proofs.Ytcjgdfnbjbboeaa
open Go.ChangeShapes Go.WideShapes Go.ChangeAt Go.RowKit
set_option linter.unusedVariables false

def Cn (L : List Int) : Prop := Dg L ∧ (L ≠ [] → L.getD (L.length - 1) 0 ≠ 0)
theorem Cn.digs (n : Nat) : Cn (digs n) := ⟨dg_digs n, fun h => digs_last n (fun h0 => h (by rw [h0, digs_zero]))⟩

def Rg (L : List Int) : Prop := ∀ d ∈ L, -9223372036854775808 ≤ d ∧ d ≤ 9223372036854775807
theorem Rg.getD {L : List Int} (h : Rg L) (i : Nat) : -9223372036854775808 ≤ L.getD i 0 ∧ L.getD i 0 ≤ 9223372036854775807 := by
  by_cases hi : i < L.length
  · rw [List.getD_eq_getElem?_getD, List.getElem?_eq_getElem hi]
    exact h _ (List.getElem_mem hi)
  · rw [List.getD_eq_getElem?_getD, List.getElem?_eq_none (by omega)]
    simp
def dgb (L : List Int) : Bool := L.all fun d => decide (0 ≤ d ∧ d < 1073741824)
theorem dgb_iff (L : List Int) : dgb L = true ↔ Dg L := by simp [dgb, Dg]
end Go.Proofs.Ytcjgdfnbjbboeaa

namespace Go.Proofs.Ytcjgdfnbjbboeaa
open Go.ChangeShapes Go.WideShapes Go.ChangeAt Go.RowKit
set_option linter.unusedVariables false

def vldN (n : Nat) (g : Bool) (d d0 x : Int) : Bool := decide ((n : Int) ≤ 2000) && g && (d != 0) && (bits .and .i64 d0 1 == 1) && decide (-1048576 ≤ x) && decide (x ≤ 1048576)

/-! ### A number as it lies: its sign, its digits, its exponent -/
structure Nm where
  neg : Bool
  mag : List Int
  exp : Int

def vld (x : Nm) : Bool := if x.mag = [] then (!x.neg && x.exp == 0) else vldN x.mag.length (dgb x.mag) (x.mag.getD (x.mag.length - 1) 0) (x.mag.getD 0 0) x.exp
def NumAt (w : World) (v : Value) (x : Nm) : Prop := ∃ s, v = .agg #[.bool x.neg, s, .int .i64 x.exp] ∧ Sl w s x.mag
theorem NumAt.kept {w w' : World} {v : Value} {x : Nm} (h : NumAt w v x) (k : Kept w w') : NumAt w' v x := by
  obtain ⟨s, e, hs⟩ := h
  exact ⟨s, e, hs.kept k⟩

end Go.Proofs.Ytcjgdfnbjbboeaa
