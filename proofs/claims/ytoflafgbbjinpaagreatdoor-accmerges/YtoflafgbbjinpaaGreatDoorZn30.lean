/- The ring's laws by values; the laws' own num. The walk of the statement on the ring. What a valid number rounds to, plainly: its rung, its pattern; order is kept, signs are mirrored, the nearest is the nearest. -/
import Derived.Test.YtoflafgbbjinpaaGreatDoorZn25
import Derived.Test.YtoflafgbbjinpaaGreatDoorZn12
import Derived.Test.YtoflafgbbjinpaaGreatDoorZn26
import Derived.Test.YtoflafgbbjinpaaGreatDoorZn20
import Derived.Test.YtoflafgbbjinpaaGreatDoorZn24
namespace Go.Proofs.YtoflafgbbjinpaaGreatDoor
open Go.ChangeShapes Go.WideShapes Go.ChangeAt Go.RowKit
set_option linter.unusedVariables false
set_option linter.unusedSimpArgs false
set_option maxHeartbeats 16000000
set_option maxRecDepth 100000
theorem Lies.mono {s : Int} {B C : Nat} {a : Nm} (h : Lies s B a) (hBC : B ≤ C) : Lies s C a := ⟨h.ok, h.low, Nat.lt_of_lt_of_le h.lt (Nat.pow_le_pow_right (by decide) hBC)⟩
/-! ### Calls whose numbers lie somewhere -/
def cbn (n : Int) : Nat := if n = 64 then 4503599627370496 else 8388608
theorem cbn_pow (n : Int) (hn : n = 64 ∨ n = 32) : cbn n = 2 ^ ((kprec n).toNat - 1) ∧ 2 ≤ (kprec n).toNat := by
 rcases hn with rfl | rfl <;> decide
theorem rv_lt (n : Int) (hn : n = 64 ∨ n = 32) (r s : Nat) (h : r < s) : rv (cbn n) r < rv (cbn n) s := by
 rcases hn with rfl | rfl
 ·have := rungVal_lt FloatKind.f64.format h
  unfold rungVal at this
  rw [bin64] at this
  exact this
 ·have := rungVal_lt FloatKind.f32.format h
  unfold rungVal at this
  rw [bin32] at this
  exact this
def unN (n : Int) (r : Nm) : Int := unz (kprec n).toNat (kleast n) (bl (nv r.mag)) r.exp
def kpN (n : Int) (r : Nm) : Nat := flo (nv r.mag) (r.exp - unN n r)
def flN (n : Int) (r : Nm) : Nat := (unN n r - kleast n).toNat * cbn n + kpN n r
def odN (n : Int) (r : Nm) : Bool := decide (kpN n r % 2 = 1)
def hfN (n : Int) (r : Nm) : Bool := decide (flo (nv r.mag) (r.exp - unN n r + 1) % 2 = 1)
def rtN (n : Int) (r : Nm) : Bool := rst (nv r.mag) (r.exp - unN n r + 1)
def mgN (n way : Int) (r : Nm) : Nat := if r.mag = [] then 0 else mgz way r.neg (ifn n) (flN n r) (odN n r) (hfN n r) (rtN n r)
def oxN (n way : Int) (r : Nm) : Bool := if r.mag = [] then false else odz way r.neg (ifn n) (flN n r) (odN n r) (hfN n r) (rtN n r)
def kyN (n way : Int) (r : Nm) : Int := if r.neg = true then -(mgN n way r : Int) else (mgN n way r : Int)
def rzN (n way : Int) (r : Nm) : Int := pz n (kyN n way r)
theorem nv_ne (r : Nm) (hv : vld r = true) (hne : r.mag ≠ []) : nv r.mag ≠ 0 := by
 obtain ⟨n, L, x⟩ := r
 exact Nat.pos_iff_ne_zero.1 (nv_pos_of n L x hne hv)
theorem vz_sign (s : Int) (r : Nm) (hv : vld r = true) : (r.neg = true → vz s r < 0) ∧ (r.neg = false → 0 ≤ vz s r) ∧ (r.mag = [] → r.neg = false ∧ vz s r = 0) := by
 by_cases hne : r.mag = []
 ·obtain ⟨n, L, x⟩ := r
  simp only at hne
  subst hne
  have hn : n = false := by
   simp only [vld, if_pos, Bool.and_eq_true] at hv
   simpa using hv.1
  subst hn
  rw [vz_nil]
  simp
 ·have h0 := nv_ne r hv hne
  have hp := Nat.two_pow_pos (r.exp - s).toNat
  have hm : 0 < nv r.mag * 2 ^ (r.exp - s).toNat := Nat.mul_pos (by omega) hp
  have ha := vz_abs s r
  refine ⟨fun h => ?_, fun h => ?_, fun h => absurd h hne⟩
  ·unfold vz sg
   rw [h, if_pos rfl]
   have : ((nv r.mag : Int) * 2 ^ (r.exp - s).toNat) = ((nv r.mag * 2 ^ (r.exp - s).toNat : Nat) : Int) := by push_cast; rfl
   omega
  ·unfold vz sg
   rw [h, if_neg (by decide)]
   have : ((nv r.mag : Int) * 2 ^ (r.exp - s).toNat) = ((nv r.mag * 2 ^ (r.exp - s).toNat : Nat) : Int) := by push_cast; rfl
   omega
/- the neighbours, by keys -/
/- a float's value, by its key -/
end Go.Proofs.YtoflafgbbjinpaaGreatDoor
