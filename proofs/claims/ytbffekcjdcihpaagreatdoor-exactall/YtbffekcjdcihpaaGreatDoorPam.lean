/- Floats and their patterns: the walks of Float, Float32, Of, Of32, and of a sum that is a number. How the patterns of floats lie in order: a format's order of words is the order of their keys, the rung with the sign. No Go in sight. Patterns as floats: the key of a pattern, which patterns are no numbers, that a pattern comes back. The walk of widened of package bits: a pattern's value as a binary64. The walks of widened, Less, Same of package bits. The arithmetic of rounding: the floats as rungs, what is kept of a number and what is cut off; patterns by their keys. The walk of exact's root: the leading bits of a square root, bit by bit. -/
import Derived.Test.YtbffekcjdcihpaaGreatDoorPab
import Derived.Test.YtbffekcjdcihpaaGreatDoorPal
import Derived.Laws.FloatArith
import Derived.Laws.Externs
import Ieee.Arith
import Derived.Test.YtbffekcjdcihpaaGreatDoorD14s
namespace Go.Proofs.YtbffekcjdcihpaaGreatDoor
open Go.ChangeShapes Go.WideShapes Go.ChangeAt Go.RowKit
set_option linter.unusedVariables false
set_option linter.unusedSimpArgs false
set_option maxHeartbeats 16000000
set_option maxRecDepth 100000
end Go.Proofs.YtbffekcjdcihpaaGreatDoor
namespace Go.Proofs.YtbffekcjdcihpaaGreatDoor
set_option linter.unusedVariables false
set_option linter.unusedSimpArgs false
set_option maxHeartbeats 16000000
set_option maxRecDepth 100000
open Ieee
theorem binade_pos (f : Format) : 0 < f.binade := Nat.two_pow_pos _
/-- The magnitude of a rung, in units of the least place. -/
def rungVal (f : Format) (r : Nat) : Nat := if r < f.binade then r else (f.binade + r % f.binade) * 2 ^ (r / f.binade - 1)
theorem rungVal_succ (f : Format) (r : Nat) : rungVal f r < rungVal f (r + 1) := by
 have hb := binade_pos f
 unfold rungVal
 by_cases h : r < f.binade
 ·rw [if_pos h]
  by_cases h1 : r + 1 < f.binade
  ·rw [if_pos h1]; omega
  ·have e : r + 1 = f.binade := by omega
   rw [if_neg h1, e, Nat.mod_self, Nat.div_self hb]
   simp
   omega
 ·have h1 : ¬ r + 1 < f.binade := by omega
  rw [if_neg h, if_neg h1]
  have hd := Nat.div_add_mod r f.binade
  have hm := Nat.mod_lt r hb
  have hq : 1 ≤ r / f.binade := (Nat.le_div_iff_mul_le hb).2 (by omega)
  by_cases hc : r % f.binade + 1 < f.binade
  ·have e1 : (r + 1) / f.binade = r / f.binade := by
    rw [Nat.div_eq_iff hb]
    have : f.binade * (r / f.binade) = r / f.binade * f.binade := Nat.mul_comm _ _
    constructor <;> omega
   have e2 : (r + 1) % f.binade = r % f.binade + 1 := by
    rw [Nat.add_mod, Nat.mod_eq_of_lt (show 1 < f.binade by omega), Nat.mod_eq_of_lt hc]
   rw [e1, e2]
   exact Nat.mul_lt_mul_of_pos_right (by omega) (Nat.two_pow_pos _)
  ·have e3 : r + 1 = f.binade * (r / f.binade + 1) := by rw [Nat.mul_add]; omega
   rw [e3, Nat.mul_mod_right, Nat.mul_div_cancel_left _ hb]
   obtain ⟨q, hq'⟩ : ∃ q, r / f.binade = q + 1 := ⟨r / f.binade - 1, by omega⟩
   rw [hq']
   simp only [Nat.add_sub_cancel, Nat.add_zero]
   have : 2 ^ (q + 1) = 2 * 2 ^ q := by rw [Nat.pow_succ, Nat.mul_comm]
   rw [this, ← Nat.mul_assoc]
   exact Nat.mul_lt_mul_of_pos_right (by omega) (Nat.two_pow_pos _)
theorem rungVal_lt (f : Format) {r s : Nat} (h : r < s) : rungVal f r < rungVal f s := by
 induction s with
 | zero => omega
 | succ s ih =>
  by_cases hs : r = s
  ·subst hs; exact rungVal_succ f r
  ·exact Nat.lt_trans (ih (by omega)) (rungVal_succ f s)
def rung (f : Format) (x : Nat) : Nat := x % f.signWeight
def below (f : Format) (x : Nat) : Bool := x / f.signWeight % 2 == 1
/-- The rung with the sign: the place of a word among all numbers (both zeros at 0). -/
def key (f : Format) (x : Nat) : Int := if below f x = true then -(rung f x : Int) else (rung f x : Int)
def sv (s : Bool) (v : Nat) : Int := if s = true then -(v : Int) else (v : Int)
open Ieee
theorem bin64 : FloatKind.f64.format.binade = 4503599627370496 := by decide +kernel
theorem bin32 : FloatKind.f32.format.binade = 8388608 := by decide +kernel
end Go.Proofs.YtbffekcjdcihpaaGreatDoor
namespace Go.Proofs.YtbffekcjdcihpaaGreatDoor
open Go.ChangeShapes Go.WideShapes Go.ChangeAt Go.RowKit
set_option linter.unusedVariables false
set_option linter.unusedSimpArgs false
set_option maxHeartbeats 16000000
set_option maxRecDepth 100000
open Ieee
def W (x : Nat) : Nat := FloatKind.f64.encode (FloatKind.f32.decode x)
open Ieee
end Go.Proofs.YtbffekcjdcihpaaGreatDoor
namespace Go.Proofs.YtbffekcjdcihpaaGreatDoor
set_option linter.unusedVariables false
set_option linter.unusedSimpArgs false
set_option maxHeartbeats 16000000
set_option maxRecDepth 100000
def rv (c r : Nat) : Nat := if r < c then r else (c + r % c) * 2 ^ (r / c - 1)
theorem rv_at (c j k : Nat) (hc : 0 < c) (hk : k ≤ 2 * c) (h : j = 0 ∨ c ≤ k) : rv c (j * c + k) = k * 2 ^ j := by
 unfold rv
 by_cases h1 : k < c
 ·have hj : j = 0 := by omega
  subst hj
  rw [Nat.zero_mul, Nat.zero_add, if_pos h1, Nat.pow_zero, Nat.mul_one]
 ·have hjc : ¬ j * c + k < c := by have := Nat.zero_le (j * c); omega
  rw [if_neg hjc]
  by_cases h2 : k = 2 * c
  ·subst h2
   rw [show j * c + 2 * c = (j + 2) * c by rw [Nat.add_mul], Nat.mul_mod_left, Nat.mul_div_cancel _ hc, Nat.add_zero, show j + 2 - 1 = j + 1 by omega, Nat.pow_succ, Nat.mul_comm (2 ^ j) 2, ← Nat.mul_assoc, Nat.mul_comm c 2]
  ·obtain ⟨f, rfl⟩ : ∃ f, k = c + f := ⟨k - c, by omega⟩
   have hf : f < c := by omega
   rw [show j * c + (c + f) = f + c * (j + 1) by rw [Nat.mul_add, Nat.mul_one, Nat.mul_comm c j]; omega, Nat.add_mul_mod_self_left, Nat.mod_eq_of_lt hf, Nat.add_mul_div_left _ _ hc, Nat.div_eq_of_lt hf, Nat.zero_add, Nat.add_sub_cancel]
def flo (v : Nat) (t : Int) : Nat := if 0 ≤ t then v * 2 ^ t.toNat else v / 2 ^ (-t).toNat
def rst (v : Nat) (t : Int) : Bool := if 0 ≤ t then false else v % 2 ^ (-t).toNat != 0
theorem flo_head (v T L : Nat) (t : Int) (ht : t = 60 - (T : Int) - (L : Int)) : v * 2 ^ 60 / 2 ^ T / 2 ^ L = flo v t := by
 unfold flo
 rw [Nat.div_div_eq_div_mul, ← Nat.pow_add]
 split
 ·obtain ⟨q, hq⟩ : ∃ q : Nat, t.toNat = q := ⟨_, rfl⟩
  rw [hq, show (60 : Nat) = q + (T + L) by omega, Nat.pow_add, ← Nat.mul_assoc, Nat.mul_div_cancel _ (Nat.two_pow_pos _)]
 ·obtain ⟨q, hq⟩ : ∃ q : Nat, (-t).toNat = q := ⟨_, rfl⟩
  rw [hq, show T + L = q + 60 by omega, Nat.pow_add, Nat.mul_div_mul_right _ _ (Nat.two_pow_pos _)]
theorem rst_head (v T m : Nat) (t : Int) (ht : t = 60 - (T : Int) - (m : Int)) (hv : v % 2 = 1) (hT : v < 2 ^ T) : rst v t = (decide (60 < (T : Int)) || v * 2 ^ 60 / 2 ^ T % 2 ^ m != 0) := by
 by_cases h60 : 60 < T
 ·rw [decide_eq_true (by omega : 60 < (T : Int)), Bool.true_or]
  unfold rst
  rw [if_neg (by omega)]
  obtain ⟨q, hq⟩ : ∃ q : Nat, (-t).toNat = q + 1 := ⟨(-t).toNat - 1, by omega⟩
  rw [hq]
  have : v % 2 ^ (q + 1) % 2 = 1 := by
   rw [Nat.mod_mod_of_dvd _ (by rw [Nat.pow_succ]; exact Nat.dvd_mul_left _ _)]
   exact hv
  have h2 : v % 2 ^ (q + 1) ≠ 0 := by
   intro h0; rw [h0] at this; simp at this
  simpa using h2
 ·rw [decide_eq_false (by omega : ¬ 60 < (T : Int)), Bool.false_or]
  obtain ⟨a, ha⟩ : ∃ a : Nat, 60 = a + T := ⟨60 - T, by omega⟩
  rw [ha, Nat.pow_add, ← Nat.mul_assoc, Nat.mul_div_cancel _ (Nat.two_pow_pos _)]
  unfold rst
  split
  ·have : a = (a - m) + m := by omega
   rw [this, Nat.pow_add, ← Nat.mul_assoc, Nat.mul_mod_left]
   rfl
  ·obtain ⟨q, hq⟩ : ∃ q : Nat, (-t).toNat = q := ⟨_, rfl⟩
   have hm : m = a + q := by omega
   rw [hq, hm, Nat.pow_add, Nat.mul_comm v, Nat.mul_mod_mul_left]
   have hp := Nat.two_pow_pos a
   by_cases h0 : v % 2 ^ q = 0
   ·simp [h0]
   ·have : ¬ 2 ^ a * (v % 2 ^ q) = 0 := by
     intro h; rcases Nat.mul_eq_zero.1 h with h | h <;> omega
    rw [show (v % 2 ^ q != 0) = true by simpa using h0, show (2 ^ a * (v % 2 ^ q) != 0) = true by simpa [bne_iff_ne] using this]
/- against a common place s below all -/
theorem flo_at (v : Nat) (x u s : Int) (hx : s ≤ x) (hu : s ≤ u) : flo v (x - u) = v * 2 ^ (x - s).toNat / 2 ^ (u - s).toNat := by
 unfold flo
 split
 ·rw [show (x - s).toNat = (x - u).toNat + (u - s).toNat by omega, Nat.pow_add, ← Nat.mul_assoc, Nat.mul_div_cancel _ (Nat.two_pow_pos _)]
 ·rw [show (u - s).toNat = (-(x - u)).toNat + (x - s).toNat by omega, Nat.pow_add, Nat.mul_div_mul_right _ _ (Nat.two_pow_pos _)]
theorem rst_at (v : Nat) (x u s : Int) (hx : s ≤ x) (hu : s ≤ u) : rst v (x - u) = (v * 2 ^ (x - s).toNat % 2 ^ (u - s).toNat != 0) := by
 unfold rst
 split
 ·rw [show (x - s).toNat = (x - u).toNat + (u - s).toNat by omega, Nat.pow_add, ← Nat.mul_assoc, Nat.mul_mod_left]
  rfl
 ·rw [show (u - s).toNat = (x - s).toNat + (-(x - u)).toNat by omega, Nat.pow_add, Nat.mul_comm v, Nat.mul_mod_mul_left]
  have hp := Nat.two_pow_pos (x - s).toNat
  by_cases h0 : v % 2 ^ (-(x - u)).toNat = 0
  ·simp [h0]
  ·have : ¬ 2 ^ (x - s).toNat * (v % 2 ^ (-(x - u)).toNat) = 0 := by
    intro h; rcases Nat.mul_eq_zero.1 h with h | h <;> omega
   rw [show (v % 2 ^ (-(x - u)).toNat != 0) = true by simpa using h0, show (2 ^ (x - s).toNat * (v % 2 ^ (-(x - u)).toNat) != 0) = true by simpa [bne_iff_ne] using this]
/- what rounding asks: the place of the last bit that is kept, what is kept, the bit behind it, and whether there is more -/
def unz (p : Nat) (l : Int) (T : Nat) (x : Int) : Int := max (x + (T : Int) - (p : Int)) l
structure Cutz (c D V k Q H F : Nat) (od hf rt : Bool) : Prop where
 two : Q = 2 * H
 pos : 0 < H
 kq : V / Q = k
 low : rv c F * D = k * Q
 high : rv c (F + 1) * D = (k + 1) * Q
 od : od = decide (k % 2 = 1)
 fod : F % 2 = k % 2
 hf : hf = decide (H ≤ V % Q)
 rt : rt = decide (V % Q % H ≠ 0)
theorem kept_bounds (p : Nat) (l : Int) (v T : Nat) (x : Int) (hp : 0 < p) (hT1 : 2 ^ (T - 1) ≤ v) (hT2 : v < 2 ^ T) (hT : 0 < T) : flo v (x - unz p l T x) < 2 ^ p ∧ (unz p l T x = l ∨ 2 ^ (p - 1) ≤ flo v (x - unz p l T x)) := by
 obtain ⟨u, hu⟩ : ∃ u, unz p l T x = u := ⟨_, rfl⟩
 rw [hu]
 unfold unz at hu
 unfold flo
 constructor
 ·split
  ·have hle : T + (x - u).toNat ≤ p := by omega
   calc v * 2 ^ (x - u).toNat < 2 ^ T * 2 ^ (x - u).toNat := Nat.mul_lt_mul_of_pos_right hT2 (Nat.two_pow_pos _)
    _ = 2 ^ (T + (x - u).toNat) := by rw [Nat.pow_add]
    _ ≤ 2 ^ p := Nat.pow_le_pow_right (by decide) hle
  ·rw [Nat.div_lt_iff_lt_mul (Nat.two_pow_pos _), ← Nat.pow_add]
   exact Nat.lt_of_lt_of_le hT2 (Nat.pow_le_pow_right (by decide) (by omega))
 ·by_cases hl : u = l
  ·exact Or.inl hl
  ·right
   split
   ·have : p - 1 = (T - 1) + (x - u).toNat := by omega
    rw [this, Nat.pow_add]
    exact Nat.mul_le_mul_right _ hT1
   ·rw [Nat.le_div_iff_mul_le (Nat.two_pow_pos _), ← Nat.pow_add]
    exact Nat.le_trans (Nat.pow_le_pow_right (by decide) (by omega)) hT1
/- what a cut tells, by values alone -/
theorem Cutz.floor {c D V k Q H F : Nat} {od hf rt : Bool} (h : Cutz c D V k Q H F od hf rt) : rv c F * D ≤ V ∧ V < rv c (F + 1) * D := by
 have h1 := Nat.div_add_mod V Q
 have h2 : V % Q < Q := Nat.mod_lt _ (by have := h.two; have := h.pos; omega)
 rw [h.kq] at h1
 rw [h.low, h.high, Nat.add_mul, Nat.one_mul, Nat.mul_comm k Q]
 omega
theorem Cutz.rem {c D V k Q H F : Nat} {od hf rt : Bool} (h : Cutz c D V k Q H F od hf rt) : V = rv c F * D + V % Q ∧ rv c (F + 1) * D = rv c F * D + Q ∧ V % Q < Q := by
 have h1 := Nat.div_add_mod V Q
 have h2 : V % Q < Q := Nat.mod_lt _ (by have := h.two; have := h.pos; omega)
 rw [h.kq] at h1
 rw [h.low, h.high, Nat.add_mul, Nat.one_mul, Nat.mul_comm k Q]
 omega
theorem half_rest (r H : Nat) (hH : 0 < H) (h2 : r < 2 * H) : (H ≤ r ∨ r % H ≠ 0) ↔ r ≠ 0 := by
 by_cases h : r < H
 ·rw [Nat.mod_eq_of_lt h]; omega
 ·constructor
  ·intro _; omega
  ·intro _; left; omega
theorem Cutz.cut {c D V k Q H F : Nat} {od hf rt : Bool} (h : Cutz c D V k Q H F od hf rt) : (hf || rt) = decide (V ≠ rv c F * D) := by
 obtain ⟨h1, h2, h3⟩ := h.rem
 rw [h.hf, h.rt, ← Bool.decide_or]
 congr 1
 apply propext
 rw [half_rest (V % Q) H h.pos (by rw [← h.two]; exact h3)]
 omega
theorem Cutz.near {c D V k Q H F : Nat} {od hf rt : Bool} (h : Cutz c D V k Q H F od hf rt) : (hf && (rt || od)) = decide (rv c F * D + rv c (F + 1) * D < 2 * V ∨ (rv c F * D + rv c (F + 1) * D = 2 * V ∧ F % 2 = 1)) := by
 obtain ⟨h1, h2, h3⟩ := h.rem
 have h4 := h.two
 have h5 := h.pos
 rw [h.hf, h.rt, h.od, ← Bool.decide_or, ← Bool.decide_and, h.fod]
 congr 1
 apply propext
 have hm : H ≤ V % Q → V % Q % H = V % Q - H := by
  intro hh
  have : V % Q = (V % Q - H) + H * 1 := by omega
  rw [this, Nat.add_mul_mod_self_left, Nat.mod_eq_of_lt (by omega)]
  omega
 constructor
 ·rintro ⟨hh, ho⟩
  rw [hm hh] at ho
  omega
 ·intro ho
  have hh : H ≤ V % Q := by omega
  rw [hm hh]
  omega
def awz (way : Int) (ng od hf rt : Bool) : Bool := if way = 0 then hf && (rt || od) else if way = 1 then ng && (hf || rt) else !ng && (hf || rt)
def mgz (way : Int) (ng : Bool) (inf F : Nat) (od hf rt : Bool) : Nat := if F + (awz way ng od hf rt).toNat < inf then F + (awz way ng od hf rt).toNat else if awz way ng false true true = true then inf else inf - 1
def odz (way : Int) (ng : Bool) (inf F : Nat) (od hf rt : Bool) : Bool := hf || rt || decide (inf ≤ F + (awz way ng od hf rt).toNat)
theorem mgz_le (way : Int) (ng : Bool) (inf F : Nat) (od hf rt : Bool) : mgz way ng inf F od hf rt ≤ inf := by
 unfold mgz; (repeat' split) <;> omega
def ifn (n : Int) : Nat := if n = 64 then 9218868437227405312 else 2139095040
def pz (n k : Int) : Int := if n = 64 then (if k < 0 then -k - 9223372036854775808 else k) else (if k < 0 then -k + 2147483648 else k)
/- a finite one's parts -/
end Go.Proofs.YtbffekcjdcihpaaGreatDoor
namespace Go.Proofs.YtbffekcjdcihpaaGreatDoor
open Go.ChangeShapes Go.WideShapes Go.ChangeAt Go.RowKit
set_option linter.unusedVariables false
set_option linter.unusedSimpArgs false
set_option maxHeartbeats 16000000
set_option maxRecDepth 100000
theorem flo_four (v : Nat) (t : Int) : flo v t / 4 = flo v (t - 2) := by
 unfold flo
 by_cases h : 0 ≤ t - 2
 ·rw [if_pos h, if_pos (by omega), show t.toNat = (t - 2).toNat + 2 by omega, Nat.pow_add, ← Nat.mul_assoc]
  exact Nat.mul_div_cancel _ (by decide)
 ·rw [if_neg h]
  by_cases h1 : 0 ≤ t
  ·rw [if_pos h1]
   have : t = 0 ∨ t = 1 := by omega
   rcases this with rfl | rfl
   ·simp
   ·show v * 2 ^ 1 / 4 = v / 2 ^ 1
    omega
  ·rw [if_neg h1, show (-(t - 2)).toNat = (-t).toNat + 2 by omega, Nat.pow_add, ← Nat.div_div_eq_div_mul]
structure Rtz (A h l : Nat) : Prop where
 eq : h * h + l = A
 le : l ≤ 2 * h
theorem Rtz.zero : Rtz 0 0 0 := ⟨rfl, Nat.le_refl _⟩
theorem sq_two (h : Nat) : 2 * h * (2 * h) = 4 * (h * h) := by
 rw [Nat.mul_mul_mul_comm]
theorem sq_odd (h : Nat) : (2 * h + 1) * (2 * h + 1) = 4 * (h * h) + 4 * h + 1 := by
 rw [Nat.add_mul, Nat.mul_add, sq_two]
 omega
theorem Rtz.step {A h l : Nat} (R : Rtz A h l) (A' : Nat) (hA : A' / 4 = A) : (4 * h + 1 ≤ 4 * l + A' % 4 → Rtz A' (2 * h + 1) (4 * l + A' % 4 - (4 * h + 1))) ∧ (¬ 4 * h + 1 ≤ 4 * l + A' % 4 → Rtz A' (2 * h) (4 * l + A' % 4)) := by
 obtain ⟨e, le⟩ := R
 refine ⟨fun hh => ⟨?_, ?_⟩, fun hh => ⟨?_, ?_⟩⟩
 ·rw [sq_odd]; omega
 ·omega
 ·rw [sq_two]; omega
 ·omega
theorem Rtz.lt {A h l : Nat} (R : Rtz A h l) : h * h ≤ A ∧ A < (h + 1) * (h + 1) := by
 obtain ⟨e, le⟩ := R
 have : (h + 1) * (h + 1) = h * h + 2 * h + 1 := by rw [Nat.add_mul, Nat.mul_add]; omega
 omega
theorem sq_lt {a b : Nat} (h : a * a < b * b) : a < b := by
 apply Decidable.byContradiction
 intro hn
 have := Nat.mul_le_mul (show b ≤ a by omega) (show b ≤ a by omega)
 omega
theorem pcz_flo (v : Nat) (p : Int) : pcz v p = ((flo v (-p) % 1073741824 : Nat) : Int) := by
 unfold pcz flo
 by_cases h : 0 ≤ p
 ·rw [if_pos h]
  by_cases h0 : p = 0
  ·subst h0; simp
  ·rw [if_neg (by omega), Int.neg_neg]
 ·rw [if_neg h, if_pos (by omega)]
theorem mask_2 (s : Int) : bits .and .i64 s 3 = s % 4 := by
 have e : (BitVec.ofInt 64 3 : BitVec 64).toNat = 2 ^ 2 - 1 := by decide
 have h := ofInt_toNat s
 rw [bits_and, BitVec.toNat_and, e, Nat.and_two_pow_sub_one_eq_mod, wrap_i64]
 omega
theorem or_low (x y k : Nat) (h : x < 2 ^ k) (hb : x + y * 2 ^ k < 9223372036854775808) : bits .or .i64 ((y * 2 ^ k : Nat) : Int) (x : Int) = ((x + y * 2 ^ k : Nat) : Int) := by
 rw [← or_sum x y k h hb]
 unfold bits
 simp [BitVec.or_comm]
theorem andNot_1 (t : Int) (h1 : -9223372036854775808 ≤ t) (h2 : t ≤ 9223372036854775807) : bits .andNot .i64 t 1 = t - t % 2 := by
 have e : (BitVec.ofInt 64 t &&& ~~~ BitVec.ofInt 64 1 : BitVec 64).toNat = (BitVec.ofInt 64 t).toNat / 2 * 2 := by
  have : (BitVec.ofInt 64 t &&& ~~~ BitVec.ofInt 64 1 : BitVec 64) = (BitVec.ofInt 64 t >>> 1) <<< 1 := by
   apply BitVec.eq_of_getLsbD_eq
   intro i hi
   rw [BitVec.getLsbD_and, BitVec.getLsbD_not, BitVec.getLsbD_shiftLeft, BitVec.getLsbD_ushiftRight]
   have h01 : (BitVec.ofInt 64 1).getLsbD i = decide (i = 0) := by
    rw [show BitVec.ofInt 64 1 = 1#64 by decide, BitVec.getLsbD_one]
    simp
   rw [h01]
   by_cases h0 : i = 0
   ·subst h0; simp
   ·simp [h0, hi, show ¬ i < 1 by omega, show 1 + (i - 1) = i by omega]
  rw [this]
  simp only [BitVec.toNat_shiftLeft, BitVec.toNat_ushiftRight, Nat.shiftRight_eq_div_pow, Nat.shiftLeft_eq, Nat.pow_one]
  have := (BitVec.ofInt 64 t).isLt
  omega
 have h := ofInt_toNat t
 rw [bits_andNot, e, wrap_i64]
 omega
theorem root_walk (ng : Bool) (ao : Option Addr) (n c : Nat) (hn : 0 < n) (x T f : Int) (v : Nat) (hx1 : -1048576 ≤ x) (hx2 : x ≤ 1048576) (hT1 : x ≤ T) (hT2 : T ≤ x + 90000) (hf : bits .andNot .i64 (T - 1) 1 = f) (hf1 : T - 2 ≤ f) (hf2 : f ≤ T - 1) (w : World)
  (HV : Hid (flo v (x - f - 2) = 0))
  (KT : Hid (∀ u, Kept w u → Calls Tryz.prog 104 #[.agg #[.bool ng, .slice ao n c, .int .i64 x]] u fun e w' => e = .returned (.int .i64 T) ∧ Kept u w'))
  (KP : Hid (∀ u p, Kept w u → -1000000000 < p → p < 1000000000 → Calls Tryz.prog 94 #[.slice ao n c, .int .i64 p] u fun e w' => e = .returned (.int .i64 (pcz v p)) ∧ Kept u w')) :
  Calls Tryz.prog 83 #[.agg #[.bool ng, .slice ao n c, .int .i64 x]] w fun e w' => ∃ h l : Nat, e = .returned (.agg #[.bool false, .int .i64 (h : Int), .int .i64 ((f - 110).tdiv 2), .bool (decide (l ≠ 0) || decide (x < f - 110))]) ∧ Rtz (flo v (x - (f - 110))) h l ∧ Kept w w' := by
 have hK : Kept w ((w.alloc (.cells #[.bool ng, .slice ao n c, .int .i64 x] 29)).alloc (.cells #[.bool false, .int .i64 0, .int .i64 0, .bool false] 100)) := ((Kept.refl w).alloc _ _).alloc _ _
 obtain ⟨W, hW⟩ : ∃ W, W = ((w.alloc (.cells #[.bool ng, .slice ao n c, .int .i64 x] 29)).alloc (.cells #[.bool false, .int .i64 0, .int .i64 0, .bool false] 100)) := ⟨_, rfl⟩
 have HS : Hid (∀ u, Kept W u → (u.cell? ⟨w.heap.size, 0, none⟩ = some (.bool ng) ∧ u.cell? ⟨w.heap.size, 1, none⟩ = some (.slice ao n c) ∧ u.cell? ⟨w.heap.size, 2, none⟩ = some (.int .i64 x)) ∧ u.cell? ⟨w.heap.size + 1, 0, none⟩ = some (.bool false) ∧ u.cell? ⟨w.heap.size + 1, 1, none⟩ = some (.int .i64 0) ∧ u.cell? ⟨w.heap.size + 1, 2, none⟩ = some (.int .i64 0) ∧ u.cell? ⟨w.heap.size + 1, 3, none⟩ = some (.bool false) ∧ ∀ o, u.frozen? ⟨w.heap.size + 1, o, none⟩ = false) := fun u k => by rw [hW] at k; exact ⟨⟨(k.below.cell (p := ⟨w.heap.size, 0, none⟩) (by simp <;> omega)).trans (by simp [go_sem]), (k.below.cell (p := ⟨w.heap.size, 1, none⟩) (by simp <;> omega)).trans (by simp [go_sem]), (k.below.cell (p := ⟨w.heap.size, 2, none⟩) (by simp <;> omega)).trans (by simp [go_sem])⟩, (k.below.cell (p := ⟨w.heap.size + 1, 0, none⟩) (by simp)).trans (by simp [go_sem]), (k.below.cell (p := ⟨w.heap.size + 1, 1, none⟩) (by simp)).trans (by simp [go_sem]), (k.below.cell (p := ⟨w.heap.size + 1, 2, none⟩) (by simp)).trans (by simp [go_sem]), (k.below.cell (p := ⟨w.heap.size + 1, 3, none⟩) (by simp)).trans (by simp [go_sem]), fun o => (k.frozen _).trans (by simp [go_sem])⟩
 rw [← hW] at hK
 have hn0 : ((n : Int) == 0) = false := by simp; omega
 have zT : IntKind.i64.wrap (T - 1) = T - 1 := by rw [wrap_i64]; omega
 have zf : IntKind.i64.wrap (f - 110) = f - 110 := by rw [wrap_i64]; omega
 go_enter Tryz.func83, Tryz.ntmps83
 go_upto_region 3 with fail
 rw [← hW]
 clear hW
 obtain ⟨⟨p0, p1, p2⟩, r0, r1, r2, r3, rf⟩ := HS.out _ (Kept.refl W)
 go_wp2_with fail
 refine (KT.out _ hK).mono ?_
 rintro e w1 ⟨rfl, k1⟩
 clear p0 p1 p2 r0 r1 r2 r3 rf
 go_wp2_with fail
 go_loopw [5, 6, 20] (fun hv lv iv wr => ∃ (k h l : Nat), k ≤ 56 ∧ iv = .int .i64 k ∧ hv = .int .i64 h ∧ lv = .int .i64 l ∧ Rtz (flo v (x - f - 2 + 2 * (k : Int))) h l ∧ h < 2 ^ k ∧ Kept W wr) (fun _ _ iv _ => 56 - (intOf iv).toNat)
 case atStart => exact ⟨0, 0, 0, Nat.zero_le _, rfl, rfl, rfl, by rw [Int.natCast_zero, Int.mul_zero, Int.add_zero, HV.out]; exact Rtz.zero, by decide, k1⟩
 case round =>
  obtain ⟨k, h, l, hk, rfl, rfl, rfl, hR, hh, hKr⟩ := hrel
  have hl := hR.le
  have HR : Hid (Rtz (flo v (x - f - 2 + 2 * (k : Int))) h l) := hR
  clear hR
  by_cases hk56 : k < 56
  ·have hp55 : (2 : Nat) ^ k ≤ 2 ^ 55 := Nat.pow_le_pow_right (by decide) (by omega)
   have h55 : (2 : Nat) ^ 55 = 36028797018963968 := by decide
   obtain ⟨⟨p0, p1, p2⟩, r0, r1, r2, r3, rf⟩ := HS.out _ hKr
   obtain ⟨q, hq⟩ : ∃ q : Nat, q = flo v (x - f + 2 * (k : Int)) % 4 := ⟨_, rfl⟩
   have HQ : Hid (q = flo v (x - f + 2 * (k : Int)) % 4) := hq
   have hq4 : q < 4 := by rw [hq]; omega
   obtain ⟨pv, hpv⟩ : ∃ pv, pcz v (f - 2 * (k : Int) - x) = pv := ⟨_, rfl⟩
   have hand : bits .and .i64 pv 3 = (q : Int) := by
    rw [← hpv, mask_2, pcz_flo, hq, show -(f - 2 * (k : Int) - x) = x - f + 2 * (k : Int) by omega]
    omega
   have KP2 : Hid (Calls Tryz.prog 94 #[.slice ao n c, .int .i64 (f - 2 * (k : Int) - x)] wr fun e w' => e = .returned (.int .i64 pv) ∧ Kept wr w') := by
    have := KP.out wr (f - 2 * (k : Int) - x) (hK.trans hKr) (by omega) (by omega)
    rw [hpv] at this
    exact this
   clear hq hpv
   have HH : Hid (h < 2 ^ k) := hh
   clear hh
   have hh : h < 36028797018963968 := by have := HH.out; omega
   clear hp55 h55
   have z2 : IntKind.i64.wrap (2 * (k : Int)) = 2 * (k : Int) := by rw [wrap_i64]; omega
   have z3 : IntKind.i64.wrap (f - 2 * (k : Int)) = f - 2 * (k : Int) := by rw [wrap_i64]; omega
   have z4 : IntKind.i64.wrap (f - 2 * (k : Int) - x) = f - 2 * (k : Int) - x := by rw [wrap_i64]; omega
   obtain ⟨A1, hA1⟩ : ∃ A1 : Nat, 4 * l + q = A1 := ⟨_, rfl⟩
   obtain ⟨T1, hT1'⟩ : ∃ T1 : Nat, 4 * h + 1 = T1 := ⟨_, rfl⟩
   obtain ⟨H1, hH1⟩ : ∃ H1 : Nat, 2 * h + 1 = H1 := ⟨_, rfl⟩
   have o1 : bits .or .i64 ((l : Int) * 4) (q : Int) = (A1 : Int) := by
    have := or_low q l 2 hq4 (by omega)
    rw [show ((l * 2 ^ 2 : Nat) : Int) = (l : Int) * 4 by omega, show ((q + l * 2 ^ 2 : Nat) : Int) = (A1 : Int) by omega] at this
    exact this
   have o2 : bits .or .i64 ((h : Int) * 2 * 2) 1 = (T1 : Int) := by
    have := or_low 1 (2 * h) 1 (by decide) (by omega)
    rw [show ((2 * h * 2 ^ 1 : Nat) : Int) = (h : Int) * 2 * 2 by omega, show ((1 + 2 * h * 2 ^ 1 : Nat) : Int) = (T1 : Int) by omega] at this
    exact this
   have o3 : bits .or .i64 ((h : Int) * 2) 1 = (H1 : Int) := by
    have := or_low 1 h 1 (by decide) (by omega)
    rw [show ((h * 2 ^ 1 : Nat) : Int) = (h : Int) * 2 by omega, show ((1 + h * 2 ^ 1 : Nat) : Int) = (H1 : Int) by omega] at this
    exact this
   have HA : Hid (4 * l + q = A1 ∧ 4 * h + 1 = T1 ∧ 2 * h + 1 = H1) := ⟨hA1, hT1', hH1⟩
   have b1 : A1 < 1000000000000000000 := by omega
   have b2 : T1 < 1000000000000000000 := by omega
   clear hA1 hT1' hH1
   by_cases hfit : (T1 : Int) ≤ (A1 : Int)
   ·go_wp2_with fail
    refine KP2.out.mono ?_
    rintro e w2 ⟨rfl, k2⟩
    go_wp2
    go_roundw
    case rel =>
     obtain ⟨a1, a2, a3⟩ := HA.out
     have hs := (HR.out.step (flo v (x - f + 2 * (k : Int))) (by rw [flo_four]; congr 1; omega)).1 (by rw [← HQ.out]; omega)
     refine ⟨k + 1, H1, A1 - T1, by omega, by go_num, rfl, by go_num, ?_, ?_, hKr.trans k2⟩
     ·rw [← HQ.out, a2, a1, a3] at hs
      rw [show x - f - 2 + 2 * ((k + 1 : Nat) : Int) = x - f + 2 * (k : Int) by omega]
      exact hs
     ·have := HH.out
      rw [Nat.pow_succ]
      omega
    case measure => simp [intOf]; omega
   ·go_wp2_with fail
    refine KP2.out.mono ?_
    rintro e w2 ⟨rfl, k2⟩
    go_wp2
    go_roundw
    case rel =>
     obtain ⟨a1, a2, a3⟩ := HA.out
     have hs := (HR.out.step (flo v (x - f + 2 * (k : Int))) (by rw [flo_four]; congr 1; omega)).2 (by rw [← HQ.out]; omega)
     refine ⟨k + 1, 2 * h, A1, by omega, by go_num, by go_num, by go_num, ?_, ?_, hKr.trans k2⟩
     ·rw [← HQ.out, a1] at hs
      rw [show x - f - 2 + 2 * ((k + 1 : Nat) : Int) = x - f + 2 * (k : Int) by omega]
      exact hs
     ·have := HH.out
      rw [Nat.pow_succ]
      omega
    case measure => simp [intOf]; omega
  ·obtain rfl : k = 56 := by omega
   have hR := HR.out
   rw [show x - f - 2 + 2 * ((56 : Nat) : Int) = x - (f - 110) by omega] at hR
   have HR2 : Hid (Rtz (flo v (x - (f - 110))) h l) := hR
   clear hR hh
   obtain ⟨⟨p0, p1, p2⟩, r0, r1, r2, r3, rf⟩ := HS.out _ hKr
   by_cases hl0 : l = 0
   ·subst hl0
    go_wp2
    refine bodyPost_ret (v := .agg #[.bool false, .int .i64 (h : Int), .int .i64 ((f - 110).tdiv 2), .bool (decide (x < f - 110))]) (by simp [results, Tryz.results83, go_sem, r0, r1, r2, r3]) rfl ⟨h, 0, by simp, HR2.out, ?_⟩
    exact (hK.trans hKr).setCell (by simp) _ |>.setCell (by simp) _ |>.setCell (by simp) _ |>.setCell (by simp) _
   ·have hl0' : ((l : Int) == 0) = false := by simp; omega
    go_wp2
    refine bodyPost_ret (v := .agg #[.bool false, .int .i64 (h : Int), .int .i64 ((f - 110).tdiv 2), .bool true]) (by simp [results, Tryz.results83, go_sem, r0, r1, r2, r3]) rfl ⟨h, l, by simp [hl0], HR2.out, ?_⟩
    exact (hK.trans hKr).setCell (by simp) _ |>.setCell (by simp) _ |>.setCell (by simp) _ |>.setCell (by simp) _
end Go.Proofs.YtbffekcjdcihpaaGreatDoor
