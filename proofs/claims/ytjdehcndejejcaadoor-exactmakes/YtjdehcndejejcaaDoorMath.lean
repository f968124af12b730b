/- Plain arithmetic of the bit operations that package bits does on ints: what a mask, a sign bit turned, a sign bit laid say as sums and rests. No Go in sight. -/
import Derived.Laws.BitsAllLaws
import Derived.Laws.Entries
namespace Go.Proofs.YtjdehcndejejcaaDoor

theorem ofInt_toNat (x : Int) : ((BitVec.ofInt 64 x).toNat : Int) = x % 18446744073709551616 := by
  rw [BitVec.toNat_ofInt]
  omega

theorem wrap_i64 (n : Int) : IntKind.i64.wrap n = (n + 9223372036854775808) % 18446744073709551616 - 9223372036854775808 := by
  simp [IntKind.wrap, IntKind.bits, IntKind.signed]
  omega

theorem xor_top (i x : Nat) (h : x < 2 ^ i) : x ^^^ 2 ^ i = x + 2 ^ i := by
  have e : x + 2 ^ i = 2 ^ i * 1 + x := by omega
  rw [e, Nat.two_pow_add_eq_or_of_lt h]
  apply Nat.eq_of_testBit_eq
  intro j
  rw [Nat.testBit_xor, Nat.testBit_or, Nat.mul_one, Nat.testBit_two_pow]
  by_cases hj : i = j
  · subst hj
    simp [Nat.testBit_lt_two_pow h]
  · simp [hj]

theorem xor_top' (i x : Nat) (h : 2 ^ i ≤ x) (h2 : x < 2 ^ (i + 1)) : x ^^^ 2 ^ i = x - 2 ^ i := by
  obtain ⟨y, rfl⟩ : ∃ y, x = y + 2 ^ i := ⟨x - 2 ^ i, by omega⟩
  have hy : y < 2 ^ i := by rw [Nat.pow_succ] at h2; omega
  rw [← xor_top i y hy, Nat.xor_assoc, Nat.xor_self, Nat.xor_zero]
  rw [xor_top i y hy]; omega

theorem bits_andNot (x y : Int) : bits .andNot .i64 x y = IntKind.i64.wrap ((BitVec.ofInt 64 x &&& ~~~ BitVec.ofInt 64 y).toNat : Int) := rfl
theorem bits_and (x y : Int) : bits .and .i64 x y = IntKind.i64.wrap ((BitVec.ofInt 64 x &&& BitVec.ofInt 64 y).toNat : Int) := rfl
theorem bits_or (x y : Int) : bits .or .i64 x y = IntKind.i64.wrap ((BitVec.ofInt 64 x ||| BitVec.ofInt 64 y).toNat : Int) := rfl
theorem bits_xor (x y : Int) : bits .xor .i64 x y = IntKind.i64.wrap ((BitVec.ofInt 64 x ^^^ BitVec.ofInt 64 y).toNat : Int) := rfl

theorem andNot_min (b : Int) : bits .andNot .i64 b (-9223372036854775808) = b % 9223372036854775808 := by
  have e : (~~~ BitVec.ofInt 64 (-9223372036854775808) : BitVec 64).toNat = 2 ^ 63 - 1 := by decide
  have h := ofInt_toNat b
  rw [bits_andNot, BitVec.toNat_and, e, Nat.and_two_pow_sub_one_eq_mod, wrap_i64]
  omega

theorem and_min (b : Int) (h1 : -9223372036854775808 ≤ b) (h2 : b ≤ 9223372036854775807) : bits .and .i64 b (-9223372036854775808) = if b < 0 then -9223372036854775808 else 0 := by
  have e : (BitVec.ofInt 64 (-9223372036854775808) : BitVec 64).toNat = 2 ^ 63 := by decide
  have h := ofInt_toNat b
  rw [bits_and, BitVec.toNat_and, e, nat_bit, wrap_i64]
  split <;> omega

theorem xor_min (b : Int) (h1 : -9223372036854775808 ≤ b) (h2 : b ≤ 9223372036854775807) : bits .xor .i64 b (-9223372036854775808) = if b < 0 then b + 9223372036854775808 else b - 9223372036854775808 := by
  have e : (BitVec.ofInt 64 (-9223372036854775808) : BitVec 64).toNat = 2 ^ 63 := by decide
  have h := ofInt_toNat b
  rw [bits_xor, BitVec.toNat_xor, e, wrap_i64]
  by_cases hb : b < 0
  · rw [xor_top' 63 _ (by omega) (by omega), if_pos hb]; omega
  · rw [xor_top 63 _ (by omega), if_neg hb]; omega

theorem andNot_31 (b : Int) (h1 : 0 ≤ b) (h2 : b < 4294967296) : bits .andNot .i64 b 2147483648 = b % 2147483648 := by
  have e : (~~~ BitVec.ofInt 64 2147483648 : BitVec 64).toNat = 2 ^ 64 - 1 - 2 ^ 31 := by decide
  have h := ofInt_toNat b
  have hx : (BitVec.ofInt 64 b).toNat < 2 ^ 32 := by omega
  have k : (BitVec.ofInt 64 b).toNat &&& (2 ^ 64 - 1 - 2 ^ 31) = (BitVec.ofInt 64 b).toNat % 2 ^ 31 := by
    rw [← Nat.and_two_pow_sub_one_eq_mod]
    apply Nat.eq_of_testBit_eq
    intro j
    have f : (2 ^ 64 - 1 - 2 ^ 31 : Nat) = 2 ^ 32 * (2 ^ 32 - 1) + (2 ^ 31 - 1) := by decide
    rw [Nat.testBit_and, Nat.testBit_and, f]
    by_cases hj : j < 32
    · rw [Nat.testBit_two_pow_mul_add _ (by decide), if_pos hj]
    · rw [Nat.testBit_lt_two_pow (i := j) (x := (BitVec.ofInt 64 b).toNat) (Nat.lt_of_lt_of_le hx (Nat.pow_le_pow_right (by decide) (by omega)))]
      simp
  rw [bits_andNot, BitVec.toNat_and, e, k, wrap_i64]
  omega

theorem and_31 (b : Int) (h1 : 0 ≤ b) (h2 : b < 4294967296) : bits .and .i64 b 2147483648 = if b < 2147483648 then 0 else 2147483648 := by
  have e : (BitVec.ofInt 64 2147483648 : BitVec 64).toNat = 2 ^ 31 := by decide
  have h := ofInt_toNat b
  rw [bits_and, BitVec.toNat_and, e, nat_bit, wrap_i64]
  split <;> omega

theorem xor_31 (b : Int) (h1 : 0 ≤ b) (h2 : b < 4294967296) : bits .xor .i64 b 2147483648 = if b < 2147483648 then b + 2147483648 else b - 2147483648 := by
  have e : (BitVec.ofInt 64 2147483648 : BitVec 64).toNat = 2 ^ 31 := by decide
  have h := ofInt_toNat b
  rw [bits_xor, BitVec.toNat_xor, e, wrap_i64]
  by_cases hb : b < 2147483648
  · rw [xor_top 31 _ (by omega), if_pos hb]; omega
  · rw [xor_top' 31 _ (by omega) (by omega), if_neg hb]; omega

theorem mask_52 (s : Int) : bits .and .i64 s 4503599627370495 = s % 4503599627370496 := by
  have e : (BitVec.ofInt 64 4503599627370495 : BitVec 64).toNat = 2 ^ 52 - 1 := by decide
  have h := ofInt_toNat s
  rw [bits_and, BitVec.toNat_and, e, Nat.and_two_pow_sub_one_eq_mod, wrap_i64]
  omega

theorem mask_23 (s : Int) : bits .and .i64 s 8388607 = s % 8388608 := by
  have e : (BitVec.ofInt 64 8388607 : BitVec 64).toNat = 2 ^ 23 - 1 := by decide
  have h := ofInt_toNat s
  rw [bits_and, BitVec.toNat_and, e, Nat.and_two_pow_sub_one_eq_mod, wrap_i64]
  omega

theorem or_52 (m : Int) (h0 : 0 ≤ m) (h1 : m < 4503599627370496) : bits .or .i64 m 4503599627370496 = m + 4503599627370496 := by
  have e : (BitVec.ofInt 64 4503599627370496 : BitVec 64).toNat = 2 ^ 52 * 1 := by decide
  have h := ofInt_toNat m
  rw [bits_or, BitVec.toNat_or, e, Nat.or_comm, ← Nat.two_pow_add_eq_or_of_lt (by omega), wrap_i64]
  omega

theorem or_23 (m : Int) (h0 : 0 ≤ m) (h1 : m < 8388608) : bits .or .i64 m 8388608 = m + 8388608 := by
  have e : (BitVec.ofInt 64 8388608 : BitVec 64).toNat = 2 ^ 23 * 1 := by decide
  have h := ofInt_toNat m
  rw [bits_or, BitVec.toNat_or, e, Nat.or_comm, ← Nat.two_pow_add_eq_or_of_lt (by omega), wrap_i64]
  omega

/-! ### What a pattern says, as plain functions of the int and the width -/
def clsOf (s inf hid : Int) : Int := if inf < s then 4 else if s = inf then 3 else if s = 0 then 0 else if s < hid then 1 else 2
def val (b n : Int) : Bool := decide (n = 64 ∨ (n = 32 ∧ 0 ≤ b ∧ b < 4294967296))
def cls (b n : Int) : Int :=
  if n = 64 then clsOf (b % 9223372036854775808) 9218868437227405312 4503599627370496
  else if n = 32 then (if 0 ≤ b ∧ b < 4294967296 then clsOf (b % 2147483648) 2139095040 8388608 else 4) else 0
def sgn (b n : Int) : Bool := if n = 64 then decide (b < 0) else decide (2147483648 ≤ b)
def fin (b n : Int) : Bool := decide ((n = 64 ∨ n = 32) ∧ cls b n < 3)
def pneg (b n : Int) : Bool := fin b n && sgn b n
def pmag (b n : Int) : Int :=
  if fin b n = true then
    if n = 64 then (if b % 9223372036854775808 < 4503599627370496 then b % 9223372036854775808 else b % 9223372036854775808 % 4503599627370496 + 4503599627370496)
    else (if b % 2147483648 < 8388608 then b % 2147483648 else b % 2147483648 % 8388608 + 8388608)
  else 0
def pexp (b n : Int) : Int :=
  if fin b n = true then
    if n = 64 then (if b % 9223372036854775808 < 4503599627370496 then -1074 else b % 9223372036854775808 / 4503599627370496 - 1075)
    else (if b % 2147483648 < 8388608 then -149 else b % 2147483648 / 8388608 - 150)
  else 0

def isnum (b n : Int) : Bool := decide ((n = 64 ∨ n = 32) ∧ cls b n ≠ 4)
def nanOf (n : Int) : Int := if n = 64 then 9221120237041090561 else if n = 32 then 2143289345 else 0
def ngt (b n : Int) : Int :=
  if isnum b n = true then
    if n = 64 then (if b < 0 then b + 9223372036854775808 else b - 9223372036854775808) else (if b < 2147483648 then b + 2147483648 else b - 2147483648)
  else nanOf n
def absv (b n : Int) : Int := if isnum b n = true then (if n = 64 then b % 9223372036854775808 else b % 2147483648) else nanOf n
def can (b n : Int) : Int :=
  if isnum b n = true then (if n = 64 then (if b = -9223372036854775808 then 0 else b) else (if b = 2147483648 then 0 else b)) else nanOf n
def nxt (b n : Int) : Int :=
  if isnum b n = true then
    if n = 64 then (if b = 9218868437227405312 then b else if b = -9223372036854775808 then 1 else if b < 0 then b - 1 else b + 1)
    else (if b = 2139095040 then b else if b = 2147483648 then 1 else if 2147483648 ≤ b then b - 1 else b + 1)
  else nanOf n

theorem isnum_64 (b : Int) : isnum b 64 = decide (cls b 64 ≠ 4) := by simp [isnum]
theorem isnum_32 (b : Int) : isnum b 32 = decide (cls b 32 ≠ 4) := by simp [isnum]
theorem isnum_0 (b n : Int) (h64 : n ≠ 64) (h32 : n ≠ 32) : isnum b n = false := by simp [isnum, h64, h32]
theorem nanOf_0 (n : Int) (h64 : n ≠ 64) (h32 : n ≠ 32) : nanOf n = 0 := by simp [nanOf, h64, h32]
theorem cls_valid (b : Int) (h : cls b 32 ≠ 4) : 0 ≤ b ∧ b < 4294967296 := by
  unfold cls at h
  rw [if_neg (by decide), if_pos rfl] at h
  split at h
  · assumption
  · omega

end Go.Proofs.YtjdehcndejejcaaDoor
