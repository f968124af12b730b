/- Plain arithmetic of the bit operations that package bits does on ints: what a mask, a sign bit turned, a sign bit laid say as sums and rests. No Go in sight. Plain arithmetic of lists of digits of 30 bits: what number they tell, its one list, its length in bits, the noughts below its lowest bit, its pieces. No Go in sight. -/
import Derived.Laws.BitsAllLaws
import Derived.Laws.Entries
namespace Go.Proofs.Ytocjfdiimapojaa

theorem ofInt_toNat (x : Int) : ((BitVec.ofInt 64 x).toNat : Int) = x % 18446744073709551616 := by
  rw [BitVec.toNat_ofInt]
  omega

theorem wrap_i64 (n : Int) : IntKind.i64.wrap n = (n + 9223372036854775808) % 18446744073709551616 - 9223372036854775808 := by
  simp [IntKind.wrap, IntKind.bits, IntKind.signed]
  omega

theorem xor_top (i x : Nat) (h : x < 2 ^ i) : x ^^^ 2 ^ i = x + 2 ^ i := by
  have e : x + 2 ^ i = 2 ^ i * 1 + x := by omega
  rw [e, Nat.two_pow_add_eq_or_of_lt h]
  apply Nat.eq_of_testBit_eq
  intro j
  rw [Nat.testBit_xor, Nat.testBit_or, Nat.mul_one, Nat.testBit_two_pow]
  by_cases hj : i = j
  · subst hj
    simp [Nat.testBit_lt_two_pow h]
  · simp [hj]

theorem xor_top' (i x : Nat) (h : 2 ^ i ≤ x) (h2 : x < 2 ^ (i + 1)) : x ^^^ 2 ^ i = x - 2 ^ i := by
  obtain ⟨y, rfl⟩ : ∃ y, x = y + 2 ^ i := ⟨x - 2 ^ i, by omega⟩
  have hy : y < 2 ^ i := by rw [Nat.pow_succ] at h2; omega
  rw [← xor_top i y hy, Nat.xor_assoc, Nat.xor_self, Nat.xor_zero]
  rw [xor_top i y hy]; omega

theorem bits_andNot (x y : Int) : bits .andNot .i64 x y = IntKind.i64.wrap ((BitVec.ofInt 64 x &&& ~~~ BitVec.ofInt 64 y).toNat : Int) := rfl
theorem bits_and (x y : Int) : bits .and .i64 x y = IntKind.i64.wrap ((BitVec.ofInt 64 x &&& BitVec.ofInt 64 y).toNat : Int) := rfl
theorem bits_or (x y : Int) : bits .or .i64 x y = IntKind.i64.wrap ((BitVec.ofInt 64 x ||| BitVec.ofInt 64 y).toNat : Int) := rfl
theorem bits_xor (x y : Int) : bits .xor .i64 x y = IntKind.i64.wrap ((BitVec.ofInt 64 x ^^^ BitVec.ofInt 64 y).toNat : Int) := rfl

theorem andNot_min (b : Int) : bits .andNot .i64 b (-9223372036854775808) = b % 9223372036854775808 := by
  have e : (~~~ BitVec.ofInt 64 (-9223372036854775808) : BitVec 64).toNat = 2 ^ 63 - 1 := by decide
  have h := ofInt_toNat b
  rw [bits_andNot, BitVec.toNat_and, e, Nat.and_two_pow_sub_one_eq_mod, wrap_i64]
  omega

theorem and_min (b : Int) (h1 : -9223372036854775808 ≤ b) (h2 : b ≤ 9223372036854775807) : bits .and .i64 b (-9223372036854775808) = if b < 0 then -9223372036854775808 else 0 := by
  have e : (BitVec.ofInt 64 (-9223372036854775808) : BitVec 64).toNat = 2 ^ 63 := by decide
  have h := ofInt_toNat b
  rw [bits_and, BitVec.toNat_and, e, nat_bit, wrap_i64]
  split <;> omega

theorem xor_min (b : Int) (h1 : -9223372036854775808 ≤ b) (h2 : b ≤ 9223372036854775807) : bits .xor .i64 b (-9223372036854775808) = if b < 0 then b + 9223372036854775808 else b - 9223372036854775808 := by
  have e : (BitVec.ofInt 64 (-9223372036854775808) : BitVec 64).toNat = 2 ^ 63 := by decide
  have h := ofInt_toNat b
  rw [bits_xor, BitVec.toNat_xor, e, wrap_i64]
  by_cases hb : b < 0
  · rw [xor_top' 63 _ (by omega) (by omega), if_pos hb]; omega
  · rw [xor_top 63 _ (by omega), if_neg hb]; omega

theorem andNot_31 (b : Int) (h1 : 0 ≤ b) (h2 : b < 4294967296) : bits .andNot .i64 b 2147483648 = b % 2147483648 := by
  have e : (~~~ BitVec.ofInt 64 2147483648 : BitVec 64).toNat = 2 ^ 64 - 1 - 2 ^ 31 := by decide
  have h := ofInt_toNat b
  have hx : (BitVec.ofInt 64 b).toNat < 2 ^ 32 := by omega
  have k : (BitVec.ofInt 64 b).toNat &&& (2 ^ 64 - 1 - 2 ^ 31) = (BitVec.ofInt 64 b).toNat % 2 ^ 31 := by
    rw [← Nat.and_two_pow_sub_one_eq_mod]
    apply Nat.eq_of_testBit_eq
    intro j
    have f : (2 ^ 64 - 1 - 2 ^ 31 : Nat) = 2 ^ 32 * (2 ^ 32 - 1) + (2 ^ 31 - 1) := by decide
    rw [Nat.testBit_and, Nat.testBit_and, f]
    by_cases hj : j < 32
    · rw [Nat.testBit_two_pow_mul_add _ (by decide), if_pos hj]
    · rw [Nat.testBit_lt_two_pow (i := j) (x := (BitVec.ofInt 64 b).toNat) (Nat.lt_of_lt_of_le hx (Nat.pow_le_pow_right (by decide) (by omega)))]
      simp
  rw [bits_andNot, BitVec.toNat_and, e, k, wrap_i64]
  omega

theorem and_31 (b : Int) (h1 : 0 ≤ b) (h2 : b < 4294967296) : bits .and .i64 b 2147483648 = if b < 2147483648 then 0 else 2147483648 := by
  have e : (BitVec.ofInt 64 2147483648 : BitVec 64).toNat = 2 ^ 31 := by decide
  have h := ofInt_toNat b
  rw [bits_and, BitVec.toNat_and, e, nat_bit, wrap_i64]
  split <;> omega

theorem xor_31 (b : Int) (h1 : 0 ≤ b) (h2 : b < 4294967296) : bits .xor .i64 b 2147483648 = if b < 2147483648 then b + 2147483648 else b - 2147483648 := by
  have e : (BitVec.ofInt 64 2147483648 : BitVec 64).toNat = 2 ^ 31 := by decide
  have h := ofInt_toNat b
  rw [bits_xor, BitVec.toNat_xor, e, wrap_i64]
  by_cases hb : b < 2147483648
  · rw [xor_top 31 _ (by omega), if_pos hb]; omega
  · rw [xor_top' 31 _ (by omega) (by omega), if_neg hb]; omega

theorem mask_52 (s : Int) : bits .and .i64 s 4503599627370495 = s % 4503599627370496 := by
  have e : (BitVec.ofInt 64 4503599627370495 : BitVec 64).toNat = 2 ^ 52 - 1 := by decide
  have h := ofInt_toNat s
  rw [bits_and, BitVec.toNat_and, e, Nat.and_two_pow_sub_one_eq_mod, wrap_i64]
  omega

theorem mask_23 (s : Int) : bits .and .i64 s 8388607 = s % 8388608 := by
  have e : (BitVec.ofInt 64 8388607 : BitVec 64).toNat = 2 ^ 23 - 1 := by decide
  have h := ofInt_toNat s
  rw [bits_and, BitVec.toNat_and, e, Nat.and_two_pow_sub_one_eq_mod, wrap_i64]
  omega

theorem or_52 (m : Int) (h0 : 0 ≤ m) (h1 : m < 4503599627370496) : bits .or .i64 m 4503599627370496 = m + 4503599627370496 := by
  have e : (BitVec.ofInt 64 4503599627370496 : BitVec 64).toNat = 2 ^ 52 * 1 := by decide
  have h := ofInt_toNat m
  rw [bits_or, BitVec.toNat_or, e, Nat.or_comm, ← Nat.two_pow_add_eq_or_of_lt (by omega), wrap_i64]
  omega

theorem or_23 (m : Int) (h0 : 0 ≤ m) (h1 : m < 8388608) : bits .or .i64 m 8388608 = m + 8388608 := by
  have e : (BitVec.ofInt 64 8388608 : BitVec 64).toNat = 2 ^ 23 * 1 := by decide
  have h := ofInt_toNat m
  rw [bits_or, BitVec.toNat_or, e, Nat.or_comm, ← Nat.two_pow_add_eq_or_of_lt (by omega), wrap_i64]
  omega

/-! ### What a pattern says, as plain functions of the int and the width -/
def clsOf (s inf hid : Int) : Int := if inf < s then 4 else if s = inf then 3 else if s = 0 then 0 else if s < hid then 1 else 2
def val (b n : Int) : Bool := decide (n = 64 ∨ (n = 32 ∧ 0 ≤ b ∧ b < 4294967296))
def cls (b n : Int) : Int :=
  if n = 64 then clsOf (b % 9223372036854775808) 9218868437227405312 4503599627370496
  else if n = 32 then (if 0 ≤ b ∧ b < 4294967296 then clsOf (b % 2147483648) 2139095040 8388608 else 4) else 0
def sgn (b n : Int) : Bool := if n = 64 then decide (b < 0) else decide (2147483648 ≤ b)
def fin (b n : Int) : Bool := decide ((n = 64 ∨ n = 32) ∧ cls b n < 3)
def pneg (b n : Int) : Bool := fin b n && sgn b n
def pmag (b n : Int) : Int :=
  if fin b n = true then
    if n = 64 then (if b % 9223372036854775808 < 4503599627370496 then b % 9223372036854775808 else b % 9223372036854775808 % 4503599627370496 + 4503599627370496)
    else (if b % 2147483648 < 8388608 then b % 2147483648 else b % 2147483648 % 8388608 + 8388608)
  else 0
def pexp (b n : Int) : Int :=
  if fin b n = true then
    if n = 64 then (if b % 9223372036854775808 < 4503599627370496 then -1074 else b % 9223372036854775808 / 4503599627370496 - 1075)
    else (if b % 2147483648 < 8388608 then -149 else b % 2147483648 / 8388608 - 150)
  else 0

def isnum (b n : Int) : Bool := decide ((n = 64 ∨ n = 32) ∧ cls b n ≠ 4)
def nanOf (n : Int) : Int := if n = 64 then 9221120237041090561 else if n = 32 then 2143289345 else 0
def ngt (b n : Int) : Int :=
  if isnum b n = true then
    if n = 64 then (if b < 0 then b + 9223372036854775808 else b - 9223372036854775808) else (if b < 2147483648 then b + 2147483648 else b - 2147483648)
  else nanOf n
def absv (b n : Int) : Int := if isnum b n = true then (if n = 64 then b % 9223372036854775808 else b % 2147483648) else nanOf n
def can (b n : Int) : Int :=
  if isnum b n = true then (if n = 64 then (if b = -9223372036854775808 then 0 else b) else (if b = 2147483648 then 0 else b)) else nanOf n
def nxt (b n : Int) : Int :=
  if isnum b n = true then
    if n = 64 then (if b = 9218868437227405312 then b else if b = -9223372036854775808 then 1 else if b < 0 then b - 1 else b + 1)
    else (if b = 2139095040 then b else if b = 2147483648 then 1 else if 2147483648 ≤ b then b - 1 else b + 1)
  else nanOf n

theorem isnum_64 (b : Int) : isnum b 64 = decide (cls b 64 ≠ 4) := by simp [isnum]
theorem isnum_32 (b : Int) : isnum b 32 = decide (cls b 32 ≠ 4) := by simp [isnum]
theorem isnum_0 (b n : Int) (h64 : n ≠ 64) (h32 : n ≠ 32) : isnum b n = false := by simp [isnum, h64, h32]
theorem nanOf_0 (n : Int) (h64 : n ≠ 64) (h32 : n ≠ 32) : nanOf n = 0 := by simp [nanOf, h64, h32]
theorem cls_valid (b : Int) (h : cls b 32 ≠ 4) : 0 ≤ b ∧ b < 4294967296 := by
  unfold cls at h
  rw [if_neg (by decide), if_pos rfl] at h
  split at h
  · assumption
  · omega

end Go.Proofs.Ytocjfdiimapojaa

namespace Go.Proofs.Ytocjfdiimapojaa

def nv : List Int → Nat
  | [] => 0
  | d :: l => d.toNat + 1073741824 * nv l
def Dg (L : List Int) : Prop := ∀ d ∈ L, 0 ≤ d ∧ d < 1073741824
def digsF : Nat → Nat → List Int
  | 0, _ => []
  | f + 1, n => if n = 0 then [] else ((n % 1073741824 : Nat) : Int) :: digsF f (n / 1073741824)
def digs (n : Nat) : List Int := digsF n n
theorem digsF_eq : ∀ (f g n : Nat), n ≤ f → n ≤ g → digsF f n = digsF g n := by
  intro f
  induction f with
  | zero =>
    intro g n hf hg
    obtain rfl : n = 0 := by omega
    cases g with
    | zero => rfl
    | succ g => simp [digsF]
  | succ f ih =>
    intro g n hf hg
    cases g with
    | zero =>
      obtain rfl : n = 0 := by omega
      simp [digsF]
    | succ g =>
      unfold digsF
      by_cases h : n = 0
      · rw [if_pos h, if_pos h]
      · rw [if_neg h, if_neg h, ih g _ (by omega) (by omega)]

theorem Dg.nil : Dg [] := by intro d h; simp at h
theorem Dg.head {d : Int} {L : List Int} (h : Dg (d :: L)) : 0 ≤ d ∧ d < 1073741824 := h d (by simp)
theorem Dg.tail {d : Int} {L : List Int} (h : Dg (d :: L)) : Dg L := fun x hx => h x (by simp [hx])
theorem Dg.cons {d : Int} {L : List Int} (h0 : 0 ≤ d) (h1 : d < 1073741824) (h : Dg L) : Dg (d :: L) := by
  intro x hx
  rcases List.mem_cons.1 hx with rfl | hx
  · exact ⟨h0, h1⟩
  · exact h x hx
theorem Dg.getD {L : List Int} (h : Dg L) (i : Nat) : 0 ≤ L.getD i 0 ∧ L.getD i 0 < 1073741824 := by
  by_cases hi : i < L.length
  · rw [List.getD_eq_getElem?_getD, List.getElem?_eq_getElem hi]
    exact h _ (List.getElem_mem hi)
  · rw [List.getD_eq_getElem?_getD, List.getElem?_eq_none (by omega)]
    simp
theorem Dg.of_getD {L : List Int} (h : ∀ i, i < L.length → 0 ≤ L.getD i 0 ∧ L.getD i 0 < 1073741824) : Dg L := by
  intro d hd
  obtain ⟨i, hi, rfl⟩ := List.getElem_of_mem hd
  have := h i hi
  rw [List.getD_eq_getElem?_getD, List.getElem?_eq_getElem hi] at this
  exact this

theorem digs_zero : digs 0 = [] := rfl
theorem digs_pos (n : Nat) (h : n ≠ 0) : digs n = ((n % 1073741824 : Nat) : Int) :: digs (n / 1073741824) := by
  obtain ⟨m, rfl⟩ : ∃ m, n = m + 1 := ⟨n - 1, by omega⟩
  unfold digs
  conv => lhs; unfold digsF
  rw [if_neg h, digsF_eq m ((m + 1) / 1073741824) _ (by omega) (Nat.le_refl _)]

theorem nv_digs (n : Nat) : nv (digs n) = n := by
  induction n using Nat.strongRecOn with
  | ind n ih =>
    by_cases h : n = 0
    · subst h; rw [digs_zero]; rfl
    · rw [digs_pos n h, nv, ih _ (by omega)]; omega
theorem dg_digs (n : Nat) : Dg (digs n) := by
  induction n using Nat.strongRecOn with
  | ind n ih =>
    by_cases h : n = 0
    · subst h; rw [digs_zero]; exact Dg.nil
    · rw [digs_pos n h]; exact Dg.cons (by omega) (by omega) (ih _ (by omega))

theorem pow30 (i : Nat) : 2 ^ (30 * (i + 1)) = 1073741824 * 2 ^ (30 * i) := by
  rw [Nat.mul_add, Nat.mul_one, Nat.pow_add, Nat.mul_comm]

theorem nv_lt (L : List Int) (h : Dg L) : nv L < 2 ^ (30 * L.length) := by
  induction L with
  | nil => simp [nv]
  | cons d L ih =>
    have := ih h.tail
    have := h.head
    rw [List.length_cons, pow30, nv]
    omega

theorem nv_getD (L : List Int) (h : Dg L) (i : Nat) : (L.getD i 0).toNat = nv L / 2 ^ (30 * i) % 1073741824 := by
  induction L generalizing i with
  | nil => simp [nv]
  | cons d L ih =>
    have hd := h.head
    cases i with
    | zero => simp [nv]; omega
    | succ i =>
      rw [List.getD_cons_succ, ih h.tail, nv, pow30, ← Nat.div_div_eq_div_mul]
      congr 2
      omega

theorem nv_inj (L M : List Int) (hL : Dg L) (hM : Dg M) (hl : L.length = M.length) (h : nv L = nv M) : L = M := by
  induction L generalizing M with
  | nil => cases M with
    | nil => rfl
    | cons => simp at hl
  | cons d L ih => cases M with
    | nil => simp at hl
    | cons e M =>
      have h1 := hL.head
      have h2 := hM.head
      simp only [nv] at h
      have : nv L = nv M := by omega
      rw [ih M hL.tail hM.tail (by simpa using hl) this]
      congr 1
      omega

theorem nv_append (L M : List Int) : nv (L ++ M) = nv L + 2 ^ (30 * L.length) * nv M := by
  induction L with
  | nil => simp [nv]
  | cons d L ih =>
    simp only [List.cons_append, nv, ih, List.length_cons, pow30]
    rw [Nat.mul_add, Nat.add_assoc, Nat.mul_assoc]

theorem nv_zero (L : List Int) (h : Dg L) : nv L = 0 ↔ ∀ i, L.getD i 0 = 0 := by
  constructor
  · intro h0 i
    have h1 := nv_getD L h i
    have h2 := h.getD i
    rw [h0, Nat.zero_div] at h1
    omega
  · intro hz
    induction L with
    | nil => rfl
    | cons d L ih =>
      have h0 := hz 0
      simp at h0
      rw [nv, ih h.tail (fun i => by have := hz (i + 1); simpa using this), h0]
      rfl

/-- The digits' last one is not 0: the number is at least its place. -/
theorem nv_ge (L : List Int) (h : Dg L) (hl : L.getD (L.length - 1) 0 ≠ 0) : 2 ^ (30 * (L.length - 1)) ≤ nv L := by
  have h1 := nv_getD L h (L.length - 1)
  have h2 := h.getD (L.length - 1)
  have h3 : nv L / 2 ^ (30 * (L.length - 1)) ≠ 0 := by
    intro hz; rw [hz] at h1; omega
  by_cases hlt : nv L < 2 ^ (30 * (L.length - 1))
  · exact absurd (Nat.div_eq_of_lt hlt) h3
  · omega

theorem digs_length_le (n k : Nat) (h : n < 2 ^ (30 * k)) : (digs n).length ≤ k := by
  induction k generalizing n with
  | zero => simp at h; subst h; rw [digs_zero]; simp
  | succ k ih =>
    by_cases h0 : n = 0
    · subst h0; rw [digs_zero]; simp
    · rw [digs_pos n h0, List.length_cons]
      rw [pow30] at h
      have := ih (n / 1073741824) (by omega)
      omega
theorem digs_length_ge (n k : Nat) (h : 2 ^ (30 * k) ≤ n) : k < (digs n).length := by
  induction k generalizing n with
  | zero => simp at h; rw [digs_pos n (by omega)]; simp
  | succ k ih =>
    rw [pow30] at h
    have hp : 0 < 2 ^ (30 * k) := Nat.two_pow_pos _
    rw [digs_pos n (by omega), List.length_cons]
    have := ih (n / 1073741824) (by omega)
    omega

theorem digs_last (n : Nat) (h : n ≠ 0) : (digs n).getD ((digs n).length - 1) 0 ≠ 0 := by
  induction n using Nat.strongRecOn with
  | ind n ih =>
    rw [digs_pos n h, List.length_cons, Nat.add_sub_cancel]
    by_cases h0 : n / 1073741824 = 0
    · rw [h0, digs_zero]; simp; omega
    · have := ih _ (by omega) h0
      have hpos : 0 < (digs (n / 1073741824)).length := digs_length_ge _ 0 (by simp; omega)
      obtain ⟨m, hm⟩ : ∃ m, (digs (n / 1073741824)).length = m + 1 := ⟨_, (Nat.sub_add_cancel hpos).symm⟩
      rw [hm] at this ⊢
      rw [List.getD_cons_succ]
      exact this

theorem digs_nv (L : List Int) (h : Dg L) (hl : L = [] ∨ L.getD (L.length - 1) 0 ≠ 0) : digs (nv L) = L := by
  rcases hl with rfl | hl
  · exact digs_zero
  · by_cases hn : L = []
    · subst hn; exact digs_zero
    · refine nv_inj _ _ (dg_digs _) h ?_ (nv_digs _)
      have h1 := digs_length_le _ _ (nv_lt L h)
      have h2 := digs_length_ge _ _ (nv_ge L h hl)
      have : 0 < L.length := List.length_pos_iff.2 hn
      omega

/-! ### Length in bits, noughts below -/
def bl (n : Nat) : Nat := if n = 0 then 0 else n.log2 + 1
theorem bl_eq (n m : Nat) (h1 : 2 ^ m ≤ n) (h2 : n < 2 ^ (m + 1)) : bl n = m + 1 := by
  have hn : n ≠ 0 := by have := Nat.two_pow_pos m; omega
  rw [bl, if_neg hn, (Nat.log2_eq_iff hn).2 ⟨h1, h2⟩]
theorem bl_zero : bl 0 = 0 := rfl
theorem bl_pos (n : Nat) (h : n ≠ 0) : 2 ^ (bl n - 1) ≤ n ∧ n < 2 ^ bl n ∧ 0 < bl n := by
  rw [bl, if_neg h]
  exact ⟨by rw [Nat.add_sub_cancel]; exact Nat.log2_self_le h, Nat.lt_log2_self, by omega⟩
theorem bl_lt (n : Nat) : n < 2 ^ bl n := by
  by_cases h : n = 0
  · subst h; exact Nat.two_pow_pos _
  · exact (bl_pos n h).2.1
theorem bl_le (n m : Nat) (h : n < 2 ^ m) : bl n ≤ m := by
  by_cases h0 : n = 0
  · subst h0; rw [bl_zero]; omega
  · have h1 := bl_pos n h0
    have := (Nat.pow_lt_pow_iff_right (a := 2) (by decide)).1 (Nat.lt_of_le_of_lt h1.1 h)
    omega
theorem le_bl (n m : Nat) (h : 2 ^ m ≤ n) : m < bl n := by
  have := bl_lt n
  exact (Nat.pow_lt_pow_iff_right (a := 2) (by decide)).1 (Nat.lt_of_le_of_lt h this)
theorem bl_mul (n k : Nat) (h : n ≠ 0) : bl (n * 2 ^ k) = bl n + k := by
  have h1 := bl_pos n h
  have hp := Nat.two_pow_pos k
  have e : bl n - 1 + k + 1 = bl n + k := by omega
  rw [← e]
  apply bl_eq
  · rw [Nat.pow_add]; exact Nat.mul_le_mul_right _ h1.1
  · rw [show bl n - 1 + k + 1 = bl n + k by omega, Nat.pow_add]
    exact Nat.mul_lt_mul_of_lt_of_le h1.2.1 (Nat.le_refl _) hp

def tznF : Nat → Nat → Nat
  | 0, _ => 0
  | f + 1, n => if n = 0 then 0 else if n % 2 = 1 then 0 else 1 + tznF f (n / 2)
def tzn (n : Nat) : Nat := tznF n n
theorem tznF_eq : ∀ (f g n : Nat), n ≤ f → n ≤ g → tznF f n = tznF g n := by
  intro f
  induction f with
  | zero =>
    intro g n hf hg
    obtain rfl : n = 0 := by omega
    cases g with
    | zero => rfl
    | succ g => simp [tznF]
  | succ f ih =>
    intro g n hf hg
    cases g with
    | zero =>
      obtain rfl : n = 0 := by omega
      simp [tznF]
    | succ g =>
      unfold tznF
      by_cases h : n = 0
      · rw [if_pos h, if_pos h]
      · rw [if_neg h, if_neg h, ih g _ (by omega) (by omega)]
theorem tzn_odd (n : Nat) (h : n % 2 = 1) : tzn n = 0 := by
  obtain ⟨m, rfl⟩ : ∃ m, n = m + 1 := ⟨n - 1, by omega⟩
  unfold tzn tznF
  rw [if_neg (by omega), if_pos h]
theorem tzn_even (n : Nat) (h0 : n ≠ 0) (h : n % 2 = 0) : tzn n = 1 + tzn (n / 2) := by
  obtain ⟨m, rfl⟩ : ∃ m, n = m + 1 := ⟨n - 1, by omega⟩
  unfold tzn
  conv => lhs; unfold tznF
  rw [if_neg h0, if_neg (by omega), tznF_eq m ((m + 1) / 2) _ (by omega) (Nat.le_refl _)]
theorem tzn_mul (o k : Nat) (h : o % 2 = 1) : tzn (o * 2 ^ k) = k := by
  induction k with
  | zero => simp [tzn_odd o h]
  | succ k ih =>
    have hp := Nat.two_pow_pos k
    have e : o * 2 ^ (k + 1) = 2 * (o * 2 ^ k) := by rw [Nat.pow_succ, ← Nat.mul_assoc, Nat.mul_comm]
    have h1 : 0 < o * 2 ^ k := Nat.mul_pos (by omega) hp
    rw [e, tzn_even _ (by omega) (by omega), show 2 * (o * 2 ^ k) / 2 = o * 2 ^ k by omega, ih]
    omega
theorem tzn_spec (n : Nat) (h : n ≠ 0) : ∃ o, o % 2 = 1 ∧ n = o * 2 ^ tzn n := by
  induction n using Nat.strongRecOn with
  | ind n ih =>
    by_cases h1 : n % 2 = 1
    · exact ⟨n, h1, by rw [tzn_odd n h1]; simp⟩
    · obtain ⟨o, ho, e⟩ := ih (n / 2) (by omega) (by omega)
      refine ⟨o, ho, ?_⟩
      rw [tzn_even n h (by omega), Nat.add_comm, Nat.pow_succ, ← Nat.mul_assoc, ← e]
      omega
theorem tzn_div (n : Nat) (h : n ≠ 0) : n / 2 ^ tzn n % 2 = 1 ∧ n = n / 2 ^ tzn n * 2 ^ tzn n := by
  obtain ⟨o, ho, e⟩ := tzn_spec n h
  have hp := Nat.two_pow_pos (tzn n)
  have : n / 2 ^ tzn n = o := by
    conv => lhs; rw [e]
    rw [show tzn (o * 2 ^ tzn n) = tzn n from tzn_mul o _ ho]
    exact Nat.mul_div_cancel _ hp
  rw [this]
  exact ⟨ho, e⟩

/-! ### Pieces -/
theorem piece_nat (v s : Nat) (hs : s < 30) (i : Nat) : (v / 2 ^ (30 * i) % 1073741824 / 2 ^ s + v / 2 ^ (30 * (i + 1)) % 1073741824 * 2 ^ (30 - s)) % 1073741824 = v / 2 ^ (30 * i + s) % 1073741824 := by
  rw [Nat.pow_add, pow30, Nat.mul_comm 1073741824, ← Nat.div_div_eq_div_mul, ← Nat.div_div_eq_div_mul]
  generalize v / 2 ^ (30 * i) = u
  obtain ⟨p, q, hp, hq, e⟩ : ∃ p q : Nat, 2 ^ s = p ∧ 2 ^ (30 - s) = q ∧ p * q = 1073741824 := ⟨_, _, rfl, rfl, by rw [← Nat.pow_add, show s + (30 - s) = 30 by omega]⟩
  rw [hp, hq, ← e]
  have hp0 : 0 < p := by rw [← hp]; exact Nat.two_pow_pos _
  have hq0 : 0 < q := by rw [← hq]; exact Nat.two_pow_pos _
  rw [Nat.mod_mul_right_div_self, ← Nat.div_div_eq_div_mul]
  generalize u / p = a
  have e1 : ∀ x y n : Nat, (x + y % n * q) % n = (x + y * q) % n := by
    intro x y n
    rw [Nat.add_mod, Nat.mul_mod (y % n), Nat.mod_mod, ← Nat.mul_mod, ← Nat.add_mod]
  rw [e1]
  congr 1
  have := Nat.div_add_mod a q
  rw [Nat.mul_comm q] at this
  omega

/-- A piece of 30 bits of a number, from a place on; below its end there are noughts. -/
def pcz (v : Nat) (p : Int) : Int := if 0 ≤ p then ((v / 2 ^ p.toNat % 1073741824 : Nat) : Int) else ((v * 2 ^ (-p).toNat % 1073741824 : Nat) : Int)

theorem mask30 (s : Int) : bits .and .i64 s 1073741823 = s % 1073741824 := by
  have e : (BitVec.ofInt 64 1073741823 : BitVec 64).toNat = 2 ^ 30 - 1 := by decide
  have h := ofInt_toNat s
  rw [bits_and, BitVec.toNat_and, e, Nat.and_two_pow_sub_one_eq_mod, wrap_i64]
  omega

theorem or_sum (x y k : Nat) (h : x < 2 ^ k) (hb : x + y * 2 ^ k < 9223372036854775808) : bits .or .i64 (x : Int) ((y * 2 ^ k : Nat) : Int) = ((x + y * 2 ^ k : Nat) : Int) := by
  rw [bits_or, BitVec.toNat_or]
  have h1 := ofInt_toNat (x : Int)
  have h2 := ofInt_toNat ((y * 2 ^ k : Nat) : Int)
  have e1 : (BitVec.ofInt 64 (x : Int)).toNat = x := by omega
  have e2 : (BitVec.ofInt 64 ((y * 2 ^ k : Nat) : Int)).toNat = y * 2 ^ k := by omega
  rw [e1, e2, Nat.or_comm, Nat.mul_comm, ← Nat.two_pow_add_eq_or_of_lt h, wrap_i64, Nat.mul_comm (2 ^ k) y]
  generalize y * 2 ^ k = z at *
  omega

end Go.Proofs.Ytocjfdiimapojaa
