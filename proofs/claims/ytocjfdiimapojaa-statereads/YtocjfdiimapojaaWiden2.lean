/- Floats and their patterns: the walks of Float, Float32, Of, Of32, and of a sum that is a number. How the patterns of floats lie in order: a format's order of words is the order of their keys, the rung with the sign. No Go in sight. Patterns as floats: the key of a pattern, which patterns are no numbers, that a pattern comes back. The walk of widened of package bits: a pattern's value as a binary64. The walks of widened, Less, Same of package bits. The arithmetic of rounding: the floats as rungs, what is kept of a number and what is cut off; patterns by their keys. -/
import Derived.Test.YtocjfdiimapojaaParts
import Derived.Test.YtocjfdiimapojaaTurns2
import Derived.Laws.FloatArith
import Derived.Laws.Externs
import Ieee.Arith
namespace Go.Proofs.Ytocjfdiimapojaa
open Go.ChangeShapes Go.WideShapes Go.ChangeAt Go.RowKit

theorem call_frombits64 (x : Int) (w : World) : (callFunc 81 #[.int .u64 x]).run Try.prog w = .ok (.value (.float .f64 x.toNat)) w := by
  rw [run_callFunc_extern (fn := Try.f81) (e := Extern.MathFloatBits.float64frombits) (by kernel_rfl) (by kernel_rfl) (by kernel_rfl) (by kernel_rfl) (by kernel_rfl)]
  rfl
theorem call_bits64 (x : Nat) (w : World) : (callFunc 83 #[.float .f64 x]).run Try.prog w = .ok (.value (.int .u64 x)) w := by
  rw [run_callFunc_extern (fn := Try.f83) (e := Extern.MathFloatBits.float64bits) (by kernel_rfl) (by kernel_rfl) (by kernel_rfl) (by kernel_rfl) (by kernel_rfl)]
  rfl
theorem call_frombits32 (x : Int) (w : World) : (callFunc 82 #[.int .u32 x]).run Try.prog w = .ok (.value (.float .f32 x.toNat)) w := by
  rw [run_callFunc_extern (fn := Try.f82) (e := Extern.MathFloatBits.float32frombits) (by kernel_rfl) (by kernel_rfl) (by kernel_rfl) (by kernel_rfl) (by kernel_rfl)]
  rfl
def pat64 (b : Int) : Nat := (IntKind.u64.wrap b).toNat
def pat32 (b : Int) : Nat := if val b 32 = true then (b % 4294967296).toNat else 2143289345
def of64 (x : Nat) : Int := if (FloatKind.f64.format.order x x != some .eq) = true then 9221120237041090561 else wrap64 x
def of32 (x : Nat) : Int := if (FloatKind.f32.format.order x x != some .eq) = true then 2143289345 else wrap64 x

theorem ret_float {k : FloatKind} {a b : Nat} (h : a = b) : Ending.returned (.float k a) = .returned (.float k b) := by rw [h]

set_option maxHeartbeats 400000 in
theorem float_any (b : Int) (w : World) : Calls Try.prog 70 #[.int .i64 b] w fun e w' => e = .returned (.float .f64 (pat64 b)) ∧ w = w' := by
  have h1 := call_frombits64
  go_enter Try.func70, Try.ntmps70
  go_wp2
  go_ret
  exact ⟨rfl, rfl⟩

set_option maxHeartbeats 400000 in
theorem float32_any (b : Int) (w : World) : Calls Try.prog 71 #[.int .i64 b] w fun e w' => e = .returned (.float .f32 (pat32 b)) ∧ w = w' := by
  have h1 := call_frombits32
  go_enter Try.func71, Try.ntmps71
  go_wp2_with (go_at_call 69; refine (valid_any _ _ _).mono ?_; rintro e w2 ⟨rfl, rfl⟩)
  · go_ret
    exact ⟨ret_float (by unfold pat32; rw [if_neg (by simp_all)]), rfl⟩
  · go_ret
    exact ⟨ret_float (by unfold pat32; rw [if_pos (by simp_all)]), rfl⟩

end Go.Proofs.Ytocjfdiimapojaa

namespace Go.Proofs.Ytocjfdiimapojaa
open Ieee

theorem binade_pos (f : Format) : 0 < f.binade := Nat.two_pow_pos _

/-- The magnitude of a rung, in units of the least place. -/
def rungVal (f : Format) (r : Nat) : Nat := if r < f.binade then r else (f.binade + r % f.binade) * 2 ^ (r / f.binade - 1)

theorem rungVal_succ (f : Format) (r : Nat) : rungVal f r < rungVal f (r + 1) := by
  have hb := binade_pos f
  unfold rungVal
  by_cases h : r < f.binade
  · rw [if_pos h]
    by_cases h1 : r + 1 < f.binade
    · rw [if_pos h1]; omega
    · have e : r + 1 = f.binade := by omega
      rw [if_neg h1, e, Nat.mod_self, Nat.div_self hb]
      simp
      omega
  · have h1 : ¬ r + 1 < f.binade := by omega
    rw [if_neg h, if_neg h1]
    have hd := Nat.div_add_mod r f.binade
    have hm := Nat.mod_lt r hb
    have hq : 1 ≤ r / f.binade := (Nat.le_div_iff_mul_le hb).2 (by omega)
    by_cases hc : r % f.binade + 1 < f.binade
    · have e1 : (r + 1) / f.binade = r / f.binade := by
        rw [Nat.div_eq_iff hb]
        have : f.binade * (r / f.binade) = r / f.binade * f.binade := Nat.mul_comm _ _
        constructor <;> omega
      have e2 : (r + 1) % f.binade = r % f.binade + 1 := by
        rw [Nat.add_mod, Nat.mod_eq_of_lt (show 1 < f.binade by omega), Nat.mod_eq_of_lt hc]
      rw [e1, e2]
      exact Nat.mul_lt_mul_of_pos_right (by omega) (Nat.two_pow_pos _)
    · have e3 : r + 1 = f.binade * (r / f.binade + 1) := by rw [Nat.mul_add]; omega
      rw [e3, Nat.mul_mod_right, Nat.mul_div_cancel_left _ hb]
      obtain ⟨q, hq'⟩ : ∃ q, r / f.binade = q + 1 := ⟨r / f.binade - 1, by omega⟩
      rw [hq']
      simp only [Nat.add_sub_cancel, Nat.add_zero]
      have : 2 ^ (q + 1) = 2 * 2 ^ q := by rw [Nat.pow_succ, Nat.mul_comm]
      rw [this, ← Nat.mul_assoc]
      exact Nat.mul_lt_mul_of_pos_right (by omega) (Nat.two_pow_pos _)

theorem rungVal_lt (f : Format) {r s : Nat} (h : r < s) : rungVal f r < rungVal f s := by
  induction s with
  | zero => omega
  | succ s ih =>
    by_cases hs : r = s
    · subst hs; exact rungVal_succ f r
    · exact Nat.lt_trans (ih (by omega)) (rungVal_succ f s)

theorem rungVal_inj (f : Format) {r s : Nat} (h : rungVal f r = rungVal f s) : r = s := by
  rcases Nat.lt_trichotomy r s with h1 | h1 | h1
  · have := rungVal_lt f h1; omega
  · exact h1
  · have := rungVal_lt f h1; omega

theorem rungVal_le (f : Format) {r s : Nat} : rungVal f r < rungVal f s ↔ r < s := by
  constructor
  · intro h
    rcases Nat.lt_trichotomy r s with h1 | h1 | h1
    · exact h1
    · subst h1; omega
    · have := rungVal_lt f h1; omega
  · exact rungVal_lt f

def rung (f : Format) (x : Nat) : Nat := x % f.signWeight
def below (f : Format) (x : Nat) : Bool := x / f.signWeight % 2 == 1
/-- The rung with the sign: the place of a word among all numbers (both zeros at 0). -/
def key (f : Format) (x : Nat) : Int := if below f x = true then -(rung f x : Int) else (rung f x : Int)

theorem read_nan (f : Format) (x : Nat) (h : f.infRung < rung f x) (hb : f.binade ≤ f.infRung) : ∃ s t, f.read x = .nan s t := by
  unfold rung at h
  refine ⟨x / f.signWeight % 2 == 1, x % f.signWeight - f.infRung, ?_⟩
  unfold Format.read
  simp only
  rw [if_neg (by omega), if_neg (by omega), if_neg (by omega)]

theorem read_inf (f : Format) (x : Nat) (h : rung f x = f.infRung) (hb : f.binade ≤ f.infRung) : f.read x = .infinity (below f x) := by
  unfold rung at h
  unfold Format.read below
  simp only
  rw [if_neg (by omega), if_neg (by omega), if_pos h]

theorem read_num (f : Format) (x : Nat) (h : rung f x < f.infRung) : ∃ m i, f.read x = .number (below f x) m i ∧ f.leastPlace ≤ i ∧ m * 2 ^ (i - f.leastPlace).toNat = rungVal f (rung f x) ∧ m < 2 * f.binade := by
  unfold rung at h
  unfold Format.read below rung rungVal
  simp only
  by_cases h1 : x % f.signWeight < f.binade
  · rw [if_pos h1, if_pos h1]
    exact ⟨_, _, rfl, Int.le_refl _, by simp, by omega⟩
  · rw [if_neg h1, if_neg h1, if_pos h]
    have := Nat.mod_lt (x % f.signWeight) (binade_pos f)
    refine ⟨_, _, rfl, by omega, ?_, by omega⟩
    congr 2
    omega

def sv (s : Bool) (v : Nat) : Int := if s = true then -(v : Int) else (v : Int)

theorem signed_sv (s : Bool) (m u : Nat) : signed s m u = sv s (m * 2 ^ u) := by
  unfold signed sv
  rw [Nat.shiftLeft_eq]

theorem sv_mul (s : Bool) (v K : Nat) : sv s v * ((2 ^ K : Nat) : Int) = sv s (v * 2 ^ K) := by
  unfold sv
  cases s <;> simp [Int.natCast_mul, Int.neg_mul]

theorem compare_congr {a b c d : Int} (h1 : a < b ↔ c < d) (h2 : a = b ↔ c = d) : compare a b = compare c d := by
  show compareOfLessAndEq a b = compareOfLessAndEq c d
  unfold compareOfLessAndEq
  by_cases h : a < b
  · rw [if_pos h, if_pos (h1.1 h)]
  · rw [if_neg h, if_neg (fun g => h (h1.2 g))]
    by_cases e : a = b
    · rw [if_pos e, if_pos (h2.1 e)]
    · rw [if_neg e, if_neg (fun g => e (h2.2 g))]

theorem rungVal_zero (f : Format) : rungVal f 0 = 0 := by
  unfold rungVal
  rw [if_pos (binade_pos f)]

theorem sv_lt (f : Format) (s t : Bool) (r q : Nat) : sv s (rungVal f r) < sv t (rungVal f q) ↔ sv s r < sv t q := by
  have z := rungVal_zero f
  have h1 := rungVal_le f (r := r) (s := q)
  have h2 := rungVal_le f (r := q) (s := r)
  have h3 := rungVal_le f (r := 0) (s := r)
  have h4 := rungVal_le f (r := 0) (s := q)
  rw [z] at h3 h4
  unfold sv
  cases s <;> cases t <;> simp <;> omega

theorem sv_eq (f : Format) (s t : Bool) (r q : Nat) : sv s (rungVal f r) = sv t (rungVal f q) ↔ sv s r = sv t q := by
  have h1 := sv_lt f s t r q
  have h2 := sv_lt f t s q r
  omega

theorem key_sv (f : Format) (x : Nat) : key f x = sv (below f x) (rung f x) := rfl

theorem cmp_lt {a b : Int} (h : a < b) : some Ordering.lt = some (compare a b) := by
  simp only [compare, compareOfLessAndEq]
  rw [if_pos h]
theorem cmp_eq {a b : Int} (h : a = b) : some Ordering.eq = some (compare a b) := by
  simp only [compare, compareOfLessAndEq]
  rw [if_neg (by omega), if_pos h]
theorem cmp_gt {a b : Int} (h : b < a) : some Ordering.gt = some (compare a b) := by
  simp only [compare, compareOfLessAndEq]
  rw [if_neg (by omega), if_neg (by omega)]
theorem sv_f (v : Nat) : sv false v = (v : Int) := rfl
theorem sv_t (v : Nat) : sv true v = -(v : Int) := rfl

theorem order_num (f : Format) (x y : Nat) (hb : f.binade ≤ f.infRung) (hx : rung f x ≤ f.infRung) (hy : rung f y ≤ f.infRung) : f.order x y = some (compare (key f x) (key f y)) := by
  unfold Format.order
  have hp : 0 < f.infRung := Nat.lt_of_lt_of_le (binade_pos f) hb
  by_cases h1 : rung f x = f.infRung
  · by_cases h2 : rung f y = f.infRung
    · rw [read_inf f x h1 hb, read_inf f y h2 hb, key_sv, key_sv, h1, h2]
      generalize below f x = s
      generalize below f y = t
      cases s <;> cases t <;> simp only [sv_f, sv_t]
      · exact cmp_eq rfl
      · exact cmp_gt (by omega)
      · exact cmp_lt (by omega)
      · exact cmp_eq rfl
    · obtain ⟨n, j, ey, -, -, -⟩ := read_num f y (by omega)
      rw [read_inf f x h1 hb, ey, key_sv, key_sv, h1]
      generalize below f x = s
      generalize below f y = t
      cases s <;> cases t <;> simp only [sv_f, sv_t]
      · exact cmp_gt (by omega)
      · exact cmp_gt (by omega)
      · exact cmp_lt (by omega)
      · exact cmp_lt (by omega)
  · obtain ⟨m, i, ex, hi, vm, -⟩ := read_num f x (by omega)
    by_cases h2 : rung f y = f.infRung
    · rw [ex, read_inf f y h2 hb, key_sv, key_sv, h2]
      generalize below f x = s
      generalize below f y = t
      cases s <;> cases t <;> simp only [sv_f, sv_t]
      · exact cmp_lt (by omega)
      · exact cmp_gt (by omega)
      · exact cmp_lt (by omega)
      · exact cmp_gt (by omega)
    · obtain ⟨n, j, ey, hj, vn, -⟩ := read_num f y (by omega)
      rw [ex, ey]
      unfold Datum.order
      simp only
      congr 1
      obtain ⟨K, hK⟩ : ∃ K, K = (min i j - f.leastPlace).toNat := ⟨_, rfl⟩
      have a1 : (i - min i j).toNat + K = (i - f.leastPlace).toNat := by omega
      have a2 : (j - min i j).toNat + K = (j - f.leastPlace).toNat := by omega
      have e1 : signed (below f x) m (i - min i j).toNat * ((2 ^ K : Nat) : Int) = sv (below f x) (rungVal f (rung f x)) := by
        rw [signed_sv, sv_mul, Nat.mul_assoc, ← Nat.pow_add, a1, vm]
      have e2 : signed (below f y) n (j - min i j).toNat * ((2 ^ K : Nat) : Int) = sv (below f y) (rungVal f (rung f y)) := by
        rw [signed_sv, sv_mul, Nat.mul_assoc, ← Nat.pow_add, a2, vn]
      have hK0 : (0 : Int) < ((2 ^ K : Nat) : Int) := by exact_mod_cast Nat.two_pow_pos K
      refine compare_congr ?_ ?_
      · rw [key_sv, key_sv, ← sv_lt f, ← e1, ← e2]
        exact (Int.mul_lt_mul_right hK0).symm
      · rw [key_sv, key_sv, ← sv_eq f, ← e1, ← e2]
        exact (Int.mul_eq_mul_right_iff (by omega)).symm

theorem order_nan_left (f : Format) (x y : Nat) (hb : f.binade ≤ f.infRung) (hx : f.infRung < rung f x) : f.order x y = none := by
  obtain ⟨s, t, e⟩ := read_nan f x hx hb
  unfold Format.order
  rw [e]
  rfl

theorem order_nan_right (f : Format) (x y : Nat) (hb : f.binade ≤ f.infRung) (hy : f.infRung < rung f y) : f.order x y = none := by
  obtain ⟨s, t, e⟩ := read_nan f y hy hb
  unfold Format.order
  rw [e]
  cases f.read x <;> rfl

theorem cut_none (neg : Bool) (n : Nat) : Toward.even.cut neg n 0 = n := by
  unfold Toward.cut
  simp [Nat.mod_one]

/-- A number whose digits a format has room for, and that is not too great for it, is written without rounding. -/
theorem nearest_exact (f : Format) (s : Bool) (m : Nat) (p : Int) (hm : m ≠ 0) (hl : m.log2 ≤ f.fractionBits) (hp : f.leastPlace ≤ p) (hV : m * 2 ^ (p - f.leastPlace).toNat < rungVal f f.infRung) :
    ∃ r, f.nearest s m p = f.word s r ∧ r < f.infRung ∧ rungVal f r = m * 2 ^ (p - f.leastPlace).toNat := by
  have hb := binade_pos f
  have l1 : 2 ^ m.log2 ≤ m := Nat.log2_self_le hm
  have l2 : m < 2 ^ (m.log2 + 1) := Nat.lt_log2_self
  obtain ⟨last, hlast⟩ : ∃ last, last = max (p + (m.log2 : Int) - (f.fractionBits : Int)) f.leastPlace := ⟨_, rfl⟩
  have hle : last ≤ p := by omega
  have hd : (last - p).toNat = 0 := by omega
  have hn : f.nearest s m p = f.word s (min ((last - f.leastPlace).toNat * f.binade + m * 2 ^ (p - last).toNat) f.infRung) := by
    unfold Format.nearest
    rw [if_neg hm]
    simp only
    rw [← hlast, hd, cut_none, Nat.shiftLeft_eq]
  suffices hr : rungVal f ((last - f.leastPlace).toNat * f.binade + m * 2 ^ (p - last).toNat) = m * 2 ^ (p - f.leastPlace).toNat by
    have hlt : (last - f.leastPlace).toNat * f.binade + m * 2 ^ (p - last).toNat < f.infRung := by
      rw [← rungVal_le f, hr]; exact hV
    exact ⟨_, by rw [hn, Nat.min_eq_left (Nat.le_of_lt hlt)], hlt, hr⟩
  by_cases hc : f.leastPlace ≤ p + (m.log2 : Int) - (f.fractionBits : Int)
  · have e1 : (p - last).toNat = f.fractionBits - m.log2 := by omega
    obtain ⟨L, hL⟩ : ∃ L, L = (last - f.leastPlace).toNat := ⟨_, rfl⟩
    have e2 : (p - f.leastPlace).toNat = f.fractionBits - m.log2 + L := by omega
    rw [e1, e2, ← hL]
    obtain ⟨n, hn'⟩ : ∃ n, n = m * 2 ^ (f.fractionBits - m.log2) := ⟨_, rfl⟩
    have n1 : f.binade ≤ n := by
      rw [hn']; unfold Format.binade
      calc 2 ^ f.fractionBits = 2 ^ m.log2 * 2 ^ (f.fractionBits - m.log2) := by rw [← Nat.pow_add]; congr 1; omega
        _ ≤ _ := Nat.mul_le_mul_right _ l1
    have n2 : n < 2 * f.binade := by
      rw [hn']; unfold Format.binade
      calc m * 2 ^ (f.fractionBits - m.log2) < 2 ^ (m.log2 + 1) * 2 ^ (f.fractionBits - m.log2) := Nat.mul_lt_mul_of_pos_right l2 (Nat.two_pow_pos _)
        _ = 2 * 2 ^ f.fractionBits := by rw [← Nat.pow_add, ← Nat.pow_succ']; congr 1; omega
    rw [Nat.pow_add, ← Nat.mul_assoc, ← hn']
    obtain ⟨g, rfl⟩ : ∃ g, n = f.binade + g := ⟨n - f.binade, by omega⟩
    have hg : g < f.binade := by omega
    have e3 : L * f.binade + (f.binade + g) = f.binade * (L + 1) + g := by rw [Nat.mul_add, Nat.mul_comm L]; omega
    have hge : f.binade * (L + 1) = L * f.binade + f.binade := by rw [Nat.mul_add, Nat.mul_comm L, Nat.mul_one]
    unfold rungVal
    rw [e3, if_neg (by omega), Nat.mul_add_mod, Nat.mod_eq_of_lt hg, Nat.mul_add_div hb, Nat.div_eq_of_lt hg]
    congr 2
  · have e1 : last = f.leastPlace := by omega
    have e2 : m * 2 ^ (p - f.leastPlace).toNat < f.binade := by
      unfold Format.binade
      calc m * 2 ^ (p - f.leastPlace).toNat < 2 ^ (m.log2 + 1) * 2 ^ (p - f.leastPlace).toNat := Nat.mul_lt_mul_of_pos_right l2 (Nat.two_pow_pos _)
        _ = 2 ^ (m.log2 + 1 + (p - f.leastPlace).toNat) := by rw [← Nat.pow_add]
        _ ≤ 2 ^ f.fractionBits := Nat.pow_le_pow_right (by decide) (by omega)
    rw [e1]
    simp only [Int.sub_self, Int.toNat_zero, Nat.zero_mul, Nat.zero_add]
    unfold rungVal
    rw [if_pos e2]

theorem rung_word (f : Format) (s : Bool) (r : Nat) (h : r < f.signWeight) : rung f (f.word s r) = r := by
  unfold rung Format.word
  cases s
  · simp [Nat.mod_eq_of_lt h]
  · simp [Nat.mod_eq_of_lt h]

theorem below_word (f : Format) (s : Bool) (r : Nat) (h : r < f.signWeight) : below f (f.word s r) = s := by
  unfold below Format.word
  have hp : 0 < f.signWeight := Nat.two_pow_pos _
  cases s
  · simp [Nat.div_eq_of_lt h]
  · simp [Nat.add_div_left _ hp, Nat.div_eq_of_lt h]

end Go.Proofs.Ytocjfdiimapojaa

namespace Go.Proofs.Ytocjfdiimapojaa
open Ieee

theorem sw64 : FloatKind.f64.format.signWeight = 9223372036854775808 := by decide +kernel
theorem inf64 : FloatKind.f64.format.infRung = 9218868437227405312 := by decide +kernel
theorem bin64 : FloatKind.f64.format.binade = 4503599627370496 := by decide +kernel
theorem hb64 : FloatKind.f64.format.binade ≤ FloatKind.f64.format.infRung := by decide +kernel
theorem sw32 : FloatKind.f32.format.signWeight = 2147483648 := by decide +kernel
theorem inf32 : FloatKind.f32.format.infRung = 2139095040 := by decide +kernel
theorem bin32 : FloatKind.f32.format.binade = 8388608 := by decide +kernel
theorem hb32 : FloatKind.f32.format.binade ≤ FloatKind.f32.format.infRung := by decide +kernel

theorem pat64_eq (b : Int) : (pat64 b : Int) = b % 18446744073709551616 := by
  unfold pat64
  rw [IntKind.wrap_u64]
  omega

theorem rung_pat64 (b : Int) : (rung FloatKind.f64.format (pat64 b) : Int) = b % 9223372036854775808 := by
  have h := pat64_eq b
  unfold rung
  rw [sw64]
  omega

theorem below_pat64 (b : Int) (hb1 : -9223372036854775808 ≤ b) (hb2 : b ≤ 9223372036854775807) : below FloatKind.f64.format (pat64 b) = decide (b < 0) := by
  have h := pat64_eq b
  unfold below
  rw [sw64, Bool.eq_iff_iff, beq_iff_eq, decide_eq_true_eq]
  omega

theorem nan_64 (b : Int) : cls b 64 = 4 ↔ FloatKind.f64.format.infRung < rung FloatKind.f64.format (pat64 b) := by
  have h := rung_pat64 b
  rw [inf64]
  unfold cls clsOf
  rw [if_pos rfl]
  (repeat' split) <;> omega

theorem pat32_eq (b : Int) (hv : 0 ≤ b ∧ b < 4294967296) : (pat32 b : Int) = b := by
  unfold pat32
  rw [if_pos (by simp [val, hv])]
  omega

theorem pat32_no (b : Int) (hv : ¬ (0 ≤ b ∧ b < 4294967296)) : pat32 b = 2143289345 := by
  unfold pat32
  rw [if_neg (by simp [val]; omega)]

theorem rung_pat32 (b : Int) (hv : 0 ≤ b ∧ b < 4294967296) : (rung FloatKind.f32.format (pat32 b) : Int) = b % 2147483648 := by
  have h := pat32_eq b hv
  unfold rung
  rw [sw32]
  omega

theorem below_pat32 (b : Int) (hv : 0 ≤ b ∧ b < 4294967296) : below FloatKind.f32.format (pat32 b) = decide (2147483648 ≤ b) := by
  have h := pat32_eq b hv
  unfold below
  rw [sw32, Bool.eq_iff_iff, beq_iff_eq, decide_eq_true_eq]
  omega

theorem nan_32 (b : Int) : cls b 32 = 4 ↔ FloatKind.f32.format.infRung < rung FloatKind.f32.format (pat32 b) := by
  by_cases hv : 0 ≤ b ∧ b < 4294967296
  · have h := rung_pat32 b hv
    rw [inf32]
    unfold cls clsOf
    rw [if_neg (by decide), if_pos rfl, if_pos hv]
    (repeat' split) <;> omega
  · rw [pat32_no b hv]
    unfold cls
    rw [if_neg (by decide), if_pos rfl, if_neg hv]
    decide +kernel

theorem self_64 (x : Nat) : (FloatKind.f64.format.order x x != some .eq) = decide (FloatKind.f64.format.infRung < rung FloatKind.f64.format x) := by
  by_cases h : FloatKind.f64.format.infRung < rung FloatKind.f64.format x
  · rw [order_nan_left _ _ _ hb64 h, decide_eq_true h]; rfl
  · rw [order_num _ _ _ hb64 (by omega) (by omega), decide_eq_false h, ← cmp_eq rfl]; rfl

theorem self_32 (x : Nat) : (FloatKind.f32.format.order x x != some .eq) = decide (FloatKind.f32.format.infRung < rung FloatKind.f32.format x) := by
  by_cases h : FloatKind.f32.format.infRung < rung FloatKind.f32.format x
  · rw [order_nan_left _ _ _ hb32 h, decide_eq_true h]; rfl
  · rw [order_num _ _ _ hb32 (by omega) (by omega), decide_eq_false h, ← cmp_eq rfl]; rfl

theorem of64_pat (b : Int) (hb1 : -9223372036854775808 ≤ b) (hb2 : b ≤ 9223372036854775807) : of64 (pat64 b) = if cls b 64 = 4 then 9221120237041090561 else b := by
  have h := pat64_eq b
  unfold of64
  rw [self_64]
  by_cases hc : cls b 64 = 4
  · rw [if_pos (decide_eq_true ((nan_64 b).1 hc)), if_pos hc]
  · rw [if_neg (by rw [decide_eq_true_eq, ← nan_64]; exact hc), if_neg hc]
    unfold Go.RowKit.wrap64
    omega

theorem of32_pat (b : Int) : of32 (pat32 b) = if cls b 32 = 4 then 2143289345 else b := by
  unfold of32
  rw [self_32]
  by_cases hc : cls b 32 = 4
  · rw [if_pos (decide_eq_true ((nan_32 b).1 hc)), if_pos hc]
  · have h := pat32_eq b (cls_valid b hc)
    have hv := cls_valid b hc
    rw [if_neg (by rw [decide_eq_true_eq, ← nan_32]; exact hc), if_neg hc]
    unfold Go.RowKit.wrap64
    omega

end Go.Proofs.Ytocjfdiimapojaa

namespace Go.Proofs.Ytocjfdiimapojaa
open Go.ChangeShapes Go.WideShapes Go.ChangeAt Go.RowKit
open Ieee

/-- What the model answers where a float that is no number is converted: some float of the other kind that is none. -/
def nanAns (k : FloatKind) (b : Nat) (w : World) : Nat := Question.cut (.nanConv k b) (w.tape w.drawn (.nanConv k b))

theorem run_convert_nan {P : Program} (w : World) (src dst : TypeId) (s k : FloatKind) (b : Nat) {sg : Bool} {t : Nat} (hs : (P.underlying src).isSome = true) (hd : P.underlying dst = some (.float k)) (ne : s ≠ k) (he : s.decode b = .nan sg t) :
    (convert src dst (.float s b)).run P w = .ok (.float k (nanAns k b w)) w.drew := by
  obtain ⟨u, hs'⟩ := Option.isSome_iff_exists.1 hs
  cases u <;> simp [convert, run_underlying hs', run_underlying hd, Conv.floatToFloat, ne, he, nanAns, go_sem]

theorem nanAns_nan (b : Nat) (w : World) : FloatKind.f64.format.infRung < rung FloatKind.f64.format (nanAns .f64 b w) := by
  unfold nanAns Question.cut rung
  simp only
  rw [inf64, sw64]
  generalize w.tape w.drawn (.nanConv .f64 b) = t
  have h1 : t % 2 < 2 := Nat.mod_lt _ (by decide)
  have h2 : t / 2 % (2 ^ 52 - 1) < 2 ^ 52 - 1 := Nat.mod_lt _ (by decide)
  generalize t % 2 = s at *
  generalize t / 2 % (2 ^ 52 - 1) = u at *
  omega

/-- How many places lie between the least of binary64 and the least of binary32. -/
def shiftE : Nat := 925
/-- The exponents of the magnitudes of both infinities' rungs, in units of the least places. -/
def topE64 : Nat := 2098
def topE32 : Nat := 277

def wide (b : Int) : Nat := FloatKind.f64.encode (FloatKind.f32.decode (pat32 b))

/-- How a pattern and the binary64 that widened makes of it hang together. -/
def Wd (b n : Int) (y : Nat) : Prop :=
  (isnum b n = true ∧ rung FloatKind.f64.format y ≤ FloatKind.f64.format.infRung ∧ (n = 64 → y = pat64 b) ∧ (n = 32 → y = wide b)) ∨ (isnum b n = false ∧ FloatKind.f64.format.infRung < rung FloatKind.f64.format y)

theorem rungVal_inf64 : rungVal FloatKind.f64.format FloatKind.f64.format.infRung = 2 ^ topE64 := by decide +kernel
theorem rungVal_inf32 : rungVal FloatKind.f32.format FloatKind.f32.format.infRung = 2 ^ topE32 := by decide +kernel
theorem least64 : FloatKind.f64.format.leastPlace = -1074 := by decide +kernel
theorem least32 : FloatKind.f32.format.leastPlace = -149 := by decide +kernel
theorem inf_lt64 : FloatKind.f64.format.infRung < FloatKind.f64.format.signWeight := by decide +kernel

/-- A binary32 that is finite, as a binary64: the same value, the same sign. -/
theorem wide_num (x : Nat) (h : rung FloatKind.f32.format x < FloatKind.f32.format.infRung) :
    ∃ r, FloatKind.f64.encode (FloatKind.f32.decode x) = FloatKind.f64.format.word (below FloatKind.f32.format x) r ∧ r < FloatKind.f64.format.infRung ∧ rungVal FloatKind.f64.format r = rungVal FloatKind.f32.format (rung FloatKind.f32.format x) * 2 ^ shiftE ∧ ∃ m i, FloatKind.f32.decode x = .number (below FloatKind.f32.format x) m i := by
  obtain ⟨m, i, e, hi, hv, hm⟩ := read_num FloatKind.f32.format x h
  have hlt := rungVal_lt FloatKind.f32.format h
  rw [rungVal_inf32, ← hv] at hlt
  rw [least32] at hi hv hlt
  rw [bin32] at hm
  have e' : FloatKind.f32.decode x = .number (below FloatKind.f32.format x) m i := e
  rw [e']
  show ∃ r, FloatKind.f64.format.nearest (below FloatKind.f32.format x) m i = _ ∧ _
  by_cases h0 : m = 0
  · subst h0
    refine ⟨0, by unfold Format.nearest; rw [if_pos rfl], by rw [inf64]; omega, ?_, _, _, rfl⟩
    rw [rungVal_zero, ← hv, Nat.zero_mul, Nat.zero_mul]
  · have hpow : m * 2 ^ (i - -1074).toNat = m * 2 ^ (i - -149).toNat * 2 ^ shiftE := by
      rw [Nat.mul_assoc, ← Nat.pow_add]
      congr 2
      unfold shiftE
      omega
    have hlog : m.log2 ≤ 52 := by
      have : m.log2 < 53 := by
        rw [Nat.log2_lt h0]
        omega
      omega
    obtain ⟨r, h1, h2, h3⟩ := nearest_exact FloatKind.f64.format (below FloatKind.f32.format x) m i h0 hlog (by rw [least64]; omega) (by
      rw [rungVal_inf64, least64, hpow]
      calc m * 2 ^ (i - -149).toNat * 2 ^ shiftE < 2 ^ topE32 * 2 ^ shiftE := Nat.mul_lt_mul_of_pos_right hlt (Nat.two_pow_pos _)
        _ = 2 ^ (topE32 + shiftE) := by rw [← Nat.pow_add]
        _ < 2 ^ topE64 := Nat.pow_lt_pow_right (by decide) (by decide +kernel))
    refine ⟨r, h1, h2, ?_, _, _, rfl⟩
    rw [h3, least64, hpow, hv]

theorem wide_inf (x : Nat) (h : rung FloatKind.f32.format x = FloatKind.f32.format.infRung) : FloatKind.f32.decode x = .infinity (below FloatKind.f32.format x) ∧ FloatKind.f64.encode (FloatKind.f32.decode x) = FloatKind.f64.format.word (below FloatKind.f32.format x) FloatKind.f64.format.infRung := by
  have e : FloatKind.f32.decode x = .infinity (below FloatKind.f32.format x) := read_inf FloatKind.f32.format x h hb32
  exact ⟨e, by rw [e]; rfl⟩

def W (x : Nat) : Nat := FloatKind.f64.encode (FloatKind.f32.decode x)

theorem W_num (x : Nat) (h : rung FloatKind.f32.format x < FloatKind.f32.format.infRung) : rung FloatKind.f64.format (W x) < FloatKind.f64.format.infRung ∧ rungVal FloatKind.f64.format (rung FloatKind.f64.format (W x)) = rungVal FloatKind.f32.format (rung FloatKind.f32.format x) * 2 ^ shiftE ∧ below FloatKind.f64.format (W x) = below FloatKind.f32.format x := by
  obtain ⟨r, e, h1, h2, -⟩ := wide_num x h
  have hs : r < FloatKind.f64.format.signWeight := Nat.lt_trans h1 inf_lt64
  unfold W
  rw [e, rung_word _ _ _ hs, below_word _ _ _ hs]
  exact ⟨h1, h2, rfl⟩

theorem W_inf (x : Nat) (h : rung FloatKind.f32.format x = FloatKind.f32.format.infRung) : rung FloatKind.f64.format (W x) = FloatKind.f64.format.infRung ∧ below FloatKind.f64.format (W x) = below FloatKind.f32.format x := by
  have e := (wide_inf x h).2
  unfold W
  rw [e, rung_word _ _ _ inf_lt64, below_word _ _ _ inf_lt64]
  exact ⟨rfl, rfl⟩

theorem W_le (x : Nat) (h : rung FloatKind.f32.format x ≤ FloatKind.f32.format.infRung) : rung FloatKind.f64.format (W x) ≤ FloatKind.f64.format.infRung ∧ below FloatKind.f64.format (W x) = below FloatKind.f32.format x := by
  by_cases e : rung FloatKind.f32.format x = FloatKind.f32.format.infRung
  · have := W_inf x e
    exact ⟨by omega, this.2⟩
  · have := W_num x (by omega)
    exact ⟨by omega, this.2.2⟩

theorem W_lt (x y : Nat) (hx : rung FloatKind.f32.format x ≤ FloatKind.f32.format.infRung) (hy : rung FloatKind.f32.format y ≤ FloatKind.f32.format.infRung) : rung FloatKind.f64.format (W x) < rung FloatKind.f64.format (W y) ↔ rung FloatKind.f32.format x < rung FloatKind.f32.format y := by
  by_cases e1 : rung FloatKind.f32.format x = FloatKind.f32.format.infRung
  · have a1 := W_inf x e1
    have a2 := W_le y hy
    omega
  · have a1 := W_num x (by omega)
    by_cases e2 : rung FloatKind.f32.format y = FloatKind.f32.format.infRung
    · have a2 := W_inf y e2
      omega
    · have a2 := W_num y (by omega)
      rw [← rungVal_le FloatKind.f64.format, a1.2.1, a2.2.1, Nat.mul_lt_mul_right (Nat.two_pow_pos _), rungVal_le]

theorem W_zero : rung FloatKind.f64.format (W 0) = 0 := by decide +kernel

theorem sv_congr {s t : Bool} {r q r' q' : Nat} (h1 : r < q ↔ r' < q') (h2 : q < r ↔ q' < r') (h3 : 0 < r ↔ 0 < r') (h4 : 0 < q ↔ 0 < q') : (sv s r < sv t q ↔ sv s r' < sv t q') ∧ (sv s r = sv t q ↔ sv s r' = sv t q') := by
  unfold sv
  cases s <;> cases t <;> simp <;> omega

theorem W_key (x y : Nat) (hx : rung FloatKind.f32.format x ≤ FloatKind.f32.format.infRung) (hy : rung FloatKind.f32.format y ≤ FloatKind.f32.format.infRung) : compare (key FloatKind.f64.format (W x)) (key FloatKind.f64.format (W y)) = compare (key FloatKind.f32.format x) (key FloatKind.f32.format y) := by
  have z : rung FloatKind.f32.format 0 ≤ FloatKind.f32.format.infRung := by decide +kernel
  have z0 : rung FloatKind.f32.format 0 = 0 := by decide +kernel
  have h3 := W_lt 0 x z hx
  have h4 := W_lt 0 y z hy
  rw [W_zero, z0] at h3 h4
  have hc := sv_congr (s := below FloatKind.f32.format x) (t := below FloatKind.f32.format y) (W_lt x y hx hy) (W_lt y x hy hx) h3 h4
  rw [key_sv, key_sv, key_sv, key_sv, (W_le x hx).2, (W_le y hy).2]
  exact compare_congr hc.1 hc.2

/-- The place of a pattern that is a number among all of its width, both zeros at 0. -/
def keyOf (b n : Int) : Int := if n = 64 then (if b < 0 then -(b % 9223372036854775808) else b) else (if 2147483648 ≤ b then -(b % 2147483648) else b)

theorem key_64 (b : Int) (hb1 : -9223372036854775808 ≤ b) (hb2 : b ≤ 9223372036854775807) : key FloatKind.f64.format (pat64 b) = keyOf b 64 := by
  unfold key keyOf
  rw [below_pat64 b hb1 hb2, rung_pat64, if_pos rfl]
  by_cases h : b < 0
  · simp [h]
  · simp [h]; omega

theorem key_32 (b : Int) (hv : 0 ≤ b ∧ b < 4294967296) : key FloatKind.f32.format (pat32 b) = keyOf b 32 := by
  unfold key keyOf
  rw [below_pat32 b hv, rung_pat32 b hv, if_neg (by decide : ¬ (32 : Int) = 64)]
  by_cases h : 2147483648 ≤ b
  · simp [h]
  · simp [h]; omega

theorem order_wd (a b n : Int) (y z : Nat) (ha1 : -9223372036854775808 ≤ a) (ha2 : a ≤ 9223372036854775807) (hb1 : -9223372036854775808 ≤ b) (hb2 : b ≤ 9223372036854775807) (hy : Wd a n y) (hz : Wd b n z) :
    FloatKind.f64.format.order y z = if (isnum a n && isnum b n) = true then some (compare (keyOf a n) (keyOf b n)) else none := by
  rcases hy with ⟨i1, r1, p1, q1⟩ | ⟨i1, r1⟩
  · rcases hz with ⟨i2, r2, p2, q2⟩ | ⟨i2, r2⟩
    · rw [if_pos (by simp [i1, i2]), order_num _ _ _ hb64 r1 r2]
      congr 1
      rcases isnum_inv a n i1 with ⟨rfl, c1⟩ | ⟨rfl, c1⟩
      · rw [p1 rfl, p2 rfl, key_64 a ha1 ha2, key_64 b hb1 hb2]
      · have c2 : cls b 32 ≠ 4 := by simpa [isnum] using i2
        have n1 : rung FloatKind.f32.format (pat32 a) ≤ FloatKind.f32.format.infRung := by have := mt (nan_32 a).2 c1; omega
        have n2 : rung FloatKind.f32.format (pat32 b) ≤ FloatKind.f32.format.infRung := by have := mt (nan_32 b).2 c2; omega
        rw [q1 rfl, q2 rfl]
        show compare (key FloatKind.f64.format (W (pat32 a))) (key FloatKind.f64.format (W (pat32 b))) = _
        rw [W_key _ _ n1 n2, key_32 a (cls_valid a c1), key_32 b (cls_valid b c2)]
    · rw [if_neg (by simp [i2]), order_nan_right _ _ _ hb64 r2]
  · rw [if_neg (by simp [i1]), order_nan_left _ _ _ hb64 r1]

end Go.Proofs.Ytocjfdiimapojaa

namespace Go.Proofs.Ytocjfdiimapojaa
open Go.ChangeShapes Go.WideShapes Go.ChangeAt Go.RowKit
open Ieee

theorem ret_truth {a b : Bool} (h : a = b) : Ending.returned (.bool a) = .returned (.bool b) := by rw [h]

def lss (a b n : Int) : Bool := isnum a n && isnum b n && decide (keyOf a n < keyOf b n)
def sam (a b n : Int) : Bool := isnum a n && isnum b n && decide (keyOf a n = keyOf b n)

theorem cmp_is_lt (a b : Int) : (some (compare a b) == some Ordering.lt) = decide (a < b) := by
  by_cases h : a < b
  · rw [← cmp_lt h, decide_eq_true h]; rfl
  · by_cases e : a = b
    · rw [← cmp_eq e, decide_eq_false h]; rfl
    · rw [← cmp_gt (by omega), decide_eq_false h]; rfl
theorem cmp_is_eq (a b : Int) : (some (compare a b) == some Ordering.eq) = decide (a = b) := by
  by_cases h : a < b
  · rw [← cmp_lt h, decide_eq_false (by omega)]; rfl
  · by_cases e : a = b
    · rw [← cmp_eq e, decide_eq_true e]; rfl
    · rw [← cmp_gt (by omega), decide_eq_false e]; rfl

end Go.Proofs.Ytocjfdiimapojaa

namespace Go.Proofs.Ytocjfdiimapojaa
set_option linter.unusedVariables false
set_option linter.unusedSimpArgs false

def rv (c r : Nat) : Nat := if r < c then r else (c + r % c) * 2 ^ (r / c - 1)
theorem rv_at (c j k : Nat) (hc : 0 < c) (hk : k ≤ 2 * c) (h : j = 0 ∨ c ≤ k) : rv c (j * c + k) = k * 2 ^ j := by
  unfold rv
  by_cases h1 : k < c
  · have hj : j = 0 := by omega
    subst hj
    rw [Nat.zero_mul, Nat.zero_add, if_pos h1, Nat.pow_zero, Nat.mul_one]
  · have hjc : ¬ j * c + k < c := by have := Nat.zero_le (j * c); omega
    rw [if_neg hjc]
    by_cases h2 : k = 2 * c
    · subst h2
      rw [show j * c + 2 * c = (j + 2) * c by rw [Nat.add_mul], Nat.mul_mod_left, Nat.mul_div_cancel _ hc, Nat.add_zero, show j + 2 - 1 = j + 1 by omega, Nat.pow_succ, Nat.mul_comm (2 ^ j) 2, ← Nat.mul_assoc, Nat.mul_comm c 2]
    · obtain ⟨f, rfl⟩ : ∃ f, k = c + f := ⟨k - c, by omega⟩
      have hf : f < c := by omega
      rw [show j * c + (c + f) = f + c * (j + 1) by rw [Nat.mul_add, Nat.mul_one, Nat.mul_comm c j]; omega, Nat.add_mul_mod_self_left, Nat.mod_eq_of_lt hf, Nat.add_mul_div_left _ _ hc, Nat.div_eq_of_lt hf, Nat.zero_add, Nat.add_sub_cancel]

def flo (v : Nat) (t : Int) : Nat := if 0 ≤ t then v * 2 ^ t.toNat else v / 2 ^ (-t).toNat
def rst (v : Nat) (t : Int) : Bool := if 0 ≤ t then false else v % 2 ^ (-t).toNat != 0

theorem flo_head (v T L : Nat) (t : Int) (ht : t = 60 - (T : Int) - (L : Int)) : v * 2 ^ 60 / 2 ^ T / 2 ^ L = flo v t := by
  unfold flo
  rw [Nat.div_div_eq_div_mul, ← Nat.pow_add]
  split
  · obtain ⟨q, hq⟩ : ∃ q : Nat, t.toNat = q := ⟨_, rfl⟩
    rw [hq, show (60 : Nat) = q + (T + L) by omega, Nat.pow_add, ← Nat.mul_assoc, Nat.mul_div_cancel _ (Nat.two_pow_pos _)]
  · obtain ⟨q, hq⟩ : ∃ q : Nat, (-t).toNat = q := ⟨_, rfl⟩
    rw [hq, show T + L = q + 60 by omega, Nat.pow_add, Nat.mul_div_mul_right _ _ (Nat.two_pow_pos _)]

theorem rst_head (v T m : Nat) (t : Int) (ht : t = 60 - (T : Int) - (m : Int)) (hv : v % 2 = 1) (hT : v < 2 ^ T) : rst v t = (decide (60 < (T : Int)) || v * 2 ^ 60 / 2 ^ T % 2 ^ m != 0) := by
  by_cases h60 : 60 < T
  · rw [decide_eq_true (by omega : 60 < (T : Int)), Bool.true_or]
    unfold rst
    rw [if_neg (by omega)]
    obtain ⟨q, hq⟩ : ∃ q : Nat, (-t).toNat = q + 1 := ⟨(-t).toNat - 1, by omega⟩
    rw [hq]
    have : v % 2 ^ (q + 1) % 2 = 1 := by
      rw [Nat.mod_mod_of_dvd _ (by rw [Nat.pow_succ]; exact Nat.dvd_mul_left _ _)]
      exact hv
    have h2 : v % 2 ^ (q + 1) ≠ 0 := by
      intro h0; rw [h0] at this; simp at this
    simpa using h2
  · rw [decide_eq_false (by omega : ¬ 60 < (T : Int)), Bool.false_or]
    obtain ⟨a, ha⟩ : ∃ a : Nat, 60 = a + T := ⟨60 - T, by omega⟩
    rw [ha, Nat.pow_add, ← Nat.mul_assoc, Nat.mul_div_cancel _ (Nat.two_pow_pos _)]
    unfold rst
    split
    · have : a = (a - m) + m := by omega
      rw [this, Nat.pow_add, ← Nat.mul_assoc, Nat.mul_mod_left]
      rfl
    · obtain ⟨q, hq⟩ : ∃ q : Nat, (-t).toNat = q := ⟨_, rfl⟩
      have hm : m = a + q := by omega
      rw [hq, hm, Nat.pow_add, Nat.mul_comm v, Nat.mul_mod_mul_left]
      have hp := Nat.two_pow_pos a
      by_cases h0 : v % 2 ^ q = 0
      · simp [h0]
      · have : ¬ 2 ^ a * (v % 2 ^ q) = 0 := by
          intro h; rcases Nat.mul_eq_zero.1 h with h | h <;> omega
        rw [show (v % 2 ^ q != 0) = true by simpa using h0, show (2 ^ a * (v % 2 ^ q) != 0) = true by simpa [bne_iff_ne] using this]

/- against a common place s below all -/
theorem flo_at (v : Nat) (x u s : Int) (hx : s ≤ x) (hu : s ≤ u) : flo v (x - u) = v * 2 ^ (x - s).toNat / 2 ^ (u - s).toNat := by
  unfold flo
  split
  · rw [show (x - s).toNat = (x - u).toNat + (u - s).toNat by omega, Nat.pow_add, ← Nat.mul_assoc, Nat.mul_div_cancel _ (Nat.two_pow_pos _)]
  · rw [show (u - s).toNat = (-(x - u)).toNat + (x - s).toNat by omega, Nat.pow_add, Nat.mul_div_mul_right _ _ (Nat.two_pow_pos _)]
theorem rst_at (v : Nat) (x u s : Int) (hx : s ≤ x) (hu : s ≤ u) : rst v (x - u) = (v * 2 ^ (x - s).toNat % 2 ^ (u - s).toNat != 0) := by
  unfold rst
  split
  · rw [show (x - s).toNat = (x - u).toNat + (u - s).toNat by omega, Nat.pow_add, ← Nat.mul_assoc, Nat.mul_mod_left]
    rfl
  · rw [show (u - s).toNat = (x - s).toNat + (-(x - u)).toNat by omega, Nat.pow_add, Nat.mul_comm v, Nat.mul_mod_mul_left]
    have hp := Nat.two_pow_pos (x - s).toNat
    by_cases h0 : v % 2 ^ (-(x - u)).toNat = 0
    · simp [h0]
    · have : ¬ 2 ^ (x - s).toNat * (v % 2 ^ (-(x - u)).toNat) = 0 := by
        intro h; rcases Nat.mul_eq_zero.1 h with h | h <;> omega
      rw [show (v % 2 ^ (-(x - u)).toNat != 0) = true by simpa using h0, show (2 ^ (x - s).toNat * (v % 2 ^ (-(x - u)).toNat) != 0) = true by simpa [bne_iff_ne] using this]

/- what rounding asks: the place of the last bit that is kept, what is kept, the bit behind it, and whether there is more -/
def unz (p : Nat) (l : Int) (T : Nat) (x : Int) : Int := max (x + (T : Int) - (p : Int)) l
structure Cutz (c D V k Q H F : Nat) (od hf rt : Bool) : Prop where
  two : Q = 2 * H
  pos : 0 < H
  kq : V / Q = k
  low : rv c F * D = k * Q
  high : rv c (F + 1) * D = (k + 1) * Q
  od : od = decide (k % 2 = 1)
  fod : F % 2 = k % 2
  hf : hf = decide (H ≤ V % Q)
  rt : rt = decide (V % Q % H ≠ 0)

theorem kept_bounds (p : Nat) (l : Int) (v T : Nat) (x : Int) (hp : 0 < p) (hT1 : 2 ^ (T - 1) ≤ v) (hT2 : v < 2 ^ T) (hT : 0 < T) : flo v (x - unz p l T x) < 2 ^ p ∧ (unz p l T x = l ∨ 2 ^ (p - 1) ≤ flo v (x - unz p l T x)) := by
  obtain ⟨u, hu⟩ : ∃ u, unz p l T x = u := ⟨_, rfl⟩
  rw [hu]
  unfold unz at hu
  unfold flo
  constructor
  · split
    · have hle : T + (x - u).toNat ≤ p := by omega
      calc v * 2 ^ (x - u).toNat < 2 ^ T * 2 ^ (x - u).toNat := Nat.mul_lt_mul_of_pos_right hT2 (Nat.two_pow_pos _)
        _ = 2 ^ (T + (x - u).toNat) := by rw [Nat.pow_add]
        _ ≤ 2 ^ p := Nat.pow_le_pow_right (by decide) hle
    · rw [Nat.div_lt_iff_lt_mul (Nat.two_pow_pos _), ← Nat.pow_add]
      exact Nat.lt_of_lt_of_le hT2 (Nat.pow_le_pow_right (by decide) (by omega))
  · by_cases hl : u = l
    · exact Or.inl hl
    · right
      split
      · have : p - 1 = (T - 1) + (x - u).toNat := by omega
        rw [this, Nat.pow_add]
        exact Nat.mul_le_mul_right _ hT1
      · rw [Nat.le_div_iff_mul_le (Nat.two_pow_pos _), ← Nat.pow_add]
        exact Nat.le_trans (Nat.pow_le_pow_right (by decide) (by omega)) hT1

theorem two_pos_split (u l s : Int) (h1 : s ≤ l) (h2 : l ≤ u) : 2 ^ (u - s).toNat = 2 ^ (u - l).toNat * 2 ^ (l - s).toNat := by
  rw [← Nat.pow_add]; congr 1; omega

theorem cutz_is (p c : Nat) (l : Int) (v T : Nat) (x s : Int) (hp : 2 ≤ p) (hc : c = 2 ^ (p - 1)) (hT1 : 2 ^ (T - 1) ≤ v) (hT2 : v < 2 ^ T) (hT : 0 < T) (hx : s ≤ x) (hl : s < l) (u : Int) (hu : unz p l T x = u) (k F : Nat) (hk : flo v (x - u) = k) (hF : F = (u - l).toNat * c + k) :
    Cutz c (2 ^ (l - s).toNat) (v * 2 ^ (x - s).toNat) k (2 ^ (u - s).toNat) (2 ^ (u - 1 - s).toNat) F (decide (k % 2 = 1)) (decide (flo v (x - u + 1) % 2 = 1)) (rst v (x - u + 1)) := by
  obtain ⟨hb1, hb2⟩ := kept_bounds p l v T x (by omega) hT1 hT2 hT
  have hlu : l ≤ u := by unfold unz at hu; omega
  rw [hu, hk] at hb1 hb2
  have hc2 : 2 ^ p = 2 * c := by rw [hc, ← Nat.pow_succ']; congr 1; omega
  have hcp : 0 < c := by rw [hc]; exact Nat.two_pow_pos _
  have hQ : 2 ^ (u - s).toNat = 2 * 2 ^ (u - 1 - s).toNat := by rw [← Nat.pow_succ']; congr 1; omega
  have hkq : v * 2 ^ (x - s).toNat / 2 ^ (u - s).toNat = k := by rw [← flo_at v x u s hx (by omega)]; exact hk
  have hjk : (u - l).toNat = 0 ∨ c ≤ k := by rcases hb2 with h | h
                                             · left; omega
                                             · right; rw [hc]; exact h
  have hsp := two_pos_split u l s (by omega) hlu
  have hhalf : flo v (x - u + 1) = v * 2 ^ (x - s).toNat / 2 ^ (u - 1 - s).toNat := by
    rw [show x - u + 1 = x - (u - 1) by omega]; exact flo_at v x (u - 1) s hx (by omega)
  have hrest : rst v (x - u + 1) = (v * 2 ^ (x - s).toNat % 2 ^ (u - 1 - s).toNat != 0) := by
    rw [show x - u + 1 = x - (u - 1) by omega]; exact rst_at v x (u - 1) s hx (by omega)
  have hce : c % 2 = 0 := by
    rw [hc, show p - 1 = (p - 2) + 1 by omega, Nat.pow_succ]; omega
  have hHp := Nat.two_pow_pos (u - 1 - s).toNat
  generalize v * 2 ^ (x - s).toNat = V at *
  generalize 2 ^ (u - 1 - s).toNat = H at *
  generalize 2 ^ (u - s).toNat = Q at *
  generalize 2 ^ (l - s).toNat = D at *
  generalize (u - l).toNat = j at *
  refine ⟨hQ, hHp, hkq, ?_, ?_, rfl, ?_, ?_, ?_⟩
  · rw [hF, rv_at c j k hcp (by omega) hjk, Nat.mul_assoc, ← hsp]
  · rw [hF, Nat.add_assoc, rv_at c j (k + 1) hcp (by omega) (by omega), Nat.mul_assoc, ← hsp]
  · rw [hF, Nat.add_mod, Nat.mul_mod, hce]; simp
  · rw [hhalf]
    congr 1
    have hdm := Nat.div_add_mod V Q
    rw [hQ] at hdm ⊢
    apply propext
    have e1 : V / H = 2 * (V / (2 * H)) + V % (2 * H) / H := by
      have : V = V % (2 * H) + H * (2 * (V / (2 * H))) := by
        rw [← Nat.mul_assoc, Nat.mul_comm H 2]; omega
      rw [show V / H = (V % (2 * H) + H * (2 * (V / (2 * H)))) / H by rw [← this], Nat.add_mul_div_left _ _ hHp]; omega
    have e2 : V % (2 * H) < 2 * H := Nat.mod_lt _ (by omega)
    rw [e1]
    constructor
    · intro h
      apply Decidable.byContradiction
      intro hn
      have hz : V % (2 * H) / H = 0 := Nat.div_eq_of_lt (by omega)
      omega
    · intro h
      have : V % (2 * H) / H = 1 := by
        rw [show V % (2 * H) = (V % (2 * H) - H) + H * 1 by omega, Nat.add_mul_div_left _ _ hHp, Nat.div_eq_of_lt (by omega)]
      omega
  · rw [hrest, hQ, Nat.mod_mul_left_mod]
    by_cases h : V % H = 0
    · simp [h]
    · simp [h]

/- what a cut tells, by values alone -/
theorem Cutz.floor {c D V k Q H F : Nat} {od hf rt : Bool} (h : Cutz c D V k Q H F od hf rt) : rv c F * D ≤ V ∧ V < rv c (F + 1) * D := by
  have h1 := Nat.div_add_mod V Q
  have h2 : V % Q < Q := Nat.mod_lt _ (by have := h.two; have := h.pos; omega)
  rw [h.kq] at h1
  rw [h.low, h.high, Nat.add_mul, Nat.one_mul, Nat.mul_comm k Q]
  omega
theorem Cutz.rem {c D V k Q H F : Nat} {od hf rt : Bool} (h : Cutz c D V k Q H F od hf rt) : V = rv c F * D + V % Q ∧ rv c (F + 1) * D = rv c F * D + Q ∧ V % Q < Q := by
  have h1 := Nat.div_add_mod V Q
  have h2 : V % Q < Q := Nat.mod_lt _ (by have := h.two; have := h.pos; omega)
  rw [h.kq] at h1
  rw [h.low, h.high, Nat.add_mul, Nat.one_mul, Nat.mul_comm k Q]
  omega
theorem half_rest (r H : Nat) (hH : 0 < H) (h2 : r < 2 * H) : (H ≤ r ∨ r % H ≠ 0) ↔ r ≠ 0 := by
  by_cases h : r < H
  · rw [Nat.mod_eq_of_lt h]; omega
  · constructor
    · intro _; omega
    · intro _; left; omega
theorem Cutz.cut {c D V k Q H F : Nat} {od hf rt : Bool} (h : Cutz c D V k Q H F od hf rt) : (hf || rt) = decide (V ≠ rv c F * D) := by
  obtain ⟨h1, h2, h3⟩ := h.rem
  rw [h.hf, h.rt, ← Bool.decide_or]
  congr 1
  apply propext
  rw [half_rest (V % Q) H h.pos (by rw [← h.two]; exact h3)]
  omega
theorem Cutz.near {c D V k Q H F : Nat} {od hf rt : Bool} (h : Cutz c D V k Q H F od hf rt) : (hf && (rt || od)) = decide (rv c F * D + rv c (F + 1) * D < 2 * V ∨ (rv c F * D + rv c (F + 1) * D = 2 * V ∧ F % 2 = 1)) := by
  obtain ⟨h1, h2, h3⟩ := h.rem
  have h4 := h.two
  have h5 := h.pos
  rw [h.hf, h.rt, h.od, ← Bool.decide_or, ← Bool.decide_and, h.fod]
  congr 1
  apply propext
  have hm : H ≤ V % Q → V % Q % H = V % Q - H := by
    intro hh
    have : V % Q = (V % Q - H) + H * 1 := by omega
    rw [this, Nat.add_mul_mod_self_left, Nat.mod_eq_of_lt (by omega)]
    omega
  constructor
  · rintro ⟨hh, ho⟩
    rw [hm hh] at ho
    omega
  · intro ho
    have hh : H ≤ V % Q := by omega
    rw [hm hh]
    omega

def awz (way : Int) (ng od hf rt : Bool) : Bool := if way = 0 then hf && (rt || od) else if way = 1 then ng && (hf || rt) else !ng && (hf || rt)
def mgz (way : Int) (ng : Bool) (inf F : Nat) (od hf rt : Bool) : Nat := if F + (awz way ng od hf rt).toNat < inf then F + (awz way ng od hf rt).toNat else if awz way ng false true true = true then inf else inf - 1
def odz (way : Int) (ng : Bool) (inf F : Nat) (od hf rt : Bool) : Bool := hf || rt || decide (inf ≤ F + (awz way ng od hf rt).toNat)
def mir (way : Int) : Int := if way = 0 then 0 else 3 - way
theorem awz_mir (way : Int) (hw : way = 0 ∨ way = 1 ∨ way = 2) (ng od hf rt : Bool) : awz (mir way) (!ng) od hf rt = awz way ng od hf rt := by
  rcases hw with rfl | rfl | rfl <;> simp [awz, mir]
theorem mgz_mir (way : Int) (hw : way = 0 ∨ way = 1 ∨ way = 2) (ng : Bool) (inf F : Nat) (od hf rt : Bool) : mgz (mir way) (!ng) inf F od hf rt = mgz way ng inf F od hf rt ∧ odz (mir way) (!ng) inf F od hf rt = odz way ng inf F od hf rt := by
  unfold mgz odz
  rw [awz_mir way hw, awz_mir way hw]
  exact ⟨rfl, rfl⟩
theorem mgz_le (way : Int) (ng : Bool) (inf F : Nat) (od hf rt : Bool) : mgz way ng inf F od hf rt ≤ inf := by
  unfold mgz; (repeat' split) <;> omega

theorem mg_mono (way : Int) (ng : Bool) (inf : Nat) {c D V k Q H F V' k' Q' H' F' : Nat} {od hf rt od' hf' rt' : Bool} (h : Cutz c D V k Q H F od hf rt) (h' : Cutz c D V' k' Q' H' F' od' hf' rt') (hm : ∀ r s, r ≤ s → rv c r ≤ rv c s) (hV : V ≤ V') : mgz way ng inf F od hf rt ≤ mgz way ng inf F' od' hf' rt' := by
  obtain ⟨a1, a2⟩ := h.floor
  obtain ⟨b1, b2⟩ := h'.floor
  have hF : F ≤ F' := by
    apply Decidable.byContradiction
    intro hn
    have := Nat.mul_le_mul_right D (hm (F' + 1) F (by omega))
    omega
  have hR : F + (awz way ng od hf rt).toNat ≤ F' + (awz way ng od' hf' rt').toNat := by
    by_cases hlt : F < F'
    · have : (awz way ng od hf rt).toNat ≤ 1 := Bool.toNat_le _
      omega
    · have he : F = F' := by omega
      subst he
      have : awz way ng od hf rt = true → awz way ng od' hf' rt' = true := by
        unfold awz
        split
        · rw [h.near, h'.near]
          simp only [decide_eq_true_eq]
          omega
        · rw [h.cut, h'.cut]
          split
          · simp only [Bool.and_eq_true, decide_eq_true_eq]
            intro hh
            exact ⟨hh.1, by omega⟩
          · simp only [Bool.and_eq_true, decide_eq_true_eq]
            intro hh
            exact ⟨hh.1, by omega⟩
      cases hx : awz way ng od hf rt
      · simp
      · rw [this hx]
        exact Nat.le_refl _
  unfold mgz
  (repeat' split) <;> omega

structure Btw (c D V inf lo hi ne : Nat) (o : Bool) : Prop where
  same : o = false → lo < inf ∧ hi = lo ∧ ne = lo ∧ V = rv c lo * D
  low : o = true → lo + 1 = hi ∧ lo < inf ∧ rv c lo * D < V ∧ (hi < inf → V < rv c hi * D) ∧ (ne = lo ∨ ne = hi)
  near : o = true → hi < inf → (2 * V < rv c lo * D + rv c hi * D → ne = lo) ∧ (rv c lo * D + rv c hi * D < 2 * V → ne = hi) ∧ (rv c lo * D + rv c hi * D = 2 * V → ne % 2 = 0)
theorem Cutz.btw {c D V k Q H F : Nat} {od hf rt : Bool} (h : Cutz c D V k Q H F od hf rt) (inf : Nat) (hi : 0 < inf) (hm : ∀ r s, r ≤ s → rv c r ≤ rv c s) (hm2 : ∀ r s, r < s → rv c r < rv c s) (hD : 0 < D) (ng : Bool) : Btw c D V inf (mgz 1 false inf F od hf rt) (mgz 2 false inf F od hf rt) (mgz 0 ng inf F od hf rt) (odz 1 false inf F od hf rt) ∧ odz 2 false inf F od hf rt = odz 1 false inf F od hf rt ∧ odz 0 ng inf F od hf rt = odz 1 false inf F od hf rt := by
  obtain ⟨a1, a2⟩ := h.floor
  obtain ⟨N, hN⟩ : ∃ N, (hf && (rt || od)) = N := ⟨_, rfl⟩
  obtain ⟨C, hC⟩ : ∃ C, (hf || rt) = C := ⟨_, rfl⟩
  have e1 : awz 1 false od hf rt = false := rfl
  have e2 : awz 2 false od hf rt = C := by rw [← hC]; rfl
  have e3 : awz 0 ng od hf rt = N := hN
  have e4 : awz 1 false false true true = false := rfl
  have e5 : awz 2 false false true true = true := rfl
  have e6 : awz 0 ng false true true = true := rfl
  have hn := h.near
  have hc := h.cut
  rw [hN] at hn
  rw [hC] at hc
  have hNC : N = true → C = true := by
    rw [← hN, ← hC]; cases hf <;> cases rt <;> simp
  unfold mgz odz
  rw [e1, e2, e3, e4, e5, e6, hC, if_pos rfl, if_neg (show ¬ false = true by decide)]
  have hlow : ¬ F < inf → rv c (inf - 1) * D < V := fun hh => Nat.lt_of_lt_of_le (Nat.mul_lt_mul_of_pos_right (hm2 (inf - 1) F (by omega)) hD) a1
  clear hm hm2
  cases C
  · have hN0 : N = false := by cases N; rfl; exact absurd (hNC rfl) (by decide)
    subst hN0
    have hV : V = rv c F * D := by
      have := of_decide_eq_false hc.symm
      omega
    simp only [Bool.toNat_false, Nat.add_zero, Bool.false_or]
    refine ⟨⟨?_, ?_, ?_⟩, by simp, by simp⟩
    · intro ho
      have hF : F < inf := by have := of_decide_eq_false ho; omega
      simp only [if_pos hF]
      exact ⟨hF, by trivial, by trivial, hV⟩
    · intro ho
      have hF : ¬ F < inf := by have := of_decide_eq_true ho; omega
      simp only [if_neg hF]
      refine ⟨by omega, by omega, hlow hF, fun hh => absurd hh (by omega), ?_⟩
      first | omega | (right; trivial) | simp
    · intro ho hh
      have hF : ¬ F < inf := by have := of_decide_eq_true ho; omega
      simp only [if_neg hF] at hh
      omega
  · have hV : V ≠ rv c F * D := of_decide_eq_true hc.symm
    simp only [Bool.toNat_false, Bool.toNat_true, Nat.add_zero, Bool.true_or]
    refine ⟨⟨?_, ?_, ?_⟩, by simp, by simp⟩
    · intro ho; cases ho
    · intro _
      by_cases hF : F + 1 < inf
      · have hF' : F < inf := by omega
        simp only [if_pos hF, if_pos hF']
        refine ⟨by trivial, hF', by omega, fun _ => a2, ?_⟩
        cases N
        · left; simp [hF']
        · right; simp [hF]
      · by_cases hF' : F < inf
        · have hFi : F + 1 = inf := by omega
          simp only [if_neg hF, if_pos hF']
          refine ⟨by omega, hF', by omega, fun hh => by omega, ?_⟩
          cases N
          · left; simp [hF']
          · right; simp [hF]
        · simp only [if_neg hF, if_neg hF']
          have hN2 : ¬ F + N.toNat < inf := by omega
          refine ⟨by omega, by omega, hlow hF', fun hh => by omega, ?_⟩
          right; simp [hN2]
    · intro _ hh
      have hF : F + 1 < inf := by
        apply Decidable.byContradiction
        intro hx
        simp only [if_neg hx] at hh
        omega
      have hF' : F < inf := by omega
      simp only [if_pos hF, if_pos hF']
      cases N
      · have hz := of_decide_eq_false hn.symm
        simp only [Bool.toNat_false, Nat.add_zero, if_pos hF']
        refine ⟨fun _ => ?_, fun _ => ?_, fun _ => ?_⟩ <;> first | trivial | omega
      · have hz := of_decide_eq_true hn.symm
        simp only [Bool.toNat_true, if_pos hF]
        refine ⟨fun _ => ?_, fun _ => ?_, fun _ => ?_⟩ <;> first | trivial | omega

def ifn (n : Int) : Nat := if n = 64 then 9218868437227405312 else 2139095040
def pz (n k : Int) : Int := if n = 64 then (if k < 0 then -k - 9223372036854775808 else k) else (if k < 0 then -k + 2147483648 else k)
theorem num64_iff (b : Int) : isnum b 64 = true ↔ b % 9223372036854775808 ≤ 9218868437227405312 := by
  unfold isnum cls clsOf
  rw [decide_eq_true_eq, if_pos rfl]
  (repeat' split) <;> omega
theorem num32_iff (b : Int) : isnum b 32 = true ↔ (0 ≤ b ∧ b < 4294967296) ∧ b % 2147483648 ≤ 2139095040 := by
  unfold isnum cls clsOf
  rw [decide_eq_true_eq, if_neg (by decide), if_pos rfl]
  (repeat' split) <;> omega
theorem pz_range (n k : Int) (hn : n = 64 ∨ n = 32) (h1 : -(ifn n : Int) ≤ k) (h2 : k ≤ (ifn n : Int)) : -9223372036854775808 ≤ pz n k ∧ pz n k ≤ 9223372036854775807 := by
  rcases hn with rfl | rfl
  · simp only [ifn, pz, reduceIte] at *
    split <;> omega
  · simp only [ifn, pz, show ¬ ((32 : Int) = 64) by decide, if_false] at *
    split <;> omega
theorem pz_num (n k : Int) (hn : n = 64 ∨ n = 32) (h1 : -(ifn n : Int) ≤ k) (h2 : k ≤ (ifn n : Int)) : isnum (pz n k) n = true := by
  rcases hn with rfl | rfl
  · rw [num64_iff]
    simp only [ifn, pz, reduceIte] at *
    split <;> omega
  · rw [num32_iff]
    simp only [ifn, pz, show ¬ ((32 : Int) = 64) by decide, if_false] at *
    split <;> omega
theorem pz_key (n k : Int) (hn : n = 64 ∨ n = 32) (h1 : -(ifn n : Int) ≤ k) (h2 : k ≤ (ifn n : Int)) : keyOf (pz n k) n = k := by
  rcases hn with rfl | rfl
  · simp only [ifn, pz, keyOf, reduceIte] at *
    (repeat' split) <;> omega
  · simp only [ifn, pz, keyOf, show ¬ ((32 : Int) = 64) by decide, if_false] at *
    (repeat' split) <;> omega
theorem pz_cls (n k : Int) (hn : n = 64 ∨ n = 32) (h1 : -(ifn n : Int) ≤ k) (h2 : k ≤ (ifn n : Int)) : cls (pz n k) n < 3 ↔ (-(ifn n : Int) < k ∧ k < (ifn n : Int)) := by
  rcases hn with rfl | rfl
  · simp only [ifn, pz, cls, clsOf, reduceIte] at *
    (repeat' split) <;> omega
  · simp only [ifn, pz, cls, clsOf, show ¬ ((32 : Int) = 64) by decide, if_false, reduceIte] at *
    (repeat' split) <;> omega
theorem pz_next (n k : Int) (hn : n = 64 ∨ n = 32) (h1 : -(ifn n : Int) ≤ k) (h2 : k < (ifn n : Int)) : can (nxt (pz n k) n) n = pz n (k + 1) ∧ -9223372036854775808 ≤ nxt (pz n k) n ∧ nxt (pz n k) n ≤ 9223372036854775807 := by
  have hN := pz_num n k hn h1 (by omega)
  unfold can nxt
  rw [if_pos hN]
  rcases hn with rfl | rfl
  · have hX : isnum (if pz 64 k = 9218868437227405312 then pz 64 k else if pz 64 k = -9223372036854775808 then 1 else if pz 64 k < 0 then pz 64 k - 1 else pz 64 k + 1) 64 = true := by
      rw [num64_iff]
      simp only [ifn, pz, reduceIte] at *
      (repeat' split) <;> omega
    rw [if_pos rfl, if_pos hX, if_pos rfl]
    simp only [ifn, pz, reduceIte] at *
    clear hN hX
    (repeat' split) <;> omega
  · have hX : isnum (if pz 32 k = 2139095040 then pz 32 k else if pz 32 k = 2147483648 then 1 else if 2147483648 ≤ pz 32 k then pz 32 k - 1 else pz 32 k + 1) 32 = true := by
      rw [num32_iff]
      simp only [ifn, pz, show ¬ ((32 : Int) = 64) by decide, if_false] at *
      (repeat' split) <;> omega
    rw [if_neg (show ¬ ((32 : Int) = 64) by decide), if_pos hX]
    simp only [ifn, pz, show ¬ ((32 : Int) = 64) by decide, if_false] at *
    clear hN hX
    (repeat' split) <;> omega
theorem pz_ngt (n k : Int) (hn : n = 64 ∨ n = 32) (h1 : -(ifn n : Int) ≤ k) (h2 : k ≤ (ifn n : Int)) : isnum (ngt (pz n k) n) n = true ∧ keyOf (ngt (pz n k) n) n = -k ∧ -9223372036854775808 ≤ ngt (pz n k) n ∧ ngt (pz n k) n ≤ 9223372036854775807 := by
  have hN := pz_num n k hn h1 h2
  unfold ngt
  rw [if_pos hN]
  clear hN
  rcases hn with rfl | rfl
  · rw [if_pos rfl, num64_iff]
    simp only [ifn, pz, keyOf, reduceIte] at *
    (repeat' split) <;> omega
  · rw [if_neg (show ¬ ((32 : Int) = 64) by decide), num32_iff]
    simp only [ifn, pz, keyOf, show ¬ ((32 : Int) = 64) by decide, if_false] at *
    (repeat' split) <;> omega
theorem pz_par (n k : Int) (hn : n = 64 ∨ n = 32) : pz n k % 2 = k % 2 := by
  unfold pz
  (repeat' split) <;> omega
/- a finite one's parts -/
theorem pz_fin (n k : Int) (hn : n = 64 ∨ n = 32) (h1 : -(ifn n : Int) < k) (h2 : k < (ifn n : Int)) : fin (pz n k) n = true := by
  unfold fin
  rw [decide_eq_true_eq]
  exact ⟨hn, (pz_cls n k hn (by omega) (by omega)).2 ⟨h1, h2⟩⟩
theorem pz_neg (n k : Int) (hn : n = 64 ∨ n = 32) (h1 : -(ifn n : Int) < k) (h2 : k < (ifn n : Int)) : pneg (pz n k) n = decide (k < 0) := by
  unfold pneg
  rw [pz_fin n k hn h1 h2, Bool.true_and]
  rcases hn with rfl | rfl
  · simp only [ifn, pz, sgn, reduceIte] at *
    congr 1
    apply propext
    split <;> omega
  · simp only [ifn, pz, sgn, show ¬ ((32 : Int) = 64) by decide, if_false] at *
    congr 1
    apply propext
    split <;> omega
theorem pz_mag (n k : Int) (hn : n = 64 ∨ n = 32) (h1 : -(ifn n : Int) < k) (h2 : k < (ifn n : Int)) (c : Int) (hc : c = if n = 64 then 4503599627370496 else 8388608) (l : Int) (hl : l = if n = 64 then -1074 else -149) (r : Int) (hr : r = if k < 0 then -k else k) : pmag (pz n k) n = (if r < c then r else c + r % c) ∧ pexp (pz n k) n = (if r < c then l else l + (r / c - 1)) := by
  have hF := pz_fin n k hn h1 h2
  unfold pmag pexp
  rw [if_pos hF, if_pos hF]
  clear hF
  rcases hn with rfl | rfl
  · have hm : pz 64 k % 9223372036854775808 = r := by
      rw [hr]
      simp only [ifn, pz, reduceIte] at *
      (repeat' split) <;> omega
    rw [if_pos rfl] at hc hl
    rw [if_pos rfl, if_pos rfl, hm, hc, hl]
    clear hm
    simp only [ifn, reduceIte] at *
    constructor <;> (split <;> omega)
  · have hm : pz 32 k % 2147483648 = r := by
      rw [hr]
      simp only [ifn, pz, show ¬ ((32 : Int) = 64) by decide, if_false] at *
      (repeat' split) <;> omega
    rw [if_neg (show ¬ ((32 : Int) = 64) by decide)] at hc hl
    rw [if_neg (show ¬ ((32 : Int) = 64) by decide), if_neg (show ¬ ((32 : Int) = 64) by decide), hm, hc, hl]
    clear hm
    simp only [ifn, show ¬ ((32 : Int) = 64) by decide, if_false] at *
    constructor <;> (split <;> omega)

end Go.Proofs.Ytocjfdiimapojaa
