/- The walks of layoutOf, Valid and Class of package bits: what each call gives, for every int and every width. The walks of math/bits.TrailingZeros and Len at 64 bits, over the library's own Go text and its table as it is laid. The walk of numbers of package bits, called with one pattern. -/
import Derived.Test.YtcjgdfnbjbboeaaRows
import Derived.Test.YtcjgdfnbjbboeaaWr01
import Derived.WalkKit
import Derived.ProofKit
import Derived.OpenShut
import Derived.Below
import Derived.WalkLawsBesides
import Derived.Deep.QuietTactic
import Derived.BigQuiet
import Derived.Lib.TrailingZeros
import Derived.Laws.MathBits
import Derived.Laws.Bits64b
import Derived.Lib.Strings
import Derived.Lib.Slices
import Derived.Lib.Small
import Derived.Lib.Walk
import Derived.Lib.BitFns
import Derived.Deep.Light
namespace Go.Proofs.Ytcjgdfnbjbboeaa
open Go.ChangeShapes Go.WideShapes Go.ChangeAt Go.RowKit

structure Kept (w w' : World) : Prop where
  below : Below w.heap.size w w'
  frozen : ∀ a, w'.frozen? a = w.frozen? a

theorem Kept.refl (w : World) : Kept w w := ⟨Below.refl _ _, fun _ => rfl⟩
theorem Kept.trans {a b c : World} (h : Kept a b) (k : Kept b c) : Kept a c :=
  ⟨h.below.trans (k.below.mono h.below.size), fun x => (k.frozen x).trans (h.frozen x)⟩
theorem Kept.alloc {a b : World} (h : Kept a b) (c : Array Value) (t : TypeId) : Kept a (b.alloc (.cells c t)) :=
  ⟨h.below.alloc h.below.size _, fun x => (frozen?_alloc_cells _ _ _ x).trans (h.frozen x)⟩
theorem Kept.setCell {a b : World} (h : Kept a b) {p : Addr} (hp : a.heap.size ≤ p.block) (u : Value) : Kept a (b.setCell p u) :=
  ⟨h.below.setCell hp u, fun x => (World.frozen?_setCell _ _ _ _).trans (h.frozen x)⟩
theorem Kept.drew {a b : World} (h : Kept a b) : Kept a b.drew := ⟨h.below.drew, h.frozen⟩
theorem Kept.drewN {a b : World} (h : Kept a b) (n : Nat) : Kept a (b.drewN n) := ⟨below_drewN h.below n, h.frozen⟩
theorem Kept.grown {a b : World} (h : Kept a b) : Grown a b := ⟨h.below.frame _, h.frozen, h.below.size⟩



set_option maxHeartbeats 400000 in
theorem layoutOf_64 (w : World) : Calls Try.prog 129 #[.int .i64 64] w fun e w' => e = .returned (.tuple #[.agg #[.int .i64 (-9223372036854775808), .int .i64 9218868437227405312, .int .i64 9221120237041090561, .int .i64 52, .int .i64 (-1074)], .bool true]) ∧ Kept w w' := by
  go_enter Try.func129, Try.ntmps129
  go_wp2
  exact bodyPost_ret (v := .tuple #[.agg #[.int .i64 (-9223372036854775808), .int .i64 9218868437227405312, .int .i64 9221120237041090561, .int .i64 52, .int .i64 (-1074)], .bool true]) (by simp [results, Try.results129, go_sem]) rfl ⟨rfl, (Kept.refl _).alloc _ _⟩

set_option maxHeartbeats 400000 in
theorem layoutOf_32 (w : World) : Calls Try.prog 129 #[.int .i64 32] w fun e w' => e = .returned (.tuple #[.agg #[.int .i64 2147483648, .int .i64 2139095040, .int .i64 2143289345, .int .i64 23, .int .i64 (-149)], .bool true]) ∧ Kept w w' := by
  go_enter Try.func129, Try.ntmps129
  go_wp2
  exact bodyPost_ret (v := .tuple #[.agg #[.int .i64 2147483648, .int .i64 2139095040, .int .i64 2143289345, .int .i64 23, .int .i64 (-149)], .bool true]) (by simp [results, Try.results129, go_sem]) rfl ⟨rfl, (Kept.refl _).alloc _ _⟩

set_option maxHeartbeats 400000 in
theorem layoutOf_0 (n : Int) (h1 : (n == 32) = false) (h2 : (n == 64) = false) (w : World) : Calls Try.prog 129 #[.int .i64 n] w fun e w' => e = .returned (.tuple #[.agg #[.int .i64 0, .int .i64 0, .int .i64 0, .int .i64 0, .int .i64 0], .bool false]) ∧ Kept w w' := by
  go_enter Try.func129, Try.ntmps129
  go_wp2
  exact bodyPost_ret (v := .tuple #[.agg #[.int .i64 0, .int .i64 0, .int .i64 0, .int .i64 0, .int .i64 0], .bool false]) (by simp [results, Try.results129, go_sem]) rfl ⟨rfl, (Kept.refl _).alloc _ _⟩



set_option maxHeartbeats 400000 in
theorem valid_64 (b : Int) (w : World) : Calls Try.prog 116 #[.int .i64 b, .int .i64 64] w fun e w' => e = .returned (.bool true) ∧ w = w' := by
  go_enter Try.func116, Try.ntmps116
  go_wp2
  go_ret
  exact ⟨rfl, rfl⟩

set_option maxHeartbeats 400000 in
theorem valid_32 (b : Int) (w : World) : Calls Try.prog 116 #[.int .i64 b, .int .i64 32] w fun e w' => e = .returned (.bool (b / 4294967296 == 0)) ∧ w = w' := by
  go_enter Try.func116, Try.ntmps116
  go_wp2
  go_ret
  exact ⟨rfl, rfl⟩
set_option maxHeartbeats 400000 in
theorem valid_0 (b n : Int) (h1 : (n == 32) = false) (h2 : (n == 64) = false) (w : World) : Calls Try.prog 116 #[.int .i64 b, .int .i64 n] w fun e w' => e = .returned (.bool false) ∧ w = w' := by
  go_enter Try.func116, Try.ntmps116
  go_wp2
  go_ret
  exact ⟨rfl, rfl⟩


theorem ret_int {k : IntKind} {a b : Int} (h : a = b) : Ending.returned (.int k a) = .returned (.int k b) := by rw [h]


set_option maxHeartbeats 400000 in
theorem class_64 (b s : Int) (hs : bits .andNot .i64 b (-9223372036854775808) = s) (w : World) : Calls Try.prog 117 #[.int .i64 b, .int .i64 64] w fun e w' => e = .returned (.int .i64 (clsOf s 9218868437227405312 4503599627370496)) ∧ Kept w w' := by
  go_enter Try.func117, Try.ntmps117
  go_wp2_with (first | (go_at_call 129; refine (layoutOf_64 _).mono ?_; rintro e w1 ⟨rfl, hk1⟩) | (go_at_call 116; refine (valid_64 _ _).mono ?_; rintro e w2 ⟨rfl, rfl⟩))
  all_goals
    go_ret
    refine ⟨ret_int ?_, hk1.alloc _ _⟩
    unfold clsOf
    try simp only [beq_iff_eq, beq_eq_false_iff_ne] at *
    (repeat' split) <;> omega

def clsd (b s : Int) : Int := if (b / 4294967296 == 0) = true then clsOf s 2139095040 8388608 else 4

set_option maxHeartbeats 400000 in
theorem class_32 (b s : Int) (hs : bits .andNot .i64 b 2147483648 = s) (w : World) : Calls Try.prog 117 #[.int .i64 b, .int .i64 32] w fun e w' => e = .returned (.int .i64 (clsd b s)) ∧ Kept w w' := by
  go_enter Try.func117, Try.ntmps117
  go_wp2_with (first | (go_at_call 129; refine (layoutOf_32 _).mono ?_; rintro e w1 ⟨rfl, hk1⟩) | (go_at_call 116; refine (valid_32 _ _).mono ?_; rintro e w2 ⟨rfl, rfl⟩))
  all_goals
    go_ret
    refine ⟨ret_int ?_, hk1.alloc _ _⟩
    unfold clsd clsOf
    try simp only [beq_iff_eq, beq_eq_false_iff_ne] at *
    (repeat' split) <;> omega

set_option maxHeartbeats 400000 in
theorem class_0 (b n : Int) (h1 : (n == 32) = false) (h2 : (n == 64) = false) (w : World) : Calls Try.prog 117 #[.int .i64 b, .int .i64 n] w fun e w' => e = .returned (.int .i64 0) ∧ Kept w w' := by
  go_enter Try.func117, Try.ntmps117
  go_wp2_with (first | (go_at_call 129; refine (layoutOf_0 _ h1 h2 _).mono ?_; rintro e w1 ⟨rfl, hk1⟩) | (go_at_call 116; refine (valid_0 _ _ h1 h2 _).mono ?_; rintro e w2 ⟨rfl, rfl⟩))
  go_ret
  exact ⟨rfl, hk1.alloc _ _⟩

theorem valid_any (b n : Int) (w : World) : Calls Try.prog 116 #[.int .i64 b, .int .i64 n] w fun e w' => e = .returned (.bool (val b n)) ∧ w = w' := by
  by_cases h64 : n = 64
  · subst h64
    refine (valid_64 b w).mono ?_
    rintro e w' ⟨rfl, rfl⟩
    exact ⟨by simp [val], rfl⟩
  · by_cases h32 : n = 32
    · subst h32
      refine (valid_32 b w).mono ?_
      rintro e w' ⟨rfl, rfl⟩
      refine ⟨?_, rfl⟩
      have : (b / 4294967296 == 0) = val b 32 := by
        rw [Bool.eq_iff_iff]; simp [val]; omega
      rw [this]
    · refine (valid_0 b n (by simpa using h32) (by simpa using h64) w).mono ?_
      rintro e w' ⟨rfl, rfl⟩
      exact ⟨by simp [val, h64, h32], rfl⟩

theorem class_any (b n : Int) (w : World) : Calls Try.prog 117 #[.int .i64 b, .int .i64 n] w fun e w' => e = .returned (.int .i64 (cls b n)) ∧ Kept w w' := by
  by_cases h64 : n = 64
  · subst h64
    refine (class_64 b _ (andNot_min b) w).mono ?_
    rintro e w' ⟨rfl, hk⟩
    exact ⟨ret_int (by simp [cls]), hk⟩
  · by_cases h32 : n = 32
    · subst h32
      refine (class_32 b _ rfl w).mono ?_
      rintro e w' ⟨rfl, hk⟩
      refine ⟨ret_int ?_, hk⟩
      unfold clsd cls
      by_cases hv : 0 ≤ b ∧ b < 4294967296
      · rw [if_pos (by rw [beq_iff_eq]; omega), andNot_31 b hv.1 hv.2, if_neg (by decide), if_pos rfl, if_pos hv]
      · rw [if_neg (by rw [beq_iff_eq]; omega), if_neg (by decide), if_pos rfl, if_neg hv]
    · refine (class_0 b n (by simpa using h32) (by simpa using h64) w).mono ?_
      rintro e w' ⟨rfl, hk⟩
      exact ⟨ret_int (by simp [cls, h64, h32]), hk⟩

end Go.Proofs.Ytcjgdfnbjbboeaa

namespace Go.Proofs.Ytcjgdfnbjbboeaa
open Go.ChangeShapes Go.WideShapes Go.ChangeAt Go.RowKit
set_option linter.unusedVariables false

/-- The table of 64 lies in its variable. -/
def Tab (w : World) : Prop := 2 ≤ w.heap.size ∧ ∀ j, j < 64 → w.cell? ⟨1, j, none⟩ = some (.int .u8 (Lib.deBruijn64tab.getD j 0))

theorem Tab.kept {w w' : World} (h : Tab w) (k : Kept w w') : Tab w' :=
  ⟨Nat.le_trans h.1 k.below.size, fun j hj => (k.below.cell (p := ⟨1, j, none⟩) (by have := h.1; show 1 < _; omega)).trans (h.2 j hj)⟩

set_option maxRecDepth 100000 in
theorem len8tab_size : (Lib.len8tab.size : Int) = 256 := by
  have : Lib.len8tab.size = 256 := by decide
  omega
theorem wrap_add (k a b : Nat) (hk : k ≤ 56) (ha : a ≤ 8) (hb : b = k + a) : wrap64 ((k : Int) + wrap64 (a : Int)) = (b : Int) := by
  unfold wrap64
  omega
theorem wrap_wrap (a : Nat) (ha : a ≤ 8) : wrap64 (wrap64 (a : Int)) = (a : Int) := by
  unfold wrap64
  omega
theorem len8_get (y : Int) (h : y.toNat < Lib.len8tab.size) : ((Lib.len8tab[y.toNat]'h).toNat : Int) = Lib.len8 y := by
  unfold Lib.len8
  rw [getElem?_pos Lib.len8tab y.toNat h]
  rfl

set_option maxHeartbeats 16000000 in
set_option maxRecDepth 1000000 in
theorem len64 (x : Int) (w : World) (h0 : 0 ≤ x) (h1 : x ≤ 18446744073709551615) :
    Calls Try.prog 111 #[.int .u64 x] w fun e w' => e = .returned (.int .i64 (Lib.bitLen x.toNat)) ∧ w = w' := by
  go_enter Try.func111, Try.ntmps111
  go_wp2
  all_goals first
    | (go_ret; refine ⟨congrArg Ending.returned (congrArg (Value.int IntKind.i64) ?_), rfl⟩; go_light)
    | (exfalso
       go_light
       have hs := len8tab_size
       omega)
  all_goals first
    | (rw [len8_get (x / 4294967296 / 65536 / 256) _, Lib.len8_of (x / 4294967296 / 65536 / 256) (by omega) (by omega)]
       have e : (x / 4294967296 / 65536 / 256).toNat = x.toNat / 72057594037927936 := by omega
       have l := Lib.bitLen_le8' (x / 4294967296 / 65536 / 256) (by omega) (by omega)
       have s := Lib.bitLen_shift56 x.toNat (by omega) (by omega)
       rw [e] at l ⊢
       exact wrap_add 56 _ _ (by decide) l s)
    | (rw [len8_get (x / 4294967296 / 65536) _, Lib.len8_of (x / 4294967296 / 65536) (by omega) (by omega)]
       have e : (x / 4294967296 / 65536).toNat = x.toNat / 281474976710656 := by omega
       have l := Lib.bitLen_le8' (x / 4294967296 / 65536) (by omega) (by omega)
       have s := Lib.bitLen_shift48 x.toNat (by omega) (by omega)
       rw [e] at l ⊢
       exact wrap_add 48 _ _ (by decide) l s)
    | (rw [len8_get (x / 4294967296 / 256) _, Lib.len8_of (x / 4294967296 / 256) (by omega) (by omega)]
       have e : (x / 4294967296 / 256).toNat = x.toNat / 1099511627776 := by omega
       have l := Lib.bitLen_le8' (x / 4294967296 / 256) (by omega) (by omega)
       have s := Lib.bitLen_shift40 x.toNat (by omega) (by omega)
       rw [e] at l ⊢
       exact wrap_add 40 _ _ (by decide) l s)
    | (rw [len8_get (x / 4294967296) _, Lib.len8_of (x / 4294967296) (by omega) (by omega)]
       have e : (x / 4294967296).toNat = x.toNat / 4294967296 := by omega
       have l := Lib.bitLen_le8' (x / 4294967296) (by omega) (by omega)
       have s := Lib.bitLen_shift32 x.toNat (by omega) (by omega)
       rw [e] at l ⊢
       exact wrap_add 32 _ _ (by decide) l s)
    | (rw [len8_get (x / 65536 / 256) _, Lib.len8_of (x / 65536 / 256) (by omega) (by omega)]
       have e : (x / 65536 / 256).toNat = x.toNat / 16777216 := by omega
       have l := Lib.bitLen_le8' (x / 65536 / 256) (by omega) (by omega)
       have s := Lib.bitLen_shift24 x.toNat (by omega) (by omega)
       rw [e] at l ⊢
       exact wrap_add 24 _ _ (by decide) l s)
    | (rw [len8_get (x / 65536) _, Lib.len8_of (x / 65536) (by omega) (by omega)]
       have e : (x / 65536).toNat = x.toNat / 65536 := by omega
       have l := Lib.bitLen_le8' (x / 65536) (by omega) (by omega)
       have s := Lib.bitLen_shift16 x.toNat (by omega) (by omega)
       rw [e] at l ⊢
       exact wrap_add 16 _ _ (by decide) l s)
    | (rw [len8_get (x / 256) _, Lib.len8_of (x / 256) (by omega) (by omega)]
       have e : (x / 256).toNat = x.toNat / 256 := by omega
       have l := Lib.bitLen_le8' (x / 256) (by omega) (by omega)
       have s := Lib.bitLen_shift8 x.toNat (by omega) (by omega)
       rw [e] at l ⊢
       exact wrap_add 8 _ _ (by decide) l s)
    | (rw [len8_get x _, Lib.len8_of x (by omega) (by omega)]
       have l := Lib.bitLen_le8' x (by omega) (by omega)
       exact wrap_wrap _ l)

set_option maxHeartbeats 400000 in
theorem len (x : Int) (w : World) (h0 : 0 ≤ x) (h1 : x ≤ 18446744073709551615) :
    Calls Try.prog 92 #[.int .u64 x] w fun e w' => e = .returned (.int .i64 (Lib.bitLen x.toNat)) ∧ w = w' := by
  have hc := len64 x w h0 h1
  obtain ⟨c, hcx⟩ : ∃ c, c = Lib.bitLen x.toNat := ⟨_, rfl⟩
  rw [← hcx] at hc ⊢
  have HC : Hid (Calls Try.prog 111 #[.int .u64 x] w fun e w' => e = .returned (.int .i64 c) ∧ w = w') := hc
  clear hc hcx
  go_enter Try.func92, Try.ntmps92
  go_wp2_with fail
  refine HC.out.mono ?_
  rintro e w1 ⟨rfl, rfl⟩
  go_wp2
  go_ret
  exact ⟨rfl, rfl⟩

end Go.Proofs.Ytcjgdfnbjbboeaa

namespace Go.Proofs.Ytcjgdfnbjbboeaa
open Go.ChangeShapes Go.WideShapes Go.ChangeAt Go.RowKit

theorem laid_cell {w1 w2 : World} {c : Array Value} {t : TypeId} (h : Kept (w1.alloc (.cells c t)) w2) (o : Nat) : w2.cell? ⟨w1.heap.size, o, none⟩ = (w1.alloc (.cells c t)).cell? ⟨w1.heap.size, o, none⟩ :=
  h.below.cell (p := ⟨w1.heap.size, o, none⟩) (by simp)

end Go.Proofs.Ytcjgdfnbjbboeaa
