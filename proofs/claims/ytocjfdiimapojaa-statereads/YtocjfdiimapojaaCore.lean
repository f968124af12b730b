/- The walks of layoutOf, Valid and Class of package bits: what each call gives, for every int and every width. The walks of math/bits.TrailingZeros and Len at 64 bits, over the library's own Go text and its table as it is laid. The walk of numbers of package bits, called with one pattern. -/
import Derived.Test.YtocjfdiimapojaaRows
import Derived.Test.YtocjfdiimapojaaMath
import Derived.WalkKit
import Derived.ProofKit
import Derived.OpenShut
import Derived.Below
import Derived.WalkLawsBesides
import Derived.Deep.QuietTactic
import Derived.BigQuiet
import Derived.Lib.TrailingZeros
import Derived.Laws.MathBits
import Derived.Laws.Bits64b
import Derived.Lib.Strings
import Derived.Lib.Slices
import Derived.Lib.Small
import Derived.Lib.Walk
import Derived.Lib.BitFns
import Derived.Deep.Light
namespace Go.Proofs.Ytocjfdiimapojaa
open Go.ChangeShapes Go.WideShapes Go.ChangeAt Go.RowKit

structure Kept (w w' : World) : Prop where
  below : Below w.heap.size w w'
  frozen : ∀ a, w'.frozen? a = w.frozen? a

theorem Kept.refl (w : World) : Kept w w := ⟨Below.refl _ _, fun _ => rfl⟩
theorem Kept.trans {a b c : World} (h : Kept a b) (k : Kept b c) : Kept a c :=
  ⟨h.below.trans (k.below.mono h.below.size), fun x => (k.frozen x).trans (h.frozen x)⟩
theorem Kept.alloc {a b : World} (h : Kept a b) (c : Array Value) (t : TypeId) : Kept a (b.alloc (.cells c t)) :=
  ⟨h.below.alloc h.below.size _, fun x => (frozen?_alloc_cells _ _ _ x).trans (h.frozen x)⟩
theorem Kept.setCell {a b : World} (h : Kept a b) {p : Addr} (hp : a.heap.size ≤ p.block) (u : Value) : Kept a (b.setCell p u) :=
  ⟨h.below.setCell hp u, fun x => (World.frozen?_setCell _ _ _ _).trans (h.frozen x)⟩
theorem Kept.drew {a b : World} (h : Kept a b) : Kept a b.drew := ⟨h.below.drew, h.frozen⟩
theorem Kept.drewN {a b : World} (h : Kept a b) (n : Nat) : Kept a (b.drewN n) := ⟨below_drewN h.below n, h.frozen⟩
theorem Kept.grown {a b : World} (h : Kept a b) : Grown a b := ⟨h.below.frame _, h.frozen, h.below.size⟩



set_option maxHeartbeats 400000 in
theorem valid_64 (b : Int) (w : World) : Calls Try.prog 69 #[.int .i64 b, .int .i64 64] w fun e w' => e = .returned (.bool true) ∧ w = w' := by
  go_enter Try.func69, Try.ntmps69
  go_wp2
  go_ret
  exact ⟨rfl, rfl⟩

set_option maxHeartbeats 400000 in
theorem valid_32 (b : Int) (w : World) : Calls Try.prog 69 #[.int .i64 b, .int .i64 32] w fun e w' => e = .returned (.bool (b / 4294967296 == 0)) ∧ w = w' := by
  go_enter Try.func69, Try.ntmps69
  go_wp2
  go_ret
  exact ⟨rfl, rfl⟩
set_option maxHeartbeats 400000 in
theorem valid_0 (b n : Int) (h1 : (n == 32) = false) (h2 : (n == 64) = false) (w : World) : Calls Try.prog 69 #[.int .i64 b, .int .i64 n] w fun e w' => e = .returned (.bool false) ∧ w = w' := by
  go_enter Try.func69, Try.ntmps69
  go_wp2
  go_ret
  exact ⟨rfl, rfl⟩


theorem ret_int {k : IntKind} {a b : Int} (h : a = b) : Ending.returned (.int k a) = .returned (.int k b) := by rw [h]


def clsd (b s : Int) : Int := if (b / 4294967296 == 0) = true then clsOf s 2139095040 8388608 else 4

theorem valid_any (b n : Int) (w : World) : Calls Try.prog 69 #[.int .i64 b, .int .i64 n] w fun e w' => e = .returned (.bool (val b n)) ∧ w = w' := by
  by_cases h64 : n = 64
  · subst h64
    refine (valid_64 b w).mono ?_
    rintro e w' ⟨rfl, rfl⟩
    exact ⟨by simp [val], rfl⟩
  · by_cases h32 : n = 32
    · subst h32
      refine (valid_32 b w).mono ?_
      rintro e w' ⟨rfl, rfl⟩
      refine ⟨?_, rfl⟩
      have : (b / 4294967296 == 0) = val b 32 := by
        rw [Bool.eq_iff_iff]; simp [val]; omega
      rw [this]
    · refine (valid_0 b n (by simpa using h32) (by simpa using h64) w).mono ?_
      rintro e w' ⟨rfl, rfl⟩
      exact ⟨by simp [val, h64, h32], rfl⟩

end Go.Proofs.Ytocjfdiimapojaa

namespace Go.Proofs.Ytocjfdiimapojaa
open Go.ChangeShapes Go.WideShapes Go.ChangeAt Go.RowKit
set_option linter.unusedVariables false

/-- The table of 64 lies in its variable. -/
def Tab (w : World) : Prop := 2 ≤ w.heap.size ∧ ∀ j, j < 64 → w.cell? ⟨1, j, none⟩ = some (.int .u8 (Lib.deBruijn64tab.getD j 0))

theorem Tab.kept {w w' : World} (h : Tab w) (k : Kept w w') : Tab w' :=
  ⟨Nat.le_trans h.1 k.below.size, fun j hj => (k.below.cell (p := ⟨1, j, none⟩) (by have := h.1; show 1 < _; omega)).trans (h.2 j hj)⟩

theorem tz64_key (x a : Nat) (hx : x < 18446744073709551616) (hx0 : x ≠ 0) (hlow : x &&& (18446744073709551616 - x) = a) :
    IntKind.u64.wrap (bits BinOp.and IntKind.u64 (x : Int) (IntKind.u64.wrap (-(x : Int))) * 285870213051353865) / 288230376151711744 = ((a * 285870213051353865 % 18446744073709551616 / 288230376151711744 : Nat) : Int) := by
  have e1 : IntKind.u64.wrap (-(x : Int)) = ((18446744073709551616 - x : Nat) : Int) := by rw [IntKind.wrap_u64]; omega
  rw [e1, bits_and_u64_nat x _ hx (by omega), hlow, IntKind.wrap_u64]
  omega

set_option maxRecDepth 100000 in
theorem len8tab_size : (Lib.len8tab.size : Int) = 256 := by
  have : Lib.len8tab.size = 256 := by decide
  omega
theorem wrap_add (k a b : Nat) (hk : k ≤ 56) (ha : a ≤ 8) (hb : b = k + a) : wrap64 ((k : Int) + wrap64 (a : Int)) = (b : Int) := by
  unfold wrap64
  omega
theorem wrap_wrap (a : Nat) (ha : a ≤ 8) : wrap64 (wrap64 (a : Int)) = (a : Int) := by
  unfold wrap64
  omega
theorem len8_get (y : Int) (h : y.toNat < Lib.len8tab.size) : ((Lib.len8tab[y.toNat]'h).toNat : Int) = Lib.len8 y := by
  unfold Lib.len8
  rw [getElem?_pos Lib.len8tab y.toNat h]
  rfl

end Go.Proofs.Ytocjfdiimapojaa

namespace Go.Proofs.Ytocjfdiimapojaa
open Go.ChangeShapes Go.WideShapes Go.ChangeAt Go.RowKit

theorem laid_cell {w1 w2 : World} {c : Array Value} {t : TypeId} (h : Kept (w1.alloc (.cells c t)) w2) (o : Nat) : w2.cell? ⟨w1.heap.size, o, none⟩ = (w1.alloc (.cells c t)).cell? ⟨w1.heap.size, o, none⟩ :=
  h.below.cell (p := ⟨w1.heap.size, o, none⟩) (by simp)

theorem laid_size {w1 w2 : World} {c : Array Value} {t : TypeId} (h : Kept (w1.alloc (.cells c t)) w2) : w1.heap.size < w2.heap.size := by
  have := h.below.size
  simp at this
  omega

theorem old_cell {w1 w2 : World} {c : Array Value} {t : TypeId} (h : Kept (w1.alloc (.cells c t)) w2) (k o : Nat) (hk : k < w1.heap.size) : w2.cell? ⟨k, o, none⟩ = w1.cell? ⟨k, o, none⟩ :=
  (((Kept.refl w1).alloc c t).trans h).below.cell (p := ⟨k, o, none⟩) hk

end Go.Proofs.Ytocjfdiimapojaa
