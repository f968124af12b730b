/- Floats and their patterns: the walks of Float, Float32, Of, Of32, and of a sum that is a number. -/
import Derived.Test.YtebjkfecijeehaaDoorParts
import Derived.Test.YtebjkfecijeehaaDoorTurns2
import Derived.Laws.FloatArith
import Derived.Laws.Externs
namespace Go.Proofs.YtebjkfecijeehaaDoor
open Go.ChangeShapes Go.WideShapes Go.ChangeAt Go.RowKit

theorem call_frombits64 (x : Int) (w : World) : (callFunc 35 #[.int .u64 x]).run Tryd.prog w = .ok (.value (.float .f64 x.toNat)) w := by
  rw [run_callFunc_extern (fn := Tryd.f35) (e := Extern.MathFloatBits.float64frombits) (by kernel_rfl) (by kernel_rfl) (by kernel_rfl) (by kernel_rfl) (by kernel_rfl)]
  rfl
theorem call_bits64 (x : Nat) (w : World) : (callFunc 34 #[.float .f64 x]).run Tryd.prog w = .ok (.value (.int .u64 x)) w := by
  rw [run_callFunc_extern (fn := Tryd.f34) (e := Extern.MathFloatBits.float64bits) (by kernel_rfl) (by kernel_rfl) (by kernel_rfl) (by kernel_rfl) (by kernel_rfl)]
  rfl
theorem call_frombits32 (x : Int) (w : World) : (callFunc 33 #[.int .u32 x]).run Tryd.prog w = .ok (.value (.float .f32 x.toNat)) w := by
  rw [run_callFunc_extern (fn := Tryd.f33) (e := Extern.MathFloatBits.float32frombits) (by kernel_rfl) (by kernel_rfl) (by kernel_rfl) (by kernel_rfl) (by kernel_rfl)]
  rfl
theorem call_bits32 (x : Nat) (w : World) : (callFunc 31 #[.float .f32 x]).run Tryd.prog w = .ok (.value (.int .u32 x)) w := by
  rw [run_callFunc_extern (fn := Tryd.f31) (e := Extern.MathFloatBits.float32bits) (by kernel_rfl) (by kernel_rfl) (by kernel_rfl) (by kernel_rfl) (by kernel_rfl)]
  rfl


def pat64 (b : Int) : Nat := (IntKind.u64.wrap b).toNat
def pat32 (b : Int) : Nat := if val b 32 = true then (b % 4294967296).toNat else 2143289345
def of64 (x : Nat) : Int := if (FloatKind.f64.format.order x x != some .eq) = true then 9221120237041090561 else wrap64 x
def of32 (x : Nat) : Int := if (FloatKind.f32.format.order x x != some .eq) = true then 2143289345 else wrap64 x

theorem ret_float {k : FloatKind} {a b : Nat} (h : a = b) : Ending.returned (.float k a) = .returned (.float k b) := by rw [h]

set_option maxHeartbeats 400000 in
theorem float_any (b : Int) (w : World) : Calls Tryd.prog 26 #[.int .i64 b] w fun e w' => e = .returned (.float .f64 (pat64 b)) ∧ w = w' := by
  have h1 := call_frombits64
  go_enter Tryd.func26, Tryd.ntmps26
  go_wp2
  go_ret
  exact ⟨rfl, rfl⟩

set_option maxHeartbeats 400000 in
theorem float32_any (b : Int) (w : World) : Calls Tryd.prog 23 #[.int .i64 b] w fun e w' => e = .returned (.float .f32 (pat32 b)) ∧ w = w' := by
  have h1 := call_frombits32
  go_enter Tryd.func23, Tryd.ntmps23
  go_wp2_with (go_at_call 13; refine (valid_any _ _ _).mono ?_; rintro e w2 ⟨rfl, rfl⟩)
  · go_ret
    exact ⟨ret_float (by unfold pat32; rw [if_neg (by simp_all)]), rfl⟩
  · go_ret
    exact ⟨ret_float (by unfold pat32; rw [if_pos (by simp_all)]), rfl⟩

set_option maxHeartbeats 400000 in
theorem of64_any (b : Nat) (w : World) : Calls Tryd.prog 24 #[.float .f64 b] w fun e w' => e = .returned (.int .i64 (of64 b)) ∧ w = w' := by
  have h1 := call_bits64
  go_enter Tryd.func24, Tryd.ntmps24
  go_wp2
  · go_ret
    exact ⟨ret_int (by unfold of64; rw [if_pos (by assumption)]), rfl⟩
  · go_ret
    exact ⟨ret_int (by unfold of64; rw [if_neg (by simp_all)]), rfl⟩

set_option maxHeartbeats 400000 in
theorem of32_any (b : Nat) (w : World) : Calls Tryd.prog 21 #[.float .f32 b] w fun e w' => e = .returned (.int .i64 (of32 b)) ∧ w = w' := by
  have h1 := call_bits32
  go_enter Tryd.func21, Tryd.ntmps21
  go_wp2
  · go_ret
    exact ⟨ret_int (by unfold of32; rw [if_pos (by assumption)]), rfl⟩
  · go_ret
    exact ⟨ret_int (by unfold of32; rw [if_neg (by simp_all)]), rfl⟩

set_option maxHeartbeats 400000 in
theorem single64_add (x y r : Nat) (h : FloatKind.f64.format.add x y = some r) (w : World) : Calls Tryd.prog 25 #[.int .i64 0, .float .f64 x, .float .f64 y] w fun e w' => e = .returned (.float .f64 r) ∧ w = w' := by
  have hx : ∀ wx : World, (binOp .add 52 (.float .f64 x) (.float .f64 y)).run Tryd.prog wx = .ok (.float .f64 r) wx := fun wx => run_float_arith wx .add 52 .f64 x y r h
  clear h
  go_enter Tryd.func25, Tryd.ntmps25
  go_wp2
  go_ret
  exact ⟨rfl, rfl⟩

set_option maxHeartbeats 400000 in
theorem single32_add (x y r : Nat) (h : FloatKind.f32.format.add x y = some r) (w : World) : Calls Tryd.prog 22 #[.int .i64 0, .float .f32 x, .float .f32 y] w fun e w' => e = .returned (.float .f32 r) ∧ w = w' := by
  have hx : ∀ wx : World, (binOp .add 48 (.float .f32 x) (.float .f32 y)).run Tryd.prog wx = .ok (.float .f32 r) wx := fun wx => run_float_arith wx .add 48 .f32 x y r h
  clear h
  go_enter Tryd.func22, Tryd.ntmps22
  go_wp2
  go_ret
  exact ⟨rfl, rfl⟩

end Go.Proofs.YtebjkfecijeehaaDoor
