/- Floats and their patterns: the walks of Float, Float32, Of, Of32, and of a sum that is a number. -/
import Derived.Test.YtbfjnihjookkjaaDoorParts
import Derived.Test.YtbfjnihjookkjaaDoorTurns2
import Derived.Laws.FloatArith
import Derived.Laws.Externs
namespace Go.Proofs.YtbfjnihjookkjaaDoor
open Go.ChangeShapes Go.WideShapes Go.ChangeAt Go.RowKit

theorem call_frombits64 (x : Int) (w : World) : (callFunc 135 #[.int .u64 x]).run Tryd.prog w = .ok (.value (.float .f64 x.toNat)) w := by
  rw [run_callFunc_extern (fn := Tryd.f135) (e := Extern.MathFloatBits.float64frombits) (by kernel_rfl) (by kernel_rfl) (by kernel_rfl) (by kernel_rfl) (by kernel_rfl)]
  rfl
theorem call_bits64 (x : Nat) (w : World) : (callFunc 109 #[.float .f64 x]).run Tryd.prog w = .ok (.value (.int .u64 x)) w := by
  rw [run_callFunc_extern (fn := Tryd.f109) (e := Extern.MathFloatBits.float64bits) (by kernel_rfl) (by kernel_rfl) (by kernel_rfl) (by kernel_rfl) (by kernel_rfl)]
  rfl
theorem call_frombits32 (x : Int) (w : World) : (callFunc 134 #[.int .u32 x]).run Tryd.prog w = .ok (.value (.float .f32 x.toNat)) w := by
  rw [run_callFunc_extern (fn := Tryd.f134) (e := Extern.MathFloatBits.float32frombits) (by kernel_rfl) (by kernel_rfl) (by kernel_rfl) (by kernel_rfl) (by kernel_rfl)]
  rfl
theorem call_bits32 (x : Nat) (w : World) : (callFunc 105 #[.float .f32 x]).run Tryd.prog w = .ok (.value (.int .u32 x)) w := by
  rw [run_callFunc_extern (fn := Tryd.f105) (e := Extern.MathFloatBits.float32bits) (by kernel_rfl) (by kernel_rfl) (by kernel_rfl) (by kernel_rfl) (by kernel_rfl)]
  rfl


def pat64 (b : Int) : Nat := (IntKind.u64.wrap b).toNat
def pat32 (b : Int) : Nat := if val b 32 = true then (b % 4294967296).toNat else 2143289345
def of64 (x : Nat) : Int := if (FloatKind.f64.format.order x x != some .eq) = true then 9221120237041090561 else wrap64 x
def of32 (x : Nat) : Int := if (FloatKind.f32.format.order x x != some .eq) = true then 2143289345 else wrap64 x

theorem ret_float {k : FloatKind} {a b : Nat} (h : a = b) : Ending.returned (.float k a) = .returned (.float k b) := by rw [h]

set_option maxHeartbeats 400000 in
theorem float_any (b : Int) (w : World) : Calls Tryd.prog 107 #[.int .i64 b] w fun e w' => e = .returned (.float .f64 (pat64 b)) ∧ w = w' := by
  have h1 := call_frombits64
  go_enter Tryd.func107, Tryd.ntmps107
  go_wp2
  go_ret
  exact ⟨rfl, rfl⟩

set_option maxHeartbeats 400000 in
theorem float32_any (b : Int) (w : World) : Calls Tryd.prog 106 #[.int .i64 b] w fun e w' => e = .returned (.float .f32 (pat32 b)) ∧ w = w' := by
  have h1 := call_frombits32
  go_enter Tryd.func106, Tryd.ntmps106
  go_wp2_with (go_at_call 124; refine (valid_any _ _ _).mono ?_; rintro e w2 ⟨rfl, rfl⟩)
  · go_ret
    exact ⟨ret_float (by unfold pat32; rw [if_neg (by simp_all)]), rfl⟩
  · go_ret
    exact ⟨ret_float (by unfold pat32; rw [if_pos (by simp_all)]), rfl⟩

set_option maxHeartbeats 400000 in
theorem of64_any (b : Nat) (w : World) : Calls Tryd.prog 73 #[.float .f64 b] w fun e w' => e = .returned (.int .i64 (of64 b)) ∧ w = w' := by
  have h1 := call_bits64
  go_enter Tryd.func73, Tryd.ntmps73
  go_wp2
  · go_ret
    exact ⟨ret_int (by unfold of64; rw [if_pos (by assumption)]), rfl⟩
  · go_ret
    exact ⟨ret_int (by unfold of64; rw [if_neg (by simp_all)]), rfl⟩

set_option maxHeartbeats 400000 in
theorem of32_any (b : Nat) (w : World) : Calls Tryd.prog 71 #[.float .f32 b] w fun e w' => e = .returned (.int .i64 (of32 b)) ∧ w = w' := by
  have h1 := call_bits32
  go_enter Tryd.func71, Tryd.ntmps71
  go_wp2
  · go_ret
    exact ⟨ret_int (by unfold of32; rw [if_pos (by assumption)]), rfl⟩
  · go_ret
    exact ⟨ret_int (by unfold of32; rw [if_neg (by simp_all)]), rfl⟩

end Go.Proofs.YtbfjnihjookkjaaDoor
