/- The walks of the document's own Of, cut, Valid, Class, Parts: what each call gives, for every int and every width. -/
import Derived.Test.YtocjfdiimapojaaParts
namespace Go.Proofs.Ytocjfdiimapojaa
open Go.ChangeShapes Go.WideShapes Go.ChangeAt Go.RowKit

set_option maxHeartbeats 400000 in
theorem of_64 (w : World) : Calls Try.prog 78 #[.int .i64 64] w fun e w' => e = .returned (.tuple #[.agg #[.int .i64 64, .int .i64 53, .int .i64 4503599627370496, .int .i64 2047, .int .i64 (-1074), .int .i64 1024, .int .i64 9218868437227405312, .int .i64 (-9223372036854775808), .int .i64 9221120237041090561], .bool true]) ∧ Kept w w' := by
  go_enter Try.func78, Try.ntmps78
  go_wp2
  exact bodyPost_ret (v := .tuple #[.agg #[.int .i64 64, .int .i64 53, .int .i64 4503599627370496, .int .i64 2047, .int .i64 (-1074), .int .i64 1024, .int .i64 9218868437227405312, .int .i64 (-9223372036854775808), .int .i64 9221120237041090561], .bool true]) (by simp [results, Try.results78, go_sem]) rfl ⟨rfl, (Kept.refl _).alloc _ _⟩

set_option maxHeartbeats 400000 in
theorem of_32 (w : World) : Calls Try.prog 78 #[.int .i64 32] w fun e w' => e = .returned (.tuple #[.agg #[.int .i64 32, .int .i64 24, .int .i64 8388608, .int .i64 255, .int .i64 (-149), .int .i64 128, .int .i64 2139095040, .int .i64 2147483648, .int .i64 2143289345], .bool true]) ∧ Kept w w' := by
  go_enter Try.func78, Try.ntmps78
  go_wp2
  exact bodyPost_ret (v := .tuple #[.agg #[.int .i64 32, .int .i64 24, .int .i64 8388608, .int .i64 255, .int .i64 (-149), .int .i64 128, .int .i64 2139095040, .int .i64 2147483648, .int .i64 2143289345], .bool true]) (by simp [results, Try.results78, go_sem]) rfl ⟨rfl, (Kept.refl _).alloc _ _⟩

set_option maxHeartbeats 400000 in
theorem of_0 (n : Int) (h1 : (n == 32) = false) (h2 : (n == 64) = false) (w : World) : Calls Try.prog 78 #[.int .i64 n] w fun e w' => e = .returned (.tuple #[.agg #[.int .i64 0, .int .i64 0, .int .i64 0, .int .i64 0, .int .i64 0, .int .i64 0, .int .i64 0, .int .i64 0, .int .i64 0], .bool false]) ∧ Kept w w' := by
  go_enter Try.func78, Try.ntmps78
  go_wp2
  exact bodyPost_ret (v := .tuple #[.agg #[.int .i64 0, .int .i64 0, .int .i64 0, .int .i64 0, .int .i64 0, .int .i64 0, .int .i64 0, .int .i64 0, .int .i64 0], .bool false]) (by simp [results, Try.results78, go_sem]) rfl ⟨rfl, (Kept.refl _).alloc _ _⟩

set_option maxHeartbeats 400000 in
theorem cut_64_pos (b : Int) (h0 : 0 ≤ b) (hu : b ≤ 9223372036854775807) (w : World) : Calls Try.prog 79 #[.agg #[.int .i64 64, .int .i64 53, .int .i64 4503599627370496, .int .i64 2047, .int .i64 (-1074), .int .i64 1024, .int .i64 9218868437227405312, .int .i64 (-9223372036854775808), .int .i64 9221120237041090561], .int .i64 b] w fun e w' => e = .returned (.tuple #[.bool false, .int .i64 (b / 4503599627370496), .int .i64 (b % 4503599627370496), .bool true]) ∧ Kept w w' := by
  go_enter Try.func79, Try.ntmps79
  go_wp2
  go_quiet (fail)
  go_wp2
  exact bodyPost_ret (v := .tuple #[.bool false, .int .i64 (b / 4503599627370496), .int .i64 (b % 4503599627370496), .bool true]) (by simp [results, Try.results79, go_sem, h0]) rfl ⟨rfl, (((Kept.refl _).alloc _ _).drewN _)⟩

set_option maxHeartbeats 400000 in
theorem cut_64_neg (b : Int) (h0 : b < 0) (hu : -9223372036854775808 ≤ b) (w : World) : Calls Try.prog 79 #[.agg #[.int .i64 64, .int .i64 53, .int .i64 4503599627370496, .int .i64 2047, .int .i64 (-1074), .int .i64 1024, .int .i64 9218868437227405312, .int .i64 (-9223372036854775808), .int .i64 9221120237041090561], .int .i64 b] w fun e w' => e = .returned (.tuple #[.bool true, .int .i64 ((b - -9223372036854775808) / 4503599627370496), .int .i64 ((b - -9223372036854775808) % 4503599627370496), .bool true]) ∧ Kept w w' := by
  go_enter Try.func79, Try.ntmps79
  go_wp2
  go_quiet (fail)
  go_wp2
  exact bodyPost_ret (v := .tuple #[.bool true, .int .i64 ((b - -9223372036854775808) / 4503599627370496), .int .i64 ((b - -9223372036854775808) % 4503599627370496), .bool true]) (by simp [results, Try.results79, go_sem]) rfl ⟨rfl, (((Kept.refl _).alloc _ _).drewN _)⟩

set_option maxHeartbeats 400000 in
theorem cut_32_no1 (b : Int) (h0 : b < 0) (w : World) : Calls Try.prog 79 #[.agg #[.int .i64 32, .int .i64 24, .int .i64 8388608, .int .i64 255, .int .i64 (-149), .int .i64 128, .int .i64 2139095040, .int .i64 2147483648, .int .i64 2143289345], .int .i64 b] w fun e w' => e = .returned (.tuple #[.bool false, .int .i64 0, .int .i64 0, .bool false]) ∧ Kept w w' := by
  go_enter Try.func79, Try.ntmps79
  go_wp2
  exact bodyPost_ret (v := .tuple #[.bool false, .int .i64 0, .int .i64 0, .bool false]) (by simp [results, Try.results79, go_sem]) rfl ⟨rfl, ((Kept.refl _).alloc _ _)⟩

set_option maxHeartbeats 400000 in
theorem cut_32_no2 (b : Int) (h0 : 4294967296 ≤ b) (w : World) : Calls Try.prog 79 #[.agg #[.int .i64 32, .int .i64 24, .int .i64 8388608, .int .i64 255, .int .i64 (-149), .int .i64 128, .int .i64 2139095040, .int .i64 2147483648, .int .i64 2143289345], .int .i64 b] w fun e w' => e = .returned (.tuple #[.bool false, .int .i64 0, .int .i64 0, .bool false]) ∧ Kept w w' := by
  go_enter Try.func79, Try.ntmps79
  go_wp2
  exact bodyPost_ret (v := .tuple #[.bool false, .int .i64 0, .int .i64 0, .bool false]) (by simp [results, Try.results79, go_sem]) rfl ⟨rfl, ((Kept.refl _).alloc _ _)⟩

set_option maxHeartbeats 400000 in
theorem cut_32_yes (b : Int) (h0 : 0 ≤ b) (hu : b < 4294967296) (w : World) : Calls Try.prog 79 #[.agg #[.int .i64 32, .int .i64 24, .int .i64 8388608, .int .i64 255, .int .i64 (-149), .int .i64 128, .int .i64 2139095040, .int .i64 2147483648, .int .i64 2143289345], .int .i64 b] w fun e w' => e = .returned (.tuple #[.bool (decide (2147483648 ≤ b)), .int .i64 (b % 2147483648 / 8388608), .int .i64 (b % 8388608), .bool true]) ∧ Kept w w' := by
  go_enter Try.func79, Try.ntmps79
  go_wp2
  go_quiet (fail)
  go_wp2
  exact bodyPost_ret (v := .tuple #[.bool (decide (2147483648 ≤ b)), .int .i64 (b % 2147483648 / 8388608), .int .i64 (b % 8388608), .bool true]) (by simp [results, Try.results79, go_sem]) rfl ⟨rfl, (((Kept.refl _).alloc _ _).drewN _)⟩


/-! ### One contract a width, for every pattern -/
def thr (b : Int) : Bool := decide (0 ≤ b ∧ b < 4294967296)
def fld64 (b : Int) : Int := b % 9223372036854775808 / 4503599627370496
def frc64 (b : Int) : Int := b % 4503599627370496
def fld32 (b : Int) : Int := if thr b = true then b % 2147483648 / 8388608 else 0
def frc32 (b : Int) : Int := if thr b = true then b % 8388608 else 0
def sg32 (b : Int) : Bool := thr b && sgn b 32

theorem cut_64 (b : Int) (hb1 : -9223372036854775808 ≤ b) (hb2 : b ≤ 9223372036854775807) (w : World) : Calls Try.prog 79 #[.agg #[.int .i64 64, .int .i64 53, .int .i64 4503599627370496, .int .i64 2047, .int .i64 (-1074), .int .i64 1024, .int .i64 9218868437227405312, .int .i64 (-9223372036854775808), .int .i64 9221120237041090561], .int .i64 b] w fun e w' => e = .returned (.tuple #[.bool (sgn b 64), .int .i64 (fld64 b), .int .i64 (frc64 b), .bool true]) ∧ Kept w w' := by
  by_cases h : 0 ≤ b
  · refine (cut_64_pos b h hb2 w).mono ?_
    rintro e w' ⟨rfl, hk⟩
    exact ⟨ret_parts (by simp [sgn]; omega) (by unfold fld64; omega) (by unfold frc64; omega) rfl, hk⟩
  · refine (cut_64_neg b (by omega) hb1 w).mono ?_
    rintro e w' ⟨rfl, hk⟩
    exact ⟨ret_parts (by simp [sgn]; omega) (by unfold fld64; omega) (by unfold frc64; omega) rfl, hk⟩

theorem cut_32 (b : Int) (w : World) : Calls Try.prog 79 #[.agg #[.int .i64 32, .int .i64 24, .int .i64 8388608, .int .i64 255, .int .i64 (-149), .int .i64 128, .int .i64 2139095040, .int .i64 2147483648, .int .i64 2143289345], .int .i64 b] w fun e w' => e = .returned (.tuple #[.bool (sg32 b), .int .i64 (fld32 b), .int .i64 (frc32 b), .bool (thr b)]) ∧ Kept w w' := by
  by_cases hv : 0 ≤ b ∧ b < 4294967296
  · have ht : thr b = true := by simp [thr, hv]
    refine (cut_32_yes b hv.1 hv.2 w).mono ?_
    rintro e w' ⟨rfl, hk⟩
    exact ⟨ret_parts (by simp [sg32, ht, sgn]) (by simp [fld32, ht]) (by simp [frc32, ht]) ht.symm, hk⟩
  · have ht : thr b = false := by simp [thr]; omega
    by_cases h : b < 0
    · refine (cut_32_no1 b h w).mono ?_
      rintro e w' ⟨rfl, hk⟩
      exact ⟨ret_parts (by simp [sg32, ht]) (by simp [fld32, ht]) (by simp [frc32, ht]) ht.symm, hk⟩
    · refine (cut_32_no2 b (by omega) w).mono ?_
      rintro e w' ⟨rfl, hk⟩
      exact ⟨ret_parts (by simp [sg32, ht]) (by simp [fld32, ht]) (by simp [frc32, ht]) ht.symm, hk⟩

theorem ret_bool {a b : Bool} (h : a = b) : Ending.returned (.bool a) = .returned (.bool b) := by rw [h]

theorem cls_64_eq (b : Int) : cls b 64 = if (fld64 b = 2047 ∧ 0 < frc64 b) then 4 else if fld64 b = 2047 then 3 else if 0 < fld64 b then 2 else if 0 < frc64 b then 1 else 0 := by
  unfold cls clsOf fld64 frc64
  rw [if_pos rfl]
  (repeat' split) <;> omega

theorem cls_32_eq (b : Int) : cls b 32 = if (thr b = false ∨ fld32 b = 255 ∧ 0 < frc32 b) then 4 else if fld32 b = 255 then 3 else if 0 < fld32 b then 2 else if 0 < frc32 b then 1 else 0 := by
  unfold cls
  rw [if_neg (by decide), if_pos rfl]
  by_cases hv : 0 ≤ b ∧ b < 4294967296
  · have ht : thr b = true := by simp [thr, hv]
    rw [if_pos hv]
    simp only [fld32, frc32, ht, if_true, Bool.true_eq_false, false_or]
    unfold clsOf
    (repeat' split) <;> omega
  · have ht : thr b = false := by simp [thr]; omega
    rw [if_neg hv, if_pos (Or.inl ht)]

end Go.Proofs.Ytocjfdiimapojaa
