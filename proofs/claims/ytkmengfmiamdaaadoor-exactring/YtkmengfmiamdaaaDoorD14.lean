/- The sum of two numbers, plainly; the walk of exact's top. -/
import Derived.Test.YtkmengfmiamdaaaDoorD13
namespace Go.Proofs.YtkmengfmiamdaaaDoor
open Go.ChangeShapes Go.WideShapes Go.ChangeAt Go.RowKit
set_option linter.unusedVariables false
set_option linter.unusedSimpArgs false

def ToldR (Res : Option Nm) (w0 w : World) (e : Ending) : Prop := match Res with | some r => ∃ v, e = .returned v ∧ New w0 w v r | none => e = .panicked gaveUp

theorem top_any (neg : Bool) (L : List Int) (hL : Cn L) (hlen : L.length < 3000000) (ao : Option Addr) (cap : Nat) (x : Int) (hx1 : -1048576 ≤ x) (hx2 : x ≤ 1048576) (w : World) (h : Sl w (.slice ao L.length cap) L) : Calls Tryd.prog 72 #[.agg #[.bool neg, .slice ao L.length cap, .int .i64 x]] w fun e w' => e = .returned (.int .i64 (x + (bl (nv L) : Int))) ∧ Kept w w' := by
  have hK := (Kept.refl w).alloc #[.bool neg, .slice ao L.length cap, .int .i64 x] 31
  have KL : Hid (∀ u, Kept w u → Calls Tryd.prog 76 #[.slice ao L.length cap] u fun e w' => e = .returned (.int .i64 ((bl (nv L) : Nat) : Int)) ∧ u = w') := fun u k => length_any L hL (by omega) _ u (h.kept k)
  have hb : bl (nv L) ≤ 90000000 := Nat.le_trans (bl_le _ _ (nv_lt L hL.1)) (by omega)
  clear h hL hlen
  generalize L.length = n at *
  generalize bl (nv L) = B at *
  have HS : Hid (∀ u, Kept (w.alloc (.cells #[.bool neg, .slice ao n cap, .int .i64 x] 31)) u → Kept w u ∧ u.cell? ⟨w.heap.size, 1, none⟩ = some (.slice ao n cap) ∧ u.cell? ⟨w.heap.size, 2, none⟩ = some (.int .i64 x)) := fun u k => ⟨hK.trans k, (laid_cell k 1).trans (by simp [go_sem]), (laid_cell k 2).trans (by simp [go_sem])⟩
  have hD : Kept (w.alloc (.cells #[.bool neg, .slice ao n cap, .int .i64 x] 31)) (w.alloc (.cells #[.bool neg, .slice ao n cap, .int .i64 x] 31)).drew := (Kept.refl _).drew
  have hw : IntKind.i64.wrap (x + (B : Int)) = x + (B : Int) := by rw [wrap_i64]; omega
  go_enter Tryd.func72, Tryd.ntmps72
  go_wp2
  go_region_held (fun u => Kept w u ∧ u.cell? ⟨w.heap.size, 1, none⟩ = some (.slice ao n cap) ∧ u.cell? ⟨w.heap.size, 2, none⟩ = some (.int .i64 x)) (first | exact HS.out _ hD | assumption) (first | (go_at_call 76; refine (KL.out _ hK.drew).mono ?_; rintro e u1 ⟨rfl, rfl⟩))
  go_wp2
  go_ret
  exact ⟨rfl, hK.drew⟩

/-! ### What two columns' sum tells -/
theorem nv_replicate (n : Nat) : cv (List.replicate n 0) = 0 := by
  induction n with
  | zero => rfl
  | succ n ih => simp [List.replicate_succ, cv, ih]
theorem pow_add_int (a b : Nat) : (2 : Int) ^ (a + b) = 2 ^ a * 2 ^ b := Int.pow_add 2 a b
theorem sg_mul (neg : Bool) (a b : Int) : b * sg neg a = sg neg (b * a) := by cases neg <;> simp [sg, Int.mul_neg]
theorem sg_abs (neg : Bool) (a B : Int) (h0 : 0 ≤ a) (h1 : a < B) : -B < sg neg a ∧ sg neg a < B := by cases neg <;> simp [sg] <;> omega

/-- The digits that carry leaves, once or twice: the sum's size. -/
theorem carried (C : List Int) (T : Int) (hT : cv C = T) (h1 : -(2 : Int) ^ (30 * C.length) < T) (h2 : T < (2 : Int) ^ (30 * C.length)) :
    (decide ((cr 1 0 C).2 < 0) = decide (T < 0)) ∧ (¬ T < 0 → nv (cr 1 0 C).1 = T.natAbs) ∧ (T < 0 → nv (cr (-1) 0 (cr 1 0 C).1).1 = T.natAbs) := by
  have a1 := cr_val 1 0 C
  have a2 := cr_dg 1 0 C
  have a3 := cr_length 1 0 C
  have a4 := nv_lt _ a2
  have b1 := cr_val (-1) 0 (cr 1 0 C).1
  have b2 := cr_dg (-1) 0 (cr 1 0 C).1
  have b3 := cr_length (-1) 0 (cr 1 0 C).1
  have b4 := nv_lt _ b2
  rw [cv_nv _ a2, hT] at a1
  rw [cv_nv _ b2, cv_nv _ a2] at b1
  rw [a3] at a4 b1 b3
  rw [b3] at b4
  generalize nv (cr 1 0 C).1 = D1 at *
  generalize nv (cr (-1) 0 (cr 1 0 C).1).1 = D2 at *
  generalize (cr 1 0 C).2 = o at *
  generalize (cr (-1) 0 (cr 1 0 C).1).2 = o2 at *
  have e : ((2 ^ (30 * C.length) : Nat) : Int) = (2 : Int) ^ (30 * C.length) := by rw [Int.natCast_pow]; rfl
  have a5 : (D1 : Int) < (2 : Int) ^ (30 * C.length) := by rw [← e]; omega
  have b5 : (D2 : Int) < (2 : Int) ^ (30 * C.length) := by rw [← e]; omega
  have hp : (0 : Int) < (2 : Int) ^ (30 * C.length) := Int.pow_pos (by decide)
  generalize (2 : Int) ^ (30 * C.length) = P at *
  clear e a4 b4
  have ho : ∀ k : Int, ((k ≤ -2 → k * P ≤ -2 * P) ∧ (1 ≤ k → P ≤ k * P)) := fun k => ⟨fun h => Int.mul_le_mul_of_nonneg_right h (by omega), fun h => by have := Int.mul_le_mul_of_nonneg_right h (show 0 ≤ P by omega); omega⟩
  have o1 := ho o
  have o3 := ho o2
  have hcase : o = 0 ∨ o = -1 := by
    rcases Int.lt_trichotomy o 0 with h | h | h
    · by_cases h' : o ≤ -2
      · have := o1.1 h'; omega
      · omega
    · exact .inl h
    · have := o1.2 (by omega); omega
  rcases hcase with rfl | rfl
  · refine ⟨by simp; omega, fun h => by omega, fun h => by omega⟩
  · have hcase2 : o2 = 0 ∨ o2 = -1 := by
      rcases Int.lt_trichotomy o2 0 with h | h | h
      · by_cases h' : o2 ≤ -2
        · have := o3.1 h'; omega
        · omega
      · exact .inl h
      · have := o3.2 (by omega); omega
    refine ⟨by simp; omega, fun h => by omega, fun h => ?_⟩
    rcases hcase2 with rfl | rfl <;> omega
end Go.Proofs.YtkmengfmiamdaaaDoor
