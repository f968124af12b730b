/- Package optim: a step by the plain rule of small whole numbers, width 64. -/
import Derived.Test.YtojhhimmfnccjaaO12
import Derived.Test.YtojhhimmfnccjaaO8
import Derived.Test.YtojhhimmfnccjaaO10
namespace Go.Proofs.Ytojhhimmfnccjaa
open Go.ChangeShapes Go.WideShapes Go.ChangeAt Go.RowKit Ieee
set_option linter.unusedVariables false
set_option linter.unusedSimpArgs false

theorem isInf_no64 (x : Nat) (h : (FloatKind.f64.format.order (bits .andNot .u64 (x : Int) 9223372036854775808).toNat 9218868437227405311 == some .gt) = false) (w : World) : Calls Try.prog 56 #[.float .f64 x, .int .i64 0] w fun e w' => e = .returned (.bool false) ∧ w = w' :=
  isInf_any x _ false (fun u => mAbs_any x _ rfl u) h w
set_option maxHeartbeats 4000000 in
set_option maxRecDepth 100000 in
theorem stepP_64 (s : Nat) (hs : s < 9) (l : Nat) (h1 : 1 ≤ l) (h2 : l ≤ 4096) (x y : Nat → Int) (hx : ∀ i, i < l → (x i).natAbs < 1000) (hy : ∀ i, i < l → (y i).natAbs < 1000) (Lw Lg : List Int) (hLw : Lw.length = l) (hLg : Lg.length = l)
    (eW : ∀ i, i < l → Lw.getD i 0 = of64 (floatOfInt .f64 (x i))) (eG : ∀ i, i < l → Lg.getD i 0 = of64 (floatOfInt .f64 (y i * 2 ^ s))) (ga ca gb cb : Nat) (w : World) (oa : Own w ga ca Lw) (ob : Own w gb cb Lg) :
    Calls Try.prog 6 #[z7, .int .i64 (rt 64 s), .agg #[.int .i64 ((1 : Nat) : Int), .int .i64 (l : Int), .int .i64 64, .slice (some ⟨ga, 0, none⟩) l ca], .agg #[.int .i64 ((1 : Nat) : Int), .int .i64 (l : Int), .int .i64 64, .slice (some ⟨gb, 0, none⟩) l cb], .slice none 0 0] w fun e w' => ∃ g, e = .returned (.tuple #[.agg #[.int .i64 ((1 : Nat) : Int), .int .i64 (l : Int), .int .i64 64, .slice (some ⟨g, 0, none⟩) l l], .slice none 0 0, .int .i64 0, .int .i64 0]) ∧ w.heap.size ≤ g ∧ Own w' g l (stl l (fun i => of64 (floatOfInt .f64 (x i - y i))) l) ∧ Kept w w' := by
  have hn : (64 : Int) = 64 ∨ (64 : Int) = 32 := by decide
  have hzs : ∀ i, i < l → (y i * 2 ^ s).natAbs < 1048576 := fun i hi => by
    rw [Int.natAbs_mul, Int.natAbs_pow]
    have a1 : (2 : Int).natAbs ^ s ≤ 256 := by
      have : 2 ^ s ≤ 2 ^ 8 := Nat.pow_le_pow_right (by decide) (by omega)
      exact this
    have := Nat.mul_le_mul (Nat.le_of_lt (hy i hi)) a1
    omega
  have vW : ∀ i, i < Lw.length → val (Lw.getD i 0) 64 = true ∧ cls (Lw.getD i 0) 64 < 3 := fun i hi => by
    rw [eW i (by omega)]
    obtain ⟨g1, g2, g3, g4⟩ := gw64 (x i) (by have := hx i (by omega); omega)
    exact ⟨by unfold val; simp, g2⟩
  have vG : ∀ i, i < Lg.length → val (Lg.getD i 0) 64 = true ∧ cls (Lg.getD i 0) 64 < 3 := fun i hi => by
    rw [eG i (by omega)]
    obtain ⟨g1, g2, g3, g4⟩ := gw64 (y i * 2 ^ s) (hzs i (by omega))
    exact ⟨by unfold val; simp, g2⟩
  have cW := ckM_all l 64 hn h1 h2 Lw hLw (fun i hi => (vW i hi).1)
  have cG := ckM_all l 64 hn h1 h2 Lg hLg (fun i hi => (vG i hi).1)
  have kS : ckS ((1 : Nat) : Int) (l : Int) 64 = 0 := ckS_one hn (by omega) (by omega) (by omega)
  have FW : ∀ u, Kept w u → Calls Try.prog 22 #[.agg #[.int .i64 ((1 : Nat) : Int), .int .i64 (l : Int), .int .i64 64, .slice (some ⟨ga, 0, none⟩) l ca]] u fun e w' => e = .returned (.tuple #[.int .i64 0, .int .i64 0]) ∧ Kept u w' := fun u k => by
    have o := oa.kept k
    have := finite_ok ((1 : Nat) : Int) (l : Int) 64 ga 0 ca Lw cW (by omega) u o.lt o.reads o.sl
    rw [stp_all 64 Lw (fun i hi => (vW i hi).2), hLw] at this
    exact this
  have FG : ∀ u, Kept w u → Calls Try.prog 22 #[.agg #[.int .i64 ((1 : Nat) : Int), .int .i64 (l : Int), .int .i64 64, .slice (some ⟨gb, 0, none⟩) l cb]] u fun e w' => e = .returned (.tuple #[.int .i64 0, .int .i64 0]) ∧ Kept u w' := fun u k => by
    have o := ob.kept k
    have := finite_ok ((1 : Nat) : Int) (l : Int) 64 gb 0 cb Lg cG (by omega) u o.lt o.reads o.sl
    rw [stp_all 64 Lg (fun i hi => (vG i hi).2), hLg] at this
    exact this
  have CG : ∀ u, Kept w u → Calls Try.prog 45 #[.agg #[.int .i64 ((1 : Nat) : Int), .int .i64 (l : Int), .int .i64 64, .slice (some ⟨gb, 0, none⟩) l cb]] u fun e w' => e = .returned (.int .i64 0) ∧ Kept u w' := fun u k => by
    have o := (ob.kept k).sl
    rw [hLg] at o
    have := check_any ((1 : Nat) : Int) (l : Int) 64 (some ⟨gb, 0, none⟩) cb Lg u (by rw [hLg]; exact o)
    rw [cG, hLg] at this
    exact this
  refine step_64 (rt 64 s) ((1 : Nat) : Int) (l : Int) 64 (by decide) l ca cb _ _ _ w (fun u k => ?_) (fun u k => ?_)
  · exact stepCheck_0 (rt 64 s) (rt 64 s) _ _ 64 _ _ l ca cb u (fun v kv => checkParameter_0 _ _ 64 _ l ca v (fun v' kv' => FW v' ((k.trans kv).trans kv')) (fun v' => check_z 64 hn v')) (fun v => size_r64 s hs v) (fun v kv => FG v (k.trans kv)) (fun v kv => fits_ok _ _ 64 _ l cb v (fun v' kv' => CG v' ((k.trans kv).trans kv')))
  · have oa' := oa.kept k
    have ob' := ob.kept k
    have hpt : ∀ s : Nat, s < 9 → pat64 (rt 64 s) = (1023 - s) * 4503599627370496 := by decide +kernel
    refine learn_64 (rt 64 s) 64 1 l l ga 0 ca gb 0 cb Lw Lg hLw hLg h1 h2 ((1023 - s) * 4503599627370496) (fun i => floatOfInt .f64 (y i)) (fun i => floatOfInt .f64 (x i - y i)) u oa'.reads ob'.reads oa'.lt ob'.lt (fun v => ?_) (fun v => ?_) (fun i hi => ?_) (fun i hi => ?_) (fun i fg v hi => ?_)
    · exact noughts_ok 1 l 64 hn kS l (by omega) h2 _ _ _ v
    · refine pace_64 (rt 64 s) (rt 64 s) _ _ 64 l _ _ _ _ _ v (fun b y' v' h => ?_) (fun y' f v' h => ?_)
      · rcases h with ⟨rfl, rfl⟩ | ⟨rfl, rfl⟩
        · exact size_0 64 hn v'
        · exact size_r64 s hs v'
      · rcases h with ⟨rfl, rfl⟩ | ⟨rfl, rfl⟩
        · have := float_any 0 v'
          rw [show pat64 0 = 0 by decide +kernel] at this
          exact this
        · have := float_any (rt 64 s) v'
          rw [hpt s hs] at this
          exact this
    · rw [eG i hi, (gw64 _ (hzs i hi)).1]
      exact mul64 s hs (y i) (hy i hi)
    · rw [eW i hi, (gw64 _ (by have := hx i hi; omega)).1]
      have a1 := hx i hi
      have a2 := hy i hi
      exact sub64 (x i) (y i) (by omega) (by omega)
    · have a1 := hx i hi
      have a2 := hy i hi
      have hz : (x i - y i).natAbs < 2000 := by omega
      obtain ⟨c1, c2, -⟩ := gr64_facts (x i - y i) hz
      exact fault_64 _ fg c1 v (fun q v' h => by
        rcases h with rfl | rfl
        · exact isInf_no64 0 (by decide +kernel) v'
        · exact isInf_no64 _ c2 v')
end Go.Proofs.Ytojhhimmfnccjaa
