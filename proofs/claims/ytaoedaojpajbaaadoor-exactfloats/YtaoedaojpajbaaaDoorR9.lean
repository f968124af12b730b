/- The walk of ExactFloats. -/
import Derived.Test.YtaoedaojpajbaaaDoorR8
import Derived.Test.YtaoedaojpajbaaaDoorQ9
namespace Go.Proofs.YtaoedaojpajbaaaDoor
open Go.ChangeShapes Go.WideShapes Go.ChangeAt Go.RowKit
set_option linter.unusedVariables false
set_option linter.unusedSimpArgs false

theorem laid3f {w : World} {a b c : Value} {t : TypeId} {u : World} (k : Kept (w.alloc (.cells #[a, b, c] t)) u) : u.cell? ⟨w.heap.size, 0, none⟩ = some a ∧ u.cell? ⟨w.heap.size, 1, none⟩ = some b ∧ u.cell? ⟨w.heap.size, 2, none⟩ = some c :=
  ⟨(laid_cell k 0).trans (by simp [go_sem]), (laid_cell k 1).trans (by simp [go_sem]), (laid_cell k 2).trans (by simp [go_sem])⟩
theorem zero_at (w : World) : NumAt w zeroNum ⟨false, [], 0⟩ := ⟨_, rfl, none, 0, rfl, Nat.le_refl _, by simp [maxLen], fun h => absurd rfl h⟩

set_option maxHeartbeats 1000000 in
set_option maxRecDepth 100000 in
theorem floats_no (b n er : Int) (her : er = 3 ∨ er = 6) (w : World) (hT : Tab w) (KO : Hid (Calls Tryd.prog 23 #[.int .i64 b, .int .i64 n] w fun e w' => e = .returned (.tuple #[zeroNum, .int .i64 er]) ∧ Kept w w')) : Calls Tryd.prog 7 #[.int .i64 b, .int .i64 n] w fun e w' => e = .returned (.bool true) ∧ Kept w w' := by
  have KA : Hid (∀ u, Kept w u → Calls Tryd.prog 9 #[] u fun e w' => e = .returned (.bool true) ∧ Kept u w') := fun u k => alive_true u (hT.kept k)
  have KS : Hid (∀ u, Calls Tryd.prog 21 #[zeroNum, zeroNum] u fun e w' => e = .returned (.bool true) ∧ Kept u w') := fun u => sameNum_true ⟨false, [], 0⟩ (by simp) _ _ u (zero_at u) (zero_at u)
  rcases her with rfl | rfl
  all_goals
    go_enter Tryd.func7, Tryd.ntmps7
    go_wp2_with fail
    refine KO.out.mono ?_
    rintro e w1 ⟨rfl, k1⟩
    have k1' := k1.alloc #[.bool false, .slice none 0 0, .int .i64 0] 31
    go_wp2_with fail
    refine (KA.out _ k1').mono ?_
    rintro e w2 ⟨rfl, k2⟩
    obtain ⟨a0, a1, a2⟩ := laid3f k2
    go_wp2_with fail
    refine (KS.out _).mono ?_
    rintro e w3 ⟨rfl, k3⟩
    go_wp2_with fail
    go_ret
    exact ⟨rfl, k1'.trans (k2.trans k3)⟩

set_option maxHeartbeats 2000000 in
set_option maxRecDepth 100000 in
theorem floats_yes (b n cb cc cd : Int) (ng : Bool) (l : Nat) (L : List Int) (x : Int) (w : World) (hT : Tab w)
    (KO : Hid (Calls Tryd.prog 23 #[.int .i64 b, .int .i64 n] w fun e w' => ∃ ao c, e = .returned (.tuple #[.agg #[.bool ng, .slice ao l c, .int .i64 x], .int .i64 0]) ∧ Sl w' (.slice ao l c) L ∧ Kept w w'))
    (K0 : Hid (∀ u (ao : Option Addr) (c : Nat), Kept w u → Sl u (.slice ao l c) L → Calls Tryd.prog 24 #[.agg #[.bool ng, .slice ao l c, .int .i64 x], .int .i64 n, .int .i64 0] u fun e w' => e = .returned (.tuple #[.int .i64 cb, .bool false, .int .i64 0]) ∧ Kept u w'))
    (K1 : Hid (∀ u (ao : Option Addr) (c : Nat), Kept w u → Sl u (.slice ao l c) L → Calls Tryd.prog 24 #[.agg #[.bool ng, .slice ao l c, .int .i64 x], .int .i64 n, .int .i64 1] u fun e w' => e = .returned (.tuple #[.int .i64 cb, .bool false, .int .i64 0]) ∧ Kept u w'))
    (K2 : Hid (∀ u (ao : Option Addr) (c : Nat), Kept w u → Sl u (.slice ao l c) L → Calls Tryd.prog 24 #[.agg #[.bool ng, .slice ao l c, .int .i64 x], .int .i64 n, .int .i64 2] u fun e w' => e = .returned (.tuple #[.int .i64 cb, .bool false, .int .i64 0]) ∧ Kept u w'))
    (K4 : Hid (∀ u (ao : Option Addr) (c : Nat), Kept w u → Sl u (.slice ao l c) L → Calls Tryd.prog 24 #[.agg #[.bool ng, .slice ao l c, .int .i64 x], .int .i64 64, .int .i64 0] u fun e w' => e = .returned (.tuple #[.int .i64 cd, .bool false, .int .i64 0]) ∧ Kept u w'))
    (KC : Hid (∀ u, Calls Tryd.prog 25 #[.int .i64 b, .int .i64 n] u fun e w' => e = .returned (.int .i64 cb) ∧ Kept u w'))
    (KV : Hid (∀ u, Calls Tryd.prog 26 #[.int .i64 b, .int .i64 n, .int .i64 64] u fun e w' => e = .returned (.int .i64 cc) ∧ Kept u w'))
    (KD : Hid (∀ u, Calls Tryd.prog 25 #[.int .i64 cc, .int .i64 64] u fun e w' => e = .returned (.int .i64 cd) ∧ Kept u w')) :
    Calls Tryd.prog 7 #[.int .i64 b, .int .i64 n] w fun e w' => e = .returned (.bool true) ∧ Kept w w' := by
  have KA : Hid (∀ u, Kept w u → Calls Tryd.prog 9 #[] u fun e w' => e = .returned (.bool true) ∧ Kept u w') := fun u k => alive_true u (hT.kept k)
  have hcb : (cb != cb) = false := by simp
  have hcd : (cd == cd) = true := by simp
  go_enter Tryd.func7, Tryd.ntmps7
  go_wp2_with fail
  refine KO.out.mono ?_
  rintro e w1' ⟨ao, c, rfl, hS, k1⟩
  have HS : Hid (∀ u, Kept w1' u → Sl u (.slice ao l c) L) := fun u k => hS.kept k
  clear hS
  have kB : Kept w1' (w1'.alloc (.cells #[.bool ng, .slice ao l c, .int .i64 x] 31)) := (Kept.refl _).alloc _ _
  go_wp2_with fail
  refine (KA.out _ (k1.trans kB)).mono ?_
  rintro e w2 ⟨rfl, k2⟩
  obtain ⟨a0, a1, a2⟩ := laid3f k2
  go_wp2_with fail
  refine wp_loop_rounds 4 ?_
  rw [rounds_succ]
  go_wp2_with fail
  refine (K0.out _ ao c (k1.trans (kB.trans k2)) (HS.out _ (kB.trans k2))).mono ?_
  rintro e w3 ⟨rfl, k3⟩
  go_wp2_with fail
  refine (KC.out _).mono ?_
  rintro e w4 ⟨rfl, k4⟩
  have q4 := k2.trans (k3.trans k4)
  clear a0 a1 a2
  obtain ⟨a0, a1, a2⟩ := laid3f q4
  go_wp2_with fail
  rw [rounds_succ]
  go_wp2_with fail
  refine (K1.out _ ao c (k1.trans (kB.trans q4)) (HS.out _ (kB.trans q4))).mono ?_
  rintro e w5 ⟨rfl, k5⟩
  go_wp2_with fail
  refine (KC.out _).mono ?_
  rintro e w6 ⟨rfl, k6⟩
  have q6 := q4.trans (k5.trans k6)
  clear a0 a1 a2
  obtain ⟨a0, a1, a2⟩ := laid3f q6
  go_wp2_with fail
  rw [rounds_succ]
  go_wp2_with fail
  refine (K2.out _ ao c (k1.trans (kB.trans q6)) (HS.out _ (kB.trans q6))).mono ?_
  rintro e w7 ⟨rfl, k7⟩
  go_wp2_with fail
  refine (KC.out _).mono ?_
  rintro e w8 ⟨rfl, k8⟩
  have q8 := q6.trans (k7.trans k8)
  clear a0 a1 a2
  obtain ⟨a0, a1, a2⟩ := laid3f q8
  go_wp2_with fail
  rw [rounds_succ]
  go_wp2_with fail
  refine (K4.out _ ao c (k1.trans (kB.trans q8)) (HS.out _ (kB.trans q8))).mono ?_
  rintro e w9 ⟨rfl, k9⟩
  go_wp2_with fail
  refine (KV.out _).mono ?_
  rintro e w10 ⟨rfl, k10⟩
  go_wp2_with fail
  refine (KD.out _).mono ?_
  rintro e w11 ⟨rfl, k11⟩
  go_wp2_with fail
  go_ret
  exact ⟨rfl, k1.trans (kB.trans (q8.trans (k9.trans (k10.trans k11))))⟩

theorem exactFloats_true (b n : Int) (hb1 : -9223372036854775808 ≤ b) (hb2 : b ≤ 9223372036854775807) (w : World) (hT : Tab w) : Calls Tryd.prog 7 #[.int .i64 b, .int .i64 n] w fun e w' => e = .returned (.bool true) ∧ Kept w w' := by
  by_cases hn : n = 64 ∨ n = 32
  · by_cases hc : cls b n < 3
    · obtain ⟨c1, c2, c3, c4, c5⟩ := conv_facts b n hb1 hb2 hn hc
      refine floats_yes b n (can b n) (conv b n) (can (conv b n) 64) (ofN b n).neg (ofN b n).mag.length (ofN b n).mag (ofN b n).exp w hT ?_ (fun u ao c k h => roundF_1 b n hb1 hb2 hn hc ao c u (hT.kept k) h) (fun u ao c k h => roundF_2 b n hb1 hb2 hn hc ao c u (hT.kept k) h) (fun u ao c k h => roundF_3 b n hb1 hb2 hn hc ao c u (hT.kept k) h) (fun u ao c k h => ?_) (fun u => canon_any b n u) (fun u => convert_64 b n hb1 hb2 hn hc u) (fun u => canon_any _ 64 u)
      · refine (of_fin b n hb1 hb2 hn hc w hT).mono ?_
        rintro e w' ⟨v, rfl, hN, k⟩
        obtain ⟨s, rfl, hs⟩ := hN.numAt
        obtain ⟨ao, c, rfl, -⟩ := id hs
        exact ⟨ao, c, rfl, hs, k⟩
      · have := roundF_1 (conv b n) 64 c1 c2 (.inl rfl) c3 ao c u (hT.kept k)
        rw [c4] at this
        exact this h
    · exact floats_no b n 6 (.inr rfl) w hT (of_bits b n hb1 hb2 hn (by omega) w)
  · have h1 : ¬ n = 32 := fun h => hn (.inr h)
    have h2 : ¬ n = 64 := fun h => hn (.inl h)
    exact floats_no b n 3 (.inl rfl) w hT (of_width b n (by simpa using h1) (by simpa using h2) w)
end Go.Proofs.YtaoedaojpajbaaaDoor
