/- exact.Root of any valid number that is not below 0. -/
import Derived.Test.YtbffekcjdcihpaaDoorRG4
import Derived.Test.YtbffekcjdcihpaaDoorPe
namespace Go.Proofs.YtbffekcjdcihpaaDoor
open Go.ChangeShapes Go.WideShapes Go.ChangeAt Go.RowKit
set_option linter.unusedVariables false
set_option linter.unusedSimpArgs false

theorem flo_bounds (v B : Nat) (t : Int) (h1 : 2 ^ (B - 1) ≤ v) (h2 : v < 2 ^ B) (hB : 0 < B) (ht : 0 ≤ (B : Int) - 1 + t) : 2 ^ ((B : Int) - 1 + t).toNat ≤ flo v t ∧ flo v t < 2 ^ ((B : Int) + t).toNat := by
  unfold flo
  split
  · rw [show ((B : Int) - 1 + t).toNat = (B - 1) + t.toNat by omega, show ((B : Int) + t).toNat = B + t.toNat by omega, Nat.pow_add, Nat.pow_add]
    exact ⟨Nat.mul_le_mul_right _ h1, Nat.mul_lt_mul_of_pos_right h2 (Nat.two_pow_pos _)⟩
  · constructor
    · rw [Nat.le_div_iff_mul_le (Nat.two_pow_pos _), ← Nat.pow_add]
      exact Nat.le_trans (Nat.pow_le_pow_right (by decide) (by omega)) h1
    · rw [Nat.div_lt_iff_lt_mul (Nat.two_pow_pos _), ← Nat.pow_add]
      exact Nat.lt_of_lt_of_le h2 (Nat.pow_le_pow_right (by decide) (by omega))
def rfst (r : Nm) : Int := r.exp + (bl (nv r.mag) : Int) - 1 - (r.exp + (bl (nv r.mag) : Int) - 1) % 2
def rlast (r : Nm) : Int := rfst r - 110
structure Rtl (r : Nm) (h l : Nat) (rs : Bool) : Prop where
  rt : Rtz (flo (nv r.mag) (r.exp - rlast r)) h l
  low : 2 ^ (56 - 1) ≤ h
  high : h < 2 ^ 56
  rs : rs = (decide (l ≠ 0) || decide (r.exp < rlast r))
  even : rlast r % 2 = 0
theorem rtz_ex (A : Nat) : ∃ h l, Rtz A h l := by
  induction A using Nat.strongRecOn with
  | ind A ih =>
    by_cases h0 : A = 0
    · subst h0; exact ⟨0, 0, Rtz.zero⟩
    · obtain ⟨h, l, hR⟩ := ih (A / 4) (by omega)
      obtain ⟨s1, s2⟩ := hR.step A rfl
      by_cases hh : 4 * h + 1 ≤ 4 * l + A % 4
      · exact ⟨_, _, s1 hh⟩
      · exact ⟨_, _, s2 hh⟩
theorem rtz_uniq {A h l h' l' : Nat} (a : Rtz A h l) (b : Rtz A h' l') : h = h' ∧ l = l' := by
  obtain ⟨a1, a2⟩ := a.lt
  obtain ⟨b1, b2⟩ := b.lt
  have c1 := sq_lt (Nat.lt_of_le_of_lt a1 b2)
  have c2 := sq_lt (Nat.lt_of_le_of_lt b1 a2)
  have e : h = h' := by omega
  subst e
  have := a.eq
  have := b.eq
  exact ⟨rfl, by omega⟩
theorem rtl_of (r : Nm) (hv : vld r = true) (hne : r.mag ≠ []) : ∃ h l, Rtl r h l (decide (l ≠ 0) || decide (r.exp < rlast r)) := by
  have h0 := nv_ne r hv hne
  obtain ⟨b1, b2, b3⟩ := bl_pos (nv r.mag) h0
  obtain ⟨h, l, hR⟩ := rtz_ex (flo (nv r.mag) (r.exp - rlast r))
  obtain ⟨f, hf⟩ : ∃ f, rlast r = f - 110 := ⟨rfst r, rfl⟩
  have hf2 := hf
  unfold rlast rfst at hf2
  rw [hf] at hR
  have hA := flo_bounds (nv r.mag) (bl (nv r.mag)) (r.exp - (f - 110)) b1 b2 b3 (by omega)
  obtain ⟨q1, q2⟩ := hR.lt
  have hlow : 2 ^ 55 * 2 ^ 55 < (h + 1) * (h + 1) := by
    rw [← Nat.pow_add]
    refine Nat.lt_of_le_of_lt ?_ q2
    exact Nat.le_trans (Nat.pow_le_pow_right (by decide) (by omega)) hA.1
  have hhigh : h * h < 2 ^ 56 * 2 ^ 56 := by
    rw [← Nat.pow_add]
    refine Nat.lt_of_le_of_lt q1 (Nat.lt_of_lt_of_le hA.2 ?_)
    exact Nat.pow_le_pow_right (by decide) (by omega)
  have g1 := sq_lt hlow
  have g2 := sq_lt hhigh
  exact ⟨h, l, ⟨by rw [hf]; exact hR, by rw [show 56 - 1 = 55 by rfl]; omega, g2, rfl, by omega⟩⟩
theorem root_any (r : Nm) (hv : vld r = true) (hne : r.mag ≠ []) (h l : Nat) (rs : Bool) (H : Rtl r h l rs) (ao : Option Addr) (c : Nat) (w : World) (hS : Sl w (.slice ao r.mag.length c) r.mag) : Calls Tryd.prog 36 #[.agg #[.bool r.neg, .slice ao r.mag.length c, .int .i64 r.exp]] w fun e w' => e = .returned (.agg #[.bool false, .int .i64 (h : Int), .int .i64 (rlast r / 2), .bool rs]) ∧ Kept w w' := by
  obtain ⟨p1, p2, p3, p4, p5, p6⟩ := vld_some r.neg r.mag r.exp hne hv
  have h0 := nv_ne r hv hne
  have hbl := bl_le _ _ (nv_lt r.mag p2)
  obtain ⟨b1, b2, b3⟩ := bl_pos (nv r.mag) h0
  obtain ⟨f, hf⟩ : ∃ f, rfst r = f := ⟨_, rfl⟩
  have hf2 := hf
  unfold rfst at hf2
  have hla : rlast r = f - 110 := by unfold rlast; rw [hf]
  have hpos := List.length_pos_iff.2 hne
  have HV : Hid (flo (nv r.mag) (r.exp - f - 2) = 0) := by
    show flo (nv r.mag) (r.exp - f - 2) = 0
    unfold flo
    rw [if_neg (by omega)]
    exact Nat.div_eq_of_lt (Nat.lt_of_lt_of_le b2 (Nat.pow_le_pow_right (by decide) (by omega)))
  refine (root_walk r.neg ao r.mag.length c hpos r.exp (r.exp + (bl (nv r.mag) : Int)) f (nv r.mag) p5 p6 (by omega) (by omega) (by rw [andNot_1 _ (by omega) (by omega)]; omega) (by omega) (by omega) w HV (fun u k => top_any r.neg r.mag ⟨p2, fun _ => p3⟩ (by omega) ao c r.exp p5 p6 u (hS.kept k)) (fun u p k g1 g2 => piece_any r.mag p2 _ p g1 g2 u (hS.kept k))).mono ?_
  rintro e w' ⟨h', l', rfl, hR, hk⟩
  rw [← hla] at hR
  obtain ⟨rfl, rfl⟩ := rtz_uniq H.rt hR
  have he := H.even
  rw [hla] at he
  have : (f - 110).tdiv 2 = (f - 110) / 2 := Int.tdiv_eq_ediv_of_dvd (by omega)
  rw [this, ← hla, ← H.rs]
  exact ⟨rfl, hk⟩
theorem root_nil (ng : Bool) (ao : Option Addr) (c : Nat) (x : Int) (w : World) : Calls Tryd.prog 36 #[.agg #[.bool ng, .slice ao 0 c, .int .i64 x]] w fun e w' => e = .returned (.agg #[.bool false, .int .i64 0, .int .i64 0, .bool false]) ∧ Kept w w' := by
  have hK : Kept w ((w.alloc (.cells #[.bool ng, .slice ao 0 c, .int .i64 x] 24)).alloc (.cells #[.bool false, .int .i64 0, .int .i64 0, .bool false] 65)) := ((Kept.refl w).alloc _ _).alloc _ _
  go_enter Tryd.func36, Tryd.ntmps36
  go_wp2
  refine bodyPost_ret (v := .agg #[.bool false, .int .i64 0, .int .i64 0, .bool false]) (by simp [results, Tryd.results36, go_sem]) rfl ⟨rfl, ?_⟩
  exact hK
set_option maxHeartbeats 2000000 in
set_option maxRecDepth 100000 in
theorem xroot_1 (n pr le fi : Int) (ao : Option Addr) (l c : Nat) (x res : Int) (ox : Bool) (ld : Array Value) (l0 l1 l2 l3 : Value) (w : World)
    (KR : Hid (∀ u, Kept ((w.alloc (.cells #[.bool false, .slice ao l c, .int .i64 x] 24)).alloc (.cells #[.bool false, .slice ao l c, .int .i64 x] 24)) u → Calls Tryd.prog 29 #[.int .i64 n, .int .i64 0, .slice (some ⟨w.heap.size + 1, 0, none⟩) 1 1] u fun e w' => e = .returned (.tuple #[.agg #[.int .i64 n, .int .i64 pr, .int .i64 le, .int .i64 fi, .func (.func 69) #[] #[]], .int .i64 0]) ∧ Kept u w'))
    (KD : Hid (∀ u, Kept w u → Calls Tryd.prog 36 #[.agg #[.bool false, .slice ao l c, .int .i64 x]] u fun e w' => e = .returned (.agg #[l0, l1, l2, l3]) ∧ Kept u w'))
    (KO : Hid (∀ u, Kept w u → Calls Tryd.prog 31 #[.agg #[.int .i64 n, .int .i64 pr, .int .i64 le, .int .i64 fi, .func (.func 69) #[] #[]], .agg #[l0, l1, l2, l3]] u fun e w' => e = .returned (.tuple #[.int .i64 res, .bool ox]) ∧ Kept u w')) :
    Calls Tryd.prog 13 #[.agg #[.bool false, .slice ao l c, .int .i64 x], .int .i64 n, .int .i64 0] w fun e w' => e = .returned (.tuple #[.int .i64 res, .bool ox, .int .i64 0]) ∧ Kept w w' := by
  have hK : Kept w ((w.alloc (.cells #[.bool false, .slice ao l c, .int .i64 x] 24)).alloc (.cells #[.bool false, .slice ao l c, .int .i64 x] 24)) := ((Kept.refl w).alloc _ _).alloc _ _
  go_enter Tryd.func13, Tryd.ntmps13
  go_wp2_with fail
  refine (KR.out _ (Kept.refl _)).mono ?_
  rintro e w1 ⟨rfl, k1⟩
  have k1' := k1.alloc #[.int .i64 n, .int .i64 pr, .int .i64 le, .int .i64 fi, .func (.func 69) #[] #[]] 59
  have hs1 := k1.below.size
  simp only [World.size_alloc] at hs1
  have kX : Kept (w.alloc (.cells #[.bool false, .slice ao l c, .int .i64 x] 24)) (w1.alloc (.cells #[.int .i64 n, .int .i64 pr, .int .i64 le, .int .i64 fi, .func (.func 69) #[] #[]] 59)) := ((Kept.refl _).alloc _ _).trans k1'
  have HS : Hid (∀ u, Kept (w1.alloc (.cells #[.int .i64 n, .int .i64 pr, .int .i64 le, .int .i64 fi, .func (.func 69) #[] #[]] 59)) u → (u.cell? ⟨w1.heap.size, 0, none⟩ = some (.int .i64 n) ∧ u.cell? ⟨w1.heap.size, 1, none⟩ = some (.int .i64 pr) ∧ u.cell? ⟨w1.heap.size, 2, none⟩ = some (.int .i64 le) ∧ u.cell? ⟨w1.heap.size, 3, none⟩ = some (.int .i64 fi) ∧ u.cell? ⟨w1.heap.size, 4, none⟩ = some (.func (.func 69) #[] #[])) ∧ u.cell? ⟨w.heap.size, 0, none⟩ = some (.bool false) ∧ u.cell? ⟨w.heap.size, 1, none⟩ = some (.slice ao l c) ∧ u.cell? ⟨w.heap.size, 2, none⟩ = some (.int .i64 x)) := fun u k => ⟨⟨(laid_cell k 0).trans (by simp [go_sem]), (laid_cell k 1).trans (by simp [go_sem]), (laid_cell k 2).trans (by simp [go_sem]), (laid_cell k 3).trans (by simp [go_sem]), (laid_cell k 4).trans (by simp [go_sem])⟩, (laid_cell (kX.trans k) 0).trans (by simp [go_sem]), (laid_cell (kX.trans k) 1).trans (by simp [go_sem]), (laid_cell (kX.trans k) 2).trans (by simp [go_sem])⟩
  have kD : Kept (w1.alloc (.cells #[.int .i64 n, .int .i64 pr, .int .i64 le, .int .i64 fi, .func (.func 69) #[] #[]] 59)) (w1.alloc (.cells #[.int .i64 n, .int .i64 pr, .int .i64 le, .int .i64 fi, .func (.func 69) #[] #[]] 59)).drew := (Kept.refl _).drew
  obtain ⟨⟨s0, s1, s2, s3, s4⟩, t0, t1, t2⟩ := HS.out _ (Kept.refl _)
  go_wp2_with fail
  clear s0 s1 s2 s3 s4 t0 t1 t2
  go_region_held (fun u => (u.cell? ⟨w1.heap.size, 0, none⟩ = some (.int .i64 n) ∧ u.cell? ⟨w1.heap.size, 1, none⟩ = some (.int .i64 pr) ∧ u.cell? ⟨w1.heap.size, 2, none⟩ = some (.int .i64 le) ∧ u.cell? ⟨w1.heap.size, 3, none⟩ = some (.int .i64 fi) ∧ u.cell? ⟨w1.heap.size, 4, none⟩ = some (.func (.func 69) #[] #[])) ∧ u.cell? ⟨w.heap.size, 0, none⟩ = some (.bool false) ∧ u.cell? ⟨w.heap.size, 1, none⟩ = some (.slice ao l c) ∧ u.cell? ⟨w.heap.size, 2, none⟩ = some (.int .i64 x)) (first | exact HS.out _ kD | assumption) (first | (go_at_call 36; refine (KD.out _ (hK.trans (k1'.trans kD))).mono ?_; rintro e w2 ⟨rfl, k2⟩; have e0 := HS.out _ (kD.trans k2)) | (go_at_call 31; refine (KO.out _ (hK.trans (k1'.trans (kD.trans k2)))).mono ?_; rintro e w3 ⟨rfl, k3⟩; have e0 := HS.out _ (kD.trans (k2.trans k3))))
  all_goals
    go_wp2_with fail
    exact bodyPost_ret (v := .tuple #[.int .i64 res, .bool ox, .int .i64 0]) (by simp [results, Tryd.results13, go_sem]) rfl ⟨rfl, hK.trans (k1'.trans (kD.trans (k2.trans k3)))⟩
set_option maxHeartbeats 2000000 in
set_option maxRecDepth 100000 in
theorem xroot_2 (n pr le fi : Int) (ao : Option Addr) (l c : Nat) (x res : Int) (ox : Bool) (ld : Array Value) (l0 l1 l2 l3 : Value) (w : World)
    (KR : Hid (∀ u, Kept ((w.alloc (.cells #[.bool false, .slice ao l c, .int .i64 x] 24)).alloc (.cells #[.bool false, .slice ao l c, .int .i64 x] 24)) u → Calls Tryd.prog 29 #[.int .i64 n, .int .i64 1, .slice (some ⟨w.heap.size + 1, 0, none⟩) 1 1] u fun e w' => e = .returned (.tuple #[.agg #[.int .i64 n, .int .i64 pr, .int .i64 le, .int .i64 fi, .func (.func 70) #[] #[]], .int .i64 0]) ∧ Kept u w'))
    (KD : Hid (∀ u, Kept w u → Calls Tryd.prog 36 #[.agg #[.bool false, .slice ao l c, .int .i64 x]] u fun e w' => e = .returned (.agg #[l0, l1, l2, l3]) ∧ Kept u w'))
    (KO : Hid (∀ u, Kept w u → Calls Tryd.prog 31 #[.agg #[.int .i64 n, .int .i64 pr, .int .i64 le, .int .i64 fi, .func (.func 70) #[] #[]], .agg #[l0, l1, l2, l3]] u fun e w' => e = .returned (.tuple #[.int .i64 res, .bool ox]) ∧ Kept u w')) :
    Calls Tryd.prog 13 #[.agg #[.bool false, .slice ao l c, .int .i64 x], .int .i64 n, .int .i64 1] w fun e w' => e = .returned (.tuple #[.int .i64 res, .bool ox, .int .i64 0]) ∧ Kept w w' := by
  have hK : Kept w ((w.alloc (.cells #[.bool false, .slice ao l c, .int .i64 x] 24)).alloc (.cells #[.bool false, .slice ao l c, .int .i64 x] 24)) := ((Kept.refl w).alloc _ _).alloc _ _
  go_enter Tryd.func13, Tryd.ntmps13
  go_wp2_with fail
  refine (KR.out _ (Kept.refl _)).mono ?_
  rintro e w1 ⟨rfl, k1⟩
  have k1' := k1.alloc #[.int .i64 n, .int .i64 pr, .int .i64 le, .int .i64 fi, .func (.func 70) #[] #[]] 59
  have hs1 := k1.below.size
  simp only [World.size_alloc] at hs1
  have kX : Kept (w.alloc (.cells #[.bool false, .slice ao l c, .int .i64 x] 24)) (w1.alloc (.cells #[.int .i64 n, .int .i64 pr, .int .i64 le, .int .i64 fi, .func (.func 70) #[] #[]] 59)) := ((Kept.refl _).alloc _ _).trans k1'
  have HS : Hid (∀ u, Kept (w1.alloc (.cells #[.int .i64 n, .int .i64 pr, .int .i64 le, .int .i64 fi, .func (.func 70) #[] #[]] 59)) u → (u.cell? ⟨w1.heap.size, 0, none⟩ = some (.int .i64 n) ∧ u.cell? ⟨w1.heap.size, 1, none⟩ = some (.int .i64 pr) ∧ u.cell? ⟨w1.heap.size, 2, none⟩ = some (.int .i64 le) ∧ u.cell? ⟨w1.heap.size, 3, none⟩ = some (.int .i64 fi) ∧ u.cell? ⟨w1.heap.size, 4, none⟩ = some (.func (.func 70) #[] #[])) ∧ u.cell? ⟨w.heap.size, 0, none⟩ = some (.bool false) ∧ u.cell? ⟨w.heap.size, 1, none⟩ = some (.slice ao l c) ∧ u.cell? ⟨w.heap.size, 2, none⟩ = some (.int .i64 x)) := fun u k => ⟨⟨(laid_cell k 0).trans (by simp [go_sem]), (laid_cell k 1).trans (by simp [go_sem]), (laid_cell k 2).trans (by simp [go_sem]), (laid_cell k 3).trans (by simp [go_sem]), (laid_cell k 4).trans (by simp [go_sem])⟩, (laid_cell (kX.trans k) 0).trans (by simp [go_sem]), (laid_cell (kX.trans k) 1).trans (by simp [go_sem]), (laid_cell (kX.trans k) 2).trans (by simp [go_sem])⟩
  have kD : Kept (w1.alloc (.cells #[.int .i64 n, .int .i64 pr, .int .i64 le, .int .i64 fi, .func (.func 70) #[] #[]] 59)) (w1.alloc (.cells #[.int .i64 n, .int .i64 pr, .int .i64 le, .int .i64 fi, .func (.func 70) #[] #[]] 59)).drew := (Kept.refl _).drew
  obtain ⟨⟨s0, s1, s2, s3, s4⟩, t0, t1, t2⟩ := HS.out _ (Kept.refl _)
  go_wp2_with fail
  clear s0 s1 s2 s3 s4 t0 t1 t2
  go_region_held (fun u => (u.cell? ⟨w1.heap.size, 0, none⟩ = some (.int .i64 n) ∧ u.cell? ⟨w1.heap.size, 1, none⟩ = some (.int .i64 pr) ∧ u.cell? ⟨w1.heap.size, 2, none⟩ = some (.int .i64 le) ∧ u.cell? ⟨w1.heap.size, 3, none⟩ = some (.int .i64 fi) ∧ u.cell? ⟨w1.heap.size, 4, none⟩ = some (.func (.func 70) #[] #[])) ∧ u.cell? ⟨w.heap.size, 0, none⟩ = some (.bool false) ∧ u.cell? ⟨w.heap.size, 1, none⟩ = some (.slice ao l c) ∧ u.cell? ⟨w.heap.size, 2, none⟩ = some (.int .i64 x)) (first | exact HS.out _ kD | assumption) (first | (go_at_call 36; refine (KD.out _ (hK.trans (k1'.trans kD))).mono ?_; rintro e w2 ⟨rfl, k2⟩; have e0 := HS.out _ (kD.trans k2)) | (go_at_call 31; refine (KO.out _ (hK.trans (k1'.trans (kD.trans k2)))).mono ?_; rintro e w3 ⟨rfl, k3⟩; have e0 := HS.out _ (kD.trans (k2.trans k3))))
  all_goals
    go_wp2_with fail
    exact bodyPost_ret (v := .tuple #[.int .i64 res, .bool ox, .int .i64 0]) (by simp [results, Tryd.results13, go_sem]) rfl ⟨rfl, hK.trans (k1'.trans (kD.trans (k2.trans k3)))⟩
set_option maxHeartbeats 2000000 in
set_option maxRecDepth 100000 in
theorem xroot_3 (n pr le fi : Int) (ao : Option Addr) (l c : Nat) (x res : Int) (ox : Bool) (ld : Array Value) (l0 l1 l2 l3 : Value) (w : World)
    (KR : Hid (∀ u, Kept ((w.alloc (.cells #[.bool false, .slice ao l c, .int .i64 x] 24)).alloc (.cells #[.bool false, .slice ao l c, .int .i64 x] 24)) u → Calls Tryd.prog 29 #[.int .i64 n, .int .i64 2, .slice (some ⟨w.heap.size + 1, 0, none⟩) 1 1] u fun e w' => e = .returned (.tuple #[.agg #[.int .i64 n, .int .i64 pr, .int .i64 le, .int .i64 fi, .func (.func 71) #[] #[]], .int .i64 0]) ∧ Kept u w'))
    (KD : Hid (∀ u, Kept w u → Calls Tryd.prog 36 #[.agg #[.bool false, .slice ao l c, .int .i64 x]] u fun e w' => e = .returned (.agg #[l0, l1, l2, l3]) ∧ Kept u w'))
    (KO : Hid (∀ u, Kept w u → Calls Tryd.prog 31 #[.agg #[.int .i64 n, .int .i64 pr, .int .i64 le, .int .i64 fi, .func (.func 71) #[] #[]], .agg #[l0, l1, l2, l3]] u fun e w' => e = .returned (.tuple #[.int .i64 res, .bool ox]) ∧ Kept u w')) :
    Calls Tryd.prog 13 #[.agg #[.bool false, .slice ao l c, .int .i64 x], .int .i64 n, .int .i64 2] w fun e w' => e = .returned (.tuple #[.int .i64 res, .bool ox, .int .i64 0]) ∧ Kept w w' := by
  have hK : Kept w ((w.alloc (.cells #[.bool false, .slice ao l c, .int .i64 x] 24)).alloc (.cells #[.bool false, .slice ao l c, .int .i64 x] 24)) := ((Kept.refl w).alloc _ _).alloc _ _
  go_enter Tryd.func13, Tryd.ntmps13
  go_wp2_with fail
  refine (KR.out _ (Kept.refl _)).mono ?_
  rintro e w1 ⟨rfl, k1⟩
  have k1' := k1.alloc #[.int .i64 n, .int .i64 pr, .int .i64 le, .int .i64 fi, .func (.func 71) #[] #[]] 59
  have hs1 := k1.below.size
  simp only [World.size_alloc] at hs1
  have kX : Kept (w.alloc (.cells #[.bool false, .slice ao l c, .int .i64 x] 24)) (w1.alloc (.cells #[.int .i64 n, .int .i64 pr, .int .i64 le, .int .i64 fi, .func (.func 71) #[] #[]] 59)) := ((Kept.refl _).alloc _ _).trans k1'
  have HS : Hid (∀ u, Kept (w1.alloc (.cells #[.int .i64 n, .int .i64 pr, .int .i64 le, .int .i64 fi, .func (.func 71) #[] #[]] 59)) u → (u.cell? ⟨w1.heap.size, 0, none⟩ = some (.int .i64 n) ∧ u.cell? ⟨w1.heap.size, 1, none⟩ = some (.int .i64 pr) ∧ u.cell? ⟨w1.heap.size, 2, none⟩ = some (.int .i64 le) ∧ u.cell? ⟨w1.heap.size, 3, none⟩ = some (.int .i64 fi) ∧ u.cell? ⟨w1.heap.size, 4, none⟩ = some (.func (.func 71) #[] #[])) ∧ u.cell? ⟨w.heap.size, 0, none⟩ = some (.bool false) ∧ u.cell? ⟨w.heap.size, 1, none⟩ = some (.slice ao l c) ∧ u.cell? ⟨w.heap.size, 2, none⟩ = some (.int .i64 x)) := fun u k => ⟨⟨(laid_cell k 0).trans (by simp [go_sem]), (laid_cell k 1).trans (by simp [go_sem]), (laid_cell k 2).trans (by simp [go_sem]), (laid_cell k 3).trans (by simp [go_sem]), (laid_cell k 4).trans (by simp [go_sem])⟩, (laid_cell (kX.trans k) 0).trans (by simp [go_sem]), (laid_cell (kX.trans k) 1).trans (by simp [go_sem]), (laid_cell (kX.trans k) 2).trans (by simp [go_sem])⟩
  have kD : Kept (w1.alloc (.cells #[.int .i64 n, .int .i64 pr, .int .i64 le, .int .i64 fi, .func (.func 71) #[] #[]] 59)) (w1.alloc (.cells #[.int .i64 n, .int .i64 pr, .int .i64 le, .int .i64 fi, .func (.func 71) #[] #[]] 59)).drew := (Kept.refl _).drew
  obtain ⟨⟨s0, s1, s2, s3, s4⟩, t0, t1, t2⟩ := HS.out _ (Kept.refl _)
  go_wp2_with fail
  clear s0 s1 s2 s3 s4 t0 t1 t2
  go_region_held (fun u => (u.cell? ⟨w1.heap.size, 0, none⟩ = some (.int .i64 n) ∧ u.cell? ⟨w1.heap.size, 1, none⟩ = some (.int .i64 pr) ∧ u.cell? ⟨w1.heap.size, 2, none⟩ = some (.int .i64 le) ∧ u.cell? ⟨w1.heap.size, 3, none⟩ = some (.int .i64 fi) ∧ u.cell? ⟨w1.heap.size, 4, none⟩ = some (.func (.func 71) #[] #[])) ∧ u.cell? ⟨w.heap.size, 0, none⟩ = some (.bool false) ∧ u.cell? ⟨w.heap.size, 1, none⟩ = some (.slice ao l c) ∧ u.cell? ⟨w.heap.size, 2, none⟩ = some (.int .i64 x)) (first | exact HS.out _ kD | assumption) (first | (go_at_call 36; refine (KD.out _ (hK.trans (k1'.trans kD))).mono ?_; rintro e w2 ⟨rfl, k2⟩; have e0 := HS.out _ (kD.trans k2)) | (go_at_call 31; refine (KO.out _ (hK.trans (k1'.trans (kD.trans k2)))).mono ?_; rintro e w3 ⟨rfl, k3⟩; have e0 := HS.out _ (kD.trans (k2.trans k3))))
  all_goals
    go_wp2_with fail
    exact bodyPost_ret (v := .tuple #[.int .i64 res, .bool ox, .int .i64 0]) (by simp [results, Tryd.results13, go_sem]) rfl ⟨rfl, hK.trans (k1'.trans (kD.trans (k2.trans k3)))⟩
end Go.Proofs.YtbffekcjdcihpaaDoor
