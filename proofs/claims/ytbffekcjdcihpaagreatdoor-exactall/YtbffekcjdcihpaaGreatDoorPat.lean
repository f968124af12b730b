/- The document's own root and Root. Where roundingOf refuses: a width, a way, a number that is none; Round, Quot, Root with it. -/
import Derived.Test.YtbffekcjdcihpaaGreatDoorPas
import Derived.Test.YtbffekcjdcihpaaGreatDoorC9
import Derived.Test.YtbffekcjdcihpaaGreatDoorPah
import Derived.Test.YtbffekcjdcihpaaGreatDoorD17
namespace Go.Proofs.YtbffekcjdcihpaaGreatDoor
open Go.ChangeShapes Go.WideShapes Go.ChangeAt Go.RowKit
set_option linter.unusedVariables false
set_option linter.unusedSimpArgs false
set_option maxHeartbeats 16000000
set_option maxRecDepth 100000
theorem tmod2 (z : Int) : z.tmod 2 = 0 ↔ z % 2 = 0 := by
 constructor
 ·intro h
  have := Int.dvd_of_tmod_eq_zero h
  omega
 ·intro h
  exact Int.tmod_eq_zero_of_dvd (by omega)
theorem rroot_any (k0 p k2 k3 k4 k5 k6 k7 k8 : Int) (hp : 0 ≤ p ∧ p ≤ 64) (V : Nat) (hV0 : V ≠ 0) (x : Int) (hx : -1048576 ≤ x ∧ x ≤ 1048576) (va : Value) (w : World) (hL : RL w va (digs V)) (la : (digs V).length ≤ 2000) (s0 s : Nat) (hs0 : (s0 : Int) = max 0 (2 * p + 4 - (bl V : Int))) (e : Int) (hs : ((x - s0) % 2 = 0 ∧ s = s0) ∨ ((x - s0) % 2 = 1 ∧ s = s0 + 1)) (he : x - s = 2 * e) : Calls Tryz.prog 119 #[.agg #[.int .i64 k0, .int .i64 p, .int .i64 k2, .int .i64 k3, .int .i64 k4, .int .i64 k5, .int .i64 k6, .int .i64 k7, .int .i64 k8], va, .int .i64 x] w fun e' w' => ∃ q r1, e' = .returned (.tuple #[r1, .int .i64 e, .bool (decide (V * 2 ^ s ≠ q * q))]) ∧ q * q ≤ V * 2 ^ s ∧ V * 2 ^ s < (q + 1) * (q + 1) ∧ RL w' r1 (digs q) ∧ Kept w w' := by
 have hTa : bl V ≤ 60000 := by
  have := bl_le V (30 * (digs V).length) (digs_lt V _ (Nat.le_refl _))
  omega
 have hs9 : s ≤ 300 := by omega
 have hAs : (digs (V * 2 ^ s)).length < 20000 := by
  have h1 := digs_lt V _ (Nat.le_refl (digs V).length)
  obtain ⟨z, hz⟩ : ∃ z : Nat, z = 30 := ⟨_, rfl⟩
  have h2 : 2 ^ s ≤ 2 ^ (30 * z) := Nat.pow_le_pow_right (by omega) (by omega)
  have h3 : V * 2 ^ s < 2 ^ (30 * ((digs V).length + z)) := by
   rw [Nat.mul_add, Nat.pow_add]
   exact Nat.mul_lt_mul_of_lt_of_le h1 h2 (Nat.two_pow_pos _)
  have := digs_length_le _ _ h3
  omega
 have KB : Hid (∀ v, Kept w v → Calls Tryz.prog 134 #[va] v fun e w' => e = .returned (.int .i64 (bl V : Int)) ∧ v = w') := fun v kv => natBits_any v V va (hL.kept kv) (by omega)
 have KSh : Hid (∀ v, Kept w v → Calls Tryz.prog 96 #[va, .int .i64 (s : Int)] v fun e w' => (∃ r, e = .returned r ∧ RL w' r (digs (V * 2 ^ s))) ∧ Kept v w') := fun v kv => by
  refine (natShl_any v V s va (hL.kept kv) (by omega) (by omega)).mono ?_
  rintro e w' ⟨⟨r, rfl, hr⟩, hk⟩
  exact ⟨⟨r, rfl, hr.rl⟩, hk⟩
 have KD : Hid (∀ v r, RL v r (digs (V * 2 ^ s)) → Calls Tryz.prog 138 #[r] v fun e w' => ∃ q r1 n2 a2 c2, e = .returned (.tuple #[r1, .slice a2 n2 c2]) ∧ q * q ≤ V * 2 ^ s ∧ V * 2 ^ s < (q + 1) * (q + 1) ∧ RL w' r1 (digs q) ∧ (decide (0 < n2) = decide (V * 2 ^ s ≠ q * q)) ∧ Kept v w') := fun v r hr => by
  refine (natRoot_any v _ r hr hAs).mono ?_
  rintro e w' ⟨q, r1, r2, rfl, g1, g2, h1, h2, h3⟩
  obtain ⟨ao, c, rfl, -⟩ := h2
  refine ⟨q, r1, _, ao, c, rfl, g1, g2, h1, ?_, h3⟩
  rw [len_pos]
  apply decide_eq_decide.2
  omega
 have hsl : ∃ sa sn sc, va = .slice sa sn sc := by
  obtain ⟨ao, c, h, -⟩ := hL
  exact ⟨ao, _, c, h⟩
 obtain ⟨aa, an, ac, rfl⟩ := hsl
 obtain ⟨X, hX⟩ : ∃ X, X = w.alloc (.cells #[.int .i64 k0, .int .i64 p, .int .i64 k2, .int .i64 k3, .int .i64 k4, .int .i64 k5, .int .i64 k6, .int .i64 k7, .int .i64 k8] 104) := ⟨_, rfl⟩
 have hK : Kept w X := by rw [hX]; exact (Kept.refl w).alloc _ _
 have HS : Hid (∀ u, Kept X u → Kept X u ∧ u.cell? ⟨w.heap.size, 1, none⟩ = some (.int .i64 p)) := fun u ku => by
  have hb0 : w.heap.size < X.heap.size := by rw [hX]; simp [go_sem]
  refine ⟨ku, (ku.below.cell (p := ⟨w.heap.size, 1, none⟩) hb0).trans ?_⟩
  rw [hX]
  simp [go_sem]
 have kd := (Kept.refl X).drew
 have hsm : max 0 (2 * p + 4 - (bl V : Int)) = (s0 : Int) := hs0.symm
 have q1 : IntKind.i64.wrap (2 * p) = 2 * p := by rw [wrap_i64]; omega
 have q2 : IntKind.i64.wrap (2 * p + 4) = 2 * p + 4 := by rw [wrap_i64]; omega
 have q3 : IntKind.i64.wrap (2 * p + 4 - (bl V : Int)) = 2 * p + 4 - (bl V : Int) := by rw [wrap_i64]; omega
 have q4 : IntKind.i64.wrap (x - (s0 : Int)) = x - s0 := by rw [wrap_i64]; omega
 have q5 : IntKind.i64.wrap (x - (s : Int)) = x - s := by rw [wrap_i64]; omega
 have q6 : IntKind.i64.wrap ((s0 : Int) + 1) = (s0 : Int) + 1 := by rw [wrap_i64]; omega
 clear hs0 hL hAs hV0
 go_enter Tryz.func119, Tryz.ntmps119
 go_upto_region 1 with fail
 rw [← hX]
 clear hX
 go_region_held (fun u => Kept X u ∧ u.cell? ⟨w.heap.size, 1, none⟩ = some (.int .i64 p)) (first | assumption | exact HS.out _ kd | exact HS.out _ (by assumption)) (first | (go_at_call 134; refine (KB.out _ (hK.trans (by first | exact kd | assumption))).mono ?_; rintro e w1 ⟨rfl, rfl⟩))
 clear q1 q2 q3 hsm KB HS
 rcases hs with ⟨h2, rfl⟩ | ⟨h2, hs2⟩
 ·have q7 : (x - (s : Int)).tmod 2 = 0 := (tmod2 _).2 h2
  have q8 : (x - (s : Int)).tdiv 2 = e := by rw [he]; exact Int.mul_tdiv_cancel_left e (by decide)
  have q9 : IntKind.i64.wrap e = e := by rw [wrap_i64]; omega
  clear he h2
  go_wp2_with (first | (go_at_call 96; refine (KSh.out _ (hK.trans (by first | exact kd | assumption))).mono ?_; rintro e w2 ⟨⟨r2, rfl, hr2⟩, k2⟩; replace kd := kd.trans k2) | (go_at_call 138; refine (KD.out _ _ hr2).mono ?_; rintro e w3 ⟨q, r3, n4, a4, c4, rfl, g1, g2, hr3, hr4, k3⟩; replace kd := kd.trans k3))
  exact bodyPost_ret (v := .tuple #[r3, .int .i64 e, .bool (decide (V * 2 ^ s ≠ q * q))]) (by simp [results, Tryz.results119, go_sem]) rfl ⟨q, r3, rfl, g1, g2, hr3, hK.trans kd⟩
 ·have q7 : ((x - (s0 : Int)).tmod 2 == 0) = false := by
   have := tmod2 (x - (s0 : Int))
   simp only [beq_eq_false_iff_ne, ne_eq]
   omega
  have hss : (s0 : Int) + 1 = (s : Int) := by omega
  rw [hss] at q6
  have q8 : (x - (s : Int)).tdiv 2 = e := by rw [he]; exact Int.mul_tdiv_cancel_left e (by decide)
  have q9 : IntKind.i64.wrap e = e := by rw [wrap_i64]; omega
  clear he h2 hs2
  go_wp2_with (first | (go_at_call 96; refine (KSh.out _ (hK.trans (by first | exact kd | assumption))).mono ?_; rintro e w2 ⟨⟨r2, rfl, hr2⟩, k2⟩; replace kd := kd.trans k2) | (go_at_call 138; refine (KD.out _ _ hr2).mono ?_; rintro e w3 ⟨q, r3, n4, a4, c4, rfl, g1, g2, hr3, hr4, k3⟩; replace kd := kd.trans k3))
  exact bodyPost_ret (v := .tuple #[r3, .int .i64 e, .bool (decide (V * 2 ^ s ≠ q * q))]) (by simp [results, Tryz.results119, go_sem]) rfl ⟨q, r3, rfl, g1, g2, hr3, hK.trans kd⟩
theorem rRoot_any (k0 p k2 k3 k4 k5 k6 k7 k8 : Int) (hp : 0 ≤ p ∧ p ≤ 64) (V : Nat) (hV0 : V ≠ 0) (ga : Bool) (x : Int) (hx : -1048576 ≤ x ∧ x ≤ 1048576) (va : Value) (w : World) (hL : RL w va (digs V)) (la : (digs V).length ≤ 2000) (s0 s : Nat) (hs0 : (s0 : Int) = max 0 (2 * p + 4 - (bl V : Int))) (e : Int) (hs : ((x - s0) % 2 = 0 ∧ s = s0) ∨ ((x - s0) % 2 = 1 ∧ s = s0 + 1)) (he : x - s = 2 * e) (q : Nat) (hq1 : q * q ≤ V * 2 ^ s) (hq2 : V * 2 ^ s < (q + 1) * (q + 1)) (way b0 b1 : Int) (od : Bool) (HC : Hid (∀ v r1, RL v r1 (digs q) → Calls Tryz.prog 117 #[.agg #[.int .i64 k0, .int .i64 p, .int .i64 k2, .int .i64 k3, .int .i64 k4, .int .i64 k5, .int .i64 k6, .int .i64 k7, .int .i64 k8], .bool false, r1, .int .i64 e, .bool (decide (V * 2 ^ s ≠ q * q)), .int .i64 way] v fun e w' => e = .returned (.tuple #[.int .i64 b0, .bool od]) ∧ Kept v w')) (HT : Hid (∀ v, Calls Tryz.prog 116 #[.agg #[.int .i64 k0, .int .i64 p, .int .i64 k2, .int .i64 k3, .int .i64 k4, .int .i64 k5, .int .i64 k6, .int .i64 k7, .int .i64 k8], .int .i64 b0, .bool od] v fun e w' => e = .returned (.tuple #[.int .i64 b1, .bool od]) ∧ Kept v w')) : Calls Tryz.prog 88 #[.agg #[.int .i64 k0, .int .i64 p, .int .i64 k2, .int .i64 k3, .int .i64 k4, .int .i64 k5, .int .i64 k6, .int .i64 k7, .int .i64 k8], .agg #[.bool ga, va, .int .i64 x], .int .i64 way] w fun e w' => e = .returned (.tuple #[.int .i64 b1, .bool od]) ∧ Kept w w' := by
 have KQ : Hid (∀ v, Kept w v → Calls Tryz.prog 119 #[.agg #[.int .i64 k0, .int .i64 p, .int .i64 k2, .int .i64 k3, .int .i64 k4, .int .i64 k5, .int .i64 k6, .int .i64 k7, .int .i64 k8], va, .int .i64 x] v fun e' w' => ∃ r1, e' = .returned (.tuple #[r1, .int .i64 e, .bool (decide (V * 2 ^ s ≠ q * q))]) ∧ RL w' r1 (digs q) ∧ Kept v w') := fun v kv => by
  refine (rroot_any k0 p k2 k3 k4 k5 k6 k7 k8 hp V hV0 x hx va v (hL.kept kv) la s0 s hs0 e hs he).mono ?_
  rintro e' w' ⟨q', r1, rfl, g1, g2, hr, hk⟩
  have a1 : q' < q + 1 := Decidable.byContradiction fun h => by
   have := Nat.mul_self_le_mul_self (Nat.not_lt.1 h); omega
  have a2 : q < q' + 1 := Decidable.byContradiction fun h => by
   have := Nat.mul_self_le_mul_self (Nat.not_lt.1 h); omega
  obtain rfl : q' = q := by omega
  exact ⟨r1, rfl, hr, hk⟩
 generalize decide (V * 2 ^ s ≠ q * q) = mo at *
 have hne : ¬ (digs V).length = 0 := fun h => hV0 (digs_len0 V h)
 obtain ⟨aa, ac, rfl, -⟩ := hL
 obtain ⟨an, han⟩ : ∃ an, (digs V).length = an := ⟨_, rfl⟩
 rw [han] at KQ hne ⊢
 obtain ⟨X, hX⟩ : ∃ X, X = (w.alloc (.cells #[.int .i64 k0, .int .i64 p, .int .i64 k2, .int .i64 k3, .int .i64 k4, .int .i64 k5, .int .i64 k6, .int .i64 k7, .int .i64 k8] 104)).alloc (.cells #[.bool ga, .slice aa an ac, .int .i64 x] 29) := ⟨_, rfl⟩
 have hK : Kept w X := by rw [hX]; exact ((Kept.refl w).alloc _ _).alloc _ _
 have HS : Hid (∀ u, Kept X u → Kept X u ∧ u.cell? ⟨w.heap.size, 0, none⟩ = some (.int .i64 k0) ∧ u.cell? ⟨w.heap.size, 1, none⟩ = some (.int .i64 p) ∧ u.cell? ⟨w.heap.size, 2, none⟩ = some (.int .i64 k2) ∧ u.cell? ⟨w.heap.size, 3, none⟩ = some (.int .i64 k3) ∧ u.cell? ⟨w.heap.size, 4, none⟩ = some (.int .i64 k4) ∧ u.cell? ⟨w.heap.size, 5, none⟩ = some (.int .i64 k5) ∧ u.cell? ⟨w.heap.size, 6, none⟩ = some (.int .i64 k6) ∧ u.cell? ⟨w.heap.size, 7, none⟩ = some (.int .i64 k7) ∧ u.cell? ⟨w.heap.size, 8, none⟩ = some (.int .i64 k8) ∧ u.cell? ⟨w.heap.size + 1, 0, none⟩ = some (.bool ga) ∧ u.cell? ⟨w.heap.size + 1, 1, none⟩ = some (.slice aa an ac) ∧ u.cell? ⟨w.heap.size + 1, 2, none⟩ = some (.int .i64 x)) := fun u ku => by
  have hb0 : w.heap.size < X.heap.size := by rw [hX]; simp [go_sem]
  have hb1 : w.heap.size + 1 < X.heap.size := by rw [hX]; simp [go_sem]
  refine ⟨ku, (ku.below.cell (p := ⟨w.heap.size, 0, none⟩) hb0).trans ?_, (ku.below.cell (p := ⟨w.heap.size, 1, none⟩) hb0).trans ?_, (ku.below.cell (p := ⟨w.heap.size, 2, none⟩) hb0).trans ?_, (ku.below.cell (p := ⟨w.heap.size, 3, none⟩) hb0).trans ?_, (ku.below.cell (p := ⟨w.heap.size, 4, none⟩) hb0).trans ?_, (ku.below.cell (p := ⟨w.heap.size, 5, none⟩) hb0).trans ?_, (ku.below.cell (p := ⟨w.heap.size, 6, none⟩) hb0).trans ?_, (ku.below.cell (p := ⟨w.heap.size, 7, none⟩) hb0).trans ?_, (ku.below.cell (p := ⟨w.heap.size, 8, none⟩) hb0).trans ?_, (ku.below.cell (p := ⟨w.heap.size + 1, 0, none⟩) hb1).trans ?_, (ku.below.cell (p := ⟨w.heap.size + 1, 1, none⟩) hb1).trans ?_, (ku.below.cell (p := ⟨w.heap.size + 1, 2, none⟩) hb1).trans ?_⟩
  all_goals
   rw [hX]
   simp [go_sem]
 have kd := Kept.refl X
 obtain ⟨-, x0, x1, x2, x3, x4, x5, x6, x7, x8, y0, y1, y2⟩ := HS.out _ kd
 have hz : (((an : Int)) == 0) = false := by simpa using hne
 clear hs0 hs he hq1 hq2
 go_enter Tryz.func88, Tryz.ntmps88
 go_upto_region 1 with fail
 rw [← hX]
 clear hX
 go_upto_region 4 with (first | (go_at_call 119; refine (KQ.out _ hK).mono ?_; rintro e w1 ⟨r1, rfl, hr1, kw1⟩; replace kd := kd.trans kw1))
 replace kd := kd.drew
 have hr2 := hr1.kept (Kept.refl w1).drew
 clear x0 x1 x2 x3 x4 x5 x6 x7 x8 y0 y1 y2
 go_region_held (fun u => Kept X u ∧ u.cell? ⟨w.heap.size, 0, none⟩ = some (.int .i64 k0) ∧ u.cell? ⟨w.heap.size, 1, none⟩ = some (.int .i64 p) ∧ u.cell? ⟨w.heap.size, 2, none⟩ = some (.int .i64 k2) ∧ u.cell? ⟨w.heap.size, 3, none⟩ = some (.int .i64 k3) ∧ u.cell? ⟨w.heap.size, 4, none⟩ = some (.int .i64 k4) ∧ u.cell? ⟨w.heap.size, 5, none⟩ = some (.int .i64 k5) ∧ u.cell? ⟨w.heap.size, 6, none⟩ = some (.int .i64 k6) ∧ u.cell? ⟨w.heap.size, 7, none⟩ = some (.int .i64 k7) ∧ u.cell? ⟨w.heap.size, 8, none⟩ = some (.int .i64 k8) ∧ u.cell? ⟨w.heap.size + 1, 0, none⟩ = some (.bool ga) ∧ u.cell? ⟨w.heap.size + 1, 1, none⟩ = some (.slice aa an ac) ∧ u.cell? ⟨w.heap.size + 1, 2, none⟩ = some (.int .i64 x)) (first | assumption | exact HS.out _ kd | exact HS.out _ (by assumption)) (first | (go_at_call 117; refine (HC.out _ _ hr2).mono ?_; rintro e w2 ⟨rfl, hk2⟩; replace kd := kd.trans hk2) | (go_at_call 116; refine (HT.out _).mono ?_; rintro e w3 ⟨rfl, hk3⟩; replace kd := kd.trans hk3))
 go_wp2_with fail
 go_ret2
 exact ⟨rfl, hK.trans kd⟩
theorem rRoot_nil (k : Value) (k0 p k2 k3 k4 k5 k6 k7 k8 : Int) (hk : k = .agg #[.int .i64 k0, .int .i64 p, .int .i64 k2, .int .i64 k3, .int .i64 k4, .int .i64 k5, .int .i64 k6, .int .i64 k7, .int .i64 k8]) (ga : Bool) (aa : Option Addr) (ac : Nat) (xa : Int) (way : Int) (w : World) : Calls Tryz.prog 88 #[k, .agg #[.bool ga, .slice aa 0 ac, .int .i64 xa], .int .i64 way] w fun e w' => e = .returned (.tuple #[.int .i64 0, .bool false]) ∧ Kept w w' := by
 subst hk
 go_enter Tryz.func88, Tryz.ntmps88
 go_wp2
 go_ret2
 exact ⟨rfl, ((Kept.refl w).alloc _ _).alloc _ _⟩
def FE (n way : Int) (ok : Bool) : Int := if n = 64 ∨ n = 32 then (if way < 0 ∨ 2 < way then 1 else if ok = true then 0 else 7) else 3
abbrev zround : Value := .agg #[.int .i64 0, .int .i64 0, .int .i64 0, .int .i64 0, .nilFunc]
theorem roundingOf_w (n way : Int) (h1 : (n == 32) = false) (h2 : (n == 64) = false) (given : Value) (w : World) : Calls Tryz.prog 79 #[.int .i64 n, .int .i64 way, given] w fun e w' => e = .returned (.tuple #[zround, .int .i64 3]) ∧ Kept w w' := by
 have hK : Kept w (w.alloc nilRound) := (Kept.refl w).alloc _ _
 have HR : Hid (∀ u, Kept (w.alloc nilRound) u → (u.cell? ⟨w.heap.size, 0, none⟩ = some (.int .i64 0) ∧ u.cell? ⟨w.heap.size, 1, none⟩ = some (.int .i64 0) ∧ u.cell? ⟨w.heap.size, 2, none⟩ = some (.int .i64 0) ∧ u.cell? ⟨w.heap.size, 3, none⟩ = some (.int .i64 0) ∧ u.cell? ⟨w.heap.size, 4, none⟩ = some .nilFunc) ∧ ∀ o, u.frozen? ⟨w.heap.size, o, none⟩ = false) := fun u k => ⟨⟨(laid_cell k 0).trans (by simp [go_sem]), (laid_cell k 1).trans (by simp [go_sem]), (laid_cell k 2).trans (by simp [go_sem]), (laid_cell k 3).trans (by simp [go_sem]), (laid_cell k 4).trans (by simp [go_sem])⟩, fun o => (k.frozen _).trans (by simp [go_sem])⟩
 go_enter Tryz.func79, Tryz.ntmps79
 go_wp2_with ((go_at_call 61; refine (kindOf_0 n h1 h2 _).mono ?_; rintro e w1 ⟨rfl, hk1⟩; obtain ⟨⟨r0, r1, r2, r3, r4⟩, rf⟩ := HR.out _ (hk1.alloc #[.int .i64 0, .int .i64 0, .int .i64 0, .int .i64 0] 83)))
 exact bodyPost_ret (v := .tuple #[zround, .int .i64 3]) (by simp [results, Tryz.results79, go_sem, r0, r1, r2, r3, r4]) rfl ⟨rfl, (hK.trans (hk1.alloc _ _)) |>.setCell (by simp) _ |>.setCell (by simp) _ |>.setCell (by simp) _ |>.setCell (by simp) _ |>.setCell (by simp) _⟩
theorem roundingOf_y1 (n way : Int) (hn : n = 64 ∨ n = 32) (h1 : decide (way < 0) = true) (given : Value) (w : World) : Calls Tryz.prog 79 #[.int .i64 n, .int .i64 way, given] w fun e w' => e = .returned (.tuple #[zround, .int .i64 1]) ∧ Kept w w' := by
 have hK : Kept w (w.alloc nilRound) := (Kept.refl w).alloc _ _
 have HR : Hid (∀ u, Kept (w.alloc nilRound) u → (u.cell? ⟨w.heap.size, 0, none⟩ = some (.int .i64 0) ∧ u.cell? ⟨w.heap.size, 1, none⟩ = some (.int .i64 0) ∧ u.cell? ⟨w.heap.size, 2, none⟩ = some (.int .i64 0) ∧ u.cell? ⟨w.heap.size, 3, none⟩ = some (.int .i64 0) ∧ u.cell? ⟨w.heap.size, 4, none⟩ = some .nilFunc) ∧ ∀ o, u.frozen? ⟨w.heap.size, o, none⟩ = false) := fun u k => ⟨⟨(laid_cell k 0).trans (by simp [go_sem]), (laid_cell k 1).trans (by simp [go_sem]), (laid_cell k 2).trans (by simp [go_sem]), (laid_cell k 3).trans (by simp [go_sem]), (laid_cell k 4).trans (by simp [go_sem])⟩, fun o => (k.frozen _).trans (by simp [go_sem])⟩
 go_enter Tryz.func79, Tryz.ntmps79
 go_wp2_with ((go_at_call 61; refine (kindOf_ok n hn _).mono ?_; rintro e w1 ⟨rfl, hk1⟩; obtain ⟨⟨r0, r1, r2, r3, r4⟩, rf⟩ := HR.out _ (hk1.alloc #[.int .i64 n, .int .i64 (kprec n), .int .i64 (kleast n), .int .i64 (kinf n)] 83)))
 exact bodyPost_ret (v := .tuple #[zround, .int .i64 1]) (by simp [results, Tryz.results79, go_sem, r0, r1, r2, r3, r4]) rfl ⟨rfl, (hK.trans (hk1.alloc _ _)) |>.setCell (by simp) _ |>.setCell (by simp) _ |>.setCell (by simp) _ |>.setCell (by simp) _ |>.setCell (by simp) _⟩
theorem roundingOf_y2 (n way : Int) (hn : n = 64 ∨ n = 32) (h1 : decide (way < 0) = false) (h2 : decide (2 < way) = true) (given : Value) (w : World) : Calls Tryz.prog 79 #[.int .i64 n, .int .i64 way, given] w fun e w' => e = .returned (.tuple #[zround, .int .i64 1]) ∧ Kept w w' := by
 have hK : Kept w (w.alloc nilRound) := (Kept.refl w).alloc _ _
 have HR : Hid (∀ u, Kept (w.alloc nilRound) u → (u.cell? ⟨w.heap.size, 0, none⟩ = some (.int .i64 0) ∧ u.cell? ⟨w.heap.size, 1, none⟩ = some (.int .i64 0) ∧ u.cell? ⟨w.heap.size, 2, none⟩ = some (.int .i64 0) ∧ u.cell? ⟨w.heap.size, 3, none⟩ = some (.int .i64 0) ∧ u.cell? ⟨w.heap.size, 4, none⟩ = some .nilFunc) ∧ ∀ o, u.frozen? ⟨w.heap.size, o, none⟩ = false) := fun u k => ⟨⟨(laid_cell k 0).trans (by simp [go_sem]), (laid_cell k 1).trans (by simp [go_sem]), (laid_cell k 2).trans (by simp [go_sem]), (laid_cell k 3).trans (by simp [go_sem]), (laid_cell k 4).trans (by simp [go_sem])⟩, fun o => (k.frozen _).trans (by simp [go_sem])⟩
 go_enter Tryz.func79, Tryz.ntmps79
 go_wp2_with ((go_at_call 61; refine (kindOf_ok n hn _).mono ?_; rintro e w1 ⟨rfl, hk1⟩; obtain ⟨⟨r0, r1, r2, r3, r4⟩, rf⟩ := HR.out _ (hk1.alloc #[.int .i64 n, .int .i64 (kprec n), .int .i64 (kleast n), .int .i64 (kinf n)] 83)))
 exact bodyPost_ret (v := .tuple #[zround, .int .i64 1]) (by simp [results, Tryz.results79, go_sem, r0, r1, r2, r3, r4]) rfl ⟨rfl, (hK.trans (hk1.alloc _ _)) |>.setCell (by simp) _ |>.setCell (by simp) _ |>.setCell (by simp) _ |>.setCell (by simp) _ |>.setCell (by simp) _⟩
theorem roundingOf_v (n way : Int) (hn : n = 64 ∨ n = 32) (h1 : decide (way < 0) = false) (h2 : decide (2 < way) = false) (given : Value) (w : World) (KV : Hid (∀ w', Kept w w' → Calls Tryz.prog 74 #[given] w' fun e w'' => e = .returned (.bool false) ∧ Kept w' w'')) : Calls Tryz.prog 79 #[.int .i64 n, .int .i64 way, given] w fun e w' => e = .returned (.tuple #[zround, .int .i64 7]) ∧ Kept w w' := by
 have hK : Kept w (w.alloc nilRound) := (Kept.refl w).alloc _ _
 have HR : Hid (∀ u, Kept (w.alloc nilRound) u → (u.cell? ⟨w.heap.size, 0, none⟩ = some (.int .i64 0) ∧ u.cell? ⟨w.heap.size, 1, none⟩ = some (.int .i64 0) ∧ u.cell? ⟨w.heap.size, 2, none⟩ = some (.int .i64 0) ∧ u.cell? ⟨w.heap.size, 3, none⟩ = some (.int .i64 0) ∧ u.cell? ⟨w.heap.size, 4, none⟩ = some .nilFunc) ∧ ∀ o, u.frozen? ⟨w.heap.size, o, none⟩ = false) := fun u k => ⟨⟨(laid_cell k 0).trans (by simp [go_sem]), (laid_cell k 1).trans (by simp [go_sem]), (laid_cell k 2).trans (by simp [go_sem]), (laid_cell k 3).trans (by simp [go_sem]), (laid_cell k 4).trans (by simp [go_sem])⟩, fun o => (k.frozen _).trans (by simp [go_sem])⟩
 go_enter Tryz.func79, Tryz.ntmps79
 go_wp2_with (first | (go_at_call 61; refine (kindOf_ok n hn _).mono ?_; rintro e w1 ⟨rfl, hk1⟩) | (go_at_call 74; refine (KV.out _ (hK.trans (hk1.alloc _ _))).mono ?_; rintro e w2 ⟨rfl, hk2⟩; obtain ⟨⟨r0, r1, r2, r3, r4⟩, rf⟩ := HR.out _ ((hk1.alloc #[.int .i64 n, .int .i64 (kprec n), .int .i64 (kleast n), .int .i64 (kinf n)] 83).trans hk2)))
 exact bodyPost_ret (v := .tuple #[zround, .int .i64 7]) (by simp [results, Tryz.results79, go_sem, r0, r1, r2, r3, r4]) rfl ⟨rfl, (hK.trans ((hk1.alloc _ _).trans hk2)) |>.setCell (by simp) _ |>.setCell (by simp) _ |>.setCell (by simp) _ |>.setCell (by simp) _ |>.setCell (by simp) _⟩
theorem roundingOf_no (n way : Int) (ok : Bool) (h : FE n way ok ≠ 0) (given : Value) (w : World) (KV : Hid (∀ w', Kept w w' → Calls Tryz.prog 74 #[given] w' fun e w'' => e = .returned (.bool ok) ∧ Kept w' w'')) : Calls Tryz.prog 79 #[.int .i64 n, .int .i64 way, given] w fun e w' => e = .returned (.tuple #[zround, .int .i64 (FE n way ok)]) ∧ Kept w w' := by
 unfold FE at h ⊢
 by_cases hn : n = 64 ∨ n = 32
 ·rw [if_pos hn] at h ⊢
  by_cases h1 : way < 0
  ·rw [if_pos (Or.inl h1)]
   exact roundingOf_y1 n way hn (decide_eq_true h1) given w
  ·by_cases h2 : 2 < way
   ·rw [if_pos (Or.inr h2)]
    exact roundingOf_y2 n way hn (decide_eq_false h1) (decide_eq_true h2) given w
   ·rw [if_neg (by omega)] at h ⊢
    cases ok with
    | true => exact absurd rfl h
    | false => exact roundingOf_v n way hn (decide_eq_false h1) (decide_eq_false h2) given w KV
 ·rw [if_neg hn]
  exact roundingOf_w n way (by simp; omega) (by simp; omega) given w
theorem xround_no (n way fe : Int) (hfe : (fe == 0) = false) (ng : Bool) (ao : Option Addr) (ln c : Nat) (x : Int) (w : World) (KR : Hid (Calls Tryz.prog 79 #[.int .i64 n, .int .i64 way, .slice (some ⟨w.heap.size + 1, 0, none⟩) 1 1] ((w.alloc (.cells #[.bool ng, .slice ao ln c, .int .i64 x] 29)).alloc (.cells #[.bool ng, .slice ao ln c, .int .i64 x] 29)) fun e w' => e = .returned (.tuple #[zround, .int .i64 fe]) ∧ Kept ((w.alloc (.cells #[.bool ng, .slice ao ln c, .int .i64 x] 29)).alloc (.cells #[.bool ng, .slice ao ln c, .int .i64 x] 29)) w')) : Calls Tryz.prog 40 #[.agg #[.bool ng, .slice ao ln c, .int .i64 x], .int .i64 n, .int .i64 way] w fun e w' => e = .returned (.tuple #[.int .i64 0, .bool false, .int .i64 fe]) ∧ Kept w w' := by
 have hK : Kept w ((w.alloc (.cells #[.bool ng, .slice ao ln c, .int .i64 x] 29)).alloc (.cells #[.bool ng, .slice ao ln c, .int .i64 x] 29)) := ((Kept.refl w).alloc _ _).alloc _ _
 go_enter Tryz.func40, Tryz.ntmps40
 go_wp2_with (first | (go_at_call 79; refine KR.out.mono ?_; rintro e w1 ⟨rfl, hk1⟩))
 go_ret3
 exact ⟨rfl, hK.trans (hk1.alloc _ _)⟩
theorem xroot_no (n way fe : Int) (hfe : (fe == 0) = false) (ng : Bool) (ao : Option Addr) (ln c : Nat) (x : Int) (w : World) (KR : Hid (Calls Tryz.prog 79 #[.int .i64 n, .int .i64 way, .slice (some ⟨w.heap.size + 1, 0, none⟩) 1 1] ((w.alloc (.cells #[.bool ng, .slice ao ln c, .int .i64 x] 29)).alloc (.cells #[.bool ng, .slice ao ln c, .int .i64 x] 29)) fun e w' => e = .returned (.tuple #[zround, .int .i64 fe]) ∧ Kept ((w.alloc (.cells #[.bool ng, .slice ao ln c, .int .i64 x] 29)).alloc (.cells #[.bool ng, .slice ao ln c, .int .i64 x] 29)) w')) : Calls Tryz.prog 42 #[.agg #[.bool ng, .slice ao ln c, .int .i64 x], .int .i64 n, .int .i64 way] w fun e w' => e = .returned (.tuple #[.int .i64 0, .bool false, .int .i64 fe]) ∧ Kept w w' := by
 have hK : Kept w ((w.alloc (.cells #[.bool ng, .slice ao ln c, .int .i64 x] 29)).alloc (.cells #[.bool ng, .slice ao ln c, .int .i64 x] 29)) := ((Kept.refl w).alloc _ _).alloc _ _
 go_enter Tryz.func42, Tryz.ntmps42
 go_wp2_with (first | (go_at_call 79; refine KR.out.mono ?_; rintro e w1 ⟨rfl, hk1⟩))
 go_ret3
 exact ⟨rfl, hK.trans (hk1.alloc _ _)⟩
theorem xquot_no (n way fe : Int) (hfe : (fe == 0) = false) (n1 n2 : Bool) (a1 a2 : Option Addr) (l1 c1 l2 c2 : Nat) (x1 x2 : Int) (w : World) (KR : Hid (Calls Tryz.prog 79 #[.int .i64 n, .int .i64 way, .slice (some ⟨w.heap.size + 2, 0, none⟩) 2 2] (((w.alloc (.cells #[.bool n1, .slice a1 l1 c1, .int .i64 x1] 29)).alloc (.cells #[.bool n2, .slice a2 l2 c2, .int .i64 x2] 29)).alloc (.cells (pairC n1 (.slice a1 l1 c1) x1 n2 (.slice a2 l2 c2) x2) 29)) fun e w' => e = .returned (.tuple #[zround, .int .i64 fe]) ∧ Kept (((w.alloc (.cells #[.bool n1, .slice a1 l1 c1, .int .i64 x1] 29)).alloc (.cells #[.bool n2, .slice a2 l2 c2, .int .i64 x2] 29)).alloc (.cells (pairC n1 (.slice a1 l1 c1) x1 n2 (.slice a2 l2 c2) x2) 29)) w')) : Calls Tryz.prog 41 #[.agg #[.bool n1, .slice a1 l1 c1, .int .i64 x1], .agg #[.bool n2, .slice a2 l2 c2, .int .i64 x2], .int .i64 n, .int .i64 way] w fun e w' => e = .returned (.tuple #[.int .i64 0, .bool false, .int .i64 fe]) ∧ Kept w w' := by
 have hK : Kept w (((w.alloc (.cells #[.bool n1, .slice a1 l1 c1, .int .i64 x1] 29)).alloc (.cells #[.bool n2, .slice a2 l2 c2, .int .i64 x2] 29)).alloc (.cells (pairC n1 (.slice a1 l1 c1) x1 n2 (.slice a2 l2 c2) x2) 29)) := (((Kept.refl w).alloc _ _).alloc _ _).alloc _ _
 go_enter Tryz.func41, Tryz.ntmps41
 go_wp2_with (first | (go_at_call 79; refine KR.out.mono ?_; rintro e w1 ⟨rfl, hk1⟩))
 go_ret3
 exact ⟨rfl, hK.trans (hk1.alloc _ _)⟩
end Go.Proofs.YtbffekcjdcihpaaGreatDoor
