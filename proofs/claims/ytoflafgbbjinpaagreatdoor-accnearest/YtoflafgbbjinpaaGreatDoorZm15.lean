/- acc's lay of any two finite floats: what it adds to the columns. acc's add, where both floats are finite. exact's Columns: the closure. exact's Columns. -/
import Derived.Test.YtoflafgbbjinpaaGreatDoorZm14
import Derived.Test.YtoflafgbbjinpaaGreatDoorZm10
namespace Go.Proofs.YtoflafgbbjinpaaGreatDoor
open Go.ChangeShapes Go.WideShapes Go.ChangeAt Go.RowKit
set_option linter.unusedVariables false
set_option linter.unusedSimpArgs false
set_option maxHeartbeats 16000000
set_option maxRecDepth 100000
structure Inv (C : List Int) (lo hi : Int) : Prop where
 lo0 : 0 ≤ lo ∧ lo ≤ 141
 hi0 : 0 ≤ hi ∧ hi ≤ 141
 zero : ∀ k : Nat, ((k : Int) < lo ∨ hi ≤ (k : Int)) → C.getD k 0 = 0
def pval (n x y : Int) : Int := sg (pneg x n != pneg y n) (pmag x n * pmag y n * 2 ^ (pexp x n + pexp y n + 2148).toNat)
theorem mlay0 (w : World) (b : Nat) (ac : List Value) (n x y : Int) (C : List Int) (lo hi : Int) (hM : MkAt w b ac n C lo hi) (ng1 ng2 : Bool) (a bb e1 e2 : Int) (hz : a = 0 ∨ bb = 0)
  (KP1 : Hid (∀ u, Calls Tryz.prog 59 #[.int .i64 x, .int .i64 n] u fun e w' => e = .returned (.tuple #[.bool ng1, .int .i64 a, .int .i64 e1, .bool true]) ∧ Kept u w'))
  (KP2 : Hid (∀ u, Calls Tryz.prog 59 #[.int .i64 y, .int .i64 n] u fun e w' => e = .returned (.tuple #[.bool ng2, .int .i64 bb, .int .i64 e2, .bool true]) ∧ Kept u w')) :
  Calls Tryz.prog 115 #[.pointer (some ⟨b, 0, none⟩), .int .i64 x, .int .i64 y] w fun e w' => e = .returned (.tuple #[]) ∧ Kept w w' := by
 have HM : Hid (∀ u, Kept w u → MkAt u b ac n C lo hi) := fun u k => hM.kept k
 have hw0 := hM.width
 by_cases ha : a = 0
 ·subst ha
  go_enter Tryz.func115, Tryz.ntmps115
  go_wp2_with fail
  refine (KP1.out _).mono ?_
  rintro e w1 ⟨rfl, k1⟩
  clear hw0
  have hw0 := (HM.out _ k1).width
  go_wp2_with fail
  refine (KP2.out _).mono ?_
  rintro e w2 ⟨rfl, k2⟩
  clear hw0
  go_wp2_with fail
  exact bodyPost_ret (v := .tuple #[]) (by simp [results, Tryz.results115, go_sem]) rfl ⟨rfl, k1.trans k2⟩
 ·obtain rfl : bb = 0 := by omega
  have y1 : (a == 0) = false := by rw [beq_eq_false_iff_ne]; exact ha
  go_enter Tryz.func115, Tryz.ntmps115
  go_wp2_with fail
  refine (KP1.out _).mono ?_
  rintro e w1 ⟨rfl, k1⟩
  clear hw0
  have hw0 := (HM.out _ k1).width
  go_wp2_with fail
  refine (KP2.out _).mono ?_
  rintro e w2 ⟨rfl, k2⟩
  clear hw0
  go_wp2_with fail
  exact bodyPost_ret (v := .tuple #[]) (by simp [results, Tryz.results115, go_sem]) rfl ⟨rfl, k1.trans k2⟩
theorem inv_step {C C' : List Int} {lo hi : Int} {f st : Nat} {V : Int} (h : Inv C lo hi) (hf : f + 5 ≤ 141) (hL : Ly C C' f st V) : Inv C' (min lo f) (max hi (f + 5)) := by
 have h1 := h.lo0
 have h2 := h.hi0
 refine ⟨by omega, by omega, fun k hk => ?_⟩
 rw [hL.out k (by omega)]
 exact h.zero k (by omega)
/- a finite float of the width, by its parts -/
structure FinP (n x : Int) : Prop where
 r1 : -9223372036854775808 ≤ x
 r2 : x ≤ 9223372036854775807
 fin : fin x n = true
 m : 0 ≤ pmag x n ∧ pmag x n < 9007199254740992
 e : -1074 ≤ pexp x n ∧ pexp x n ≤ 971
theorem lay_fin (w : World) (b : Nat) (ac : List Value) (n x y : Int) (C : List Int) (hC : ∀ k, -1152921504606846976 ≤ C.getD k 0 ∧ C.getD k 0 ≤ 1152921504606846976) (lo hi : Int) (hM : MkAt w b ac n C lo hi) (hI : Inv C lo hi) (hx : FinP n x) (hy : FinP n y) :
  Calls Tryz.prog 115 #[.pointer (some ⟨b, 0, none⟩), .int .i64 x, .int .i64 y] w fun e w' => e = .returned (.tuple #[]) ∧ ∃ C' lo' hi', MkAt w' b ac n C' lo' hi' ∧ Inv C' lo' hi' ∧ cv C' = cv C + pval n x y ∧ (∀ k, -12884901888 ≤ C'.getD k 0 - C.getD k 0 ∧ C'.getD k 0 - C.getD k 0 ≤ 12884901888) ∧ Grw b w w' := by
 have KP1 : Hid (∀ u, Calls Tryz.prog 59 #[.int .i64 x, .int .i64 n] u fun e w' => e = .returned (.tuple #[.bool (pneg x n), .int .i64 (pmag x n), .int .i64 (pexp x n), .bool true]) ∧ Kept u w') := fun u => by
  have := parts_any x n hx.r1 hx.r2 u
  rw [hx.fin] at this
  exact this
 have KP2 : Hid (∀ u, Calls Tryz.prog 59 #[.int .i64 y, .int .i64 n] u fun e w' => e = .returned (.tuple #[.bool (pneg y n), .int .i64 (pmag y n), .int .i64 (pexp y n), .bool true]) ∧ Kept u w') := fun u => by
  have := parts_any y n hy.r1 hy.r2 u
  rw [hy.fin] at this
  exact this
 have m1 := hx.m
 have m2 := hy.m
 have e1 := hx.e
 have e2 := hy.e
 unfold pval
 generalize pneg x n = ng1 at *
 generalize pneg y n = ng2 at *
 generalize pmag x n = a at *
 generalize pmag y n = bb at *
 generalize pexp x n = x1 at *
 generalize pexp y n = x2 at *
 by_cases hz : a = 0 ∨ bb = 0
 ·refine (mlay0 w b ac n x y C lo hi hM ng1 ng2 a bb x1 x2 hz KP1 KP2).mono ?_
  rintro e w' ⟨rfl, k⟩
  refine ⟨rfl, C, lo, hi, hM.kept k, hI, ?_, fun k => by omega, k.toGrw b⟩
  have : a * bb = 0 := by rcases hz with h | h <;> simp [h]
  rw [this]
  simp [sg]
 ·obtain ⟨f, hf⟩ : ∃ f : Nat, (x1 + x2 + 2148) / 30 = (f : Int) := ⟨((x1 + x2 + 2148) / 30).toNat, by omega⟩
  obtain ⟨s, hs⟩ : ∃ s : Nat, (x1 + x2 + 2148) % 30 = (s : Int) := ⟨((x1 + x2 + 2148) % 30).toNat, by omega⟩
  have hp : x1 + x2 + 2148 = 30 * (f : Int) + s := by omega
  have ht : (x1 + x2 + 2148).toNat = s + 30 * f := by omega
  cases hb : (ng1 != ng2) with
  | false =>
   obtain rfl : ng1 = ng2 := by simpa using hb
   refine (mlay w b ac n x y C hC lo hi hM ng1 a bb x1 x2 f s (by omega) hp (by omega) (by omega) (by omega) e1 e2 _ _ _ _ _ (moved_bound a (by omega) s (by omega) _ _ _ rfl rfl rfl) (parts_bound bb _ _ (by omega) rfl rfl) rfl rfl rfl rfl rfl KP1 KP2).mono ?_
   rintro e w' ⟨rfl, C', hM', hL, hg⟩
   refine ⟨rfl, C', _, _, hM', inv_step hI (by omega) hL, ?_, fun k => by have := hL.near k; omega, hg⟩
   have hv := hL.val
   rw [moved_sum a s (by omega) _ _ _ rfl rfl rfl, parts_sum bb _ _ rfl rfl] at hv
   rw [hv, ht, Int.pow_add]
   simp only [sg, Bool.false_eq_true, if_false]
   congr 1
   simp only [Int.mul_assoc, Int.mul_comm, Int.mul_left_comm]
  | true =>
   obtain rfl : ng2 = !ng1 := by cases ng1 <;> cases ng2 <;> simp_all
   refine (mlayn w b ac n x y C hC lo hi hM ng1 a bb x1 x2 f s (by omega) hp (by omega) (by omega) (by omega) e1 e2 _ _ _ _ _ (moved_bound a (by omega) s (by omega) _ _ _ rfl rfl rfl) (parts_bound (-bb) _ _ (by omega) rfl rfl) rfl rfl rfl rfl rfl KP1 KP2).mono ?_
   rintro e w' ⟨rfl, C', hM', hL, hg⟩
   refine ⟨rfl, C', _, _, hM', inv_step hI (by omega) hL, ?_, fun k => by have := hL.near k; omega, hg⟩
   have hv := hL.val
   rw [moved_sum a s (by omega) _ _ _ rfl rfl rfl, parts_sum (-bb) _ _ rfl rfl] at hv
   rw [hv, ht, Int.pow_add]
   simp only [sg, if_true]
   congr 1
   simp only [Int.mul_assoc, Int.mul_comm, Int.mul_left_comm, Int.mul_neg, Int.neg_mul]
theorem special_any (w : World) (b q : Nat) (ac : List Value) (n x : Int) (C : List Int) (lo hi : Int) (hM : MkAt w b ac n C lo hi) (hq : w.cell? ⟨q, 0, none⟩ = some (.pointer (some ⟨b, 0, none⟩))) (v : Int) (KC : Hid (∀ u, Calls Tryz.prog 26 #[.int .i64 x, .int .i64 n] u fun e w' => e = .returned (.int .i64 v) ∧ Kept u w')) :
  Calls Tryz.prog 114 #[.int .i64 x, .pointer (some ⟨q, 0, none⟩)] w fun e w' => e = .returned (.bool (decide (3 ≤ v))) ∧ Kept w w' := by
 have hw0 := hM.width
 go_enter Tryz.func114, Tryz.ntmps114
 go_wp2_with fail
 refine (KC.out _).mono ?_
 rintro e w1 ⟨rfl, k1⟩
 go_wp2_with fail
 go_ret
 exact ⟨rfl, k1⟩
theorem add_fin (w : World) (b : Nat) (ac : List Value) (n x y : Int) (C : List Int) (lo hi : Int) (hM : MkAt w b ac n C lo hi) (v1 v2 : Int) (hx : v1 < 3) (hy : v2 < 3) (Post : World → Prop)
  (KC1 : Hid (∀ u, Calls Tryz.prog 26 #[.int .i64 x, .int .i64 n] u fun e w' => e = .returned (.int .i64 v1) ∧ Kept u w'))
  (KC2 : Hid (∀ u, Calls Tryz.prog 26 #[.int .i64 y, .int .i64 n] u fun e w' => e = .returned (.int .i64 v2) ∧ Kept u w'))
  (KL : Hid (∀ u, Kept w u → Calls Tryz.prog 115 #[.pointer (some ⟨b, 0, none⟩), .int .i64 x, .int .i64 y] u fun e w' => e = .returned (.tuple #[]) ∧ Post w')) :
  Calls Tryz.prog 69 #[.pointer (some ⟨b, 0, none⟩), .int .i64 x, .int .i64 y] w fun e w' => e = .returned (.tuple #[]) ∧ Post w' := by
 have d1 : decide (3 ≤ v1) = false := decide_eq_false (by omega)
 have d2 : decide (3 ≤ v2) = false := decide_eq_false (by omega)
 obtain ⟨X, hX⟩ : ∃ X, X = w.alloc (.cells #[.pointer (some ⟨b, 0, none⟩)] 145) := ⟨_, rfl⟩
 have k0 : Kept w X := by rw [hX]; exact (Kept.refl w).alloc _ _
 have HQ : Hid (∀ u, Kept X u → u.cell? ⟨w.heap.size, 0, none⟩ = some (.pointer (some ⟨b, 0, none⟩))) := fun u k => by
  have hb : w.heap.size < X.heap.size := by rw [hX]; simp
  refine (k.below.cell (p := ⟨w.heap.size, 0, none⟩) hb).trans ?_
  rw [hX]
  simp [go_sem]
 have HS1 : Hid (∀ u, Kept X u → Calls Tryz.prog 114 #[.int .i64 x, .pointer (some ⟨w.heap.size, 0, none⟩)] u fun e w' => e = .returned (.bool false) ∧ Kept u w') := fun u k => by
  have := special_any u b w.heap.size ac n x C lo hi (hM.kept (k0.trans k)) (HQ.out u k) v1 KC1
  rw [d1] at this
  exact this
 have HS2 : Hid (∀ u, Kept X u → Calls Tryz.prog 114 #[.int .i64 y, .pointer (some ⟨w.heap.size, 0, none⟩)] u fun e w' => e = .returned (.bool false) ∧ Kept u w') := fun u k => by
  have := special_any u b w.heap.size ac n y C lo hi (hM.kept (k0.trans k)) (HQ.out u k) v2 KC2
  rw [d2] at this
  exact this
 clear hM KC1 KC2 d1 d2 hx hy
 go_enter Tryz.func69, Tryz.ntmps69
 go_upto_region 1 with fail
 rw [← hX]
 clear hX
 go_wp2_with fail
 refine (HS1.out _ (Kept.refl _)).mono ?_
 rintro e w1 ⟨rfl, k1⟩
 go_wp2_with fail
 refine (HS2.out _ k1).mono ?_
 rintro e w2 ⟨rfl, k2⟩
 have hq := HQ.out _ (k1.trans k2)
 go_wp2_with fail
 refine (KL.out _ (k0.trans (k1.trans k2))).mono ?_
 rintro e w3 ⟨rfl, h3⟩
 go_wp2_with fail
 exact bodyPost_ret (v := .tuple #[]) (by simp [results, Tryz.results69, go_sem]) rfl ⟨rfl, h3⟩
theorem Own.setCells {g cap : Nat} : ∀ (vs A B : List Int) (w : World), Own w g cap (A ++ B) → vs.length ≤ B.length → Own (w.setCells g A.length (vs.map (Value.int .i64))) g cap (A ++ vs ++ B.drop vs.length)
 | [], A, B, w, h, _ => by simpa [World.setCells] using h
 | v :: r, A, [], w, h, hl => by simp at hl
 | v :: r, A, b :: B, w, h, hl => by
  have h1 := h.set A.length v
  have e : (A ++ b :: B).set A.length v = (A ++ [v]) ++ B := by simp
  rw [e] at h1
  have := Own.setCells r (A ++ [v]) B _ h1 (by simpa using hl)
  simpa [World.setCells] using this
theorem cv_near : ∀ (C : List Int), (∀ j, -9223372036854775807 ≤ C.getD j 0 ∧ C.getD j 0 ≤ 9223372036854775807) → -(2 : Int) ^ 34 * ((2 : Int) ^ (30 * C.length) - 1) ≤ cv C ∧ cv C ≤ (2 : Int) ^ 34 * ((2 : Int) ^ (30 * C.length) - 1)
 | [], _ => by simp [cv]
 | c :: r, h => by
  have h0 := h 0
  have ih := cv_near r (fun j => by simpa using h (j + 1))
  simp only [List.getD_cons_zero] at h0
  rw [List.length_cons, Nat.mul_add, Int.pow_add, cv]
  obtain ⟨P, hP⟩ : ∃ P, P = (2 : Int) ^ (30 * r.length) := ⟨_, rfl⟩
  rw [← hP] at ih ⊢
  generalize cv r = s at *
  omega
theorem cv_noughts : ∀ C : List Int, cv (C ++ [0, 0]) = cv C
 | [] => by simp [cv]
 | c :: r => by rw [List.cons_append, cv, cv, cv_noughts r]
theorem columns1 (w : World) (hT : Tab w) (q1 q2 b o cap : Nat) (h1 : q1 < w.heap.size) (h2 : q2 < w.heap.size) (hb : b < w.heap.size) (C : List Int) (hl : C.length ≤ 141) (hC : ∀ j, -9223372036854775807 ≤ C.getD j 0 ∧ C.getD j 0 ≤ 9223372036854775807) (x : Int) (c1 : w.cell? ⟨q1, 0, none⟩ = some (.slice (some ⟨b, o, none⟩) C.length cap)) (c2 : w.cell? ⟨q2, 0, none⟩ = some (.int .i64 x)) (hr : ∀ j, j < C.length → w.cell? ⟨b, o + j, none⟩ = some (.int .i64 (C.getD j 0))) (r : Nm) (hRes : frm (decide (cv C < 0)) (cv C).natAbs x = some r) :
  Calls Tryz.prog 151 #[.pointer (some ⟨q1, 0, none⟩), .pointer (some ⟨q2, 0, none⟩)] w fun e w' => (∃ v, e = .returned v ∧ New w w' v r) ∧ Kept w w' := by
 have hK : Kept w (numW w) := (Kept.refl w).alloc _ _
 have q : IntKind.i64.wrap ((C.length : Int) + 2) = (C.length : Int) + 2 := by rw [wrap_i64]; omega
 have hmk : ∀ u, (Instr.makeSlice 22 (.int .i64 ((C.length : Int) + 2)) (.int .i64 ((C.length : Int) + 2))).run Tryz.prog u = .ok (.slice (some ⟨u.heap.size, 0, none⟩) (C.length + 2) (C.length + 2)) (u.alloc (.cells (madeCells #[.int .i64 0] (C.length + 2)) 3)) := make_run (C.length + 2) (by omega)
 have e1 := (hK.below.cell (p := ⟨q1, 0, none⟩) h1).trans c1
 have e2 := (hK.below.cell (p := ⟨q2, 0, none⟩) h2).trans c2
 have hO := own_made (C.length + 2) (by omega) (numW w)
 have hK2 : Kept (numW w) ((numW w).alloc (.cells (madeCells #[.int .i64 0] (C.length + 2)) 3)) := (Kept.refl _).alloc _ _
 have hK3 : Kept (numW w) (((numW w).alloc (.cells (madeCells #[.int .i64 0] (C.length + 2)) 3)).setCells (w.heap.size + 1) 0 (C.map (Value.int .i64))) :=
  hK2.grw (g := w.heap.size + 1) (by simp) (Grw.setCells _ ((Kept.refl _).toGrw _) 0)
 have hO2 : Own (((numW w).alloc (.cells (madeCells #[.int .i64 0] (C.length + 2)) 3)).setCells (w.heap.size + 1) 0 (C.map (Value.int .i64))) (w.heap.size + 1) (C.length + 2) (C ++ [0, 0]) := by
  have := Own.setCells C [] (List.replicate (C.length + 2) 0) _ (by simpa using hO) (by simp)
  have e : (List.replicate (C.length + 2) (0 : Int)).drop C.length = [0, 0] := by rw [List.drop_replicate, Nat.add_sub_cancel_left]; rfl
  rw [e] at this
  simpa using this
 have hcp : (Builtin.copy_ #[22, 22] 3 #[.slice (some ⟨w.heap.size + 1, 0, none⟩) (C.length + 2) (C.length + 2), .slice (some ⟨b, o, none⟩) C.length cap]).run Tryz.prog ((numW w).alloc (.cells (madeCells #[.int .i64 0] (C.length + 2)) 3)) = .ok (goInt C.length) (((numW w).alloc (.cells (madeCells #[.int .i64 0] (C.length + 2)) 3)).setCells (w.heap.size + 1) 0 (C.map (Value.int .i64))) := by
  have := run_copy_cells (P := Tryz.prog) ((numW w).alloc (.cells (madeCells #[.int .i64 0] (C.length + 2)) 3)) 22 22 3 3 (w.heap.size + 1) 0 (C.length + 2) (C.length + 2) ⟨b, o, none⟩ C.length cap (C.map (Value.int .i64)) li_under (by kernel_rfl) (by simp) (fun j v hv => ?_) (fun j hj => ?_) (fun j hj => ?_) (by simp [Value.oneCell'])
  ·simpa using this
  ·rw [List.getElem?_map] at hv
   obtain ⟨c, hc, rfl⟩ := Option.map_eq_some_iff.mp hv
   have hj : j < C.length := by
    rcases Nat.lt_or_ge j C.length with h | h
    ·exact h
    ·rw [List.getElem?_eq_none h] at hc; exact absurd hc (by simp)
   have := (hK.trans hK2).below.cell (p := ⟨b, o + j, none⟩) hb
   have ea : (⟨b, o, none⟩ : Addr).add j = ⟨b, o + j, none⟩ := by simp [Addr.add]
   rw [ea]
   refine (this.trans (hr j hj)).trans ?_
   rw [List.getD_eq_getElem?_getD, hc]; rfl
  ·have := hO.cell j (by simp at hj ⊢; omega)
   simp only [Nat.zero_add]
   have e : (numW w).heap.size = w.heap.size + 1 := by simp
   rw [e] at this
   rw [this]; rfl
  ·have e : (numW w).heap.size = w.heap.size + 1 := by simp
   rw [e] at hO
   exact hO.free _
 have KS : Hid (Calls Tryz.prog 113 #[.slice (some ⟨w.heap.size + 1, 0, none⟩) (C.length + 2) (C.length + 2), .int .i64 x] (((numW w).alloc (.cells (madeCells #[.int .i64 0] (C.length + 2)) 3)).setCells (w.heap.size + 1) 0 (C.map (Value.int .i64))) fun e w' => ToldR (some r) (numW w) w' e ∧ Kept (numW w) w') := by
  have hn := cv_near C hC
  have e : cv (C ++ [0, 0]) = cv C := cv_noughts C
  have hP : (2 : Int) ^ (30 * (C.length + 2)) = (2 : Int) ^ (30 * C.length) * 2 ^ 60 := by rw [Nat.mul_add, Int.pow_add]
  have hp : 0 < (2 : Int) ^ (30 * C.length) := Int.pow_pos (by decide)
  refine settled_any _ (C.length + 2) (C.length + 2) (w.heap.size + 1) x (C ++ [0, 0]) (by simp) (by omega) (fun j => ?_) (cv C) e (by rw [hP]; omega) (by rw [hP]; omega) (numW w) (hT.kept hK) hK3 (by simp) hO2 (some r) hRes
  rw [List.getD_eq_getElem?_getD, List.getElem?_append]
  split
  ·have := hC j
   rwa [List.getD_eq_getElem?_getD] at this
  ·generalize j - C.length = i
   rcases i with _ | _ | i <;> simp
 clear c1 c2 hO hO2 hr
 have hs := hK3.below.size
 go_enter Tryz.func151, Tryz.ntmps151
 have ez := (hK3.below.cell (p := ⟨q2, 0, none⟩) (by simp; omega)).trans e2
 obtain ⟨X, hX⟩ : ∃ X, X = (((numW w).alloc (.cells (madeCells #[.int .i64 0] (C.length + 2)) 3)).setCells (w.heap.size + 1) 0 (C.map (Value.int .i64))) := ⟨_, rfl⟩
 rw [← hX] at hcp KS hK3 ez hs
 clear hX
 go_wp2_with (first | (go_at_call 113; refine KS.out.mono ?_; rintro e w1 ⟨⟨v, rfl, hN⟩, hk1⟩; obtain ⟨vn, va, vl, vc, vx, rfl⟩ := hN.shape; obtain ⟨f0, f1, f2, f3⟩ := num_cells hk1))
 have := num_done hN hk1 (.bool vn) (.slice va vl vc) (.int .i64 vx)
 exact bodyPost_ret (v := .agg #[.bool vn, .slice va vl vc, .int .i64 vx]) (by simp [results, Tryz.results151, go_sem, f0, f1, f2]) rfl ⟨⟨_, rfl, this.1⟩, this.2⟩
abbrev colW (w : World) (sv : Value) (x : Int) : World := ((w.alloc (.cells #[sv] 22)).alloc (.cells #[.int .i64 x] 3)).alloc nilNum
theorem colW_kept (w : World) (sv : Value) (x : Int) : Kept w (colW w sv x) := (((Kept.refl w).alloc _ _).alloc _ _).alloc _ _
theorem columns_ok (w : World) (hT : Tab w) (b o cap : Nat) (hb : b < w.heap.size) (C : List Int) (hl : C.length ≤ 141) (hC : ∀ j, -9223372036854775807 ≤ C.getD j 0 ∧ C.getD j 0 ≤ 9223372036854775807) (x : Int) (hr : ∀ j, j < C.length → w.cell? ⟨b, o + j, none⟩ = some (.int .i64 (C.getD j 0))) (r : Nm) (hRes : frm (decide (cv C < 0)) (cv C).natAbs x = some r) :
  Calls Tryz.prog 116 #[.slice (some ⟨b, o, none⟩) C.length cap, .int .i64 x] w fun e w' => ∃ v, e = .returned (.tuple #[v, .int .i64 0]) ∧ New w w' v r ∧ Kept w w' := by
 have hW := colW_kept w (.slice (some ⟨b, o, none⟩) C.length cap) x
 have KT : Hid (Calls Tryz.prog 62 #[.func (.func 151) #[] #[.pointer (some ⟨w.heap.size, 0, none⟩), .pointer (some ⟨w.heap.size + 1, 0, none⟩)], .slice none 0 0] (colW w (.slice (some ⟨b, o, none⟩) C.length cap) x) fun e w' => ∃ v, e = .returned (.tuple #[v, .int .i64 0]) ∧ New (colW w (.slice (some ⟨b, o, none⟩) C.length cap) x) w' v r ∧ Kept (colW w (.slice (some ⟨b, o, none⟩) C.length cap) x) w') := by
  refine told_ok 151 _ (fun w => call_of Tryz.func151 (by kernel_rfl) (by kernel_rfl) _ w) _ r _ (fun u k => allValid_0 u) (fun u k => ?_)
  have hs := k.below.size
  simp only [colW, World.size_alloc] at hs
  exact columns1 u ((hT.kept hW).kept k) _ _ b o cap (by omega) (by omega) (by omega) C hl hC x ((k.below.cell (p := ⟨w.heap.size, 0, none⟩) (by simp <;> omega)).trans (by simp [go_sem])) ((k.below.cell (p := ⟨w.heap.size + 1, 0, none⟩) (by simp <;> omega)).trans (by simp [go_sem])) (fun j hj => ((hW.trans k).below.cell (p := ⟨b, o + j, none⟩) hb).trans (hr j hj)) r hRes
 have hmf : ∀ (fn : Fn) (first cap : Array Value) (w : World), (Instr.makeFunc fn first cap).run Tryz.prog w = .ok (.func fn first cap) w := fun _ _ _ _ => rfl
 clear hr hT hRes hC hl
 generalize C.length = n at *
 go_enter Tryz.func116, Tryz.ntmps116
 go_wp2_with (first | (go_at_call 62; refine KT.out.mono ?_; rintro e w1 ⟨v, rfl, hN, hk1⟩; obtain ⟨vn, va, vl, vc, vx, rfl⟩ := hN.shape; obtain ⟨f0, f1, f2, f3⟩ := res_cells (w.heap.size + 2) (by simp) hk1 (by simp [go_sem]) (by simp [go_sem]) (by simp [go_sem]) (fun o => by simp [go_sem])))
 have := res_done (w.heap.size + 2) (by omega) (by simp) hW hN hk1 (.bool vn) (.slice va vl vc) (.int .i64 vx)
 refine bodyPost_ret (v := .tuple #[.agg #[.bool vn, .slice va vl vc, .int .i64 vx], .int .i64 0]) (by simp [results, Tryz.results116, go_sem, f0, f1, f2]) rfl ⟨_, rfl, this.1, this.2⟩
end Go.Proofs.YtoflafgbbjinpaaGreatDoor
