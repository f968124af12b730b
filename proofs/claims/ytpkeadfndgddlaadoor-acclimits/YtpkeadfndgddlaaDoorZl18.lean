/- acc's lay of any two finite floats. acc's lay of any two finite floats: what it adds to the columns. acc's add, where both floats are finite. -/
import Derived.Test.YtpkeadfndgddlaaDoorZl17
namespace Go.Proofs.YtpkeadfndgddlaaDoor
open Go.ChangeShapes Go.WideShapes Go.ChangeAt Go.RowKit
set_option linter.unusedVariables false
set_option linter.unusedSimpArgs false
set_option maxHeartbeats 16000000
set_option maxRecDepth 100000
theorem wrap64_mask (z : Int) : bits .and .i64 (wrap64 z) 1073741823 = z % 1073741824 := by
 rw [mask30]
 unfold wrap64
 omega
theorem div_shift (a : Int) (s t : Nat) (h : s ≤ t) : a / 2 ^ (t - s) = a * 2 ^ s / 2 ^ t := by
 have e : (2 : Int) ^ t = 2 ^ (t - s) * 2 ^ s := by rw [← Int.pow_add]; congr 1; omega
 rw [e, Int.mul_ediv_mul_of_pos_left _ _ (Int.pow_pos (by decide))]
theorem moved_sum (a : Int) (s : Nat) (hs : s < 30) (M0 M1 M2 : Int) (h0 : bits .and .i64 (wrap64 (a * 2 ^ s)) 1073741823 = M0) (h1 : bits .and .i64 (a / 2 ^ (30 - s)) 1073741823 = M1) (h2 : a / 2 ^ (60 - s) = M2) : ws M0 M1 M2 3 = a * 2 ^ s := by
 rw [wrap64_mask] at h0
 rw [mask30, div_shift a s 30 (by omega)] at h1
 rw [div_shift a s 60 (by omega)] at h2
 generalize a * 2 ^ s = Z at *
 show M0 + M1 * 1073741824 + M2 * 1152921504606846976 = Z
 rw [show (2 : Int) ^ 30 = 1073741824 from rfl] at h1
 rw [show (2 : Int) ^ 60 = 1152921504606846976 from rfl] at h2
 omega
theorem moved_bound (a : Int) (ha : 0 < a ∧ a < 9007199254740992) (s : Nat) (hs : s < 30) (M0 M1 M2 : Int) (h0 : bits .and .i64 (wrap64 (a * 2 ^ s)) 1073741823 = M0) (h1 : bits .and .i64 (a / 2 ^ (30 - s)) 1073741823 = M1) (h2 : a / 2 ^ (60 - s) = M2) : ∀ i, 0 ≤ mv M0 M1 M2 i ∧ mv M0 M1 M2 i < 1073741824 := by
 rw [wrap64_mask] at h0
 rw [mask30] at h1
 have e : (2 : Int) ^ (60 - s) = 2 ^ (29 - s) * 2147483648 := by
  rw [show (2147483648 : Int) = 2 ^ 31 from rfl, ← Int.pow_add]; congr 1; omega
 have hp : (0 : Int) < 2 ^ (29 - s) := Int.pow_pos (by decide)
 have h3 : a / 2 ^ (60 - s) ≤ a / 2147483648 := by
  rw [e, Int.mul_comm, ← Int.ediv_ediv_of_nonneg (by decide)]
  exact Int.ediv_le_self _ (Int.ediv_nonneg (by omega) (by decide))
 have h4 : 0 ≤ a / 2 ^ (60 - s) := Int.ediv_nonneg (by omega) (by rw [e]; omega)
 intro i
 match i with
 | 0 => show 0 ≤ M0 ∧ M0 < 1073741824; omega
 | 1 => show 0 ≤ M1 ∧ M1 < 1073741824; omega
 | i + 2 => show 0 ≤ M2 ∧ M2 < 1073741824; omega
theorem parts_sum (B d0 d1 : Int) (h0 : bits .and .i64 B 1073741823 = d0) (h1 : B / 1073741824 = d1) : dsm d0 d1 2 = B := by
 rw [mask30] at h0
 show d0 + d1 * 1073741824 = B
 omega
theorem parts_bound (B d0 d1 : Int) (hB : -9007199254740992 < B ∧ B < 9007199254740992) (h0 : bits .and .i64 B 1073741823 = d0) (h1 : B / 1073741824 = d1) : ∀ j, -1073741824 ≤ dv d0 d1 j ∧ dv d0 d1 j < 1073741824 := by
 rw [mask30] at h0
 intro j
 match j with
 | 0 => show -1073741824 ≤ d0 ∧ d0 < 1073741824; omega
 | j + 1 => show -1073741824 ≤ d1 ∧ d1 < 1073741824; omega
structure Inv (C : List Int) (lo hi : Int) : Prop where
 lo0 : 0 ≤ lo ∧ lo ≤ 141
 hi0 : 0 ≤ hi ∧ hi ≤ 141
 zero : ∀ k : Nat, ((k : Int) < lo ∨ hi ≤ (k : Int)) → C.getD k 0 = 0
def pval (n x y : Int) : Int := sg (pneg x n != pneg y n) (pmag x n * pmag y n * 2 ^ (pexp x n + pexp y n + 2148).toNat)
theorem mlay0 (w : World) (b : Nat) (ac : List Value) (n x y : Int) (C : List Int) (lo hi : Int) (hM : MkAt w b ac n C lo hi) (ng1 ng2 : Bool) (a bb e1 e2 : Int) (hz : a = 0 ∨ bb = 0)
  (KP1 : Hid (∀ u, Calls Tryd.prog 63 #[.int .i64 x, .int .i64 n] u fun e w' => e = .returned (.tuple #[.bool ng1, .int .i64 a, .int .i64 e1, .bool true]) ∧ Kept u w'))
  (KP2 : Hid (∀ u, Calls Tryd.prog 63 #[.int .i64 y, .int .i64 n] u fun e w' => e = .returned (.tuple #[.bool ng2, .int .i64 bb, .int .i64 e2, .bool true]) ∧ Kept u w')) :
  Calls Tryd.prog 40 #[.pointer (some ⟨b, 0, none⟩), .int .i64 x, .int .i64 y] w fun e w' => e = .returned (.tuple #[]) ∧ Kept w w' := by
 have HM : Hid (∀ u, Kept w u → MkAt u b ac n C lo hi) := fun u k => hM.kept k
 have hw0 := hM.width
 by_cases ha : a = 0
 ·subst ha
  go_enter Tryd.func40, Tryd.ntmps40
  go_wp2_with fail
  refine (KP1.out _).mono ?_
  rintro e w1 ⟨rfl, k1⟩
  clear hw0
  have hw0 := (HM.out _ k1).width
  go_wp2_with fail
  refine (KP2.out _).mono ?_
  rintro e w2 ⟨rfl, k2⟩
  clear hw0
  go_wp2_with fail
  exact bodyPost_ret (v := .tuple #[]) (by simp [results, Tryd.results40, go_sem]) rfl ⟨rfl, k1.trans k2⟩
 ·obtain rfl : bb = 0 := by omega
  have y1 : (a == 0) = false := by rw [beq_eq_false_iff_ne]; exact ha
  go_enter Tryd.func40, Tryd.ntmps40
  go_wp2_with fail
  refine (KP1.out _).mono ?_
  rintro e w1 ⟨rfl, k1⟩
  clear hw0
  have hw0 := (HM.out _ k1).width
  go_wp2_with fail
  refine (KP2.out _).mono ?_
  rintro e w2 ⟨rfl, k2⟩
  clear hw0
  go_wp2_with fail
  exact bodyPost_ret (v := .tuple #[]) (by simp [results, Tryd.results40, go_sem]) rfl ⟨rfl, k1.trans k2⟩
theorem inv_step {C C' : List Int} {lo hi : Int} {f st : Nat} {V : Int} (h : Inv C lo hi) (hf : f + 5 ≤ 141) (hL : Ly C C' f st V) : Inv C' (min lo f) (max hi (f + 5)) := by
 have h1 := h.lo0
 have h2 := h.hi0
 refine ⟨by omega, by omega, fun k hk => ?_⟩
 rw [hL.out k (by omega)]
 exact h.zero k (by omega)
/- a finite float of the width, by its parts -/
structure FinP (n x : Int) : Prop where
 r1 : -9223372036854775808 ≤ x
 r2 : x ≤ 9223372036854775807
 fin : fin x n = true
 m : 0 ≤ pmag x n ∧ pmag x n < 9007199254740992
 e : -1074 ≤ pexp x n ∧ pexp x n ≤ 971
theorem lay_fin (w : World) (b : Nat) (ac : List Value) (n x y : Int) (C : List Int) (hC : ∀ k, -1152921504606846976 ≤ C.getD k 0 ∧ C.getD k 0 ≤ 1152921504606846976) (lo hi : Int) (hM : MkAt w b ac n C lo hi) (hI : Inv C lo hi) (hx : FinP n x) (hy : FinP n y) :
  Calls Tryd.prog 40 #[.pointer (some ⟨b, 0, none⟩), .int .i64 x, .int .i64 y] w fun e w' => e = .returned (.tuple #[]) ∧ ∃ C' lo' hi', MkAt w' b ac n C' lo' hi' ∧ Inv C' lo' hi' ∧ cv C' = cv C + pval n x y ∧ (∀ k, -12884901888 ≤ C'.getD k 0 - C.getD k 0 ∧ C'.getD k 0 - C.getD k 0 ≤ 12884901888) ∧ Grw b w w' := by
 have KP1 : Hid (∀ u, Calls Tryd.prog 63 #[.int .i64 x, .int .i64 n] u fun e w' => e = .returned (.tuple #[.bool (pneg x n), .int .i64 (pmag x n), .int .i64 (pexp x n), .bool true]) ∧ Kept u w') := fun u => by
  have := parts_any x n hx.r1 hx.r2 u
  rw [hx.fin] at this
  exact this
 have KP2 : Hid (∀ u, Calls Tryd.prog 63 #[.int .i64 y, .int .i64 n] u fun e w' => e = .returned (.tuple #[.bool (pneg y n), .int .i64 (pmag y n), .int .i64 (pexp y n), .bool true]) ∧ Kept u w') := fun u => by
  have := parts_any y n hy.r1 hy.r2 u
  rw [hy.fin] at this
  exact this
 have m1 := hx.m
 have m2 := hy.m
 have e1 := hx.e
 have e2 := hy.e
 unfold pval
 generalize pneg x n = ng1 at *
 generalize pneg y n = ng2 at *
 generalize pmag x n = a at *
 generalize pmag y n = bb at *
 generalize pexp x n = x1 at *
 generalize pexp y n = x2 at *
 by_cases hz : a = 0 ∨ bb = 0
 ·refine (mlay0 w b ac n x y C lo hi hM ng1 ng2 a bb x1 x2 hz KP1 KP2).mono ?_
  rintro e w' ⟨rfl, k⟩
  refine ⟨rfl, C, lo, hi, hM.kept k, hI, ?_, fun k => by omega, k.toGrw b⟩
  have : a * bb = 0 := by rcases hz with h | h <;> simp [h]
  rw [this]
  simp [sg]
 ·obtain ⟨f, hf⟩ : ∃ f : Nat, (x1 + x2 + 2148) / 30 = (f : Int) := ⟨((x1 + x2 + 2148) / 30).toNat, by omega⟩
  obtain ⟨s, hs⟩ : ∃ s : Nat, (x1 + x2 + 2148) % 30 = (s : Int) := ⟨((x1 + x2 + 2148) % 30).toNat, by omega⟩
  have hp : x1 + x2 + 2148 = 30 * (f : Int) + s := by omega
  have ht : (x1 + x2 + 2148).toNat = s + 30 * f := by omega
  cases hb : (ng1 != ng2) with
  | false =>
   obtain rfl : ng1 = ng2 := by simpa using hb
   refine (mlay w b ac n x y C hC lo hi hM ng1 a bb x1 x2 f s (by omega) hp (by omega) (by omega) (by omega) e1 e2 _ _ _ _ _ (moved_bound a (by omega) s (by omega) _ _ _ rfl rfl rfl) (parts_bound bb _ _ (by omega) rfl rfl) rfl rfl rfl rfl rfl KP1 KP2).mono ?_
   rintro e w' ⟨rfl, C', hM', hL, hg⟩
   refine ⟨rfl, C', _, _, hM', inv_step hI (by omega) hL, ?_, fun k => by have := hL.near k; omega, hg⟩
   have hv := hL.val
   rw [moved_sum a s (by omega) _ _ _ rfl rfl rfl, parts_sum bb _ _ rfl rfl] at hv
   rw [hv, ht, Int.pow_add]
   simp only [sg, Bool.false_eq_true, if_false]
   congr 1
   simp only [Int.mul_assoc, Int.mul_comm, Int.mul_left_comm]
  | true =>
   obtain rfl : ng2 = !ng1 := by cases ng1 <;> cases ng2 <;> simp_all
   refine (mlayn w b ac n x y C hC lo hi hM ng1 a bb x1 x2 f s (by omega) hp (by omega) (by omega) (by omega) e1 e2 _ _ _ _ _ (moved_bound a (by omega) s (by omega) _ _ _ rfl rfl rfl) (parts_bound (-bb) _ _ (by omega) rfl rfl) rfl rfl rfl rfl rfl KP1 KP2).mono ?_
   rintro e w' ⟨rfl, C', hM', hL, hg⟩
   refine ⟨rfl, C', _, _, hM', inv_step hI (by omega) hL, ?_, fun k => by have := hL.near k; omega, hg⟩
   have hv := hL.val
   rw [moved_sum a s (by omega) _ _ _ rfl rfl rfl, parts_sum (-bb) _ _ rfl rfl] at hv
   rw [hv, ht, Int.pow_add]
   simp only [sg, if_true]
   congr 1
   simp only [Int.mul_assoc, Int.mul_comm, Int.mul_left_comm, Int.mul_neg, Int.neg_mul]
theorem special_any (w : World) (b q : Nat) (ac : List Value) (n x : Int) (C : List Int) (lo hi : Int) (hM : MkAt w b ac n C lo hi) (hq : w.cell? ⟨q, 0, none⟩ = some (.pointer (some ⟨b, 0, none⟩))) (v : Int) (KC : Hid (∀ u, Calls Tryd.prog 39 #[.int .i64 x, .int .i64 n] u fun e w' => e = .returned (.int .i64 v) ∧ Kept u w')) :
  Calls Tryd.prog 38 #[.int .i64 x, .pointer (some ⟨q, 0, none⟩)] w fun e w' => e = .returned (.bool (decide (3 ≤ v))) ∧ Kept w w' := by
 have hw0 := hM.width
 go_enter Tryd.func38, Tryd.ntmps38
 go_wp2_with fail
 refine (KC.out _).mono ?_
 rintro e w1 ⟨rfl, k1⟩
 go_wp2_with fail
 go_ret
 exact ⟨rfl, k1⟩
theorem add_fin (w : World) (b : Nat) (ac : List Value) (n x y : Int) (C : List Int) (lo hi : Int) (hM : MkAt w b ac n C lo hi) (v1 v2 : Int) (hx : v1 < 3) (hy : v2 < 3) (Post : World → Prop)
  (KC1 : Hid (∀ u, Calls Tryd.prog 39 #[.int .i64 x, .int .i64 n] u fun e w' => e = .returned (.int .i64 v1) ∧ Kept u w'))
  (KC2 : Hid (∀ u, Calls Tryd.prog 39 #[.int .i64 y, .int .i64 n] u fun e w' => e = .returned (.int .i64 v2) ∧ Kept u w'))
  (KL : Hid (∀ u, Kept w u → Calls Tryd.prog 40 #[.pointer (some ⟨b, 0, none⟩), .int .i64 x, .int .i64 y] u fun e w' => e = .returned (.tuple #[]) ∧ Post w')) :
  Calls Tryd.prog 22 #[.pointer (some ⟨b, 0, none⟩), .int .i64 x, .int .i64 y] w fun e w' => e = .returned (.tuple #[]) ∧ Post w' := by
 have d1 : decide (3 ≤ v1) = false := decide_eq_false (by omega)
 have d2 : decide (3 ≤ v2) = false := decide_eq_false (by omega)
 obtain ⟨X, hX⟩ : ∃ X, X = w.alloc (.cells #[.pointer (some ⟨b, 0, none⟩)] 85) := ⟨_, rfl⟩
 have k0 : Kept w X := by rw [hX]; exact (Kept.refl w).alloc _ _
 have HQ : Hid (∀ u, Kept X u → u.cell? ⟨w.heap.size, 0, none⟩ = some (.pointer (some ⟨b, 0, none⟩))) := fun u k => by
  have hb : w.heap.size < X.heap.size := by rw [hX]; simp
  refine (k.below.cell (p := ⟨w.heap.size, 0, none⟩) hb).trans ?_
  rw [hX]
  simp [go_sem]
 have HS1 : Hid (∀ u, Kept X u → Calls Tryd.prog 38 #[.int .i64 x, .pointer (some ⟨w.heap.size, 0, none⟩)] u fun e w' => e = .returned (.bool false) ∧ Kept u w') := fun u k => by
  have := special_any u b w.heap.size ac n x C lo hi (hM.kept (k0.trans k)) (HQ.out u k) v1 KC1
  rw [d1] at this
  exact this
 have HS2 : Hid (∀ u, Kept X u → Calls Tryd.prog 38 #[.int .i64 y, .pointer (some ⟨w.heap.size, 0, none⟩)] u fun e w' => e = .returned (.bool false) ∧ Kept u w') := fun u k => by
  have := special_any u b w.heap.size ac n y C lo hi (hM.kept (k0.trans k)) (HQ.out u k) v2 KC2
  rw [d2] at this
  exact this
 clear hM KC1 KC2 d1 d2 hx hy
 go_enter Tryd.func22, Tryd.ntmps22
 go_upto_region 1 with fail
 rw [← hX]
 clear hX
 go_wp2_with fail
 refine (HS1.out _ (Kept.refl _)).mono ?_
 rintro e w1 ⟨rfl, k1⟩
 go_wp2_with fail
 refine (HS2.out _ k1).mono ?_
 rintro e w2 ⟨rfl, k2⟩
 have hq := HQ.out _ (k1.trans k2)
 go_wp2_with fail
 refine (KL.out _ (k0.trans (k1.trans k2))).mono ?_
 rintro e w3 ⟨rfl, h3⟩
 go_wp2_with fail
 exact bodyPost_ret (v := .tuple #[]) (by simp [results, Tryd.results22, go_sem]) rfl ⟨rfl, h3⟩
end Go.Proofs.YtpkeadfndgddlaaDoor
