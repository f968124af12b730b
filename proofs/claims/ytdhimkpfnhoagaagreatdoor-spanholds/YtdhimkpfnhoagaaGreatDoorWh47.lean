/- Package span: what comes of an end divided by another one. -/
import Derived.Test.YtdhimkpfnhoagaaGreatDoorWh34
import Derived.Test.YtdhimkpfnhoagaaGreatDoorWh46
namespace Go.Proofs.YtdhimkpfnhoagaaGreatDoor
open Go.ChangeShapes Go.WideShapes Go.ChangeAt Go.RowKit Ieee
set_option linter.unusedVariables false
set_option linter.unusedSimpArgs false

theorem divF (f : Format) (hb : f.binade ≤ f.infRung) (x y : Nat) (hx : rung f x = f.infRung) (hy : rung f y < f.infRung) : f.div x y = some (f.word (below f x ^^ below f y) f.infRung) := by
  obtain ⟨m, i, ey, -⟩ := read_num f y hy
  unfold Format.div
  rw [read_inf f x hx hb, ey]
  rfl
theorem inf_div {n : Int} {x y : Nat} {k j : Int} (hx : Fl n x k) (hy : Fl n y j) (hk : k = (ifn n : Int) ∨ k = -(ifn n : Int)) (hj : -(ifn n : Int) < j ∧ j < (ifn n : Int)) (hj0 : j ≠ 0) : FloatKind.f64.format.div x y = some (FloatKind.f64.format.word (decide (k < 0) ^^ decide (j < 0)) FloatKind.f64.format.infRung) := by
  obtain ⟨p1, p2, p3⟩ := hx.parts
  obtain ⟨q1, q2, q3⟩ := hy.parts
  have hle := hy.le
  have hpos := ifn_p n
  have hy2 : rung FloatKind.f64.format y < FloatKind.f64.format.infRung := by
    have : rung FloatKind.f64.format y ≠ FloatKind.f64.format.infRung := fun e => by have := q2.1 e; omega
    omega
  rw [divF FloatKind.f64.format hb64 x y (p2.2 hk) hy2, p3 (by omega), q3 hj0]
set_option maxHeartbeats 2000000 in
set_option maxRecDepth 100000 in
theorem quotient_walk (n way : Int) (x y z : Nat) (s1 s2 : Bool) (w : World)
    (KI : Hid (∀ u v s, (v = x ∧ s = s1 ∨ v = y ∧ s = s2) → Calls Tryz.prog 122 #[.float .f64 v, .int .i64 0] u fun e w' => e = .returned (.bool s) ∧ u = w'))
    (hz : s2 = true → z = 0) (hm : s2 = false → s1 = true → FloatKind.f64.format.div x y = some z)
    (a b : Nm) (rz : Int) (ox : Bool)
    (KX : Hid (s2 = false → s1 = false → ∀ u v c, (v = x ∧ c = a ∨ v = y ∧ c = b) → Kept w u → Calls Tryz.prog 123 #[.float .f64 v] u fun e w' => ∃ v, e = .returned v ∧ New u w' v c ∧ Kept u w'))
    (KQ : Hid (s2 = false → s1 = false → ∀ u a1 c1 a2 c2, Kept w u → Sl u (.slice a1 a.mag.length c1) a.mag → Sl u (.slice a2 b.mag.length c2) b.mag → Calls Tryz.prog 27 #[.agg #[.bool a.neg, .slice a1 a.mag.length c1, .int .i64 a.exp], .agg #[.bool b.neg, .slice a2 b.mag.length c2, .int .i64 b.exp], .int .i64 n, .int .i64 way] u fun e w' => e = .returned (.tuple #[.int .i64 rz, .bool ox, .int .i64 0]) ∧ Kept u w'))
    (KF : Hid (s2 = false → s1 = false → ∀ u, Calls Tryz.prog 125 #[.int .i64 rz, .int .i64 n] u fun e w' => e = .returned (.float .f64 z) ∧ Kept u w')) :
    Calls Tryz.prog 78 #[.float .f64 x, .float .f64 y, .int .i64 n, .int .i64 way] w fun e w' => e = .returned (.float .f64 z) ∧ Kept w w' := by
  cases s2
  · cases s1
    · have KX' := KX.out rfl rfl
      have KX2 : Hid (∀ u v c, (v = x ∧ c = a ∨ v = y ∧ c = b) → Kept w u → Calls Tryz.prog 123 #[.float .f64 v] u fun e w' => ∃ v, e = .returned v ∧ New u w' v c ∧ Kept u w') := KX.out rfl rfl
      have KQ2 : Hid (∀ u a1 c1 a2 c2, Kept w u → Sl u (.slice a1 a.mag.length c1) a.mag → Sl u (.slice a2 b.mag.length c2) b.mag → Calls Tryz.prog 27 #[.agg #[.bool a.neg, .slice a1 a.mag.length c1, .int .i64 a.exp], .agg #[.bool b.neg, .slice a2 b.mag.length c2, .int .i64 b.exp], .int .i64 n, .int .i64 way] u fun e w' => e = .returned (.tuple #[.int .i64 rz, .bool ox, .int .i64 0]) ∧ Kept u w') := KQ.out rfl rfl
      have KF2 : Hid (∀ u, Calls Tryz.prog 125 #[.int .i64 rz, .int .i64 n] u fun e w' => e = .returned (.float .f64 z) ∧ Kept u w') := KF.out rfl rfl
      clear KX KQ KF hz hm
      go_enter Tryz.func78, Tryz.ntmps78
      go_upto_region 5 with (first | (go_at_call 122; refine (KI.out _ _ _ (by first | exact .inl ⟨rfl, rfl⟩ | exact .inr ⟨rfl, rfl⟩)).mono ?_; rintro e w1 ⟨rfl, rfl⟩))
      go_wp2_with fail
      refine (KX2.out _ _ _ (.inl ⟨rfl, rfl⟩) (Kept.refl _)).mono ?_
      rintro e w1 ⟨v, rfl, hN1, k1⟩
      obtain ⟨vn, va, vl, vc, vx, rfl⟩ := hN1.shape
      obtain ⟨rfl, rfl, rfl, hs1⟩ := new_parts hN1
      have HS1 : Hid (Sl w1 (.slice va a.mag.length vc) a.mag) := hs1
      clear hN1 hs1
      go_wp2_with fail
      refine (KX2.out _ _ _ (.inr ⟨rfl, rfl⟩) k1).mono ?_
      rintro e w2 ⟨v, rfl, hN2, k2⟩
      obtain ⟨vn, vb, vl, vd, vx, rfl⟩ := hN2.shape
      obtain ⟨rfl, rfl, rfl, hs2⟩ := new_parts hN2
      have HS2 : Hid (Sl w2 (.slice vb b.mag.length vd) b.mag) := hs2
      clear hN2 hs2
      go_wp2_with fail
      refine (KQ2.out _ _ _ _ _ (k1.trans k2) (HS1.out.kept k2) HS2.out).mono ?_
      rintro e w3 ⟨rfl, k3⟩
      have j3 := (k1.trans k2).trans k3
      clear KX2 KQ2 KI HS1 HS2
      go_wp2_with (first | (go_at_call 125; refine (KF2.out _).mono ?_; rintro e w5 ⟨rfl, k5⟩))
      go_ret
      exact ⟨rfl, j3.trans k5⟩
    · have hd := hm rfl rfl
      have hx : ∀ wx : World, (binOp .quo 85 (.float .f64 x) (.float .f64 y)).run Tryz.prog wx = .ok (.float .f64 z) wx := fun wx => run_float_arith wx .quo 85 .f64 x y z hd
      clear hd hm hz KX KQ KF
      go_enter Tryz.func78, Tryz.ntmps78
      go_wp2_with (first | (go_at_call 122; refine (KI.out _ _ _ (by first | exact .inl ⟨rfl, rfl⟩ | exact .inr ⟨rfl, rfl⟩)).mono ?_; rintro e w1 ⟨rfl, rfl⟩))
      go_ret
      exact ⟨rfl, Kept.refl _⟩
  · have hz0 := hz rfl
    subst hz0
    clear hm hz KX KQ KF
    go_enter Tryz.func78, Tryz.ntmps78
    go_wp2_with (first | (go_at_call 122; refine (KI.out _ _ _ (.inr ⟨rfl, rfl⟩)).mono ?_; rintro e w1 ⟨rfl, rfl⟩))
    go_ret
    exact ⟨rfl, Kept.refl _⟩
/-- a quotient of two finite ends: its dividend with the divisor's sign, at a fine place -/
def qZ (n k1 k2 : Int) : Int := if k2 < 0 then -kvz n (-2600) k1 else kvz n (-2600) k1
/-- the size of a divisor -/
def qW (n k2 : Int) : Int := if k2 < 0 then -kvz n (-1300) k2 else kvz n (-1300) k2
/-- the greatest float that is not greater than a quotient -/
structure Qd (n Z U d : Int) : Prop where
  low : -(ifn n : Int) ≤ d
  high : d < (ifn n : Int)
  fin : -(ifn n : Int) < d → kvz n (-1300) d * U ≤ Z
  nxt : d + 1 < (ifn n : Int) → Z < kvz n (-1300) (d + 1) * U
/-- the quotient of two ends, rounded: its key -/
def Qrk (n way k1 k2 K : Int) : Prop :=
  ((k2 = (ifn n : Int) ∨ k2 = -(ifn n : Int)) ∧ K = 0) ∨
  ((-(ifn n : Int) < k2 ∧ k2 < (ifn n : Int)) ∧ (k1 = (ifn n : Int) ∨ k1 = -(ifn n : Int)) ∧ K = (if (decide (k1 < 0) ^^ decide (k2 < 0)) = true then -(ifn n : Int) else (ifn n : Int))) ∨
  ((-(ifn n : Int) < k2 ∧ k2 < (ifn n : Int)) ∧ (-(ifn n : Int) < k1 ∧ k1 < (ifn n : Int)) ∧ (way = 1 → Qd n (qZ n k1 k2) (qW n k2) K) ∧ (way = 2 → Qd n (-qZ n k1 k2) (qW n k2) (-K)))
theorem vld_last (a : Nm) (h : vld a = true) (hne : a.mag ≠ []) : a.mag.getD (a.mag.length - 1) 0 ≠ 0 := by
  unfold vld at h
  rw [if_neg hne] at h
  unfold vldN at h
  simp only [Bool.and_eq_true, bne_iff_ne] at h
  exact h.1.1.1.2
theorem kvz_sgn (n s k : Int) (hn : n = 64 ∨ n = 32) : (0 < k ↔ 0 < kvz n s k) ∧ (k < 0 ↔ kvz n s k < 0) ∧ (k = 0 ↔ kvz n s k = 0) := by
  have h0 := kvz_zero n s
  rcases Int.lt_trichotomy k 0 with h | h | h
  · have := kvz_lt n s hn k 0 h
    omega
  · subst h; omega
  · have := kvz_lt n s hn 0 k h
    omega
/- exact.Quot of two floats' numbers, neither of which is 0 -/
theorem quot_fl (n : Int) (hn : n = 64 ∨ n = 32) (way : Int) (hw : way = 1 ∨ way = 2) (x y : Nat) (k j : Int) (hx : Fl n x k) (hy : Fl n y j) (bk : -(ifn n : Int) < k ∧ k < (ifn n : Int)) (bj : -(ifn n : Int) < j ∧ j < (ifn n : Int)) (hj0 : j ≠ 0) (cx : cls (of64 x) 64 < 3) (cy : cls (of64 y) 64 < 3) : ∃ K ox, ((way = 1 → Qd n (qZ n k j) (qW n j) K) ∧ (way = 2 → Qd n (-qZ n k j) (qW n j) (-K))) ∧ (-(ifn n : Int) ≤ K ∧ K ≤ (ifn n : Int)) ∧ ∀ (a1 a2 : Option Addr) (c1 c2 : Nat) (w : World), Tab w → Sl w (.slice a1 (ofN (of64 x) 64).mag.length c1) (ofN (of64 x) 64).mag → Sl w (.slice a2 (ofN (of64 y) 64).mag.length c2) (ofN (of64 y) 64).mag → Calls Tryz.prog 27 #[.agg #[.bool (ofN (of64 x) 64).neg, .slice a1 (ofN (of64 x) 64).mag.length c1, .int .i64 (ofN (of64 x) 64).exp], .agg #[.bool (ofN (of64 y) 64).neg, .slice a2 (ofN (of64 y) 64).mag.length c2, .int .i64 (ofN (of64 y) 64).exp], .int .i64 n, .int .i64 way] w fun e w' => e = .returned (.tuple #[.int .i64 (pz n K), .bool ox, .int .i64 0]) ∧ Kept w w' := by
  have hjs := kvz_sgn n (-1300) j hn
  have hks := kvz_sgn n (-2600) k hn
  obtain ⟨ea, la, va⟩ := of_zw x cx
  obtain ⟨eb, lb, vb⟩ := of_zw y cy
  rw [zw_val hx bk.1 bk.2] at va
  rw [zw_val hy bj.1 bj.2] at vb
  have hkl : (-1074 : Int) ≤ kleast n := by rcases hn with rfl | rfl <;> decide
  have va2 : vz (-2600) (ofN (of64 x) 64) = kvz n (-2600) k := by rw [vz_down (-2600) (-1074) _ (by decide) la.low, kvz_down n (-2600) (-1074) k (by decide) hkl, va]
  have vb2 : vz (-1300) (ofN (of64 y) 64) = kvz n (-1300) j := by rw [vz_down (-1300) (-1074) _ (by decide) lb.low, kvz_down n (-1300) (-1074) j (by decide) hkl, vb]
  obtain ⟨okA, rgA, lnA⟩ := of_valid (of64 x) 64 (.inl rfl) cx
  obtain ⟨okB, rgB, lnB⟩ := of_valid (of64 y) 64 (.inl rfl) cy
  have bits53 : ∀ p : Int, cls p 64 < 3 → (ofN p 64).mag ≠ [] → bl (nv (ofN p 64).mag) ≤ 53 ∧ (ofN p 64).mag.length ≤ 2 := fun p hc hne => by
    obtain ⟨q1, q2, q3, q4⟩ := fin_parts p hc
    have hz : pmag p 64 ≠ 0 := fun h => hne (by rw [(of_zero p 64 h).2])
    have e := (of_some p 64 (.inl rfl) hc hz).2
    have hb53 := (bl_mag p 64 (.inl rfl) hc).2
    obtain ⟨v, hv⟩ : ∃ v, v = (pmag p 64).toNat := ⟨_, rfl⟩
    rw [← hv] at e hb53
    have hnv : nv (ofN p 64).mag = v / 2 ^ tzn v := by rw [e]; exact nv_digs _
    have hle : v / 2 ^ tzn v ≤ v := Nat.div_le_self _ _
    have hbl : bl (nv (ofN p 64).mag) ≤ 53 := by
      rw [hnv]
      exact bl_le _ _ (Nat.lt_of_le_of_lt hle (Nat.lt_of_lt_of_le (bl_lt v) (Nat.pow_le_pow_right (by decide) hb53)))
    refine ⟨hbl, ?_⟩
    obtain ⟨-, hD⟩ := vld_dg _ _ _ (of_valid p 64 (.inl rfl) hc).1
    have hlast := vld_last _ (of_valid p 64 (.inl rfl) hc).1 hne
    have := (len_bl (ofN p 64).mag hD hne hlast).1
    omega
  have bitsA := bits53 (of64 x) cx
  have bitsB := bits53 (of64 y) cy
  clear bits53
  generalize ofN (of64 x) 64 = a at *
  generalize ofN (of64 y) 64 = b at *
  have sgA := vz_sign (-2600) a okA
  have sgB := vz_sign (-1300) b okB
  rw [va2] at sgA
  rw [vb2] at sgB
  have hbm : b.mag ≠ [] := fun h => by
    have := (sgB.2.2 h).2
    omega
  have hbn : b.neg = decide (j < 0) := by
    cases hb : b.neg
    · have := sgB.2.1 hb
      symm; rw [decide_eq_false_iff_not]; omega
    · have := sgB.1 hb
      symm; rw [decide_eq_true_eq]; omega
  have hUa : qW n j = ((nv b.mag * 2 ^ (b.exp - -1300).toNat : Nat) : Int) := by
    rw [← vz_abs (-1300) b, vb2]
    unfold qW
    split <;> omega
  have hUp : 0 < nv b.mag * 2 ^ (b.exp - -1300).toNat := by
    have : 0 < qW n j := by unfold qW; split <;> omega
    omega
  have hpos := ifn_p n
  by_cases hk : k = 0
  · have ham : a.mag = [] := by
      apply Classical.not_not.1
      intro hne
      have := vz_pos (-2600) a.neg a.mag a.exp hne okA
      have h2 := vz_abs (-2600) a
      rw [va2] at h2
      have := hks.2.2.1 hk
      omega
    have hz0 : qZ n k j = 0 := by
      unfold qZ
      rw [hks.2.2.1 hk]
      simp
    have q0 : Qd n 0 (qW n j) 0 := by
      refine ⟨by omega, by omega, fun _ => ?_, fun _ => ?_⟩
      · rw [kvz_zero]; simp
      · have h1 := (kvz_sgn n (-1300) (0 + 1) hn).1.1 (by decide)
        rw [hUa]
        exact Int.mul_pos h1 (by omega)
    refine ⟨0, false, ⟨fun _ => by rw [hz0]; exact q0, fun _ => by rw [hz0]; exact q0⟩, by omega, fun a1 a2 c1 c2 w hT h1 h2 => ?_⟩
    have hp0 : pz n 0 = 0 := by rcases hn with rfl | rfl <;> decide
    rw [hp0]
    exact quot_nought n way hn (by omega) a b rgA rgB (by omega) (by omega) a1 a2 c1 c2 w h1 h2 okA okB (by rw [ham]; rfl) (fun h => hbm (List.length_eq_zero_iff.1 h))
  · have ham : a.mag ≠ [] := fun h => by
      have := (sgA.2.2 h).2
      omega
    have han : a.neg = decide (k < 0) := by
      cases ha : a.neg
      · have := sgA.2.1 ha
        symm; rw [decide_eq_false_iff_not]; omega
      · have := sgA.1 ha
        symm; rw [decide_eq_true_eq]; omega
    have hA1 := la.low ham
    have hB1 := lb.low hbm
    obtain ⟨B53, L2⟩ := bitsB hbm
    obtain ⟨A53, LA2⟩ := bitsA ham
    obtain ⟨kk, Q, H, F, od, hf, rt, hC, hP⟩ := quotz_all n hn a b okA okB ham hbm (-1300) (by omega) (by omega) (by omega) (by unfold qex; omega) (by omega)
    have hVe : (2 : Int) * -1300 = -2600 := by decide
    rw [hVe] at hC
    have hVp : 0 < nv a.mag * 2 ^ (a.exp - -2600).toNat := by
      have h2 := vz_abs (-2600) a
      rw [va2] at h2
      omega
    have hVa : ∀ (g : Bool), g = (a.neg != b.neg) → qZ n k j = if g = true then -((nv a.mag * 2 ^ (a.exp - -2600).toNat : Nat) : Int) else ((nv a.mag * 2 ^ (a.exp - -2600).toNat : Nat) : Int) := fun g hg => by
      rw [← vz_abs (-2600) a, va2, hg, han, hbn]
      unfold qZ
      by_cases h1 : k < 0 <;> by_cases h2 : j < 0 <;> simp [h1, h2] <;> omega
    have qd1 := qd_of n hn (a.neg != b.neg) _ _ kk Q H F od hf rt hUp hVp hC
    have qd2 := qd_of n hn (!(a.neg != b.neg)) _ _ kk Q H F od hf rt hUp hVp hC
    have hm := (mgz_mir 2 (.inr (.inr rfl)) (a.neg != b.neg) (ifn n) F od hf rt).1
    rw [show mir 2 = 1 by decide] at hm
    rw [hm] at qd2
    have hVg := hVa _ rfl
    have le1 := mgz_le 1 (a.neg != b.neg) (ifn n) F od hf rt
    have le2 := mgz_le 2 (a.neg != b.neg) (ifn n) F od hf rt
    generalize hg : (a.neg != b.neg) = g at *
    have hkn : ∀ m : Nat, kyz (!g) m = -kyz g m := fun m => by cases g <;> simp [kyz]
    rw [hkn] at qd2
    rcases hw with rfl | rfl
    · refine ⟨kyz g (mgz 1 g (ifn n) F od hf rt), odz 1 g (ifn n) F od hf rt, ⟨fun _ => ?_, fun h => by cases h⟩, by unfold kyz; split <;> omega, fun a1 a2 c1 c2 w hT h1 h2 => hP 1 (by simp) a1 a2 c1 c2 w hT h1 h2⟩
      rw [hVg, hUa]
      exact ⟨qd1.low, qd1.high, fun h => (qd1.fin h).1, qd1.nxt⟩
    · refine ⟨kyz g (mgz 2 g (ifn n) F od hf rt), odz 2 g (ifn n) F od hf rt, ⟨fun h => (by cases h), fun _ => ?_⟩, by unfold kyz; split <;> omega, fun a1 a2 c1 c2 w hT h1 h2 => hP 2 (by simp) a1 a2 c1 c2 w hT h1 h2⟩
      have e : -qZ n k j = if (!g) = true then -((nv a.mag * 2 ^ (a.exp - -2600).toNat : Nat) : Int) else ((nv a.mag * 2 ^ (a.exp - -2600).toNat : Nat) : Int) := by
        rw [hVg]
        cases g <;> simp
      rw [e, hUa]
      exact ⟨qd2.low, qd2.high, fun h => (qd2.fin h).1, qd2.nxt⟩
theorem squot_any (n way : Int) (hn : n = 64 ∨ n = 32) (hw : way = 1 ∨ way = 2) (x y : Nat) (k j : Int) (hx : Fl n x k) (hy : Fl n y j) (hj0 : j ≠ 0) : ∃ z K, Qrk n way k j K ∧ Fl n z K ∧ ∀ w, Tab w → Calls Tryz.prog 78 #[.float .f64 x, .float .f64 y, .int .i64 n, .int .i64 way] w fun e w' => e = .returned (.float .f64 z) ∧ Kept w w' := by
  have rx := hx.rng
  have ry := hy.rng
  have hpos := ifn_p n
  have KI : Hid (∀ u v s, (v = x ∧ s = decide (k = (ifn n : Int) ∨ k = -(ifn n : Int)) ∨ v = y ∧ s = decide (j = (ifn n : Int) ∨ j = -(ifn n : Int))) → Calls Tryz.prog 122 #[.float .f64 v, .int .i64 0] u fun e w' => e = .returned (.bool s) ∧ u = w') := fun u v s h => by
    rcases h with ⟨rfl, rfl⟩ | ⟨rfl, rfl⟩
    · exact isInf_0 hx u
    · exact isInf_0 hy u
  by_cases hji : j = (ifn n : Int) ∨ j = -(ifn n : Int)
  · refine ⟨0, 0, .inl ⟨hji, rfl⟩, Fl.zero n hn, fun w _ => quotient_walk n way x y 0 _ _ w KI (fun _ => rfl) (fun h => ?_) ⟨false, [], 0⟩ ⟨false, [], 0⟩ 0 false (fun h => ?_) (fun h => ?_) (fun h => ?_)⟩
    all_goals exact absurd hji (of_decide_eq_false h)
  · have bj : -(ifn n : Int) < j ∧ j < (ifn n : Int) := by omega
    by_cases hki : k = (ifn n : Int) ∨ k = -(ifn n : Int)
    · refine ⟨_, _, .inr (.inl ⟨bj, hki, rfl⟩), Fl.infw n hn _, fun w _ => quotient_walk n way x y _ _ _ w KI (fun h => absurd (of_decide_eq_true h) hji) (fun _ _ => inf_div hx hy hki bj hj0) ⟨false, [], 0⟩ ⟨false, [], 0⟩ 0 false (fun _ h => ?_) (fun _ h => ?_) (fun _ h => ?_)⟩
      all_goals exact absurd hki (of_decide_eq_false h)
    · have bk : -(ifn n : Int) < k ∧ k < (ifn n : Int) := by omega
      obtain ⟨q, hq, hK, -⟩ := hx.wide
      obtain ⟨p, hp, hJ, -⟩ := hy.wide
      have qr := hq.rng
      have pr := hp.rng
      have t1 := hK.top
      have t2 := hK.bot
      have t3 := hJ.top
      have t4 := hJ.bot
      have cx := (zw_key hq (by omega) (by omega)).2.2
      have cy := (zw_key hp (by omega) (by omega)).2.2
      obtain ⟨K, ox, hQ, hr, hC⟩ := quot_fl n hn way hw x y k j hx hy bk bj hj0 cx cy
      have hrb := pz_range n K hn hr.1 hr.2
      have hfl := Fl.flv (pz_num n K hn hr.1 hr.2) hrb.1 hrb.2
      rw [pz_key n K hn hr.1 hr.2] at hfl
      refine ⟨flv (pz n K) n, K, .inr (.inr ⟨bj, bk, hQ.1, hQ.2⟩), hfl, fun w hT => quotient_walk n way x y _ _ _ w KI (fun h => absurd (of_decide_eq_true h) hji) (fun _ h => absurd (of_decide_eq_true h) hki) (ofN (of64 x) 64) (ofN (of64 y) 64) (pz n K) ox (fun _ _ u v c h k => ?_) (fun _ _ u a1 c1 a2 c2 k h1 h2 => hC a1 a2 c1 c2 u (hT.kept k) h1 h2) (fun _ _ u => sfloat_any _ n hrb.1 hrb.2 u)⟩
      rcases h with ⟨rfl, rfl⟩ | ⟨rfl, rfl⟩
      · exact exactOf_any _ q hq cx u (hT.kept k)
      · exact exactOf_any _ p hp cy u (hT.kept k)
end Go.Proofs.YtdhimkpfnhoagaaGreatDoor
