/- Package span: what a float adds to a sum, by values. -/
import Derived.Test.YtalhnaakbekboaaDoorV23
import Derived.Test.YtalhnaakbekboaaDoorV38
namespace Go.Proofs.YtalhnaakbekboaaDoor
open Go.ChangeShapes Go.WideShapes Go.ChangeAt Go.RowKit Ieee
set_option linter.unusedVariables false
set_option linter.unusedSimpArgs false

/-- a finite binary64 in units of 2^-1074 -/
def zw (x : Nat) : Int := sg (pneg (of64 x) 64) (pmag (of64 x) 64 * 2 ^ (pexp (of64 x) 64 + 1074).toNat)
set_option maxHeartbeats 1000000 in
theorem tadd_no (w : World) (b : Nat) (C : List Int) (f : Nat) (hT : TotAt w b C f) (x : Nat) (p : Int) (ng : Bool) (a ex : Int)
    (KO : Hid (∀ u, Calls Tryd.prog 83 #[.float .f64 x] u fun e w' => e = .returned (.int .i64 p) ∧ u = w'))
    (KP : Hid (∀ u, Calls Tryd.prog 49 #[.int .i64 p, .int .i64 64] u fun e w' => e = .returned (.tuple #[.bool ng, .int .i64 a, .int .i64 ex, .bool false]) ∧ Kept u w')) :
    Calls Tryd.prog 62 #[.pointer (some ⟨b, 0, none⟩), .float .f64 x] w fun e w' => e = .returned (.tuple #[]) ∧ TotAt w' b C x ∧ Grw b w w' := by
  have HM : Hid (∀ u, Kept w u → TotAt u b C f) := fun u k => hT.kept k
  have hSF := sto_f
  clear hT
  go_enter Tryd.func62, Tryd.ntmps62
  go_wp2_with (first | (go_at_call 83; refine (KO.out _).mono ?_; rintro e w1 ⟨rfl, rfl⟩) | (go_at_call 49; refine (KP.out _).mono ?_; rintro e w2 ⟨rfl, k2⟩; have hi := (HM.out _ k2).inf; have hf := (HM.out _ k2).fz 71))
  exact bodyPost_ret (v := .tuple #[]) (by simp [results, Tryd.results62, go_sem]) rfl ⟨rfl, (HM.out _ k2).setInf x, (k2.toGrw b).setCell _ _⟩
theorem fin_parts (p : Int) (hc : cls p 64 < 3) : 0 ≤ pmag p 64 ∧ pmag p 64 < 9007199254740992 ∧ -1074 ≤ pexp p 64 ∧ pexp p 64 ≤ 971 := by
  obtain ⟨h1, h2, h3, h4, -⟩ := fl_64 p hc
  exact ⟨h1, h2, h3, h4⟩
/-- the columns behind a float -/
structure Clm (C C' : List Int) (V : Int) : Prop where
  len : C'.length = 71
  val : cv C' = cv C + V
  near : ∀ k, -1073741824 ≤ C'.getD k 0 - C.getD k 0 ∧ C'.getD k 0 - C.getD k 0 ≤ 1073741824
theorem cl_three (C : List Int) (hl : C.length = 71) (fs : Nat) (hf : fs + 3 ≤ 71) (S M0 M1 M2 : Int) (hS : S = 1 ∨ S = -1) (hb0 : 0 ≤ M0 ∧ M0 < 1073741824) (hb1 : 0 ≤ M1 ∧ M1 < 1073741824) (hb2 : 0 ≤ M2 ∧ M2 < 1073741824) : Clm C (((C.set fs (C.getD fs 0 + S * M0)).set (fs + 1) (C.getD (fs + 1) 0 + S * M1)).set (fs + 2) (C.getD (fs + 2) 0 + S * M2)) (S * ws M0 M1 M2 3 * 2 ^ (30 * fs)) := by
  have g1 : (C.set fs (C.getD fs 0 + S * M0)).getD (fs + 1) 0 = C.getD (fs + 1) 0 := by rw [getD_set _ _ _ _ (by omega), if_neg (by omega)]
  have g2 : ((C.set fs (C.getD fs 0 + S * M0)).set (fs + 1) (C.getD (fs + 1) 0 + S * M1)).getD (fs + 2) 0 = C.getD (fs + 2) 0 := by rw [getD_set _ _ _ _ (by simp; omega), if_neg (by omega), getD_set _ _ _ _ (by omega), if_neg (by omega)]
  refine ⟨by simp [hl], ?_, fun k => ?_⟩
  · rw [cv_put _ _ (by simp; omega), cv_put _ _ (by simp; omega), cv_put _ _ (by omega), g1, g2]
    have e1 : (2 : Int) ^ (30 * (fs + 1)) = 1073741824 * 2 ^ (30 * fs) := by rw [show 30 * (fs + 1) = 30 + 30 * fs by omega, Int.pow_add]; rfl
    have e2 : (2 : Int) ^ (30 * (fs + 2)) = 1152921504606846976 * 2 ^ (30 * fs) := by rw [show 30 * (fs + 2) = 60 + 30 * fs by omega, Int.pow_add]; rfl
    rw [e1, e2]
    show _ = cv C + S * (M0 + M1 * 1073741824 + M2 * 1152921504606846976) * 2 ^ (30 * fs)
    generalize (2 : Int) ^ (30 * fs) = Q
    rw [show C.getD fs 0 + S * M0 - C.getD fs 0 = S * M0 by omega, show C.getD (fs + 1) 0 + S * M1 - C.getD (fs + 1) 0 = S * M1 by omega, show C.getD (fs + 2) 0 + S * M2 - C.getD (fs + 2) 0 = S * M2 by omega]
    simp only [Int.mul_add, Int.add_mul, Int.mul_assoc, Int.mul_comm, Int.mul_left_comm]
    omega
  · have m0 : -1073741824 ≤ S * M0 ∧ S * M0 ≤ 1073741824 := by rcases hS with rfl | rfl <;> omega
    have m1 : -1073741824 ≤ S * M1 ∧ S * M1 ≤ 1073741824 := by rcases hS with rfl | rfl <;> omega
    have m2 : -1073741824 ≤ S * M2 ∧ S * M2 ≤ 1073741824 := by rcases hS with rfl | rfl <;> omega
    rw [getD_set _ _ _ _ (by simp; omega), getD_set _ _ _ _ (by simp; omega), getD_set _ _ _ _ (by omega)]
    by_cases h2 : fs + 2 = k
    · rw [if_pos h2, ← h2]; omega
    · rw [if_neg h2]
      by_cases h1 : fs + 1 = k
      · rw [if_pos h1, ← h1]; omega
      · rw [if_neg h1]
        by_cases h0 : fs = k
        · rw [if_pos h0, ← h0]; omega
        · rw [if_neg h0]; omega
theorem tadd_any (w : World) (b : Nat) (C : List Int) (f : Nat) (hT : TotAt w b C f) (hC : ∀ k, -1152921504606846976 ≤ C.getD k 0 ∧ C.getD k 0 ≤ 1152921504606846976) (x : Nat) (q : Int) (hx : Fl 64 x q) :
    Calls Tryd.prog 62 #[.pointer (some ⟨b, 0, none⟩), .float .f64 x] w fun e w' => e = .returned (.tuple #[]) ∧ (∃ C', Clm C C' (if q = (ifn 64 : Int) ∨ q = -(ifn 64 : Int) then 0 else zw x) ∧ TotAt w' b C' (if q = (ifn 64 : Int) ∨ q = -(ifn 64 : Int) then x else f)) ∧ Grw b w w' := by
  obtain ⟨q', hq', hK, o1, o2, o3, o4, o5, o6⟩ := hx.wide
  have hqq : q' = q := by
    have h1 := hx.ord hx
    obtain ⟨c, c1, c2, c3, c4⟩ := hx
    have e : pat64 c = x := by rw [c4]; simp [fl]
    have e2 : keyOf (of64 x) 64 = keyOf c 64 := by rw [← key_64 _ o4 o5, ← key_64 _ c2.1 c2.2, o6, e]
    omega
  rw [hqq] at o3
  have KO : Hid (∀ u, Calls Tryd.prog 83 #[.float .f64 x] u fun e w' => e = .returned (.int .i64 (of64 x)) ∧ u = w') := fun u => of64_any x u
  have KP := fun u => parts_any (of64 x) 64 o4 o5 u
  have hf := fin_key (of64 x) 64 (.inl rfl) o2 ⟨o4, o5⟩
  rw [o3] at hf
  by_cases hi : q = (ifn 64 : Int) ∨ q = -(ifn 64 : Int)
  · simp only [if_pos hi]
    rw [decide_eq_false (fun h => h hi)] at hf
    rw [hf] at KP
    refine (tadd_no w b C f hT x _ _ _ _ KO (fun u => KP u)).mono ?_
    rintro e w' ⟨rfl, h1, h2⟩
    exact ⟨rfl, ⟨C, ⟨hT.len, by omega, fun k => by omega⟩, h1⟩, h2⟩
  · simp only [if_neg hi]
    rw [decide_eq_true hi] at hf
    rw [hf] at KP
    have hc : cls (of64 x) 64 < 3 := by
      unfold fin at hf
      rw [decide_eq_true_eq] at hf
      exact hf.2
    obtain ⟨p1, p2, p3, p4⟩ := fin_parts _ hc
    obtain ⟨fs, hfs⟩ : ∃ fs : Nat, (fs : Int) = (pexp (of64 x) 64 + 1074) / 30 := ⟨((pexp (of64 x) 64 + 1074) / 30).toNat, by omega⟩
    obtain ⟨s, hs⟩ : ∃ s : Nat, (s : Int) = (pexp (of64 x) 64 + 1074) % 30 := ⟨((pexp (of64 x) 64 + 1074) % 30).toNat, by omega⟩
    have hs30 : s < 30 := by omega
    have hpe : pexp (of64 x) 64 + 1074 = 30 * (fs : Int) + s := by omega
    have hfl : fs + 3 ≤ 71 := by omega
    obtain ⟨b0, b1, b2⟩ := moved_bound0 _ ⟨p1, p2⟩ s hs30 _ _ _ rfl rfl rfl
    have hws := moved_sum (pmag (of64 x) 64) s hs30 _ _ _ rfl rfl rfl
    have hz : ∀ S : Int, S * (pmag (of64 x) 64 * 2 ^ s) * 2 ^ (30 * fs) = S * (pmag (of64 x) 64 * 2 ^ (pexp (of64 x) 64 + 1074).toNat) := fun S => by
      rw [show (pexp (of64 x) 64 + 1074).toNat = s + 30 * fs by omega, Int.pow_add]
      simp only [Int.mul_assoc]
    cases hng : pneg (of64 x) 64
    · rw [hng] at KP
      refine (tadd_pos w b C f hT hC x _ _ _ fs s hs30 hpe hfl ⟨p3, p4⟩ _ _ _ b0 b1 b2 rfl rfl rfl KO (fun u => KP u)).mono ?_
      rintro e w' ⟨rfl, h1, h2⟩
      have hcl := cl_three C hT.len fs hfl 1 _ _ _ (.inl rfl) b0 b1 b2
      rw [hws, hz] at hcl
      refine ⟨rfl, ⟨_, ?_, h1⟩, h2⟩
      have : zw x = 1 * (pmag (of64 x) 64 * 2 ^ (pexp (of64 x) 64 + 1074).toNat) := by unfold zw; rw [hng]; simp [sg]
      rw [this]
      exact hcl
    · rw [hng] at KP
      refine (tadd_neg w b C f hT hC x _ _ _ fs s hs30 hpe hfl ⟨p3, p4⟩ _ _ _ b0 b1 b2 rfl rfl rfl KO (fun u => KP u)).mono ?_
      rintro e w' ⟨rfl, h1, h2⟩
      have hcl := cl_three C hT.len fs hfl (-1) _ _ _ (.inr rfl) b0 b1 b2
      rw [hws, hz] at hcl
      refine ⟨rfl, ⟨_, ?_, h1⟩, h2⟩
      have : zw x = -1 * (pmag (of64 x) 64 * 2 ^ (pexp (of64 x) 64 + 1074).toNat) := by unfold zw; rw [hng]; simp [sg]
      rw [this]
      exact hcl
end Go.Proofs.YtalhnaakbekboaaDoor
