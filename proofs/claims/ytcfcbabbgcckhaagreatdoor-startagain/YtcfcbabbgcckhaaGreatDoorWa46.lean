/- Package start: the float nearest to the root of 6 by n. -/
import Derived.Test.YtcfcbabbgcckhaaGreatDoorWa44
import Derived.Test.YtcfcbabbgcckhaaGreatDoorWa45
namespace Go.Proofs.YtcfcbabbgcckhaaGreatDoor
open Go.ChangeShapes Go.WideShapes Go.ChangeAt Go.RowKit
set_option maxHeartbeats 16000000
set_option maxRecDepth 100000
set_option linter.unusedVariables false
set_option linter.unusedSimpArgs false
def climbG (C : Nat → Bool) : Nat → Nat → Nat
 | 0,p => p
 | k + 1,p => if C p = true then climbG C k (p + 1) else p
theorem climbG_le (C : Nat → Bool) (k : Nat) : ∀ p,p ≤ climbG C k p ∧ climbG C k p ≤ p + k:=by
 induction k with
 | zero => intro p; exact ⟨Nat.le_refl _,Nat.le_refl _⟩
 | succ k ih =>
  intro p
  unfold climbG
  split
  ·have:=ih (p + 1); omega
  ·omega
theorem climb_prev (C : Nat → Bool) (k : Nat) : ∀ p L,climbG C k p = L → C (p - 1) = true → C (L - 1) = true:=by
 induction k with
 | zero => intro p L h hp; unfold climbG at h; rw [← h]; exact hp
 | succ k ih =>
  intro p L h hp
  unfold climbG at h
  by_cases hc : C p = true
  ·rw [if_pos hc] at h
   exact ih (p + 1) L h (by simpa using hc)
  ·rw [if_neg hc] at h
   rw [← h]
   exact hp
theorem climb64_g (n k : Nat) : ∀ p,climb64 n k p = climbG (cnd64 n) k p:=by
 induction k with
 | zero => intro p; rfl
 | succ k ih => intro p; unfold climb64 climbG; rw [ih]
theorem climb32_g (n k : Nat) : ∀ p,climb32 n k p = climbG (cnd32 n) k p:=by
 induction k with
 | zero => intro p; rfl
 | succ k ih => intro p; unfold climb32 climbG; rw [ih]
theorem root6_walk (n m s6 d q g : Int) (p0 L : Nat) (C : Nat → Bool) (hL : climbG C 4 p0 = L) (hC : C L = false) (w : World)
  (KF : Hid (∀ u a x,(a = 6 ∧ x = s6 ∨ a = n ∧ x = d) → Calls Tryz.prog 24 #[.int .i64 a,.int .i64 m] u fun e w' => e = .returned (.int .i64 x) ∧ u = w'))
  (KD : Hid (∀ u,Calls Tryz.prog 23 #[.int .i64 s6,.int .i64 d,.int .i64 m] u fun e w' => e = .returned (.int .i64 q) ∧ u = w'))
  (KQ : Hid (∀ u,Calls Tryz.prog 22 #[.int .i64 q,.int .i64 m] u fun e w' => e = .returned (.int .i64 g) ∧ u = w'))
  (KP : Hid (∀ u,Calls Tryz.prog 154 #[.int .i64 g,.int .i64 m] u fun e w' => e = .returned (.int .i64 p0) ∧ Kept u w'))
  (KN : Hid (∀ u (p : Nat),p0 ≤ p → p ≤ p0 + 4 → Kept w u → Calls Tryz.prog 155 #[.int .i64 p,.int .i64 n,.int .i64 m] u fun e w' => e = .returned (.bool (C p)) ∧ Kept u w'))
  (KX : Hid (∀ u (p : Nat),p0 ≤ p → p ≤ p0 + 4 → Calls Tryz.prog 21 #[.int .i64 p,.int .i64 m] u fun e w' => e = .returned (.int .i64 ((p + 1 : Nat) : Int)) ∧ Kept u w')) :
  Calls Tryz.prog 94 #[.int .i64 n,.int .i64 m] w fun e w' => e = .returned (.int .i64 L) ∧ Kept w w':=by
 have HL : Hid (climbG C 4 p0 = L):=hL
 have HC : Hid (C L = false):=hC
 clear hL hC
 go_enter Tryz.func94,Tryz.ntmps94
 go_wp2_with (first | (go_at_call 24; refine (KF.out _ _ _ (by first | exact .inl ⟨rfl,rfl⟩ | exact .inr ⟨rfl,rfl⟩)).mono ?_; rintro e w1 ⟨rfl,rfl⟩) | (go_at_call 23; refine (KD.out _).mono ?_; rintro e w2 ⟨rfl,rfl⟩) | (go_at_call 22; refine (KQ.out _).mono ?_; rintro e w3 ⟨rfl,rfl⟩) | (go_at_call 154; refine (KP.out _).mono ?_; rintro e w4 ⟨rfl,k4⟩))
 clear KF KD KQ KP
 go_loopw [6] (fun b wr => ∃ (k p : Nat),b = .int .i64 p ∧ p + k = p0 + 4 ∧ p0 ≤ p ∧ climbG C k p = L ∧ Kept w wr) (fun b _ => p0 + 5 - (intOf b).toNat)
 case atStart => exact ⟨4,p0,rfl,rfl,Nat.le_refl _,HL.out,k4⟩
 case round =>
  clear k4 HL
  obtain ⟨k,p,rfl,hk,hp,hcl,kr⟩:=hrel
  have hcl : Hid (climbG C k p = L):=hcl
  have KN2 : Hid (∀ u,Kept w u → Calls Tryz.prog 155 #[.int .i64 p,.int .i64 n,.int .i64 m] u fun e w' => e = .returned (.bool (C p)) ∧ Kept u w'):=fun u k => KN.out u p hp (by omega) k
  have KX2 : Hid (∀ u,Calls Tryz.prog 21 #[.int .i64 p,.int .i64 m] u fun e w' => e = .returned (.int .i64 ((p + 1 : Nat) : Int)) ∧ Kept u w'):=fun u => KX.out u p hp (by omega)
  clear KN KX
  by_cases hc : C p = true
  ·rw [hc] at KN2
   obtain ⟨k',rfl⟩ : ∃ k',k = k' + 1:=by
    cases k with
    | zero =>
     have h1 : p = L:=hcl.out
     have h2:=HC.out
     rw [← h1,hc] at h2
     cases h2
    | succ k' => exact ⟨k',rfl⟩
   have hcl2 : climbG C k' (p + 1) = L:=by
    have:=hcl.out
    unfold climbG at this
    rw [if_pos hc] at this
    exact this
   clear hcl hc HC
   go_wp2_with (first | (go_at_call 155; refine (KN2.out _ kr).mono ?_; rintro e w5 ⟨rfl,k5⟩) | (go_at_call 21; refine (KX2.out _).mono ?_; rintro e w6 ⟨rfl,k6⟩))
   go_roundw
   case rel => exact ⟨k',p + 1,rfl,by omega,by omega,hcl2,(kr.trans k5).trans k6⟩
   case measure => simp [intOf]; omega
  ·have hc0 : C p = false:=by simpa using hc
   rw [hc0] at KN2
   have hpL : p = L:=by
    have:=hcl.out
    cases k with
    | zero => exact this
    | succ k' =>
     unfold climbG at this
     rw [if_neg hc] at this
     exact this
   clear hcl hc HC hc0 KX2
   subst hpL
   go_wp2_with (first | (go_at_call 155; refine (KN2.out _ kr).mono ?_; rintro e w5 ⟨rfl,k5⟩))
   go_ret
   exact ⟨rfl,kr.trans k5⟩
end Go.Proofs.YtcfcbabbgcckhaaGreatDoor
