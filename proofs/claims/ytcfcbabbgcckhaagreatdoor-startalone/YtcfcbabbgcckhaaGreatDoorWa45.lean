/- Package start: the float nearest to the root of 6 by n. Package start: the float nearest to the root of 6 by n,for every n that comes up,in both widths. -/
import Derived.Test.YtcfcbabbgcckhaaGreatDoorWa43
import Derived.Test.YtcfcbabbgcckhaaGreatDoorWa44
namespace Go.Proofs.YtcfcbabbgcckhaaGreatDoor
open Go.ChangeShapes Go.WideShapes Go.ChangeAt Go.RowKit
set_option maxHeartbeats 16000000
set_option maxRecDepth 100000
set_option linter.unusedVariables false
set_option linter.unusedSimpArgs false
def climbG (C : Nat → Bool) : Nat → Nat → Nat
 | 0,p => p
 | k + 1,p => if C p = true then climbG C k (p + 1) else p
theorem climbG_le (C : Nat → Bool) (k : Nat) : ∀ p,p ≤ climbG C k p ∧ climbG C k p ≤ p + k:=by
 induction k with
 | zero => intro p; exact ⟨Nat.le_refl _,Nat.le_refl _⟩
 | succ k ih =>
  intro p
  unfold climbG
  split
  ·have:=ih (p + 1); omega
  ·omega
theorem climb_prev (C : Nat → Bool) (k : Nat) : ∀ p L,climbG C k p = L → C (p - 1) = true → C (L - 1) = true:=by
 induction k with
 | zero => intro p L h hp; unfold climbG at h; rw [← h]; exact hp
 | succ k ih =>
  intro p L h hp
  unfold climbG at h
  by_cases hc : C p = true
  ·rw [if_pos hc] at h
   exact ih (p + 1) L h (by simpa using hc)
  ·rw [if_neg hc] at h
   rw [← h]
   exact hp
theorem climb64_g (n k : Nat) : ∀ p,climb64 n k p = climbG (cnd64 n) k p:=by
 induction k with
 | zero => intro p; rfl
 | succ k ih => intro p; unfold climb64 climbG; rw [ih]
theorem climb32_g (n k : Nat) : ∀ p,climb32 n k p = climbG (cnd32 n) k p:=by
 induction k with
 | zero => intro p; rfl
 | succ k ih => intro p; unfold climb32 climbG; rw [ih]
theorem root6_walk (n m s6 d q g : Int) (p0 L : Nat) (C : Nat → Bool) (hL : climbG C 4 p0 = L) (hC : C L = false) (w : World)
  (KF : Hid (∀ u a x,(a = 6 ∧ x = s6 ∨ a = n ∧ x = d) → Calls Tryz.prog 24 #[.int .i64 a,.int .i64 m] u fun e w' => e = .returned (.int .i64 x) ∧ u = w'))
  (KD : Hid (∀ u,Calls Tryz.prog 23 #[.int .i64 s6,.int .i64 d,.int .i64 m] u fun e w' => e = .returned (.int .i64 q) ∧ u = w'))
  (KQ : Hid (∀ u,Calls Tryz.prog 22 #[.int .i64 q,.int .i64 m] u fun e w' => e = .returned (.int .i64 g) ∧ u = w'))
  (KP : Hid (∀ u,Calls Tryz.prog 154 #[.int .i64 g,.int .i64 m] u fun e w' => e = .returned (.int .i64 p0) ∧ Kept u w'))
  (KN : Hid (∀ u (p : Nat),p0 ≤ p → p ≤ p0 + 4 → Kept w u → Calls Tryz.prog 155 #[.int .i64 p,.int .i64 n,.int .i64 m] u fun e w' => e = .returned (.bool (C p)) ∧ Kept u w'))
  (KX : Hid (∀ u (p : Nat),p0 ≤ p → p ≤ p0 + 4 → Calls Tryz.prog 21 #[.int .i64 p,.int .i64 m] u fun e w' => e = .returned (.int .i64 ((p + 1 : Nat) : Int)) ∧ Kept u w')) :
  Calls Tryz.prog 94 #[.int .i64 n,.int .i64 m] w fun e w' => e = .returned (.int .i64 L) ∧ Kept w w':=by
 have HL : Hid (climbG C 4 p0 = L):=hL
 have HC : Hid (C L = false):=hC
 clear hL hC
 go_enter Tryz.func94,Tryz.ntmps94
 go_wp2_with (first | (go_at_call 24; refine (KF.out _ _ _ (by first | exact .inl ⟨rfl,rfl⟩ | exact .inr ⟨rfl,rfl⟩)).mono ?_; rintro e w1 ⟨rfl,rfl⟩) | (go_at_call 23; refine (KD.out _).mono ?_; rintro e w2 ⟨rfl,rfl⟩) | (go_at_call 22; refine (KQ.out _).mono ?_; rintro e w3 ⟨rfl,rfl⟩) | (go_at_call 154; refine (KP.out _).mono ?_; rintro e w4 ⟨rfl,k4⟩))
 clear KF KD KQ KP
 go_loopw [6] (fun b wr => ∃ (k p : Nat),b = .int .i64 p ∧ p + k = p0 + 4 ∧ p0 ≤ p ∧ climbG C k p = L ∧ Kept w wr) (fun b _ => p0 + 5 - (intOf b).toNat)
 case atStart => exact ⟨4,p0,rfl,rfl,Nat.le_refl _,HL.out,k4⟩
 case round =>
  clear k4 HL
  obtain ⟨k,p,rfl,hk,hp,hcl,kr⟩:=hrel
  have hcl : Hid (climbG C k p = L):=hcl
  have KN2 : Hid (∀ u,Kept w u → Calls Tryz.prog 155 #[.int .i64 p,.int .i64 n,.int .i64 m] u fun e w' => e = .returned (.bool (C p)) ∧ Kept u w'):=fun u k => KN.out u p hp (by omega) k
  have KX2 : Hid (∀ u,Calls Tryz.prog 21 #[.int .i64 p,.int .i64 m] u fun e w' => e = .returned (.int .i64 ((p + 1 : Nat) : Int)) ∧ Kept u w'):=fun u => KX.out u p hp (by omega)
  clear KN KX
  by_cases hc : C p = true
  ·rw [hc] at KN2
   obtain ⟨k',rfl⟩ : ∃ k',k = k' + 1:=by
    cases k with
    | zero =>
     have h1 : p = L:=hcl.out
     have h2:=HC.out
     rw [← h1,hc] at h2
     cases h2
    | succ k' => exact ⟨k',rfl⟩
   have hcl2 : climbG C k' (p + 1) = L:=by
    have:=hcl.out
    unfold climbG at this
    rw [if_pos hc] at this
    exact this
   clear hcl hc HC
   go_wp2_with (first | (go_at_call 155; refine (KN2.out _ kr).mono ?_; rintro e w5 ⟨rfl,k5⟩) | (go_at_call 21; refine (KX2.out _).mono ?_; rintro e w6 ⟨rfl,k6⟩))
   go_roundw
   case rel => exact ⟨k',p + 1,rfl,by omega,by omega,hcl2,(kr.trans k5).trans k6⟩
   case measure => simp [intOf]; omega
  ·have hc0 : C p = false:=by simpa using hc
   rw [hc0] at KN2
   have hpL : p = L:=by
    have:=hcl.out
    cases k with
    | zero => exact this
    | succ k' =>
     unfold climbG at this
     rw [if_neg hc] at this
     exact this
   clear hcl hc HC hc0 KX2
   subst hpL
   go_wp2_with (first | (go_at_call 155; refine (KN2.out _ kr).mono ?_; rintro e w5 ⟨rfl,k5⟩))
   go_ret
   exact ⟨rfl,kr.trans k5⟩
end Go.Proofs.YtcfcbabbgcckhaaGreatDoor

namespace Go.Proofs.YtcfcbabbgcckhaaGreatDoor
open Go.ChangeShapes Go.WideShapes Go.ChangeAt Go.RowKit Ieee
set_option maxHeartbeats 16000000
set_option maxRecDepth 100000
set_option linter.unusedVariables false
set_option linter.unusedSimpArgs false
theorem cls_pos64 (p : Nat) (h : p < 9218868437227405312) : cls (p : Int) 64 < 3 ∧ isnum (p : Int) 64 = true:=by
 have e : cls (p : Int) 64 < 3:=by
  unfold cls clsOf
  rw [if_pos rfl]
  repeat' split
  all_goals omega
 refine ⟨e,?_⟩
 rw [isnum_64]
 exact decide_eq_true (by omega)
theorem cls_pos32 (p : Nat) (h : p < 2139095040) : cls (p : Int) 32 < 3 ∧ isnum (p : Int) 32 = true:=by
 have e : cls (p : Int) 32 < 3:=by
  unfold cls clsOf
  rw [if_neg (by decide),if_pos rfl,if_pos (by omega)]
  repeat' split
  all_goals omega
 refine ⟨e,?_⟩
 rw [isnum_32]
 exact decide_eq_true (by omega)
theorem nxt_pos64 (p : Nat) (h : p < 9218868437227405312) : nxt (p : Int) 64 = ((p + 1 : Nat) : Int):=by
 unfold nxt
 rw [if_pos (cls_pos64 p h).2,if_pos rfl,if_neg (by omega),if_neg (by omega),if_neg (by omega)]
 omega
theorem nxt_pos32 (p : Nat) (h : p < 2139095040) : nxt (p : Int) 32 = ((p + 1 : Nat) : Int):=by
 unfold nxt
 rw [if_pos (cls_pos32 p h).2,if_neg (by decide),if_neg (by omega),if_neg (by omega),if_neg (by omega)]
 omega
theorem prv_pos64 (g : Nat) (h0 : 0 < g) (h : g < 9218868437227405312) : prv (g : Int) 64 = ((g - 1 : Nat) : Int):=by
 have e1 : ngt (g : Int) 64 = (g : Int) - 9223372036854775808:=by
  unfold ngt
  rw [if_pos (cls_pos64 g h).2,if_pos rfl,if_neg (by omega)]
 have e2 : isnum ((g : Int) - 9223372036854775808) 64 = true:=by
  rw [isnum_64]
  refine decide_eq_true ?_
  have : cls ((g : Int) - 9223372036854775808) 64 < 3:=by
   unfold cls clsOf
   rw [if_pos rfl]
   repeat' split
   all_goals omega
  omega
 have e3 : nxt ((g : Int) - 9223372036854775808) 64 = (g : Int) - 9223372036854775809:=by
  unfold nxt
  rw [if_pos e2,if_pos rfl,if_neg (by omega),if_neg (by omega),if_pos (by omega)]
  omega
 have e4 : isnum ((g : Int) - 9223372036854775809) 64 = true:=by
  rw [isnum_64]
  refine decide_eq_true ?_
  have : cls ((g : Int) - 9223372036854775809) 64 < 3:=by
   unfold cls clsOf
   rw [if_pos rfl]
   repeat' split
   all_goals omega
  omega
 unfold prv
 rw [e1,e3]
 unfold ngt
 rw [if_pos e4,if_pos rfl,if_pos (by omega)]
 omega
theorem prv_pos32 (g : Nat) (h0 : 0 < g) (h : g < 2139095040) : prv (g : Int) 32 = ((g - 1 : Nat) : Int):=by
 have e1 : ngt (g : Int) 32 = (g : Int) + 2147483648:=by
  unfold ngt
  rw [if_pos (cls_pos32 g h).2,if_neg (by decide),if_pos (by omega)]
 have e2 : isnum ((g : Int) + 2147483648) 32 = true:=by
  rw [isnum_32]
  refine decide_eq_true ?_
  have : cls ((g : Int) + 2147483648) 32 < 3:=by
   unfold cls clsOf
   rw [if_neg (by decide),if_pos rfl,if_pos (by omega)]
   repeat' split
   all_goals omega
  omega
 have e3 : nxt ((g : Int) + 2147483648) 32 = (g : Int) + 2147483647:=by
  unfold nxt
  rw [if_pos e2,if_neg (by decide),if_neg (by omega),if_neg (by omega),if_pos (by omega)]
  omega
 unfold prv
 rw [e1,e3]
 unfold ngt
 by_cases hg : g = 0
 ·omega
 have e4 : isnum ((g : Int) + 2147483647) 32 = true:=by
  rw [isnum_32]
  refine decide_eq_true ?_
  have : cls ((g : Int) + 2147483647) 32 < 3:=by
   unfold cls clsOf
   rw [if_neg (by decide),if_pos rfl,if_pos (by omega)]
   repeat' split
   all_goals omega
  omega
 rw [if_pos e4,if_neg (by decide),if_neg (by omega)]
 omega
theorem zf_vn64 (p : Nat) (h0 : 4503599627370496 ≤ p) (h : p < 9218868437227405312) : zf (p : Int) 64 = (vn64 p : Int):=by
 have hf : fin (p : Int) 64 = true:=by unfold fin; exact decide_eq_true ⟨.inl rfl,(cls_pos64 p h).1⟩
 have hs : sgn (p : Int) 64 = false:=by unfold sgn; rw [if_pos rfl]; exact decide_eq_false (by omega)
 have e1 : pneg (p : Int) 64 = false:=by unfold pneg; rw [hf,hs]; rfl
 have e2 : pmag (p : Int) 64 = ((p % 4503599627370496 + 4503599627370496 : Nat) : Int):=by
  unfold pmag
  rw [if_pos hf,if_pos rfl,if_neg (by omega)]
  omega
 have e3 : (pexp (p : Int) 64 + 1074).toNat = p / 4503599627370496 - 1 + 0:=by
  unfold pexp
  rw [if_pos hf,if_pos rfl,if_neg (by omega)]
  omega
 unfold zf vn64
 rw [e1,e2,e3]
 simp [sg]
theorem zf_vn32 (p : Nat) (h0 : 8388608 ≤ p) (h : p < 2139095040) : zf (p : Int) 32 = (vn32 p : Int):=by
 have hf : fin (p : Int) 32 = true:=by unfold fin; exact decide_eq_true ⟨.inr rfl,(cls_pos32 p h).1⟩
 have hs : sgn (p : Int) 32 = false:=by unfold sgn; rw [if_neg (by decide)]; exact decide_eq_false (by omega)
 have e1 : pneg (p : Int) 32 = false:=by unfold pneg; rw [hf,hs]; rfl
 have e2 : pmag (p : Int) 32 = ((p % 8388608 + 8388608 : Nat) : Int):=by
  unfold pmag
  rw [if_pos hf,if_neg (by decide),if_neg (by omega)]
  omega
 have e3 : (pexp (p : Int) 32 + 1074).toNat = p / 8388608 - 1 + 925:=by
  unfold pexp
  rw [if_pos hf,if_neg (by decide),if_neg (by omega)]
  omega
 unfold zf vn32
 rw [e1,e2,e3]
 simp [sg]
theorem cnd_cast (a b n : Nat) (E F : Nat) (hE : E = F) : decide (((a : Int) + (b : Int)) * ((a : Int) + (b : Int)) * (n : Int) < 24 * 2 ^ E) = decide ((a + b) * (a + b) * n < 24 * 2 ^ F):=by
 subst hE
 have : (((a : Int) + (b : Int)) * ((a : Int) + (b : Int)) * (n : Int) < 24 * 2 ^ E) ↔ ((a + b) * (a + b) * n < 24 * 2 ^ E):=by
  rw [← Int.ofNat_lt]
  push_cast
  exact Iff.rfl
 simp only [this]
theorem floatOf_pos (k : FloatKind) (n : Nat) : floatOfInt k (n : Int) = k.format.nearest false n 0:=by
 have : decide ((n : Int) < 0) = false:=decide_eq_false (by omega)
 show k.format.nearest (decide ((n : Int) < 0)) (n : Int).natAbs 0 = _
 rw [this,Int.natAbs_natCast]
theorem root6_64 (n : Nat) (h1 : 1 ≤ n) (h2 : n ≤ 4097) : ∃ L : Nat,4503599627370496 ≤ L ∧ L < 9218868437227405312 ∧ cnd64 n L = false ∧ cnd64 n (L - 1) = true ∧ ∀ w,Tab w → Calls Tryz.prog 94 #[.int .i64 n,.int .i64 64] w fun e w' => e = .returned (.int .i64 L) ∧ Kept w w':=by
 have hc:=chk64_all n h1 h2
 unfold chk64 at hc
 cases hg : guess64 n with
 | none => rw [hg] at hc; cases hc
 | some v =>
  obtain ⟨d,q,g⟩:=v
  rw [hg] at hc
  simp only [Bool.and_eq_true,decide_eq_true_eq,Bool.not_eq_true'] at hc
  obtain ⟨⟨⟨⟨⟨hd,hq⟩,hgl⟩,hgh⟩,hC⟩,hlow⟩:=hc
  unfold guess64 at hg
  simp only at hg
  split at hg
  ·cases hg
  ·rename_i q' hdiv
   split at hg
   ·cases hg
   ·rename_i g' hsq
    simp only [Option.some.injEq,Prod.mk.injEq] at hg
    obtain ⟨rfl,rfl,rfl⟩:=hg
    rw [climb64_g] at hC
    obtain ⟨L,hL⟩ : ∃ L,climbG (cnd64 n) 4 (g' - 1) = L:=⟨_,rfl⟩
    rw [hL] at hC
    have hr:=climbG_le (cnd64 n) 4 (g' - 1)
    rw [hL] at hr
    have h6 : FloatKind.f64.format.nearest false 6 0 < 9218868437227405312:=by decide +kernel
    have hprev : cnd64 n (L - 1) = true:=climb_prev (cnd64 n) 4 (g' - 1) L hL (by rw [show g' - 1 - 1 = g' - 2 by omega]; exact hlow)
    refine ⟨L,by omega,by omega,hC,hprev,fun w hT => ?_⟩
    refine root6_walk (n : Int) 64 (FloatKind.f64.format.nearest false 6 0 : Nat) (FloatKind.f64.format.nearest false n 0 : Nat) q' g' (g' - 1) L (cnd64 n) hL hC w (fun u a x h => ?_) (fun u => div_call 64 _ _ _ u (fun u2 => apply_64 3 _ _ _ h6 hd hq u2 (fun u3 => single64_div _ _ _ hdiv u3))) (fun u => sqrt_call 64 _ _ u (fun u2 => apply_64 4 _ _ _ hq hq (by omega) u2 (fun u3 => single64_root _ _ _ hsq u3))) (fun u => ?_) (fun u p hp1 hp2 k => ?_) (fun u p hp1 hp2 => ?_)
    ·rcases h with ⟨rfl,rfl⟩ | ⟨rfl,rfl⟩
     ·exact fromInt_64 6 _ (floatOf_pos .f64 6) h6 u
     ·exact fromInt_64 _ _ (floatOf_pos .f64 n) hd u
    ·have:=prev_any (g' : Int) 64 (by omega) (by omega) u
     rw [prv_pos64 g' (by omega) (by omega)] at this
     exact this
    ·have:=nearer_any (p : Int) ((p + 1 : Nat) : Int) (n : Int) 64 (.inl rfl) (by omega) (by omega) (cls_pos64 p (by omega)).1 (cls_pos64 (p + 1) (by omega)).1 (nxt_pos64 p (by omega)) (by omega) (by omega) u (hT.kept k)
     rw [zf_vn64 p (by omega) (by omega),zf_vn64 (p + 1) (by omega) (by omega),cnd_cast _ _ _ expQ sq24_64 rfl] at this
     exact this
    ·have:=next_any (p : Int) 64 (by omega) (by omega) u
     rw [nxt_pos64 p (by omega)] at this
     exact this
theorem root6_32 (n : Nat) (h1 : 1 ≤ n) (h2 : n ≤ 4097) : ∃ L : Nat,8388608 ≤ L ∧ L < 2139095040 ∧ cnd32 n L = false ∧ cnd32 n (L - 1) = true ∧ ∀ w,Tab w → Calls Tryz.prog 94 #[.int .i64 n,.int .i64 32] w fun e w' => e = .returned (.int .i64 L) ∧ Kept w w':=by
 have hc:=chk32_all n h1 h2
 unfold chk32 at hc
 cases hg : guess32 n with
 | none => rw [hg] at hc; cases hc
 | some v =>
  obtain ⟨d,q,x,r,g⟩:=v
  rw [hg] at hc
  simp only [Bool.and_eq_true,decide_eq_true_eq,Bool.not_eq_true'] at hc
  obtain ⟨⟨⟨⟨⟨hd,hq⟩,hgl⟩,hgh⟩,hC⟩,hlow⟩:=hc
  unfold guess32 at hg
  simp only at hg
  split at hg
  ·cases hg
  ·rename_i q' hdiv
   split at hg
   ·cases hg
   ·rename_i x' hx
    split at hg
    ·cases hg
    ·rename_i r' hsq
     split at hg
     ·cases hg
     ·rename_i g' hnar
      simp only [Option.some.injEq,Prod.mk.injEq] at hg
      obtain ⟨rfl,rfl,rfl,rfl,rfl⟩:=hg
      rw [climb32_g] at hC
      obtain ⟨L,hL⟩ : ∃ L,climbG (cnd32 n) 4 (g' - 1) = L:=⟨_,rfl⟩
      rw [hL] at hC
      have hr:=climbG_le (cnd32 n) 4 (g' - 1)
      rw [hL] at hr
      have h6 : FloatKind.f32.format.nearest false 6 0 < 2139095040:=by decide +kernel
      have hprev : cnd32 n (L - 1) = true:=climb_prev (cnd32 n) 4 (g' - 1) L hL (by rw [show g' - 1 - 1 = g' - 2 by omega]; exact hlow)
      refine ⟨L,by omega,by omega,hC,hprev,fun w hT => ?_⟩
      refine root6_walk (n : Int) 32 (FloatKind.f32.format.nearest false 6 0 : Nat) (FloatKind.f32.format.nearest false n 0 : Nat) q' g' (g' - 1) L (cnd32 n) hL hC w (fun u a x h => ?_) (fun u => div_call 32 _ _ _ u (fun u2 => apply_32 3 _ _ _ h6 hd hq u2 (fun u3 => single32_div _ _ _ hdiv u3))) (fun u => sqrt_call 32 _ _ u (fun u2 => apply_32 4 _ _ _ hq hq (by omega) u2 (fun u3 => single32_root _ _ _ _ _ hx hsq hnar u3))) (fun u => ?_) (fun u p hp1 hp2 k => ?_) (fun u p hp1 hp2 => ?_)
      ·rcases h with ⟨rfl,rfl⟩ | ⟨rfl,rfl⟩
       ·exact fromInt_32 6 _ (floatOf_pos .f32 6) h6 u
       ·exact fromInt_32 _ _ (floatOf_pos .f32 n) hd u
      ·have:=prev_any (g' : Int) 32 (by omega) (by omega) u
       rw [prv_pos32 g' (by omega) (by omega)] at this
       exact this
      ·have:=nearer_any (p : Int) ((p + 1 : Nat) : Int) (n : Int) 32 (.inr rfl) (by omega) (by omega) (cls_pos32 p (by omega)).1 (cls_pos32 (p + 1) (by omega)).1 (nxt_pos32 p (by omega)) (by omega) (by omega) u (hT.kept k)
       rw [zf_vn32 p (by omega) (by omega),zf_vn32 (p + 1) (by omega) (by omega),cnd_cast _ _ _ expQ sq24_32 rfl] at this
       exact this
      ·have:=next_any (p : Int) 32 (by omega) (by omega) u
       rw [nxt_pos32 p (by omega)] at this
       exact this
end Go.Proofs.YtcfcbabbgcckhaaGreatDoor
