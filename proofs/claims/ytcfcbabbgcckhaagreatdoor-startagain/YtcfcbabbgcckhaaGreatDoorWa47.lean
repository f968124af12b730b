/- Package start: the float nearest to the root of 6 by n,for every n that comes up,in both widths. -/
import Derived.Test.YtcfcbabbgcckhaaGreatDoorWa46
namespace Go.Proofs.YtcfcbabbgcckhaaGreatDoor
open Go.ChangeShapes Go.WideShapes Go.ChangeAt Go.RowKit Ieee
set_option maxHeartbeats 16000000
set_option maxRecDepth 100000
set_option linter.unusedVariables false
set_option linter.unusedSimpArgs false
theorem cls_pos64 (p : Nat) (h : p < 9218868437227405312) : cls (p : Int) 64 < 3 ∧ isnum (p : Int) 64 = true:=by
 have e : cls (p : Int) 64 < 3:=by
  unfold cls clsOf
  rw [if_pos rfl]
  repeat' split
  all_goals omega
 refine ⟨e,?_⟩
 rw [isnum_64]
 exact decide_eq_true (by omega)
theorem cls_pos32 (p : Nat) (h : p < 2139095040) : cls (p : Int) 32 < 3 ∧ isnum (p : Int) 32 = true:=by
 have e : cls (p : Int) 32 < 3:=by
  unfold cls clsOf
  rw [if_neg (by decide),if_pos rfl,if_pos (by omega)]
  repeat' split
  all_goals omega
 refine ⟨e,?_⟩
 rw [isnum_32]
 exact decide_eq_true (by omega)
theorem nxt_pos64 (p : Nat) (h : p < 9218868437227405312) : nxt (p : Int) 64 = ((p + 1 : Nat) : Int):=by
 unfold nxt
 rw [if_pos (cls_pos64 p h).2,if_pos rfl,if_neg (by omega),if_neg (by omega),if_neg (by omega)]
 omega
theorem nxt_pos32 (p : Nat) (h : p < 2139095040) : nxt (p : Int) 32 = ((p + 1 : Nat) : Int):=by
 unfold nxt
 rw [if_pos (cls_pos32 p h).2,if_neg (by decide),if_neg (by omega),if_neg (by omega),if_neg (by omega)]
 omega
theorem prv_pos64 (g : Nat) (h0 : 0 < g) (h : g < 9218868437227405312) : prv (g : Int) 64 = ((g - 1 : Nat) : Int):=by
 have e1 : ngt (g : Int) 64 = (g : Int) - 9223372036854775808:=by
  unfold ngt
  rw [if_pos (cls_pos64 g h).2,if_pos rfl,if_neg (by omega)]
 have e2 : isnum ((g : Int) - 9223372036854775808) 64 = true:=by
  rw [isnum_64]
  refine decide_eq_true ?_
  have : cls ((g : Int) - 9223372036854775808) 64 < 3:=by
   unfold cls clsOf
   rw [if_pos rfl]
   repeat' split
   all_goals omega
  omega
 have e3 : nxt ((g : Int) - 9223372036854775808) 64 = (g : Int) - 9223372036854775809:=by
  unfold nxt
  rw [if_pos e2,if_pos rfl,if_neg (by omega),if_neg (by omega),if_pos (by omega)]
  omega
 have e4 : isnum ((g : Int) - 9223372036854775809) 64 = true:=by
  rw [isnum_64]
  refine decide_eq_true ?_
  have : cls ((g : Int) - 9223372036854775809) 64 < 3:=by
   unfold cls clsOf
   rw [if_pos rfl]
   repeat' split
   all_goals omega
  omega
 unfold prv
 rw [e1,e3]
 unfold ngt
 rw [if_pos e4,if_pos rfl,if_pos (by omega)]
 omega
theorem prv_pos32 (g : Nat) (h0 : 0 < g) (h : g < 2139095040) : prv (g : Int) 32 = ((g - 1 : Nat) : Int):=by
 have e1 : ngt (g : Int) 32 = (g : Int) + 2147483648:=by
  unfold ngt
  rw [if_pos (cls_pos32 g h).2,if_neg (by decide),if_pos (by omega)]
 have e2 : isnum ((g : Int) + 2147483648) 32 = true:=by
  rw [isnum_32]
  refine decide_eq_true ?_
  have : cls ((g : Int) + 2147483648) 32 < 3:=by
   unfold cls clsOf
   rw [if_neg (by decide),if_pos rfl,if_pos (by omega)]
   repeat' split
   all_goals omega
  omega
 have e3 : nxt ((g : Int) + 2147483648) 32 = (g : Int) + 2147483647:=by
  unfold nxt
  rw [if_pos e2,if_neg (by decide),if_neg (by omega),if_neg (by omega),if_pos (by omega)]
  omega
 unfold prv
 rw [e1,e3]
 unfold ngt
 by_cases hg : g = 0
 ·omega
 have e4 : isnum ((g : Int) + 2147483647) 32 = true:=by
  rw [isnum_32]
  refine decide_eq_true ?_
  have : cls ((g : Int) + 2147483647) 32 < 3:=by
   unfold cls clsOf
   rw [if_neg (by decide),if_pos rfl,if_pos (by omega)]
   repeat' split
   all_goals omega
  omega
 rw [if_pos e4,if_neg (by decide),if_neg (by omega)]
 omega
theorem zf_vn64 (p : Nat) (h0 : 4503599627370496 ≤ p) (h : p < 9218868437227405312) : zf (p : Int) 64 = (vn64 p : Int):=by
 have hf : fin (p : Int) 64 = true:=by unfold fin; exact decide_eq_true ⟨.inl rfl,(cls_pos64 p h).1⟩
 have hs : sgn (p : Int) 64 = false:=by unfold sgn; rw [if_pos rfl]; exact decide_eq_false (by omega)
 have e1 : pneg (p : Int) 64 = false:=by unfold pneg; rw [hf,hs]; rfl
 have e2 : pmag (p : Int) 64 = ((p % 4503599627370496 + 4503599627370496 : Nat) : Int):=by
  unfold pmag
  rw [if_pos hf,if_pos rfl,if_neg (by omega)]
  omega
 have e3 : (pexp (p : Int) 64 + 1074).toNat = p / 4503599627370496 - 1 + 0:=by
  unfold pexp
  rw [if_pos hf,if_pos rfl,if_neg (by omega)]
  omega
 unfold zf vn64
 rw [e1,e2,e3]
 simp [sg]
theorem zf_vn32 (p : Nat) (h0 : 8388608 ≤ p) (h : p < 2139095040) : zf (p : Int) 32 = (vn32 p : Int):=by
 have hf : fin (p : Int) 32 = true:=by unfold fin; exact decide_eq_true ⟨.inr rfl,(cls_pos32 p h).1⟩
 have hs : sgn (p : Int) 32 = false:=by unfold sgn; rw [if_neg (by decide)]; exact decide_eq_false (by omega)
 have e1 : pneg (p : Int) 32 = false:=by unfold pneg; rw [hf,hs]; rfl
 have e2 : pmag (p : Int) 32 = ((p % 8388608 + 8388608 : Nat) : Int):=by
  unfold pmag
  rw [if_pos hf,if_neg (by decide),if_neg (by omega)]
  omega
 have e3 : (pexp (p : Int) 32 + 1074).toNat = p / 8388608 - 1 + 925:=by
  unfold pexp
  rw [if_pos hf,if_neg (by decide),if_neg (by omega)]
  omega
 unfold zf vn32
 rw [e1,e2,e3]
 simp [sg]
theorem cnd_cast (a b n : Nat) (E F : Nat) (hE : E = F) : decide (((a : Int) + (b : Int)) * ((a : Int) + (b : Int)) * (n : Int) < 24 * 2 ^ E) = decide ((a + b) * (a + b) * n < 24 * 2 ^ F):=by
 subst hE
 have : (((a : Int) + (b : Int)) * ((a : Int) + (b : Int)) * (n : Int) < 24 * 2 ^ E) ↔ ((a + b) * (a + b) * n < 24 * 2 ^ E):=by
  rw [← Int.ofNat_lt]
  push_cast
  exact Iff.rfl
 simp only [this]
theorem floatOf_pos (k : FloatKind) (n : Nat) : floatOfInt k (n : Int) = k.format.nearest false n 0:=by
 have : decide ((n : Int) < 0) = false:=decide_eq_false (by omega)
 show k.format.nearest (decide ((n : Int) < 0)) (n : Int).natAbs 0 = _
 rw [this,Int.natAbs_natCast]
theorem root6_64 (n : Nat) (h1 : 1 ≤ n) (h2 : n ≤ 4097) : ∃ L : Nat,4503599627370496 ≤ L ∧ L < 9218868437227405312 ∧ cnd64 n L = false ∧ cnd64 n (L - 1) = true ∧ ∀ w,Tab w → Calls Tryz.prog 94 #[.int .i64 n,.int .i64 64] w fun e w' => e = .returned (.int .i64 L) ∧ Kept w w':=by
 have hc:=chk64_all n h1 h2
 unfold chk64 at hc
 cases hg : guess64 n with
 | none => rw [hg] at hc; cases hc
 | some v =>
  obtain ⟨d,q,g⟩:=v
  rw [hg] at hc
  simp only [Bool.and_eq_true,decide_eq_true_eq,Bool.not_eq_true'] at hc
  obtain ⟨⟨⟨⟨⟨hd,hq⟩,hgl⟩,hgh⟩,hC⟩,hlow⟩:=hc
  unfold guess64 at hg
  simp only at hg
  split at hg
  ·cases hg
  ·rename_i q' hdiv
   split at hg
   ·cases hg
   ·rename_i g' hsq
    simp only [Option.some.injEq,Prod.mk.injEq] at hg
    obtain ⟨rfl,rfl,rfl⟩:=hg
    rw [climb64_g] at hC
    obtain ⟨L,hL⟩ : ∃ L,climbG (cnd64 n) 4 (g' - 1) = L:=⟨_,rfl⟩
    rw [hL] at hC
    have hr:=climbG_le (cnd64 n) 4 (g' - 1)
    rw [hL] at hr
    have h6 : FloatKind.f64.format.nearest false 6 0 < 9218868437227405312:=by decide +kernel
    have hprev : cnd64 n (L - 1) = true:=climb_prev (cnd64 n) 4 (g' - 1) L hL (by rw [show g' - 1 - 1 = g' - 2 by omega]; exact hlow)
    refine ⟨L,by omega,by omega,hC,hprev,fun w hT => ?_⟩
    refine root6_walk (n : Int) 64 (FloatKind.f64.format.nearest false 6 0 : Nat) (FloatKind.f64.format.nearest false n 0 : Nat) q' g' (g' - 1) L (cnd64 n) hL hC w (fun u a x h => ?_) (fun u => div_call 64 _ _ _ u (fun u2 => apply_64 3 _ _ _ h6 hd hq u2 (fun u3 => single64_div _ _ _ hdiv u3))) (fun u => sqrt_call 64 _ _ u (fun u2 => apply_64 4 _ _ _ hq hq (by omega) u2 (fun u3 => single64_root _ _ _ hsq u3))) (fun u => ?_) (fun u p hp1 hp2 k => ?_) (fun u p hp1 hp2 => ?_)
    ·rcases h with ⟨rfl,rfl⟩ | ⟨rfl,rfl⟩
     ·exact fromInt_64 6 _ (floatOf_pos .f64 6) h6 u
     ·exact fromInt_64 _ _ (floatOf_pos .f64 n) hd u
    ·have:=prev_any (g' : Int) 64 (by omega) (by omega) u
     rw [prv_pos64 g' (by omega) (by omega)] at this
     exact this
    ·have:=nearer_any (p : Int) ((p + 1 : Nat) : Int) (n : Int) 64 (.inl rfl) (by omega) (by omega) (cls_pos64 p (by omega)).1 (cls_pos64 (p + 1) (by omega)).1 (nxt_pos64 p (by omega)) (by omega) (by omega) u (hT.kept k)
     rw [zf_vn64 p (by omega) (by omega),zf_vn64 (p + 1) (by omega) (by omega),cnd_cast _ _ _ expQ sq24_64 rfl] at this
     exact this
    ·have:=next_any (p : Int) 64 (by omega) (by omega) u
     rw [nxt_pos64 p (by omega)] at this
     exact this
theorem root6_32 (n : Nat) (h1 : 1 ≤ n) (h2 : n ≤ 4097) : ∃ L : Nat,8388608 ≤ L ∧ L < 2139095040 ∧ cnd32 n L = false ∧ cnd32 n (L - 1) = true ∧ ∀ w,Tab w → Calls Tryz.prog 94 #[.int .i64 n,.int .i64 32] w fun e w' => e = .returned (.int .i64 L) ∧ Kept w w':=by
 have hc:=chk32_all n h1 h2
 unfold chk32 at hc
 cases hg : guess32 n with
 | none => rw [hg] at hc; cases hc
 | some v =>
  obtain ⟨d,q,x,r,g⟩:=v
  rw [hg] at hc
  simp only [Bool.and_eq_true,decide_eq_true_eq,Bool.not_eq_true'] at hc
  obtain ⟨⟨⟨⟨⟨hd,hq⟩,hgl⟩,hgh⟩,hC⟩,hlow⟩:=hc
  unfold guess32 at hg
  simp only at hg
  split at hg
  ·cases hg
  ·rename_i q' hdiv
   split at hg
   ·cases hg
   ·rename_i x' hx
    split at hg
    ·cases hg
    ·rename_i r' hsq
     split at hg
     ·cases hg
     ·rename_i g' hnar
      simp only [Option.some.injEq,Prod.mk.injEq] at hg
      obtain ⟨rfl,rfl,rfl,rfl,rfl⟩:=hg
      rw [climb32_g] at hC
      obtain ⟨L,hL⟩ : ∃ L,climbG (cnd32 n) 4 (g' - 1) = L:=⟨_,rfl⟩
      rw [hL] at hC
      have hr:=climbG_le (cnd32 n) 4 (g' - 1)
      rw [hL] at hr
      have h6 : FloatKind.f32.format.nearest false 6 0 < 2139095040:=by decide +kernel
      have hprev : cnd32 n (L - 1) = true:=climb_prev (cnd32 n) 4 (g' - 1) L hL (by rw [show g' - 1 - 1 = g' - 2 by omega]; exact hlow)
      refine ⟨L,by omega,by omega,hC,hprev,fun w hT => ?_⟩
      refine root6_walk (n : Int) 32 (FloatKind.f32.format.nearest false 6 0 : Nat) (FloatKind.f32.format.nearest false n 0 : Nat) q' g' (g' - 1) L (cnd32 n) hL hC w (fun u a x h => ?_) (fun u => div_call 32 _ _ _ u (fun u2 => apply_32 3 _ _ _ h6 hd hq u2 (fun u3 => single32_div _ _ _ hdiv u3))) (fun u => sqrt_call 32 _ _ u (fun u2 => apply_32 4 _ _ _ hq hq (by omega) u2 (fun u3 => single32_root _ _ _ _ _ hx hsq hnar u3))) (fun u => ?_) (fun u p hp1 hp2 k => ?_) (fun u p hp1 hp2 => ?_)
      ·rcases h with ⟨rfl,rfl⟩ | ⟨rfl,rfl⟩
       ·exact fromInt_32 6 _ (floatOf_pos .f32 6) h6 u
       ·exact fromInt_32 _ _ (floatOf_pos .f32 n) hd u
      ·have:=prev_any (g' : Int) 32 (by omega) (by omega) u
       rw [prv_pos32 g' (by omega) (by omega)] at this
       exact this
      ·have:=nearer_any (p : Int) ((p + 1 : Nat) : Int) (n : Int) 32 (.inr rfl) (by omega) (by omega) (cls_pos32 p (by omega)).1 (cls_pos32 (p + 1) (by omega)).1 (nxt_pos32 p (by omega)) (by omega) (by omega) u (hT.kept k)
       rw [zf_vn32 p (by omega) (by omega),zf_vn32 (p + 1) (by omega) (by omega),cnd_cast _ _ _ expQ sq24_32 rfl] at this
       exact this
      ·have:=next_any (p : Int) 32 (by omega) (by omega) u
       rw [nxt_pos32 p (by omega)] at this
       exact this
end Go.Proofs.YtcfcbabbgcckhaaGreatDoor
