/- The walk of Parts of package bits: what the call gives,for every int and every width. -/
import Derived.Test.YtnniljhdcplkgaaGreatDoorWr02
namespace Go.Proofs.YtnniljhdcplkgaaGreatDoor
open Go.ChangeShapes Go.WideShapes Go.ChangeAt Go.RowKit
set_option maxHeartbeats 16000000
set_option maxRecDepth 100000
theorem parts_no (b n : Int) (hn : n = 64 ∨ n = 32) (hc : 3 ≤ cls b n) (w : World) : Calls Tryz.prog 110 #[.int .i64 b,.int .i64 n] w fun e w' => e = .returned (.tuple #[.bool false,.int .i64 0,.int .i64 0,.bool false]) ∧ Kept w w':=by
 rcases hn with rfl | rfl
 ·go_enter Tryz.func110,Tryz.ntmps110
  go_wp2_with (first | (go_at_call 24; refine (layoutOf_64 _).mono ?_; rintro e w1 ⟨rfl,hk1⟩) | (go_at_call 11; refine (class_any _ _ _).mono ?_; rintro e w2 ⟨rfl,hk2⟩))
  exact bodyPost_ret (v:=.tuple #[.bool false,.int .i64 0,.int .i64 0,.bool false]) (by simp [results,Tryz.results110,go_sem]) rfl ⟨rfl,(hk1.alloc _ _).trans hk2⟩
 ·go_enter Tryz.func110,Tryz.ntmps110
  go_wp2_with (first | (go_at_call 24; refine (layoutOf_32 _).mono ?_; rintro e w1 ⟨rfl,hk1⟩) | (go_at_call 11; refine (class_any _ _ _).mono ?_; rintro e w2 ⟨rfl,hk2⟩))
  exact bodyPost_ret (v:=.tuple #[.bool false,.int .i64 0,.int .i64 0,.bool false]) (by simp [results,Tryz.results110,go_sem]) rfl ⟨rfl,(hk1.alloc _ _).trans hk2⟩
theorem parts_none (b n : Int) (h1 : (n == 32) = false) (h2 : (n == 64) = false) (w : World) : Calls Tryz.prog 110 #[.int .i64 b,.int .i64 n] w fun e w' => e = .returned (.tuple #[.bool false,.int .i64 0,.int .i64 0,.bool false]) ∧ Kept w w':=by
 go_enter Tryz.func110,Tryz.ntmps110
 go_wp2_with (first | (go_at_call 24; refine (layoutOf_0 _ h1 h2 _).mono ?_; rintro e w1 ⟨rfl,hk1⟩) | (go_at_call 11; refine (class_any _ _ _).mono ?_; rintro e w2 ⟨rfl,hk2⟩))
 exact bodyPost_ret (v:=.tuple #[.bool false,.int .i64 0,.int .i64 0,.bool false]) (by simp [results,Tryz.results110,go_sem]) rfl ⟨rfl,(hk1.alloc _ _)⟩
theorem parts_64_sub (b s g : Int) (hs : bits .andNot .i64 b (-9223372036854775808) = s) (hg : bits .and .i64 b (-9223372036854775808) = g) (hc : cls b 64 < 3) (hl : s < 4503599627370496) (w : World) : Calls Tryz.prog 110 #[.int .i64 b,.int .i64 64] w fun e w' => e = .returned (.tuple #[.bool (g != 0),.int .i64 s,.int .i64 (-1074),.bool true]) ∧ Kept w w':=by
 go_enter Tryz.func110,Tryz.ntmps110
 go_wp2_with (first | (go_at_call 24; refine (layoutOf_64 _).mono ?_; rintro e w1 ⟨rfl,hk1⟩) | (go_at_call 11; refine (class_any _ _ _).mono ?_; rintro e w2 ⟨rfl,hk2⟩))
 have hcl:=laid_cell hk2
 go_quiet (fail)
 go_wp2
 go_quiet (fail)
 go_wp2
 exact bodyPost_ret (v:=.tuple #[.bool (g != 0),.int .i64 s,.int .i64 (-1074),.bool true]) (by simp [results,Tryz.results110,go_sem]) rfl ⟨rfl,(((hk1.alloc _ _).trans hk2).drewN _).drewN _⟩
theorem parts_64_nor (b s g m k : Int) (hs : bits .andNot .i64 b (-9223372036854775808) = s) (hg : bits .and .i64 b (-9223372036854775808) = g) (hm : bits .and .i64 s 4503599627370495 = m) (hk : bits .or .i64 m 4503599627370496 = k) (hc : cls b 64 < 3) (hl : ¬ s < 4503599627370496) (hu : s ≤ 9223372036854775807) (w : World) : Calls Tryz.prog 110 #[.int .i64 b,.int .i64 64] w fun e w' => e = .returned (.tuple #[.bool (g != 0),.int .i64 k,.int .i64 (-1074 + s / 4503599627370496 - 1),.bool true]) ∧ Kept w w':=by
 go_enter Tryz.func110,Tryz.ntmps110
 go_wp2_with (first | (go_at_call 24; refine (layoutOf_64 _).mono ?_; rintro e w1 ⟨rfl,hk1⟩) | (go_at_call 11; refine (class_any _ _ _).mono ?_; rintro e w2 ⟨rfl,hk2⟩))
 have hcl:=laid_cell hk2
 go_quiet (fail)
 go_wp2
 go_quiet (fail)
 go_wp2
 exact bodyPost_ret (v:=.tuple #[.bool (g != 0),.int .i64 k,.int .i64 (-1074 + s / 4503599627370496 - 1),.bool true]) (by simp [results,Tryz.results110,go_sem]) rfl ⟨rfl,(((hk1.alloc _ _).trans hk2).drewN _).drewN _⟩
theorem parts_32_sub (b s g : Int) (hs : bits .andNot .i64 b 2147483648 = s) (hg : bits .and .i64 b 2147483648 = g) (hc : cls b 32 < 3) (hl : s < 8388608) (w : World) : Calls Tryz.prog 110 #[.int .i64 b,.int .i64 32] w fun e w' => e = .returned (.tuple #[.bool (g != 0),.int .i64 s,.int .i64 (-149),.bool true]) ∧ Kept w w':=by
 go_enter Tryz.func110,Tryz.ntmps110
 go_wp2_with (first | (go_at_call 24; refine (layoutOf_32 _).mono ?_; rintro e w1 ⟨rfl,hk1⟩) | (go_at_call 11; refine (class_any _ _ _).mono ?_; rintro e w2 ⟨rfl,hk2⟩))
 have hcl:=laid_cell hk2
 go_quiet (fail)
 go_wp2
 go_quiet (fail)
 go_wp2
 exact bodyPost_ret (v:=.tuple #[.bool (g != 0),.int .i64 s,.int .i64 (-149),.bool true]) (by simp [results,Tryz.results110,go_sem]) rfl ⟨rfl,(((hk1.alloc _ _).trans hk2).drewN _).drewN _⟩
theorem parts_32_nor (b s g m k : Int) (hs : bits .andNot .i64 b 2147483648 = s) (hg : bits .and .i64 b 2147483648 = g) (hm : bits .and .i64 s 8388607 = m) (hk : bits .or .i64 m 8388608 = k) (hc : cls b 32 < 3) (hl : ¬ s < 8388608) (hu : s ≤ 9223372036854775807) (w : World) : Calls Tryz.prog 110 #[.int .i64 b,.int .i64 32] w fun e w' => e = .returned (.tuple #[.bool (g != 0),.int .i64 k,.int .i64 (-149 + s / 8388608 - 1),.bool true]) ∧ Kept w w':=by
 go_enter Tryz.func110,Tryz.ntmps110
 go_wp2_with (first | (go_at_call 24; refine (layoutOf_32 _).mono ?_; rintro e w1 ⟨rfl,hk1⟩) | (go_at_call 11; refine (class_any _ _ _).mono ?_; rintro e w2 ⟨rfl,hk2⟩))
 have hcl:=laid_cell hk2
 go_quiet (fail)
 go_wp2
 go_quiet (fail)
 go_wp2
 exact bodyPost_ret (v:=.tuple #[.bool (g != 0),.int .i64 k,.int .i64 (-149 + s / 8388608 - 1),.bool true]) (by simp [results,Tryz.results110,go_sem]) rfl ⟨rfl,(((hk1.alloc _ _).trans hk2).drewN _).drewN _⟩
theorem ret_parts {p q p' q' : Bool} {a c a' c' : Int} (h1 : p = p') (h2 : a = a') (h3 : c = c') (h4 : q = q') : Ending.returned (.tuple #[.bool p,.int .i64 a,.int .i64 c,.bool q]) = .returned (.tuple #[.bool p',.int .i64 a',.int .i64 c',.bool q']):=by rw [h1,h2,h3,h4]
theorem sgn_64 (b : Int) (h1 : -9223372036854775808 ≤ b) (h2 : b ≤ 9223372036854775807) : (bits .and .i64 b (-9223372036854775808) != 0) = sgn b 64:=by
 rw [and_min b h1 h2]
 unfold sgn
 rw [if_pos rfl]
 by_cases h : b < 0 <;> simp [h]
theorem sgn_32 (b : Int) (h1 : 0 ≤ b) (h2 : b < 4294967296) : (bits .and .i64 b 2147483648 != 0) = sgn b 32:=by
 have e : sgn b 32 = decide (2147483648 ≤ b):=by simp [sgn]
 rw [and_31 b h1 h2,e]
 by_cases h : b < 2147483648
 ·rw [if_pos h,decide_eq_false (by omega)]; rfl
 ·rw [if_neg h,decide_eq_true (by omega)]; rfl
theorem parts_any (b n : Int) (hb1 : -9223372036854775808 ≤ b) (hb2 : b ≤ 9223372036854775807) (w : World) : Calls Tryz.prog 110 #[.int .i64 b,.int .i64 n] w fun e w' => e = .returned (.tuple #[.bool (pneg b n),.int .i64 (pmag b n),.int .i64 (pexp b n),.bool (fin b n)]) ∧ Kept w w':=by
 by_cases hn : n = 64 ∨ n = 32
 ·by_cases hc : cls b n < 3
  ·have hf : fin b n = true:=by simp [fin,hn,hc]
   rcases hn with rfl | rfl
   ·by_cases hl : b % 9223372036854775808 < 4503599627370496
    ·refine (parts_64_sub b _ _ (andNot_min b) rfl hc hl w).mono ?_
     rintro e w' ⟨rfl,hk⟩
     exact ⟨ret_parts (by rw [sgn_64 b hb1 hb2]; simp [pneg,hf]) (by simp [pmag,hf,hl]) (by simp [pexp,hf,hl]) hf.symm,hk⟩
    ·refine (parts_64_nor b _ _ _ _ (andNot_min b) rfl (mask_52 _) (or_52 _ (by omega) (by omega)) hc hl (by omega) w).mono ?_
     rintro e w' ⟨rfl,hk⟩
     exact ⟨ret_parts (by rw [sgn_64 b hb1 hb2]; simp [pneg,hf]) (by simp only [pmag,hf,if_true,hl,if_false]) (by simp only [pexp,hf,if_true,hl,if_false]; omega) hf.symm,hk⟩
   ·have hv:=cls_valid b (by omega)
    by_cases hl : b % 2147483648 < 8388608
    ·refine (parts_32_sub b _ _ (andNot_31 b hv.1 hv.2) rfl hc hl w).mono ?_
     rintro e w' ⟨rfl,hk⟩
     exact ⟨ret_parts (by rw [sgn_32 b hv.1 hv.2]; simp [pneg,hf]) (by simp [pmag,hf,hl]) (by simp [pexp,hf,hl]) hf.symm,hk⟩
    ·refine (parts_32_nor b _ _ _ _ (andNot_31 b hv.1 hv.2) rfl (mask_23 _) (or_23 _ (by omega) (by omega)) hc hl (by omega) w).mono ?_
     rintro e w' ⟨rfl,hk⟩
     exact ⟨ret_parts (by rw [sgn_32 b hv.1 hv.2]; simp [pneg,hf]) (by simp [pmag,hf,hl]) (by simp [pexp,hf,hl]; omega) hf.symm,hk⟩
  ·have hf : fin b n = false:=by simp [fin]; omega
   refine (parts_no b n hn (by omega) w).mono ?_
   rintro e w' ⟨rfl,hk⟩
   exact ⟨ret_parts (by simp [pneg,hf]) (by simp [pmag,hf]) (by simp [pexp,hf]) hf.symm,hk⟩
 ·have hf : fin b n = false:=by simp [fin]; omega
  refine (parts_none b n (by rw [beq_eq_false_iff_ne]; omega) (by rw [beq_eq_false_iff_ne]; omega) w).mono ?_
  rintro e w' ⟨rfl,hk⟩
  exact ⟨ret_parts (by simp [pneg,hf]) (by simp [pmag,hf]) (by simp [pexp,hf]) hf.symm,hk⟩
end Go.Proofs.YtnniljhdcplkgaaGreatDoor
