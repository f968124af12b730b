/- The walk of Parts of package bits: what the call gives,for every int and every width. The walks of Neg,Abs,Canon,Next of package bits: what each call gives,width by width. Neg,Abs,Canon,Next,Prev of package bits: one contract each,for every int and every width. -/
import Derived.Test.YtelbefihigkhjaaGreatDoorWa02
namespace Go.Proofs.YtelbefihigkhjaaGreatDoor
open Go.ChangeShapes Go.WideShapes Go.ChangeAt Go.RowKit
set_option maxHeartbeats 16000000
set_option maxRecDepth 100000
theorem parts_no (b n : Int) (hn : n = 64 ∨ n = 32) (hc : 3 ≤ cls b n) (w : World) : Calls Tryz.prog 245 #[.int .i64 b,.int .i64 n] w fun e w' => e = .returned (.tuple #[.bool false,.int .i64 0,.int .i64 0,.bool false]) ∧ Kept w w':=by
 rcases hn with rfl | rfl
 ·go_enter Tryz.func245,Tryz.ntmps245
  go_wp2_with (first | (go_at_call 161; refine (layoutOf_64 _).mono ?_; rintro e w1 ⟨rfl,hk1⟩) | (go_at_call 83; refine (class_any _ _ _).mono ?_; rintro e w2 ⟨rfl,hk2⟩))
  exact bodyPost_ret (v:=.tuple #[.bool false,.int .i64 0,.int .i64 0,.bool false]) (by simp [results,Tryz.results245,go_sem]) rfl ⟨rfl,(hk1.alloc _ _).trans hk2⟩
 ·go_enter Tryz.func245,Tryz.ntmps245
  go_wp2_with (first | (go_at_call 161; refine (layoutOf_32 _).mono ?_; rintro e w1 ⟨rfl,hk1⟩) | (go_at_call 83; refine (class_any _ _ _).mono ?_; rintro e w2 ⟨rfl,hk2⟩))
  exact bodyPost_ret (v:=.tuple #[.bool false,.int .i64 0,.int .i64 0,.bool false]) (by simp [results,Tryz.results245,go_sem]) rfl ⟨rfl,(hk1.alloc _ _).trans hk2⟩
theorem parts_none (b n : Int) (h1 : (n == 32) = false) (h2 : (n == 64) = false) (w : World) : Calls Tryz.prog 245 #[.int .i64 b,.int .i64 n] w fun e w' => e = .returned (.tuple #[.bool false,.int .i64 0,.int .i64 0,.bool false]) ∧ Kept w w':=by
 go_enter Tryz.func245,Tryz.ntmps245
 go_wp2_with (first | (go_at_call 161; refine (layoutOf_0 _ h1 h2 _).mono ?_; rintro e w1 ⟨rfl,hk1⟩) | (go_at_call 83; refine (class_any _ _ _).mono ?_; rintro e w2 ⟨rfl,hk2⟩))
 exact bodyPost_ret (v:=.tuple #[.bool false,.int .i64 0,.int .i64 0,.bool false]) (by simp [results,Tryz.results245,go_sem]) rfl ⟨rfl,(hk1.alloc _ _)⟩
theorem parts_64_sub (b s g : Int) (hs : bits .andNot .i64 b (-9223372036854775808) = s) (hg : bits .and .i64 b (-9223372036854775808) = g) (hc : cls b 64 < 3) (hl : s < 4503599627370496) (w : World) : Calls Tryz.prog 245 #[.int .i64 b,.int .i64 64] w fun e w' => e = .returned (.tuple #[.bool (g != 0),.int .i64 s,.int .i64 (-1074),.bool true]) ∧ Kept w w':=by
 go_enter Tryz.func245,Tryz.ntmps245
 go_wp2_with (first | (go_at_call 161; refine (layoutOf_64 _).mono ?_; rintro e w1 ⟨rfl,hk1⟩) | (go_at_call 83; refine (class_any _ _ _).mono ?_; rintro e w2 ⟨rfl,hk2⟩))
 have hcl:=laid_cell hk2
 go_quiet (fail)
 go_wp2
 go_quiet (fail)
 go_wp2
 exact bodyPost_ret (v:=.tuple #[.bool (g != 0),.int .i64 s,.int .i64 (-1074),.bool true]) (by simp [results,Tryz.results245,go_sem]) rfl ⟨rfl,(((hk1.alloc _ _).trans hk2).drewN _).drewN _⟩
theorem parts_64_nor (b s g m k : Int) (hs : bits .andNot .i64 b (-9223372036854775808) = s) (hg : bits .and .i64 b (-9223372036854775808) = g) (hm : bits .and .i64 s 4503599627370495 = m) (hk : bits .or .i64 m 4503599627370496 = k) (hc : cls b 64 < 3) (hl : ¬ s < 4503599627370496) (hu : s ≤ 9223372036854775807) (w : World) : Calls Tryz.prog 245 #[.int .i64 b,.int .i64 64] w fun e w' => e = .returned (.tuple #[.bool (g != 0),.int .i64 k,.int .i64 (-1074 + s / 4503599627370496 - 1),.bool true]) ∧ Kept w w':=by
 go_enter Tryz.func245,Tryz.ntmps245
 go_wp2_with (first | (go_at_call 161; refine (layoutOf_64 _).mono ?_; rintro e w1 ⟨rfl,hk1⟩) | (go_at_call 83; refine (class_any _ _ _).mono ?_; rintro e w2 ⟨rfl,hk2⟩))
 have hcl:=laid_cell hk2
 go_quiet (fail)
 go_wp2
 go_quiet (fail)
 go_wp2
 exact bodyPost_ret (v:=.tuple #[.bool (g != 0),.int .i64 k,.int .i64 (-1074 + s / 4503599627370496 - 1),.bool true]) (by simp [results,Tryz.results245,go_sem]) rfl ⟨rfl,(((hk1.alloc _ _).trans hk2).drewN _).drewN _⟩
theorem parts_32_sub (b s g : Int) (hs : bits .andNot .i64 b 2147483648 = s) (hg : bits .and .i64 b 2147483648 = g) (hc : cls b 32 < 3) (hl : s < 8388608) (w : World) : Calls Tryz.prog 245 #[.int .i64 b,.int .i64 32] w fun e w' => e = .returned (.tuple #[.bool (g != 0),.int .i64 s,.int .i64 (-149),.bool true]) ∧ Kept w w':=by
 go_enter Tryz.func245,Tryz.ntmps245
 go_wp2_with (first | (go_at_call 161; refine (layoutOf_32 _).mono ?_; rintro e w1 ⟨rfl,hk1⟩) | (go_at_call 83; refine (class_any _ _ _).mono ?_; rintro e w2 ⟨rfl,hk2⟩))
 have hcl:=laid_cell hk2
 go_quiet (fail)
 go_wp2
 go_quiet (fail)
 go_wp2
 exact bodyPost_ret (v:=.tuple #[.bool (g != 0),.int .i64 s,.int .i64 (-149),.bool true]) (by simp [results,Tryz.results245,go_sem]) rfl ⟨rfl,(((hk1.alloc _ _).trans hk2).drewN _).drewN _⟩
theorem parts_32_nor (b s g m k : Int) (hs : bits .andNot .i64 b 2147483648 = s) (hg : bits .and .i64 b 2147483648 = g) (hm : bits .and .i64 s 8388607 = m) (hk : bits .or .i64 m 8388608 = k) (hc : cls b 32 < 3) (hl : ¬ s < 8388608) (hu : s ≤ 9223372036854775807) (w : World) : Calls Tryz.prog 245 #[.int .i64 b,.int .i64 32] w fun e w' => e = .returned (.tuple #[.bool (g != 0),.int .i64 k,.int .i64 (-149 + s / 8388608 - 1),.bool true]) ∧ Kept w w':=by
 go_enter Tryz.func245,Tryz.ntmps245
 go_wp2_with (first | (go_at_call 161; refine (layoutOf_32 _).mono ?_; rintro e w1 ⟨rfl,hk1⟩) | (go_at_call 83; refine (class_any _ _ _).mono ?_; rintro e w2 ⟨rfl,hk2⟩))
 have hcl:=laid_cell hk2
 go_quiet (fail)
 go_wp2
 go_quiet (fail)
 go_wp2
 exact bodyPost_ret (v:=.tuple #[.bool (g != 0),.int .i64 k,.int .i64 (-149 + s / 8388608 - 1),.bool true]) (by simp [results,Tryz.results245,go_sem]) rfl ⟨rfl,(((hk1.alloc _ _).trans hk2).drewN _).drewN _⟩
theorem ret_parts {p q p' q' : Bool} {a c a' c' : Int} (h1 : p = p') (h2 : a = a') (h3 : c = c') (h4 : q = q') : Ending.returned (.tuple #[.bool p,.int .i64 a,.int .i64 c,.bool q]) = .returned (.tuple #[.bool p',.int .i64 a',.int .i64 c',.bool q']):=by rw [h1,h2,h3,h4]
theorem sgn_64 (b : Int) (h1 : -9223372036854775808 ≤ b) (h2 : b ≤ 9223372036854775807) : (bits .and .i64 b (-9223372036854775808) != 0) = sgn b 64:=by
 rw [and_min b h1 h2]
 unfold sgn
 rw [if_pos rfl]
 by_cases h : b < 0 <;> simp [h]
theorem sgn_32 (b : Int) (h1 : 0 ≤ b) (h2 : b < 4294967296) : (bits .and .i64 b 2147483648 != 0) = sgn b 32:=by
 have e : sgn b 32 = decide (2147483648 ≤ b):=by simp [sgn]
 rw [and_31 b h1 h2,e]
 by_cases h : b < 2147483648
 ·rw [if_pos h,decide_eq_false (by omega)]; rfl
 ·rw [if_neg h,decide_eq_true (by omega)]; rfl
theorem parts_any (b n : Int) (hb1 : -9223372036854775808 ≤ b) (hb2 : b ≤ 9223372036854775807) (w : World) : Calls Tryz.prog 245 #[.int .i64 b,.int .i64 n] w fun e w' => e = .returned (.tuple #[.bool (pneg b n),.int .i64 (pmag b n),.int .i64 (pexp b n),.bool (fin b n)]) ∧ Kept w w':=by
 by_cases hn : n = 64 ∨ n = 32
 ·by_cases hc : cls b n < 3
  ·have hf : fin b n = true:=by simp [fin,hn,hc]
   rcases hn with rfl | rfl
   ·by_cases hl : b % 9223372036854775808 < 4503599627370496
    ·refine (parts_64_sub b _ _ (andNot_min b) rfl hc hl w).mono ?_
     rintro e w' ⟨rfl,hk⟩
     exact ⟨ret_parts (by rw [sgn_64 b hb1 hb2]; simp [pneg,hf]) (by simp [pmag,hf,hl]) (by simp [pexp,hf,hl]) hf.symm,hk⟩
    ·refine (parts_64_nor b _ _ _ _ (andNot_min b) rfl (mask_52 _) (or_52 _ (by omega) (by omega)) hc hl (by omega) w).mono ?_
     rintro e w' ⟨rfl,hk⟩
     exact ⟨ret_parts (by rw [sgn_64 b hb1 hb2]; simp [pneg,hf]) (by simp only [pmag,hf,if_true,hl,if_false]) (by simp only [pexp,hf,if_true,hl,if_false]; omega) hf.symm,hk⟩
   ·have hv:=cls_valid b (by omega)
    by_cases hl : b % 2147483648 < 8388608
    ·refine (parts_32_sub b _ _ (andNot_31 b hv.1 hv.2) rfl hc hl w).mono ?_
     rintro e w' ⟨rfl,hk⟩
     exact ⟨ret_parts (by rw [sgn_32 b hv.1 hv.2]; simp [pneg,hf]) (by simp [pmag,hf,hl]) (by simp [pexp,hf,hl]) hf.symm,hk⟩
    ·refine (parts_32_nor b _ _ _ _ (andNot_31 b hv.1 hv.2) rfl (mask_23 _) (or_23 _ (by omega) (by omega)) hc hl (by omega) w).mono ?_
     rintro e w' ⟨rfl,hk⟩
     exact ⟨ret_parts (by rw [sgn_32 b hv.1 hv.2]; simp [pneg,hf]) (by simp [pmag,hf,hl]) (by simp [pexp,hf,hl]; omega) hf.symm,hk⟩
  ·have hf : fin b n = false:=by simp [fin]; omega
   refine (parts_no b n hn (by omega) w).mono ?_
   rintro e w' ⟨rfl,hk⟩
   exact ⟨ret_parts (by simp [pneg,hf]) (by simp [pmag,hf]) (by simp [pexp,hf]) hf.symm,hk⟩
 ·have hf : fin b n = false:=by simp [fin]; omega
  refine (parts_none b n (by rw [beq_eq_false_iff_ne]; omega) (by rw [beq_eq_false_iff_ne]; omega) w).mono ?_
  rintro e w' ⟨rfl,hk⟩
  exact ⟨ret_parts (by simp [pneg,hf]) (by simp [pmag,hf]) (by simp [pexp,hf]) hf.symm,hk⟩
end Go.Proofs.YtelbefihigkhjaaGreatDoor

namespace Go.Proofs.YtelbefihigkhjaaGreatDoor
open Go.ChangeShapes Go.WideShapes Go.ChangeAt Go.RowKit
set_option maxHeartbeats 16000000
set_option maxRecDepth 100000
set_option linter.unusedSimpArgs false
theorem neg_64 (b : Int) (s : Int) (hs : bits .xor .i64 b (-9223372036854775808) = s) (w : World) : Calls Tryz.prog 320 #[.int .i64 b,.int .i64 64] w fun e w' => e = .returned (.int .i64 (if cls b 64 = 4 then 9221120237041090561 else s)) ∧ Kept w w':=by
 go_enter Tryz.func320,Tryz.ntmps320
 go_wp2_with (first | (go_at_call 225; refine (numbers_64 b _).mono ?_; rintro e w1 ⟨rfl,hk1⟩))
 all_goals
  go_ret
  refine ⟨ret_int ?_,hk1.alloc _ _⟩
  try unfold wrap64
  (try simp only [Bool.not_eq_true',Bool.not_eq_false',bne_iff_ne,bne_eq_false_iff_eq,beq_iff_eq,beq_eq_false_iff_ne,ne_eq] at *) <;> ((repeat' split) <;> omega)
theorem next_64 (b : Int) (hb1 : -9223372036854775808 ≤ b) (hb2 : b ≤ 9223372036854775807) (g : Int) (hg : bits .and .i64 b (-9223372036854775808) = g) (hx : cls b 64 = 4 ∨ b ≤ 9218868437227405312) (hq : g = 0 ↔ 0 ≤ b) (w : World) : Calls Tryz.prog 331 #[.int .i64 b,.int .i64 64] w fun e w' => e = .returned (.int .i64 (if cls b 64 = 4 then 9221120237041090561 else if b = 9218868437227405312 then b else if b = -9223372036854775808 then 1 else if g = 0 then b + 1 else b - 1)) ∧ Kept w w':=by
 go_enter Tryz.func331,Tryz.ntmps331
 go_wp2_with (first | (go_at_call 225; refine (numbers_64 b _).mono ?_; rintro e w1 ⟨rfl,hk1⟩))
 all_goals
  go_ret
  refine ⟨ret_int ?_,hk1.alloc _ _⟩
  try unfold wrap64
  (try simp only [Bool.not_eq_true',Bool.not_eq_false',bne_iff_ne,bne_eq_false_iff_eq,beq_iff_eq,beq_eq_false_iff_ne,ne_eq] at *) <;> ((repeat' split) <;> omega)
theorem neg_32 (b : Int) (s : Int) (hs : bits .xor .i64 b 2147483648 = s) (w : World) : Calls Tryz.prog 320 #[.int .i64 b,.int .i64 32] w fun e w' => e = .returned (.int .i64 (if cls b 32 = 4 then 2143289345 else s)) ∧ Kept w w':=by
 go_enter Tryz.func320,Tryz.ntmps320
 go_wp2_with (first | (go_at_call 225; refine (numbers_32 b _).mono ?_; rintro e w1 ⟨rfl,hk1⟩))
 all_goals
  go_ret
  refine ⟨ret_int ?_,hk1.alloc _ _⟩
  try unfold wrap64
  (try simp only [Bool.not_eq_true',Bool.not_eq_false',bne_iff_ne,bne_eq_false_iff_eq,beq_iff_eq,beq_eq_false_iff_ne,ne_eq] at *) <;> ((repeat' split) <;> omega)
theorem next_32 (b : Int) (hb1 : -9223372036854775808 ≤ b) (hb2 : b ≤ 9223372036854775807) (g : Int) (hg : bits .and .i64 b 2147483648 = g) (hx : cls b 32 = 4 ∨ 0 ≤ b ∧ b < 4294967296) (w : World) : Calls Tryz.prog 331 #[.int .i64 b,.int .i64 32] w fun e w' => e = .returned (.int .i64 (if cls b 32 = 4 then 2143289345 else if b = 2139095040 then b else if b = 2147483648 then 1 else if g = 0 then b + 1 else b - 1)) ∧ Kept w w':=by
 go_enter Tryz.func331,Tryz.ntmps331
 go_wp2_with (first | (go_at_call 225; refine (numbers_32 b _).mono ?_; rintro e w1 ⟨rfl,hk1⟩))
 all_goals
  go_ret
  refine ⟨ret_int ?_,hk1.alloc _ _⟩
  try unfold wrap64
  (try simp only [Bool.not_eq_true',Bool.not_eq_false',bne_iff_ne,bne_eq_false_iff_eq,beq_iff_eq,beq_eq_false_iff_ne,ne_eq] at *) <;> ((repeat' split) <;> omega)
theorem neg_0 (b n : Int) (h1 : (n == 32) = false) (h2 : (n == 64) = false)  (w : World) : Calls Tryz.prog 320 #[.int .i64 b,.int .i64 n] w fun e w' => e = .returned (.int .i64 (0)) ∧ Kept w w':=by
 go_enter Tryz.func320,Tryz.ntmps320
 go_wp2_with (first | (go_at_call 225; refine (numbers_0 b _ h1 h2 _).mono ?_; rintro e w1 ⟨rfl,hk1⟩))
 go_ret
 exact ⟨rfl,hk1.alloc _ _⟩
theorem next_0 (b n : Int) (h1 : (n == 32) = false) (h2 : (n == 64) = false)  (w : World) : Calls Tryz.prog 331 #[.int .i64 b,.int .i64 n] w fun e w' => e = .returned (.int .i64 (0)) ∧ Kept w w':=by
 go_enter Tryz.func331,Tryz.ntmps331
 go_wp2_with (first | (go_at_call 225; refine (numbers_0 b _ h1 h2 _).mono ?_; rintro e w1 ⟨rfl,hk1⟩))
 go_ret
 exact ⟨rfl,hk1.alloc _ _⟩
end Go.Proofs.YtelbefihigkhjaaGreatDoor
namespace Go.Proofs.YtelbefihigkhjaaGreatDoor
open Go.ChangeShapes Go.WideShapes Go.ChangeAt Go.RowKit
set_option maxHeartbeats 16000000
set_option maxRecDepth 100000
theorem cls_num_64 (b : Int) (h : cls b 64 ≠ 4) : b % 9223372036854775808 ≤ 9218868437227405312:=by
 unfold cls clsOf at h
 rw [if_pos rfl] at h
 split at h <;> omega
theorem neg_any (b n : Int) (hb1 : -9223372036854775808 ≤ b) (hb2 : b ≤ 9223372036854775807) (w : World) : Calls Tryz.prog 320 #[.int .i64 b,.int .i64 n] w fun e w' => e = .returned (.int .i64 (ngt b n)) ∧ Kept w w':=by
 by_cases h64 : n = 64
 ·subst h64
  refine (neg_64 b _ (xor_min b hb1 hb2) w).mono ?_
  rintro e w' ⟨rfl,hk⟩
  refine ⟨ret_int ?_,hk⟩
  by_cases hc : cls b 64 = 4 <;> simp [ngt,isnum,nanOf,hc]
 ·by_cases h32 : n = 32
  ·subst h32
   refine (neg_32 b _ rfl w).mono ?_
   rintro e w' ⟨rfl,hk⟩
   refine ⟨ret_int ?_,hk⟩
   by_cases hc : cls b 32 = 4
   ·simp [ngt,isnum,nanOf,hc]
   ·have hv:=cls_valid b hc
    rw [xor_31 b hv.1 hv.2]
    simp [ngt,isnum,hc]
  ·refine (neg_0 b n (by simpa using h32) (by simpa using h64) w).mono ?_
   rintro e w' ⟨rfl,hk⟩
   exact ⟨ret_int (by simp [ngt,isnum_0 b n h64 h32,nanOf_0 n h64 h32]),hk⟩
theorem next_any (b n : Int) (hb1 : -9223372036854775808 ≤ b) (hb2 : b ≤ 9223372036854775807) (w : World) : Calls Tryz.prog 331 #[.int .i64 b,.int .i64 n] w fun e w' => e = .returned (.int .i64 (nxt b n)) ∧ Kept w w':=by
 by_cases h64 : n = 64
 ·subst h64
  refine (next_64 b hb1 hb2 _ (and_min b hb1 hb2) ?_ (by split <;> omega) w).mono ?_
  ·by_cases hc : cls b 64 = 4
   ·exact Or.inl hc
   ·have:=cls_num_64 b hc
    exact Or.inr (by omega)
  rintro e w' ⟨rfl,hk⟩
  refine ⟨ret_int ?_,hk⟩
  by_cases hc : cls b 64 = 4
  ·simp [nxt,isnum,nanOf,hc]
  ·have hi : isnum b 64 = true:=by simp [isnum,hc]
   unfold nxt
   rw [if_neg hc,if_pos hi,if_pos rfl]
   (repeat' split) <;> omega
 ·by_cases h32 : n = 32
  ·subst h32
   refine (next_32 b hb1 hb2 _ rfl ?_ w).mono ?_
   ·by_cases hc : cls b 32 = 4
    ·exact Or.inl hc
    ·exact Or.inr (cls_valid b hc)
   rintro e w' ⟨rfl,hk⟩
   refine ⟨ret_int ?_,hk⟩
   by_cases hc : cls b 32 = 4
   ·simp [nxt,isnum,nanOf,hc]
   ·have hv:=cls_valid b hc
    have hi : isnum b 32 = true:=by simp [isnum,hc]
    rw [and_31 b hv.1 hv.2]
    unfold nxt
    rw [if_neg hc,if_pos hi,if_neg (by decide : ¬ (32 : Int) = 64)]
    (repeat' split) <;> omega
  ·refine (next_0 b n (by simpa using h32) (by simpa using h64) w).mono ?_
   rintro e w' ⟨rfl,hk⟩
   exact ⟨ret_int (by simp [nxt,isnum_0 b n h64 h32,nanOf_0 n h64 h32]),hk⟩
theorem nanOf_bd (n : Int) : -9223372036854775808 ≤ nanOf n ∧ nanOf n ≤ 9223372036854775807:=by
 unfold nanOf
 (repeat' split) <;> omega
theorem isnum_inv (b n : Int) (h : isnum b n = true) : (n = 64 ∧ cls b 64 ≠ 4) ∨ (n = 32 ∧ cls b 32 ≠ 4):=by
 simp only [isnum,decide_eq_true_eq] at h
 rcases h with ⟨rfl | rfl,h⟩
 ·exact Or.inl ⟨rfl,h⟩
 ·exact Or.inr ⟨rfl,h⟩
theorem ngt_bd (b n : Int) (hb1 : -9223372036854775808 ≤ b) (hb2 : b ≤ 9223372036854775807) : -9223372036854775808 ≤ ngt b n ∧ ngt b n ≤ 9223372036854775807:=by
 have:=nanOf_bd n
 by_cases hi : isnum b n = true
 ·rcases isnum_inv b n hi with ⟨rfl,hc⟩ | ⟨rfl,hc⟩
  ·unfold ngt; rw [if_pos hi,if_pos rfl]; split <;> omega
  ·have hv:=cls_valid b hc
   unfold ngt; rw [if_pos hi,if_neg (by decide : ¬ (32 : Int) = 64)]; split <;> omega
 ·unfold ngt; rw [if_neg hi]; exact this
theorem nxt_bd (b n : Int) (hb1 : -9223372036854775808 ≤ b) (hb2 : b ≤ 9223372036854775807) : -9223372036854775808 ≤ nxt b n ∧ nxt b n ≤ 9223372036854775807:=by
 have:=nanOf_bd n
 by_cases hi : isnum b n = true
 ·rcases isnum_inv b n hi with ⟨rfl,hc⟩ | ⟨rfl,hc⟩
  ·have:=cls_num_64 b hc
   unfold nxt; rw [if_pos hi,if_pos rfl]; (repeat' split) <;> omega
  ·have hv:=cls_valid b hc
   unfold nxt; rw [if_pos hi,if_neg (by decide : ¬ (32 : Int) = 64)]; (repeat' split) <;> omega
 ·unfold nxt; rw [if_neg hi]; exact this
def prv (b n : Int) : Int:=ngt (nxt (ngt b n) n) n
theorem prev_any (b n : Int) (hb1 : -9223372036854775808 ≤ b) (hb2 : b ≤ 9223372036854775807) (w : World) : Calls Tryz.prog 319 #[.int .i64 b,.int .i64 n] w fun e w' => e = .returned (.int .i64 (prv b n)) ∧ Kept w w':=by
 have q1:=ngt_bd b n hb1 hb2
 have q2:=nxt_bd (ngt b n) n q1.1 q1.2
 go_enter Tryz.func319,Tryz.ntmps319
 go_wp2_with fail
 refine (neg_any b n hb1 hb2 _).mono ?_
 rintro e w1 ⟨rfl,hk1⟩
 go_wp2_with fail
 refine (next_any (ngt b n) n q1.1 q1.2 _).mono ?_
 rintro e w2 ⟨rfl,hk2⟩
 go_wp2_with fail
 refine (neg_any (nxt (ngt b n) n) n q2.1 q2.2 _).mono ?_
 rintro e w3 ⟨rfl,hk3⟩
 go_wp2
 go_ret
 exact ⟨rfl,(hk1.trans hk2).trans hk3⟩
end Go.Proofs.YtelbefihigkhjaaGreatDoor
