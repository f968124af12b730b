/- The walks of Neg,Abs,Canon,Next of package bits: what each call gives,width by width. Neg,Abs,Canon,Next,Prev of package bits: one contract each,for every int and every width. -/
import Derived.Test.YtnniljhdcplkgaaGreatDoorWr02
namespace Go.Proofs.YtnniljhdcplkgaaGreatDoor
open Go.ChangeShapes Go.WideShapes Go.ChangeAt Go.RowKit
set_option maxHeartbeats 16000000
set_option maxRecDepth 100000
set_option linter.unusedSimpArgs false
theorem neg_64 (b : Int) (s : Int) (hs : bits .xor .i64 b (-9223372036854775808) = s) (w : World) : Calls Tryz.prog 151 #[.int .i64 b,.int .i64 64] w fun e w' => e = .returned (.int .i64 (if cls b 64 = 4 then 9221120237041090561 else s)) ∧ Kept w w':=by
 go_enter Tryz.func151,Tryz.ntmps151
 go_wp2_with (first | (go_at_call 163; refine (numbers_64 b _).mono ?_; rintro e w1 ⟨rfl,hk1⟩))
 all_goals
  go_ret
  refine ⟨ret_int ?_,hk1.alloc _ _⟩
  try unfold wrap64
  (try simp only [Bool.not_eq_true',Bool.not_eq_false',bne_iff_ne,bne_eq_false_iff_eq,beq_iff_eq,beq_eq_false_iff_ne,ne_eq] at *) <;> ((repeat' split) <;> omega)
theorem next_64 (b : Int) (hb1 : -9223372036854775808 ≤ b) (hb2 : b ≤ 9223372036854775807) (g : Int) (hg : bits .and .i64 b (-9223372036854775808) = g) (hx : cls b 64 = 4 ∨ b ≤ 9218868437227405312) (hq : g = 0 ↔ 0 ≤ b) (w : World) : Calls Tryz.prog 162 #[.int .i64 b,.int .i64 64] w fun e w' => e = .returned (.int .i64 (if cls b 64 = 4 then 9221120237041090561 else if b = 9218868437227405312 then b else if b = -9223372036854775808 then 1 else if g = 0 then b + 1 else b - 1)) ∧ Kept w w':=by
 go_enter Tryz.func162,Tryz.ntmps162
 go_wp2_with (first | (go_at_call 163; refine (numbers_64 b _).mono ?_; rintro e w1 ⟨rfl,hk1⟩))
 all_goals
  go_ret
  refine ⟨ret_int ?_,hk1.alloc _ _⟩
  try unfold wrap64
  (try simp only [Bool.not_eq_true',Bool.not_eq_false',bne_iff_ne,bne_eq_false_iff_eq,beq_iff_eq,beq_eq_false_iff_ne,ne_eq] at *) <;> ((repeat' split) <;> omega)
theorem neg_32 (b : Int) (s : Int) (hs : bits .xor .i64 b 2147483648 = s) (w : World) : Calls Tryz.prog 151 #[.int .i64 b,.int .i64 32] w fun e w' => e = .returned (.int .i64 (if cls b 32 = 4 then 2143289345 else s)) ∧ Kept w w':=by
 go_enter Tryz.func151,Tryz.ntmps151
 go_wp2_with (first | (go_at_call 163; refine (numbers_32 b _).mono ?_; rintro e w1 ⟨rfl,hk1⟩))
 all_goals
  go_ret
  refine ⟨ret_int ?_,hk1.alloc _ _⟩
  try unfold wrap64
  (try simp only [Bool.not_eq_true',Bool.not_eq_false',bne_iff_ne,bne_eq_false_iff_eq,beq_iff_eq,beq_eq_false_iff_ne,ne_eq] at *) <;> ((repeat' split) <;> omega)
theorem next_32 (b : Int) (hb1 : -9223372036854775808 ≤ b) (hb2 : b ≤ 9223372036854775807) (g : Int) (hg : bits .and .i64 b 2147483648 = g) (hx : cls b 32 = 4 ∨ 0 ≤ b ∧ b < 4294967296) (w : World) : Calls Tryz.prog 162 #[.int .i64 b,.int .i64 32] w fun e w' => e = .returned (.int .i64 (if cls b 32 = 4 then 2143289345 else if b = 2139095040 then b else if b = 2147483648 then 1 else if g = 0 then b + 1 else b - 1)) ∧ Kept w w':=by
 go_enter Tryz.func162,Tryz.ntmps162
 go_wp2_with (first | (go_at_call 163; refine (numbers_32 b _).mono ?_; rintro e w1 ⟨rfl,hk1⟩))
 all_goals
  go_ret
  refine ⟨ret_int ?_,hk1.alloc _ _⟩
  try unfold wrap64
  (try simp only [Bool.not_eq_true',Bool.not_eq_false',bne_iff_ne,bne_eq_false_iff_eq,beq_iff_eq,beq_eq_false_iff_ne,ne_eq] at *) <;> ((repeat' split) <;> omega)
theorem neg_0 (b n : Int) (h1 : (n == 32) = false) (h2 : (n == 64) = false)  (w : World) : Calls Tryz.prog 151 #[.int .i64 b,.int .i64 n] w fun e w' => e = .returned (.int .i64 (0)) ∧ Kept w w':=by
 go_enter Tryz.func151,Tryz.ntmps151
 go_wp2_with (first | (go_at_call 163; refine (numbers_0 b _ h1 h2 _).mono ?_; rintro e w1 ⟨rfl,hk1⟩))
 go_ret
 exact ⟨rfl,hk1.alloc _ _⟩
theorem next_0 (b n : Int) (h1 : (n == 32) = false) (h2 : (n == 64) = false)  (w : World) : Calls Tryz.prog 162 #[.int .i64 b,.int .i64 n] w fun e w' => e = .returned (.int .i64 (0)) ∧ Kept w w':=by
 go_enter Tryz.func162,Tryz.ntmps162
 go_wp2_with (first | (go_at_call 163; refine (numbers_0 b _ h1 h2 _).mono ?_; rintro e w1 ⟨rfl,hk1⟩))
 go_ret
 exact ⟨rfl,hk1.alloc _ _⟩
end Go.Proofs.YtnniljhdcplkgaaGreatDoor
namespace Go.Proofs.YtnniljhdcplkgaaGreatDoor
open Go.ChangeShapes Go.WideShapes Go.ChangeAt Go.RowKit
set_option maxHeartbeats 16000000
set_option maxRecDepth 100000
theorem cls_num_64 (b : Int) (h : cls b 64 ≠ 4) : b % 9223372036854775808 ≤ 9218868437227405312:=by
 unfold cls clsOf at h
 rw [if_pos rfl] at h
 split at h <;> omega
theorem neg_any (b n : Int) (hb1 : -9223372036854775808 ≤ b) (hb2 : b ≤ 9223372036854775807) (w : World) : Calls Tryz.prog 151 #[.int .i64 b,.int .i64 n] w fun e w' => e = .returned (.int .i64 (ngt b n)) ∧ Kept w w':=by
 by_cases h64 : n = 64
 ·subst h64
  refine (neg_64 b _ (xor_min b hb1 hb2) w).mono ?_
  rintro e w' ⟨rfl,hk⟩
  refine ⟨ret_int ?_,hk⟩
  by_cases hc : cls b 64 = 4 <;> simp [ngt,isnum,nanOf,hc]
 ·by_cases h32 : n = 32
  ·subst h32
   refine (neg_32 b _ rfl w).mono ?_
   rintro e w' ⟨rfl,hk⟩
   refine ⟨ret_int ?_,hk⟩
   by_cases hc : cls b 32 = 4
   ·simp [ngt,isnum,nanOf,hc]
   ·have hv:=cls_valid b hc
    rw [xor_31 b hv.1 hv.2]
    simp [ngt,isnum,hc]
  ·refine (neg_0 b n (by simpa using h32) (by simpa using h64) w).mono ?_
   rintro e w' ⟨rfl,hk⟩
   exact ⟨ret_int (by simp [ngt,isnum_0 b n h64 h32,nanOf_0 n h64 h32]),hk⟩
theorem next_any (b n : Int) (hb1 : -9223372036854775808 ≤ b) (hb2 : b ≤ 9223372036854775807) (w : World) : Calls Tryz.prog 162 #[.int .i64 b,.int .i64 n] w fun e w' => e = .returned (.int .i64 (nxt b n)) ∧ Kept w w':=by
 by_cases h64 : n = 64
 ·subst h64
  refine (next_64 b hb1 hb2 _ (and_min b hb1 hb2) ?_ (by split <;> omega) w).mono ?_
  ·by_cases hc : cls b 64 = 4
   ·exact Or.inl hc
   ·have:=cls_num_64 b hc
    exact Or.inr (by omega)
  rintro e w' ⟨rfl,hk⟩
  refine ⟨ret_int ?_,hk⟩
  by_cases hc : cls b 64 = 4
  ·simp [nxt,isnum,nanOf,hc]
  ·have hi : isnum b 64 = true:=by simp [isnum,hc]
   unfold nxt
   rw [if_neg hc,if_pos hi,if_pos rfl]
   (repeat' split) <;> omega
 ·by_cases h32 : n = 32
  ·subst h32
   refine (next_32 b hb1 hb2 _ rfl ?_ w).mono ?_
   ·by_cases hc : cls b 32 = 4
    ·exact Or.inl hc
    ·exact Or.inr (cls_valid b hc)
   rintro e w' ⟨rfl,hk⟩
   refine ⟨ret_int ?_,hk⟩
   by_cases hc : cls b 32 = 4
   ·simp [nxt,isnum,nanOf,hc]
   ·have hv:=cls_valid b hc
    have hi : isnum b 32 = true:=by simp [isnum,hc]
    rw [and_31 b hv.1 hv.2]
    unfold nxt
    rw [if_neg hc,if_pos hi,if_neg (by decide : ¬ (32 : Int) = 64)]
    (repeat' split) <;> omega
  ·refine (next_0 b n (by simpa using h32) (by simpa using h64) w).mono ?_
   rintro e w' ⟨rfl,hk⟩
   exact ⟨ret_int (by simp [nxt,isnum_0 b n h64 h32,nanOf_0 n h64 h32]),hk⟩
theorem nanOf_bd (n : Int) : -9223372036854775808 ≤ nanOf n ∧ nanOf n ≤ 9223372036854775807:=by
 unfold nanOf
 (repeat' split) <;> omega
theorem isnum_inv (b n : Int) (h : isnum b n = true) : (n = 64 ∧ cls b 64 ≠ 4) ∨ (n = 32 ∧ cls b 32 ≠ 4):=by
 simp only [isnum,decide_eq_true_eq] at h
 rcases h with ⟨rfl | rfl,h⟩
 ·exact Or.inl ⟨rfl,h⟩
 ·exact Or.inr ⟨rfl,h⟩
theorem ngt_bd (b n : Int) (hb1 : -9223372036854775808 ≤ b) (hb2 : b ≤ 9223372036854775807) : -9223372036854775808 ≤ ngt b n ∧ ngt b n ≤ 9223372036854775807:=by
 have:=nanOf_bd n
 by_cases hi : isnum b n = true
 ·rcases isnum_inv b n hi with ⟨rfl,hc⟩ | ⟨rfl,hc⟩
  ·unfold ngt; rw [if_pos hi,if_pos rfl]; split <;> omega
  ·have hv:=cls_valid b hc
   unfold ngt; rw [if_pos hi,if_neg (by decide : ¬ (32 : Int) = 64)]; split <;> omega
 ·unfold ngt; rw [if_neg hi]; exact this
theorem nxt_bd (b n : Int) (hb1 : -9223372036854775808 ≤ b) (hb2 : b ≤ 9223372036854775807) : -9223372036854775808 ≤ nxt b n ∧ nxt b n ≤ 9223372036854775807:=by
 have:=nanOf_bd n
 by_cases hi : isnum b n = true
 ·rcases isnum_inv b n hi with ⟨rfl,hc⟩ | ⟨rfl,hc⟩
  ·have:=cls_num_64 b hc
   unfold nxt; rw [if_pos hi,if_pos rfl]; (repeat' split) <;> omega
  ·have hv:=cls_valid b hc
   unfold nxt; rw [if_pos hi,if_neg (by decide : ¬ (32 : Int) = 64)]; (repeat' split) <;> omega
 ·unfold nxt; rw [if_neg hi]; exact this
def prv (b n : Int) : Int:=ngt (nxt (ngt b n) n) n
theorem prev_any (b n : Int) (hb1 : -9223372036854775808 ≤ b) (hb2 : b ≤ 9223372036854775807) (w : World) : Calls Tryz.prog 150 #[.int .i64 b,.int .i64 n] w fun e w' => e = .returned (.int .i64 (prv b n)) ∧ Kept w w':=by
 have q1:=ngt_bd b n hb1 hb2
 have q2:=nxt_bd (ngt b n) n q1.1 q1.2
 go_enter Tryz.func150,Tryz.ntmps150
 go_wp2_with fail
 refine (neg_any b n hb1 hb2 _).mono ?_
 rintro e w1 ⟨rfl,hk1⟩
 go_wp2_with fail
 refine (next_any (ngt b n) n q1.1 q1.2 _).mono ?_
 rintro e w2 ⟨rfl,hk2⟩
 go_wp2_with fail
 refine (neg_any (nxt (ngt b n) n) n q2.1 q2.2 _).mono ?_
 rintro e w3 ⟨rfl,hk3⟩
 go_wp2
 go_ret
 exact ⟨rfl,(hk1.trans hk2).trans hk3⟩
end Go.Proofs.YtnniljhdcplkgaaGreatDoor
