/-  -/
import Derived.Test.YtaglkncdedeipaaGreatDoorWs02
namespace Go.Proofs.YtaglkncdedeipaaGreatDoor
open Go.ChangeShapes Go.WideShapes Go.ChangeAt Go.RowKit
set_option linter.unusedVariables false
set_option linter.unusedSimpArgs false
set_option maxHeartbeats 16000000
set_option maxRecDepth 100000
theorem qgo (b:Int)(s:Int)(hs:bits .xor .i64 b (-9223372036854775808)=s)(w:World):Calls Tryz.prog 170 #[.int .i64 b,.int .i64 64] w fun e w'=>e=.returned (.int .i64 (if cls b 64=4 then 9221120237041090561 else s))∧Kept w w':=by
 go_enter Tryz.func170,Tryz.ntmps170
 go_wp2_with (first|(go_at_call 128;refine(xQ b _).mono ?_;rintro e w1 ⟨rfl,hk1⟩))
 all_goals
  go_ret
  refine⟨qn ?_,hk1.alloc _ _⟩
  try unfold wrap64
  (try simp only[Bool.not_eq_true',Bool.not_eq_false',bne_iff_ne,bne_eq_false_iff_eq,beq_iff_eq,beq_eq_false_iff_ne,ne_eq]at *)<;>((repeat' split)<;>omega)
theorem qce (b:Int)(w:World):Calls Tryz.prog 102 #[.int .i64 b,.int .i64 64] w fun e w'=>e=.returned (.int .i64 (if cls b 64=4 then 9221120237041090561 else if b=-9223372036854775808 then 0 else b))∧Kept w w':=by
 go_enter Tryz.func102,Tryz.ntmps102
 go_wp2_with (first|(go_at_call 128;refine(xQ b _).mono ?_;rintro e w1 ⟨rfl,hk1⟩))
 all_goals
  go_ret
  refine⟨qn ?_,hk1.alloc _ _⟩
  try unfold wrap64
  (try simp only[Bool.not_eq_true',Bool.not_eq_false',bne_iff_ne,bne_eq_false_iff_eq,beq_iff_eq,beq_eq_false_iff_ne,ne_eq]at *)<;>((repeat' split)<;>omega)
theorem qew (b:Int)(hb1:-9223372036854775808≤b)(hb2:b≤9223372036854775807)(g:Int)(hg:bits .and .i64 b (-9223372036854775808)=g)(hx:cls b 64=4∨b≤9218868437227405312)(hq:g=0↔0≤b)(w:World):Calls Tryz.prog 179 #[.int .i64 b,.int .i64 64] w fun e w'=>e=.returned (.int .i64 (if cls b 64=4 then 9221120237041090561 else if b=9218868437227405312 then b else if b=-9223372036854775808 then 1 else if g=0 then b+1 else b-1))∧Kept w w':=by
 go_enter Tryz.func179,Tryz.ntmps179
 go_wp2_with (first|(go_at_call 128;refine(xQ b _).mono ?_;rintro e w1 ⟨rfl,hk1⟩))
 all_goals
  go_ret
  refine⟨qn ?_,hk1.alloc _ _⟩
  try unfold wrap64
  (try simp only[Bool.not_eq_true',Bool.not_eq_false',bne_iff_ne,bne_eq_false_iff_eq,beq_iff_eq,beq_eq_false_iff_ne,ne_eq]at *)<;>((repeat' split)<;>omega)
theorem qgp (b:Int)(s:Int)(hs:bits .xor .i64 b 2147483648=s)(w:World):Calls Tryz.prog 170 #[.int .i64 b,.int .i64 32] w fun e w'=>e=.returned (.int .i64 (if cls b 32=4 then 2143289345 else s))∧Kept w w':=by
 go_enter Tryz.func170,Tryz.ntmps170
 go_wp2_with (first|(go_at_call 128;refine(xR b _).mono ?_;rintro e w1 ⟨rfl,hk1⟩))
 all_goals
  go_ret
  refine⟨qn ?_,hk1.alloc _ _⟩
  try unfold wrap64
  (try simp only[Bool.not_eq_true',Bool.not_eq_false',bne_iff_ne,bne_eq_false_iff_eq,beq_iff_eq,beq_eq_false_iff_ne,ne_eq]at *)<;>((repeat' split)<;>omega)
theorem qcf (b:Int)(w:World):Calls Tryz.prog 102 #[.int .i64 b,.int .i64 32] w fun e w'=>e=.returned (.int .i64 (if cls b 32=4 then 2143289345 else if b=2147483648 then 0 else b))∧Kept w w':=by
 go_enter Tryz.func102,Tryz.ntmps102
 go_wp2_with (first|(go_at_call 128;refine(xR b _).mono ?_;rintro e w1 ⟨rfl,hk1⟩))
 all_goals
  go_ret
  refine⟨qn ?_,hk1.alloc _ _⟩
  try unfold wrap64
  (try simp only[Bool.not_eq_true',Bool.not_eq_false',bne_iff_ne,bne_eq_false_iff_eq,beq_iff_eq,beq_eq_false_iff_ne,ne_eq]at *)<;>((repeat' split)<;>omega)
theorem qex (b:Int)(hb1:-9223372036854775808≤b)(hb2:b≤9223372036854775807)(g:Int)(hg:bits .and .i64 b 2147483648=g)(hx:cls b 32=4∨0≤b∧b<4294967296)(w:World):Calls Tryz.prog 179 #[.int .i64 b,.int .i64 32] w fun e w'=>e=.returned (.int .i64 (if cls b 32=4 then 2143289345 else if b=2139095040 then b else if b=2147483648 then 1 else if g=0 then b+1 else b-1))∧Kept w w':=by
 go_enter Tryz.func179,Tryz.ntmps179
 go_wp2_with (first|(go_at_call 128;refine(xR b _).mono ?_;rintro e w1 ⟨rfl,hk1⟩))
 all_goals
  go_ret
  refine⟨qn ?_,hk1.alloc _ _⟩
  try unfold wrap64
  (try simp only[Bool.not_eq_true',Bool.not_eq_false',bne_iff_ne,bne_eq_false_iff_eq,beq_iff_eq,beq_eq_false_iff_ne,ne_eq]at *)<;>((repeat' split)<;>omega)
theorem qhg (b n:Int)(h1:(n==32)=false)(h2:(n==64)=false)(w:World):Calls Tryz.prog 170 #[.int .i64 b,.int .i64 n] w fun e w'=>e=.returned (.int .i64 (0))∧Kept w w':=by
 go_enter Tryz.func170,Tryz.ntmps170
 go_wp2_with (first|(go_at_call 128;refine(vP b _ h1 h2 _).mono ?_;rintro e w1 ⟨rfl,hk1⟩))
 go_ret
 exact⟨rfl,hk1.alloc _ _⟩
theorem qey (b n:Int)(h1:(n==32)=false)(h2:(n==64)=false)(w:World):Calls Tryz.prog 102 #[.int .i64 b,.int .i64 n] w fun e w'=>e=.returned (.int .i64 (0))∧Kept w w':=by
 go_enter Tryz.func102,Tryz.ntmps102
 go_wp2_with (first|(go_at_call 128;refine(vP b _ h1 h2 _).mono ?_;rintro e w1 ⟨rfl,hk1⟩))
 go_ret
 exact⟨rfl,hk1.alloc _ _⟩
theorem qgq (b n:Int)(h1:(n==32)=false)(h2:(n==64)=false)(w:World):Calls Tryz.prog 179 #[.int .i64 b,.int .i64 n] w fun e w'=>e=.returned (.int .i64 (0))∧Kept w w':=by
 go_enter Tryz.func179,Tryz.ntmps179
 go_wp2_with (first|(go_at_call 128;refine(vP b _ h1 h2 _).mono ?_;rintro e w1 ⟨rfl,hk1⟩))
 go_ret
 exact⟨rfl,hk1.alloc _ _⟩
theorem kC (b:Int)(h:cls b 64≠4):b%9223372036854775808≤9218868437227405312:=by
 unfold cls zc at h
 rw[if_pos rfl]at h
 split at h<;>omega
theorem xI (b n:Int)(hb1:-9223372036854775808≤b)(hb2:b≤9223372036854775807)(w:World):Calls Tryz.prog 170 #[.int .i64 b,.int .i64 n] w fun e w'=>e=.returned (.int .i64 (ngt b n))∧Kept w w':=by
 by_cases h64:n=64
 ·subst h64
  refine(qgo b _ (qdg b hb1 hb2) w).mono ?_
  rintro e w' ⟨rfl,hk⟩
  refine⟨qn ?_,hk⟩
  by_cases hc:cls b 64=4<;>simp[ngt,qh,z8,hc]
 ·by_cases h32:n=32
  ·subst h32
   refine(qgp b _ rfl w).mono ?_
   rintro e w' ⟨rfl,hk⟩
   refine⟨qn ?_,hk⟩
   by_cases hc:cls b 32=4
   ·simp[ngt,qh,z8,hc]
   ·have hv:=qG b hc
    rw[qf0 b hv.1 hv.2]
    simp[ngt,qh,hc]
  ·refine(qhg b n (by simpa using h32) (by simpa using h64) w).mono ?_
   rintro e w' ⟨rfl,hk⟩
   exact⟨qn (by simp[ngt,ja b n h64 h32,ys n h64 h32]),hk⟩
theorem Ka (b n:Int)(w:World):Calls Tryz.prog 102 #[.int .i64 b,.int .i64 n] w fun e w'=>e=.returned (.int .i64 (can b n))∧Kept w w':=by
 by_cases h64:n=64
 ·subst h64
  refine(qce b w).mono ?_
  rintro e w' ⟨rfl,hk⟩
  refine⟨qn ?_,hk⟩
  by_cases hc:cls b 64=4<;>simp[can,qh,z8,hc]
 ·by_cases h32:n=32
  ·subst h32
   refine(qcf b w).mono ?_
   rintro e w' ⟨rfl,hk⟩
   refine⟨qn ?_,hk⟩
   by_cases hc:cls b 32=4<;>simp[can,qh,z8,hc]
  ·refine(qey b n (by simpa using h32) (by simpa using h64) w).mono ?_
   rintro e w' ⟨rfl,hk⟩
   exact⟨qn (by simp[can,ja b n h64 h32,ys n h64 h32]),hk⟩
theorem qcg (b n:Int)(hb1:-9223372036854775808≤b)(hb2:b≤9223372036854775807)(w:World):Calls Tryz.prog 179 #[.int .i64 b,.int .i64 n] w fun e w'=>e=.returned (.int .i64 (nxt b n))∧Kept w w':=by
 by_cases h64:n=64
 ·subst h64
  refine(qew b hb1 hb2 _ (Zl b hb1 hb2) ?_ (by split<;>omega) w).mono ?_
  ·by_cases hc:cls b 64=4
   ·exact Or.inl hc
   ·have:=kC b hc
    exact Or.inr (by omega)
  rintro e w' ⟨rfl,hk⟩
  refine⟨qn ?_,hk⟩
  by_cases hc:cls b 64=4
  ·simp[nxt,qh,z8,hc]
  ·have hi:qh b 64=true:=by simp[qh,hc]
   unfold nxt
   rw[if_neg hc,if_pos hi,if_pos rfl]
   (repeat' split)<;>omega
 ·by_cases h32:n=32
  ·subst h32
   refine(qex b hb1 hb2 _ rfl ?_ w).mono ?_
   ·by_cases hc:cls b 32=4
    ·exact Or.inl hc
    ·exact Or.inr (qG b hc)
   rintro e w' ⟨rfl,hk⟩
   refine⟨qn ?_,hk⟩
   by_cases hc:cls b 32=4
   ·simp[nxt,qh,z8,hc]
   ·have hv:=qG b hc
    have hi:qh b 32=true:=by simp[qh,hc]
    rw[qas b hv.1 hv.2]
    unfold nxt
    rw[if_neg hc,if_pos hi,if_neg (by decide:¬(32:Int)=64)]
    (repeat' split)<;>omega
  ·refine(qgq b n (by simpa using h32) (by simpa using h64) w).mono ?_
   rintro e w' ⟨rfl,hk⟩
   exact⟨qn (by simp[nxt,ja b n h64 h32,ys n h64 h32]),hk⟩
theorem kE (n:Int):-9223372036854775808≤z8 n∧z8 n≤9223372036854775807:=by
 unfold z8
 (repeat' split)<;>omega
theorem qV (b n:Int)(h:qh b n=true):(n=64∧cls b 64≠4)∨(n=32∧cls b 32≠4):=by
 simp only[qh,qh1]at h
 rcases h with ⟨rfl|rfl,h⟩
 ·exact Or.inl ⟨rfl,h⟩
 ·exact Or.inr ⟨rfl,h⟩
theorem qgr (b n:Int)(hb1:-9223372036854775808≤b)(hb2:b≤9223372036854775807):-9223372036854775808≤ngt b n∧ngt b n≤9223372036854775807:=by
 have:=kE n
 by_cases hi:qh b n=true
 ·rcases qV b n hi with ⟨rfl,hc⟩|⟨rfl,hc⟩
  ·unfold ngt;rw[if_pos hi,if_pos rfl];split<;>omega
  ·have hv:=qG b hc
   unfold ngt;rw[if_pos hi,if_neg (by decide:¬(32:Int)=64)];split<;>omega
 ·unfold ngt;rw[if_neg hi];exact this
theorem qgs (b n:Int)(hb1:-9223372036854775808≤b)(hb2:b≤9223372036854775807):-9223372036854775808≤nxt b n∧nxt b n≤9223372036854775807:=by
 have:=kE n
 by_cases hi:qh b n=true
 ·rcases qV b n hi with ⟨rfl,hc⟩|⟨rfl,hc⟩
  ·have:=kC b hc
   unfold nxt;rw[if_pos hi,if_pos rfl];(repeat' split)<;>omega
  ·have hv:=qG b hc
   unfold nxt;rw[if_pos hi,if_neg (by decide:¬(32:Int)=64)];(repeat' split)<;>omega
 ·unfold nxt;rw[if_neg hi];exact this
def prv (b n:Int):Int:=ngt (nxt (ngt b n) n) n
theorem qch (b n:Int)(hb1:-9223372036854775808≤b)(hb2:b≤9223372036854775807)(w:World):Calls Tryz.prog 169 #[.int .i64 b,.int .i64 n] w fun e w'=>e=.returned (.int .i64 (prv b n))∧Kept w w':=by
 have q1:=qgr b n hb1 hb2
 have q2:=qgs (ngt b n) n q1.1 q1.2
 go_enter Tryz.func169,Tryz.ntmps169
 go_wp2_with fail
 refine(xI b n hb1 hb2 _).mono ?_
 rintro e w1 ⟨rfl,hk1⟩
 go_wp2_with fail
 refine(qcg (ngt b n) n q1.1 q1.2 _).mono ?_
 rintro e w2 ⟨rfl,hk2⟩
 go_wp2_with fail
 refine(xI (nxt (ngt b n) n) n q2.1 q2.2 _).mono ?_
 rintro e w3 ⟨rfl,hk3⟩
 go_wp2
 go_ret
 exact⟨rfl,(hk1.trans hk2).trans hk3⟩
end Go.Proofs.YtaglkncdedeipaaGreatDoor
