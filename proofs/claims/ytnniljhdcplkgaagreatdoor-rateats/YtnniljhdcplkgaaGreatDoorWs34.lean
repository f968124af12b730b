/-  -/
import Derived.Test.YtnniljhdcplkgaaGreatDoorWs04
import Derived.Test.YtnniljhdcplkgaaGreatDoorWs19
import Derived.Test.YtnniljhdcplkgaaGreatDoorWs21
import Derived.Test.YtnniljhdcplkgaaGreatDoorWs32
import Derived.Test.YtnniljhdcplkgaaGreatDoorWs28
import Derived.Test.YtnniljhdcplkgaaGreatDoorWs29
namespace Go.Proofs.YtnniljhdcplkgaaGreatDoor
open Go.ChangeShapes Go.WideShapes Go.ChangeAt Go.RowKit
set_option maxHeartbeats 16000000
set_option maxRecDepth 100000
theorem rclass_any (b n:Int)(hb1:-9223372036854775808≤b)(hb2:b≤9223372036854775807)(w:World):Calls Tryz.prog 37 #[.int .i64 b,.int .i64 n] w fun e w'=>e=.returned (.int .i64 (cls b n))∧Kept w w':=by
  by_cases h64:n=64
  · subst h64
    go_enter Tryz.func37,Tryz.ntmps37
    go_wp2_with (first|(go_at_call 45;refine(of_64 _).mono ?_;rintro e w1 ⟨rfl,hk1⟩)|(go_at_call 60;refine(cut_64 _ hb1 hb2 _).mono ?_;rintro e w2 ⟨rfl,hk2⟩;have hcl:=laid_cell hk2))
    all_goals
      go_ret
      refine⟨ret_int ?_,(hk1.alloc _ _).trans hk2⟩
      rw[cls_64_eq]
      (repeat' split)<;>omega
  · by_cases h32:n=32
    · subst h32
      go_enter Tryz.func37,Tryz.ntmps37
      go_wp2_with (first|(go_at_call 45;refine(of_32 _).mono ?_;rintro e w1 ⟨rfl,hk1⟩)|(go_at_call 60;refine(cut_32 _ _).mono ?_;rintro e w2 ⟨rfl,hk2⟩;have hcl:=laid_cell hk2))
      all_goals
        go_ret
        refine⟨ret_int ?_,(hk1.alloc _ _).trans hk2⟩
        rw[cls_32_eq]
        first
          | (have hf:thr b=false:=by simpa using ‹¬thr b=true›
             rw[if_pos (Or.inl hf)])
          | (have ht:thr b=true:=by assumption
             simp only[ht,Bool.true_eq_false,false_or]
             (repeat' split)<;>omega)
    · have e1:(n==32)=false:=by simpa using h32
      have e2:(n==64)=false:=by simpa using h64
      have hv:Hid (cls b n=0):=by show cls b n=0;simp[cls,h64,h32]
      clear h64 h32
      go_enter Tryz.func37,Tryz.ntmps37
      go_wp2_with (first|(go_at_call 45;refine(of_0 _ e1 e2 _).mono ?_;rintro e w1 ⟨rfl,hk1⟩))
      go_ret
      exact⟨ret_int hv.out.symm,(hk1.alloc _ _)⟩
theorem rparts_no (b n:Int)(hb1:-9223372036854775808≤b)(hb2:b≤9223372036854775807)(hn:n=64∨n=32)(hc:3≤cls b n)(w:World):Calls Tryz.prog 80 #[.int .i64 b,.int .i64 n] w fun e w'=>e=.returned (.tuple #[.bool false,.int .i64 0,.int .i64 0,.bool false])∧Kept w w':=by
 rcases hn with rfl|rfl
 ·go_enter Tryz.func80,Tryz.ntmps80
  go_wp2_with (first|(go_at_call 45;refine(of_64 _).mono ?_;rintro e w1 ⟨rfl,hk1⟩)|(go_at_call 37;refine(rclass_any _ _ hb1 hb2 _).mono ?_;rintro e w2 ⟨rfl,hk2⟩))
  exact bodyPost_ret (v:=.tuple #[.bool false,.int .i64 0,.int .i64 0,.bool false]) (by simp[results,Tryz.results80,go_sem]) rfl ⟨rfl,(hk1.alloc _ _).trans hk2⟩
 ·go_enter Tryz.func80,Tryz.ntmps80
  go_wp2_with (first|(go_at_call 45;refine(of_32 _).mono ?_;rintro e w1 ⟨rfl,hk1⟩)|(go_at_call 37;refine(rclass_any _ _ hb1 hb2 _).mono ?_;rintro e w2 ⟨rfl,hk2⟩))
  exact bodyPost_ret (v:=.tuple #[.bool false,.int .i64 0,.int .i64 0,.bool false]) (by simp[results,Tryz.results80,go_sem]) rfl ⟨rfl,(hk1.alloc _ _).trans hk2⟩
theorem rparts_none (b n:Int)(h1:(n==32)=false)(h2:(n==64)=false)(w:World):Calls Tryz.prog 80 #[.int .i64 b,.int .i64 n] w fun e w'=>e=.returned (.tuple #[.bool false,.int .i64 0,.int .i64 0,.bool false])∧Kept w w':=by
 go_enter Tryz.func80,Tryz.ntmps80
 go_wp2_with (first|(go_at_call 45;refine(of_0 _ h1 h2 _).mono ?_;rintro e w1 ⟨rfl,hk1⟩))
 exact bodyPost_ret (v:=.tuple #[.bool false,.int .i64 0,.int .i64 0,.bool false]) (by simp[results,Tryz.results80,go_sem]) rfl ⟨rfl,(hk1.alloc _ _)⟩
theorem rparts_64_sub (b:Int)(hb1:-9223372036854775808≤b)(hb2:b≤9223372036854775807)(hc:cls b 64<3)(hl:(fld64 b==0)=true)(w:World):Calls Tryz.prog 80 #[.int .i64 b,.int .i64 64] w fun e w'=>e=.returned (.tuple #[.bool (sgn b 64),.int .i64 (frc64 b),.int .i64 (-1074),.bool true])∧Kept w w':=by
 go_enter Tryz.func80,Tryz.ntmps80
 go_wp2_with (first|(go_at_call 45;refine(of_64 _).mono ?_;rintro e w1 ⟨rfl,hk1⟩)|(go_at_call 37;refine(rclass_any _ _ hb1 hb2 _).mono ?_;rintro e w2 ⟨rfl,hk2⟩;have hcl:=laid_cell hk2)|(go_at_call 60;refine(cut_64 _ hb1 hb2 _).mono ?_;rintro e w3 ⟨rfl,hk3⟩;have hcl3:=laid_cell (hk2.trans hk3)))
 go_quiet (fail)
 go_wp2
 exact bodyPost_ret (v:=.tuple #[.bool (sgn b 64),.int .i64 (frc64 b),.int .i64 (-1074),.bool true]) (by simp[results,Tryz.results80,go_sem]) rfl ⟨rfl,(((hk1.alloc _ _).trans hk2).trans hk3).drewN _⟩
theorem rparts_64_nor (b:Int)(hb1:-9223372036854775808≤b)(hb2:b≤9223372036854775807)(hf1:0≤fld64 b)(hf2:fld64 b≤4096)(ht1:0≤frc64 b)(ht2:frc64 b≤4503599627370496)(hc:cls b 64<3)(hl:(fld64 b==0)=false)(w:World):Calls Tryz.prog 80 #[.int .i64 b,.int .i64 64] w fun e w'=>e=.returned (.tuple #[.bool (sgn b 64),.int .i64 (4503599627370496+frc64 b),.int .i64 (fld64 b+-1074-1),.bool true])∧Kept w w':=by
 go_enter Tryz.func80,Tryz.ntmps80
 go_wp2_with (first|(go_at_call 45;refine(of_64 _).mono ?_;rintro e w1 ⟨rfl,hk1⟩)|(go_at_call 37;refine(rclass_any _ _ hb1 hb2 _).mono ?_;rintro e w2 ⟨rfl,hk2⟩;have hcl:=laid_cell hk2)|(go_at_call 60;refine(cut_64 _ hb1 hb2 _).mono ?_;rintro e w3 ⟨rfl,hk3⟩;have hcl3:=laid_cell (hk2.trans hk3)))
 go_quiet (fail)
 go_wp2
 exact bodyPost_ret (v:=.tuple #[.bool (sgn b 64),.int .i64 (4503599627370496+frc64 b),.int .i64 (fld64 b+-1074-1),.bool true]) (by simp[results,Tryz.results80,go_sem]) rfl ⟨rfl,(((hk1.alloc _ _).trans hk2).trans hk3).drewN _⟩
theorem rparts_32_sub (b:Int)(hb1:-9223372036854775808≤b)(hb2:b≤9223372036854775807)(hc:cls b 32<3)(hl:(fld32 b==0)=true)(w:World):Calls Tryz.prog 80 #[.int .i64 b,.int .i64 32] w fun e w'=>e=.returned (.tuple #[.bool (sg32 b),.int .i64 (frc32 b),.int .i64 (-149),.bool true])∧Kept w w':=by
 go_enter Tryz.func80,Tryz.ntmps80
 go_wp2_with (first|(go_at_call 45;refine(of_32 _).mono ?_;rintro e w1 ⟨rfl,hk1⟩)|(go_at_call 37;refine(rclass_any _ _ hb1 hb2 _).mono ?_;rintro e w2 ⟨rfl,hk2⟩;have hcl:=laid_cell hk2)|(go_at_call 60;refine(cut_32 _ _).mono ?_;rintro e w3 ⟨rfl,hk3⟩;have hcl3:=laid_cell (hk2.trans hk3)))
 go_quiet (fail)
 go_wp2
 exact bodyPost_ret (v:=.tuple #[.bool (sg32 b),.int .i64 (frc32 b),.int .i64 (-149),.bool true]) (by simp[results,Tryz.results80,go_sem]) rfl ⟨rfl,(((hk1.alloc _ _).trans hk2).trans hk3).drewN _⟩
theorem rparts_32_nor (b:Int)(hb1:-9223372036854775808≤b)(hb2:b≤9223372036854775807)(hf1:0≤fld32 b)(hf2:fld32 b≤4096)(ht1:0≤frc32 b)(ht2:frc32 b≤8388608)(hc:cls b 32<3)(hl:(fld32 b==0)=false)(w:World):Calls Tryz.prog 80 #[.int .i64 b,.int .i64 32] w fun e w'=>e=.returned (.tuple #[.bool (sg32 b),.int .i64 (8388608+frc32 b),.int .i64 (fld32 b+-149-1),.bool true])∧Kept w w':=by
 go_enter Tryz.func80,Tryz.ntmps80
 go_wp2_with (first|(go_at_call 45;refine(of_32 _).mono ?_;rintro e w1 ⟨rfl,hk1⟩)|(go_at_call 37;refine(rclass_any _ _ hb1 hb2 _).mono ?_;rintro e w2 ⟨rfl,hk2⟩;have hcl:=laid_cell hk2)|(go_at_call 60;refine(cut_32 _ _).mono ?_;rintro e w3 ⟨rfl,hk3⟩;have hcl3:=laid_cell (hk2.trans hk3)))
 go_quiet (fail)
 go_wp2
 exact bodyPost_ret (v:=.tuple #[.bool (sg32 b),.int .i64 (8388608+frc32 b),.int .i64 (fld32 b+-149-1),.bool true]) (by simp[results,Tryz.results80,go_sem]) rfl ⟨rfl,(((hk1.alloc _ _).trans hk2).trans hk3).drewN _⟩
theorem rparts_any (b n:Int)(hb1:-9223372036854775808≤b)(hb2:b≤9223372036854775807)(w:World):Calls Tryz.prog 80 #[.int .i64 b,.int .i64 n] w fun e w'=>e=.returned (.tuple #[.bool (pneg b n),.int .i64 (pmag b n),.int .i64 (pexp b n),.bool (fin b n)])∧Kept w w':=by
 by_cases hn:n=64∨n=32
 ·by_cases hc:cls b n<3
  ·have hf:fin b n=true:=by simp[fin,hn,hc]
   rcases hn with rfl|rfl
   ·by_cases hl:fld64 b=0
    ·have hl':b%9223372036854775808<4503599627370496:=by unfold fld64 at hl;omega
     refine(rparts_64_sub b hb1 hb2 hc (by simpa using hl) w).mono ?_
     rintro e w' ⟨rfl,hk⟩
     exact⟨ret_parts (by simp[pneg,hf]) (by simp only[pmag,hf,if_true,hl',frc64];omega) (by simp[pexp,hf,hl']) hf.symm,hk⟩
    ·have hl':¬b%9223372036854775808<4503599627370496:=by unfold fld64 at hl;omega
     refine(rparts_64_nor b hb1 hb2 (by unfold fld64;omega) (by unfold fld64;omega) (by unfold frc64;omega) (by unfold frc64;omega) hc (by simpa using hl) w).mono ?_
     rintro e w' ⟨rfl,hk⟩
     exact⟨ret_parts (by simp[pneg,hf]) (by simp only[pmag,hf,if_true,hl',if_false,frc64];omega) (by simp only[pexp,hf,if_true,hl',if_false,fld64];omega) hf.symm,hk⟩
   ·have hv:=cls_valid b (by omega)
    have ht:thr b=true:=by simp[thr,hv]
    have e1:fld32 b=b%2147483648/8388608:=by simp[fld32,ht]
    have e2:frc32 b=b%8388608:=by simp[frc32,ht]
    have e3:sg32 b=pneg b 32:=by simp[sg32,ht,pneg,hf]
    by_cases hl:fld32 b=0
    ·have hl':b%2147483648<8388608:=by omega
     refine(rparts_32_sub b hb1 hb2 hc (by simpa using hl) w).mono ?_
     rintro e w' ⟨rfl,hk⟩
     exact⟨ret_parts e3 (by rw[e2];simp[pmag,hf,hl'];omega) (by simp[pexp,hf,hl']) hf.symm,hk⟩
    ·have hl':¬b%2147483648<8388608:=by omega
     refine(rparts_32_nor b hb1 hb2 (by omega) (by omega) (by omega) (by omega) hc (by simpa using hl) w).mono ?_
     rintro e w' ⟨rfl,hk⟩
     exact⟨ret_parts e3 (by rw[e2];simp[pmag,hf,hl'];omega) (by rw[e1];simp[pexp,hf,hl'];omega) hf.symm,hk⟩
  ·have hf:fin b n=false:=by simp[fin];omega
   refine(rparts_no b n hb1 hb2 hn (by omega) w).mono ?_
   rintro e w' ⟨rfl,hk⟩
   exact⟨ret_parts (by simp[pneg,hf]) (by simp[pmag,hf]) (by simp[pexp,hf]) hf.symm,hk⟩
 ·have hf:fin b n=false:=by simp[fin];omega
  refine(rparts_none b n (by rw[beq_eq_false_iff_ne];omega) (by rw[beq_eq_false_iff_ne];omega) w).mono ?_
  rintro e w' ⟨rfl,hk⟩
  exact⟨ret_parts (by simp[pneg,hf]) (by simp[pmag,hf]) (by simp[pexp,hf]) hf.symm,hk⟩
end Go.Proofs.YtnniljhdcplkgaaGreatDoor

namespace Go.Proofs.YtnniljhdcplkgaaGreatDoor
open Go.ChangeShapes Go.WideShapes Go.ChangeAt Go.RowKit
set_option maxHeartbeats 16000000
set_option maxRecDepth 100000
set_option linter.unusedVariables false
set_option linter.unusedSimpArgs false
theorem nrm_shift (neg:Bool)(v k:Nat)(x:Int):nrm neg (v*2^k) x=nrm neg v (x+(k:Int)):=by
 by_cases hv:v=0
 ·subst hv
  simp[nrm]
 ·obtain⟨o,ho,e⟩:=tzn_spec v hv
  have hp:=Nat.two_pow_pos k
  have hne:v*2^k≠0:=Nat.mul_ne_zero hv (by omega)
  have ht:tzn (v*2^k)=tzn v+k:=by
   have:v*2^k=o*2^(tzn v+k):=by rw[Nat.pow_add,←Nat.mul_assoc,←e]
   rw[this,tzn_mul o _ ho]
  have hw:wrap64 (x+((tzn v+k:Nat):Int))=wrap64 (x+(k:Int)+(tzn v:Int)):=by congr 1;push_cast;omega
  have hd:v*2^k/2^(tzn v+k)=v/2^tzn v:=by rw[Nat.pow_add,Nat.mul_div_mul_right _ _ hp]
  unfold nrm
  rw[if_neg hne,if_neg hv,ht,hw,hd]
theorem whole_pos (w:World)(v:Nat)(hv:v≤9223372036854775807):Calls Tryz.prog 30 #[.int .i64 (v:Int)] w fun e w'=>(∃r,e=.returned r∧RNp (Fresh w.heap.size) w' r (nrm false v 0))∧Kept w w':=by
 have hK:Kept w (numW w):=(Kept.refl w).alloc _ _
 have hl:(digs v).length≤3:=digs_length_le v 3 (by omega)
 have KF:Hid (Calls Tryz.prog 52 #[.int .i64 (v:Int)] (numW w) fun e w'=>(∃r,e=.returned r∧RLp (Fresh (numW w).heap.size) w' r (digs v))∧Kept (numW w) w'):=natFrom_any (numW w) v hv
 have KN:Hid (∀u va,Kept (numW w) u→RLp (Fresh (numW w).heap.size) u va (digs v)→Calls Tryz.prog 51 #[.bool false,va,.int .i64 0] u fun e w'=>(∃r,e=.returned r∧RNp (Fresh (numW w).heap.size) w' r (nrm false v 0))∧Kept u w'):=fun u va k h=>by
  have:=norm_any u false (digs v) va h.rl (dg_digs v) (by omega) 0
  rw[nv_digs]at this
  refine this.mono ?_
  rintro e w' ⟨⟨r,rfl,hr⟩,kk⟩
  exact⟨⟨r,rfl,hr.imp (fun b hb=>Nat.le_trans k.below.size hb)⟩,kk⟩
 have hv0:¬(v:Int)<0:=by omega
 go_enter Tryz.func30,Tryz.ntmps30
 go_wp2_with (first|(go_at_call 52;refine KF.out.mono ?_;rintro e w1 ⟨⟨va,rfl,hva⟩,k1⟩)|(go_at_call 51;refine(KN.out _ _ k1 hva).mono ?_;rintro e w2 ⟨⟨r,rfl,hN⟩,k2⟩;obtain⟨vn,ao,vl,vc,vx,rfl⟩:=hN.shape5;obtain⟨f0,f1,f2,f3⟩:=num_cells (k1.trans k2)))
 have hd:=(hN.done w.heap.size (fun b hb=>by simp[Fresh]at hb;omega) (.bool vn) (.slice ao vl vc) (.int .i64 vx)).imp (Q:=Fresh w.heap.size) (fun b hb=>by simp[Fresh]at hb ⊢;omega)
 have hkk:=(hK.trans (k1.trans k2)).setCell (p:=⟨w.heap.size,0,none⟩) (Nat.le_refl _) (.bool vn)|>.setCell (p:=⟨w.heap.size,1,none⟩) (Nat.le_refl _) (.slice ao vl vc)|>.setCell (p:=⟨w.heap.size,2,none⟩) (Nat.le_refl _) (.int .i64 vx)
 refine bodyPost_ret (v:=.agg #[.bool vn,.slice ao vl vc,.int .i64 vx]) (by simp[results,Tryz.results30,go_sem,f0,f1,f2]) rfl ⟨⟨_,rfl,hd⟩,hkk⟩
theorem rfinite_any (b n:Int)(hb1:-9223372036854775808≤b)(hb2:b≤9223372036854775807)(w:World):Calls Tryz.prog 18 #[.int .i64 b,.int .i64 n] w fun e w'=>e=.returned (.bool (decide (cls b n<3)))∧Kept w w':=by
 have KC:Hid (Calls Tryz.prog 37 #[.int .i64 b,.int .i64 n] w fun e w'=>e=.returned (.int .i64 (cls b n))∧Kept w w'):=rclass_any b n hb1 hb2 w
 generalize cls b n=cc at *
 go_enter Tryz.func18,Tryz.ntmps18
 go_wp2_with (first|(go_at_call 37;refine KC.out.mono ?_;rintro e w1 ⟨rfl,k1⟩))
 go_ret
 exact⟨rfl,k1⟩
theorem rexact_any (b n:Int)(hb1:-9223372036854775808≤b)(hb2:b≤9223372036854775807)(hn:n=64∨n=32)(hc:cls b n<3)(w:World):Calls Tryz.prog 48 #[.int .i64 b,.int .i64 n] w fun e w'=>(∃v,e=.returned v∧RNp (Fresh w.heap.size) w' v (nrm (pneg b n) (pmag b n).toNat (pexp b n)))∧Kept w w':=by
 have hK:Kept w (numW w):=(Kept.refl w).alloc _ _
 have hf:=fl_any b n hn hc
 have KP:Hid (∀u,Calls Tryz.prog 80 #[.int .i64 b,.int .i64 n] u fun e w'=>e=.returned (.tuple #[.bool (pneg b n),.int .i64 (pmag b n),.int .i64 (pexp b n),.bool true])∧Kept u w'):=fun u=>by
  have:=rparts_any b n hb1 hb2 u
  rw[fin_of b n hn hc]at this
  exact this
 have hm53:pmag b n<9223372036854775807:=by
  have h1:=hf.2.1
  have h2:(2:Int)^(kprec n).toNat≤9007199254740992:=by rcases hn with rfl|rfl<;>decide
  omega
 obtain⟨v,hv⟩:∃v:Nat,pmag b n=(v:Int):=⟨(pmag b n).toNat,by have:=hf.1;omega⟩
 have hv2:(pmag b n).toNat=v:=by omega
 have hv9:v≤9223372036854775807:=by omega
 rw[hv]at KP
 rw[hv2]
 have KF:Hid (∀u,Kept (numW w) u→Calls Tryz.prog 52 #[.int .i64 (v:Int)] u fun e w'=>(∃r,e=.returned r∧RLp (Fresh (numW w).heap.size) w' r (digs v))∧Kept u w'):=fun u k=>(natFrom_any u v hv9).mono (by
  rintro e w' ⟨⟨r,rfl,hr⟩,kk⟩
  exact⟨⟨r,rfl,hr.imp (fun b hb=>Nat.le_trans k.below.size hb)⟩,kk⟩)
 have hl:(digs v).length≤3:=digs_length_le v 3 (by omega)
 have KN:Hid (∀u va,Kept (numW w) u→RLp (Fresh (numW w).heap.size) u va (digs v)→Calls Tryz.prog 51 #[.bool (pneg b n),va,.int .i64 (pexp b n)] u fun e w'=>(∃r,e=.returned r∧RNp (Fresh (numW w).heap.size) w' r (nrm (pneg b n) v (pexp b n)))∧Kept u w'):=fun u va k h=>by
  have:=norm_any u (pneg b n) (digs v) va h.rl (dg_digs v) (by omega) (pexp b n)
  rw[nv_digs]at this
  refine this.mono ?_
  rintro e w' ⟨⟨r,rfl,hr⟩,kk⟩
  exact⟨⟨r,rfl,hr.imp (fun b hb=>Nat.le_trans k.below.size hb)⟩,kk⟩
 clear hf hm53 hv hv2 hl
 generalize nrm (pneg b n) v (pexp b n)=NR at *
 generalize pneg b n=pn at *
 generalize pexp b n=px at *
 go_enter Tryz.func48,Tryz.ntmps48
 go_wp2_with (first|(go_at_call 80;refine(KP.out _).mono ?_;rintro e w1 ⟨rfl,k1⟩)|(go_at_call 52;refine(KF.out _ k1).mono ?_;rintro e w2 ⟨⟨va,rfl,hva⟩,k2⟩)|(go_at_call 51;refine(KN.out _ _ (k1.trans k2) hva).mono ?_;rintro e w3 ⟨⟨r,rfl,hN⟩,k3⟩;obtain⟨vn,ao,vl,vc,vx,rfl⟩:=hN.shape5;obtain⟨f0,f1,f2,f3⟩:=num_cells (k1.trans (k2.trans k3))))
 have hd:=(hN.done w.heap.size (fun b hb=>by simp[Fresh]at hb;omega) (.bool vn) (.slice ao vl vc) (.int .i64 vx)).imp (Q:=Fresh w.heap.size) (fun b hb=>by simp[Fresh]at hb ⊢;omega)
 have hkk:=(hK.trans (k1.trans (k2.trans k3))).setCell (p:=⟨w.heap.size,0,none⟩) (Nat.le_refl _) (.bool vn)|>.setCell (p:=⟨w.heap.size,1,none⟩) (Nat.le_refl _) (.slice ao vl vc)|>.setCell (p:=⟨w.heap.size,2,none⟩) (Nat.le_refl _) (.int .i64 vx)
 refine bodyPost_ret (v:=.agg #[.bool vn,.slice ao vl vc,.int .i64 vx]) (by simp[results,Tryz.results48,go_sem,f0,f1,f2]) rfl ⟨⟨_,rfl,hd⟩,hkk⟩
theorem rexact2_any (b n:Int)(hb1:-9223372036854775808≤b)(hb2:b≤9223372036854775807)(hn:n=64∨n=32)(hc:cls b n<3)(w:World):Calls Tryz.prog 29 #[.int .i64 b,.int .i64 n] w fun e w'=>(∃v,e=.returned v∧RNp (Fresh w.heap.size) w' v (nrm (pneg b n) (pmag b n).toNat (pexp b n)))∧Kept w w':=by
 have hK:Kept w (numW w):=(Kept.refl w).alloc _ _
 have KE:Hid (Calls Tryz.prog 48 #[.int .i64 b,.int .i64 n] (numW w) fun e w'=>(∃v,e=.returned v∧RNp (Fresh (numW w).heap.size) w' v (nrm (pneg b n) (pmag b n).toNat (pexp b n)))∧Kept (numW w) w'):=rexact_any b n hb1 hb2 hn hc (numW w)
 generalize nrm (pneg b n) (pmag b n).toNat (pexp b n)=NR at *
 go_enter Tryz.func29,Tryz.ntmps29
 go_wp2_with (first|(go_at_call 48;refine KE.out.mono ?_;rintro e w3 ⟨⟨r,rfl,hN⟩,k3⟩;obtain⟨vn,ao,vl,vc,vx,rfl⟩:=hN.shape5;obtain⟨f0,f1,f2,f3⟩:=num_cells k3))
 have hd:=(hN.done w.heap.size (fun b hb=>by simp[Fresh]at hb;omega) (.bool vn) (.slice ao vl vc) (.int .i64 vx)).imp (Q:=Fresh w.heap.size) (fun b hb=>by simp[Fresh]at hb ⊢;omega)
 have hkk:=(hK.trans k3).setCell (p:=⟨w.heap.size,0,none⟩) (Nat.le_refl _) (.bool vn)|>.setCell (p:=⟨w.heap.size,1,none⟩) (Nat.le_refl _) (.slice ao vl vc)|>.setCell (p:=⟨w.heap.size,2,none⟩) (Nat.le_refl _) (.int .i64 vx)
 refine bodyPost_ret (v:=.agg #[.bool vn,.slice ao vl vc,.int .i64 vx]) (by simp[results,Tryz.results29,go_sem,f0,f1,f2]) rfl ⟨⟨_,rfl,hd⟩,hkk⟩
theorem ofN_nrm (b n:Int)(hn:n=64∨n=32)(hc:cls b n<3):vld (nrm (pneg b n) (pmag b n).toNat (pexp b n))=true∧ofN b n=nrm (pneg b n) (pmag b n).toNat (pexp b n):=by
 have h1:=of_frm b n hn hc
 rw[frm_nrm]at h1
 by_cases h:vld (nrm (pneg b n) (pmag b n).toNat (pexp b n))=true
 ·rw[if_pos h]at h1
  exact⟨h,(Option.some.inj h1).symm⟩
 ·rw[if_neg h]at h1
  cases h1
end Go.Proofs.YtnniljhdcplkgaaGreatDoor

namespace Go.Proofs.YtnniljhdcplkgaaGreatDoor
open Go.ChangeShapes Go.WideShapes Go.ChangeAt Go.RowKit
set_option maxHeartbeats 16000000
set_option maxRecDepth 100000
set_option linter.unusedVariables false
set_option linter.unusedSimpArgs false
theorem quot_walk (n1 n2 nb:Bool)(hnb:nb=(n1 != n2))(a b:Option Addr)(l1 c1 l2 c2:Nat)(hl1:0<l1)(x1 x2 ex:Int)(rs:Bool)(Q0 Q1 Q2 G0 H1 G1 H2:Nat)
  (s1:IntKind.i64.wrap ((Q0:Int)*1073741824)=(G0:Int)) (s2:bits .or .i64 (G0:Int) (Q1:Int)=(H1:Int)) (s3:IntKind.i64.wrap ((H1:Int)*1073741824)=(G1:Int)) (s4:bits .or .i64 (G1:Int) (Q2:Int)=(H2:Int)) (zz:bits .or .i64 0 (Q0:Int)=(Q0:Int)) (w:World)
  (Kd:Hid (∀u,Kept w u→Calls Tryz.prog 129 #[.agg #[.bool n1,.slice a l1 c1,.int .i64 x1],.agg #[.bool n2,.slice b l2 c2,.int .i64 x2],.int .i64 2] u fun e w'=>∃h,e=.returned (.tuple #[.slice (some ⟨h,0,none⟩) 3 3,.int .i64 ex,.bool rs])∧w'.cell? ⟨h,0,none⟩=some (.int .i64 (Q2:Int))∧w'.cell? ⟨h,1,none⟩=some (.int .i64 (Q1:Int))∧w'.cell? ⟨h,2,none⟩=some (.int .i64 (Q0:Int))∧Kept u w')):
  Calls Tryz.prog 101 #[.agg #[.bool n1,.slice a l1 c1,.int .i64 x1],.agg #[.bool n2,.slice b l2 c2,.int .i64 x2]] w fun e w'=>e=.returned (.agg #[.bool nb,.int .i64 (H2:Int),.int .i64 ex,.bool rs])∧Kept w w':=by
 have hK:Kept w (((w.alloc (.cells #[.bool n1,.slice a l1 c1,.int .i64 x1] 43)).alloc (.cells #[.bool n2,.slice b l2 c2,.int .i64 x2] 43)).alloc (.cells #[.bool false,.int .i64 0,.int .i64 0,.bool false] 117)):=(((Kept.refl w).alloc _ _).alloc _ _).alloc _ _
 have hl0:((l1:Int)==0)=false:=by rw[beq_eq_false_iff_ne];omega
 have hl1':¬l1=0:=by omega
 obtain⟨W0,hW0⟩:∃W0,((w.alloc (.cells #[.bool n1,.slice a l1 c1,.int .i64 x1] 43)).alloc (.cells #[.bool n2,.slice b l2 c2,.int .i64 x2] 43)).alloc (.cells #[.bool false,.int .i64 0,.int .i64 0,.bool false] 117)=W0:=⟨_,rfl⟩
 have B1:Hid (∀u,Kept W0 u→(u.cell? ⟨w.heap.size+1+1,0,none⟩=some (.bool false)∧u.cell? ⟨w.heap.size+1+1,1,none⟩=some (.int .i64 0)∧u.cell? ⟨w.heap.size+1+1,2,none⟩=some (.int .i64 0)∧u.cell? ⟨w.heap.size+1+1,3,none⟩=some (.bool false))∧∀o,u.frozen? ⟨w.heap.size+1+1,o,none⟩=false):=fun u k=>by
  rw[←hW0]at k
  exact⟨⟨(k.below.cell (p:=⟨w.heap.size+1+1,0,none⟩) (by simp)).trans (by simp[go_sem]),(k.below.cell (p:=⟨w.heap.size+1+1,1,none⟩) (by simp)).trans (by simp[go_sem]),(k.below.cell (p:=⟨w.heap.size+1+1,2,none⟩) (by simp)).trans (by simp[go_sem]),(k.below.cell (p:=⟨w.heap.size+1+1,3,none⟩) (by simp)).trans (by simp[go_sem])⟩,fun o=>(k.frozen _).trans (by simp[go_sem])⟩
 have B2:Hid (∀u,Kept W0 u→(u.cell? ⟨w.heap.size,0,none⟩=some (.bool n1)∧u.cell? ⟨w.heap.size,1,none⟩=some (.slice a l1 c1)∧u.cell? ⟨w.heap.size,2,none⟩=some (.int .i64 x1))∧(u.cell? ⟨w.heap.size+1,0,none⟩=some (.bool n2)∧u.cell? ⟨w.heap.size+1,1,none⟩=some (.slice b l2 c2)∧u.cell? ⟨w.heap.size+1,2,none⟩=some (.int .i64 x2))):=fun u k=>by
  rw[←hW0]at k
  exact⟨⟨(k.below.cell (p:=⟨w.heap.size,0,none⟩) (by simp<;>omega)).trans (by simp[go_sem]),(k.below.cell (p:=⟨w.heap.size,1,none⟩) (by simp<;>omega)).trans (by simp[go_sem]),(k.below.cell (p:=⟨w.heap.size,2,none⟩) (by simp<;>omega)).trans (by simp[go_sem])⟩,⟨(k.below.cell (p:=⟨w.heap.size+1,0,none⟩) (by simp<;>omega)).trans (by simp[go_sem]),(k.below.cell (p:=⟨w.heap.size+1,1,none⟩) (by simp<;>omega)).trans (by simp[go_sem]),(k.below.cell (p:=⟨w.heap.size+1,2,none⟩) (by simp<;>omega)).trans (by simp[go_sem])⟩⟩
 obtain⟨⟨p0,p1,p2⟩,⟨q0,q1,q2⟩⟩:=B2.out _ (Kept.refl _)
 rw[hW0]at hK
 go_enter Tryz.func101,Tryz.ntmps101
 go_wp2_with fail
 clear hW0 p0 p1 p2 q0 q1 q2
 refine(Kd.out _ hK).mono ?_
 rintro e w1 ⟨h,rfl,h0,h1,h2,k1⟩
 have K1:Hid (Kept W0 w1):=k1
 clear k1
 go_wp2_with fail
 refine wp_loop_rounds 4 ?_
 rw[rounds_succ]
 go_wp2_with fail
 rw[rounds_succ]
 go_wp2_with fail
 rw[rounds_succ]
 go_wp2_with fail
 rw[rounds_succ]
 obtain⟨⟨p0,p1,p2⟩,⟨q0,q1,q2⟩⟩:=B2.out _ K1.out
 obtain⟨⟨o0,o1,o2,o3⟩,oF⟩:=B1.out _ K1.out
 have hK2:Hid (Kept w w1):=hK.trans K1.out
 clear hK
 go_wp2_with fail
 subst hnb
 refine bodyPost_ret (v:=.agg #[.bool (n1 != n2),.int .i64 (H2:Int),.int .i64 ex,.bool rs]) (by simp[results,Tryz.results101,go_sem,o0,o1,o2,o3];cases n1<;>cases n2<;>rfl) rfl ⟨rfl,?_⟩
 exact(hK2.out.setCell (by simp<;>omega) _|>.setCell (by simp<;>omega) _|>.setCell (by simp<;>omega) _|>.setCell (by simp<;>omega) _)
end Go.Proofs.YtnniljhdcplkgaaGreatDoor
