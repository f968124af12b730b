/-  -/
import Derived.Test.YtaglkncdedeipaaGreatDoorWs35
import Derived.Test.YtaglkncdedeipaaGreatDoorWs04
import Derived.Deep.RegionHeld
import Derived.Test.YtaglkncdedeipaaGreatDoorWs30
import Derived.Test.YtaglkncdedeipaaGreatDoorWs15
import Derived.Test.YtaglkncdedeipaaGreatDoorWs29
import Derived.Test.YtaglkncdedeipaaGreatDoorWs23
namespace Go.Proofs.YtaglkncdedeipaaGreatDoor
open Go.ChangeShapes Go.WideShapes Go.ChangeAt Go.RowKit
set_option linter.unusedVariables false
set_option linter.unusedSimpArgs false
set_option maxHeartbeats 16000000
set_option maxRecDepth 100000
theorem ZF (b n:Int)(hb1:-9223372036854775808≤b)(hb2:b≤9223372036854775807):-9223372036854775808≤can b n∧can b n≤9223372036854775807:=by
 have:=kE n
 unfold can
 (repeat' split)<;>omega
theorem ZG (a b:Int)(ha1:-9223372036854775808≤a)(ha2:a≤9223372036854775807)(hb1:-9223372036854775808≤b)(hb2:b≤9223372036854775807)(ca:(cls a 64==4)=false)(cb:(cls b 64==4)=false)(w:World):Calls Tryz.prog 116 #[.int .i64 a,.int .i64 b,.int .i64 64] w fun e w'=>e=.returned (.bool (decide (rpl (can a 64) 64<rpl (can b 64) 64)))∧Kept w w':=by
 have qa:=ZF a 64 ha1 ha2
 have qb:=ZF b 64 hb1 hb2
 go_enter Tryz.func116,Tryz.ntmps116
 go_wp2_with fail
 refine(j4 _).mono ?_
 rintro e w1 ⟨rfl,hk1⟩
 go_wp2_with fail
 refine(qu a 64 ha1 ha2 _).mono ?_
 rintro e w2 ⟨rfl,hk2⟩
 go_wp2_with fail
 refine(qu b 64 hb1 hb2 _).mono ?_
 rintro e w3 ⟨rfl,hk3⟩
 have hK:=hk2.trans hk3
 go_wp2
 go_region_held (fun v=>Kept (w1.alloc (.cells #[.int .i64 64,.int .i64 53,.int .i64 4503599627370496,.int .i64 2047,.int .i64 (-1074),.int .i64 1024,.int .i64 9218868437227405312,.int .i64 (-9223372036854775808),.int .i64 9221120237041090561] 116)) v∧∀o,v.cell? ⟨w1.heap.size,o,none⟩=(w1.alloc (.cells #[.int .i64 64,.int .i64 53,.int .i64 4503599627370496,.int .i64 2047,.int .i64 (-1074),.int .i64 1024,.int .i64 9218868437227405312,.int .i64 (-9223372036854775808),.int .i64 9221120237041090561] 116)).cell? ⟨w1.heap.size,o,none⟩) (first|exact qfi hK|(refine qfj ?_ hk4;assumption)) (first|(go_at_call_of 150 (can a 64);refine(QG (can a 64) qa.1 qa.2 _).mono ?_;rintro e w4 ⟨rfl,hk4⟩)|(go_at_call_of 150 (can b 64);refine(QG (can b 64) qb.1 qb.2 _).mono ?_;rintro e w4 ⟨rfl,hk4⟩)|(go_at_call_of 151 a;refine(jT a 64 ha1 ha2 _).mono ?_;rintro e w4 ⟨rfl,hk4⟩)|(go_at_call_of 151 b;refine(jT b 64 hb1 hb2 _).mono ?_;rintro e w4 ⟨rfl,hk4⟩))
 all_goals
  go_wp2
  go_ret
  exact⟨rfl,(hk1.alloc _ _).trans (And.left ‹_›)⟩
theorem JQ (a b:Int)(ha1:-9223372036854775808≤a)(ha2:a≤9223372036854775807)(hb1:-9223372036854775808≤b)(hb2:b≤9223372036854775807)(ca:(cls a 64==4)=true)(w:World):Calls Tryz.prog 116 #[.int .i64 a,.int .i64 b,.int .i64 64] w fun e w'=>e=.returned (.bool false)∧Kept w w':=by
 go_enter Tryz.func116,Tryz.ntmps116
 go_wp2_with fail
 refine(j4 _).mono ?_
 rintro e w1 ⟨rfl,hk1⟩
 go_wp2_with fail
 refine(qu a 64 ha1 ha2 _).mono ?_
 rintro e w2 ⟨rfl,hk2⟩
 go_wp2
 go_ret
 exact⟨rfl,(hk1.alloc _ _).trans hk2⟩
theorem JR (a b:Int)(ha1:-9223372036854775808≤a)(ha2:a≤9223372036854775807)(hb1:-9223372036854775808≤b)(hb2:b≤9223372036854775807)(ca:(cls a 64==4)=false)(cb:(cls b 64==4)=true)(w:World):Calls Tryz.prog 116 #[.int .i64 a,.int .i64 b,.int .i64 64] w fun e w'=>e=.returned (.bool false)∧Kept w w':=by
 go_enter Tryz.func116,Tryz.ntmps116
 go_wp2_with fail
 refine(j4 _).mono ?_
 rintro e w1 ⟨rfl,hk1⟩
 go_wp2_with fail
 refine(qu a 64 ha1 ha2 _).mono ?_
 rintro e w2 ⟨rfl,hk2⟩
 go_wp2_with fail
 refine(qu b 64 hb1 hb2 _).mono ?_
 rintro e w3 ⟨rfl,hk3⟩
 go_wp2
 go_ret
 exact⟨rfl,(hk1.alloc _ _).trans (hk2.trans hk3)⟩
theorem ZH (a b:Int)(ha1:-9223372036854775808≤a)(ha2:a≤9223372036854775807)(hb1:-9223372036854775808≤b)(hb2:b≤9223372036854775807)(ca:(cls a 32==4)=false)(cb:(cls b 32==4)=false)(w:World):Calls Tryz.prog 116 #[.int .i64 a,.int .i64 b,.int .i64 32] w fun e w'=>e=.returned (.bool (decide (rpl (can a 32) 32<rpl (can b 32) 32)))∧Kept w w':=by
 have qa:=ZF a 32 ha1 ha2
 have qb:=ZF b 32 hb1 hb2
 go_enter Tryz.func116,Tryz.ntmps116
 go_wp2_with fail
 refine(j5 _).mono ?_
 rintro e w1 ⟨rfl,hk1⟩
 go_wp2_with fail
 refine(qu a 32 ha1 ha2 _).mono ?_
 rintro e w2 ⟨rfl,hk2⟩
 go_wp2_with fail
 refine(qu b 32 hb1 hb2 _).mono ?_
 rintro e w3 ⟨rfl,hk3⟩
 have hK:=hk2.trans hk3
 go_wp2
 go_region_held (fun v=>Kept (w1.alloc (.cells #[.int .i64 32,.int .i64 24,.int .i64 8388608,.int .i64 255,.int .i64 (-149),.int .i64 128,.int .i64 2139095040,.int .i64 2147483648,.int .i64 2143289345] 116)) v∧∀o,v.cell? ⟨w1.heap.size,o,none⟩=(w1.alloc (.cells #[.int .i64 32,.int .i64 24,.int .i64 8388608,.int .i64 255,.int .i64 (-149),.int .i64 128,.int .i64 2139095040,.int .i64 2147483648,.int .i64 2143289345] 116)).cell? ⟨w1.heap.size,o,none⟩) (first|exact qfi hK|(refine qfj ?_ hk4;assumption)) (first|(go_at_call_of 150 (can a 32);refine(QH (can a 32) qa.1 qa.2 _).mono ?_;rintro e w4 ⟨rfl,hk4⟩)|(go_at_call_of 150 (can b 32);refine(QH (can b 32) qb.1 qb.2 _).mono ?_;rintro e w4 ⟨rfl,hk4⟩)|(go_at_call_of 151 a;refine(jT a 32 ha1 ha2 _).mono ?_;rintro e w4 ⟨rfl,hk4⟩)|(go_at_call_of 151 b;refine(jT b 32 hb1 hb2 _).mono ?_;rintro e w4 ⟨rfl,hk4⟩))
 all_goals
  go_wp2
  go_ret
  exact⟨rfl,(hk1.alloc _ _).trans (And.left ‹_›)⟩
theorem JS (a b:Int)(ha1:-9223372036854775808≤a)(ha2:a≤9223372036854775807)(hb1:-9223372036854775808≤b)(hb2:b≤9223372036854775807)(ca:(cls a 32==4)=true)(w:World):Calls Tryz.prog 116 #[.int .i64 a,.int .i64 b,.int .i64 32] w fun e w'=>e=.returned (.bool false)∧Kept w w':=by
 go_enter Tryz.func116,Tryz.ntmps116
 go_wp2_with fail
 refine(j5 _).mono ?_
 rintro e w1 ⟨rfl,hk1⟩
 go_wp2_with fail
 refine(qu a 32 ha1 ha2 _).mono ?_
 rintro e w2 ⟨rfl,hk2⟩
 go_wp2
 go_ret
 exact⟨rfl,(hk1.alloc _ _).trans hk2⟩
theorem JT (a b:Int)(ha1:-9223372036854775808≤a)(ha2:a≤9223372036854775807)(hb1:-9223372036854775808≤b)(hb2:b≤9223372036854775807)(ca:(cls a 32==4)=false)(cb:(cls b 32==4)=true)(w:World):Calls Tryz.prog 116 #[.int .i64 a,.int .i64 b,.int .i64 32] w fun e w'=>e=.returned (.bool false)∧Kept w w':=by
 go_enter Tryz.func116,Tryz.ntmps116
 go_wp2_with fail
 refine(j5 _).mono ?_
 rintro e w1 ⟨rfl,hk1⟩
 go_wp2_with fail
 refine(qu a 32 ha1 ha2 _).mono ?_
 rintro e w2 ⟨rfl,hk2⟩
 go_wp2_with fail
 refine(qu b 32 hb1 hb2 _).mono ?_
 rintro e w3 ⟨rfl,hk3⟩
 go_wp2
 go_ret
 exact⟨rfl,(hk1.alloc _ _).trans (hk2.trans hk3)⟩
theorem qee (a b n:Int)(h1:(n==32)=false)(h2:(n==64)=false)(w:World):Calls Tryz.prog 116 #[.int .i64 a,.int .i64 b,.int .i64 n] w fun e w'=>e=.returned (.bool false)∧Kept w w':=by
 go_enter Tryz.func116,Tryz.ntmps116
 go_wp2_with fail
 refine(qbk n h1 h2 _).mono ?_
 rintro e w1 ⟨rfl,hk1⟩
 go_wp2
 go_ret
 exact⟨rfl,hk1.alloc _ _⟩
theorem yA (b n:Int)(hb1:-9223372036854775808≤b)(hb2:b≤9223372036854775807)(h:qh b n=true):rpl (can b n) n=if qd b n<0 then qd b n-1 else qd b n:=by
 rcases qV b n h with ⟨rfl,hc⟩|⟨rfl,hc⟩
 ·unfold rpl can qd
  rw[if_pos h]
  simp only[if_true]
  (repeat' split)<;>omega
 ·have hv:=qG b hc
  have e32:¬(32:Int)=64:=by decide
  have hcan:can b 32=if b=2147483648 then 0 else b:=by
   unfold can
   rw[if_pos h,if_neg e32]
  have hcv:0≤can b 32∧can b 32<4294967296:=by rw[hcan];split<;>omega
  have ht:thr (can b 32)=true:=by simp[thr,hcv]
  have e:jb (can b 32)=decide (2147483648≤can b 32):=by simp[jb,ht,sgn]
  unfold rpl qd
  rw[if_neg e32,if_neg e32,e]
  simp only[qh1]
  rw[hcan]
  (repeat' split)<;>omega
theorem QF (a b n:Int)(ha1:-9223372036854775808≤a)(ha2:a≤9223372036854775807)(hb1:-9223372036854775808≤b)(hb2:b≤9223372036854775807)(w:World):Calls Tryz.prog 116 #[.int .i64 a,.int .i64 b,.int .i64 n] w fun e w'=>e=.returned (.bool (lss a b n))∧Kept w w':=by
 by_cases h64:n=64
 ·subst h64
  cases ca:(cls a 64==4)
  ·have ia:qh a 64=true:=by simpa [qh] using ca
   cases cb:(cls b 64==4)
   ·have ib:qh b 64=true:=by simpa [qh] using cb
    refine(ZG a b ha1 ha2 hb1 hb2 ca cb w).mono ?_
    rintro e w' ⟨rfl,hk⟩
    refine⟨zR ?_,hk⟩
    unfold lss
    rw[ia,ib,Bool.true_and,Bool.true_and,yA a 64 ha1 ha2 ia,yA b 64 hb1 hb2 ib,Bool.eq_iff_iff,qh1,qh1]
    (repeat' split)<;>omega
   ·have ib:qh b 64=false:=by simpa [qh] using cb
    refine(JR a b ha1 ha2 hb1 hb2 ca cb w).mono ?_
    rintro e w' ⟨rfl,hk⟩
    exact⟨zR (by simp[lss,ib]),hk⟩
  ·have ia:qh a 64=false:=by simpa [qh] using ca
   refine(JQ a b ha1 ha2 hb1 hb2 ca w).mono ?_
   rintro e w' ⟨rfl,hk⟩
   exact⟨zR (by simp[lss,ia]),hk⟩
 ·by_cases h32:n=32
  ·subst h32
   cases ca:(cls a 32==4)
   ·have ia:qh a 32=true:=by simpa [qh] using ca
    cases cb:(cls b 32==4)
    ·have ib:qh b 32=true:=by simpa [qh] using cb
     refine(ZH a b ha1 ha2 hb1 hb2 ca cb w).mono ?_
     rintro e w' ⟨rfl,hk⟩
     refine⟨zR ?_,hk⟩
     unfold lss
     rw[ia,ib,Bool.true_and,Bool.true_and,yA a 32 ha1 ha2 ia,yA b 32 hb1 hb2 ib,Bool.eq_iff_iff,qh1,qh1]
     (repeat' split)<;>omega
    ·have ib:qh b 32=false:=by simpa [qh] using cb
     refine(JT a b ha1 ha2 hb1 hb2 ca cb w).mono ?_
     rintro e w' ⟨rfl,hk⟩
     exact⟨zR (by simp[lss,ib]),hk⟩
   ·have ia:qh a 32=false:=by simpa [qh] using ca
    refine(JS a b ha1 ha2 hb1 hb2 ca w).mono ?_
    rintro e w' ⟨rfl,hk⟩
    exact⟨zR (by simp[lss,ia]),hk⟩
  ·refine(qee a b n (by simpa using h32) (by simpa using h64) w).mono ?_
   rintro e w' ⟨rfl,hk⟩
   exact⟨zR (by simp[lss,ja a n h64 h32]),hk⟩
end Go.Proofs.YtaglkncdedeipaaGreatDoor
namespace Go.Proofs.YtaglkncdedeipaaGreatDoor
open Go.ChangeShapes Go.WideShapes Go.ChangeAt Go.RowKit Ieee
set_option linter.unusedVariables false
set_option linter.unusedSimpArgs false
set_option maxHeartbeats 16000000
set_option maxRecDepth 100000
theorem V7 (y n:Int)(hn:n=64∨n=32)(hy:RB y)(hc:cls y n<3):ofN y n=ofN (pz n (qd y n)) n∧qh y n=true∧(-(ifn n:Int)<qd y n∧qd y n<(ifn n:Int)):=by
 have hi:qh y n=true:=by
  unfold qh
  rw[qh1]
  exact⟨hn,by omega⟩
 have hf:=vK y n hn hi hy
 have hfin:fin y n=true:=by
  unfold fin
  rw[qh1]
  exact⟨hn,hc⟩
 rw[hfin]at hf
 have hne:=of_decide_eq_true hf.symm
 have hr:=zh y n hi hy.1 hy.2
 refine⟨?_,hi,by omega⟩
 have hcan:=Vq y n hi hy.1 hy.2
 rw[←hcan]
 unfold can
 rw[if_pos hi]
 rcases hn with rfl|rfl
 ·rw[if_pos rfl]
  by_cases hz:y=-9223372036854775808
  ·rw[if_pos hz]
   subst hz
   rw[(vD (-9223372036854775808) 64 (by decide)).2,(vD 0 64 (by decide)).2]
  ·rw[if_neg hz]
 ·rw[if_neg (by decide:¬(32:Int)=64)]
  by_cases hz:y=2147483648
  ·rw[if_pos hz]
   subst hz
   rw[(vD 2147483648 32 (by decide)).2,(vD 0 32 (by decide)).2]
  ·rw[if_neg hz]
theorem jc (y n:Int)(hn:n=64∨n=32)(hy:RB y)(hc:cls y n<3):Lies (-1075) 5000 (ofN y n)∧vz (-1075) (ofN y n)=kvz n (-1074) (qd y n)*2:=by
 obtain⟨e,hi,b1,b2⟩:=V7 y n hn hy hc
 rw[e]
 obtain⟨h1,h2⟩:=qga n (qd y n) hn b1 b2 (-1075) (by decide) (by decide)
 refine⟨h1,?_⟩
 have hkl:(-1074:Int)≤qi n:=by rcases hn with rfl|rfl<;>decide
 rw[h2,xl n (-1075) (-1074) _ (by decide) hkl]
 rfl
end Go.Proofs.YtaglkncdedeipaaGreatDoor
namespace Go.Proofs.YtaglkncdedeipaaGreatDoor
open Go.ChangeShapes Go.WideShapes Go.ChangeAt Go.RowKit
set_option linter.unusedVariables false
set_option linter.unusedSimpArgs false
set_option maxHeartbeats 16000000
set_option maxRecDepth 100000
theorem jG (a b:Int):(a<b→cz a b=-1)∧(a=b→cz a b=0)∧(b<a→cz a b=1):=by
 unfold cz
 refine⟨fun h=>?_,fun h=>?_,fun h=>?_⟩<;>(repeat' split)<;>omega
def qR (n k:Int):Int:=if k=(ifn n:Int)then 1 else if k=-(ifn n:Int)then -1 else 0
theorem Zv (n k:Int):qR n k=-1∨qR n k=0∨qR n k=1:=by
 unfold qR
 (repeat' split)<;>simp
theorem qg2 (b n:Int)(hb:RB b)(w:World):Calls Tryz.prog 88 #[.int .i64 b,.int .i64 n] w fun e w'=>e=.returned (.int .i64 (if lss b 0 n=true then -1 else if lss 0 b n=true then 1 else 0))∧Kept w w':=by
 have K1:Hid (∀u,Calls Tryz.prog 116 #[.int .i64 b,.int .i64 0,.int .i64 n] u fun e w'=>e=.returned (.bool (lss b 0 n))∧Kept u w'):=fun u=>QF b 0 n hb.1 hb.2 (by decide) (by decide) u
 have K2:Hid (∀u,Calls Tryz.prog 116 #[.int .i64 0,.int .i64 b,.int .i64 n] u fun e w'=>e=.returned (.bool (lss 0 b n))∧Kept u w'):=fun u=>QF 0 b n (by decide) (by decide) hb.1 hb.2 u
 generalize lss b 0 n=t1 at *
 generalize lss 0 b n=t2 at *
 go_enter Tryz.func88,Tryz.ntmps88
 go_wp2_with fail
 refine(K1.out _).mono ?_
 rintro e w1 ⟨rfl,k1⟩
 cases t1
 ·go_wp2_with fail
  refine(K2.out _).mono ?_
  rintro e w2 ⟨rfl,k2⟩
  cases t2
  ·go_wp2_with fail
   go_ret
   exact⟨rfl,k1.trans k2⟩
  ·go_wp2_with fail
   go_ret
   exact⟨rfl,k1.trans k2⟩
 ·go_wp2_with fail
  go_ret
  exact⟨rfl,k1⟩
theorem yw (b n:Int)(hb:RB b)(hi:qh b n=true):(cls b n<3↔-(ifn n:Int)<qd b n∧qd b n<(ifn n:Int))∧(cls b n<3∨cls b n=3):=by
 have hn:=qO b n hi
 have hf:=vK b n hn hi hb
 have hr:=zh b n hi hb.1 hb.2
 have h4:cls b n≠4:=by
  unfold qh at hi
  rw[qh1]at hi
  exact hi.2
 have hle:cls b n≤4:=by
  unfold cls zc
  (repeat' split)<;>omega
 unfold fin at hf
 refine⟨⟨fun h=>?_,fun h=>?_⟩,by omega⟩
 ·rw[qh2 ⟨hn,h⟩]at hf
  have:=of_decide_eq_true hf.symm
  omega
 ·rw[qh2 (show ¬(qd b n=(ifn n:Int)∨qd b n=-(ifn n:Int)) by omega)]at hf
  exact(of_decide_eq_true hf).2
theorem qg3 (b n:Int)(hb:RB b)(hi:qh b n=true)(w:World):Calls Tryz.prog 52 #[.int .i64 b,.int .i64 n] w fun e w'=>(∃r,e=.returned r∧EnAt (qj w.heap.size) w' r (qR n (qd b n)) (qz b n) oneN5)∧Kept w w':=by
 have hn:=qO b n hi
 obtain⟨hc,h3⟩:=yw b n hb hi
 have hr:=zh b n hi hb.1 hb.2
 have hpos:=jI n
 by_cases hcl:cls b n<3
 ·have hk:=hc.1 hcl
  have e1:qR n (qd b n)=0:=by unfold qR;rw[if_neg (by omega),if_neg (by omega)]
  have e2:qz b n=ofN b n:=by unfold qz;rw[if_pos hcl]
  rw[e1,e2,(qfa b n hn hcl).2]
  exact qdq b n (cls b n) _ (by simp;omega) w (fun u=>qu b n hb.1 hb.2 u) (fun u=>VG b n hb.1 hb.2 hn hcl u)
 ·have hc3:cls b n=3:=by omega
  have e2:qz b n=⟨false,[],0⟩:=by unfold qz;rw[if_neg hcl]
  have h0:qh 0 n=true∧qd 0 n=0:=by rcases hn with rfl|rfl<;>decide
  have hk:¬(-(ifn n:Int)<qd b n∧qd b n<(ifn n:Int)):=fun h=>hcl (hc.2 h)
  have es:(if lss b 0 n=true then (-1:Int)else if lss 0 b n=true then 1 else 0)=qR n (qd b n):=by
   unfold lss qR
   rw[hi,h0.1,h0.2]
   simp only[Bool.true_and,qh1]
   (repeat' split)<;>omega
  rw[e2,←es]
  refine qdp b n _ w (fun u=>?_) (fun u=>qg2 b n hb u)
  have:=qu b n hb.1 hb.2 u
  rw[hc3]at this
  exact this
theorem qa7 (x:Nm)(h:vld x=true):nrm x.neg (nv x.mag) x.exp=x:=by
 obtain⟨ng,L,e⟩:=x
 by_cases hL:L=[]
 ·subst hL
  obtain⟨rfl,rfl⟩:=jM _ _ h
  simp[nrm,nv]
 ·have h1:=Vk e ng L e h (fun _=>Int.le_refl _)
  have h2:=ZS (decide (vz e ⟨ng,L,e⟩<0)) (vz e ⟨ng,L,e⟩).natAbs e
  unfold cfm at h1
  rw[h1]at h2
  have h3:(vz e ⟨ng,L,e⟩).natAbs=nv L:=by
   rw[ki]
   simp
  have hs:=ZE e ⟨ng,L,e⟩ h
  have hp:=qbs e ng L e hL h
  rw[Int.sub_self]at hp
  have h4:decide (vz e ⟨ng,L,e⟩<0)=ng:=by
   cases ng
   ·have:=hs.2.1 rfl
    rw[decide_eq_false_iff_not];omega
   ·have:=hs.1 rfl
    rw[qh1];omega
  rw[h3,h4]at h2
  split at h2
  ·exact(Option.some.inj h2).symm
  ·cases h2
theorem VQ (x:Nm)(h:vld x=true):tms x oneN5=x:=by
 have e1:nv oneN5.mag=1:=by decide
 have e2:(x.neg != oneN5.neg)=x.neg:=by
  have:oneN5.neg=false:=rfl
  rw[this]
  cases x.neg<;>rfl
 unfold tms
 rw[e1,e2,Nat.mul_one,show oneN5.exp=0 from rfl,Int.add_zero]
 exact qa7 x h
theorem VR:vld oneN5=true:=by decide
def Rh (T s i:Int)(x:Nm):Int:=if 0<i then T else if i<0 then -T else vz s x
theorem qdy (P:Nat→Prop)(v1 v2:Value)(i1 i2:Int)(x1 x2:Nm)(s T:Int)(hi1:i1=-1∨i1=0∨i1=1)(hi2:i2=-1∨i2=0∨i2=1)(h1:vld x1=true)(h2:vld x2=true)(s1:x1.mag≠[]→s≤x1.exp)(s2:x2.mag≠[]→s≤x2.exp)(b1:-T<vz s x1∧vz s x1<T)(b2:-T<vz s x2∧vz s x2<T)(w:World)(e1:EnAt P w v1 i1 x1 oneN5)(e2:EnAt P w v2 i2 x2 oneN5):Calls Tryz.prog 53 #[v1,v2] w fun e w'=>e=.returned (.int .i64 (cz (Rh T s i1 x1) (Rh T s i2 x2)))∧Kept w w':=by
 obtain⟨a1,c1,a2,c2,rfl,r1,r2⟩:=e1
 obtain⟨a3,c3,a4,c4,rfl,r3,r4⟩:=e2
 by_cases hne:i1=i2
 ·subst hne
  by_cases h0:i1=0
  ·subst h0
   have er:cz (Rh T s 0 x1) (Rh T s 0 x2)=cz (vz s x1) (vz s x2):=by
    unfold Rh
    rw[if_neg (by decide),if_neg (by decide),if_neg (by decide),if_neg (by decide)]
   rw[er]
   refine X4 _ _ _ _ _ _ _ _ _ _ _ _ _ _ _ _ _ _ _ _ _ (fun u v=>RNp (PL P w) u v x1) (fun u v=>RNp (PL P w) u v x2) w (fun u u' v h k=>h.kept k) (fun u k=>?_) (fun u k=>?_) (fun u v1 v2 g1 g2=>?_)
   ·have:=QP P u x1 oneN5 _ _ ⟨_,rfl,r1.kept k⟩ ⟨_,rfl,r4.kept k⟩ h1 VR
    refine this.mono ?_
    rintro e w' ⟨⟨v,rfl,hv⟩,kk⟩
    rw[VQ x1 h1]at hv
    exact⟨v,rfl,hv.imp (fun c hc=>hc.elim .inl (fun g=>.inr (qh4 k.below.size g))),kk⟩
   ·have:=QP P u x2 oneN5 _ _ ⟨_,rfl,r3.kept k⟩ ⟨_,rfl,r2.kept k⟩ h2 VR
    refine this.mono ?_
    rintro e w' ⟨⟨v,rfl,hv⟩,kk⟩
    rw[VQ x2 h2]at hv
    exact⟨v,rfl,hv.imp (fun c hc=>hc.elim .inl (fun g=>.inr (qh4 k.below.size g))),kk⟩
   ·exact Vy _ u x1 x2 v1 v2 g1 g2 h1 h2 _ (qgt s x1 x2 h1 h2 s1 s2)
  ·have er:cz (Rh T s i1 x1) (Rh T s i1 x2)=0:=by
    have:Rh T s i1 x1=Rh T s i1 x2:=by
     unfold Rh
     (repeat' split)<;>first|rfl|omega
    rw[this]
    exact(jG _ _).2.1 rfl
   rw[er]
   exact XZ _ _ _ _ _ _ _ _ _ _ _ _ _ _ _ _ _ _ _ _ i1 (by simpa using h0) w
 ·refine YN i1 _ _ _ _ _ _ _ _ _ _ i2 _ _ _ _ _ _ _ _ _ _ (by simpa using hne) _ ?_ w
  obtain⟨q1,q2,q3⟩:=jG (Rh T s i1 x1) (Rh T s i2 x2)
  unfold Rh at *
  rcases hi1 with rfl|rfl|rfl<;>rcases hi2 with rfl|rfl|rfl<;>simp at * <;>first|(apply q1;omega)|(apply q3;omega)
theorem X6 (lo hi n:Int)(q1 q2 m1 m2:Bool)(hq:(!q1||(!q2||(m1||m2)))=true)(w:World)
  (KV:Hid (∀u b q,(b=lo∧q=q1∨b=hi∧q=q2)→Calls Tryz.prog 50 #[.int .i64 b,.int .i64 n] u fun e w'=>e=.returned (.bool q)∧Kept u w'))
  (KN:Hid (∀u b q,(b=lo∧q=m1∨b=hi∧q=m2)→Calls Tryz.prog 51 #[.int .i64 b,.int .i64 n] u fun e w'=>e=.returned (.bool q)∧Kept u w')):
  Calls Tryz.prog 12 #[.agg #[.int .i64 lo,.int .i64 hi],.int .i64 n] w fun e w'=>e=.returned (.bool false)∧Kept w w':=by
 obtain⟨X,hX⟩:∃X,X=w.alloc (.cells #[.int .i64 lo,.int .i64 hi] 23):=⟨_,rfl⟩
 have hK:Kept w X:=by rw[hX];exact(qia w).alloc _ _
 have hXs:X.heap.size=w.heap.size+1:=by rw[hX];simp
 have hP0:P2 X (w.heap.size) (.int .i64 lo) (.int .i64 hi):=by
  rw[hX]
  have:=(P2.new (w) (.int .i64 lo) (.int .i64 hi) 23)
  simpa using this
 obtain⟨B0,hB0⟩:∃B,B=w.heap.size:=⟨_,rfl⟩
 rw[←hB0]at hP0
 have oB:Hid (w.heap.size≤B0∧B0<X.heap.size):=(show _∧_ from by omega)
 have oX:Hid (w.heap.size≤X.heap.size):=hK.below.size
 go_enter Tryz.func12,Tryz.ntmps12
 go_upto_region 1 with fail
 rw[←hX,←hB0]
 clear hX hXs hB0
 obtain⟨p0,p1,pf⟩:=hP0.kept (qia X)
 go_wp2_with fail
 refine(KV.out _ _ _ (.inl ⟨rfl,rfl⟩)).mono ?_
 rintro e w1 ⟨rfl,k1⟩
 have kk:=k1
 clear p0 p1 pf
 obtain⟨p0,p1,pf⟩:=hP0.kept kk
 cases q1
 ·go_wp2_with fail
  go_ret
  exact⟨rfl,hK.trans kk⟩
 ·skip
  go_wp2_with fail
  refine(KV.out _ _ _ (.inr ⟨rfl,rfl⟩)).mono ?_
  rintro e w2 ⟨rfl,k2⟩
  have kk:=kk.trans k2
  clear p0 p1 pf
  obtain⟨p0,p1,pf⟩:=hP0.kept kk
  cases q2
  ·go_wp2_with fail
   go_ret
   exact⟨rfl,hK.trans kk⟩
  ·skip
   go_wp2_with fail
   refine(KN.out _ _ _ (.inl ⟨rfl,rfl⟩)).mono ?_
   rintro e w3 ⟨rfl,k3⟩
   have kk:=kk.trans k3
   clear p0 p1 pf
   obtain⟨p0,p1,pf⟩:=hP0.kept kk
   cases m1
   ·have hm:m2=true:=by simpa using hq
    subst hm
    go_wp2_with fail
    refine(KN.out _ _ _ (.inr ⟨rfl,rfl⟩)).mono ?_
    rintro e w4 ⟨rfl,k4⟩
    go_wp2_with fail
    go_ret
    exact⟨rfl,hK.trans (kk.trans k4)⟩
   ·go_wp2_with fail
    go_ret
    exact⟨rfl,hK.trans kk⟩
theorem JF (lo hi n i1 i2 g:Int)(t1 t2 t3:Bool)(ht1:(i1 != 1)=t1)(ht2:(i2 != -1)=t2)(ht3:decide (g≤0)=t3)(q1 q2 m1 m2:Bool)(hq1:q1=true)(hq2:q2=true)(hm1:m1=false)(hm2:m2=false)(E:Int→World→Value→Prop)(sE:Hid (∀b u u' v,E b u v→Kept u u'→E b u' v))(w:World)
  (KV:Hid (∀u b q,(b=lo∧q=q1∨b=hi∧q=q2)→Calls Tryz.prog 50 #[.int .i64 b,.int .i64 n] u fun e w'=>e=.returned (.bool q)∧Kept u w'))
  (KN:Hid (∀u b q,(b=lo∧q=m1∨b=hi∧q=m2)→Calls Tryz.prog 51 #[.int .i64 b,.int .i64 n] u fun e w'=>e=.returned (.bool q)∧Kept u w'))
  (KO:Hid (∀u b i,(b=lo∧i=i1∨b=hi∧i=i2)→Kept w u→Calls Tryz.prog 52 #[.int .i64 b,.int .i64 n] u fun e w'=>∃(n1:Bool) (a1:Option Addr) (l1 c1:Nat) (x1:Int) (m1:Bool) (b1:Option Addr) (k1 d1:Nat) (y1:Int),e=.returned (env i n1 a1 l1 c1 x1 m1 b1 k1 d1 y1)∧E b w' (env i n1 a1 l1 c1 x1 m1 b1 k1 d1 y1)∧Kept u w'))
  (KR:Hid (∀u v1 v2,Kept w u→E lo u v1→E hi u v2→Calls Tryz.prog 53 #[v1,v2] u fun e w'=>e=.returned (.int .i64 g)∧Kept u w')):
  Calls Tryz.prog 12 #[.agg #[.int .i64 lo,.int .i64 hi],.int .i64 n] w fun e w'=>e=.returned (.bool (t1&&t2&&t3))∧Kept w w':=by
 subst hq1 hq2 hm1 hm2
 obtain⟨X,hX⟩:∃X,X=w.alloc (.cells #[.int .i64 lo,.int .i64 hi] 23):=⟨_,rfl⟩
 have hK:Kept w X:=by rw[hX];exact(qia w).alloc _ _
 have hXs:X.heap.size=w.heap.size+1:=by rw[hX];simp
 have hP0:P2 X (w.heap.size) (.int .i64 lo) (.int .i64 hi):=by
  rw[hX]
  have:=(P2.new (w) (.int .i64 lo) (.int .i64 hi) 23)
  simpa using this
 obtain⟨B0,hB0⟩:∃B,B=w.heap.size:=⟨_,rfl⟩
 rw[←hB0]at hP0
 have oB:Hid (w.heap.size≤B0∧B0<X.heap.size):=(show _∧_ from by omega)
 have oX:Hid (w.heap.size≤X.heap.size):=hK.below.size
 go_enter Tryz.func12,Tryz.ntmps12
 go_upto_region 1 with fail
 rw[←hX,←hB0]
 clear hX hXs hB0
 obtain⟨p0,p1,pf⟩:=hP0.kept (qia X)
 go_wp2_with fail
 refine(KV.out _ _ _ (.inl ⟨rfl,rfl⟩)).mono ?_
 rintro e w1 ⟨rfl,k1⟩
 have kk:=k1
 clear p0 p1 pf
 obtain⟨p0,p1,pf⟩:=hP0.kept kk
 go_wp2_with fail
 refine(KV.out _ _ _ (.inr ⟨rfl,rfl⟩)).mono ?_
 rintro e w2 ⟨rfl,k2⟩
 have kk:=kk.trans k2
 clear p0 p1 pf
 obtain⟨p0,p1,pf⟩:=hP0.kept kk
 go_wp2_with fail
 refine(KN.out _ _ _ (.inl ⟨rfl,rfl⟩)).mono ?_
 rintro e w3 ⟨rfl,k3⟩
 have kk:=kk.trans k3
 clear p0 p1 pf
 obtain⟨p0,p1,pf⟩:=hP0.kept kk
 go_wp2_with fail
 refine(KN.out _ _ _ (.inr ⟨rfl,rfl⟩)).mono ?_
 rintro e w4 ⟨rfl,k4⟩
 have kk:=kk.trans k4
 clear p0 p1 pf
 obtain⟨p0,p1,pf⟩:=hP0.kept kk
 go_upto_region 3 with fail
 go_wp2_with fail
 refine(KO.out _ _ _ (.inl ⟨rfl,rfl⟩) (hK.trans kk)).mono ?_
 rintro e w5 ⟨n1,a1,l1,c1,x1,m1,b1,k1n,d1,y1,rfl,g1,k5⟩
 go_upto_region 4 with fail
 have k5':=k5.alloc #[.int .i64 i1,.bool n1,.slice a1 l1 c1,.int .i64 x1,.bool m1,.slice b1 k1n d1,.int .i64 y1] 77
 have hL:=P7.new w5 (.int .i64 i1) (.bool n1) (.slice a1 l1 c1) (.int .i64 x1) (.bool m1) (.slice b1 k1n d1) (.int .i64 y1) 77
 obtain⟨Y5,hY5⟩:∃Y,Y=w5.alloc (.cells #[.int .i64 i1,.bool n1,.slice a1 l1 c1,.int .i64 x1,.bool m1,.slice b1 k1n d1,.int .i64 y1] 77):=⟨_,rfl⟩
 obtain⟨B5,hB5⟩:∃B,B=w5.heap.size:=⟨_,rfl⟩
 rw[←hY5]at k5' hL
 rw[←hB5]at hL
 rw[←hY5,←hB5]
 have g1:=sE.out _ _ _ _ g1 (show Kept w5 Y5 by rw[hY5];exact(qia w5).alloc _ _)
 have kk:=kk.trans k5'
 clear hY5 hB5 k5 k5' p0 p1 pf
 obtain⟨p0,p1,pf⟩:=hP0.kept kk
 go_wp2_with fail
 refine(KO.out _ _ _ (.inr ⟨rfl,rfl⟩) (hK.trans kk)).mono ?_
 rintro e w6 ⟨n2,a2,l2,c2,x2,m2,b2,k2n,d2,y2,rfl,g2,k6⟩
 go_upto_region 5 with fail
 have k6':=k6.alloc #[.int .i64 i2,.bool n2,.slice a2 l2 c2,.int .i64 x2,.bool m2,.slice b2 k2n d2,.int .i64 y2] 77
 have hH:=P7.new w6 (.int .i64 i2) (.bool n2) (.slice a2 l2 c2) (.int .i64 x2) (.bool m2) (.slice b2 k2n d2) (.int .i64 y2) 77
 obtain⟨Y6,hY6⟩:∃Y,Y=w6.alloc (.cells #[.int .i64 i2,.bool n2,.slice a2 l2 c2,.int .i64 x2,.bool m2,.slice b2 k2n d2,.int .i64 y2] 77):=⟨_,rfl⟩
 obtain⟨B6,hB6⟩:∃B,B=w6.heap.size:=⟨_,rfl⟩
 rw[←hY6]at k6' hH
 rw[←hB6]at hH
 rw[←hY6,←hB6]
 have g2:=sE.out _ _ _ _ g2 (show Kept w6 Y6 by rw[hY6];exact(qia w6).alloc _ _)
 have g1:=sE.out _ _ _ _ g1 k6'
 have hL:=hL.kept k6'
 have kk:=kk.trans k6'
 clear hY6 hB6 k6 k6' p0 p1 pf
 obtain⟨e0,e1,e2,e3,e4,e5,e6,ef⟩:=hL
 obtain⟨f0,f1,f2,f3,f4,f5,f6,ff⟩:=hH
 cases t1
 ·go_wp2_with fail
  go_ret
  exact⟨rfl,hK.trans kk⟩
 ·cases t2
  ·go_wp2_with fail
   go_ret
   exact⟨rfl,hK.trans kk⟩
  ·go_wp2_with fail
   refine(KR.out _ _ _ (hK.trans kk) g1 g2).mono ?_
   rintro e w7 ⟨rfl,k7⟩
   go_wp2_with fail
   go_ret
   exact⟨by simp[ht3],hK.trans (kk.trans k7)⟩
end Go.Proofs.YtaglkncdedeipaaGreatDoor
namespace Go.Proofs.YtaglkncdedeipaaGreatDoor
open Go.ChangeShapes Go.WideShapes Go.ChangeAt Go.RowKit Ieee
set_option linter.unusedVariables false
set_option linter.unusedSimpArgs false
set_option maxHeartbeats 16000000
set_option maxRecDepth 100000
structure HB (n H:Int):Prop where
 one:1≤H
 fin:∀k,-(ifn n:Int)<k→k<(ifn n:Int)→-H<kvz n (-1074) k∧kvz n (-1074) k<H
 wrt:∀s z,(s=-1074∨s=-2148)→-(H*H)<z→z<H*H→∃r,cfm z s=some r∧vld r=true∧(r.mag≠[]→s≤r.exp)∧vz s r=z
theorem qhb (y n:Int)(hn:n=64∨n=32)(hy:RB y)(hc:cls y n<3):kyN n 1 (ofN y n)=qd y n∧kyN n 2 (ofN y n)=qd y n:=by
 obtain⟨-,i1,b1,b2⟩:=V7 y n hn hy hc
 obtain⟨l1,z1⟩:=jc y n hn hy hc
 have hkl:(-1074:Int)≤qi n:=by rcases hn with rfl|rfl<;>decide
 have hz:vz (-1075) (ofN y n)=kvz n (-1075) (qd y n):=by
  rw[z1,xl n (-1075) (-1074) _ (by decide) hkl]
  rfl
 obtain⟨a1,a2,-⟩:=ky n hn (ofN y n) l1.ok (-1075) l1.low (by omega) _ b1 b2 hz
 exact⟨a1,a2⟩
end Go.Proofs.YtaglkncdedeipaaGreatDoor
