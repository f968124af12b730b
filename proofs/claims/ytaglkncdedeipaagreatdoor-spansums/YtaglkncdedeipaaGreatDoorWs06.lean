/-  -/
import Derived.Test.YtaglkncdedeipaaGreatDoorWs05
import Derived.Deep.CutRange
import Derived.Deep.RegionHeld
namespace Go.Proofs.YtaglkncdedeipaaGreatDoor
open Go.ChangeShapes Go.WideShapes Go.ChangeAt Go.RowKit Ieee
set_option linter.unusedVariables false
set_option linter.unusedSimpArgs false
set_option maxHeartbeats 16000000
set_option maxRecDepth 100000
def flv (b n:Int):Nat:=if qh b n=true then fl b n else if n=64∨n=32 then 9221120237041090561 else 0
def J4 (b n:Int):Int:=if n=64 then cln b 64 else if n=32 then cvw b else 0
theorem Y3 (b n m:Int)(h1:(n==32)=false)(h2:(n==64)=false)(w:World):Calls Tryz.prog 103 #[.int .i64 b,.int .i64 n,.int .i64 m] w fun e w'=>e=.returned (.int .i64 0)∧Kept w w':=by
 have KL:Hid (∀u,Calls Tryz.prog 129 #[.int .i64 n] u fun e w'=>e=.returned (.tuple #[.agg #[.int .i64 0,.int .i64 0,.int .i64 0,.int .i64 0,.int .i64 0],.bool false])∧Kept u w'):=fun u=>jL n h1 h2 u
 go_enter Tryz.func103,Tryz.ntmps103
 go_wp2_with (first|(go_at_call 129;refine(KL.out _).mono ?_;rintro e w1 ⟨rfl,k1⟩))
 go_ret
 exact⟨rfl,k1.alloc _ _⟩
theorem Y4 (b n:Int)(hb1:-9223372036854775808≤b)(hb2:b≤9223372036854775807)(w:World):Calls Tryz.prog 103 #[.int .i64 b,.int .i64 n,.int .i64 64] w fun e w'=>e=.returned (.int .i64 (J4 b n))∧Kept w w':=by
 unfold J4
 by_cases h64:n=64
 ·subst h64
  rw[if_pos rfl]
  exact vo b hb1 hb2 w
 ·by_cases h32:n=32
  ·subst h32
   rw[if_neg (by decide),if_pos rfl]
   exact QY b w
  ·rw[if_neg h64,if_neg h32]
   exact Y3 b n 64 (by simpa using h32) (by simpa using h64) w
theorem qby (b n:Int):qQ (J4 b n)=flv b n:=by
 unfold J4 flv fl
 by_cases h64:n=64
 ·subst h64
  rw[if_pos rfl,Jw]
  by_cases hc:cls b 64=4
  ·rw[if_neg (by simp[hc]),if_pos (.inl rfl)]
   unfold cln
   rw[if_pos hc,if_pos rfl]
   decide
  ·rw[if_pos (by simp[hc]),if_pos rfl]
   unfold cln
   rw[if_neg hc]
 ·by_cases h32:n=32
  ·subst h32
   rw[if_neg (by decide),if_pos rfl,qat]
   by_cases hc:cls b 32=4
   ·rw[if_neg (by simp[hc]),if_pos (.inr rfl)]
    unfold cvw
    rw[if_pos hc]
    decide
   ·rw[if_pos (by simp[hc]),if_neg (by decide)]
    exact(yp b hc).1
  ·rw[if_neg h64,if_neg h32,if_neg (by simp[ja b n h64 h32]),if_neg (by simp[h64,h32])]
   decide
theorem jU (b n:Int)(hb1:-9223372036854775808≤b)(hb2:b≤9223372036854775807)(w:World):Calls Tryz.prog 85 #[.int .i64 b,.int .i64 n] w fun e w'=>e=.returned (.float .f64 (flv b n))∧Kept w w':=by
 have KC:Hid (∀u,Calls Tryz.prog 103 #[.int .i64 b,.int .i64 n,.int .i64 64] u fun e w'=>e=.returned (.int .i64 (J4 b n))∧Kept u w'):=fun u=>Y4 b n hb1 hb2 u
 have KF:Hid (∀u,Calls Tryz.prog 115 #[.int .i64 (J4 b n)] u fun e w'=>e=.returned (.float .f64 (flv b n))∧u=w'):=fun u=>by
  rw[←qby]
  exact QS (J4 b n) u
 generalize J4 b n=c at *
 generalize flv b n=x at *
 go_enter Tryz.func85,Tryz.ntmps85
 go_wp2_with (first|(go_at_call 103;refine(KC.out _).mono ?_;rintro e w1 ⟨rfl,k1⟩)|(go_at_call 115;refine(KF.out _).mono ?_;rintro e w2 ⟨rfl,rfl⟩))
 go_ret
 exact⟨rfl,k1⟩
theorem Fl.flv {b n:Int}(h:qh b n=true)(h1:-9223372036854775808≤b)(h2:b≤9223372036854775807):Fl n (flv b n) (qd b n):=by
 unfold Go.Proofs.YtaglkncdedeipaaGreatDoor.flv
 rw[if_pos h]
 exact Fl.of b n h h1 h2
theorem yd {n:Int}{x:Nat}{k:Int}(h:Fl n x k)(w:World):Calls Tryz.prog 76 #[.float .f64 x,.int .i64 n] w fun e w'=>e=.returned (.int .i64 (pz n k))∧Kept w w':=by
 have hh:=h
 obtain⟨q,-,-,o1,o2,o3,o4,o5,o6⟩:=hh.wide
 obtain⟨b,b1,b2,rfl,rfl⟩:=h
 have KO:Hid (∀u,Calls Tryz.prog 104 #[.float .f64 (fl b n)] u fun e w'=>e=.returned (.int .i64 (qv (fl b n)))∧u=w'):=fun u=>xs _ u
 have KC:Hid (∀u,Calls Tryz.prog 103 #[.int .i64 (qv (fl b n)),.int .i64 64,.int .i64 n] u fun e w'=>e=.returned (.int .i64 b)∧Kept u w'):=fun u=>by
  rcases qV b n b1 with ⟨rfl,c⟩|⟨rfl,c⟩
  ·have e:qv (fl b 64)=b:=by
    have:=Xq b b2.1 b2.2
    rw[if_neg c]at this
    simpa [fl] using this
   have hc:cln b 64=b:=by unfold cln;rw[if_neg c]
   have:=vo b b2.1 b2.2 u
   rw[hc]at this
   rw[e]
   exact this
  ·have e:qv (fl b 32)=cvw b:=by
    rw[o1]
    unfold cvw
    rw[if_neg c]
    simp[fl]
   have hc:cln b 32=b:=by unfold cln;rw[if_neg c]
   have:=QZ b u
   rw[hc]at this
   rw[e]
   exact this
 have KN:Hid (∀u,Calls Tryz.prog 102 #[.int .i64 b,.int .i64 n] u fun e w'=>e=.returned (.int .i64 (pz n (qd b n)))∧Kept u w'):=fun u=>by
  rw[←Vq b n b1 b2.1 b2.2]
  exact Ka b n u
 clear o1 o2 o3 o4 o5 o6 hh
 generalize qv (fl b n)=c at *
 generalize fl b n=x at *
 generalize pz n (qd b n)=d at *
 go_enter Tryz.func76,Tryz.ntmps76
 go_wp2_with (first|(go_at_call 104;refine(KO.out _).mono ?_;rintro e w1 ⟨rfl,rfl⟩)|(go_at_call 103;refine(KC.out _).mono ?_;rintro e w2 ⟨rfl,k2⟩)|(go_at_call 102;refine(KN.out _).mono ?_;rintro e w3 ⟨rfl,k3⟩))
 go_ret
 exact⟨rfl,k2.trans k3⟩
theorem qgk (x:Nat)(h:qk FloatKind.f64.format x≤FloatKind.f64.format.infRung):(FloatKind.f64.format.order x 9218868437227405311==some .gt)=decide (key FloatKind.f64.format x=(ifn 64:Int)):=by
 have hm:qk FloatKind.f64.format 9218868437227405311≤FloatKind.f64.format.infRung:=by decide+kernel
 have hk:key FloatKind.f64.format 9218868437227405311=9218868437227405311:=by decide+kernel
 rw[xJ _ _ _ kK h hm,hk,Y2]
 have hi:(ifn 64:Int)=9218868437227405312:=by decide
 rw[hi]
 rw[Xo]at h
 have:key FloatKind.f64.format x≤9218868437227405312:=by unfold key;split<;>omega
 rw[Bool.eq_iff_iff,qh1,qh1]
 omega
theorem Fl.gt {n:Int}{x:Nat}{k:Int}(h:Fl n x k):(FloatKind.f64.format.order x 9218868437227405311==some .gt)=decide (k=(ifn n:Int)):=by
 obtain⟨q,hq,hK,o1,o2,o3,o4,o5,o6⟩:=h.wide
 rw[qgk x h.le,Bool.eq_iff_iff,qh1,qh1,hK.top]
 rw[←o3,←z7 _ o4 o5,o6]
theorem qbz {n:Int}{x:Nat}{k:Int}(h:Fl n x k)(w:World):Calls Tryz.prog 81 #[.float .f64 x,.int .i64 1] w fun e w'=>e=.returned (.bool (decide (k=(ifn n:Int))))∧w=w':=by
 have hg:=h.gt
 clear h
 generalize decide (k=(ifn n:Int))=t at *
 go_enter Tryz.func81,Tryz.ntmps81
 go_wp2
 go_ret
 exact⟨rfl,rfl⟩
theorem Vr {n:Int}{x:Nat}{k:Int}(h:Fl n x k)(w:World):Calls Tryz.prog 81 #[.float .f64 x,.int .i64 (-1)] w fun e w'=>e=.returned (.bool (decide (k=-(ifn n:Int))))∧w=w':=by
 have hg:=h.neg.gt
 have e:decide (-k=(ifn n:Int))=decide (k=-(ifn n:Int)):=by rw[Bool.eq_iff_iff,qh1,qh1];omega
 rw[e]at hg
 have hN:∀(wx:World),(Op.unary .neg (.float .f64 x)).run Tryz.prog wx=.ok (.float .f64 (Op.negFloat .f64 x)) wx:=fun _=>rfl
 clear h e
 generalize decide (k=-(ifn n:Int))=t at *
 generalize Op.negFloat .f64 x=y at *
 go_enter Tryz.func81,Tryz.ntmps81
 go_wp2
 go_ret
 exact⟨rfl,rfl⟩
theorem qb0 (x:Nat)(h:x<18446744073709551616):bits .andNot .u64 (x:Int) 9223372036854775808=((x%9223372036854775808:Nat):Int):=by
 have e:(~~~ BitVec.ofInt 64 9223372036854775808:BitVec 64).toNat=2^63-1:=by decide
 have h1:(BitVec.ofInt 64 (x:Int)).toNat=x:=by
  rw[BitVec.ofInt_natCast,BitVec.toNat_ofNat];exact Nat.mod_eq_of_lt (by omega)
 show IntKind.u64.wrap ((BitVec.ofInt 64 (x:Int)&&& ~~~ BitVec.ofInt 64 9223372036854775808).toNat:Int)=_
 rw[BitVec.toNat_and,e,h1,Nat.and_two_pow_sub_one_eq_mod,IntKind.wrap_u64]
 omega
theorem Fl.abs {n:Int}{x:Nat}{k:Int}(h:Fl n x k):Fl n (x%9223372036854775808) (k.natAbs:Int):=by
 have hlt:=h.lt
 have hle:=h.le
 obtain⟨q,hq,hK,o1,o2,o3,o4,o5,o6⟩:=h.wide
 have hs:=(vI x hle hlt).2
 rw[←o1,o3]at hs
 have hn:=hK.neg
 have hp:=hK.pos
 by_cases hx:x<9223372036854775808
 ·have hb:below FloatKind.f64.format x=false:=by
   unfold below
   rw[ZW,show x/9223372036854775808=0 by omega]
   rfl
  rw[hb,ZU]at hs
  rw[Nat.mod_eq_of_lt hx,show((k.natAbs:Nat):Int)=k by omega]
  exact h
 ·have hb:below FloatKind.f64.format x=true:=by
   unfold below
   rw[ZW,show x/9223372036854775808=1 by omega]
   rfl
  rw[hb,ZV]at hs
  have:=h.neg
  rw[J3 x hlt]at this
  rw[show x%9223372036854775808=(x+9223372036854775808)%18446744073709551616 by omega,show((k.natAbs:Nat):Int)=-k by omega]
  exact this
theorem qen (x:Nat)(h:x<18446744073709551616)(w:World):Calls Tryz.prog 107 #[.float .f64 x] w fun e w'=>e=.returned (.float .f64 (x%9223372036854775808))∧w=w':=by
 have h1:=qb0 x h
 have c1:=yi x
 have c2:∀wx:World,(callFunc 136 #[.int .u64 ((x%9223372036854775808:Nat):Int)]).run Tryz.prog wx=.ok (.value (.float .f64 (x%9223372036854775808))) wx:=fun wx=>by
  have:=z6 ((x%9223372036854775808:Nat):Int) wx
  rw[Int.toNat_natCast]at this
  exact this
 clear h
 generalize x%9223372036854775808=y at *
 go_enter Tryz.func107,Tryz.ntmps107
 go_wp2_with (simp only[c1,c2,h1])
 go_ret
 exact⟨rfl,rfl⟩
theorem xF {n:Int}{x:Nat}{k:Int}(h:Fl n x k)(w:World):Calls Tryz.prog 81 #[.float .f64 x,.int .i64 0] w fun e w'=>e=.returned (.bool (decide (k=(ifn n:Int)∨k=-(ifn n:Int))))∧w=w':=by
 have hg:=h.abs.gt
 have e:decide ((k.natAbs:Int)=(ifn n:Int))=decide (k=(ifn n:Int)∨k=-(ifn n:Int)):=by
  have:=jI n
  rw[Bool.eq_iff_iff,qh1,qh1]
  omega
 rw[e]at hg
 have KA:Hid (∀u,Calls Tryz.prog 107 #[.float .f64 x] u fun e w'=>e=.returned (.float .f64 (x%9223372036854775808))∧u=w'):=fun u=>qen x h.lt u
 clear h e
 generalize decide (k=(ifn n:Int)∨k=-(ifn n:Int))=t at *
 generalize x%9223372036854775808=y at *
 go_enter Tryz.func81,Tryz.ntmps81
 go_wp2_with (first|(go_at_call 107;refine(KA.out _).mono ?_;rintro e w1 ⟨rfl,rfl⟩))
 go_ret
 exact⟨rfl,rfl⟩
structure P2 (w:World) (b:Nat) (u v:Value):Prop where
 c0:w.cell? ⟨b,0,none⟩=some u
 c1:w.cell? ⟨b,1,none⟩=some v
 fz:∀o,w.frozen? ⟨b,o,none⟩=false
theorem P2.new (w:World)(u v:Value)(t:TypeId):P2 (w.alloc (.cells #[u,v] t)) w.heap.size u v:=⟨by simp[go_sem],by simp[go_sem],fun o=>by simp[go_sem]⟩
theorem P2.lt {w:World}{b:Nat}{u v:Value}(h:P2 w b u v):b<w.heap.size:=by
 have:=h.c0
 by_cases hb:b<w.heap.size
 ·exact hb
 ·have hg:w.heap[b]?=none:=by simp at hb ⊢;omega
  simp[World.cell?,hg]at this
theorem P2.kept {w w':World}{b:Nat}{u v:Value}(h:P2 w b u v)(k:Kept w w'):P2 w' b u v:=
 ⟨(k.below.cell (p:=⟨b,0,none⟩) h.lt).trans h.c0,(k.below.cell (p:=⟨b,1,none⟩) h.lt).trans h.c1,fun o=>(k.frozen _).trans (h.fz o)⟩
theorem P2.put {w:World}{b:Nat}{u v:Value}(h:P2 w b u v)(x y:Value):P2 ((w.setCell ⟨b,0,none⟩ x).setCell ⟨b,1,none⟩ y) b x y:=by
 obtain⟨c0,c1,fz⟩:=h
 exact⟨by simp[go_sem, *],by simp[go_sem, *],fun o=>by simp[World.frozen?_setCell, *]⟩
theorem P2.newk {w u:World}{a b:Value}{t:TypeId}(k:Kept (w.alloc (.cells #[a,b] t)) u):P2 u w.heap.size a b:=(P2.new w a b t).kept k
theorem P2.newd {w u:World}{a b:Value}{t:TypeId}(k:Kept (w.drew.alloc (.cells #[a,b] t)) u):P2 u w.heap.size a b:=P2.newk (w:=w.drew) k
theorem P2.newe {w u:World}{a b:Value}{t:TypeId}(k:Kept (w.alloc (.cells #[a,b] t)).drew u):P2 u w.heap.size a b:=P2.newk (((qia _).drew).trans k)
theorem j6 (a:Addr)(x:Nat)(m:Mode)(w:World):(store a (.float .f64 x) m).run Tryz.prog w=stored Tryz.prog w a (.float .f64 x) m:=run_store Tryz.prog w a _ m rfl
abbrev zi:Value:=.agg #[.float .f64 0,.float .f64 0]
abbrev fv2 (x y:Nat):Value:=.agg #[.float .f64 x,.float .f64 y]
def RB (b:Int):Prop:=-9223372036854775808≤b∧b≤9223372036854775807
theorem qb1 (lo hi n:Int)(g1:(n==32)=false)(g2:(n==64)=false)(w:World):Calls Tryz.prog 66 #[.agg #[.int .i64 lo,.int .i64 hi],.int .i64 n] w fun e w'=>e=.returned (.tuple #[zi,.int .i64 3])∧Kept w w':=by
 have KV:Hid (∀u,Calls Tryz.prog 65 #[.int .i64 0,.int .i64 n] u fun e w'=>e=.returned (.bool false)∧u=w'):=fun u=>Q4 0 n g1 g2 u
 have hSF:=j6
 go_enter Tryz.func66,Tryz.ntmps66
 go_wp2_with (first|(go_at_call 65;refine(KV.out _).mono ?_;rintro e w1 ⟨rfl,rfl⟩))
 refine qh9 (v:=.tuple #[zi,.int .i64 3]) (by simp[results,Tryz.results66,go_sem]) rfl ⟨rfl,?_⟩
 (repeat' first|assumption|exact qia _|exact Kept.alloc (by assumption) _ _|refine Kept.setCell ?_ ?_ _|refine Kept.alloc ?_ _ _|(simp<;>omega))
theorem ye (lo hi n:Int)(x y:Nat)(t1 t2 t3:Bool)(w:World)
  (KV:Hid (∀u,Calls Tryz.prog 65 #[.int .i64 0,.int .i64 n] u fun e w'=>e=.returned (.bool true)∧u=w'))
  (KF:Hid (∀u b z,(b=lo∧z=x∨b=hi∧z=y)→Calls Tryz.prog 85 #[.int .i64 b,.int .i64 n] u fun e w'=>e=.returned (.float .f64 z)∧Kept u w'))
  (hle:(FloatKind.f64.format.order x y==some .lt||FloatKind.f64.format.order x y==some .eq)=t1)
  (K2:Hid (t1=true→∀u,Calls Tryz.prog 81 #[.float .f64 x,.int .i64 1] u fun e w'=>e=.returned (.bool t2)∧u=w'))
  (K3:Hid (t1=true→∀u,Calls Tryz.prog 81 #[.float .f64 y,.int .i64 (-1)] u fun e w'=>e=.returned (.bool t3)∧u=w')):
  Calls Tryz.prog 66 #[.agg #[.int .i64 lo,.int .i64 hi],.int .i64 n] w fun e w'=>e=.returned (if (t1&&!t2&&!t3)=true then .tuple #[fv2 x y,.int .i64 0]else .tuple #[zi,.int .i64 1])∧Kept w w':=by
 obtain⟨X,hX⟩:∃X,X=(w.alloc (.cells #[.int .i64 lo,.int .i64 hi] 23)).alloc (.cells #[.float .f64 0,.float .f64 0] 68):=⟨_,rfl⟩
 have hP:P2 X w.heap.size (.int .i64 lo) (.int .i64 hi):=by
  rw[hX]
  exact(P2.new w _ _ _).kept ((qia _).alloc _ _)
 have hQ:P2 X (w.heap.size+1) (.float .f64 0) (.float .f64 0):=by
  rw[hX]
  have:=P2.new (w.alloc (.cells #[.int .i64 lo,.int .i64 hi] 23)) (.float .f64 0) (.float .f64 0) 68
  simpa using this
 have hK:Kept w X:=by
  rw[hX]
  exact((qia w).alloc _ _).alloc _ _
 have hs:Hid (X.heap.size=w.heap.size+2):=by rw[hX];simp[Hid]
 have kd:Kept X X.drew:=(qia X).drew
 have HS:Hid (∀u,Kept X u→Kept X u∧u.cell? ⟨w.heap.size,0,none⟩=some (.int .i64 lo)∧u.cell? ⟨w.heap.size,1,none⟩=some (.int .i64 hi)):=fun u k=>⟨k,(hP.kept k).c0,(hP.kept k).c1⟩
 have KF':Hid (∀u b z,(b=lo∧z=x∨b=hi∧z=y)→Kept X u→Calls Tryz.prog 85 #[.int .i64 b,.int .i64 n] u fun e w'=>e=.returned (.float .f64 z)∧Kept X w'∧Kept u w'):=fun u b z h k=>by
  refine(KF.out u b z h).mono ?_
  rintro e w' ⟨rfl,k'⟩
  exact⟨rfl,k.trans k',k'⟩
 clear KF
 have hSF:=j6
 go_enter Tryz.func66,Tryz.ntmps66
 go_upto_region 1 with fail
 rw[←hX]
 clear hX
 go_upto_region 3 with (first|(go_at_call 65;refine(KV.out _).mono ?_;rintro e w1 ⟨rfl,rfl⟩))
 go_cut [6]from 11 to 19 (fun t6 wx=>∃B,t6=.pointer (some ⟨B,0,none⟩)∧X.heap.size≤B∧P2 wx B (.float .f64 x) (.float .f64 y)∧Kept X wx)
 case first=>
  go_region_held (fun u=>Kept X u∧u.cell? ⟨w.heap.size,0,none⟩=some (.int .i64 lo)∧u.cell? ⟨w.heap.size,1,none⟩=some (.int .i64 hi)) (first|assumption|exact HS.out _ kd|exact HS.out _ (by assumption)|exact HS.out _ (by repeat' first|assumption|exact Kept.alloc (by assumption) _ _|(refine Kept.setCell ?_ ?_ _)|exact qhy _|(simp;done)|(simp;omega))) (first|(go_at_call 85;refine(KF'.out _ _ _ (by first|exact .inl ⟨rfl,rfl⟩|exact .inr ⟨rfl,rfl⟩) (by first|assumption|exact Kept.alloc (by assumption) _ _)).mono ?_;rintro e w3 ⟨rfl,k3,j3⟩;have z3:=k3.below.size;first|(have q3:=P2.newe j3;have q3f:=q3.fz;have q30:=q3.c0;have q31:=q3.c1)|(have q3:=P2.newd j3;have q3f:=q3.fz;have q30:=q3.c0;have q31:=q3.c1)|(have q3:=P2.newk j3;have q3f:=q3.fz;have q30:=q3.c0;have q31:=q3.c1)|(have q4:=P2.kept q3 j3;have q4f:=q4.fz;have q40:=q4.c0;have q41:=q4.c1)|skip))
  all_goals go_wp2_with fail
  all_goals go_meet
  all_goals
   refine⟨_,rfl,?_,?_,?_⟩
   ·first|exact qhy _|omega
   ·first|exact q4.put _ _|exact q3.put _ _|exact P2.new _ _ _ _
   ·(repeat' first|assumption|exact Kept.alloc (by assumption) _ _|(refine Kept.setCell ?_ ?_ _)|exact qhy _|(simp;done)|(simp;omega))
 case rest=>
  obtain⟨B,rfl,hB,hPB,kc⟩:=hcut
  have hr:=hQ.kept kc
  obtain⟨b0,b1,bf⟩:=hPB
  obtain⟨r0,r1,rf⟩:=hr
  have hkw:∀a b:Value,Kept w ((wc.setCell ⟨w.heap.size+1,0,none⟩ a).setCell ⟨w.heap.size+1,1,none⟩ b):=fun a b=>((hK.trans kc).setCell (by simp) _).setCell (by simp) _
  have hz:=(P2.mk r0 r1 rf).put (.float .f64 0) (.float .f64 0)
  have hxy:=(P2.mk r0 r1 rf).put (.float .f64 x) (.float .f64 y)
  obtain⟨z0,z1,zf⟩:=hz
  obtain⟨y0,y1,yf⟩:=hxy
  clear hQ hP HS KF' KV kd hB kc
  cases t1
  ·go_wp2_with fail
   exact qh9 (v:=.tuple #[zi,.int .i64 1]) (by simp[results,Tryz.results66,go_sem, *]) rfl ⟨rfl,hkw _ _⟩
  ·have KI:Hid (∀u z s t,(z=x∧s=1∧t=t2∨z=y∧s=-1∧t=t3)→Calls Tryz.prog 81 #[.float .f64 z,.int .i64 s] u fun e w'=>e=.returned (.bool t)∧u=w'):=fun u z s t h=>by
    rcases h with ⟨rfl,rfl,rfl⟩|⟨rfl,rfl,rfl⟩
    ·exact K2.out rfl u
    ·exact K3.out rfl u
   clear K2 K3
   cases t2
   ·cases t3
    ·go_wp2_with (first|(go_at_call 81;refine(KI.out _ _ _ _ (by first|exact .inl ⟨rfl,rfl,rfl⟩|exact .inr ⟨rfl,rfl,rfl⟩)).mono ?_;rintro e w4 ⟨rfl,rfl⟩))
     all_goals exact qh9 (v:=.tuple #[fv2 x y,.int .i64 0]) (by simp[results,Tryz.results66,go_sem, *]) rfl ⟨rfl,hkw _ _⟩
    ·go_wp2_with (first|(go_at_call 81;refine(KI.out _ _ _ _ (by first|exact .inl ⟨rfl,rfl,rfl⟩|exact .inr ⟨rfl,rfl,rfl⟩)).mono ?_;rintro e w4 ⟨rfl,rfl⟩))
     all_goals exact qh9 (v:=.tuple #[zi,.int .i64 1]) (by simp[results,Tryz.results66,go_sem, *]) rfl ⟨rfl,hkw _ _⟩
   ·go_wp2_with (first|(go_at_call 81;refine(KI.out _ _ _ _ (by first|exact .inl ⟨rfl,rfl,rfl⟩|exact .inr ⟨rfl,rfl,rfl⟩)).mono ?_;rintro e w4 ⟨rfl,rfl⟩))
    all_goals exact qh9 (v:=.tuple #[zi,.int .i64 1]) (by simp[results,Tryz.results66,go_sem, *]) rfl ⟨rfl,hkw _ _⟩
def vsp (lo hi n:Int):Bool:=qh lo n&&qh hi n&&decide (qd lo n≤qd hi n)&&decide (qd lo n≠(ifn n:Int))&&decide (qd hi n≠-(ifn n:Int))
def opE (lo hi n:Int):Int:=if n=64∨n=32 then (if vsp lo hi n=true then 0 else 1)else 3
def opV (lo hi n:Int):Value:=if vsp lo hi n=true then fv2 (flv lo n) (flv hi n)else zi
theorem qeo (x y:Nat)(h:FloatKind.f64.format.infRung<qk FloatKind.f64.format x∨FloatKind.f64.format.infRung<qk FloatKind.f64.format y):FloatKind.f64.format.order x y=none:=by
 rcases h with h|h
 ·exact zI _ _ _ kK h
 ·exact j7 _ _ _ kK h
theorem V4 (b n:Int)(hn:n=64∨n=32)(h:qh b n=false):FloatKind.f64.format.infRung<qk FloatKind.f64.format (flv b n):=by
 unfold flv
 rw[if_neg (by simp[h]),if_pos hn]
 decide+kernel
theorem qgl (k j:Int):(some (compare k j)==some Ordering.lt||some (compare k j)==some Ordering.eq)=decide (k≤j):=by
 rw[Kk,v9,Bool.eq_iff_iff]
 simp
 omega
theorem yB (lo hi n:Int)(h:qh lo n=false∨qh hi n=false):vsp lo hi n=false:=by
 unfold vsp
 rcases h with h|h<;>simp[h]
theorem jV (lo hi n:Int)(h1:RB lo)(h2:RB hi)(w:World):Calls Tryz.prog 66 #[.agg #[.int .i64 lo,.int .i64 hi],.int .i64 n] w fun e w'=>e=.returned (.tuple #[opV lo hi n,.int .i64 (opE lo hi n)])∧Kept w w':=by
 by_cases hn:n=64∨n=32
 ·have KV:Hid (∀u,Calls Tryz.prog 65 #[.int .i64 0,.int .i64 n] u fun e w'=>e=.returned (.bool true)∧u=w'):=fun u=>by
   have:=jC 0 n u
   rw[show val 0 n=true by rcases hn with rfl|rfl<;>decide]at this
   exact this
  have KF:Hid (∀u b z,(b=lo∧z=flv lo n∨b=hi∧z=flv hi n)→Calls Tryz.prog 85 #[.int .i64 b,.int .i64 n] u fun e w'=>e=.returned (.float .f64 z)∧Kept u w'):=fun u b z h=>by
   rcases h with ⟨rfl,rfl⟩|⟨rfl,rfl⟩
   ·exact jU _ n h1.1 h1.2 u
   ·exact jU _ n h2.1 h2.2 u
  by_cases hnum:qh lo n=true∧qh hi n=true
  ·have f1:=Fl.flv hnum.1 h1.1 h1.2
   have f2:=Fl.flv hnum.2 h2.1 h2.2
   have ho:=f1.ord f2
   refine(ye lo hi n (flv lo n) (flv hi n) (decide (qd lo n≤qd hi n)) (decide (qd lo n=(ifn n:Int))) (decide (qd hi n=-(ifn n:Int))) w KV KF (by rw[ho,qgl]) (fun _ u=>qbz f1 u) (fun _ u=>Vr f2 u)).mono ?_
   rintro e w' ⟨rfl,k⟩
   refine⟨?_,k⟩
   have hv:vsp lo hi n=(decide (qd lo n≤qd hi n)&&!decide (qd lo n=(ifn n:Int))&&!decide (qd hi n=-(ifn n:Int))):=by
    unfold vsp
    rw[hnum.1,hnum.2]
    simp
   unfold opV opE
   rw[if_pos hn,←hv]
   by_cases hvv:vsp lo hi n=true
   ·simp only[if_pos hvv]
   ·simp only[if_neg hvv]
  ·have hne:qh lo n=false∨qh hi n=false:=by
    cases h:qh lo n<;>cases h':qh hi n<;>simp_all
   have hv:=yB lo hi n hne
   have ho:FloatKind.f64.format.order (flv lo n) (flv hi n)=none:=qeo _ _ (by
    rcases hne with h|h
    ·exact .inl (V4 lo n hn h)
    ·exact .inr (V4 hi n hn h))
   refine(ye lo hi n (flv lo n) (flv hi n) false false false w KV KF (by rw[ho];rfl) (fun h=>by cases h) (fun h=>by cases h)).mono ?_
   rintro e w' ⟨rfl,k⟩
   refine⟨?_,k⟩
   unfold opV opE
   rw[if_pos hn,if_neg (by simp[hv])]
   simp[hv]
 ·have g1:(n==32)=false:=by simp;omega
  have g2:(n==64)=false:=by simp;omega
  refine(qb1 lo hi n g1 g2 w).mono ?_
  rintro e w' ⟨rfl,k⟩
  refine⟨?_,k⟩
  have hv:=yB lo hi n (.inl (ja lo n (by omega) (by omega)))
  unfold opV opE
  rw[if_neg hn,if_neg (by simp[hv])]
theorem J5 (lo hi n:Int):∃x y,opV lo hi n=fv2 x y∧(vsp lo hi n=true→x=flv lo n∧y=flv hi n)∧(vsp lo hi n=false→x=0∧y=0):=by
 unfold opV
 by_cases h:vsp lo hi n=true
 ·rw[if_pos h]
  exact⟨_,_,rfl,fun _=>⟨rfl,rfl⟩,fun g=>by rw[h]at g;cases g⟩
 ·rw[if_neg h]
  exact⟨_,_,rfl,fun g=>absurd g h,fun _=>⟨rfl,rfl⟩⟩
theorem jJ (lo hi n:Int):opE lo hi n=0↔vsp lo hi n=true:=by
 unfold opE
 by_cases hn:n=64∨n=32
 ·rw[if_pos hn]
  split<;>simp_all
 ·rw[if_neg hn,yB lo hi n (.inl (ja lo n (by omega) (by omega)))]
  simp
abbrev sp2 (a b:Int):Value:=.agg #[.int .i64 a,.int .i64 b]
theorem P2.set {w:World}{b:Nat}{u v:Value}(h:P2 w b u v)(q o:Nat)(hq:q≠b)(x:Value):P2 (w.setCell ⟨q,o,none⟩ x) b u v:=by
 obtain⟨c0,c1,fz⟩:=h
 have h':b≠q:=fun e=>hq e.symm
 exact⟨by simp[go_sem, *],by simp[go_sem, *],fun o=>by simp[World.frozen?_setCell, *]⟩
theorem P2.alloc {w:World}{b:Nat}{u v:Value}(h:P2 w b u v)(c:Array Value)(t:TypeId):P2 (w.alloc (.cells c t)) b u v:=h.kept ((qia w).alloc c t)
theorem QM (a1 b1 a2 b2 n:Int)(x1 y1 x2 y2:Nat)(q1 q2:Int)(w:World)
  (KO:Hid (∀u a b x y q,(a=a1∧b=b1∧x=x1∧y=y1∧q=q1∨a=a2∧b=b2∧x=x2∧y=y2∧q=q2)→Calls Tryz.prog 66 #[sp2 a b,.int .i64 n] u fun e w'=>e=.returned (.tuple #[fv2 x y,.int .i64 q])∧Kept u w')):
  Calls Tryz.prog 45 #[sp2 a1 b1,sp2 a2 b2,.int .i64 n] w fun e w'=>e=.returned (if q1=0∧q2=0 then .tuple #[fv2 x1 y1,fv2 x2 y2,.int .i64 0]else .tuple #[zi,zi,.int .i64 (if q1=0 then q2 else q1)])∧Kept w w':=by
 obtain⟨X,hX⟩:∃X,X=(((w.alloc (.cells #[.int .i64 a1,.int .i64 b1] 23)).alloc (.cells #[.int .i64 a2,.int .i64 b2] 23)).alloc (.cells #[.float .f64 0,.float .f64 0] 68)).alloc (.cells #[.float .f64 0,.float .f64 0] 68):=⟨_,rfl⟩
 have hP1:P2 X w.heap.size (.int .i64 a1) (.int .i64 b1):=by
  rw[hX]
  exact(((P2.new w _ _ _).alloc _ _).alloc _ _).alloc _ _
 have hP2:P2 X (w.heap.size+1) (.int .i64 a2) (.int .i64 b2):=by
  rw[hX]
  have:=((P2.new (w.alloc (.cells #[.int .i64 a1,.int .i64 b1] 23)) (.int .i64 a2) (.int .i64 b2) 23).alloc #[.float .f64 0,.float .f64 0] 68).alloc #[.float .f64 0,.float .f64 0] 68
  simpa using this
 have hQ1:P2 X (w.heap.size+2) (.float .f64 0) (.float .f64 0):=by
  rw[hX]
  have:=(P2.new ((w.alloc (.cells #[.int .i64 a1,.int .i64 b1] 23)).alloc (.cells #[.int .i64 a2,.int .i64 b2] 23)) (.float .f64 0) (.float .f64 0) 68).alloc #[.float .f64 0,.float .f64 0] 68
  simpa using this
 have hQ2:P2 X (w.heap.size+3) (.float .f64 0) (.float .f64 0):=by
  rw[hX]
  have:=P2.new (((w.alloc (.cells #[.int .i64 a1,.int .i64 b1] 23)).alloc (.cells #[.int .i64 a2,.int .i64 b2] 23)).alloc (.cells #[.float .f64 0,.float .f64 0] 68)) (.float .f64 0) (.float .f64 0) 68
  simpa using this
 have hK:Kept w X:=by
  rw[hX]
  exact((((qia w).alloc _ _).alloc _ _).alloc _ _).alloc _ _
 have hs:Hid (X.heap.size=w.heap.size+4):=by rw[hX];simp[Hid]
 have hSF:=j6
 go_enter Tryz.func45,Tryz.ntmps45
 go_upto_region 1 with fail
 rw[←hX]
 clear hX
 obtain⟨H1,hH1⟩:∃H,H=w.heap.size+1:=⟨_,rfl⟩
 obtain⟨H2,hH2⟩:∃H,H=H1+1:=⟨_,rfl⟩
 obtain⟨H3,hH3⟩:∃H,H=H2+1:=⟨_,rfl⟩
 rw[←hH1,←hH2,←hH3]
 rw[←hH1]at hP2
 rw[show w.heap.size+2=H2 by omega]at hQ1
 rw[show w.heap.size+3=H3 by omega]at hQ2
 have n23:¬H2=H3:=by omega
 have n32:¬H3=H2:=by omega
 have o2:w.heap.size≤H2:=by omega
 have o3:w.heap.size≤H3:=by omega
 have l3:H3<X.heap.size:=by have:=hs.out;omega
 have l2:H2<X.heap.size:=by omega
 clear hH1 hH2 hH3 hs
 obtain⟨p10,p11,p1f⟩:=hP1
 go_upto_region 2 with (first|(go_at_call 66;refine(KO.out _ _ _ _ _ _ (.inl ⟨rfl,rfl,rfl,rfl,rfl⟩)).mono ?_;rintro e w1 ⟨rfl,k1⟩))
 have z1:=k1.below.size
 obtain⟨Y,hY⟩:∃Y,Y=w1.alloc (.cells #[.float .f64 x1,.float .f64 y1] 68):=⟨_,rfl⟩
 have hkY:Kept X Y:=by rw[hY];exact k1.alloc _ _
 have hPY:P2 Y w1.heap.size (.float .f64 x1) (.float .f64 y1):=by rw[hY];exact P2.new _ _ _ _
 rw[←hY]
 clear hY p10 p11 p1f
 obtain⟨B1,hB1⟩:∃B,B=w1.heap.size:=⟨_,rfl⟩
 rw[←hB1]at hPY ⊢
 have hB1':X.heap.size≤B1:=by omega
 clear hB1 z1 k1
 have kwY:=hK.trans hkY
 have r1:=hQ1.kept hkY
 have r2:=hQ2.kept hkY
 by_cases g1:q1=0
 ·subst g1
  obtain⟨p20,p21,p2f⟩:=hP2.kept hkY
  go_upto_region 5 with (first|(go_at_call 66;refine(KO.out _ _ _ _ _ _ (.inr ⟨rfl,rfl,rfl,rfl,rfl⟩)).mono ?_;rintro e w2 ⟨rfl,k2⟩))
  have z2:=k2.below.size
  obtain⟨Z,hZ⟩:∃Z,Z=w2.alloc (.cells #[.float .f64 x2,.float .f64 y2] 68):=⟨_,rfl⟩
  have hkZ:Kept Y Z:=by rw[hZ];exact k2.alloc _ _
  have hPZ:P2 Z w2.heap.size (.float .f64 x2) (.float .f64 y2):=by rw[hZ];exact P2.new _ _ _ _
  rw[←hZ]
  clear hZ p20 p21 p2f
  obtain⟨B2,hB2⟩:∃B,B=w2.heap.size:=⟨_,rfl⟩
  rw[←hB2]at hPZ ⊢
  have hB2':X.heap.size≤B2:=by have:=hkY.below.size;omega
  clear hB2 z2 k2
  have kwZ:=kwY.trans hkZ
  have s1:=r1.kept hkZ
  have s2:=r2.kept hkZ
  by_cases g2:q2=0
  ·subst g2
   have u1:¬B1=H2:=by omega
   have u2:¬B1=H3:=by omega
   have u3:¬H2=B1:=by omega
   have u4:¬H3=B1:=by omega
   have v1:¬B2=H2:=by omega
   have v2:¬B2=H3:=by omega
   have v3:¬H2=B2:=by omega
   have v4:¬H3=B2:=by omega
   obtain⟨m0,m1,mf⟩:=hPY.kept hkZ
   obtain⟨n0,n1,nf⟩:=hPZ
   have t1:=((s1.put (.float .f64 x1) (.float .f64 y1)).set H3 0 (by omega) (.float .f64 x2)).set H3 1 (by omega) (.float .f64 y2)
   have t2:=((s2.set H2 0 (by omega) (.float .f64 x1)).set H2 1 (by omega) (.float .f64 y1)).put (.float .f64 x2) (.float .f64 y2)
   have hkw:Kept w ((((Z.setCell ⟨H2,0,none⟩ (.float .f64 x1)).setCell ⟨H2,1,none⟩ (.float .f64 y1)).setCell ⟨H3,0,none⟩ (.float .f64 x2)).setCell ⟨H3,1,none⟩ (.float .f64 y2)):=(((kwZ.setCell o2 _).setCell o2 _).setCell o3 _).setCell o3 _
   obtain⟨a0,a1',af⟩:=s1
   obtain⟨c0,c1,cf⟩:=s2
   obtain⟨d0,d1,df⟩:=t1
   obtain⟨e0,e1,ef⟩:=t2
   clear hQ1 hQ2 r1 r2 hPY hP2 KO
   go_wp2_with fail
   go_region
   all_goals go_wp2_with fail
   all_goals exact qh9 (v:=.tuple #[fv2 x1 y1,fv2 x2 y2,.int .i64 0]) (by simp[results,Tryz.results45,go_sem, *]) rfl ⟨by simp,by first|exact hkw|exact hkw.drew|(repeat' first|exact kwZ|refine Kept.drew ?_|refine Kept.setCell ?_ ?_ _|exact o2|exact o3)⟩
  ·have hq:(q2 != 0)=true:=by simpa using g2
   have t1:=((s1.put (.float .f64 0) (.float .f64 0)).set H3 0 (by omega) (.float .f64 0)).set H3 1 (by omega) (.float .f64 0)
   have t2:=((s2.set H2 0 (by omega) (.float .f64 0)).set H2 1 (by omega) (.float .f64 0)).put (.float .f64 0) (.float .f64 0)
   have hkw:Kept w ((((Z.setCell ⟨H2,0,none⟩ (.float .f64 0)).setCell ⟨H2,1,none⟩ (.float .f64 0)).setCell ⟨H3,0,none⟩ (.float .f64 0)).setCell ⟨H3,1,none⟩ (.float .f64 0)):=(((kwZ.setCell o2 _).setCell o2 _).setCell o3 _).setCell o3 _
   obtain⟨a0,a1',af⟩:=s1
   obtain⟨c0,c1,cf⟩:=s2
   obtain⟨d0,d1,df⟩:=t1
   obtain⟨e0,e1,ef⟩:=t2
   clear hQ1 hQ2 r1 r2 hPY hP2 KO
   go_wp2_with fail
   exact qh9 (v:=.tuple #[zi,zi,.int .i64 q2]) (by simp[results,Tryz.results45,go_sem, *]) rfl ⟨by simp[g2],hkw⟩
 ·have hq:(q1 != 0)=true:=by simpa using g1
  have t1:=((r1.put (.float .f64 0) (.float .f64 0)).set H3 0 (by omega) (.float .f64 0)).set H3 1 (by omega) (.float .f64 0)
  have t2:=((r2.set H2 0 (by omega) (.float .f64 0)).set H2 1 (by omega) (.float .f64 0)).put (.float .f64 0) (.float .f64 0)
  have hkw:Kept w ((((Y.setCell ⟨H2,0,none⟩ (.float .f64 0)).setCell ⟨H2,1,none⟩ (.float .f64 0)).setCell ⟨H3,0,none⟩ (.float .f64 0)).setCell ⟨H3,1,none⟩ (.float .f64 0)):=(((kwY.setCell o2 _).setCell o2 _).setCell o3 _).setCell o3 _
  obtain⟨a0,a1',af⟩:=r1
  obtain⟨c0,c1,cf⟩:=r2
  obtain⟨d0,d1,df⟩:=t1
  obtain⟨e0,e1,ef⟩:=t2
  clear hQ1 hQ2 hPY hP2 KO
  go_wp2_with fail
  exact qh9 (v:=.tuple #[zi,zi,.int .i64 q1]) (by simp[results,Tryz.results45,go_sem, *]) rfl ⟨by simp[g1],hkw⟩
end Go.Proofs.YtaglkncdedeipaaGreatDoor
