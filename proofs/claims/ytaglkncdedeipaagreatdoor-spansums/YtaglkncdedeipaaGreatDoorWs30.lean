/-  -/
import Derived.Test.YtaglkncdedeipaaGreatDoorWs29
import Derived.Test.YtaglkncdedeipaaGreatDoorWs23
import Derived.Test.YtaglkncdedeipaaGreatDoorWs15
import Derived.Test.YtaglkncdedeipaaGreatDoorWs10
import Derived.Test.YtaglkncdedeipaaGreatDoorWs04
import Derived.Test.YtaglkncdedeipaaGreatDoorWs12
import Derived.Test.YtaglkncdedeipaaGreatDoorWs19
import Derived.Test.YtaglkncdedeipaaGreatDoorWs08
import Derived.Test.YtaglkncdedeipaaGreatDoorWs24
namespace Go.Proofs.YtaglkncdedeipaaGreatDoor
open Go.ChangeShapes Go.WideShapes Go.ChangeAt Go.RowKit
set_option linter.unusedVariables false
set_option linter.unusedSimpArgs false
set_option maxHeartbeats 16000000
set_option maxRecDepth 100000
theorem P7.other {w:World}{b:Nat}{v0 v1 v2 v3 v4 v5 v6:Value}(h:P7 w b v0 v1 v2 v3 v4 v5 v6)(c:Nat)(hc:c≠b)(u0 u1 u2 u3 u4 u5 u6:Value):P7 (Zu w c u0 u1 u2 u3 u4 u5 u6) b v0 v1 v2 v3 v4 v5 v6:=by
 obtain⟨c0,c1,c2,c3,c4,c5,c6,fz⟩:=h
 have hb:¬b=c:=fun e=>hc e.symm
 exact⟨by simp[go_sem,hc,hb,c0],by simp[go_sem,hc,hb,c1],by simp[go_sem,hc,hb,c2],by simp[go_sem,hc,hb,c3],by simp[go_sem,hc,hb,c4],by simp[go_sem,hc,hb,c5],by simp[go_sem,hc,hb,c6],fun o=>by simp[World.frozen?_setCell,fz]⟩
structure A7 (w:World) (b o:Nat) (v0 v1 v2 v3 v4 v5 v6:Value):Prop where
 c0:w.cell? ⟨b,o,none⟩=some v0
 c1:w.cell? ⟨b,o+1,none⟩=some v1
 c2:w.cell? ⟨b,o+2,none⟩=some v2
 c3:w.cell? ⟨b,o+3,none⟩=some v3
 c4:w.cell? ⟨b,o+4,none⟩=some v4
 c5:w.cell? ⟨b,o+5,none⟩=some v5
 c6:w.cell? ⟨b,o+6,none⟩=some v6
def NF (x:Option Value)(c:Nat):Prop:=∀b,x=some (.pointer (some ⟨b,0,none⟩))→c≠b
def NFs (x y:Option Value)(u:World)(c:Nat):Prop:=c<u.heap.size∧NF x c∧NF y c
def Fz (X u:World)(x:Option Value):Prop:=∀v,x=some v→∃b,v=.pointer (some ⟨b,0,none⟩)∧X.heap.size≤b∧P7 u b (.int .i64 0) (.bool false) (.slice none 0 0) (.int .i64 0) (.bool false) (.slice none 0 0) (.int .i64 0)
structure Stb (Y:(Nat→Prop)→World→Prop):Prop where
 imp:∀P P' u,(∀c,P c→P' c)→Y P u→Y P' u
 kept:∀P u u',Kept u u'→Y P u→Y P u'
structure JJ (X:World) (Y:(Nat→Prop)→World→Prop) (x y:Option Value) (u:World):Prop where
 k:Kept X u
 v:Y (NFs x y u) u
 f1:Fz X u x
 f2:Fz X u y
 ne:∀v,x=some v→y≠some v
theorem Fz.kept {X u u':World}{x:Option Value}(h:Fz X u x)(k:Kept u u'):Fz X u' x:=fun v hv=>by
 obtain⟨b,e,hb,hp⟩:=h v hv
 exact⟨b,e,hb,hp.kept k⟩
theorem Fz.lt {X u:World}{x:Option Value}(h:Fz X u x){b:Nat}(hb:x=some (.pointer (some ⟨b,0,none⟩))):b<u.heap.size:=by
 obtain⟨c,e,-,hp⟩:=h _ hb
 cases e
 exact hp.lt
theorem NFs.kept {x y:Option Value}{u u':World}{c:Nat}(h:NFs x y u c)(k:Kept u u'):NFs x y u' c:=⟨qhu h.1 k.below.size,h.2⟩
theorem JJ.next {X:World}{Y Y':(Nat→Prop)→World→Prop}{x y:Option Value}{u u':World}(h:JJ X Y x y u)(k:Kept u u')(hv:Y' (NFs x y u') u'):JJ X Y' x y u':=
 ⟨h.k.trans k,hv,h.f1.kept k,h.f2.kept k,h.ne⟩
theorem Fz.new {X u:World}(k:Kept X u)(t:TypeId):Fz X (u.alloc (.cells #[.int .i64 0,.bool false,.slice none 0 0,.int .i64 0,.bool false,.slice none 0 0,.int .i64 0] t)) (some (.pointer (some ⟨u.heap.size,0,none⟩))):=fun v hv=>by
 cases hv
 exact⟨_,rfl,k.below.size,P7.new u _ _ _ _ _ _ _ t⟩
theorem JJ.one {X:World}{Y:(Nat→Prop)→World→Prop}(sY:Stb Y){y:Option Value}{u:World}(h:JJ X Y none y u)(t:TypeId):JJ X Y (some (.pointer (some ⟨u.heap.size,0,none⟩))) y (u.alloc (.cells #[.int .i64 0,.bool false,.slice none 0 0,.int .i64 0,.bool false,.slice none 0 0,.int .i64 0] t)):=by
 have k:Kept u (u.alloc (.cells #[.int .i64 0,.bool false,.slice none 0 0,.int .i64 0,.bool false,.slice none 0 0,.int .i64 0] t)):=(qia u).alloc _ _
 refine⟨h.k.trans k,sY.kept _ _ _ k (sY.imp _ _ _ (fun c hc=>?_) h.v),Fz.new h.k t,h.f2.kept k,fun v hv hy=>?_⟩
 ·refine⟨qhu hc.1 k.below.size,fun b hb=>?_,hc.2.2⟩
  cases hb
  exact Nat.ne_of_lt hc.1
 ·cases hv
  exact absurd (h.f2.lt hy) (Nat.lt_irrefl _)
theorem JJ.two {X:World}{Y:(Nat→Prop)→World→Prop}(sY:Stb Y){x:Option Value}{u:World}(h:JJ X Y x none u)(t:TypeId):JJ X Y x (some (.pointer (some ⟨u.heap.size,0,none⟩))) (u.alloc (.cells #[.int .i64 0,.bool false,.slice none 0 0,.int .i64 0,.bool false,.slice none 0 0,.int .i64 0] t)):=by
 have k:Kept u (u.alloc (.cells #[.int .i64 0,.bool false,.slice none 0 0,.int .i64 0,.bool false,.slice none 0 0,.int .i64 0] t)):=(qia u).alloc _ _
 refine⟨h.k.trans k,sY.kept _ _ _ k (sY.imp _ _ _ (fun c hc=>?_) h.v),h.f1.kept k,Fz.new h.k t,fun v hv hy=>?_⟩
 ·refine⟨qhu hc.1 k.below.size,hc.2.1,fun b hb=>?_⟩
  cases hb
  exact Nat.ne_of_lt hc.1
 ·cases hy
  exact absurd (h.f1.lt hv) (Nat.lt_irrefl _)
end Go.Proofs.YtaglkncdedeipaaGreatDoor
namespace Go.Proofs.YtaglkncdedeipaaGreatDoor
open Go.ChangeShapes Go.WideShapes Go.ChangeAt Go.RowKit Ieee
set_option linter.unusedVariables false
set_option linter.unusedSimpArgs false
set_option maxHeartbeats 16000000
set_option maxRecDepth 100000
theorem New.set {w0 w:World}{v:Value}{x:Nm}(h:New w0 w v x){p:Addr}(hp:p.block<w0.heap.size)(u:Value):New w0 (w.setCell p u) v x:=by
 rcases h with h|⟨g,cap,e,hg,ho,hne⟩
 ·exact .inl h
 ·exact .inr ⟨g,cap,e,hg,ho.setOther (by omega) _,hne⟩
structure P3 (w:World) (b:Nat) (u v x:Value):Prop where
 c0:w.cell? ⟨b,0,none⟩=some u
 c1:w.cell? ⟨b,1,none⟩=some v
 c2:w.cell? ⟨b,2,none⟩=some x
theorem P3.new (w:World)(u v x:Value)(t:TypeId):P3 (w.alloc (.cells #[u,v,x] t)) w.heap.size u v x:=⟨by simp[go_sem],by simp[go_sem],by simp[go_sem]⟩
theorem P3.lt {w:World}{b:Nat}{u v x:Value}(h:P3 w b u v x):b<w.heap.size:=by
 have:=h.c0
 by_cases hb:b<w.heap.size
 ·exact hb
 ·have hg:w.heap[b]?=none:=by simp at hb ⊢;omega
  simp[World.cell?,hg]at this
theorem P3.kept {w w':World}{b:Nat}{u v x:Value}(h:P3 w b u v x)(k:Kept w w'):P3 w' b u v x:=
 ⟨(k.below.cell (p:=⟨b,0,none⟩) h.lt).trans h.c0,(k.below.cell (p:=⟨b,1,none⟩) h.lt).trans h.c1,(k.below.cell (p:=⟨b,2,none⟩) h.lt).trans h.c2⟩
theorem P3.alloc {w:World}{b:Nat}{u v x:Value}(h:P3 w b u v x)(c:Array Value)(t:TypeId):P3 (w.alloc (.cells c t)) b u v x:=h.kept ((qia w).alloc c t)
def qz (y n:Int):Nm:=if cls y n<3 then ofN y n else ⟨false,[],0⟩
end Go.Proofs.YtaglkncdedeipaaGreatDoor
namespace Go.Proofs.YtaglkncdedeipaaGreatDoor
open Go.ChangeShapes Go.WideShapes Go.ChangeAt Go.RowKit
set_option linter.unusedVariables false
set_option linter.unusedSimpArgs false
set_option maxHeartbeats 16000000
set_option maxRecDepth 100000
def dg (V i:Nat):Nat:=V/2^(30*i)%1073741824
def DgAt (w:World)(g off m V:Nat):Prop:=∀i,i<m→w.cell? ⟨g,off+i,none⟩=some (.int .i64 ((dg V i:Nat):Int))
theorem DgAt.kept {w w':World}{g off m V:Nat}(h:DgAt w g off m V)(k:Kept w w'):DgAt w' g off m V:=fun i hi=>(k.below.cell (p:=⟨g,off+i,none⟩) (World.block_lt_of_cell? w _ (h i hi))).trans (h i hi)
structure Rtz (A h l:Nat):Prop where
 eq:h*h+l=A
 le:l≤2*h
theorem Rtz.zero:Rtz 0 0 0:=⟨rfl,qhy _⟩
theorem qbj (h:Nat):2*h*(2*h)=4*(h*h):=by
 rw[Nat.mul_mul_mul_comm]
theorem qge (h:Nat):(2*h+1)*(2*h+1)=4*(h*h)+4*h+1:=by
 rw[Nat.add_mul,Nat.mul_add,qbj]
 omega
theorem Rtz.step {A h l:Nat}(R:Rtz A h l)(A':Nat)(hA:A'/4=A):(4*h+1≤4*l+A'%4→Rtz A' (2*h+1) (4*l+A'%4-(4*h+1)))∧(¬4*h+1≤4*l+A'%4→Rtz A' (2*h) (4*l+A'%4)):=by
 obtain⟨e,le⟩:=R
 refine⟨fun hh=>⟨?_,?_⟩,fun hh=>⟨?_,?_⟩⟩
 ·rw[qge];omega
 ·omega
 ·rw[qbj];omega
 ·omega
theorem Rtz.lt {A h l:Nat}(R:Rtz A h l):h*h≤A∧A<(h+1)*(h+1):=by
 obtain⟨e,le⟩:=R
 have:(h+1)*(h+1)=h*h+2*h+1:=by rw[Nat.add_mul,Nat.mul_add];omega
 omega
structure TK (g off n:Nat) (w w':World):Prop where
 grw:Grw g w w'
 rest:∀i,(i<off∨off+n<i)→w'.cell? ⟨g,i,none⟩=w.cell? ⟨g,i,none⟩
theorem TK.refl (g off n:Nat)(w:World):TK g off n w w:=⟨Grw.refl _ _,fun _ _=>rfl⟩
theorem TK.kept {g off n:Nat}{w a b:World}(hg:g<w.heap.size)(h:TK g off n w a)(k:Kept a b):TK g off n w b:=
 ⟨h.grw.trans (k.toGrw g),fun i hi=>(k.below.cell (p:=⟨g,i,none⟩) (qhu hg h.grw.grown.size)).trans (h.rest i hi)⟩
theorem TK.set {g off n:Nat}{w a:World}(h:TK g off n w a)(j:Nat)(hj:j≤n)(v:Value):TK g off n w (a.setCell ⟨g,off+j,none⟩ v):=
 ⟨h.grw.setCell _ _,fun i hi=>by
  exact(World.cell?_setCell_other a ⟨g,off+j,none⟩ ⟨g,i,none⟩ v (by intro he;injection he with _ he;omega)).trans (h.rest i hi)⟩
theorem qa3 (V H:Nat)(hH:0<H):(V/H%2=1)↔H≤V%(2*H):=by
 have e1:V/H=2*(V/(2*H))+V%(2*H)/H:=by
  have hdm:=Nat.div_add_mod V (2*H)
  have:V=V%(2*H)+H*(2*(V/(2*H))):=by
   rw[←qhz,qh0 H 2];omega
  rw[show V/H=(V%(2*H)+H*(2*(V/(2*H))))/H by rw[←this],Nat.add_mul_div_left _ _ hH];omega
 have e2:V%(2*H)<2*H:=Nat.mod_lt _ (by omega)
 rw[e1]
 constructor
 ·intro h
  apply Decidable.byContradiction
  intro hn
  have hz:V%(2*H)/H=0:=Nat.div_eq_of_lt (by omega)
  omega
 ·intro h
  have:V%(2*H)/H=1:=by
   rw[show V%(2*H)=(V%(2*H)-H)+H*1 by omega,Nat.add_mul_div_left _ _ hH,Nat.div_eq_of_lt (by omega)]
  omega
theorem YL (c D V E h:Nat)(rs:Bool)(j m k F:Nat)(hc:0<c)(hce:c%2=0)(hE:0<E)(hh:h=V/E)(hrs:rs=decide (V%E≠0))(hk:k=h/2^(m+1))(hF:F=j*c+k)(hb:k<2*c)(hjk:j=0∨c≤k)(hQD:E*2^(m+1)=2^j*D):Cutz c D V k (E*2^(m+1)) (E*2^m) F (decide (k%2=1)) (decide (h/2^m%2=1)) (rs||h%2^m != 0):=by
 have hp:=qht m
 have hH:0<E*2^m:=Nat.mul_pos hE hp
 have hQ:E*2^(m+1)=2*(E*2^m):=by rw[qh5,←qhz,qh0]
 have hkq:V/(E*2^(m+1))=k:=by rw[hk,hh,Nat.div_div_eq_div_mul]
 refine⟨hQ,hH,hkq,?_,?_,rfl,?_,?_,?_⟩
 ·rw[hF,Yi c j k hc (by omega) hjk,hQD,qhz]
 ·rw[hF,Nat.add_assoc,Yi c j (k+1) hc (by omega) (by omega),hQD,qhz]
 ·rw[hF,Nat.add_mod,Nat.mul_mod,hce];simp
 ·rw[hh,Nat.div_div_eq_div_mul,hQ]
  congr 1
  exact propext (qa3 V (E*2^m) hH)
 ·rw [hQ,Nat.mod_mul_left_mod,Nat.mod_mul,←hh,hrs]
  by_cases h1:V%E=0
  ·by_cases h2:h%2^m=0
   ·simp[h1,h2]
   ·have:¬E*(h%2^m)=0:=by
     intro h0;rcases Nat.mul_eq_zero.1 h0 with h0|h0<;>omega
    rw[show(h%2^m != 0)=true by simpa using h2,h1,Nat.zero_add,qh2 this]
    simp
  ·rw[qh2 h1,Bool.true_or]
   exact(qh2 (by omega)).symm
theorem Xf (o:Int)(k j:Nat)(h:j<k):o*2^(k-j)=2*(o*2^(k-(j+1))):=by
 have e:k-j=(k-(j+1))+1:=by omega
 rw[e,Int.pow_succ]
 have:o*(2^(k-(j+1))*2)=2*(o*2^(k-(j+1))):=by
  rw[←Int.mul_assoc,Int.mul_comm]
 rw[this]
theorem xm (x e o:Int)(k:Nat)(hx:x=o*2^k)(hx1:x≤9223372036854775807)(ho0:0<o)(ho2:o%2=1)(hk:k<64)(he1:-2000≤e)(he2:e≤2000)(h53:o<9007199254740992)(hlow:-1074≤e+(k:Int))(U:Nat)(V:Int)(hV:o*2^U=V)(hUb:∀i:Nat,i<U→o*2^i<4503599627370496∧-1074<e+(k:Int)-(i:Int))(hUk:(U:Int)≤4000)(hend:e+(k:Int)-(U:Int)≤-1074∨(-1074<e+(k:Int)-(U:Int)∧4503599627370496≤V))(w:World):Calls Tryz.prog 190 #[.agg #[.int .i64 64,.int .i64 53,.int .i64 4503599627370496,.int .i64 2047,.int .i64 (-1074),.int .i64 1024,.int .i64 9218868437227405312,.int .i64 (-9223372036854775808),.int .i64 9221120237041090561],.int .i64 x,.int .i64 e] w fun r w'=>r=.returned (.tuple #[.int .i64 V,.int .i64 (e+(k:Int)-(U:Int)),.bool true])∧Kept w w':=by
 have HV:Hid (o*2^U=V):=hV
 have HU:Hid (∀i:Nat,i<U→o*2^i<4503599627370496∧-1074<e+(k:Int)-(i:Int)):=hUb
 have hdbl:Hid (∀i:Nat,o*2^(i+1)=o*2^i+o*2^i):=by
  show ∀i:Nat,o*2^(i+1)=o*2^i+o*2^i
  intro i
  rw[Int.pow_succ,←Int.mul_assoc]
  omega
 have hpos:Hid (∀i:Nat,0<o*2^i):=by
  show ∀i:Nat,0<o*2^i
  exact fun i=>Int.mul_pos ho0 (Int.pow_pos (by decide))
 have HE:Hid (e+(k:Int)-(U:Int)≤-1074∨(-1074<e+(k:Int)-(U:Int)∧4503599627370496≤V)):=hend
 clear hV hUb hend
 have hb:∀j:Nat,j≤k→0<o*2^(k-j)∧o*2^(k-j)≤x:=by
  intro j hj
  have hp:(0:Int)<2^(k-j):=Int.pow_pos (by decide)
  have hq:(1:Int)≤2^j:=by have:(0:Int)<2^j:=Int.pow_pos (by decide);omega
  have h1:0<o*2^(k-j):=Int.mul_pos ho0 hp
  refine⟨h1,?_⟩
  have e1:x=o*2^(k-j)*2^j:=by
   rw[hx,Int.mul_assoc,←Int.pow_add]
   congr 2
   omega
  rw[e1]
  have:=Int.mul_le_mul_of_nonneg_left hq (Int.le_of_lt h1)
  omega
 have HB:Hid (∀j:Nat,j≤k→0<o*2^(k-j)∧o*2^(k-j)≤x):=hb
 have HX:Hid (x=o*2^k):=hx
 clear hb hx
 go_enter Tryz.func190,Tryz.ntmps190
 go_wp2
 go_loop [1,2] (fun m t=>∃j:Nat,j≤k∧m=.int .i64 (o*2^(k-j))∧t=.int .i64 (e+(j:Int))) (fun _ t=>(e+(k:Int)-intOf t).toNat)
 case atStart=>exact⟨0,Nat.zero_le _,by rw[HX.out];rfl,by simp⟩
 case round=>
  obtain⟨j,hj,rfl,rfl⟩:=hrel
  have hjb:=HB.out j hj
  by_cases hlt:j<k
  ·have hA:=Xf o k j hlt
   have hjb':=HB.out (j+1) hlt
   obtain⟨M,hM⟩:∃M,M=o*2^(k-(j+1)):=⟨_,rfl⟩
   rw[←hM]at hA hjb'
   rw[hA]at hjb ⊢
   have HM:Hid (M=o*2^(k-(j+1))):=hM
   clear hM hA
   have hmod:(2*M)%2=0:=by omega
   go_wp2
   go_round
   case rel=>exact⟨j+1,by omega,by rw[←HM.out],by go_num⟩
   case measure=>simp[intOf];omega
  ·obtain rfl:j=k:=by omega
   rw[Nat.sub_self,Int.pow_zero,Int.mul_one]at hjb ⊢
   have hodd:(o%2==0)=false:=by rw[ho2];rfl
   go_wp2
   go_loop [1,2] (fun m t=>∃i:Nat,i≤U∧m=.int .i64 (o*2^i)∧t=.int .i64 (e+(j:Int)-(i:Int))) (fun _ t=>(intOf t-(e+(j:Int)-(U:Int))).toNat)
   case atStart=>exact⟨0,Nat.zero_le _,by simp,by simp⟩
   case round=>
    obtain⟨i,hi,rfl,rfl⟩:=hrel
    by_cases hlt2:i<U
    ·obtain⟨g1,g2⟩:=HU.out i hlt2
     have hd:=hdbl.out i
     have hp0:=hpos.out i
     obtain⟨M,hM⟩:∃M,M=o*2^i:=⟨_,rfl⟩
     rw[←hM]at g1 hd hp0 ⊢
     have HD:Hid (o*2^(i+1)=M+M):=hd
     clear hd hM
     go_wp2
     go_round
     case rel=>exact⟨i+1,by omega,by rw[HD.out],by go_num⟩
     case measure=>simp[intOf];omega
    ·obtain rfl:i=U:=by omega
     rw[HV.out]
     rcases HE.out with hx1|⟨hx1,hx2⟩
     ·go_wp2
      go_ret3
      exact⟨rfl,(qia _).alloc _ _⟩
     ·go_wp2
      go_ret3
      exact⟨rfl,(qia _).alloc _ _⟩
theorem xo (x e o:Int)(k:Nat)(hx:x=o*2^k)(hx1:x≤9223372036854775807)(ho0:0<o)(ho2:o%2=1)(hk:k<64)(he1:-2000≤e)(he2:e≤2000)(h53:o<16777216)(hlow:-149≤e+(k:Int))(U:Nat)(V:Int)(hV:o*2^U=V)(hUb:∀i:Nat,i<U→o*2^i<8388608∧-149<e+(k:Int)-(i:Int))(hUk:(U:Int)≤4000)(hend:e+(k:Int)-(U:Int)≤-149∨(-149<e+(k:Int)-(U:Int)∧8388608≤V))(w:World):Calls Tryz.prog 190 #[.agg #[.int .i64 32,.int .i64 24,.int .i64 8388608,.int .i64 255,.int .i64 (-149),.int .i64 128,.int .i64 2139095040,.int .i64 2147483648,.int .i64 2143289345],.int .i64 x,.int .i64 e] w fun r w'=>r=.returned (.tuple #[.int .i64 V,.int .i64 (e+(k:Int)-(U:Int)),.bool true])∧Kept w w':=by
 have HV:Hid (o*2^U=V):=hV
 have HU:Hid (∀i:Nat,i<U→o*2^i<8388608∧-149<e+(k:Int)-(i:Int)):=hUb
 have hdbl:Hid (∀i:Nat,o*2^(i+1)=o*2^i+o*2^i):=by
  show ∀i:Nat,o*2^(i+1)=o*2^i+o*2^i
  intro i
  rw[Int.pow_succ,←Int.mul_assoc]
  omega
 have hpos:Hid (∀i:Nat,0<o*2^i):=by
  show ∀i:Nat,0<o*2^i
  exact fun i=>Int.mul_pos ho0 (Int.pow_pos (by decide))
 have HE:Hid (e+(k:Int)-(U:Int)≤-149∨(-149<e+(k:Int)-(U:Int)∧8388608≤V)):=hend
 clear hV hUb hend
 have hb:∀j:Nat,j≤k→0<o*2^(k-j)∧o*2^(k-j)≤x:=by
  intro j hj
  have hp:(0:Int)<2^(k-j):=Int.pow_pos (by decide)
  have hq:(1:Int)≤2^j:=by have:(0:Int)<2^j:=Int.pow_pos (by decide);omega
  have h1:0<o*2^(k-j):=Int.mul_pos ho0 hp
  refine⟨h1,?_⟩
  have e1:x=o*2^(k-j)*2^j:=by
   rw[hx,Int.mul_assoc,←Int.pow_add]
   congr 2
   omega
  rw[e1]
  have:=Int.mul_le_mul_of_nonneg_left hq (Int.le_of_lt h1)
  omega
 have HB:Hid (∀j:Nat,j≤k→0<o*2^(k-j)∧o*2^(k-j)≤x):=hb
 have HX:Hid (x=o*2^k):=hx
 clear hb hx
 go_enter Tryz.func190,Tryz.ntmps190
 go_wp2
 go_loop [1,2] (fun m t=>∃j:Nat,j≤k∧m=.int .i64 (o*2^(k-j))∧t=.int .i64 (e+(j:Int))) (fun _ t=>(e+(k:Int)-intOf t).toNat)
 case atStart=>exact⟨0,Nat.zero_le _,by rw[HX.out];rfl,by simp⟩
 case round=>
  obtain⟨j,hj,rfl,rfl⟩:=hrel
  have hjb:=HB.out j hj
  by_cases hlt:j<k
  ·have hA:=Xf o k j hlt
   have hjb':=HB.out (j+1) hlt
   obtain⟨M,hM⟩:∃M,M=o*2^(k-(j+1)):=⟨_,rfl⟩
   rw[←hM]at hA hjb'
   rw[hA]at hjb ⊢
   have HM:Hid (M=o*2^(k-(j+1))):=hM
   clear hM hA
   have hmod:(2*M)%2=0:=by omega
   go_wp2
   go_round
   case rel=>exact⟨j+1,by omega,by rw[←HM.out],by go_num⟩
   case measure=>simp[intOf];omega
  ·obtain rfl:j=k:=by omega
   rw[Nat.sub_self,Int.pow_zero,Int.mul_one]at hjb ⊢
   have hodd:(o%2==0)=false:=by rw[ho2];rfl
   go_wp2
   go_loop [1,2] (fun m t=>∃i:Nat,i≤U∧m=.int .i64 (o*2^i)∧t=.int .i64 (e+(j:Int)-(i:Int))) (fun _ t=>(intOf t-(e+(j:Int)-(U:Int))).toNat)
   case atStart=>exact⟨0,Nat.zero_le _,by simp,by simp⟩
   case round=>
    obtain⟨i,hi,rfl,rfl⟩:=hrel
    by_cases hlt2:i<U
    ·obtain⟨g1,g2⟩:=HU.out i hlt2
     have hd:=hdbl.out i
     have hp0:=hpos.out i
     obtain⟨M,hM⟩:∃M,M=o*2^i:=⟨_,rfl⟩
     rw[←hM]at g1 hd hp0 ⊢
     have HD:Hid (o*2^(i+1)=M+M):=hd
     clear hd hM
     go_wp2
     go_round
     case rel=>exact⟨i+1,by omega,by rw[HD.out],by go_num⟩
     case measure=>simp[intOf];omega
    ·obtain rfl:i=U:=by omega
     rw[HV.out]
     rcases HE.out with hx1|⟨hx1,hx2⟩
     ·go_wp2
      go_ret3
      exact⟨rfl,(qia _).alloc _ _⟩
     ·go_wp2
      go_ret3
      exact⟨rfl,(qia _).alloc _ _⟩
theorem JL {a b:Int}{p:Bool}(h:a=b):Ending.returned (.tuple #[.int .i64 a,.bool p])=.returned (.tuple #[.int .i64 b,.bool p]):=by rw[h]
theorem X8 (p:Bool)(e:Int)(w:World):Calls Tryz.prog 189 #[.bool p,.int .i64 0,.int .i64 e,.int .i64 64] w fun r w'=>r=.returned (.tuple #[.int .i64 (if p=true then -9223372036854775808 else 0),.bool true])∧Kept w w':=by
 by_cases h1:2000<e<;>by_cases h2:e< -2000
 ·omega
 all_goals
  cases p
  all_goals
   go_enter Tryz.func189,Tryz.ntmps189
   go_wp2_with (first|(go_at_call 86;refine(j4 _).mono ?_;rintro e w1 ⟨rfl,hk1⟩))
   go_ret2
   exact⟨rfl,hk1.alloc _ _⟩
theorem QC (p:Bool)(x e V E q:Int)(hx:0<x)(he1:-2000≤e)(he2:e≤2000)(hE:E≤971)(hE0:-1074≤E)(hV0:0<V)(hV1:V<9007199254740992)(hs:V<4503599627370496→E=-1074)(hq:q=(E+1074)*4503599627370496+V+(if p=true then -9223372036854775808 else 0))(Ks:Hid (∀w:World,Calls Tryz.prog 190 #[.agg #[.int .i64 64,.int .i64 53,.int .i64 4503599627370496,.int .i64 2047,.int .i64 (-1074),.int .i64 1024,.int .i64 9218868437227405312,.int .i64 (-9223372036854775808),.int .i64 9221120237041090561],.int .i64 x,.int .i64 e] w fun e w'=>e=.returned (.tuple #[.int .i64 V,.int .i64 E,.bool true])∧Kept w w'))(w:World):Calls Tryz.prog 189 #[.bool p,.int .i64 x,.int .i64 e,.int .i64 64] w fun r w'=>r=.returned (.tuple #[.int .i64 q,.bool true])∧Kept w w':=by
 have hx0:(x==0)=false:=by rw[beq_eq_false_iff_ne];omega
 have HQ:Hid (q=(E+1074)*4503599627370496+V+(if p=true then -9223372036854775808 else 0)):=hq
 have HS:Hid (V<4503599627370496→E=-1074):=hs
 clear hq hs
 cases p
 all_goals
  by_cases hvs:V<4503599627370496
  all_goals
   go_enter Tryz.func189,Tryz.ntmps189
   go_wp2_with (first|(go_at_call 86;refine(j4 _).mono ?_;rintro e w1 ⟨rfl,hk1⟩)|(go_at_call 190;refine(Ks.out _).mono ?_;rintro e w2 ⟨rfl,hk2⟩;have hcl:=qg hk2))
   go_ret2
   refine⟨JL ?_,(hk1.alloc _ _).trans hk2⟩
   have hq:=HQ.out
   have hs:=HS.out
   simp only[Bool.false_eq_true,if_true,if_false]at hq
   try unfold wrap64
   omega
theorem X9 (p:Bool)(e:Int)(w:World):Calls Tryz.prog 189 #[.bool p,.int .i64 0,.int .i64 e,.int .i64 32] w fun r w'=>r=.returned (.tuple #[.int .i64 (if p=true then 2147483648 else 0),.bool true])∧Kept w w':=by
 by_cases h1:2000<e<;>by_cases h2:e< -2000
 ·omega
 all_goals
  cases p
  all_goals
   go_enter Tryz.func189,Tryz.ntmps189
   go_wp2_with (first|(go_at_call 86;refine(j5 _).mono ?_;rintro e w1 ⟨rfl,hk1⟩))
   go_ret2
   exact⟨rfl,hk1.alloc _ _⟩
theorem QD (p:Bool)(x e V E q:Int)(hx:0<x)(he1:-2000≤e)(he2:e≤2000)(hE:E≤104)(hE0:-149≤E)(hV0:0<V)(hV1:V<16777216)(hs:V<8388608→E=-149)(hq:q=(E+149)*8388608+V+(if p=true then 2147483648 else 0))(Ks:Hid (∀w:World,Calls Tryz.prog 190 #[.agg #[.int .i64 32,.int .i64 24,.int .i64 8388608,.int .i64 255,.int .i64 (-149),.int .i64 128,.int .i64 2139095040,.int .i64 2147483648,.int .i64 2143289345],.int .i64 x,.int .i64 e] w fun e w'=>e=.returned (.tuple #[.int .i64 V,.int .i64 E,.bool true])∧Kept w w'))(w:World):Calls Tryz.prog 189 #[.bool p,.int .i64 x,.int .i64 e,.int .i64 32] w fun r w'=>r=.returned (.tuple #[.int .i64 q,.bool true])∧Kept w w':=by
 have hx0:(x==0)=false:=by rw[beq_eq_false_iff_ne];omega
 have HQ:Hid (q=(E+149)*8388608+V+(if p=true then 2147483648 else 0)):=hq
 have HS:Hid (V<8388608→E=-149):=hs
 clear hq hs
 cases p
 all_goals
  by_cases hvs:V<8388608
  all_goals
   go_enter Tryz.func189,Tryz.ntmps189
   go_wp2_with (first|(go_at_call 86;refine(j5 _).mono ?_;rintro e w1 ⟨rfl,hk1⟩)|(go_at_call 190;refine(Ks.out _).mono ?_;rintro e w2 ⟨rfl,hk2⟩;have hcl:=qg hk2))
   go_ret2
   refine⟨JL ?_,(hk1.alloc _ _).trans hk2⟩
   have hq:=HQ.out
   have hs:=HS.out
   simp only[Bool.false_eq_true,if_true,if_false]at hq
   try unfold wrap64
   omega
theorem QV (x:Nat)(h:x≠0):bl x=bl (x/2)+1:=by
 by_cases h1:x/2=0
 ·obtain rfl:x=1:=by omega
  decide
 ·have:=XI x 1 (by simpa using h1)
  rw[Nat.pow_one]at this
  omega
theorem jq (w:World)(V:Nat)(v:Value)(hM:RL w v (digs V))(hlen:(digs V).length<1000000):Calls Tryz.prog 185 #[v] w fun e w'=>e=.returned (.int .i64 (bl V:Int))∧w=w':=by
 obtain⟨ao,c,rfl,-,hat⟩:=hM.at
 have HA:Hid (∀i,i<(digs V).length→∃b off,ao=some ⟨b,off,none⟩∧w.cell? ⟨b,off+i,none⟩=some (.int .i64 ((digs V).getD i 0))):=(hat w (qia w)).2
 by_cases h0:V=0
 ·subst h0
  rw[qC,List.length_nil,jt]
  clear hM hat HA hlen
  go_enter Tryz.func185,Tryz.ntmps185
  go_wp2
  go_ret
  exact⟨rfl,rfl⟩
 ·obtain⟨n,hn⟩:∃n,(digs V).length=n+1:=by
   rcases hl:(digs V).length with _|n
   ·exact absurd (jK V hl) h0
   ·exact⟨n,rfl⟩
  have hge:=yC V n (by omega)
  have hlt:=qE V (n+1) (by omega)
  have hp:=qht (30*n)
  have hdlt:V/2^(30*n)<1073741824:=Nat.div_lt_of_lt_mul (by rw[←xr];exact hlt)
  have hd0:V/2^(30*n)≠0:=by
   have:=Nat.div_pos hge hp
   omega
  have hbl:=XI V (30*n) hd0
  obtain⟨b,off,rfl,hc⟩:=HA.out n (by omega)
  rw[zv,Nat.mod_eq_of_lt hdlt]at hc
  rw[hn]
  have HB:Hid (bl V=30*n+bl (V/2^(30*n))):=hbl
  generalize bl V=T at *
  generalize V/2^(30*n)=d at *
  have hn6:n<1000000:=by omega
  have hx:IntKind.i64.wrap (30*(n:Int))=30*(n:Int):=by rw[qc];omega
  have hn1:((n+1:Nat):Int)-1=(n:Int):=by omega
  clear hM hat HA hlen hn hge hlt hp hbl
  go_enter Tryz.func185,Tryz.ntmps185
  go_wp2
  go_loopw [3,4] (fun kv vv wr=>∃j x:Nat,kv=.int .i64 (30*(n:Int)+(j:Int))∧vv=.int .i64 (x:Int)∧x<1073741824∧j+bl x=bl d∧w=wr) (fun _ vv _=>(intOf vv).toNat)
  case atStart=>exact⟨0,d,by simp,rfl,hdlt,by omega,rfl⟩
  case round=>
   obtain⟨j,x,rfl,rfl,hx1,hj,rfl⟩:=hrel
   have hbd:bl d≤30:=qY d 30 (by omega)
   have y2:((x:Int)).tdiv 2=((x/2:Nat):Int):=by rw[Int.tdiv_eq_ediv_of_nonneg (by omega)];omega
   by_cases hx0:x=0
   ·subst hx0
    rw[jt]at hj
    have HT:Hid (30*(n:Int)+(j:Int)=(T:Int)):=by
     have:=HB.out
     show 30*(n:Int)+(j:Int)=(T:Int)
     omega
    go_wp2
    go_ret
    exact⟨congrArg (fun z=>Ending.returned (Value.int .i64 z)) HT.out,rfl⟩
   ·have hh:=QV x hx0
    have hxp:0<(x:Int):=by omega
    have Hj:Hid (j+bl x=bl d):=hj
    have Hh:Hid (bl x=bl (x/2)+1):=hh
    have HBD:Hid (bl d≤30):=hbd
    have hjb:j≤30:=by omega
    clear hj hh hbd
    go_wp2
    go_roundw
    case rel=>exact⟨j+1,x/2,by go_num,by first|rfl|exact congrArg (Value.int .i64) y2,by omega,by have:=Hj.out;have:=Hh.out;omega,by first|rfl|trivial⟩
    case measure=>simp[intOf]<;>omega
def Z0 (V:Nat)(i:Int):Bool:=if i<0 then false else decide (V/2^i.toNat%2=1)
theorem Yn (V f s:Nat)(hs:s<30):V/2^(30*f)%1073741824/2^s%2=V/2^(30*f+s)%2:=by
 rw[qhv,←Nat.div_div_eq_div_mul]
 generalize V/2^(30*f)=x
 have h30:(1073741824:Nat)=2^s*2^(30-s):=by rw[←qhv,show s+(30-s)=30 by omega]
 rw[h30,Nat.mod_mul_right_div_self]
 have h2:2^(30-s)=2*2^(29-s):=by rw[←Nat.pow_succ',show(29-s).succ=30-s by omega]
 rw[h2,Nat.mod_mul_right_mod]
theorem xP (w:World)(V:Nat)(v:Value)(hM:RL w v (digs V))(hlen:(digs V).length<1000000)(i:Int)(hi1:-1000000000≤i)(hi2:i≤1000000000):Calls Tryz.prog 187 #[v,.int .i64 i] w fun e w'=>e=.returned (.bool (Z0 V i))∧Kept w w':=by
 obtain⟨ao,c,rfl,-,hat⟩:=hM.at
 by_cases h0:i<0
 ·rw[Z0,if_pos h0]
  generalize (digs V).length=l at *
  clear hM hat
  go_enter Tryz.func187,Tryz.ntmps187
  go_wp2
  go_ret
  exact⟨rfl,qia _⟩
 ·rw[Z0,if_neg h0]
  obtain⟨q,rfl⟩:=Int.eq_ofNat_of_zero_le (show 0≤i by omega)
  rw[Int.toNat_natCast]
  have y1:((q:Int)).tmod 30=((q%30:Nat):Int):=by rw[Int.tmod_eq_emod_of_nonneg (by omega)];omega
  have y2:((q:Int)).tdiv 30=((q/30:Nat):Int):=by rw[Int.tdiv_eq_ediv_of_nonneg (by omega)];omega
  by_cases h1:(digs V).length≤q/30
  ·have hV:=qE V (q/30) h1
   have hV2:V<2^q:=qhu hV (qhw (by omega) (by omega))
   rw[Nat.div_eq_of_lt hV2]
   have g1:((digs V).length:Int)≤((q/30:Nat):Int):=by omega
   have g2:¬(q:Int)<0:=by omega
   have hfb:q/30≤40000000:=by omega
   generalize (digs V).length=l at *
   generalize q/30=f at *
   clear hM hat hV hV2
   go_enter Tryz.func187,Tryz.ntmps187
   go_wp2
   go_ret
   exact⟨by simp,qia _⟩
  ·obtain⟨b,off,rfl,hc⟩:=(hat w (qia w)).2 (q/30) (by omega)
   rw[zv]at hc
   have hb:=Yn V (q/30) (q%30) (by omega)
   rw[show 30*(q/30)+q%30=q by omega]at hb
   have hdlt:V/2^(30*(q/30))%1073741824<1073741824:=Nat.mod_lt _ (by omega)
   have hs:q%30<30:=by omega
   rw[←hb]
   have g1:¬((digs V).length:Int)≤((q/30:Nat):Int):=by omega
   have g2:¬(q:Int)<0:=by omega
   have g3:((q/30:Nat):Int)<((digs V).length:Int):=by omega
   generalize (digs V).length=l at *
   generalize V/2^(30*(q/30))%1073741824=d at *
   generalize q/30=f at *
   generalize q%30=s at *
   clear hM hat hb
   go_enter Tryz.func187,Tryz.ntmps187
   go_wp2
   go_ret
   refine⟨congrArg (fun z=>Ending.returned (Value.bool z)) ?_,qia _⟩
   have e1:(d:Int)/2^s=((d/2^s:Nat):Int):=by simp
   rw[e1]
   generalize d/2^s=z
   rw[Int.tmod_eq_emod_of_nonneg (by omega),Bool.eq_iff_iff]
   simp
   omega
end Go.Proofs.YtaglkncdedeipaaGreatDoor
