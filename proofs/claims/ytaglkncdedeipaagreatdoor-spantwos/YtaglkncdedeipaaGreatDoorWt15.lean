/-  -/
import Derived.Test.YtaglkncdedeipaaGreatDoorWt14
import Derived.Test.YtaglkncdedeipaaGreatDoorWt06
import Derived.Deep.MidRow
import Derived.Test.YtaglkncdedeipaaGreatDoorWt01
import Derived.Test.YtaglkncdedeipaaGreatDoorWt02
import Derived.Test.YtaglkncdedeipaaGreatDoorWt04
namespace Go.Proofs.YtaglkncdedeipaaGreatDoor
open Go.ChangeShapes Go.WideShapes Go.ChangeAt Go.RowKit Ieee
set_option linter.unusedVariables false
set_option linter.unusedSimpArgs false
set_option maxHeartbeats 16000000
set_option maxRecDepth 100000
def mnL (k:Int)(f:Nat→Int):Nat→Int
 |0=>k
 |m+1=>min (mnL k f m) (f m)
def mxL (k:Int)(f:Nat→Int):Nat→Int
 |0=>k
 |m+1=>max (mxL k f m) (f m)
def Ivs (w:World)(ao:Option Addr)(m:Nat)(fx fy:Nat→Nat):Prop:=∀u,Kept w u→∀i,i<m→∃b off,ao=some ⟨b,off,none⟩∧u.cell? ⟨b,off+i*2,none⟩=some (.float .f64 (fx i))∧u.cell? ⟨b,off+i*2+1,none⟩=some (.float .f64 (fy i))
theorem xG (n:Int)(x0 y0:Nat)(k0 j0:Int)(hx:Fl n x0 k0)(hy:Fl n y0 j0)(m:Nat)(hm:m<100000)(fx fy:Nat→Nat)(fk fj:Nat→Int)(hF:∀i,i<m→Fl n (fx i) (fk i)∧Fl n (fy i) (fj i))(ao:Option Addr)(c:Nat)(w:World)(hI:Ivs w ao m fx fy):
  Calls Tryz.prog 58 #[fv2 x0 y0,.slice ao m c] w fun e w'=>∃x y,e=.returned (fv2 x y)∧Fl n x (mnL k0 fk m)∧Fl n y (mxL j0 fj m)∧Kept w w':=by
 have HI:Hid (Ivs w ao m fx fy):=hI
 have HF:Hid (∀i,i<m→Fl n (fx i) (fk i)∧Fl n (fy i) (fj i)):=hF
 have HX:Hid (Fl n x0 k0):=hx
 have HY:Hid (Fl n y0 j0):=hy
 clear hI hF hx hy
 have hSF:=jx
 obtain⟨X,hX⟩:∃X,X=(w.alloc (.cells #[.float .f64 x0,.float .f64 y0] 68)).alloc (.cells #[.float .f64 0,.float .f64 0] 68):=⟨_,rfl⟩
 have hP:P2 X w.heap.size (.float .f64 x0) (.float .f64 y0):=by
  rw[hX]
  exact(P2.new w _ _ _).alloc _ _
 have hQ:P2 X (w.heap.size+1) (.float .f64 0) (.float .f64 0):=by
  rw[hX]
  have:=P2.new (w.alloc (.cells #[.float .f64 x0,.float .f64 y0] 68)) (.float .f64 0) (.float .f64 0) 68
  simpa using this
 have hK:Kept w X:=by
  rw[hX]
  exact((qo0 w).alloc _ _).alloc _ _
 obtain⟨H0,hH0⟩:∃H,H=w.heap.size:=⟨_,rfl⟩
 obtain⟨H1,hH1⟩:∃H,H=H0+1:=⟨_,rfl⟩
 rw[←hH0,←hH1]at hQ
 rw[←hH0]at hP
 have o0:w.heap.size≤H0:=by omega
 have o1:w.heap.size≤H1:=by omega
 have n1:¬H1=H0:=by omega
 have n2:¬H0=H1:=by omega
 go_enter Tryz.func58,Tryz.ntmps58
 go_upto_region 1 with fail
 rw[←hX,←hH0,←hH1]
 clear hX hH1 hH0
 go_wp2_with fail
 go_loopw [9] (fun i wr=>∃(k:Nat) (x y:Nat),k≤m∧i=.int .i64 k∧Fl n x (mnL k0 fk k)∧Fl n y (mxL j0 fj k)∧P2 wr H0 (.float .f64 x) (.float .f64 y)∧P2 wr H1 (.float .f64 0) (.float .f64 0)∧Kept w wr) (fun i _=>m-(intOf i).toNat)
 case atStart=>exact⟨0,x0,y0,Nat.zero_le _,rfl,HX.out,HY.out,hP,hQ,hK⟩
 case round=>
  clear hP hQ hK
  obtain⟨k,x,y,hk,rfl,fx1,fy1,hP,hQ,hK⟩:=hrel
  by_cases hkm:k<m
  ·obtain⟨b,off,rfl,ci0,ci1⟩:=HI.out _ hK k hkm
   obtain⟨g1,g2⟩:=HF.out k hkm
   obtain⟨z1,hz1,r1⟩:=Jq (P:=Tryz.prog) n x (fx k) _ _ fx1 g1
   obtain⟨z2,hz2,r2⟩:=Jr (P:=Tryz.prog) n y (fy k) _ _ fy1 g2
   have Hz:Hid (Fl n z1 (mnL k0 fk (k+1))∧Fl n z2 (mxL j0 fj (k+1))):=⟨hz1,hz2⟩
   clear g1 g2 hz1 hz2 fx1 fy1
   generalize fx k=xk at *
   generalize fy k=yk at *
   have hPk:=(hP.put (.float .f64 z1) (.float .f64 z2)).alloc #[.float .f64 xk,.float .f64 yk] 68
   have hQk:=((hQ.set H0 0 n2 (.float .f64 z1)).set H0 1 n2 (.float .f64 z2)).alloc #[.float .f64 xk,.float .f64 yk] 68
   have hKk:=((hK.setCell (p:=⟨H0,0,none⟩) o0 (.float .f64 z1)).setCell (p:=⟨H0,1,none⟩) o0 (.float .f64 z2)).alloc #[.float .f64 xk,.float .f64 yk] 68
   have lt0:=hP.lt
   have lt1:=hQ.lt
   obtain⟨p0,p1,pf⟩:=hP
   go_wp2_with fail
   go_roundw
   case rel=>exact⟨k+1,z1,z2,by omega,by go_num,Hz.out.1,Hz.out.2,hPk,hQk,hKk⟩
   case measure=>simp[intOf];omega
  ·have hkm':k=m:=by omega
   subst hkm'
   have hz:=hQ.put (.float .f64 x) (.float .f64 y)
   obtain⟨d0,d1,df⟩:=hz
   obtain⟨p0,p1,pf⟩:=hP
   obtain⟨q0,q1,qf⟩:=hQ
   go_wp2_with fail
   exact qoz (v:=fv2 x y) (by simp[results,Tryz.results58,go_sem,d0,d1]) rfl ⟨x,y,rfl,fx1,fy1,(hK.setCell o1 _).setCell o1 _⟩
theorem qdf {w u:World}{x y:Nat}{t:TypeId}(k:Kept (w.alloc (.cells #[.float .f64 x,.float .f64 y] t)) u):Ivs u (some ⟨w.heap.size,0,none⟩) 1 (fun _=>x) (fun _=>y):=fun v kv i hi=>by
 have h:=(P2.newk (k.trans kv))
 refine⟨_,_,rfl,?_,?_⟩
 ·rw[show 0+i*2=0 by omega];exact h.c0
 ·rw[show 0+i*2+1=1 by omega];exact h.c1
theorem qoc (d a b:Nat)(w:World):(Op.equalIn (d+1) 66 (.float .f64 a) (.float .f64 b)).run Tryz.prog w=.ok (FloatKind.f64.format.order a b==some .eq) w:=by
 have h:Tryz.prog.underlying 66=some (.float .f64):=by kernel_rfl
 simp[Op.equalIn,run_underlying h,Op.floatEq]
theorem qm8 (a b c d:Nat)(w:World):(binOp .eql 68 (.agg #[.float .f64 a,.float .f64 b]) (.agg #[.float .f64 c,.float .f64 d])).run Tryz.prog w=.ok (.bool (FloatKind.f64.format.order a c==some .eq&&FloatKind.f64.format.order b d==some .eq)) w:=by
 have h:=qoc
 rw[run_eql_struct]
 cases hb:(FloatKind.f64.format.order a c==some .eq)
 ·go_simp
 ·cases hc:(FloatKind.f64.format.order b d==some .eq)<;>go_simp
theorem XO (n:Int)(x0 y0 x1 y1:Nat)(k0 j0 k1 j1:Int)(hx:Fl n x0 k0)(hy:Fl n y0 j0)(gx:Fl n x1 k1)(gy:Fl n y1 j1)(w:World):
  Calls Tryz.prog 55 #[fv2 x0 y0,fv2 x1 y1] w fun e w'=>e=.returned (.bool (decide (k0≤k1∧j1≤j0)))∧Kept w w':=by
 obtain⟨X,hX⟩:∃X,X=(w.alloc (.cells #[.float .f64 x0,.float .f64 y0] 68)).alloc (.cells #[.float .f64 x1,.float .f64 y1] 68):=⟨_,rfl⟩
 have hP:P2 X w.heap.size (.float .f64 x0) (.float .f64 y0):=by
  rw[hX]
  exact(P2.new w _ _ _).alloc _ _
 have hQ:P2 X (w.heap.size+1) (.float .f64 x1) (.float .f64 y1):=by
  rw[hX]
  have:=P2.new (w.alloc (.cells #[.float .f64 x0,.float .f64 y0] 68)) (.float .f64 x1) (.float .f64 y1) 68
  simpa using this
 have hK:Kept w X:=by
  rw[hX]
  exact((qo0 w).alloc _ _).alloc _ _
 have KJ:Hid (∀(u v:World) (B:Nat),B=v.heap.size→Kept (v.alloc (.cells #[.float .f64 x1,.float .f64 y1] 68)) u→Kept X u→Calls Tryz.prog 58 #[fv2 x0 y0,.slice (some ⟨B,0,none⟩) 1 1] u fun e w'=>∃x y,e=.returned (fv2 x y)∧(FloatKind.f64.format.order x x0==some .eq&&FloatKind.f64.format.order y y0==some .eq)=decide (k0≤k1∧j1≤j0)∧Kept X w'∧Kept u w'):=fun u v B hB k kX=>by
  subst hB
  refine(xG n x0 y0 k0 j0 hx hy 1 (by decide) (fun _=>x1) (fun _=>y1) (fun _=>k1) (fun _=>j1) (fun _ _=>⟨gx,gy⟩) _ _ u (qdf k)).mono ?_
  rintro e w' ⟨x,y,rfl,h1,h2,k'⟩
  refine⟨x,y,rfl,?_,kX.trans k',k'⟩
  rw[h1.ord hx,h2.ord hy,xi,xi]
  have e1:mnL k0 (fun _=>k1) 1=min k0 k1:=rfl
  have e2:mxL j0 (fun _=>j1) 1=max j0 j1:=rfl
  rw[e1,e2,Bool.eq_iff_iff,Bool.and_eq_true,qor,qor,qor]
  omega
 clear hx hy gx gy
 generalize decide (k0≤k1∧j1≤j0)=t at *
 go_enter Tryz.func55,Tryz.ntmps55
 go_upto_region 1 with fail
 rw[←hX]
 clear hX
 have kd:Kept X X.drew:=(qo0 X).drew
 have hEI:=qm8
 have HS:Hid (∀u,Kept X u→Kept X u∧(u.cell? ⟨w.heap.size,0,none⟩=some (.float .f64 x0)∧u.cell? ⟨w.heap.size,1,none⟩=some (.float .f64 y0))∧(u.cell? ⟨w.heap.size+1,0,none⟩=some (.float .f64 x1)∧u.cell? ⟨w.heap.size+1,1,none⟩=some (.float .f64 y1))):=fun u k=>⟨k,⟨(hP.kept k).c0,(hP.kept k).c1⟩,⟨(hQ.kept k).c0,(hQ.kept k).c1⟩⟩
 go_region_held (fun u=>Kept X u∧(u.cell? ⟨w.heap.size,0,none⟩=some (.float .f64 x0)∧u.cell? ⟨w.heap.size,1,none⟩=some (.float .f64 y0))∧(u.cell? ⟨w.heap.size+1,0,none⟩=some (.float .f64 x1)∧u.cell? ⟨w.heap.size+1,1,none⟩=some (.float .f64 y1))) (first|assumption|exact HS.out _ kd|exact HS.out _ (by assumption)|exact HS.out _ (by repeat' first|assumption|refine Kept.alloc ?_ _ _|refine Kept.drew ?_|exact qo0 _)) (first|(go_at_call 58;refine(KJ.out _ _ _ rfl (by first|exact qo0 _|exact(qo0 _).drew) (by repeat' first|assumption|refine Kept.alloc ?_ _ _|refine Kept.drew ?_|exact qo0 _)).mono ?_;rintro e w1 ⟨x,y,rfl,hxy,k1,j1⟩))
 go_wp2_with fail
 go_ret
 exact⟨rfl,hK.trans k1⟩
def btE (a1 b1 a2 b2 n:Int):Int:=if opE a1 b1 n=0 then opE a2 b2 n else opE a1 b1 n
theorem jP (a1 b1 a2 b2 n:Int):btE a1 b1 a2 b2 n=0↔vsp a1 b1 n=true∧vsp a2 b2 n=true:=by
 unfold btE
 rw[←vB,←vB]
 split
 ·rename_i h;simp[h]
 ·rename_i h;simp[h]
structure Bt (a1 b1 a2 b2 n:Int) (x1 y1 x2 y2:Nat) (q:Int):Prop where
 err:q=btE a1 b1 a2 b2 n
 ok:q=0→Fl n x1 (qc a1 n)∧Fl n y1 (qc b1 n)∧Fl n x2 (qc a2 n)∧Fl n y2 (qc b2 n)
 no:q≠0→x1=0∧y1=0∧x2=0∧y2=0
theorem zW (a b n:Int)(h:vsp a b n=true):qj a n=true∧qj b n=true∧qc a n≤qc b n∧qc a n≠(ifn n:Int)∧qc b n≠-(ifn n:Int):=by
 unfold vsp at h
 simp only[Bool.and_eq_true,qor]at h
 exact⟨h.1.1.1.1,h.1.1.1.2,h.1.1.2,h.1.2,h.2⟩
theorem zS (a1 b1 a2 b2 n:Int)(r1:RB a1)(r2:RB b1)(r3:RB a2)(r4:RB b2):∃x1 y1 x2 y2 q,Bt a1 b1 a2 b2 n x1 y1 x2 y2 q∧∀w,Calls Tryz.prog 45 #[sp2 a1 b1,sp2 a2 b2,.int .i64 n] w fun e w'=>e=.returned (.tuple #[fv2 x1 y1,fv2 x2 y2,.int .i64 q])∧Kept w w':=by
 obtain⟨x1,y1,f1,g1,-⟩:=Ky a1 b1 n
 obtain⟨x2,y2,f2,g2,-⟩:=Ky a2 b2 n
 have KO:Hid (∀u a b x y q,(a=a1∧b=b1∧x=x1∧y=y1∧q=opE a1 b1 n∨a=a2∧b=b2∧x=x2∧y=y2∧q=opE a2 b2 n)→Calls Tryz.prog 66 #[sp2 a b,.int .i64 n] u fun e w'=>e=.returned (.tuple #[fv2 x y,.int .i64 q])∧Kept u w'):=fun u a b x y q h=>by
  rcases h with ⟨rfl,rfl,rfl,rfl,rfl⟩|⟨rfl,rfl,rfl,rfl,rfl⟩
  ·rw[←f1];exact Js _ _ n r1 r2 u
  ·rw[←f2];exact Js _ _ n r3 r4 u
 by_cases h:opE a1 b1 n=0∧opE a2 b2 n=0
 ·have hv1:=(vB _ _ _).1 h.1
  have hv2:=(vB _ _ _).1 h.2
  obtain⟨i1,i2,-⟩:=zW _ _ _ hv1
  obtain⟨i3,i4,-⟩:=zW _ _ _ hv2
  refine⟨x1,y1,x2,y2,0,⟨((jP _ _ _ _ _).2 ⟨hv1,hv2⟩).symm,fun _=>?_,fun h=>absurd rfl h⟩,fun w=>?_⟩
  ·rw[(g1 hv1).1,(g1 hv1).2,(g2 hv2).1,(g2 hv2).2]
   exact⟨Fl.flv i1 r1.1 r1.2,Fl.flv i2 r2.1 r2.2,Fl.flv i3 r3.1 r3.2,Fl.flv i4 r4.1 r4.2⟩
  ·have:=XN a1 b1 a2 b2 n x1 y1 x2 y2 _ _ w KO
   rw[if_pos h]at this
   exact this
 ·refine⟨0,0,0,0,btE a1 b1 a2 b2 n,⟨rfl,fun g=>?_,fun _=>⟨rfl,rfl,rfl,rfl⟩⟩,fun w=>?_⟩
  ·have:=(jP _ _ _ _ _).1 g
   exact absurd ⟨(vB _ _ _).2 this.1,(vB _ _ _).2 this.2⟩ h
  ·have:=XN a1 b1 a2 b2 n x1 y1 x2 y2 _ _ w KO
   rw[if_neg h]at this
   exact this
theorem Bt.fl {a1 b1 a2 b2 n:Int}{x1 y1 x2 y2:Nat}{q:Int}(h:Bt a1 b1 a2 b2 n x1 y1 x2 y2 q):∃(m:Int) (k1 j1 k2 j2:Int),Fl m x1 k1∧Fl m y1 j1∧Fl m x2 k2∧Fl m y2 j2∧(q=0→m=n∧k1=qc a1 n∧j1=qc b1 n∧k2=qc a2 n∧j2=qc b2 n):=by
 by_cases hq:q=0
 ·obtain⟨f1,f2,f3,f4⟩:=h.ok hq
  exact⟨n,_,_,_,_,f1,f2,f3,f4,fun _=>⟨rfl,rfl,rfl,rfl,rfl⟩⟩
 ·obtain⟨rfl,rfl,rfl,rfl⟩:=h.no hq
  have z:=Fl.zero 64 (.inl rfl)
  exact⟨64,0,0,0,0,z,z,z,z,fun g=>absurd g hq⟩
abbrev zsp:Value:=sp2 0 0
theorem qfi (a1 b1 a2 b2 n:Int)(x1 y1 x2 y2 z1 z2:Nat)(q p1 p2:Int)(t:Bool)(w:World)
  (KB:Hid (∀u,Calls Tryz.prog 45 #[sp2 a1 b1,sp2 a2 b2,.int .i64 n] u fun e w'=>e=.returned (.tuple #[fv2 x1 y1,fv2 x2 y2,.int .i64 q])∧Kept u w'))
  (r1:∀(ts:Array TypeId) (t:TypeId) (w:World),(Builtin.max_ ts t #[.float .f64 x1,.float .f64 x2]).run Tryz.prog w=.ok (.float .f64 z1) w)
  (r2:∀(ts:Array TypeId) (t:TypeId) (w:World),(Builtin.min_ ts t #[.float .f64 y1,.float .f64 y2]).run Tryz.prog w=.ok (.float .f64 z2) w)
  (ht:(FloatKind.f64.format.order z1 z2==some .gt)=t)
  (KT:Hid (q=0→t=false→∀u,Calls Tryz.prog 46 #[fv2 z1 z2,.int .i64 n,.int .i64 0] u fun e w'=>e=.returned (.tuple #[sp2 p1 p2,.int .i64 0])∧Kept u w')):
  Calls Tryz.prog 16 #[sp2 a1 b1,sp2 a2 b2,.int .i64 n] w fun e w'=>e=.returned (if q=0∧t=false then .tuple #[sp2 p1 p2,.bool true,.int .i64 0]else .tuple #[zsp,.bool false,.int .i64 q])∧Kept w w':=by
 obtain⟨X,hX⟩:∃X,X=((w.alloc (.cells #[.int .i64 a1,.int .i64 b1] 23)).alloc (.cells #[.int .i64 a2,.int .i64 b2] 23)).alloc (.cells #[.int .i64 0,.int .i64 0] 23):=⟨_,rfl⟩
 have hP1:P2 X w.heap.size (.int .i64 a1) (.int .i64 b1):=by
  rw[hX]
  exact((P2.new w _ _ _).alloc _ _).alloc _ _
 have hP2:P2 X (w.heap.size+1) (.int .i64 a2) (.int .i64 b2):=by
  rw[hX]
  have:=(P2.new (w.alloc (.cells #[.int .i64 a1,.int .i64 b1] 23)) (.int .i64 a2) (.int .i64 b2) 23).alloc #[.int .i64 0,.int .i64 0] 23
  simpa using this
 have hQ:P2 X (w.heap.size+1+1) (.int .i64 0) (.int .i64 0):=by
  rw[hX]
  have:=P2.new ((w.alloc (.cells #[.int .i64 a1,.int .i64 b1] 23)).alloc (.cells #[.int .i64 a2,.int .i64 b2] 23)) (.int .i64 0) (.int .i64 0) 23
  simpa using this
 have hK:Kept w X:=by
  rw[hX]
  exact(((qo0 w).alloc _ _).alloc _ _).alloc _ _
 have hs:Hid (X.heap.size=w.heap.size+3):=by rw[hX];simp[Hid]
 obtain⟨H1,hH1⟩:∃H,H=w.heap.size+1:=⟨_,rfl⟩
 obtain⟨H2,hH2⟩:∃H,H=H1+1:=⟨_,rfl⟩
 rw[←hH1]at hP2 hQ
 rw[←hH2]at hQ
 have o2:w.heap.size≤H2:=by omega
 have hSF:=jx
 go_enter Tryz.func16,Tryz.ntmps16
 go_upto_region 1 with fail
 rw[←hX,←hH1,←hH2]
 clear hX hH1 hH2 hs
 obtain⟨p10,p11,p1f⟩:=hP1
 obtain⟨p20,p21,p2f⟩:=hP2
 go_upto_region 2 with (first|(go_at_call 45;refine(KB.out _).mono ?_;rintro e w1 ⟨rfl,k1⟩))
 have hQ1:=hQ.kept k1
 have kw1:=hK.trans k1
 clear p10 p11 p1f p20 p21 p2f KB hK hQ k1
 go_upto_region 3 with fail
 obtain⟨Y,hY⟩:∃Y,Y=((w1.alloc (.cells #[.float .f64 x1,.float .f64 y1] 68)).alloc (.cells #[.float .f64 x2,.float .f64 y2] 68)).alloc (.cells #[.float .f64 z1,.float .f64 z2] 68):=⟨_,rfl⟩
 have hC:P2 Y (w1.heap.size+1+1) (.float .f64 z1) (.float .f64 z2):=by
  rw[hY]
  have:=P2.new ((w1.alloc (.cells #[.float .f64 x1,.float .f64 y1] 68)).alloc (.cells #[.float .f64 x2,.float .f64 y2] 68)) (.float .f64 z1) (.float .f64 z2) 68
  simpa using this
 have kY:Kept w1 Y:=by
  rw[hY]
  exact(((qo0 w1).alloc _ _).alloc _ _).alloc _ _
 have hQY:=hQ1.kept kY
 have kwY:=kw1.trans kY
 obtain⟨B3,hB3⟩:∃B,B=w1.heap.size+1+1:=⟨_,rfl⟩
 rw[←hB3]at hC
 rw[←hY,←hB3]
 clear hY hB3 kw1 kY hQ1
 obtain⟨b0,b1',bf⟩:=hC
 by_cases hq:q=0
 ·subst hq
  cases t
  ·have KT':Hid (∀u,Calls Tryz.prog 46 #[fv2 z1 z2,.int .i64 n,.int .i64 0] u fun e w'=>e=.returned (.tuple #[sp2 p1 p2,.int .i64 0])∧Kept u w'):=KT.out rfl rfl
   clear KT
   go_upto_region 6 with (first|(go_at_call 46;refine(KT'.out _).mono ?_;rintro e w2 ⟨rfl,k2⟩))
   have hz:=((hQY.kept k2).alloc #[.int .i64 p1,.int .i64 p2] 23).put (.int .i64 p1) (.int .i64 p2)
   have hl:=(hQY.kept k2).lt
   obtain⟨c0,c1,cf⟩:=hQY.kept k2
   obtain⟨d0,d1,df⟩:=hz
   clear hQY
   go_wp2_with fail
   refine qoz (v:=.tuple #[sp2 p1 p2,.bool true,.int .i64 0]) ?_ rfl ⟨by simp,?_⟩
   ·simp[results,Tryz.results16,go_sem, *]
   ·(repeat' first|exact kwY.trans k2|refine Kept.setCell ?_ ?_ _|refine Kept.alloc ?_ _ _|exact o2)
  ·have hz:=hQY.put (.int .i64 0) (.int .i64 0)
   obtain⟨c0,c1,cf⟩:=hQY
   obtain⟨d0,d1,df⟩:=hz
   clear KT
   go_wp2_with fail
   refine qoz (v:=.tuple #[zsp,.bool false,.int .i64 0]) ?_ rfl ⟨by simp,?_⟩
   ·simp[results,Tryz.results16,go_sem, *]
   ·(repeat' first|exact kwY|refine Kept.setCell ?_ ?_ _|exact o2)
 ·have hqb:(q != 0)=true:=by simpa using hq
  have hz:=hQY.put (.int .i64 0) (.int .i64 0)
  obtain⟨c0,c1,cf⟩:=hQY
  obtain⟨d0,d1,df⟩:=hz
  clear KT
  go_wp2_with fail
  refine qoz (v:=.tuple #[zsp,.bool false,.int .i64 q]) ?_ rfl ⟨by simp[hq],?_⟩
  ·simp[results,Tryz.results16,go_sem, *]
  ·(repeat' first|exact kwY|refine Kept.setCell ?_ ?_ _|exact o2)
theorem Jt (a1 b1 a2 b2 n:Int)(s1:RB a1)(s2:RB b1)(s3:RB a2)(s4:RB b2)(w:World):Calls Tryz.prog 16 #[sp2 a1 b1,sp2 a2 b2,.int .i64 n] w fun e w'=>e=.returned (if btE a1 b1 a2 b2 n=0∧max (qc a1 n) (qc a2 n)≤min (qc b1 n) (qc b2 n)then .tuple #[sp2 (pz n (max (qc a1 n) (qc a2 n))) (pz n (min (qc b1 n) (qc b2 n))),.bool true,.int .i64 0]else .tuple #[zsp,.bool false,.int .i64 (btE a1 b1 a2 b2 n)])∧Kept w w':=by
 obtain⟨x1,y1,x2,y2,q,hB,KB⟩:=zS a1 b1 a2 b2 n s1 s2 s3 s4
 obtain⟨m,k1,j1,k2,j2,f1,f2,f3,f4,hE⟩:=hB.fl
 obtain⟨z1,g1,r1⟩:=Jr (P:=Tryz.prog) m x1 x2 k1 k2 f1 f3
 obtain⟨z2,g2,r2⟩:=Jq (P:=Tryz.prog) m y1 y2 j1 j2 f2 f4
 have ho:=g1.ord g2
 refine(qfi a1 b1 a2 b2 n x1 y1 x2 y2 z1 z2 q (pz n (max k1 k2)) (pz n (min j1 j2)) (decide (min j1 j2<max k1 k2)) w KB r1 r2 (by rw[ho,XL]) (fun hq _ u=>?_)).mono ?_
 ·obtain⟨rfl,-⟩:=hE hq
  exact vC g1 g2 u
 ·rintro e w' ⟨rfl,k⟩
  refine⟨?_,k⟩
  have he:=hB.err
  by_cases hq:q=0
  ·obtain⟨-,rfl,rfl,rfl,rfl⟩:=hE hq
   rw[←he]
   subst hq
   by_cases hc:max (qc a1 n) (qc a2 n)≤min (qc b1 n) (qc b2 n)
   ·rw[if_pos ⟨rfl,by rw[decide_eq_false_iff_not];omega⟩,if_pos ⟨rfl,hc⟩]
   ·rw[if_neg (fun h=>by have:=h.2;rw[decide_eq_false_iff_not]at this;omega),if_neg (fun h=>hc h.2)]
  ·rw[if_neg (fun h=>hq h.1),if_neg (fun h=>hq (he.trans h.1)),he]
theorem XP (a1 b1 a2 b2 n:Int)(x1 y1 x2 y2:Nat)(q p1 p2:Int)(J:Nat→Nat→Prop)(w:World)
  (KB:Hid (∀u,Calls Tryz.prog 45 #[sp2 a1 b1,sp2 a2 b2,.int .i64 n] u fun e w'=>e=.returned (.tuple #[fv2 x1 y1,fv2 x2 y2,.int .i64 q])∧Kept u w'))
  (KJ:Hid (∀(u v:World) (B:Nat),B=v.heap.size→Kept (v.alloc (.cells #[.float .f64 x2,.float .f64 y2] 68)) u→Calls Tryz.prog 58 #[fv2 x1 y1,.slice (some ⟨B,0,none⟩) 1 1] u fun e w'=>∃x y,e=.returned (fv2 x y)∧J x y∧Kept u w'))
  (KT:Hid (∀u x y,J x y→Calls Tryz.prog 46 #[fv2 x y,.int .i64 n,.int .i64 q] u fun e w'=>e=.returned (.tuple #[sp2 p1 p2,.int .i64 q])∧Kept u w')):
  Calls Tryz.prog 17 #[sp2 a1 b1,sp2 a2 b2,.int .i64 n] w fun e w'=>e=.returned (.tuple #[sp2 p1 p2,.int .i64 q])∧Kept w w':=by
 obtain⟨X,hX⟩:∃X,X=((w.alloc (.cells #[.int .i64 a1,.int .i64 b1] 23)).alloc (.cells #[.int .i64 a2,.int .i64 b2] 23)).alloc (.cells #[.int .i64 0,.int .i64 0] 23):=⟨_,rfl⟩
 have hP1:P2 X w.heap.size (.int .i64 a1) (.int .i64 b1):=by
  rw[hX]
  exact((P2.new w _ _ _).alloc _ _).alloc _ _
 have hP2:P2 X (w.heap.size+1) (.int .i64 a2) (.int .i64 b2):=by
  rw[hX]
  have:=(P2.new (w.alloc (.cells #[.int .i64 a1,.int .i64 b1] 23)) (.int .i64 a2) (.int .i64 b2) 23).alloc #[.int .i64 0,.int .i64 0] 23
  simpa using this
 have hQ:P2 X (w.heap.size+1+1) (.int .i64 0) (.int .i64 0):=by
  rw[hX]
  have:=P2.new ((w.alloc (.cells #[.int .i64 a1,.int .i64 b1] 23)).alloc (.cells #[.int .i64 a2,.int .i64 b2] 23)) (.int .i64 0) (.int .i64 0) 23
  simpa using this
 have hK:Kept w X:=by
  rw[hX]
  exact(((qo0 w).alloc _ _).alloc _ _).alloc _ _
 obtain⟨H1,hH1⟩:∃H,H=w.heap.size+1:=⟨_,rfl⟩
 obtain⟨H2,hH2⟩:∃H,H=H1+1:=⟨_,rfl⟩
 rw[←hH1]at hP2 hQ
 rw[←hH2]at hQ
 have o2:w.heap.size≤H2:=by omega
 have hSF:=jx
 go_enter Tryz.func17,Tryz.ntmps17
 go_upto_region 1 with fail
 rw[←hX,←hH1,←hH2]
 clear hX hH1 hH2
 obtain⟨p10,p11,p1f⟩:=hP1
 obtain⟨p20,p21,p2f⟩:=hP2
 go_upto_region 2 with (first|(go_at_call 45;refine(KB.out _).mono ?_;rintro e w1 ⟨rfl,k1⟩))
 have hQ1:=hQ.kept k1
 have kw1:=hK.trans k1
 clear p10 p11 p1f p20 p21 p2f KB hK hQ k1
 obtain⟨Y,hY⟩:∃Y,Y=(w1.alloc (.cells #[.float .f64 x1,.float .f64 y1] 68)).alloc (.cells #[.float .f64 x2,.float .f64 y2] 68):=⟨_,rfl⟩
 have hC1:P2 Y w1.heap.size (.float .f64 x1) (.float .f64 y1):=by
  rw[hY]
  exact(P2.new w1 _ _ _).alloc _ _
 have hC2:P2 Y (w1.heap.size+1) (.float .f64 x2) (.float .f64 y2):=by
  rw[hY]
  have:=P2.new (w1.alloc (.cells #[.float .f64 x1,.float .f64 y1] 68)) (.float .f64 x2) (.float .f64 y2) 68
  simpa using this
 have kY:Kept w1 Y:=by
  rw[hY]
  exact((qo0 w1).alloc _ _).alloc _ _
 have hQY:=hQ1.kept kY
 have kwY:=kw1.trans kY
 rw[←hY]
 clear hY kw1 kY hQ1
 obtain⟨b0,b1',bf⟩:=hC1
 obtain⟨c0,c1,cf⟩:=hC2
 go_wp2_with (first|(go_at_call 58;refine(KJ.out _ _ _ rfl (qo0 _)).mono ?_;rintro e w2 ⟨x,y,rfl,hJ,k2⟩)|(go_at_call 46;refine(KT.out _ _ _ hJ).mono ?_;rintro e w3 ⟨rfl,k3⟩;have k4:=((qo0 Y).alloc _ _).trans (k2.trans k3);have hz:=(hQY.kept k4).put (.int .i64 p1) (.int .i64 p2);obtain⟨d0,d1,df⟩:=hQY.kept k4;obtain⟨e0,e1,ef⟩:=hz))
 refine qoz (v:=.tuple #[sp2 p1 p2,.int .i64 q]) ?_ rfl ⟨rfl,?_⟩
 ·simp[results,Tryz.results17,go_sem, *]
 ·(repeat' first|exact kwY.trans k4|refine Kept.setCell ?_ ?_ _|exact o2)
theorem XQ (a1 b1 a2 b2 n:Int)(s1:RB a1)(s2:RB b1)(s3:RB a2)(s4:RB b2)(w:World):Calls Tryz.prog 17 #[sp2 a1 b1,sp2 a2 b2,.int .i64 n] w fun e w'=>e=.returned (if btE a1 b1 a2 b2 n=0 then .tuple #[sp2 (pz n (min (qc a1 n) (qc a2 n))) (pz n (max (qc b1 n) (qc b2 n))),.int .i64 0]else .tuple #[zsp,.int .i64 (btE a1 b1 a2 b2 n)])∧Kept w w':=by
 obtain⟨x1,y1,x2,y2,q,hB,KB⟩:=zS a1 b1 a2 b2 n s1 s2 s3 s4
 obtain⟨m,k1,j1,k2,j2,f1,f2,f3,f4,hE⟩:=hB.fl
 have KJ:Hid (∀(u v:World) (B:Nat),B=v.heap.size→Kept (v.alloc (.cells #[.float .f64 x2,.float .f64 y2] 68)) u→Calls Tryz.prog 58 #[fv2 x1 y1,.slice (some ⟨B,0,none⟩) 1 1] u fun e w'=>∃x y,e=.returned (fv2 x y)∧(Fl m x (min k1 k2)∧Fl m y (max j1 j2))∧Kept u w'):=fun u v B hB k=>by
  subst hB
  refine(xG m x1 y1 k1 j1 f1 f2 1 (by decide) (fun _=>x2) (fun _=>y2) (fun _=>k2) (fun _=>j2) (fun _ _=>⟨f3,f4⟩) _ _ u (qdf k)).mono ?_
  rintro e w' ⟨x,y,rfl,h1,h2,k'⟩
  exact⟨x,y,rfl,⟨h1,h2⟩,k'⟩
 have he:=hB.err
 by_cases hq:q=0
 ·subst hq
  obtain⟨rfl,rfl,rfl,rfl,rfl⟩:=hE rfl
  rw[←he,if_pos rfl]
  exact XP a1 b1 a2 b2 _ x1 y1 x2 y2 0 _ _ _ w KB KJ (fun u x y h=>vC h.1 h.2 u)
 ·rw[←he,if_neg hq]
  exact XP a1 b1 a2 b2 _ x1 y1 x2 y2 q 0 0 _ w KB KJ (fun u x y h=>yQ x y n q (by simpa using hq) u)
end Go.Proofs.YtaglkncdedeipaaGreatDoor
namespace Go.Proofs.YtaglkncdedeipaaGreatDoor
open Go.ChangeShapes Go.WideShapes Go.ChangeAt Go.RowKit
set_option linter.unusedVariables false
set_option linter.unusedSimpArgs false
set_option maxHeartbeats 16000000
set_option maxRecDepth 100000
def C0:List Int:=List.replicate 141 0
theorem Grw.drew {g:Nat}{a c:World}(h:Grw g a c):Grw g a c.drew:=by
 have k:Kept c c.drew:=(qo0 c).drew
 exact⟨⟨k.below.os.trans h.grown.os,k.below.tape.trans h.grown.tape,k.below.output.trans h.grown.output,qou h.grown.size k.below.size,fun i hi hn=>(k.below.block i (qok hi h.grown.size)).trans (h.grown.block i hi hn)⟩,fun x=>(k.frozen x).trans (h.frozen x)⟩
def ws (M0 M1 M2:Int):Nat→Int
 |0=>0
 |1=>M0
 |2=>M0+M1*1073741824
 |_=>M0+M1*1073741824+M2*1152921504606846976
def mv (M0 M1 M2:Int):Nat→Int
 |0=>M0
 |1=>M1
 |_=>M2
def dv (d0 d1:Int):Nat→Int
 |0=>d0
 |_=>d1
structure Ly (C C':List Int) (f st:Nat) (V:Int):Prop where
 len:C'.length=141
 val:cv C'=cv C+V*2^(30*f)
 near:∀k,-((st:Int)*2147483648)≤C'.getD k 0-C.getD k 0∧C'.getD k 0-C.getD k 0≤(st:Int)*2147483648
 out:∀k,(k<f∨f+5≤k)→C'.getD k 0=C.getD k 0
theorem qfy {w:World}{p:Nat}{o:Obj}(h:w.heap[p]?=some o):p<w.heap.size:=by
 apply Decidable.byContradiction
 intro g
 rw[Array.getElem?_eq_none (by omega)]at h
 cases h
theorem Ly.step {C C':List Int}{f st:Nat}{V:Int}(h:Ly C C' f st V)(r:Nat)(hr:r+1<5)(hf:f+5≤141)(P:Int)(hP:-1152921504606846976≤P∧P<1152921504606846976):Ly C ((C'.set (f+r) (C'.getD (f+r) 0+P%1073741824)).set (f+r+1) ((C'.set (f+r) (C'.getD (f+r) 0+P%1073741824)).getD (f+r+1) 0+P/1073741824)) f (st+1) (V+P*2^(30*r)):=by
 have hl:=h.len
 refine⟨by simp[hl],?_,fun k=>?_,fun k hk=>?_⟩
 ·rw[ZL _ _ (by simp;omega),ZL _ _ (by omega),h.val,Int.add_mul,Int.mul_assoc P,←Int.pow_add,show 30*r+30*f=30*(f+r) by omega,QB (f+r)]
  have e:P%1073741824+1073741824*(P/1073741824)=P:=by omega
  generalize (2:Int)^(30*(f+r))=Z at *
  have:P*Z=(P%1073741824)*Z+P/1073741824*(1073741824*Z):=by
   rw[←Int.mul_assoc,←Int.add_mul,Int.mul_comm (P/1073741824),e]
  omega
 ·have h1:=h.near k
  rw[qL _ _ _ _ (by simp;omega),qL _ _ _ _ (by omega),qL _ _ _ _ (by omega)]
  have e1:=h.near (f+r)
  have e2:=h.near (f+r+1)
  by_cases k1:f+r+1=k
  ·rw[if_pos k1,if_neg (by omega)]
   subst k1
   push_cast
   omega
  ·rw[if_neg k1]
   by_cases k2:f+r=k
   ·rw[if_pos k2]
    subst k2
    push_cast
    omega
   ·rw[if_neg k2]
    push_cast
    omega
 ·rw[qL _ _ _ _ (by simp;omega),if_neg (by omega),qL _ _ _ _ (by omega),if_neg (by omega)]
  exact h.out k hk
theorem v8 (z:Int):bits .and .i64 (wrap64 z) 1073741823=z%1073741824:=by
 rw[xW]
 unfold wrap64
 omega
theorem J7 (a:Int)(s t:Nat)(h:s≤t):a/2^(t-s)=a*2^s/2^t:=by
 have e:(2:Int)^t=2^(t-s)*2^s:=by rw[←Int.pow_add];congr 1;omega
 rw[e,Int.mul_ediv_mul_of_pos_left _ _ (Int.pow_pos (by decide))]
theorem qdy (a:Int)(s:Nat)(hs:s<30)(M0 M1 M2:Int)(h0:bits .and .i64 (wrap64 (a*2^s)) 1073741823=M0)(h1:bits .and .i64 (a/2^(30-s)) 1073741823=M1)(h2:a/2^(60-s)=M2):ws M0 M1 M2 3=a*2^s:=by
 rw[v8]at h0
 rw[xW,J7 a s 30 (by omega)]at h1
 rw[J7 a s 60 (by omega)]at h2
 generalize a*2^s=Z at *
 show M0+M1*1073741824+M2*1152921504606846976=Z
 rw[show(2:Int)^30=1073741824 from rfl]at h1
 rw[show(2:Int)^60=1152921504606846976 from rfl]at h2
 omega
theorem Yc (a:Int)(ha:0<a∧a<9007199254740992)(s:Nat)(hs:s<30)(M0 M1 M2:Int)(h0:bits .and .i64 (wrap64 (a*2^s)) 1073741823=M0)(h1:bits .and .i64 (a/2^(30-s)) 1073741823=M1)(h2:a/2^(60-s)=M2):∀i,0≤mv M0 M1 M2 i∧mv M0 M1 M2 i<1073741824:=by
 rw[v8]at h0
 rw[xW]at h1
 have e:(2:Int)^(60-s)=2^(29-s)*2147483648:=by
  rw[show(2147483648:Int)=2^31 from rfl,←Int.pow_add];congr 1;omega
 have hp:(0:Int)<2^(29-s):=Int.pow_pos (by decide)
 have h3:a/2^(60-s)≤a/2147483648:=by
  rw[e,Int.mul_comm,←Int.ediv_ediv_of_nonneg (by decide)]
  exact Int.ediv_le_self _ (Int.ediv_nonneg (by omega) (by decide))
 have h4:0≤a/2^(60-s):=Int.ediv_nonneg (by omega) (by rw[e];omega)
 intro i
 match i with
 |0=>show 0≤M0∧M0<1073741824;omega
 |1=>show 0≤M1∧M1<1073741824;omega
 |i+2=>show 0≤M2∧M2<1073741824;omega
theorem Own.setCells {g cap:Nat}:∀(vs A B:List Int) (w:World),Own w g cap (A++B)→vs.length≤B.length→Own (w.setCells g A.length (vs.map (Value.int .i64))) g cap (A++vs++B.drop vs.length)
 |[],A,B,w,h,_=>by simpa [World.setCells] using h
 |v::r,A,[],w,h,hl=>by simp at hl
 |v::r,A,b::B,w,h,hl=>by
  have h1:=h.set A.length v
  have e:(A++b::B).set A.length v=(A++[v])++B:=by simp
  rw[e]at h1
  have:=Own.setCells r (A++[v]) B _ h1 (by simpa using hl)
  simpa [World.setCells] using this
theorem qcj:∀(C:List Int),(∀j,-9223372036854775807≤C.getD j 0∧C.getD j 0≤9223372036854775807)→-(2:Int)^34*((2:Int)^(30*C.length)-1)≤cv C∧cv C≤(2:Int)^34*((2:Int)^(30*C.length)-1)
 |[],_=>by simp[cv]
 |c::r,h=>by
  have h0:=h 0
  have ih:=qcj r (fun j=>by simpa using h (j+1))
  simp only[List.getD_cons_zero]at h0
  rw[List.length_cons,Nat.mul_add,Int.pow_add,cv]
  obtain⟨P,hP⟩:∃P,P=(2:Int)^(30*r.length):=⟨_,rfl⟩
  rw[←hP]at ih ⊢
  generalize cv r=s at *
  omega
theorem ZF:∀C:List Int,cv (C++[0,0])=cv C
 |[]=>by simp[cv]
 |c::r=>by rw[List.cons_append,cv,cv,ZF r]
theorem qfz (w:World)(hT:Tab w)(q1 q2 b o cap:Nat)(h1:q1<w.heap.size)(h2:q2<w.heap.size)(hb:b<w.heap.size)(C:List Int)(hl:C.length≤141)(hC:∀j,-9223372036854775807≤C.getD j 0∧C.getD j 0≤9223372036854775807)(x:Int)(c1:w.cell? ⟨q1,0,none⟩=some (.slice (some ⟨b,o,none⟩) C.length cap))(c2:w.cell? ⟨q2,0,none⟩=some (.int .i64 x))(hr:∀j,j<C.length→w.cell? ⟨b,o+j,none⟩=some (.int .i64 (C.getD j 0)))(r:Nm)(hRes:frm (decide (cv C<0)) (cv C).natAbs x=some r):
  Calls Tryz.prog 134 #[.pointer (some ⟨q1,0,none⟩),.pointer (some ⟨q2,0,none⟩)] w fun e w'=>(∃v,e=.returned v∧New w w' v r)∧Kept w w':=by
 have hK:Kept w (qP w):=(qo0 w).alloc _ _
 have q:IntKind.i64.wrap ((C.length:Int)+2)=(C.length:Int)+2:=by rw[qg];omega
 have hmk:∀u,(Instr.makeSlice 29 (.int .i64 ((C.length:Int)+2)) (.int .i64 ((C.length:Int)+2))).run Tryz.prog u=.ok (.slice (some ⟨u.heap.size,0,none⟩) (C.length+2) (C.length+2)) (u.alloc (.cells (madeCells #[.int .i64 0] (C.length+2)) 3)):=vt (C.length+2) (by omega)
 have e1:=(hK.below.cell (p:=⟨q1,0,none⟩) h1).trans c1
 have e2:=(hK.below.cell (p:=⟨q2,0,none⟩) h2).trans c2
 have hO:=vu (C.length+2) (by omega) (qP w)
 have hK2:Kept (qP w) ((qP w).alloc (.cells (madeCells #[.int .i64 0] (C.length+2)) 3)):=(qo0 _).alloc _ _
 have hK3:Kept (qP w) (((qP w).alloc (.cells (madeCells #[.int .i64 0] (C.length+2)) 3)).setCells (w.heap.size+1) 0 (C.map (Value.int .i64))):=
  hK2.grw (g:=w.heap.size+1) (by simp) (Grw.setCells _ ((qo0 _).toGrw _) 0)
 have hO2:Own (((qP w).alloc (.cells (madeCells #[.int .i64 0] (C.length+2)) 3)).setCells (w.heap.size+1) 0 (C.map (Value.int .i64))) (w.heap.size+1) (C.length+2) (C++[0,0]):=by
  have:=Own.setCells C [] (List.replicate (C.length+2) 0) _ (by simpa using hO) (by simp)
  have e:(List.replicate (C.length+2) (0:Int)).drop C.length=[0,0]:=by rw[List.drop_replicate,Nat.add_sub_cancel_left];rfl
  rw[e]at this
  simpa using this
 have hcp:(Builtin.copy_ #[29,29] 3 #[.slice (some ⟨w.heap.size+1,0,none⟩) (C.length+2) (C.length+2),.slice (some ⟨b,o,none⟩) C.length cap]).run Tryz.prog ((qP w).alloc (.cells (madeCells #[.int .i64 0] (C.length+2)) 3))=.ok (goInt C.length) (((qP w).alloc (.cells (madeCells #[.int .i64 0] (C.length+2)) 3)).setCells (w.heap.size+1) 0 (C.map (Value.int .i64))):=by
  have:=run_copy_cells (P:=Tryz.prog) ((qP w).alloc (.cells (madeCells #[.int .i64 0] (C.length+2)) 3)) 29 29 3 3 (w.heap.size+1) 0 (C.length+2) (C.length+2) ⟨b,o,none⟩ C.length cap (C.map (Value.int .i64)) ZU (by kernel_rfl) (by simp) (fun j v hv=>?_) (fun j hj=>?_) (fun j hj=>?_) (by simp[Value.oneCell'])
  ·simpa using this
  ·rw[List.getElem?_map]at hv
   obtain⟨c,hc,rfl⟩:=Option.map_eq_some_iff.mp hv
   have hj:j<C.length:=by
    rcases Nat.lt_or_ge j C.length with h|h
    ·exact h
    ·rw[List.getElem?_eq_none h]at hc;exact absurd hc (by simp)
   have:=(hK.trans hK2).below.cell (p:=⟨b,o+j,none⟩) hb
   have ea:(⟨b,o,none⟩:Addr).add j=⟨b,o+j,none⟩:=by simp[Addr.add]
   rw[ea]
   refine(this.trans (hr j hj)).trans ?_
   rw[qon,hc];rfl
  ·have:=hO.cell j (by simp at hj ⊢;omega)
   simp only[Nat.zero_add]
   have e:(qP w).heap.size=w.heap.size+1:=by simp
   rw[e]at this
   rw[this];rfl
  ·have e:(qP w).heap.size=w.heap.size+1:=by simp
   rw[e]at hO
   exact hO.free _
 have KS:Hid (Calls Tryz.prog 135 #[.slice (some ⟨w.heap.size+1,0,none⟩) (C.length+2) (C.length+2),.int .i64 x] (((qP w).alloc (.cells (madeCells #[.int .i64 0] (C.length+2)) 3)).setCells (w.heap.size+1) 0 (C.map (Value.int .i64))) fun e w'=>ZN (some r) (qP w) w' e∧Kept (qP w) w'):=by
  have hn:=qcj C hC
  have e:cv (C++[0,0])=cv C:=ZF C
  have hP:(2:Int)^(30*(C.length+2))=(2:Int)^(30*C.length)*2^60:=by rw[Nat.mul_add,Int.pow_add]
  have hp:0<(2:Int)^(30*C.length):=Int.pow_pos (by decide)
  refine Yv _ (C.length+2) (C.length+2) (w.heap.size+1) x (C++[0,0]) (by simp) (by omega) (fun j=>?_) (cv C) e (by rw[hP];omega) (by rw[hP];omega) (qP w) (hT.kept hK) hK3 (by simp) hO2 (some r) hRes
  rw[qon,List.getElem?_append]
  split
  ·have:=hC j
   rwa [qon]at this
  ·generalize j-C.length=i
   rcases i with _|_|i<;>simp
 clear c1 c2 hO hO2 hr
 have hs:=hK3.below.size
 go_enter Tryz.func134,Tryz.ntmps134
 have ez:=(hK3.below.cell (p:=⟨q2,0,none⟩) (by simp;omega)).trans e2
 obtain⟨X,hX⟩:∃X,X=(((qP w).alloc (.cells (madeCells #[.int .i64 0] (C.length+2)) 3)).setCells (w.heap.size+1) 0 (C.map (Value.int .i64))):=⟨_,rfl⟩
 rw[←hX]at hcp KS hK3 ez hs
 clear hX
 go_wp2_with (first|(go_at_call 135;refine KS.out.mono ?_;rintro e w1 ⟨⟨v,rfl,hN⟩,hk1⟩;obtain⟨vn,va,vl,vc,vx,rfl⟩:=hN.shape;obtain⟨f0,f1,f2,f3⟩:=j9 hk1))
 have:=ZV hN hk1 (.bool vn) (.slice va vl vc) (.int .i64 vx)
 exact qoz (v:=.agg #[.bool vn,.slice va vl vc,.int .i64 vx]) (by simp[results,Tryz.results134,go_sem,f0,f1,f2]) rfl ⟨⟨_,rfl,this.1⟩,this.2⟩
abbrev qf0 (w:World)(sv:Value)(x:Int):World:=((w.alloc (.cells #[sv] 29)).alloc (.cells #[.int .i64 x] 3)).alloc jh
theorem qdz (w:World)(sv:Value)(x:Int):Kept w (qf0 w sv x):=(((qo0 w).alloc _ _).alloc _ _).alloc _ _
theorem ZG (w:World)(hT:Tab w)(b o cap:Nat)(hb:b<w.heap.size)(C:List Int)(hl:C.length≤141)(hC:∀j,-9223372036854775807≤C.getD j 0∧C.getD j 0≤9223372036854775807)(x:Int)(hr:∀j,j<C.length→w.cell? ⟨b,o+j,none⟩=some (.int .i64 (C.getD j 0)))(r:Nm)(hRes:frm (decide (cv C<0)) (cv C).natAbs x=some r):
  Calls Tryz.prog 106 #[.slice (some ⟨b,o,none⟩) C.length cap,.int .i64 x] w fun e w'=>∃v,e=.returned (.tuple #[v,.int .i64 0])∧New w w' v r∧Kept w w':=by
 have hW:=qdz w (.slice (some ⟨b,o,none⟩) C.length cap) x
 have KT:Hid (Calls Tryz.prog 108 #[.func (.func 134) #[] #[.pointer (some ⟨w.heap.size,0,none⟩),.pointer (some ⟨w.heap.size+1,0,none⟩)],.slice none 0 0] (qf0 w (.slice (some ⟨b,o,none⟩) C.length cap) x) fun e w'=>∃v,e=.returned (.tuple #[v,.int .i64 0])∧New (qf0 w (.slice (some ⟨b,o,none⟩) C.length cap) x) w' v r∧Kept (qf0 w (.slice (some ⟨b,o,none⟩) C.length cap) x) w'):=by
  refine qcr 134 _ (fun w=>kS Tryz.func134 (by kernel_rfl) (by kernel_rfl) _ w) _ r _ (fun u k=>qa5 u) (fun u k=>?_)
  have hs:=k.below.size
  simp only[qf0,World.size_alloc]at hs
  exact qfz u ((hT.kept hW).kept k) _ _ b o cap (by omega) (by omega) (by omega) C hl hC x ((k.below.cell (p:=⟨w.heap.size,0,none⟩) (by simp<;>omega)).trans (by simp[go_sem])) ((k.below.cell (p:=⟨w.heap.size+1,0,none⟩) (by simp<;>omega)).trans (by simp[go_sem])) (fun j hj=>((hW.trans k).below.cell (p:=⟨b,o+j,none⟩) hb).trans (hr j hj)) r hRes
 have hmf:∀(fn:Fn) (first cap:Array Value) (w:World),(Instr.makeFunc fn first cap).run Tryz.prog w=.ok (.func fn first cap) w:=fun _ _ _ _=>rfl
 clear hr hT hRes hC hl
 generalize C.length=n at *
 go_enter Tryz.func106,Tryz.ntmps106
 go_wp2_with (first|(go_at_call 108;refine KT.out.mono ?_;rintro e w1 ⟨v,rfl,hN,hk1⟩;obtain⟨vn,va,vl,vc,vx,rfl⟩:=hN.shape;obtain⟨f0,f1,f2,f3⟩:=zH (w.heap.size+2) (by simp) hk1 (by simp[go_sem]) (by simp[go_sem]) (by simp[go_sem]) (fun o=>by simp[go_sem])))
 have:=kT (w.heap.size+2) (by omega) (by simp) hW hN hk1 (.bool vn) (.slice va vl vc) (.int .i64 vx)
 refine qoz (v:=.tuple #[.agg #[.bool vn,.slice va vl vc,.int .i64 vx],.int .i64 0]) (by simp[results,Tryz.results106,go_sem,f0,f1,f2]) rfl ⟨_,rfl,this.1,this.2⟩
end Go.Proofs.YtaglkncdedeipaaGreatDoor
