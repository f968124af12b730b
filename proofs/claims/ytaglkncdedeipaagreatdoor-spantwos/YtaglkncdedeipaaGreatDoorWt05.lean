/-  -/
import Derived.Test.YtaglkncdedeipaaGreatDoorWt03
import Derived.Test.YtaglkncdedeipaaGreatDoorWt04
namespace Go.Proofs.YtaglkncdedeipaaGreatDoor
open Go.ChangeShapes Go.WideShapes Go.ChangeAt Go.RowKit
set_option linter.unusedVariables false
set_option linter.unusedSimpArgs false
set_option maxHeartbeats 16000000
set_option maxRecDepth 100000
theorem kS {P:Program}{f:FuncId}{fn:Func}(hf:P.funcs[f]?=some fn)(h1:(fn.name=="runtime.NumGoroutine")=false)(h2:fn.body.isNone=false)(caps:Array Value)(w:World):(callFunc f caps).run P w=.ok (.enter f caps) w:=by
 have h3:¬fn.name="runtime.NumGoroutine":=by simpa using h1
 have h4:¬fn.body=none:=by intro h;rw[h]at h2;cases h2
 simp[callFunc,hf,go_sem,h3,h4]
theorem zH {W w1:World}(H:Nat)(hH:H<W.heap.size)(h:Kept W w1)(c0:W.cell? ⟨H,0,none⟩=some (.bool false))(c1:W.cell? ⟨H,1,none⟩=some (.slice none 0 0))(c2:W.cell? ⟨H,2,none⟩=some (.int .i64 0))(f:∀o,W.frozen? ⟨H,o,none⟩=false):w1.cell? ⟨H,0,none⟩=some (.bool false)∧w1.cell? ⟨H,1,none⟩=some (.slice none 0 0)∧w1.cell? ⟨H,2,none⟩=some (.int .i64 0)∧(∀o,w1.frozen? ⟨H,o,none⟩=false):=
 ⟨(h.below.cell (p:=⟨H,0,none⟩) hH).trans c0,(h.below.cell (p:=⟨H,1,none⟩) hH).trans c1,(h.below.cell (p:=⟨H,2,none⟩) hH).trans c2,fun o=>(h.frozen _).trans (f o)⟩
theorem kT {w W u2:World}{v:Value}{r:Nm}(H:Nat)(hw:w.heap.size≤H)(hH:H<W.heap.size)(h0:Kept w W)(hN:New W u2 v r)(hk:Kept W u2)(a b c:Value):New w (((u2.setCell ⟨H,0,none⟩ a).setCell ⟨H,1,none⟩ b).setCell ⟨H,2,none⟩ c) v r∧Kept w (((u2.setCell ⟨H,0,none⟩ a).setCell ⟨H,1,none⟩ b).setCell ⟨H,2,none⟩ c):=by
 constructor
 ·rcases hN with h|⟨g,cap,e,hg,ho,hne⟩
  ·exact .inl h
  ·exact .inr ⟨g,cap,e,by omega,((ho.setOther (by simp;omega) _).setOther (by simp;omega) _).setOther (by simp;omega) _,hne⟩
 ·exact(h0.trans hk).setCell (by simpa using hw) _|>.setCell (by simpa using hw) _|>.setCell (by simpa using hw) _
abbrev jh:Obj:=.cells #[.bool false,.slice none 0 0,.int .i64 0] 31
theorem Qa (d:Int):bits .and .i64 d 1=d%2:=by
 have e:(BitVec.ofInt 64 1:BitVec 64).toNat=2^1-1:=by decide
 have h:=qD d
 rw[ji,BitVec.toNat_and,e,Nat.and_two_pow_sub_one_eq_mod,qg]
 omega
theorem qT (neg:Bool)(L:List Int)(x:Int)(hne:L≠[])(h:vld ⟨neg,L,x⟩=true):L.length≤2000∧Dg L∧L.getD (L.length-1) 0≠0∧L.getD 0 0%2=1∧-1048576≤x∧x≤1048576:=by
 unfold vld ZR at h
 simp only[hne,if_false,Bool.and_eq_true,qor,bne_iff_ne,beq_iff_eq,Qa]at h
 obtain⟨⟨⟨⟨⟨h1,h2⟩,h3⟩,h4⟩,h5⟩,h6⟩:=h
 exact⟨by omega,(yN L).1 h2,h3,h4,h5,h6⟩
theorem jH (neg:Bool)(x:Int)(h:vld ⟨neg,[],x⟩=true):neg=false∧x=0:=by
 simpa [vld] using h
theorem ya (neg:Bool)(L:List Int)(x:Int)(h:vld ⟨neg,L,x⟩=true):L.length≤2000∧Dg L:=by
 by_cases hne:L=[]
 ·subst hne;exact⟨by simp,Dg.nil⟩
 ·have:=qT neg L x hne h
  exact⟨this.1,this.2.1⟩
theorem kz (L:List Int)(hL:Dg L)(h:L.getD 0 0%2=1):nv L%2=1:=by
 have h1:=zZ L hL 0
 have h2:=hL.getD 0
 rw[Nat.mul_zero,Nat.pow_zero,Nat.div_one]at h1
 omega
theorem qcl (neg b:Bool)(L:List Int)(x y:Int)(hne:L≠[])(h:vld ⟨neg,L,x⟩=true):frm b (nv L) y=if -1048576≤wrap64 y∧wrap64 y≤1048576 then some ⟨b,L,wrap64 y⟩else none:=by
 obtain⟨h1,h2,h3,h4,h5,h6⟩:=qT neg L x hne h
 have ho:=kz L h2 h4
 have hz:=Qg _ ho
 have hb:=zg _ _ (zJ L h2)
 have hd:=Zj L h2 (.inr h3)
 unfold frm
 rw[if_neg (by omega),hz]
 simp only[Nat.pow_zero,Nat.div_one,hd,Int.natCast_zero,Int.add_zero,Nat.sub_zero]
 by_cases hy:-1048576≤wrap64 y∧wrap64 y≤1048576
 ·rw[if_pos hy,if_pos ⟨by omega,hy⟩]
 ·rw[if_neg hy,if_neg (fun hh=>hy hh.2)]
theorem QS {W:World}(b:Nat)(hb:b<W.heap.size)(neg:Bool)(L:List Int)(hR:Rg L)(hlen:L.length<100000000)(ao:Option Addr)(cap:Nat)(x:Int)(h:Sl W (.slice ao L.length cap) L)(c0:W.cell? ⟨b,0,none⟩=some (.bool neg))(c1:W.cell? ⟨b,1,none⟩=some (.slice ao L.length cap))(c2:W.cell? ⟨b,2,none⟩=some (.int .i64 x))(g:Bool)(hg:vld ⟨neg,L,x⟩=g):
  Hid (∀w',Kept W w'→Calls Tryz.prog 137 #[.slice (some ⟨b,0,none⟩) 1 1] w' fun e w''=>e=.returned (.bool g)∧Kept w' w''):=fun w' k=>by
 subst hg
 refine qa6 w' b 1 neg ao L.length cap x _ (qok hb k.below.size) ((k.below.cell (p:=⟨b,0,none⟩) hb).trans c0) ((k.below.cell (p:=⟨b,1,none⟩) hb).trans c1) ((k.below.cell (p:=⟨b,2,none⟩) hb).trans c2) (fun u ku=>?_)
 exact jc ⟨neg,L,x⟩ hR hlen _ u ⟨_,rfl,(h.kept k).kept ku⟩
def hd (v:Nat):Nat:=v*2^60/2^bl v
theorem yO (v:Nat)(hv:v≠0):2^59≤hd v∧hd v<2^60:=by
 obtain⟨h1,h2,h3⟩:=qO v hv
 unfold hd
 obtain⟨k,hk⟩:∃k,bl v=k+1:=⟨bl v-1,by omega⟩
 rw[hk,Nat.add_sub_cancel]at h1
 rw[hk]at h2 ⊢
 have hp:=qoj k
 constructor
 ·rw[Nat.le_div_iff_mul_le (qoj _)]
  have:2^59*2^(k+1)=2^k*2^60:=by rw[←qol,←qol];congr 1;omega
  rw[this]
  exact Nat.mul_le_mul_right _ h1
 ·rw[Nat.div_lt_iff_lt_mul (qoj _),qoq (2^60)]
  exact Nat.mul_lt_mul_of_pos_right h2 (qoj _)
theorem Xs (v:Nat)(p:Int)(hp:-60≤p):pcz v p=((v*2^60/2^(60+p).toNat%1073741824:Nat):Int):=by
 unfold pcz
 split
 ·obtain⟨q,rfl⟩:∃q:Nat,p=q:=⟨p.toNat,by omega⟩
  rw[Int.toNat_natCast,show(60+(q:Int)).toNat=q+60 by omega,qol,Nat.mul_div_mul_right _ _ (qoj _)]
 ·obtain⟨q,hq⟩:∃q:Nat,(60+p).toNat=q:=⟨_,rfl⟩
  obtain⟨j,hj⟩:∃j:Nat,(-p).toNat=j:=⟨_,rfl⟩
  rw[hq,hj]
  have:(2:Nat)^60=2^j*2^q:=by rw[←qol];congr 1;omega
  rw[this,←qop,Nat.mul_div_cancel _ (qoj _)]
theorem qj1 (v:Nat)(hv:v≠0):pcz v ((bl v:Int)-60)=((hd v%1073741824:Nat):Int):=by
 have:=(qO v hv).2.2
 rw[Xs v _ (by omega),show(60+((bl v:Int)-60)).toNat=bl v by omega]
 rfl
theorem qhl (v:Nat)(hv:v≠0):pcz v ((bl v:Int)-60+30)=((hd v/1073741824:Nat):Int):=by
 have:=(qO v hv).2.2
 rw[Xs v _ (by omega),show(60+((bl v:Int)-60+30)).toNat=bl v+30 by omega,qol,←Nat.div_div_eq_div_mul]
 have hb:=(yO v hv).2
 unfold hd at hb ⊢
 rw[Nat.mod_eq_of_lt]
 rw[Nat.div_lt_iff_lt_mul (by decide)]
 exact hb
theorem qj2 (a b:Int):bits .or .i64 a b=bits .or .i64 b a:=by
 unfold bits
 simp[BitVec.or_comm]
theorem qj3 (v:Nat)(hv:v≠0):bits .or .i64 (((hd v/1073741824:Nat):Int)*1073741824) ((hd v%1073741824:Nat):Int)=((hd v:Nat):Int):=by
 have hb:=(yO v hv).2
 rw[qj2,show(((hd v/1073741824:Nat):Int)*1073741824)=((hd v/1073741824*2^30:Nat):Int) by rw[show(2:Nat)^30=1073741824 by rfl];omega,qbc (hd v%1073741824) (hd v/1073741824) 30 (Nat.mod_lt _ (by decide)) (by rw[show(2:Nat)^30=1073741824 by rfl];omega)]
 congr 1
 rw[show(2:Nat)^30=1073741824 by rfl]
 omega
theorem YQ (ng:Bool)(ao:Option Addr)(n c:Nat)(hn:0<n)(x:Int)(hx1:-1048576≤x)(hx2:x≤1048576)(B:Nat)(hB:B≤60000)(p1 p0 q1 h:Int)(rs:Bool)(hq:IntKind.i64.wrap (p1*1073741824)=q1)(hor:bits .or .i64 q1 p0=h)(hrs:decide (60<(B:Int))=rs)(w:World)
  (KL:Hid (∀u,Kept w u→Calls Tryz.prog 140 #[.slice ao n c] u fun e w'=>e=.returned (.int .i64 (B:Int))∧u=w'))
  (K1:Hid (∀u,Kept w u→Calls Tryz.prog 149 #[.slice ao n c,.int .i64 ((B:Int)-60+30)] u fun e w'=>e=.returned (.int .i64 p1)∧Kept u w'))
  (K0:Hid (∀u,Kept w u→Calls Tryz.prog 149 #[.slice ao n c,.int .i64 ((B:Int)-60)] u fun e w'=>e=.returned (.int .i64 p0)∧Kept u w')):
  Calls Tryz.prog 114 #[.agg #[.bool ng,.slice ao n c,.int .i64 x]] w fun e w'=>e=.returned (.agg #[.bool ng,.int .i64 h,.int .i64 (x+((B:Int)-60)),.bool rs])∧Kept w w':=by
 have hK:Kept w ((w.alloc (.cells #[.bool ng,.slice ao n c,.int .i64 x] 31)).alloc (.cells #[.bool false,.int .i64 0,.int .i64 0,.bool false] 155)):=((qo0 w).alloc _ _).alloc _ _
 have HS:Hid (∀u,Kept ((w.alloc (.cells #[.bool ng,.slice ao n c,.int .i64 x] 31)).alloc (.cells #[.bool false,.int .i64 0,.int .i64 0,.bool false] 155)) u→(u.cell? ⟨w.heap.size,0,none⟩=some (.bool ng)∧u.cell? ⟨w.heap.size,1,none⟩=some (.slice ao n c)∧u.cell? ⟨w.heap.size,2,none⟩=some (.int .i64 x))∧u.cell? ⟨w.heap.size+1,0,none⟩=some (.bool false)∧u.cell? ⟨w.heap.size+1,1,none⟩=some (.int .i64 0)∧u.cell? ⟨w.heap.size+1,2,none⟩=some (.int .i64 0)∧u.cell? ⟨w.heap.size+1,3,none⟩=some (.bool false)∧∀o,u.frozen? ⟨w.heap.size+1,o,none⟩=false):=fun u k=>⟨⟨(k.below.cell (p:=⟨w.heap.size,0,none⟩) (by simp;omega)).trans (by simp[go_sem]),(k.below.cell (p:=⟨w.heap.size,1,none⟩) (by simp;omega)).trans (by simp[go_sem]),(k.below.cell (p:=⟨w.heap.size,2,none⟩) (by simp;omega)).trans (by simp[go_sem])⟩,(k.below.cell (p:=⟨w.heap.size+1,0,none⟩) (by simp)).trans (by simp[go_sem]),(k.below.cell (p:=⟨w.heap.size+1,1,none⟩) (by simp)).trans (by simp[go_sem]),(k.below.cell (p:=⟨w.heap.size+1,2,none⟩) (by simp)).trans (by simp[go_sem]),(k.below.cell (p:=⟨w.heap.size+1,3,none⟩) (by simp)).trans (by simp[go_sem]),fun o=>(k.frozen _).trans (by simp[go_sem])⟩
 have kD:Kept ((w.alloc (.cells #[.bool ng,.slice ao n c,.int .i64 x] 31)).alloc (.cells #[.bool false,.int .i64 0,.int .i64 0,.bool false] 155)) (((w.alloc (.cells #[.bool ng,.slice ao n c,.int .i64 x] 31)).alloc (.cells #[.bool false,.int .i64 0,.int .i64 0,.bool false] 155))).drew:=(qo0 _).drew
 have z1:IntKind.i64.wrap ((B:Int)-60)=(B:Int)-60:=by rw[qg];omega
 have z2:IntKind.i64.wrap ((B:Int)-60+30)=(B:Int)-60+30:=by rw[qg];omega
 have z3:IntKind.i64.wrap (x+((B:Int)-60))=x+((B:Int)-60):=by rw[qg];omega
 have hn0:((n:Int)==0)=false:=by simp;omega
 go_enter Tryz.func114,Tryz.ntmps114
 go_wp2_with (first|(go_at_call 140;refine(KL.out _ hK).mono ?_;rintro e w1 ⟨rfl,rfl⟩))
 have e00:=(HS.out _ kD).1
 refine qo1 (S:=fun u=>u.cell? ⟨w.heap.size,0,none⟩=some (.bool ng)∧u.cell? ⟨w.heap.size,1,none⟩=some (.slice ao n c)∧u.cell? ⟨w.heap.size,2,none⟩=some (.int .i64 x)) (by kernel_rfl) e00 (fun hHeld=>?_)
 refine tk (i:=0) (v:=?_) rfl ?_
 try simp only[zz]
 refine tk (i:=1) (v:=?_) rfl ?_
 try simp only[zz]
 refine tk (i:=2) (v:=?_) rfl ?_
 try simp only[zz]
 refine tk (i:=3) (v:=?_) rfl ?_
 try simp only[zz]
 refine tk (i:=4) (v:=?_) rfl ?_
 try simp only[zz]
 refine tk (i:=5) (v:=?_) rfl ?_
 try simp only[zz]
 refine tk (i:=8) (v:=?_) rfl ?_
 try simp only[zz]
 refine tk (i:=9) (v:=?_) rfl ?_
 try simp only[zz]
 refine tk (i:=10) (v:=?_) rfl ?_
 try simp only[zz]
 refine tk (i:=13) (v:=?_) rfl ?_
 try simp only[zz]
 refine tk (i:=14) (v:=?_) rfl ?_
 try simp only[zz]
 refine tk (i:=15) (v:=?_) rfl ?_
 try simp only[zz]
 refine tk (i:=16) (v:=?_) rfl ?_
 try simp only[zz]
 refine tk (i:=17) (v:=?_) rfl ?_
 try simp only[zz]
 refine tk (i:=18) (v:=?_) rfl ?_
 try simp only[zz]
 refine qoy (rs:=[6]) (by kernel_rfl) (by simp) ?_
 refine qow rfl (fun K hK9=>?_) qox
 go_simp
 go_wp2_with fail
 refine(K1.out _ (hK.trans (kD))).mono ?_
 rintro e u1 ⟨rfl,k1⟩
 have eu1:=(HS.out _ ((kD).trans k1)).1
 refine hK9.out _ _ eu1 (fun hHeldu1=>?_)
 clear hK9 K
 refine tk (i:=7) (v:=?_) rfl ?_
 try simp only[zz]
 refine qoy (rs:=[11]) (by kernel_rfl) (by simp) ?_
 refine qow rfl (fun K hK9=>?_) qox
 go_simp
 go_wp2_with fail
 refine(K0.out _ (hK.trans (kD.trans k1))).mono ?_
 rintro e u2 ⟨rfl,k2⟩
 have eu2:=(HS.out _ ((kD.trans k1).trans k2)).1
 refine hK9.out _ _ eu2 (fun hHeldu2=>?_)
 clear hK9 K
 refine tk (i:=12) (v:=?_) rfl ?_
 try simp only[zz]
 refine tk (i:=19) (v:=?_) rfl ?_
 try simp only[zz]
 refine qoy (rs:=[20]) (by kernel_rfl) (by simp) ?_
 refine qow rfl (fun K hK9=>?_) qox
 obtain⟨e1,s0,s1,s2,s3,sf⟩:=HS.out _ ((kD.trans k1).trans k2)
 go_simp
 refine hK9.out _ _ ⟨(kE _ _ _ _ (by omega) _ _ _ _).trans e1.1,(kE _ _ _ _ (by omega) _ _ _ _).trans e1.2.1,(kE _ _ _ _ (by omega) _ _ _ _).trans e1.2.2⟩ (fun hHeld9=>?_)
 clear hK9 K
 refine qo2 (by kernel_rfl) ?_ _
 clear hHeld9
 go_wp2
 refine qoz (v:=.agg #[.bool ng,.int .i64 h,.int .i64 (x+((B:Int)-60)),.bool rs]) (by simp[results,Tryz.results114,go_sem,s0,s1,s2,s3]) rfl ⟨rfl,?_⟩
 exact(hK.trans ((kD.trans k1).trans k2)).setCell (by simp) _|>.setCell (by simp) _|>.setCell (by simp) _|>.setCell (by simp) _
theorem YR (ng:Bool)(L:List Int)(x:Int)(hne:L≠[])(hv:vld ⟨ng,L,x⟩=true)(ao:Option Addr)(c:Nat)(w:World)(h:Sl w (.slice ao L.length c) L):
  Calls Tryz.prog 114 #[.agg #[.bool ng,.slice ao L.length c,.int .i64 x]] w fun e w'=>e=.returned (.agg #[.bool ng,.int .i64 ((hd (nv L):Nat):Int),.int .i64 (x+((bl (nv L):Int)-60)),.bool (decide (60<(bl (nv L):Int)))])∧Kept w w':=by
 obtain⟨p1,p2,p3,p4,p5,p6⟩:=qT ng L x hne hv
 have hpos:=List.length_pos_iff.2 hne
 have hv0:nv L≠0:=fun h0=>by have:=kz L p2 p4;omega
 have hbl:=zg _ _ (zJ L p2)
 have hb:=yO _ hv0
 refine YQ ng ao L.length c hpos x p5 p6 (bl (nv L)) (by omega) ((hd (nv L)/1073741824:Nat):Int) ((hd (nv L)%1073741824:Nat):Int) (((hd (nv L)/1073741824:Nat):Int)*1073741824) _ _ ?_ (qj3 (nv L) hv0) rfl w (fun u k=>zR L ⟨p2,fun _=>p3⟩ (by omega) _ u (h.kept k)) (fun u k=>?_) (fun u k=>?_)
 ·rw[qg]
  omega
 ·have:=QA L p2 (.slice ao L.length c) ((bl (nv L):Int)-60+30) (by omega) (by omega) u (h.kept k)
  rw[qhl _ hv0]at this
  exact this
 ·have:=QA L p2 (.slice ao L.length c) ((bl (nv L):Int)-60) (by omega) (by omega) u (h.kept k)
  rw[qj1 _ hv0]at this
  exact this
theorem Z8 (n pr le fi:Int)(f:Value)(ex:Int)(ng rs:Bool)(w:World):Calls Tryz.prog 113 #[.agg #[.int .i64 n,.int .i64 pr,.int .i64 le,.int .i64 fi,f],.agg #[.bool ng,.int .i64 0,.int .i64 ex,.bool rs]] w fun e w'=>e=.returned (.tuple #[.int .i64 0,.bool false])∧Kept w w':=by
 go_enter Tryz.func113,Tryz.ntmps113
 go_wp2
 go_ret2
 exact⟨rfl,((qo0 _).alloc _ _).alloc _ _⟩
def tot (a b:Nm)(lo:Int):Int:=sg a.neg ((nv a.mag:Int)*2^(a.exp-lo).toNat)+sg b.neg ((nv b.mag:Int)*2^(b.exp-lo).toNat)
def tp (a:Nm):Int:=a.exp+(bl (nv a.mag):Int)
def qm2 (a b:Nm):Option Nm:=
 if max (tp a) (tp b)-min a.exp b.exp≤60001 then frm (decide (tot a b (min a.exp b.exp)<0)) (tot a b (min a.exp b.exp)).natAbs (min a.exp b.exp)else none
theorem qb0 (a b:Nat)(h:a≤b):(2:Int)^a≤2^b:=by
 have h1:2^a≤2^b:=qom (by decide) h
 have e:((2^a:Nat):Int)≤((2^b:Nat):Int):=by omega
 rw[Int.natCast_pow,Int.natCast_pow]at e
 exact e
theorem VR (L:List Int)(hL:Dg L)(hne:L≠[])(hl:L.getD (L.length-1) 0≠0):30*L.length≤bl (nv L)+29∧bl (nv L)≤30*L.length:=by
 have h1:=qg0 _ _ (qgz L hL hl)
 have h2:=zg _ _ (zJ L hL)
 have:=List.length_pos_iff.2 hne
 omega
def qif (a b:Nm):Option Nm:=if a.mag=[]then (if b.mag=[]then some ⟨false,[],0⟩else some b)else if b.mag=[]then some a else qm2 a b
theorem VS (n:Bool)(a:Int)(h:0<a):decide (sg n a<0)=n∧(sg n a).natAbs=a.toNat:=by
 cases n<;>simp[sg]<;>omega
theorem QK (x:Int)(h1:-1048576≤x)(h2:x≤1048576):wrap64 x=x:=by unfold wrap64;omega
theorem qoh (n1:Bool)(L1:List Int)(x1:Int)(hne1:L1≠[])(hv1:vld ⟨n1,L1,x1⟩=true)(n:Nat)(hn:L1.length<n)(C:List Int)(hC:ZK (List.replicate n 0) 0 (dsh n1 0 L1)=C):
  C.length=n∧(∀j,-2147483648≤C.getD j 0∧C.getD j 0≤2147483648)∧cv C=sg n1 (nv L1)∧-(2:Int)^(30*n)<sg n1 (nv L1)∧sg n1 (nv L1)<(2:Int)^(30*n)∧frm (decide (sg n1 (nv L1)<0)) (sg n1 (nv L1)).natAbs x1=some ⟨n1,L1,x1⟩:=by
 obtain⟨p1,p2,p3,p4,p5,p6⟩:=qT n1 L1 x1 hne1 hv1
 have l1:=List.length_pos_iff.2 hne1
 have b1:=VR L1 p2 hne1 p3
 have hpos:0<nv L1:=by
  rcases Nat.eq_zero_or_pos (nv L1)with h|h
  ·exact absurd ((jj L1 p2).1 h (L1.length-1)) p3
  ·exact h
 have hsg:=VS n1 (nv L1:Int) (by omega)
 have hlt:=zJ L1 p2
 have hP:=qb0 (30*L1.length) (30*n) (by omega)
 have e:((2^(30*L1.length):Nat):Int)=(2:Int)^(30*L1.length):=by rw[Int.natCast_pow];rfl
 have hlt2:(nv L1:Int)<(2:Int)^(30*L1.length):=by rw[←e];omega
 have hS:=qmj n1 (nv L1:Int) _ (by omega) hlt2
 refine⟨by rw[←hC,Yu,List.length_replicate],?_,?_,by omega,by omega,?_⟩
 ·have:=qa1 (List.replicate n 0) 0 (dsh n1 0 L1) 0 (by omega) (by rw[ZM,List.length_replicate];omega) (qef n1 0 (by omega) L1 p2) (fun j _=>by rw[zI];omega) (by rw[zI];omega) (fun j _=>by rw[zI];omega)
  rw[hC]at this
  intro j
  have:=this j
  omega
 ·rw[←hC,qgl _ _ _ (by rw[ZM,List.length_replicate];omega),vH,qjq _ _ _ p2]
  simp
 ·rw[hsg.1,hsg.2,Int.toNat_natCast]
  rw[qcl n1 n1 L1 x1 x1 hne1 hv1,QK x1 p5 p6,if_pos ⟨p5,p6⟩]
def cfm (z x:Int):Option Nm:=frm (decide (z<0)) z.natAbs x
def vz (s:Int)(a:Nm):Int:=sg a.neg ((nv a.mag:Int)*2^(a.exp-s).toNat)
structure Lies (s:Int) (B:Nat) (a:Nm):Prop where
 ok:vld a=true
 low:a.mag≠[]→s≤a.exp
 lt:(vz s a).natAbs<2^B
theorem qfe (neg:Bool)(v k:Nat)(x:Int)(hv:v≠0):frm neg (v*2^k) x=frm neg v (x+(k:Int)):=by
 obtain⟨o,ho,e⟩:=jK v hv
 have hp:=qoj k
 have hne:v*2^k≠0:=Nat.mul_ne_zero hv (by omega)
 have ht:tzn (v*2^k)=tzn v+k:=by
  have:v*2^k=o*2^(tzn v+k):=by rw[qol,←qop,←e]
  rw[this,Qh o _ ho]
 have hb:=Z3 v k hv
 have hw:wrap64 (x+((tzn v+k:Nat):Int))=wrap64 (x+(k:Int)+(tzn v:Int)):=by congr 1;push_cast;omega
 have hd:v*2^k/2^(tzn v+k)=v/2^tzn v:=by
  rw[qol,Nat.mul_div_mul_right _ _ hp]
 unfold frm
 rw[if_neg hne,if_neg hv,ht,hb,hw,hd,show bl v+k-(tzn v+k)=bl v-tzn v by omega]
theorem xB (x:Int):cfm 0 x=some ⟨false,[],0⟩:=by simp[cfm,frm]
theorem jA (z:Int)(k:Nat)(x:Int):cfm (z*2^k) x=cfm z (x+(k:Int)):=by
 by_cases hz:z=0
 ·subst hz
  rw[Int.zero_mul,xB,xB]
 ·have hp:(0:Int)<2^k:=Int.pow_pos (by decide)
  have hn:(z*2^k).natAbs=z.natAbs*2^k:=by
   rw[Int.natAbs_mul]
   congr 1
  have hd:decide (z*2^k<0)=decide (z<0):=by
   congr 1
   apply propext
   constructor
   ·intro h
    rcases Int.lt_or_le z 0 with g|g
    ·exact g
    ·exact absurd (Int.mul_nonneg g (Int.le_of_lt hp)) (by omega)
   ·intro h
    exact Int.mul_neg_of_neg_of_pos h hp
  unfold cfm
  rw[hn,hd]
  exact qfe _ _ _ _ (by omega)
theorem jB (n:Bool)(L:List Int)(x:Int)(hne:L≠[])(hv:vld ⟨n,L,x⟩=true):0<nv L:=by
 obtain⟨p1,p2,p3,p4,p5,p6⟩:=qT n L x hne hv
 rcases Nat.eq_zero_or_pos (nv L)with h|h
 ·exact absurd ((jj L p2).1 h (L.length-1)) p3
 ·exact h
theorem zM (s:Int)(n:Bool)(x:Int):vz s ⟨n,[],x⟩=0:=by cases n<;>simp[vz,nv,sg]
theorem jo (s:Int)(a:Nm):(vz s a).natAbs=nv a.mag*2^(a.exp-s).toNat:=by
 have e:((nv a.mag*2^(a.exp-s).toNat:Nat):Int)=(nv a.mag:Int)*2^(a.exp-s).toNat:=by rw[Int.natCast_mul,Int.natCast_pow];rfl
 unfold vz
 rw[←e]
 cases a.neg<;>simp[sg]<;>omega
theorem Jl (s:Int)(n:Bool)(L:List Int)(x:Int)(hv:vld ⟨n,L,x⟩=true)(hs:L≠[]→s≤x):cfm (vz s ⟨n,L,x⟩) s=some ⟨n,L,x⟩:=by
 by_cases hne:L=[]
 ·subst hne
  rw[zM,xB]
  obtain⟨rfl,rfl⟩:=jH _ _ hv
  rfl
 ·obtain⟨p1,p2,p3,p4,p5,p6⟩:=qT n L x hne hv
  have hpos:=jB n L x hne hv
  have hs:=hs hne
  have e:vz s ⟨n,L,x⟩=sg n (nv L:Int)*2^(x-s).toNat:=by
   unfold vz
   cases n<;>simp[sg,Int.neg_mul]
  have hsg:=VS n (nv L:Int) (by omega)
  rw[e,jA,show s+((x-s).toNat:Int)=x by omega]
  unfold cfm
  rw[hsg.1,hsg.2,Int.toNat_natCast,qcl n n L x x hne hv,QK x p5 p6,if_pos ⟨p5,p6⟩]
theorem qig (s:Int)(B:Nat)(a:Nm)(h:Lies s B a)(hne:a.mag≠[]):tp a≤s+(B:Int):=by
 obtain⟨n,L,x⟩:=a
 have hpos:=jB n L x hne h.ok
 have hl:=h.low hne
 have h1:=h.lt
 rw[jo]at h1
 have h2:=Z3 (nv L) (x-s).toNat (by omega)
 have h3:=zg _ _ h1
 dsimp only at h3 hl
 rw[h2]at h3
 unfold tp
 dsimp only
 omega
theorem qm3 (s:Int)(B:Nat)(a b:Nm)(ha:Lies s B a)(hb:Lies s B b)(h1:a.mag≠[])(h2:b.mag≠[]):vz s a+vz s b=tot a b (min a.exp b.exp)*2^(min a.exp b.exp-s).toNat:=by
 have la:=ha.low h1
 have lb:=hb.low h2
 have e1:(a.exp-s).toNat=(a.exp-min a.exp b.exp).toNat+(min a.exp b.exp-s).toNat:=by omega
 have e2:(b.exp-s).toNat=(b.exp-min a.exp b.exp).toNat+(min a.exp b.exp-s).toNat:=by omega
 unfold vz tot
 rw[e1,e2,xN,xN,Int.add_mul]
 congr 1
 ·cases a.neg<;>simp[sg,Int.mul_assoc,Int.neg_mul]
 ·cases b.neg<;>simp[sg,Int.mul_assoc,Int.neg_mul]
theorem qk3 (s:Int)(B:Nat)(hB:B≤60000)(a b:Nm)(ha:Lies s B a)(hb:Lies s B b):qif a b=cfm (vz s a+vz s b) s:=by
 obtain⟨n1,L1,x1⟩:=a
 obtain⟨n2,L2,x2⟩:=b
 unfold qif
 dsimp only
 by_cases h1:L1=[]
 ·subst h1
  rw[if_pos rfl,zM,Int.zero_add,Jl s n2 L2 x2 hb.ok hb.low]
  by_cases h2:L2=[]
  ·subst h2
   obtain⟨rfl,rfl⟩:=jH _ _ hb.ok
   rw[if_pos rfl]
  ·rw[if_neg h2]
 ·rw[if_neg h1]
  by_cases h2:L2=[]
  ·subst h2
   rw[if_pos rfl,zM,Int.add_zero,Jl s n1 L1 x1 ha.ok ha.low]
  ·rw[if_neg h2,qm3 s B _ _ ha hb h1 h2,jA]
   have t1:=qig s B _ ha h1
   have t2:=qig s B _ hb h2
   have l1:=ha.low h1
   have l2:=hb.low h2
   dsimp only at l1 l2 ⊢
   unfold qm2
   dsimp only
   rw[if_pos (by omega),show s+((min x1 x2-s).toNat:Int)=min x1 x2 by omega]
   rfl
theorem xC (s:Int)(B:Nat)(hB:B≤20000)(h1:-20000≤s)(h2:s≤0)(z:Int)(hz:z.natAbs<2^B):∃r,cfm z s=some r∧Lies s B r∧vz s r=z:=by
 by_cases h0:z=0
 ·subst h0
  exact⟨_,xB s,⟨rfl,fun h=>absurd rfl h,by rw[zM];exact qoj B⟩,zM _ _ _⟩
 ·have hn:z.natAbs≠0:=by omega
  obtain⟨v,hv⟩:∃v,z.natAbs=v:=⟨_,rfl⟩
  rw[hv]at hz hn
  have hb:=zg _ _ hz
  obtain⟨hbt,hne⟩:=vJ v hn
  obtain⟨hodd,hm⟩:=Zk v hn
  obtain⟨t,ht⟩:∃t,tzn v=t:=⟨_,rfl⟩
  obtain⟨q,hq⟩:∃q,v/2^t=q:=⟨_,rfl⟩
  rw[ht]at hbt hodd hm hne
  rw[hq]at hbt hodd hm hne
  have hw:wrap64 (s+(t:Int))=s+(t:Int):=QK _ (by omega) (by omega)
  have hr:cfm z s=some ⟨decide (z<0),digs q,s+(t:Int)⟩:=by
   unfold cfm frm
   rw[hv,if_neg hn,ht,hw,hq,if_pos ⟨by omega,by omega,by omega⟩]
  have hdn:digs q≠[]:=by
   intro h
   have:=qQ q
   rw[h]at this
   exact hne this.symm
  have hlen:(digs q).length≤2000:=by rw[Qc q hne];omega
  have hval:vz s ⟨decide (z<0),digs q,s+(t:Int)⟩=z:=by
   unfold vz
   dsimp only
   rw[qQ,show(s+(t:Int)-s).toNat=t by omega]
   have e:((q*2^t:Nat):Int)=(q:Int)*2^t:=by rw[Int.natCast_mul,Int.natCast_pow];rfl
   rw[←e,←hm,←hv]
   unfold sg
   by_cases hneg:z<0
   ·rw[if_pos (by simpa using hneg)];omega
   ·rw[if_neg (by simpa using hneg)];omega
  refine⟨_,hr,⟨?_,fun _=>by dsimp only;omega,by rw[hval];omega⟩,hval⟩
  unfold vld
  rw[if_neg hdn]
  unfold ZR
  dsimp only
  have g1:=vw q hne
  have g2:dgb (digs q)=true:=(yN _).2 (za q)
  have g3:bits .and .i64 ((digs q).getD 0 0) 1=1:=by
   rw[jJ q hne,List.getD_cons_zero]
   have e:bits .and .i64 (((q%1073741824:Nat)):Int) 1=((q%1073741824%2:Nat):Int):=by
    have:=Qa ((q%1073741824:Nat):Int)
    rw[this]
    omega
   rw[e]
   omega
  simp only[g2,g3,Bool.and_true,Bool.and_eq_true,bne_iff_ne,ne_eq,beq_self_eq_true,qor]
  refine⟨⟨⟨by omega,g1⟩,by omega⟩,by omega⟩
theorem qdc (L:List Int)(j:Nat)(hj:j<L.length):cv (L.take (j+1))=cv (L.take j)+L.getD j 0*2^(30*j):=by
 induction L generalizing j with
 |nil=>simp at hj
 | cons d L ih=>
  cases j with
  |zero=>simp[cv]
  |succ j=>
   have e:=QB j
   simp only[List.take_succ_cons,cv,List.getD_cons_succ]
   rw[ih j (by simpa using hj),e,Int.mul_left_comm (L.getD j 0)]
   generalize L.getD j 0*2^(30*j)=z
   omega
theorem Jm (D:List Int)(i:Nat)(hi:i<D.length)(d:Int):cv (D.set i d)=cv D+(d-D.getD i 0)*2^(30*i):=by
 have:=ZL D i hi (d-D.getD i 0)
 rw[show D.getD i 0+(d-D.getD i 0)=d by omega]at this
 exact this
theorem Dg.put {D:List Int}(h:Dg D)(i:Nat)(d:Int)(h0:0≤d)(h1:d<1073741824):Dg (D.set i d):=fun x hx=>by
 rcases List.mem_or_eq_of_mem_set hx with h2|h2
 ·exact h x h2
 ·rw[h2];exact⟨h0,h1⟩
structure PRow (A B:List Int) (n i j:Nat) (D:List Int) (o:Int):Prop where
 len:D.length=n
 dg:Dg D
 o0:0≤o
 o1:o<1073741824
 val:cv D+o*2^(30*(i+j))=cv (A.take i)*cv B+A.getD i 0*cv (B.take j)*2^(30*i)
 zero:∀k,i+B.length≤k→D.getD k 0=0
theorem PRow.start {A B:List Int}{n i:Nat}{D:List Int}(h1:D.length=n)(h2:Dg D)(h3:cv D=cv (A.take i)*cv B)(h4:∀k,i+B.length≤k→D.getD k 0=0):PRow A B n i 0 D 0:=
 ⟨h1,h2,by omega,by omega,by simp[cv,h3],h4⟩
theorem QM (a b:Int)(h0:0≤a)(h1:a<1073741824)(g0:0≤b)(g1:b<1073741824):0≤a*b∧a*b≤1152921502459363329:=by
 have e1:0≤a*b:=Int.mul_nonneg h0 g0
 have e2:a*b≤1073741823*1073741823:=Int.mul_le_mul (by omega) (by omega) g0 (by omega)
 exact⟨e1,by omega⟩
theorem PRow.step {A B:List Int}{n i j:Nat}{D:List Int}{o:Int}(h:PRow A B n i j D o)(hA:Dg A)(hB:Dg B)(hj:j<B.length)(hn:i+j<n)(T:Int)(hT:o+D.getD (i+j) 0+A.getD i 0*B.getD j 0=T):
  PRow A B n i (j+1) (D.set (i+j) (T%1073741824)) (T/1073741824):=by
 have hd:=h.dg.getD (i+j)
 have ha:=hA.getD i
 have hb:=hB.getD j
 have hm:=QM _ _ ha.1 ha.2 hb.1 hb.2
 have o0:=h.o0
 have o1:=h.o1
 refine⟨by rw[List.length_set];exact h.len,h.dg.put _ _ (by omega) (by omega),by omega,by omega,?_,?_⟩
 ·rw[Jm D (i+j) (by rw[h.len];exact hn),qdc B j hj]
  have hv:=h.val
  have e1:(2:Int)^(30*(i+(j+1)))=1073741824*2^(30*(i+j)):=QB (i+j)
  have e2:(2:Int)^(30*(i+j))=2^(30*j)*2^(30*i):=by rw[show 30*(i+j)=30*j+30*i by omega,Int.pow_add]
  have e3:A.getD i 0*(cv (B.take j)+B.getD j 0*2^(30*j))*2^(30*i)=A.getD i 0*cv (B.take j)*2^(30*i)+A.getD i 0*B.getD j 0*2^(30*(i+j)):=by
   rw[e2,Int.mul_add,Int.add_mul]
   congr 1
   simp only[Int.mul_assoc]
  rw[e3,e1]
  generalize A.getD i 0*B.getD j 0=m at *
  generalize (2:Int)^(30*(i+j))=P at *
  generalize D.getD (i+j) 0=d at *
  have hTT:T=1073741824*(T/1073741824)+T%1073741824:=by omega
  have e4:(T%1073741824-d)*P+T/1073741824*(1073741824*P)=(T-d)*P:=by
   rw[←Int.mul_assoc,←Int.add_mul]
   congr 1
   omega
  have e5:(T-d)*P=o*P+m*P:=by
   rw[←Int.add_mul]
   congr 1
   omega
  omega
 ·intro k hk
  rw[qL D (i+j) k _ (by rw[h.len];exact hn),if_neg (by omega)]
  exact h.zero k hk
theorem PRow.finish {A B:List Int}{n i:Nat}{D:List Int}{o:Int}(h:PRow A B n i B.length D o)(hi:i<A.length)(hn:i+B.length<n):
  PRow A B n (i+1) 0 (D.set (i+B.length) o) 0:=by
 refine .start (by rw[List.length_set];exact h.len) (h.dg.put _ _ h.o0 h.o1) ?_ ?_
 ·have hv:=h.val
  rw[Jm D _ (by rw[h.len];exact hn),h.zero _ (qoo _),qdc A i hi]
  rw[List.take_length]at hv
  rw[Int.sub_zero,hv,Int.add_mul]
  congr 1
  rw[Int.mul_right_comm]
 ·intro k hk
  rw[qL D _ k _ (by rw[h.len];exact hn),if_neg (by omega)]
  exact h.zero k (by omega)
theorem PRow.last {A B:List Int}{n:Nat}{D:List Int}{o:Int}(h:PRow A B n A.length 0 D o)(ho:o=0)(hA:Dg A)(hB:Dg B):Dg D∧nv D=nv A*nv B:=by
 refine⟨h.dg,?_⟩
 have hv:=h.val
 subst ho
 rw[List.take_length,Xe D h.dg,Xe A hA,Xe B hB]at hv
 simp only[List.take_zero,cv,Int.zero_mul,Int.mul_zero,Int.add_zero]at hv
 have:((nv D:Nat):Int)=((nv A*nv B:Nat):Int):=by rw[hv,Int.natCast_mul]
 omega
def Jn (a b:Nm):Option Nm:=
 if (bl (nv a.mag):Int)+(bl (nv b.mag):Int)-1≤60000∧-1048576≤a.exp+b.exp∧a.exp+b.exp≤1048576 then frm (a.neg != b.neg) (nv a.mag*nv b.mag) (a.exp+b.exp)else none
theorem qdd (s:Int)(a:Nm):vz s a=sg a.neg (nv a.mag:Int)*2^(a.exp-s).toNat:=by
 unfold vz
 cases a.neg<;>simp[sg,Int.neg_mul]
theorem VT (s:Int)(B:Nat)(hB:B≤20000)(h1:-20000≤s)(h2:s≤0)(a b:Nm)(ha:Lies s B a)(hb:Lies s B b):Jn a b=cfm (vz s a*vz s b) (s+s):=by
 obtain⟨n1,L1,x1⟩:=a
 obtain⟨n2,L2,x2⟩:=b
 have hz:∀(n:Bool) (L:List Int) (x:Int),Lies s B ⟨n,L,x⟩→(bl (nv L)≤20000∧-20000≤x∧x≤20000):=by
  intro n L x h
  by_cases hne:L=[]
  ·subst hne
   obtain⟨rfl,rfl⟩:=jH _ _ h.ok
   exact⟨by simp[nv,bl],by omega,by omega⟩
  ·have g1:=h.low hne
   have g2:=qig s B _ h hne
   unfold tp at g2
   dsimp only at g1 g2
   omega
 have z1:=hz _ _ _ ha
 have z2:=hz _ _ _ hb
 have c1:=qdd s ⟨n1,L1,x1⟩
 have c2:=qdd s ⟨n2,L2,x2⟩
 dsimp only at c1 c2
 unfold Jn
 dsimp only
 rw[if_pos ⟨by omega,by omega,by omega⟩]
 by_cases e1:L1=[]
 ·subst e1
  rw[zM,Int.zero_mul,xB]
  simp[frm,nv]
 by_cases e2:L2=[]
 ·subst e2
  rw[zM,Int.mul_zero,xB]
  simp[frm,nv]
 have l1:=ha.low e1
 have l2:=hb.low e2
 dsimp only at l1 l2
 have p1:=jB n1 L1 x1 e1 ha.ok
 have p2:=jB n2 L2 x2 e2 hb.ok
 have e:vz s ⟨n1,L1,x1⟩*vz s ⟨n2,L2,x2⟩=sg n1 (nv L1:Int)*sg n2 (nv L2:Int)*2^((x1-s).toNat+(x2-s).toNat):=by
  rw[c1,c2,Int.pow_add]
  simp only[Int.mul_assoc,Int.mul_left_comm]
 rw[e,jA,show s+s+(((x1-s).toNat+(x2-s).toNat:Nat):Int)=x1+x2 by omega]
 have hp:0<nv L1*nv L2:=Nat.mul_pos p1 p2
 have e3:sg n1 (nv L1:Int)*sg n2 (nv L2:Int)=sg (n1 != n2) ((nv L1*nv L2:Nat):Int):=by
  rw[Int.natCast_mul]
  cases n1<;>cases n2<;>simp[sg,Int.neg_mul,Int.mul_neg]
 have hsg:=VS (n1 != n2) ((nv L1*nv L2:Nat):Int) (by omega)
 rw[e3]
 unfold cfm
 rw[hsg.1,hsg.2,Int.toNat_natCast]
def cz (a b:Int):Int:=if a<b then -1 else if b<a then 1 else 0
theorem QZ {a b:Int}(h:a<b):cz a b=-1:=by rw[cz,if_pos h]
theorem Jo {a b:Int}(h:b<a):cz a b=1:=by rw[cz,if_neg (by omega),if_pos h]
theorem XJ {a b:Int}(h:a=b):cz a b=0:=by rw[cz,if_neg (by omega),if_neg (by omega)]
theorem qb1 (x y:Int)(w:World):Calls Tryz.prog 180 #[.int .i64 x,.int .i64 y] w fun e w'=>e=.returned (.int .i64 (cz x y))∧w=w':=by
 rcases Int.lt_trichotomy x y with h|h|h
 ·rw[QZ h]
  have g2:¬x=y:=by omega
  have g3:¬y<x:=by omega
  go_enter Tryz.func180,Tryz.ntmps180
  go_wp2
  exact qoz (v:=.int .i64 _) (by simp[results,Tryz.results180,go_sem]) rfl ⟨rfl,rfl⟩
 ·subst h
  rw[XJ rfl]
  have g3:¬x<x:=by omega
  go_enter Tryz.func180,Tryz.ntmps180
  go_wp2
  exact qoz (v:=.int .i64 _) (by simp[results,Tryz.results180,go_sem]) rfl ⟨rfl,rfl⟩
 ·rw[Jo h]
  have g2:¬x=y:=by omega
  have g3:¬x<y:=by omega
  go_enter Tryz.func180,Tryz.ntmps180
  go_wp2
  exact qoz (v:=.int .i64 _) (by simp[results,Tryz.results180,go_sem]) rfl ⟨rfl,rfl⟩
theorem XK (F G P:Nat)(h:F/P<G/P):F<G:=by
 rcases Nat.lt_or_ge F G with g|g
 ·exact g
 ·exact absurd (Nat.div_le_div_right (c:=P) g) (by omega)
theorem qm4 (a b:Int)(k:Nat):cz (a*2^k) (b*2^k)=cz a b:=by
 have hp:(0:Int)<2^k:=Int.pow_pos (by decide)
 rcases Int.lt_trichotomy a b with h|h|h
 ·rw[QZ h,QZ (Int.mul_lt_mul_of_pos_right h hp)]
 ·rw[XJ h,XJ (by rw[h])]
 ·rw[Jo h,Jo (Int.mul_lt_mul_of_pos_right h hp)]
abbrev jT (n1:Bool)(s1:Value)(x1:Int)(n2:Bool)(s2:Value)(x2:Int):Array Value:=#[.bool n1,s1,.int .i64 x1,.bool n2,s2,.int .i64 x2]
abbrev qa2 (w:World)(v1 v2 c:Array Value):World:=(((w.alloc (.cells v1 31)).alloc (.cells v2 31)).alloc jh).alloc (.cells c 31)
theorem qeg (w:World)(v1 v2 c:Array Value):Kept w (qa2 w v1 v2 c):=((((qo0 w).alloc _ _).alloc _ _).alloc _ _).alloc _ _
theorem qeh (w:World)(a b c:Int):Own (w.alloc (.cells #[.int .i64 a,.int .i64 b,.int .i64 c] 3)) w.heap.size 3 [a,b,c]:=
 ⟨_,heap_alloc_new w _,qoo _,by simp[maxLen],by simp,by simp⟩
def ofN (b n:Int):Nm:=(frm (zv b n) (qI b n).toNat (qK b n)).getD ⟨false,[],0⟩
theorem VJ (b n:Int)(hn:n=64∨n=32)(hc:cls b n<3):fin b n=true:=by simp[fin,hn,hc]
theorem ql4 (b:Int)(hc:cls b 64<3):0≤qI b 64∧qI b 64<9007199254740992∧-1074≤qK b 64∧qK b 64≤971∧(qI b 64<4503599627370496→qK b 64=-1074):=by
 have hf:=VJ b 64 (.inl rfl) hc
 have hs:b%9223372036854775808<9218868437227405312:=by
  unfold cls zX at hc
  simp only[if_true]at hc
  (repeat' split at hc)<;>omega
 unfold qI qK
 rw[if_pos hf,if_pos rfl,if_pos hf,if_pos rfl]
 (repeat' split)<;>omega
theorem qnw (b:Int)(hc:cls b 32<3):0≤qI b 32∧qI b 32<16777216∧-149≤qK b 32∧qK b 32≤104∧(qI b 32<8388608→qK b 32=-149):=by
 have hf:=VJ b 32 (.inr rfl) hc
 have hs:b%2147483648<2139095040:=by
  unfold cls zX at hc
  rw[if_neg (by decide),if_pos rfl]at hc
  (repeat' split at hc)<;>omega
 unfold qI qK
 simp only[hf,if_true,show ¬((32:Int)=64) by decide,if_false]
 (repeat' split)<;>omega
theorem Je (b n:Int)(hn:n=64∨n=32)(hc:cls b n<3):0≤qI b n∧qI b n<2^(qM n).toNat∧qk n≤qK b n∧qK b n≤1000∧-1074≤qK b n∧(qI b n<2^((qM n).toNat-1)→qK b n=qk n):=by
 rcases hn with rfl|rfl
 ·obtain⟨h1,h2,h3,h4,h5⟩:=ql4 b hc
  refine⟨h1,?_,h3,by omega,h3,fun h=>h5 ?_⟩
  ·exact h2
  ·exact h
 ·obtain⟨h1,h2,h3,h4,h5⟩:=qnw b hc
  refine⟨h1,?_,h3,by omega,by omega,fun h=>h5 ?_⟩
  ·exact h2
  ·exact h
theorem Jf (b n:Int)(hn:n=64∨n=32)(hc:cls b n<3):bl (qI b n).toNat≤(qM n).toNat∧bl (qI b n).toNat≤53:=by
 obtain⟨h1,h2,-⟩:=Je b n hn hc
 have:=zg (qI b n).toNat (qM n).toNat (by
  have e:(((qI b n).toNat:Nat):Int)<((2^(qM n).toNat:Nat):Int):=by push_cast;rw[Int.toNat_of_nonneg h1];exact h2
  exact_mod_cast e)
 refine⟨this,?_⟩
 rcases hn with rfl|rfl
 ·exact this
 ·exact qou this (by decide)
theorem vN (b n:Int)(h:qI b n=0):frm (zv b n) (qI b n).toNat (qK b n)=some ⟨false,[],0⟩∧ofN b n=⟨false,[],0⟩:=by
 have:frm (zv b n) (qI b n).toNat (qK b n)=some ⟨false,[],0⟩:=by rw[h];simp[frm]
 exact⟨this,by unfold ofN;rw[this];rfl⟩
theorem qe7 (v:Nat)(hv:v≠0):tzn v<bl v:=by
 have h:=vJ v hv
 have:=(qO _ h.2).2.2
 omega
theorem VK (b n:Int)(hn:n=64∨n=32)(hc:cls b n<3)(h0:qI b n≠0):frm (zv b n) (qI b n).toNat (qK b n)=some (ofN b n)∧ofN b n=⟨zv b n,digs ((qI b n).toNat/2^tzn (qI b n).toNat),qK b n+(tzn (qI b n).toNat:Int)⟩:=by
 obtain⟨h1,h2,h3,h4,h5,h6⟩:=Je b n hn hc
 have hb:=(Jf b n hn hc).2
 have hv:(qI b n).toNat≠0:=by omega
 have ht:=qe7 _ hv
 have hw:wrap64 (qK b n+(tzn (qI b n).toNat:Int))=qK b n+(tzn (qI b n).toNat:Int):=by unfold wrap64;omega
 have:frm (zv b n) (qI b n).toNat (qK b n)=some ⟨zv b n,digs ((qI b n).toNat/2^tzn (qI b n).toNat),qK b n+(tzn (qI b n).toNat:Int)⟩:=by
  unfold frm
  rw[if_neg hv,hw,if_pos ⟨by omega,by omega,by omega⟩]
 exact⟨by rw[this];unfold ofN;rw[this];rfl,by unfold ofN;rw[this];rfl⟩
theorem Jg (b n:Int)(hn:n=64∨n=32)(hc:cls b n<3):frm (zv b n) (qI b n).toNat (qK b n)=some (ofN b n):=by
 by_cases h:qI b n=0
 ·obtain⟨h1,h2⟩:=vN b n h
  rw[h1,h2]
 ·exact(VK b n hn hc h).1
theorem qmx (b n:Int)(hb1:-9223372036854775808≤b)(hb2:b≤9223372036854775807)(hn:n=64∨n=32)(hc:cls b n<3)(w:World)(hT:Tab w):Calls Tryz.prog 111 #[.int .i64 b,.int .i64 n] w fun e w'=>∃v,e=.returned (.tuple #[v,.int .i64 0])∧New w w' v (ofN b n)∧Kept w w':=by
 have hK:Kept w (qP w):=(qo0 w).alloc _ _
 obtain⟨h1,h2,h3,h4,h5,h6⟩:=Je b n hn hc
 have hbl:=(Jf b n hn hc).2
 have hlt:=Z0 (qI b n).toNat
 have hm53:(qI b n).toNat<2^53:=qok hlt (qom (by decide) hbl)
 have hm:qI b n<9007199254740992:=by
  have:(2:Nat)^53=9007199254740992:=by decide
  omega
 have KK:Hid (∀u,Calls Tryz.prog 142 #[.int .i64 n] u fun e w'=>e=.returned (.tuple #[.agg #[.int .i64 n,.int .i64 (qM n),.int .i64 (qk n),.int .i64 (jg n)],.bool true])∧Kept u w'):=fun u=>jy n hn u
 have KP:Hid (∀u,Calls Tryz.prog 105 #[.int .i64 b,.int .i64 n] u fun e w'=>e=.returned (.tuple #[.bool (zv b n),.int .i64 (qI b n),.int .i64 (qK b n),.bool true])∧Kept u w'):=fun u=>by
  have:=Xn b n hb1 hb2 u
  rw[VJ b n hn hc]at this
  exact this
 have hf:=Jg b n hn hc
 generalize qI b n=s at *
 have hw1:IntKind.u64.wrap s=s:=by rw[IntKind.wrap_u64];omega
 have KD:Hid (∀u,Calls Tryz.prog 143 #[.int .u64 s] u fun e w'=>e=.returned (.slice (some ⟨u.heap.size,0,none⟩) 3 3)∧w'=u.alloc (.cells #[.int .i64 (s%1073741824),.int .i64 (s/1073741824%1073741824),.int .i64 (s/1152921504606846976)] 3)):=fun u=>Vf s h1 (by omega) u
 have hDg:Dg [s%1073741824,s/1073741824%1073741824,s/1152921504606846976]:=Dg.cons (by omega) (by omega) (Dg.cons (by omega) (by omega) (Dg.cons (by omega) (by omega) Dg.nil))
 have hnv:nv [s%1073741824,s/1073741824%1073741824,s/1152921504606846976]=s.toNat:=by
  show(s%1073741824).toNat+1073741824*((s/1073741824%1073741824).toNat+1073741824*((s/1152921504606846976).toNat+1073741824*0))=s.toNat
  omega
 have KF:Hid (∀u,Kept (qP w) u→Calls Tryz.prog 141 #[.bool (zv b n),.slice (some ⟨u.heap.size,0,none⟩) 3 3,.int .i64 (qK b n)] (u.alloc (.cells #[.int .i64 (s%1073741824),.int .i64 (s/1073741824%1073741824),.int .i64 (s/1152921504606846976)] 3)) fun e w'=>(∃v,e=.returned v∧New (qP w) w' v (ofN b n))∧Kept (qP w) w'):=fun u k=>qcq _ _ hDg (by simp) _ 3 (qK b n) (qP w) _ (k.alloc _ _) k.below.size (qeh u _ _ _) (hT.kept (hK.trans (k.alloc _ _))) _ (by rw[hnv];exact hf)
 generalize qM n=pr at *
 generalize qk n=le at *
 generalize jg n=fi at *
 generalize zv b n=ng at *
 generalize qK b n=ex at *
 generalize ofN b n=r at *
 clear hDg hnv hf hT h1 h2 h3 h4 h5 h6 hbl hlt hm53 hm
 go_enter Tryz.func111,Tryz.ntmps111
 go_wp2_with fail
 refine(KK.out _).mono ?_
 rintro e w1 ⟨rfl,k1⟩
 have k1':=k1.alloc #[.int .i64 n,.int .i64 pr,.int .i64 le,.int .i64 fi] 144
 go_wp2_with fail
 refine(KP.out _).mono ?_
 rintro e w2 ⟨rfl,k2⟩
 have kk:=k1'.trans k2
 go_wp2_with fail
 refine(KD.out _).mono ?_
 rintro e w3 ⟨rfl,rfl⟩
 go_wp2_with fail
 refine(KF.out _ kk).mono ?_
 rintro e w4 ⟨⟨v,rfl,hN⟩,k4⟩
 obtain⟨vn,va,vl,vc,vx,rfl⟩:=hN.shape
 obtain⟨f0,f1,f2,f3⟩:=j9 k4
 go_wp2_with fail
 have:=ZV hN k4 (.bool vn) (.slice va vl vc) (.int .i64 vx)
 exact qoz (v:=.tuple #[.agg #[.bool vn,.slice va vl vc,.int .i64 vx],.int .i64 0]) (by simp[results,Tryz.results111,go_sem,f0,f1,f2]) rfl ⟨_,rfl,this.1,this.2⟩
theorem Zs (a b:Nat)(ha:a<9223372036854775808)(hb:b<9223372036854775808):bits .and .i64 (a:Int) (b:Int)=((a&&& b:Nat):Int):=by
 rw[ji,BitVec.toNat_and]
 have h1:=qD (a:Int)
 have h2:=qD (b:Int)
 have e1:(BitVec.ofInt 64 (a:Int)).toNat=a:=by omega
 have e2:(BitVec.ofInt 64 (b:Int)).toNat=b:=by omega
 have h3:a&&& b≤a:=Nat.and_le_left
 rw[e1,e2,qg]
 omega
theorem qh3 (a m:Nat)(ha:a<9223372036854775808)(hm:m<62):bits .and .i64 (a:Int) (((2^m-1:Nat)):Int)=((a%2^m:Nat):Int):=by
 have hp:(2:Nat)^m≤2^62:=qom (by decide) (by omega)
 have h62:(2:Nat)^62=4611686018427387904:=by decide
 rw[Zs _ _ ha (by omega),Nat.and_two_pow_sub_one_eq_mod]
theorem Y8 (ng:Bool)(ao:Option Addr)(c:Nat)(x:Int)(w:World):Calls Tryz.prog 114 #[.agg #[.bool ng,.slice ao 0 c,.int .i64 x]] w fun e w'=>e=.returned (.agg #[.bool false,.int .i64 0,.int .i64 0,.bool false])∧Kept w w':=by
 go_enter Tryz.func114,Tryz.ntmps114
 go_wp2
 exact qoz (v:=.agg #[.bool false,.int .i64 0,.int .i64 0,.bool false]) (by simp[results,Tryz.results114,go_sem]) rfl ⟨rfl,((qo0 w).alloc _ _).alloc _ _⟩
theorem yP (neg:Bool)(v:Nat)(x:Int)(r:Nm)(h:frm neg v x=some r):vld r=true∧Rg r.mag∧r.mag.length≤2000:=by
 unfold frm at h
 split at h
 ·cases h
  exact⟨rfl,fun d hd=>(by cases hd),by simp⟩
 ·rename_i hv
  split at h
  ·rename_i hy
   cases h
   have hs:=vJ v hv
   have hq:=(qO _ hs.2).2.2
   have hl:=Qc _ hs.2
   have hne:digs (v/2^tzn v)≠[]:=by
    intro he
    rw[he]at hl
    simp only[List.length_nil]at hl
    omega
   have hdg:=za (v/2^tzn v)
   have hodd:(digs (v/2^tzn v)).getD 0 0%2=1:=by
    have h1:=(Zk v hv).1
    have h2:=zZ _ hdg 0
    rw[qQ,Nat.mul_zero,Nat.pow_zero,Nat.div_one]at h2
    have h3:=hdg.getD 0
    omega
   refine⟨?_,hdg.rg,by dsimp only;omega⟩
   unfold vld
   dsimp only
   rw[if_neg hne]
   unfold ZR
   rw[(yN _).2 hdg,Qa]
   simp only[Bool.and_eq_true,qor,bne_iff_ne,beq_iff_eq]
   exact⟨⟨⟨⟨⟨by omega,trivial⟩,vw _ hs.2⟩,hodd⟩,hy.2.1⟩,hy.2.2⟩
  ·cases h
theorem vA (b n:Int)(hn:n=64∨n=32)(hc:cls b n<3):vld (ofN b n)=true∧Rg (ofN b n).mag∧(ofN b n).mag.length≤2000:=yP _ _ _ _ (Jg b n hn hc)
end Go.Proofs.YtaglkncdedeipaaGreatDoor
