/-  -/
import Derived.Test.YtaglkncdedeipaaGreatDoorWs22
import Derived.Laws.MakeOwn
import Derived.Test.YtaglkncdedeipaaGreatDoorWs13
import Derived.Test.YtaglkncdedeipaaGreatDoorWs02
namespace Go.Proofs.YtaglkncdedeipaaGreatDoor
open Go.ChangeShapes Go.WideShapes Go.ChangeAt Go.RowKit Ieee
set_option linter.unusedVariables false
set_option linter.unusedSimpArgs false
set_option maxHeartbeats 16000000
set_option maxRecDepth 100000
theorem V6 (s t:Int)(r:Nm)(h:s≤t)(hl:r.mag≠[]→t≤r.exp):vz s r=vz t r*2^(t-s).toNat:=by
 by_cases hm:r.mag=[]
 ·obtain⟨ng,m,e⟩:=r
  simp only at hm
  subst hm
  rw[zj,zj,Int.zero_mul]
 ·have:=hl hm
  rw[V2,V2,Int.mul_assoc,←Int.pow_add]
  congr 2
  omega
theorem xl (n s t k:Int)(h:s≤t)(hl:t≤qi n):kvz n s k=kvz n t k*2^(t-s).toNat:=by
 have e:(qi n-s).toNat=(qi n-t).toNat+(t-s).toNat:=by omega
 unfold kvz
 rw[e,qhv,←qhz]
 split
 ·rw[Int.neg_mul,Int.natCast_mul,Int.natCast_pow];rfl
 ·rw[Int.natCast_mul,Int.natCast_pow];rfl
theorem QN (n way k1 k2 K' K:Int)(hn:n=64∨n=32)(hw:way=1∨way=2)(b1:-(ifn n:Int)<k1∧k1<(ifn n:Int))(b2:-(ifn n:Int)<k2∧k2<(ifn n:Int))(b3:-(ifn n:Int)<K∧K<(ifn n:Int))(h:Smk n way k1 k2 K')(hv:kvz n (-1074) k1+kvz n (-1074) k2=kvz n (-1074) K)(hB:∀N,N=4000→(kvz n (-1074) K).natAbs<2^N):K'=K:=by
 rcases h with ⟨h,-⟩|⟨h,-⟩|⟨-,-,r,hr,rfl⟩
 ·omega
 ·omega
 ·rw[hv]at hr
  obtain⟨N,hN⟩:∃N:Nat,N=4000:=⟨_,rfl⟩
  obtain⟨r',h1,h2,h3⟩:=jk (-1074) N (by omega) (by decide) (by decide) _ (hB N hN)
  have er:r'=r:=by
   rw[h1]at hr
   exact Option.some.inj hr
  rw[er]at h2 h3
  have hkl:(-1074:Int)≤qi n:=by rcases hn with rfl|rfl<;>decide
  have hz:vz (-1075) r=kvz n (-1075) K:=by
   rw[V6 (-1075) (-1074) r (by decide) h2.low,xl n (-1075) (-1074) K (by decide) hkl,h3]
  obtain⟨a1,a2,-⟩:=ky n hn r h2.ok (-1075) (fun g=>by have:=h2.low g;omega) (by omega) K b3.1 b3.2 hz
  rcases hw with rfl|rfl
  ·exact a1
  ·exact a2
theorem QO (n way k1 k2 K' K:Int)(hn:n=64∨n=32)(hw:way=1∨way=2)(z1:k1≠0)(z2:k2≠0)(b1:-(ifn n:Int)<k1∧k1<(ifn n:Int))(b2:-(ifn n:Int)<k2∧k2<(ifn n:Int))(b3:-(ifn n:Int)<K∧K<(ifn n:Int))(h:Prk n way k1 k2 K')(hv:kvz n (-1074) k1*kvz n (-1074) k2=kvz n (-2148) K)(hB:∀N,N=8000→(kvz n (-2148) K).natAbs<2^N):K'=K:=by
 rcases h with ⟨h,-⟩|⟨-,-,h,-⟩|⟨-,-,-,-,r,hr,rfl⟩
 ·omega
 ·omega
 ·rw[hv]at hr
  obtain⟨N,hN⟩:∃N:Nat,N=8000:=⟨_,rfl⟩
  obtain⟨r',h1,h2,h3⟩:=jk (-2148) N (by omega) (by decide) (by decide) _ (hB N hN)
  have er:r'=r:=by
   rw[h1]at hr
   exact Option.some.inj hr
  rw[er]at h2 h3
  have hkl:(-1074:Int)≤qi n:=by rcases hn with rfl|rfl<;>decide
  obtain⟨a1,a2,-⟩:=ky n hn r h2.ok (-2148) h2.low (by omega) K b3.1 b3.2 h3
  rcases hw with rfl|rfl
  ·exact a1
  ·exact a2
theorem Y8:∀(w:World),Tab w→Calls Tryz.prog 10 #[sp2 4607182418800017408 4607182418800017408,sp2 4607182418800017408 4611686018427387904,.int .i64 64] w fun e w'=>e=.returned (.tuple #[sp2 4611686018427387904 4613937818241073152,.int .i64 0])∧Kept w w':=by
 obtain⟨K1,K2,S1,S2,-,-,C⟩:=qet 4607182418800017408 4607182418800017408 4607182418800017408 4611686018427387904 64 (by unfold RB;omega) (by unfold RB;omega) (by unfold RB;omega) (by unfold RB;omega) (by decide) (by decide)
 have e1:qd 4607182418800017408 64=4607182418800017408:=by decide
 have e2:qd 4611686018427387904 64=4611686018427387904:=by decide
 rw[e1]at S1
 rw[e1,e2]at S2
 have k1:=QN 64 1 _ _ K1 4611686018427387904 (.inl rfl) (.inl rfl) (by decide) (by decide) (by decide) S1 (by decide+kernel) (fun N hN=>by subst hN;decide+kernel)
 have k2:=QN 64 2 _ _ K2 4613937818241073152 (.inl rfl) (.inr rfl) (by decide) (by decide) (by decide) S2 (by decide+kernel) (fun N hN=>by subst hN;decide+kernel)
 subst k1 k2
 exact C
theorem Y9:∀(w:World),Tab w→Calls Tryz.prog 11 #[sp2 1065353216 1065353216,sp2 1065353216 1073741824,.int .i64 32] w fun e w'=>e=.returned (.tuple #[sp2 1065353216 1073741824,.int .i64 0])∧Kept w w':=by
 obtain⟨d0,d1,d2,d3,u0,u1,u2,u3,⟨P0,P1,P2,P3⟩,⟨Q0,Q1,Q2,Q3⟩,-,C⟩:=qev 1065353216 1065353216 1065353216 1073741824 32 (by unfold RB;omega) (by unfold RB;omega) (by unfold RB;omega) (by unfold RB;omega) (by decide) (by decide)
 have e1:qd 1065353216 32=1065353216:=by decide
 have e2:qd 1073741824 32=1073741824:=by decide
 rw[e1]at P0 P1 P2 P3 Q0 Q1 Q2 Q3
 rw[e2]at P1 P3 Q1 Q3
 have A:∀way K',(way=1∨way=2)→Prk 32 way 1065353216 1065353216 K'→K'=1065353216:=fun way K' hw h=>QO 32 way _ _ K' 1065353216 (.inr rfl) hw (by decide) (by decide) (by decide) (by decide) (by decide) h (by decide+kernel) (fun N hN=>by subst hN;decide+kernel)
 have B:∀way K',(way=1∨way=2)→Prk 32 way 1065353216 1073741824 K'→K'=1073741824:=fun way K' hw h=>QO 32 way _ _ K' 1073741824 (.inr rfl) hw (by decide) (by decide) (by decide) (by decide) (by decide) h (by decide+kernel) (fun N hN=>by subst hN;decide+kernel)
 have a0:=A 1 d0 (.inl rfl) P0
 have a1:=B 1 d1 (.inl rfl) P1
 have a2:=A 1 d2 (.inl rfl) P2
 have a3:=B 1 d3 (.inl rfl) P3
 have c0:=A 2 u0 (.inr rfl) Q0
 have c1:=B 2 u1 (.inr rfl) Q1
 have c2:=A 2 u2 (.inr rfl) Q2
 have c3:=B 2 u3 (.inr rfl) Q3
 subst a0 a1 a2 a3 c0 c1 c2 c3
 exact C
theorem qgm (w:World)(hT:Tab w):Calls Tryz.prog 6 #[] w fun e w'=>e=.returned (.bool true)∧Kept w w':=by
 have KA:Hid (Calls Tryz.prog 10 #[sp2 4607182418800017408 4607182418800017408,sp2 4607182418800017408 4611686018427387904,.int .i64 64] w fun e w'=>e=.returned (.tuple #[sp2 4611686018427387904 4613937818241073152,.int .i64 0])∧Kept w w'):=Y8 w hT
 have KM:Hid (∀u,Kept w u→Calls Tryz.prog 11 #[sp2 1065353216 1065353216,sp2 1065353216 1073741824,.int .i64 32] u fun e w'=>e=.returned (.tuple #[sp2 1065353216 1073741824,.int .i64 0])∧Kept u w'):=fun u k=>Y9 u (hT.kept k)
 clear hT
 go_enter Tryz.func6,Tryz.ntmps6
 go_upto_region 3 with (first|(go_at_call 10;refine KA.out.mono ?_;rintro e w1 ⟨rfl,k1⟩))
 go_upto_region 4 with (first|(go_at_call 11;refine(KM.out _ (k1.alloc _ _)).mono ?_;rintro e w2 ⟨rfl,k2⟩))
 have hP:=P2.newk k2
 have hPa:=hP.alloc #[.int .i64 1065353216,.int .i64 1073741824] 23
 have hl:=hP.lt
 obtain⟨c0,c1,cf⟩:=hP
 go_wp2_with fail
 go_ret
 exact⟨rfl,((k1.alloc _ _).trans k2).alloc _ _⟩
structure Ar2 (w:World) (D m k:Nat) (fx fy:Nat→Nat):Prop where
 lt:D<w.heap.size
 ex:∀o,o<m*2→∃v,w.cell? ⟨D,o,none⟩=some v
 fz:∀o,w.frozen? ⟨D,o,none⟩=false
 c0:∀i,i<k→w.cell? ⟨D,i*2,none⟩=some (.float .f64 (fx i))
 c1:∀i,i<k→w.cell? ⟨D,i*2+1,none⟩=some (.float .f64 (fy i))
theorem Ar2.kept {w u:World}{D m k:Nat}{fx fy:Nat→Nat}(h:Ar2 w D m k fx fy)(kk:Kept w u):Ar2 u D m k fx fy:=
 ⟨qhu h.lt kk.below.size,fun o ho=>by obtain⟨v,hv⟩:=h.ex o ho;exact⟨v,(kk.below.cell (p:=⟨D,o,none⟩) h.lt).trans hv⟩,fun o=>(kk.frozen _).trans (h.fz o),fun i hi=>(kk.below.cell (p:=⟨D,i*2,none⟩) h.lt).trans (h.c0 i hi),fun i hi=>(kk.below.cell (p:=⟨D,i*2+1,none⟩) h.lt).trans (h.c1 i hi)⟩
theorem jl (w:World)(D o p:Nat)(v:Value)(h:∃x,w.cell? ⟨D,o,none⟩=some x):(w.setCell ⟨D,o,none⟩ v).cell? ⟨D,p,none⟩=if p=o then some v else w.cell? ⟨D,p,none⟩:=by
 obtain⟨x,hx⟩:=h
 by_cases hp:p=o
 ·subst hp
  simp[go_sem,hx]
 ·have hq:¬o=p:=fun e=>hp e.symm
  simp[go_sem,hp,hq]
theorem Ar2.put {w:World}{D m k:Nat}{fx fy:Nat→Nat}(h:Ar2 w D m k fx fy)(hk:k<m):Ar2 ((w.setCell ⟨D,k*2,none⟩ (.float .f64 (fx k))).setCell ⟨D,k*2+1,none⟩ (.float .f64 (fy k))) D m (k+1) fx fy:=by
 have e1:=h.ex (k*2) (by omega)
 have e2:∃v,(w.setCell ⟨D,k*2,none⟩ (.float .f64 (fx k))).cell? ⟨D,k*2+1,none⟩=some v:=by
  obtain⟨v,hv⟩:=h.ex (k*2+1) (by omega)
  exact⟨v,by rw[jl _ _ _ _ _ e1,if_neg (by omega),hv]⟩
 refine⟨by simp;exact h.lt,fun o ho=>?_,fun o=>by simp[World.frozen?_setCell,h.fz],fun i hi=>?_,fun i hi=>?_⟩
 ·rw[jl _ _ _ _ _ e2,jl _ _ _ _ _ e1]
  split
  ·exact⟨_,rfl⟩
  ·split
   ·exact⟨_,rfl⟩
   ·exact h.ex o ho
 ·rw[jl _ _ _ _ _ e2,jl _ _ _ _ _ e1,if_neg (by omega)]
  by_cases hik:i=k
  ·subst hik;rw[if_pos rfl]
  ·rw[if_neg (by omega)];exact h.c0 i (by omega)
 ·rw[jl _ _ _ _ _ e2,jl _ _ _ _ _ e1]
  by_cases hik:i=k
  ·subst hik;rw[if_pos rfl]
  ·rw[if_neg (by omega),if_neg (by omega)];exact h.c1 i (by omega)
theorem Ar2.ivs {w:World}{D m:Nat}{fx fy:Nat→Nat}(h:Ar2 w D m m fx fy):Ivs w (some ⟨D,0,none⟩) m fx fy:=fun u kk i hi=>by
 have g:=h.kept kk
 exact⟨D,0,rfl,by rw[Nat.zero_add];exact g.c0 i hi,by rw[Nat.zero_add];exact g.c1 i hi⟩
theorem qek:(Tryz.prog.info? 68).map (fun i=>(i.zero,i.size,i.bytes))=some (some (.agg #[.float .f64 0,.float .f64 0]),2,16):=by kernel_rfl
theorem qbt:Tryz.prog.underlying 90=some (.slice 68):=by kernel_rfl
theorem QK (k:Nat)(hk:k≤1000000)(w:World):(Instr.makeSlice 90 (.int .i64 (k:Int)) (.int .i64 (k:Int))).run Tryz.prog w=.ok (.slice (some ⟨w.heap.size,0,none⟩) k k) (w.alloc (.cells (madeCells #[.float .f64 0,.float .f64 0] (k*2)) 68)):=by
 obtain⟨i,hi,hz,hs,hby⟩:=info_parts qek
 have:=run_make (P:=Tryz.prog) w 90 68 i _ qbt hi hz .i64 .i64 (k:Int) (k:Int) (by omega) (Int.le_refl _) (by rw[hby];omega) (by omega)
 rw[hs,Int.toNat_natCast]at this
 exact this
theorem Ar2.made (m:Nat)(fx fy:Nat→Nat)(w:World):Ar2 (w.alloc (.cells (madeCells #[.float .f64 0,.float .f64 0] (m*2)) 68)) w.heap.size m 0 fx fy:=by
 refine⟨by simp,fun o ho=>?_,fun o=>by simp[go_sem],fun i hi=>absurd hi (Nat.not_lt_zero _),fun i hi=>absurd hi (Nat.not_lt_zero _)⟩
 rw[World.cell?_alloc_at _ _ _ _ rfl]
 have hs:=size_madeCells #[.float .f64 0,.float .f64 0] (m*2)
 exact⟨_,Array.getElem?_eq_getElem (by omega)⟩
def Sps (w:World)(ao:Option Addr)(m:Nat)(la lb:Nat→Int):Prop:=∀u,Kept w u→∀i,i<m→∃b off,ao=some ⟨b,off,none⟩∧u.cell? ⟨b,off+i*2,none⟩=some (.int .i64 (la i))∧u.cell? ⟨b,off+i*2+1,none⟩=some (.int .i64 (lb i))
theorem qbu (n:Int)(m c:Nat)(hm:m≤65536)(la lb:Nat→Int)(fx fy:Nat→Nat)(ao:Option Addr)(p1 p2:Int)(J:Nat→Nat→Prop)(w:World)(hI:Sps w ao m la lb)
  (KV:Hid (∀u,Calls Tryz.prog 65 #[.int .i64 0,.int .i64 n] u fun e w'=>e=.returned (.bool true)∧u=w'))
  (KO:Hid (∀i,i<m→∀u,Calls Tryz.prog 66 #[sp2 (la i) (lb i),.int .i64 n] u fun e w'=>e=.returned (.tuple #[fv2 (fx i) (fy i),.int .i64 0])∧Kept u w'))
  (KJ:Hid (∀u D,Kept w u→Ivs u (some ⟨D,0,none⟩) m fx fy→Calls Tryz.prog 47 #[.int .i64 n,.slice (some ⟨D,0,none⟩) m m] u fun e w'=>∃x y,e=.returned (fv2 x y)∧J x y∧Kept u w'))
  (KT:Hid (∀u x y,J x y→Calls Tryz.prog 46 #[fv2 x y,.int .i64 n,.int .i64 0] u fun e w'=>e=.returned (.tuple #[sp2 p1 p2,.int .i64 0])∧Kept u w')):
  Calls Tryz.prog 26 #[.slice ao m c,.int .i64 n] w fun e w'=>e=.returned (.tuple #[sp2 p1 p2,.int .i64 0])∧Kept w w':=by
 have HI:Hid (Sps w ao m la lb):=hI
 clear hI
 have hSF:=j6
 obtain⟨X,hX⟩:∃X,X=w.alloc (.cells #[.int .i64 0,.int .i64 0] 23):=⟨_,rfl⟩
 have hK:Kept w X:=by
  rw[hX]
  exact(qia w).alloc _ _
 have hQ:P2 X w.heap.size (.int .i64 0) (.int .i64 0):=by
  rw[hX]
  exact P2.new w _ _ _
 obtain⟨H0,hH0⟩:∃H,H=w.heap.size:=⟨_,rfl⟩
 rw[←hH0]at hQ
 have o0:w.heap.size≤H0:=by omega
 have hlen:decide ((m:Int)>65536)=false:=by rw[decide_eq_false_iff_not];omega
 have hlen2:decide ((65536:Int)<(m:Int))=false:=by rw[decide_eq_false_iff_not];omega
 have hmk:=QK m (by omega) X
 have hA:=Ar2.made m fx fy X
 obtain⟨Y,hY⟩:∃Y,Y=X.alloc (.cells (madeCells #[.float .f64 0,.float .f64 0] (m*2)) 68):=⟨_,rfl⟩
 have kXY:Kept X Y:=by
  rw[hY]
  exact(qia X).alloc _ _
 obtain⟨D,hD⟩:∃D,D=X.heap.size:=⟨_,rfl⟩
 have nD:H0≠D:=by have:=hQ.lt;omega
 have nD':D≠H0:=fun e=>nD e.symm
 have oD:w.heap.size≤D:=by have:=hK.below.size;omega
 rw[←hY,←hD]at hmk hA
 go_enter Tryz.func26,Tryz.ntmps26
 go_upto_region 1 with fail
 rw[←hX,←hH0]
 clear hX hH0 hY hD
 go_upto_region 7 with (first|(go_at_call 65;refine(KV.out _).mono ?_;rintro e w1 ⟨rfl,rfl⟩))
 clear KV hmk
 have hQ:=hQ.kept kXY
 have hK:=hK.trans kXY
 clear kXY
 go_loopw [26] (fun i wr=>∃(k:Nat),k≤m∧i=.int .i64 k∧Ar2 wr D m k fx fy∧P2 wr H0 (.int .i64 0) (.int .i64 0)∧Kept w wr) (fun i _=>m-(intOf i).toNat)
 case atStart=>exact⟨0,Nat.zero_le _,rfl,hA,hQ,hK⟩
 case round=>
  clear hQ hK hA
  obtain⟨k,hk,rfl,hA,hQ,hK⟩:=hrel
  by_cases hkm:k<m
  ·obtain⟨b,off,rfl,ci0,ci1⟩:=HI.out _ hK k hkm
   have KO2:Hid (∀u,Calls Tryz.prog 66 #[sp2 (la k) (lb k),.int .i64 n] u fun e w'=>e=.returned (.tuple #[fv2 (fx k) (fy k),.int .i64 0])∧Kept u w'):=KO.out k hkm
   have HP:Hid (∀u,Kept wr u→Ar2 ((u.setCell ⟨D,k*2,none⟩ (.float .f64 (fx k))).setCell ⟨D,k*2+1,none⟩ (.float .f64 (fy k))) D m (k+1) fx fy):=fun u kk=>(hA.kept kk).put hkm
   have HE:Hid (∀u,Kept wr u→∃v0 v1,u.cell? ⟨D,k*2,none⟩=some v0∧u.cell? ⟨D,k*2+1,none⟩=some v1):=fun u kk=>by
    obtain⟨v0,h0⟩:=(hA.kept kk).ex (k*2) (by omega)
    obtain⟨v1,h1⟩:=(hA.kept kk).ex (k*2+1) (by omega)
    exact⟨v0,v1,h0,h1⟩
   have HF:Hid (∀u,Kept wr u→u.frozen? ⟨D,k*2,none⟩=false∧u.frozen? ⟨D,k*2+1,none⟩=false):=fun u kk=>⟨(hA.kept kk).fz _,(hA.kept kk).fz _⟩
   clear KO KJ KT HI hA
   generalize la k=l0 at *
   generalize lb k=l1 at *
   generalize fx k=xk at *
   generalize fy k=yk at *
   go_wp2_with (first|(go_at_call 66;refine(KO2.out _).mono ?_;rintro e w5 ⟨rfl,k5⟩;have k6:=(((qia wr).alloc _ _).trans k5).alloc #[.float .f64 xk,.float .f64 yk] 68;obtain⟨v0,v1,s0,s1⟩:=HE.out _ k6;obtain⟨g0,g1⟩:=HF.out _ k6))
   go_roundw
   case rel=>exact⟨k+1,by omega,by go_num,HP.out _ k6,((hQ.kept k6).set D _ nD' _).set D _ nD' _,((hK.trans k6).setCell oD _).setCell oD _⟩
   case measure=>simp[intOf];omega
  ·obtain rfl:k=m:=by omega
   have hIv:=hA.ivs
   clear KO HI
   go_wp2_with (first|(go_at_call 47;refine(KJ.out _ _ hK hIv).mono ?_;rintro e w2 ⟨x,y,rfl,hJ,k2⟩)|(go_at_call 46;refine(KT.out _ _ _ hJ).mono ?_;rintro e w3 ⟨rfl,k3⟩;have k4:=k2.trans k3;have hz:=(hQ.kept k4).put (.int .i64 p1) (.int .i64 p2);obtain⟨d0,d1,df⟩:=hQ.kept k4;obtain⟨e0,e1,ef⟩:=hz))
   exact qh9 (v:=.tuple #[sp2 p1 p2,.int .i64 0]) (by simp[results,Tryz.results26,go_sem,e0,e1]) rfl ⟨rfl,((hK.trans k4).setCell o0 _).setCell o0 _⟩
end Go.Proofs.YtaglkncdedeipaaGreatDoor
namespace Go.Proofs.YtaglkncdedeipaaGreatDoor
open Go
set_option linter.unusedVariables false
set_option linter.unusedSimpArgs false
set_option maxHeartbeats 16000000
set_option maxRecDepth 100000
section
variable {P:Program} {ops:Array Oper} {Q:Exit→Act→World→Prop} {md:Region.Mode} {S:World→Prop} {D:List Nat} {i1 i2:Nat} {d1 d2:Tmp}
end
end Go.Proofs.YtaglkncdedeipaaGreatDoor
namespace Go.Proofs.YtaglkncdedeipaaGreatDoor
open Go.ChangeShapes Go.WideShapes Go.ChangeAt Go.RowKit
set_option linter.unusedVariables false
set_option linter.unusedSimpArgs false
set_option maxHeartbeats 16000000
set_option maxRecDepth 100000
theorem j4 (w:World):Calls Tryz.prog 86 #[.int .i64 64] w fun e w'=>e=.returned (.tuple #[.agg #[.int .i64 64,.int .i64 53,.int .i64 4503599627370496,.int .i64 2047,.int .i64 (-1074),.int .i64 1024,.int .i64 9218868437227405312,.int .i64 (-9223372036854775808),.int .i64 9221120237041090561],.bool true])∧Kept w w':=by
 go_enter Tryz.func86,Tryz.ntmps86
 go_wp2
 exact qh9 (v:=.tuple #[.agg #[.int .i64 64,.int .i64 53,.int .i64 4503599627370496,.int .i64 2047,.int .i64 (-1074),.int .i64 1024,.int .i64 9218868437227405312,.int .i64 (-9223372036854775808),.int .i64 9221120237041090561],.bool true]) (by simp[results,Tryz.results86,go_sem]) rfl ⟨rfl,(qia _).alloc _ _⟩
theorem j5 (w:World):Calls Tryz.prog 86 #[.int .i64 32] w fun e w'=>e=.returned (.tuple #[.agg #[.int .i64 32,.int .i64 24,.int .i64 8388608,.int .i64 255,.int .i64 (-149),.int .i64 128,.int .i64 2139095040,.int .i64 2147483648,.int .i64 2143289345],.bool true])∧Kept w w':=by
 go_enter Tryz.func86,Tryz.ntmps86
 go_wp2
 exact qh9 (v:=.tuple #[.agg #[.int .i64 32,.int .i64 24,.int .i64 8388608,.int .i64 255,.int .i64 (-149),.int .i64 128,.int .i64 2139095040,.int .i64 2147483648,.int .i64 2143289345],.bool true]) (by simp[results,Tryz.results86,go_sem]) rfl ⟨rfl,(qia _).alloc _ _⟩
theorem qbk (n:Int)(h1:(n==32)=false)(h2:(n==64)=false)(w:World):Calls Tryz.prog 86 #[.int .i64 n] w fun e w'=>e=.returned (.tuple #[.agg #[.int .i64 0,.int .i64 0,.int .i64 0,.int .i64 0,.int .i64 0,.int .i64 0,.int .i64 0,.int .i64 0,.int .i64 0],.bool false])∧Kept w w':=by
 go_enter Tryz.func86,Tryz.ntmps86
 go_wp2
 exact qh9 (v:=.tuple #[.agg #[.int .i64 0,.int .i64 0,.int .i64 0,.int .i64 0,.int .i64 0,.int .i64 0,.int .i64 0,.int .i64 0,.int .i64 0],.bool false]) (by simp[results,Tryz.results86,go_sem]) rfl ⟨rfl,(qia _).alloc _ _⟩
theorem Vd (b:Int)(h0:0≤b)(hu:b≤9223372036854775807)(w:World):Calls Tryz.prog 87 #[.agg #[.int .i64 64,.int .i64 53,.int .i64 4503599627370496,.int .i64 2047,.int .i64 (-1074),.int .i64 1024,.int .i64 9218868437227405312,.int .i64 (-9223372036854775808),.int .i64 9221120237041090561],.int .i64 b] w fun e w'=>e=.returned (.tuple #[.bool false,.int .i64 (b/4503599627370496),.int .i64 (b%4503599627370496),.bool true])∧Kept w w':=by
 go_enter Tryz.func87,Tryz.ntmps87
 go_wp2
 go_quiet (fail)
 go_wp2
 exact qh9 (v:=.tuple #[.bool false,.int .i64 (b/4503599627370496),.int .i64 (b%4503599627370496),.bool true]) (by simp[results,Tryz.results87,go_sem,h0]) rfl ⟨rfl,(((qia _).alloc _ _).drewN _)⟩
theorem Ve (b:Int)(h0:b<0)(hu:-9223372036854775808≤b)(w:World):Calls Tryz.prog 87 #[.agg #[.int .i64 64,.int .i64 53,.int .i64 4503599627370496,.int .i64 2047,.int .i64 (-1074),.int .i64 1024,.int .i64 9218868437227405312,.int .i64 (-9223372036854775808),.int .i64 9221120237041090561],.int .i64 b] w fun e w'=>e=.returned (.tuple #[.bool true,.int .i64 ((b- -9223372036854775808)/4503599627370496),.int .i64 ((b- -9223372036854775808)%4503599627370496),.bool true])∧Kept w w':=by
 go_enter Tryz.func87,Tryz.ntmps87
 go_wp2
 go_quiet (fail)
 go_wp2
 exact qh9 (v:=.tuple #[.bool true,.int .i64 ((b- -9223372036854775808)/4503599627370496),.int .i64 ((b- -9223372036854775808)%4503599627370496),.bool true]) (by simp[results,Tryz.results87,go_sem]) rfl ⟨rfl,(((qia _).alloc _ _).drewN _)⟩
theorem Vf (b:Int)(h0:b<0)(w:World):Calls Tryz.prog 87 #[.agg #[.int .i64 32,.int .i64 24,.int .i64 8388608,.int .i64 255,.int .i64 (-149),.int .i64 128,.int .i64 2139095040,.int .i64 2147483648,.int .i64 2143289345],.int .i64 b] w fun e w'=>e=.returned (.tuple #[.bool false,.int .i64 0,.int .i64 0,.bool false])∧Kept w w':=by
 go_enter Tryz.func87,Tryz.ntmps87
 go_wp2
 exact qh9 (v:=.tuple #[.bool false,.int .i64 0,.int .i64 0,.bool false]) (by simp[results,Tryz.results87,go_sem]) rfl ⟨rfl,((qia _).alloc _ _)⟩
theorem Vg (b:Int)(h0:4294967296≤b)(w:World):Calls Tryz.prog 87 #[.agg #[.int .i64 32,.int .i64 24,.int .i64 8388608,.int .i64 255,.int .i64 (-149),.int .i64 128,.int .i64 2139095040,.int .i64 2147483648,.int .i64 2143289345],.int .i64 b] w fun e w'=>e=.returned (.tuple #[.bool false,.int .i64 0,.int .i64 0,.bool false])∧Kept w w':=by
 go_enter Tryz.func87,Tryz.ntmps87
 go_wp2
 exact qh9 (v:=.tuple #[.bool false,.int .i64 0,.int .i64 0,.bool false]) (by simp[results,Tryz.results87,go_sem]) rfl ⟨rfl,((qia _).alloc _ _)⟩
theorem Vh (b:Int)(h0:0≤b)(hu:b<4294967296)(w:World):Calls Tryz.prog 87 #[.agg #[.int .i64 32,.int .i64 24,.int .i64 8388608,.int .i64 255,.int .i64 (-149),.int .i64 128,.int .i64 2139095040,.int .i64 2147483648,.int .i64 2143289345],.int .i64 b] w fun e w'=>e=.returned (.tuple #[.bool (decide (2147483648≤b)),.int .i64 (b%2147483648/8388608),.int .i64 (b%8388608),.bool true])∧Kept w w':=by
 go_enter Tryz.func87,Tryz.ntmps87
 go_wp2
 go_quiet (fail)
 go_wp2
 exact qh9 (v:=.tuple #[.bool (decide (2147483648≤b)),.int .i64 (b%2147483648/8388608),.int .i64 (b%8388608),.bool true]) (by simp[results,Tryz.results87,go_sem]) rfl ⟨rfl,(((qia _).alloc _ _).drewN _)⟩
def thr (b:Int):Bool:=decide (0≤b∧b<4294967296)
def zt (b:Int):Int:=b%9223372036854775808/4503599627370496
def z9 (b:Int):Int:=b%4503599627370496
def zW (b:Int):Int:=if thr b=true then b%2147483648/8388608 else 0
def jj (b:Int):Int:=if thr b=true then b%8388608 else 0
def jb (b:Int):Bool:=thr b&&sgn b 32
theorem ke (b:Int)(hb1:-9223372036854775808≤b)(hb2:b≤9223372036854775807)(w:World):Calls Tryz.prog 87 #[.agg #[.int .i64 64,.int .i64 53,.int .i64 4503599627370496,.int .i64 2047,.int .i64 (-1074),.int .i64 1024,.int .i64 9218868437227405312,.int .i64 (-9223372036854775808),.int .i64 9221120237041090561],.int .i64 b] w fun e w'=>e=.returned (.tuple #[.bool (sgn b 64),.int .i64 (zt b),.int .i64 (z9 b),.bool true])∧Kept w w':=by
 by_cases h:0≤b
 ·refine(Vd b h hb2 w).mono ?_
  rintro e w' ⟨rfl,hk⟩
  exact⟨qH (by simp[sgn];omega) (by unfold zt;omega) (by unfold z9;omega) rfl,hk⟩
 ·refine(Ve b (by omega) hb1 w).mono ?_
  rintro e w' ⟨rfl,hk⟩
  exact⟨qH (by simp[sgn];omega) (by unfold zt;omega) (by unfold z9;omega) rfl,hk⟩
theorem kg (b:Int)(w:World):Calls Tryz.prog 87 #[.agg #[.int .i64 32,.int .i64 24,.int .i64 8388608,.int .i64 255,.int .i64 (-149),.int .i64 128,.int .i64 2139095040,.int .i64 2147483648,.int .i64 2143289345],.int .i64 b] w fun e w'=>e=.returned (.tuple #[.bool (jb b),.int .i64 (zW b),.int .i64 (jj b),.bool (thr b)])∧Kept w w':=by
 by_cases hv:0≤b∧b<4294967296
 ·have ht:thr b=true:=by simp[thr,hv]
  refine(Vh b hv.1 hv.2 w).mono ?_
  rintro e w' ⟨rfl,hk⟩
  exact⟨qH (by simp[jb,ht,sgn]) (by simp[zW,ht]) (by simp[jj,ht]) ht.symm,hk⟩
 ·have ht:thr b=false:=by simp[thr];omega
  by_cases h:b<0
  ·refine(Vf b h w).mono ?_
   rintro e w' ⟨rfl,hk⟩
   exact⟨qH (by simp[jb,ht]) (by simp[zW,ht]) (by simp[jj,ht]) ht.symm,hk⟩
  ·refine(Vg b (by omega) w).mono ?_
   rintro e w' ⟨rfl,hk⟩
   exact⟨qH (by simp[jb,ht]) (by simp[zW,ht]) (by simp[jj,ht]) ht.symm,hk⟩
theorem kh {a b:Bool}(h:a=b):Ending.returned (.bool a)=.returned (.bool b):=by rw[h]
theorem yc (b n:Int)(hb1:-9223372036854775808≤b)(hb2:b≤9223372036854775807)(w:World):Calls Tryz.prog 50 #[.int .i64 b,.int .i64 n] w fun e w'=>e=.returned (.bool (val b n))∧Kept w w':=by
 by_cases h64:n=64
 ·subst h64
  go_enter Tryz.func50,Tryz.ntmps50
  go_wp2_with (first|(go_at_call 86;refine(j4 _).mono ?_;rintro e w1 ⟨rfl,hk1⟩)|(go_at_call 87;refine(ke _ hb1 hb2 _).mono ?_;rintro e w2 ⟨rfl,hk2⟩))
  go_ret
  exact⟨kh (by simp[val]),(hk1.alloc _ _).trans hk2⟩
 ·by_cases h32:n=32
  ·subst h32
   go_enter Tryz.func50,Tryz.ntmps50
   go_wp2_with (first|(go_at_call 86;refine(j5 _).mono ?_;rintro e w1 ⟨rfl,hk1⟩)|(go_at_call 87;refine(kg _ _).mono ?_;rintro e w2 ⟨rfl,hk2⟩))
   go_ret
   exact⟨kh (by simp[val,thr]),(hk1.alloc _ _).trans hk2⟩
  ·have e1:(n==32)=false:=by simpa using h32
   have e2:(n==64)=false:=by simpa using h64
   have hv:val b n=false:=by simp[val,h64,h32]
   clear h64 h32
   go_enter Tryz.func50,Tryz.ntmps50
   go_wp2_with (first|(go_at_call 86;refine(qbk _ e1 e2 _).mono ?_;rintro e w1 ⟨rfl,hk1⟩))
   go_ret
   exact⟨kh hv.symm,(hk1.alloc _ _)⟩
theorem YW (b:Int):cls b 64=if (zt b=2047∧0<z9 b)then 4 else if zt b=2047 then 3 else if 0<zt b then 2 else if 0<z9 b then 1 else 0:=by
 unfold cls zc zt z9
 rw[if_pos rfl]
 (repeat' split)<;>omega
theorem YX (b:Int):cls b 32=if (thr b=false∨zW b=255∧0<jj b)then 4 else if zW b=255 then 3 else if 0<zW b then 2 else if 0<jj b then 1 else 0:=by
 unfold cls
 rw[if_neg (by decide),if_pos rfl]
 by_cases hv:0≤b∧b<4294967296
 ·have ht:thr b=true:=by simp[thr,hv]
  rw[if_pos hv]
  simp only[zW,jj,ht,if_true,Bool.true_eq_false,false_or]
  unfold zc
  (repeat' split)<;>omega
 ·have ht:thr b=false:=by simp[thr];omega
  rw[if_neg hv,if_pos (Or.inl ht)]
theorem qu (b n:Int)(hb1:-9223372036854775808≤b)(hb2:b≤9223372036854775807)(w:World):Calls Tryz.prog 72 #[.int .i64 b,.int .i64 n] w fun e w'=>e=.returned (.int .i64 (cls b n))∧Kept w w':=by
  by_cases h64:n=64
  · subst h64
    go_enter Tryz.func72,Tryz.ntmps72
    go_wp2_with (first|(go_at_call 86;refine(j4 _).mono ?_;rintro e w1 ⟨rfl,hk1⟩)|(go_at_call 87;refine(ke _ hb1 hb2 _).mono ?_;rintro e w2 ⟨rfl,hk2⟩;have hcl:=qg hk2))
    all_goals
      go_ret
      refine⟨qn ?_,(hk1.alloc _ _).trans hk2⟩
      rw[YW]
      (repeat' split)<;>omega
  · by_cases h32:n=32
    · subst h32
      go_enter Tryz.func72,Tryz.ntmps72
      go_wp2_with (first|(go_at_call 86;refine(j5 _).mono ?_;rintro e w1 ⟨rfl,hk1⟩)|(go_at_call 87;refine(kg _ _).mono ?_;rintro e w2 ⟨rfl,hk2⟩;have hcl:=qg hk2))
      all_goals
        go_ret
        refine⟨qn ?_,(hk1.alloc _ _).trans hk2⟩
        rw[YX]
        first
          | (have hf:thr b=false:=by simpa using ‹¬thr b=true›
             rw[if_pos (Or.inl hf)])
          | (have ht:thr b=true:=by assumption
             simp only[ht,Bool.true_eq_false,false_or]
             (repeat' split)<;>omega)
    · have e1:(n==32)=false:=by simpa using h32
      have e2:(n==64)=false:=by simpa using h64
      have hv:Hid (cls b n=0):=by show cls b n=0;simp[cls,h64,h32]
      clear h64 h32
      go_enter Tryz.func72,Tryz.ntmps72
      go_wp2_with (first|(go_at_call 86;refine(qbk _ e1 e2 _).mono ?_;rintro e w1 ⟨rfl,hk1⟩))
      go_ret
      exact⟨qn hv.out.symm,(hk1.alloc _ _)⟩
theorem YY (b n:Int)(hb1:-9223372036854775808≤b)(hb2:b≤9223372036854775807)(hn:n=64∨n=32)(hc:3≤cls b n)(w:World):Calls Tryz.prog 99 #[.int .i64 b,.int .i64 n] w fun e w'=>e=.returned (.tuple #[.bool false,.int .i64 0,.int .i64 0,.bool false])∧Kept w w':=by
 rcases hn with rfl|rfl
 ·go_enter Tryz.func99,Tryz.ntmps99
  go_wp2_with (first|(go_at_call 86;refine(j4 _).mono ?_;rintro e w1 ⟨rfl,hk1⟩)|(go_at_call 72;refine(qu _ _ hb1 hb2 _).mono ?_;rintro e w2 ⟨rfl,hk2⟩))
  exact qh9 (v:=.tuple #[.bool false,.int .i64 0,.int .i64 0,.bool false]) (by simp[results,Tryz.results99,go_sem]) rfl ⟨rfl,(hk1.alloc _ _).trans hk2⟩
 ·go_enter Tryz.func99,Tryz.ntmps99
  go_wp2_with (first|(go_at_call 86;refine(j5 _).mono ?_;rintro e w1 ⟨rfl,hk1⟩)|(go_at_call 72;refine(qu _ _ hb1 hb2 _).mono ?_;rintro e w2 ⟨rfl,hk2⟩))
  exact qh9 (v:=.tuple #[.bool false,.int .i64 0,.int .i64 0,.bool false]) (by simp[results,Tryz.results99,go_sem]) rfl ⟨rfl,(hk1.alloc _ _).trans hk2⟩
theorem JP (b n:Int)(h1:(n==32)=false)(h2:(n==64)=false)(w:World):Calls Tryz.prog 99 #[.int .i64 b,.int .i64 n] w fun e w'=>e=.returned (.tuple #[.bool false,.int .i64 0,.int .i64 0,.bool false])∧Kept w w':=by
 go_enter Tryz.func99,Tryz.ntmps99
 go_wp2_with (first|(go_at_call 86;refine(qbk _ h1 h2 _).mono ?_;rintro e w1 ⟨rfl,hk1⟩))
 exact qh9 (v:=.tuple #[.bool false,.int .i64 0,.int .i64 0,.bool false]) (by simp[results,Tryz.results99,go_sem]) rfl ⟨rfl,(hk1.alloc _ _)⟩
theorem Qa (b:Int)(hb1:-9223372036854775808≤b)(hb2:b≤9223372036854775807)(hc:cls b 64<3)(hl:(zt b==0)=true)(w:World):Calls Tryz.prog 99 #[.int .i64 b,.int .i64 64] w fun e w'=>e=.returned (.tuple #[.bool (sgn b 64),.int .i64 (z9 b),.int .i64 (-1074),.bool true])∧Kept w w':=by
 go_enter Tryz.func99,Tryz.ntmps99
 go_wp2_with (first|(go_at_call 86;refine(j4 _).mono ?_;rintro e w1 ⟨rfl,hk1⟩)|(go_at_call 72;refine(qu _ _ hb1 hb2 _).mono ?_;rintro e w2 ⟨rfl,hk2⟩;have hcl:=qg hk2)|(go_at_call 87;refine(ke _ hb1 hb2 _).mono ?_;rintro e w3 ⟨rfl,hk3⟩;have hcl3:=qg (hk2.trans hk3)))
 go_quiet (fail)
 go_wp2
 exact qh9 (v:=.tuple #[.bool (sgn b 64),.int .i64 (z9 b),.int .i64 (-1074),.bool true]) (by simp[results,Tryz.results99,go_sem]) rfl ⟨rfl,(((hk1.alloc _ _).trans hk2).trans hk3).drewN _⟩
theorem Qb (b:Int)(hb1:-9223372036854775808≤b)(hb2:b≤9223372036854775807)(hf1:0≤zt b)(hf2:zt b≤4096)(ht1:0≤z9 b)(ht2:z9 b≤4503599627370496)(hc:cls b 64<3)(hl:(zt b==0)=false)(w:World):Calls Tryz.prog 99 #[.int .i64 b,.int .i64 64] w fun e w'=>e=.returned (.tuple #[.bool (sgn b 64),.int .i64 (4503599627370496+z9 b),.int .i64 (zt b+-1074-1),.bool true])∧Kept w w':=by
 go_enter Tryz.func99,Tryz.ntmps99
 go_wp2_with (first|(go_at_call 86;refine(j4 _).mono ?_;rintro e w1 ⟨rfl,hk1⟩)|(go_at_call 72;refine(qu _ _ hb1 hb2 _).mono ?_;rintro e w2 ⟨rfl,hk2⟩;have hcl:=qg hk2)|(go_at_call 87;refine(ke _ hb1 hb2 _).mono ?_;rintro e w3 ⟨rfl,hk3⟩;have hcl3:=qg (hk2.trans hk3)))
 go_quiet (fail)
 go_wp2
 exact qh9 (v:=.tuple #[.bool (sgn b 64),.int .i64 (4503599627370496+z9 b),.int .i64 (zt b+-1074-1),.bool true]) (by simp[results,Tryz.results99,go_sem]) rfl ⟨rfl,(((hk1.alloc _ _).trans hk2).trans hk3).drewN _⟩
theorem Qc (b:Int)(hb1:-9223372036854775808≤b)(hb2:b≤9223372036854775807)(hc:cls b 32<3)(hl:(zW b==0)=true)(w:World):Calls Tryz.prog 99 #[.int .i64 b,.int .i64 32] w fun e w'=>e=.returned (.tuple #[.bool (jb b),.int .i64 (jj b),.int .i64 (-149),.bool true])∧Kept w w':=by
 go_enter Tryz.func99,Tryz.ntmps99
 go_wp2_with (first|(go_at_call 86;refine(j5 _).mono ?_;rintro e w1 ⟨rfl,hk1⟩)|(go_at_call 72;refine(qu _ _ hb1 hb2 _).mono ?_;rintro e w2 ⟨rfl,hk2⟩;have hcl:=qg hk2)|(go_at_call 87;refine(kg _ _).mono ?_;rintro e w3 ⟨rfl,hk3⟩;have hcl3:=qg (hk2.trans hk3)))
 go_quiet (fail)
 go_wp2
 exact qh9 (v:=.tuple #[.bool (jb b),.int .i64 (jj b),.int .i64 (-149),.bool true]) (by simp[results,Tryz.results99,go_sem]) rfl ⟨rfl,(((hk1.alloc _ _).trans hk2).trans hk3).drewN _⟩
theorem Qd (b:Int)(hb1:-9223372036854775808≤b)(hb2:b≤9223372036854775807)(hf1:0≤zW b)(hf2:zW b≤4096)(ht1:0≤jj b)(ht2:jj b≤8388608)(hc:cls b 32<3)(hl:(zW b==0)=false)(w:World):Calls Tryz.prog 99 #[.int .i64 b,.int .i64 32] w fun e w'=>e=.returned (.tuple #[.bool (jb b),.int .i64 (8388608+jj b),.int .i64 (zW b+-149-1),.bool true])∧Kept w w':=by
 go_enter Tryz.func99,Tryz.ntmps99
 go_wp2_with (first|(go_at_call 86;refine(j5 _).mono ?_;rintro e w1 ⟨rfl,hk1⟩)|(go_at_call 72;refine(qu _ _ hb1 hb2 _).mono ?_;rintro e w2 ⟨rfl,hk2⟩;have hcl:=qg hk2)|(go_at_call 87;refine(kg _ _).mono ?_;rintro e w3 ⟨rfl,hk3⟩;have hcl3:=qg (hk2.trans hk3)))
 go_quiet (fail)
 go_wp2
 exact qh9 (v:=.tuple #[.bool (jb b),.int .i64 (8388608+jj b),.int .i64 (zW b+-149-1),.bool true]) (by simp[results,Tryz.results99,go_sem]) rfl ⟨rfl,(((hk1.alloc _ _).trans hk2).trans hk3).drewN _⟩
theorem Vi (b n:Int)(hb1:-9223372036854775808≤b)(hb2:b≤9223372036854775807)(w:World):Calls Tryz.prog 99 #[.int .i64 b,.int .i64 n] w fun e w'=>e=.returned (.tuple #[.bool (qS b n),.int .i64 (qw b n),.int .i64 (qA b n),.bool (fin b n)])∧Kept w w':=by
 by_cases hn:n=64∨n=32
 ·by_cases hc:cls b n<3
  ·have hf:fin b n=true:=by simp[fin,hn,hc]
   rcases hn with rfl|rfl
   ·by_cases hl:zt b=0
    ·have hl':b%9223372036854775808<4503599627370496:=by unfold zt at hl;omega
     refine(Qa b hb1 hb2 hc (by simpa using hl) w).mono ?_
     rintro e w' ⟨rfl,hk⟩
     exact⟨qH (by simp[qS,hf]) (by simp only[qw,hf,if_true,hl',z9];omega) (by simp[qA,hf,hl']) hf.symm,hk⟩
    ·have hl':¬b%9223372036854775808<4503599627370496:=by unfold zt at hl;omega
     refine(Qb b hb1 hb2 (by unfold zt;omega) (by unfold zt;omega) (by unfold z9;omega) (by unfold z9;omega) hc (by simpa using hl) w).mono ?_
     rintro e w' ⟨rfl,hk⟩
     exact⟨qH (by simp[qS,hf]) (by simp only[qw,hf,if_true,hl',if_false,z9];omega) (by simp only[qA,hf,if_true,hl',if_false,zt];omega) hf.symm,hk⟩
   ·have hv:=qG b (by omega)
    have ht:thr b=true:=by simp[thr,hv]
    have e1:zW b=b%2147483648/8388608:=by simp[zW,ht]
    have e2:jj b=b%8388608:=by simp[jj,ht]
    have e3:jb b=qS b 32:=by simp[jb,ht,qS,hf]
    by_cases hl:zW b=0
    ·have hl':b%2147483648<8388608:=by omega
     refine(Qc b hb1 hb2 hc (by simpa using hl) w).mono ?_
     rintro e w' ⟨rfl,hk⟩
     exact⟨qH e3 (by rw[e2];simp[qw,hf,hl'];omega) (by simp[qA,hf,hl']) hf.symm,hk⟩
    ·have hl':¬b%2147483648<8388608:=by omega
     refine(Qd b hb1 hb2 (by omega) (by omega) (by omega) (by omega) hc (by simpa using hl) w).mono ?_
     rintro e w' ⟨rfl,hk⟩
     exact⟨qH e3 (by rw[e2];simp[qw,hf,hl'];omega) (by rw[e1];simp[qA,hf,hl'];omega) hf.symm,hk⟩
  ·have hf:fin b n=false:=by simp[fin];omega
   refine(YY b n hb1 hb2 hn (by omega) w).mono ?_
   rintro e w' ⟨rfl,hk⟩
   exact⟨qH (by simp[qS,hf]) (by simp[qw,hf]) (by simp[qA,hf]) hf.symm,hk⟩
 ·have hf:fin b n=false:=by simp[fin];omega
  refine(JP b n (by rw[beq_eq_false_iff_ne];omega) (by rw[beq_eq_false_iff_ne];omega) w).mono ?_
  rintro e w' ⟨rfl,hk⟩
  exact⟨qH (by simp[qS,hf]) (by simp[qw,hf]) (by simp[qA,hf]) hf.symm,hk⟩
end Go.Proofs.YtaglkncdedeipaaGreatDoor
