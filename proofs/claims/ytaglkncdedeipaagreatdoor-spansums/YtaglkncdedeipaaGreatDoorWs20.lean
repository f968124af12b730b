/-  -/
import Derived.Test.YtaglkncdedeipaaGreatDoorWs19
namespace Go.Proofs.YtaglkncdedeipaaGreatDoor
open Go.ChangeShapes Go.WideShapes Go.ChangeAt Go.RowKit Ieee
set_option linter.unusedVariables false
set_option linter.unusedSimpArgs false
set_option maxHeartbeats 16000000
set_option maxRecDepth 100000
def Rd (n way:Int)(f:Nat→Nat)(q:Nat→Int)(m:Nat)(x:Nat):Prop:=
 (ze (iQ q m)∧x=iW f q m)∨((∀i,i<m→¬ze (q i))∧∃r,cfm (sV f q m) (-1074)=some r∧x=flv (rzN n way r) n)
theorem qhd (f:Nat→Nat)(q:Nat→Int)(m:Nat)(h:∀i,i<m→Fl 64 (f i) (q i)):∀K,K=2099→(sV f q m).natAbs≤m*2^K:=by
 intro K hK
 induction m with
 |zero=>simp[sV]
 | succ m ih=>
  have i1:=ih (fun i hi=>h i (by omega))
  unfold sV
  by_cases hq:ze (q m)
  ·rw[if_pos hq,Int.add_zero,Nat.add_mul]
   omega
  ·rw[if_neg hq]
   obtain⟨q',hq',hKK,o1,o2,o3,o4,o5,o6⟩:=(h m (by omega)).wide
   have hqq:qd (qv (f m)) 64=q m:=by
    obtain⟨c,c1,c2,c3,c4⟩:=h m (by omega)
    have e:qQ c=f m:=by rw[c4];simp[fl]
    rw[←c3,←z7 _ o4 o5,←z7 _ c2.1 c2.2,o6,e]
   have hf:=vK (qv (f m)) 64 (.inl rfl) o2 ⟨o4,o5⟩
   rw[hqq]at hf
   have hq2:¬(q m=(ifn 64:Int)∨q m=-(ifn 64:Int)):=hq
   rw[qh2 hq2]at hf
   have hc:cls (qv (f m)) 64<3:=by
    unfold fin at hf
    rw[qh1]at hf
    exact hf.2
   have h2:=qfn (f m) hc
   rw[←hK]at h2
   rw[Nat.add_mul]
   omega
theorem Vt (f:Nat→Nat)(q:Nat→Int)(m:Nat)(hm:m≤65536)(h:∀i,i<m→Fl 64 (f i) (q i)):∃r,cfm (sV f q m) (-1074)=some r∧Lies (-1074) 2200 r∧vz (-1074) r=sV f q m:=by
  obtain⟨K,hK⟩:∃K:Nat,K=2099:=⟨_,rfl⟩
  have h1:=qhd f q m h K hK
  refine jk (-1074) 2200 (by decide) (by decide) (by decide) _ ?_
  obtain⟨N,hN⟩:∃N:Nat,N=2200:=⟨_,rfl⟩
  rw[←hN]
  have hp:0<2^K:=qht K
  have h2 : m * 2 ^ K ≤ 2 ^ 16 * 2 ^ K := Nat.mul_le_mul_right _ (by have:(2:Nat)^16=65536:=by decide
                                                                     omega)
  rw[←qhv]at h2
  have h3:(2:Nat)^(16+K)<2^N:=Nat.pow_lt_pow_right (by decide) (by omega)
  omega
theorem ko (n:Int)(hn:n=64∨n=32)(m:Nat)(hm:m≤65536)(fx fy:Nat→Nat)(qx qy:Nat→Int)(hF:∀i,i<m→Fl 64 (fx i) (qx i)∧Fl 64 (fy i) (qy i))(ao:Option Addr)(c:Nat)(w:World)(hT:Tab w)(hI:Ivs w ao m fx fy):
  Calls Tryz.prog 47 #[.int .i64 n,.slice ao m c] w fun e w'=>∃x y,e=.returned (fv2 x y)∧Rd n 1 fx qx m x∧Rd n 2 fy qy m y∧Kept w w':=by
 have HI:Hid (Ivs w ao m fx fy):=hI
 have HF:Hid (∀i,i<m→Fl 64 (fx i) (qx i)∧Fl 64 (fy i) (qy i)):=hF
 have HT:Hid (Tab w):=hT
 clear hI hF hT
 have hSF:=j6
 obtain⟨X,hX⟩:∃X,X=((w.alloc (.cells #[.float .f64 0,.float .f64 0] 68)).alloc (.cells Tryz.zeroCells103 103)).alloc (.cells Tryz.zeroCells103 103):=⟨_,rfl⟩
 have hP:P2 X w.heap.size (.float .f64 0) (.float .f64 0):=by
  rw[hX]
  exact((P2.new w _ _ _).alloc _ _).alloc _ _
 have hL:TotAt X (w.heap.size+1) T0L 0:=by
  rw[hX]
  have:=(TotAt.new (w.alloc (.cells #[.float .f64 0,.float .f64 0] 68))).kept ((qia _).alloc Tryz.zeroCells103 103)
  simpa using this
 have hH:TotAt X (w.heap.size+1+1) T0L 0:=by
  rw[hX]
  have:=TotAt.new ((w.alloc (.cells #[.float .f64 0,.float .f64 0] 68)).alloc (.cells Tryz.zeroCells103 103))
  simpa using this
 have hK:Kept w X:=by
  rw[hX]
  exact(((qia w).alloc _ _).alloc _ _).alloc _ _
 obtain⟨H0,hH0⟩:∃H,H=w.heap.size:=⟨_,rfl⟩
 obtain⟨H1,hH1⟩:∃H,H=H0+1:=⟨_,rfl⟩
 obtain⟨H2,hH2⟩:∃H,H=H1+1:=⟨_,rfl⟩
 rw[←hH0]at hP hL hH
 rw[←hH1]at hL hH
 rw[←hH2]at hH
 have o0:w.heap.size≤H0:=by omega
 have o1:w.heap.size≤H1:=by omega
 have o2:w.heap.size≤H2:=by omega
 have n01:¬H0=H1:=by omega
 have n02:¬H0=H2:=by omega
 have n12:¬H1=H2:=by omega
 have n21:¬H2=H1:=by omega
 have hcv0:cv T0L=0:=by decide
 go_enter Tryz.func47,Tryz.ntmps47
 go_upto_region 2 with fail
 rw[←hX,←hH0,←hH1,←hH2]
 clear hX hH1 hH0 hH2
 go_wp2_with fail
 go_loopw [11] (fun i wr=>∃(k:Nat) (Cl Ch:List Int),k≤m∧i=.int .i64 k∧TotAt wr H1 Cl (iW fx qx k)∧TotAt wr H2 Ch (iW fy qy k)∧cv Cl=sV fx qx k∧cv Ch=sV fy qy k∧(∀j,-((k:Int)*1073741824)≤Cl.getD j 0∧Cl.getD j 0≤(k:Int)*1073741824)∧(∀j,-((k:Int)*1073741824)≤Ch.getD j 0∧Ch.getD j 0≤(k:Int)*1073741824)∧P2 wr H0 (.float .f64 0) (.float .f64 0)∧Kept w wr) (fun i _=>m-(intOf i).toNat)
 case atStart=>
  have hz:∀j,T0L.getD j 0=0:=fun j=>by
   unfold T0L
   rw[qhx,List.getElem?_replicate]
   split<;>rfl
  exact⟨0,T0L,T0L,Nat.zero_le _,rfl,hL,hH,hcv0,hcv0,fun j=>by rw[hz];omega,fun j=>by rw[hz];omega,hP,hK⟩
 case round=>
  clear hP hL hH hK
  obtain⟨k,Cl,Ch,hk,rfl,hL,hH,vl,vh,bl1,bh1,hP,hK⟩:=hrel
  by_cases hkm:k<m
  ·obtain⟨b,off,rfl,ci0,ci1⟩:=HI.out _ hK k hkm
   obtain⟨g1,g2⟩:=HF.out k hkm
   have HG:Hid (Fl 64 (fx k) (qx k)∧Fl 64 (fy k) (qy k)):=⟨g1,g2⟩
   have HR:Hid (cv Cl=sV fx qx k∧cv Ch=sV fy qy k∧(∀j,-((k:Int)*1073741824)≤Cl.getD j 0∧Cl.getD j 0≤(k:Int)*1073741824)∧(∀j,-((k:Int)*1073741824)≤Ch.getD j 0∧Ch.getD j 0≤(k:Int)*1073741824)):=⟨vl,vh,bl1,bh1⟩
   clear g1 g2 vl vh bl1 bh1
   have hltK:(k:Int)≤65536:=by omega
   have KA1:Hid (∀u,TotAt u H1 Cl (iW fx qx k)→Calls Tryz.prog 77 #[.pointer (some ⟨H1,0,none⟩),.float .f64 (fx k)] u fun e w'=>e=.returned (.tuple #[])∧(∃C',Clm Cl C' (if ze (qx k)then 0 else zw (fx k))∧TotAt w' H1 C' (iW fx qx (k+1)))∧Grw H1 u w'):=fun u h=>J8 u H1 Cl _ h (fun j=>by have:=HR.out.2.2.1 j;omega) _ _ HG.out.1
   have KA2:Hid (∀u,TotAt u H2 Ch (iW fy qy k)→Calls Tryz.prog 77 #[.pointer (some ⟨H2,0,none⟩),.float .f64 (fy k)] u fun e w'=>e=.returned (.tuple #[])∧(∃C',Clm Ch C' (if ze (qy k)then 0 else zw (fy k))∧TotAt w' H2 C' (iW fy qy (k+1)))∧Grw H2 u w'):=fun u h=>J8 u H2 Ch _ h (fun j=>by have:=HR.out.2.2.2 j;omega) _ _ HG.out.2
   go_upto_region 5 with fail
   obtain⟨Y,hY⟩:∃Y,Y=wr.alloc (.cells #[.float .f64 (fx k),.float .f64 (fy k)] 68):=⟨_,rfl⟩
   have hB:P2 Y wr.heap.size (.float .f64 (fx k)) (.float .f64 (fy k)):=by rw[hY];exact P2.new _ _ _ _
   have kY:Kept wr Y:=by rw[hY];exact(qia wr).alloc _ _
   have hl1:=hL.lt
   have hl2:=hH.lt
   have hl0:=hP.lt
   obtain⟨B,hBB⟩:∃B,B=wr.heap.size:=⟨_,rfl⟩
   rw[←hBB]at hB
   rw[←hY,←hBB]
   have nB1:¬B=H1:=by omega
   have nB2:¬B=H2:=by omega
   clear hY hBB
   have hLY:=hL.kept kY
   have hHY:=hH.kept kY
   have hPY:=hP.kept kY
   have hKY:=hK.trans kY
   have b0:=hB.c0
   have b1:=hB.c1
   clear hL hH hP hK kY ci0 ci1
   go_upto_region 6 with (first|(go_at_call 77;refine(KA1.out _ hLY).mono ?_;rintro e w1 ⟨rfl,⟨C1,cl1,hL1⟩,gr1⟩))
   have hH1':=hHY.other gr1 n21
   have hB1:=hB.grw gr1 nB1
   have hP1:=hPY.grw gr1 n01
   have hK1:=hKY.grw o1 gr1
   have b01:=hB1.c0
   have b11:=hB1.c1
   clear hLY hHY hB b0 b1 hPY
   go_upto_region 7 with (first|(go_at_call 77;refine(KA2.out _ hH1').mono ?_;rintro e w2 ⟨rfl,⟨C2,cl2,hH2'⟩,gr2⟩))
   have hL2:=hL1.other gr2 n12
   have hP2:=hP1.grw gr2 n02
   have hK2:=hK1.grw o2 gr2
   clear b01 b11 hB1 hL1 hH1' hP1 hK1 gr1 gr2 KA1 KA2
   go_wp2_with fail
   go_roundw
   case rel=>
    refine⟨k+1,C1,C2,by omega,by go_num,hL2,hH2',?_,?_,fun j=>?_,fun j=>?_,hP2,hK2⟩
    ·rw[cl1.val,HR.out.1];rfl
    ·rw[cl2.val,HR.out.2.1];rfl
    ·have h1:=cl1.near j
     have h2:=HR.out.2.2.1 j
     rw[Int.natCast_add,Int.add_mul]
     omega
    ·have h1:=cl2.near j
     have h2:=HR.out.2.2.2 j
     rw[Int.natCast_add,Int.add_mul]
     omega
   case measure=>simp[intOf];omega
  ·have hkm':k=m:=by omega
   subst hkm'
   have hRd:∀(way:Int) (hw:way=0∨way=1∨way=2) (f:Nat→Nat) (q:Nat→Int) (C:List Int) (b:Nat),(∀i,i<k→Fl 64 (f i) (q i))→cv C=sV f q k→(∀j,-((k:Int)*1073741824)≤C.getD j 0∧C.getD j 0≤(k:Int)*1073741824)→∀u,Kept w u→TotAt u b C (iW f q k)→∃x,Rd n way f q k x∧Calls Tryz.prog 78 #[.pointer (some ⟨b,0,none⟩),.int .i64 n,.int .i64 way] u fun e w'=>e=.returned (.float .f64 x)∧Kept u w':=fun way hw f q C b hf hc hb u ku hu=>by
    rcases V5 q k with hq|⟨hq0,hq⟩
    ·exact⟨_,.inl ⟨hq,rfl⟩,Xa n way u b C _ _ (qhc f q k hf) hq hu⟩
    ·rw[qeq f q k hq]at hu
     obtain⟨r,hr,-,-⟩:=Vt f q k hm hf
     refine⟨_,.inr ⟨hq,r,hr,rfl⟩,J9 n way hn hw u (HT.out.kept ku) b C (fun j=>by have:=hb j;omega) hu r (by rw[hc];exact hr)⟩
   obtain⟨x,hx,KX⟩:=hRd 1 (by simp) fx qx Cl H1 (fun i hi=>(HF.out i hi).1) vl bl1 wr hK hL
   have KY:∀u,Kept wr u→∃y,Rd n 2 fy qy k y∧Calls Tryz.prog 78 #[.pointer (some ⟨H2,0,none⟩),.int .i64 n,.int .i64 2] u fun e w'=>e=.returned (.float .f64 y)∧Kept u w':=fun u ku=>hRd 2 (by simp) fy qy Ch H2 (fun i hi=>(HF.out i hi).2) vh bh1 u (hK.trans ku) (hH.kept ku)
   have HX:Hid (Calls Tryz.prog 78 #[.pointer (some ⟨H1,0,none⟩),.int .i64 n,.int .i64 1] wr fun e w'=>e=.returned (.float .f64 x)∧Kept wr w'):=KX
   have HY:Hid (∀u,Kept wr u→∃y,Rd n 2 fy qy k y∧Calls Tryz.prog 78 #[.pointer (some ⟨H2,0,none⟩),.int .i64 n,.int .i64 2] u fun e w'=>e=.returned (.float .f64 y)∧Kept u w'):=KY
   clear KX KY hRd vl vh bl1 bh1 hL hH
   go_wp2_with fail
   refine HX.out.mono ?_
   rintro e w1 ⟨rfl,k1⟩
   obtain⟨y,hy,KY⟩:=HY.out _ k1
   have HYY:Hid (Calls Tryz.prog 78 #[.pointer (some ⟨H2,0,none⟩),.int .i64 n,.int .i64 2] w1 fun e w'=>e=.returned (.float .f64 y)∧Kept w1 w'):=KY
   have HRy:Hid (Rd n 2 fy qy k y):=hy
   have HRx:Hid (Rd n 1 fx qx k x):=hx
   clear KY hy hx
   go_wp2_with fail
   refine HYY.out.mono ?_
   rintro e w2 ⟨rfl,k2⟩
   have hP2:=(hP.kept k1).kept k2
   have hz:=hP2.put (.float .f64 x) (.float .f64 y)
   obtain⟨d0,d1,df⟩:=hP2
   obtain⟨e0,e1,ef⟩:=hz
   go_wp2_with fail
   exact qh9 (v:=fv2 x y) (by simp[results,Tryz.results47,go_sem,e0,e1]) rfl ⟨x,y,rfl,HRx.out,HRy.out,(((hK.trans k1).trans k2).setCell o0 _).setCell o0 _⟩
theorem qb6 (n s:Int)(b:Bool)(r:Nat):kvz n s (sv b r)=sv b (rv (cbn n) r*2^(qi n-s).toNat):=by
 cases b
 ·rw[ZU,ZU,ju]
 ·rw[ZV,ZV,jS]
theorem qhe (r:Nat):rv (cbn 64) r=qt FloatKind.f64.format r:=by
 unfold rv qt
 rw[qfp]
 rfl
theorem qhf (r:Nat):rv (cbn 32) r=qt FloatKind.f32.format r:=by
 unfold rv qt
 rw[Yg]
 rfl
theorem qb7 (n s:Int):kvz n s 0=0:=by
 have h:=ju n s 0
 have e:rv (cbn n) 0=0:=by
  unfold rv cbn
  split<;>split<;>simp_all
 rw[e,Nat.zero_mul]at h
 exact h
theorem Fl.same64 {x:Nat}{q:Int}(hx:Fl 64 x q):qd (qv x) 64=q:=by
 obtain⟨q',hq',hK,o1,o2,o3,o4,o5,o6⟩:=hx.wide
 obtain⟨c,c1,c2,c3,c4⟩:=hx
 have e:qQ c=x:=by rw[c4];simp[fl]
 rw[←c3,←z7 _ o4 o5,←z7 _ c2.1 c2.2,o6,e]
theorem Fl.val64 {n:Int}{x:Nat}{k q:Int}(h:Fl n x k)(hq:Fl 64 x q)(h1:-(ifn n:Int)<k)(h2:k<(ifn n:Int))(s:Int)(hs:s≤-1074):kvz 64 s q=kvz n s k:=by
 have hqq:=hq.same64
 have hle:=h.le
 have hlt:=h.lt
 have ho:qv x=wrap64 x:=yI x hle
 obtain⟨i1,i2⟩:=vI x hle hlt
 rw[ho,i2]at hqq
 obtain⟨b,b1,b2,rfl,rfl⟩:=h
 rcases qV b n b1 with ⟨rfl,c⟩|⟨rfl,c⟩
 ·have e:sv (below FloatKind.f64.format (fl b 64)) (qk FloatKind.f64.format (fl b 64))=qd b 64:=by
   rw[←qW,←z7 b b2.1 b2.2]
   simp[fl]
  rw[←hqq,e]
 ·have hv:=qG b c
  have hr:qk FloatKind.f32.format (qm b)≤FloatKind.f32.format.infRung:=by have:=mt (zQ b).2 c;omega
  have e:qd b 32=sv (below FloatKind.f32.format (qm b)) (qk FloatKind.f32.format (qm b)):=by rw[←qW,ZY b hv]
  have ex:fl b 32=W (qm b):=by simp[fl];rfl
  rw[ex]at hqq
  rw[e]at h1 h2 ⊢
  have hi:(ifn 32:Int)=(FloatKind.f32.format.infRung:Int):=by rw[←qbx]
  have hlt2:qk FloatKind.f32.format (qm b)<FloatKind.f32.format.infRung:=by
   generalize below FloatKind.f32.format (qm b)=sb at *
   cases sb<;>simp only[ZU,ZV]at h1 h2<;>omega
  obtain⟨w1,w2,w3⟩:=QU (qm b) hlt2
  rw[←hqq,qb6,qb6,w3,qhe,qhf,w2,qhz,←qhv]
  congr 3
  have k1:qi 64=-1074:=rfl
  have k2:qi 32=-149:=rfl
  rw[k1,k2]
  unfold jZ
  omega
theorem zk (q:Int)(h1:-(ifn 64:Int)<q)(h2:q<(ifn 64:Int)):sg (qS (pz 64 q) 64) (qw (pz 64 q) 64*2^(qA (pz 64 q) 64+1074).toNat)=kvz 64 (-1074) q:=by
 have hn:(64:Int)=64∨(64:Int)=32:=.inl rfl
 have hc:=(VF 64 q hn (by omega) (by omega)).2 ⟨h1,h2⟩
 obtain⟨f1,f2,f3,f4⟩:=xG _ hc
 have hng:=qc3 64 q hn h1 h2
 obtain⟨r,hr⟩:∃r,r=if q<0 then -q else q:=⟨_,rfl⟩
 obtain⟨q1,q2⟩:=qc4 64 q hn h1 h2 4503599627370496 rfl (-1074) rfl r hr
 have hcb:(cbn 64:Int)=4503599627370496:=rfl
 have hra:r=(q.natAbs:Int):=by rw[hr];split<;>omega
 have hkl:qi 64=-1074:=rfl
 have hval:qw (pz 64 q) 64*2^(qA (pz 64 q) 64+1074).toNat=((rv (cbn 64) q.natAbs:Nat):Int):=by
  unfold rv
  by_cases hb:r<4503599627370496
  ·rw[if_pos hb]at q1 q2
   rw[if_pos (by omega),q1,q2,hra]
   simp
  ·rw[if_neg hb]at q1 q2
   have hcp:0<cbn 64:=by decide
   rw[if_neg (by omega),q1,q2]
   have hmod:(4503599627370496+r%4503599627370496:Int)=((cbn 64+q.natAbs%cbn 64:Nat):Int):=by
    rw[Int.natCast_add,Int.natCast_emod,hcb,hra]
   have hdiv:r/4503599627370496=((q.natAbs/cbn 64:Nat):Int):=by rw[hra,Int.natCast_ediv,hcb]
   have hge:1≤q.natAbs/cbn 64:=by
    rw[Nat.le_div_iff_mul_le hcp];omega
   rw[hmod,hdiv,Int.natCast_mul,Int.natCast_pow]
   congr 2
   generalize q.natAbs/cbn 64=D at *
   omega
 have hs0:(qi 64- -1074).toNat=0:=by rw[hkl];rfl
 rw[hval,hng]
 unfold kvz sg
 rw[hs0,Nat.pow_zero,Nat.mul_one]
 by_cases hk:q<0
 ·rw[qh2 hk,if_pos rfl,if_pos hk]
 ·rw[qh3 hk,if_neg (by decide),if_neg hk]
theorem Vu {x:Nat}{q:Int}(hx:Fl 64 x q)(h1:-(ifn 64:Int)<q)(h2:q<(ifn 64:Int)):zw x=kvz 64 (-1074) q∧(q≠0→qv x=pz 64 q)∧cls (qv x) 64<3:=by
 obtain⟨q',hq',hK,o1,o2,o3,o4,o5,o6⟩:=hx.wide
 have e:=hx.same64
 have hcan:=Vq (qv x) 64 o2 o4 o5
 rw[e]at hcan
 have hf:=vK (qv x) 64 (.inl rfl) o2 ⟨o4,o5⟩
 rw[e,qh2 (by omega)]at hf
 have hc:cls (qv x) 64<3:=by
  unfold fin at hf
  rw[qh1]at hf
  exact hf.2
 have hne:q≠0→qv x=pz 64 q:=fun h=>by
  rw[←hcan]
  unfold can
  rw[if_pos o2,if_pos rfl,if_neg]
  intro g
  rw[g]at e
  exact h (e.symm.trans (by decide))
 refine⟨?_,hne,hc⟩
 by_cases h0:q=0
 ·subst h0
  rw[qb7]
  rw[J0]at e
  have hb:qv x=0∨qv x=-9223372036854775808:=by
   split at e<;>omega
  unfold zw
  rcases hb with hb|hb<;>rw[hb]<;>decide+kernel
 ·unfold zw
  rw[hne h0]
  exact zk q h1 h2
theorem xY {n:Int}{x:Nat}{k:Int}(h:Fl n x k)(h1:-(ifn n:Int)<k)(h2:k<(ifn n:Int)):zw x=kvz n (-1074) k:=by
 obtain⟨q,hq,hK,-⟩:=h.wide
 have g1:=hq.rng
 have t:=hK.top
 have bo:=hK.bot
 have a1:-(ifn 64:Int)<q:=by
  have:q≠-(ifn 64:Int):=fun e=>by have:=bo.2 e;omega
  omega
 have a2:q<(ifn 64:Int):=by
  have:q≠(ifn 64:Int):=fun e=>by have:=t.2 e;omega
  omega
 rw[(Vu hq a1 a2).1]
 exact h.val64 hq h1 h2 (-1074) (by decide)
theorem kp (n s:Int)(hn:n=64∨n=32)(a b:Int)(h:a<b):kvz n s a<kvz n s b:=by
 have hp:0<2^(qi n-s).toNat:=qht _
 have hm:∀i j:Nat,i<j→rv (cbn n) i*2^(qi n-s).toNat<rv (cbn n) j*2^(qi n-s).toNat:=fun i j hij=>Nat.mul_lt_mul_of_pos_right (VW n hn i j hij) hp
 have h0:rv (cbn n) 0=0:=by
  unfold rv cbn
  split<;>split<;>simp_all
 unfold kvz
 by_cases ha:a<0
 ·rw[if_pos ha]
  have ha':=hm 0 a.natAbs (by omega)
  rw[h0,Nat.zero_mul]at ha'
  by_cases hb:b<0
  ·rw[if_pos hb]
   have:=hm b.natAbs a.natAbs (by omega)
   omega
  ·rw[if_neg hb]
   omega
 ·rw[if_neg ha,if_neg (by omega)]
  have:=hm a.natAbs b.natAbs (by omega)
  omega
theorem qer (n s:Int)(hn:n=64∨n=32)(a b:Int)(h:kvz n s a=kvz n s b):a=b:=by
 rcases Int.lt_trichotomy a b with g|g|g
 ·have:=kp n s hn a b g;omega
 ·exact g
 ·have:=kp n s hn b a g;omega
theorem ky (n:Int)(hn:n=64∨n=32)(r:Nm)(hv:vld r=true)(s:Int)(hs:r.mag≠[]→s≤r.exp)(hl:s<qi n)(K:Int)(h1:-(ifn n:Int)<K)(h2:K<(ifn n:Int))(hK:vz s r=kvz n s K):kyN n 1 r=K∧kyN n 2 r=K∧kyN n 0 r=K∧oxN n 0 r=false:=by
 obtain⟨hN,e1,e2⟩:=qhn n hn r hv s hs hl
 rw[hK]at hN
 cases ho:oxN n 1 r
 ·obtain⟨a1,a2,a3,a4,a5⟩:=hN.same ho
  have:=qer n s hn _ _ a3
  exact⟨this.symm,by rw[a1];exact this.symm,by rw[a2];exact this.symm,by rw[e2];exact ho⟩
 ·obtain⟨a1,a2,a3,a4,a5,a6⟩:=hN.next ho
  exfalso
  have b1:kyN n 1 r<K:=by
   by_cases hd:-(ifn n:Int)<kyN n 1 r
   ·have:=a5 hd
    rcases Int.lt_trichotomy (kyN n 1 r) K with g|g|g
    ·exact g
    ·rw[g]at this;omega
    ·have:=kp n s hn _ _ g;omega
   ·have:=jf n 1 r
    omega
  have b2:K<kyN n 2 r:=by
   by_cases hd:kyN n 2 r<(ifn n:Int)
   ·have:=a6 hd
    rcases Int.lt_trichotomy K (kyN n 2 r)with g|g|g
    ·exact g
    ·rw[g]at this;omega
    ·have:=kp n s hn _ _ g;omega
   ·have:=jf n 2 r
    omega
  omega
def two {α:Type}(a b:α)(i:Nat):α:=if i=0 then a else b
theorem qes {w u:World}{x1 y1 x2 y2:Nat}{t:TypeId}(k:Kept (w.alloc (.cells #[.float .f64 x1,.float .f64 y1,.float .f64 x2,.float .f64 y2] t)) u):Ivs u (some ⟨w.heap.size,0,none⟩) 2 (two x1 x2) (two y1 y2):=fun v kv i hi=>by
 have h:∀o,v.cell? ⟨w.heap.size,o,none⟩=(w.alloc (.cells #[.float .f64 x1,.float .f64 y1,.float .f64 x2,.float .f64 y2] t)).cell? ⟨w.heap.size,o,none⟩:=fun o=>qg (k.trans kv) o
 refine⟨_,_,rfl,?_,?_⟩
 ·rw[h]
  rcases(show i=0∨i=1 by omega)with rfl|rfl<;>simp[go_sem,two]
 ·rw[h]
  rcases(show i=0∨i=1 by omega)with rfl|rfl<;>simp[go_sem,two]
theorem qb8 (a1 b1 a2 b2 n:Int)(x1 y1 x2 y2:Nat)(q p1 p2:Int)(J:Nat→Nat→Prop)(w:World)
  (KB:Hid (∀u,Calls Tryz.prog 45 #[sp2 a1 b1,sp2 a2 b2,.int .i64 n] u fun e w'=>e=.returned (.tuple #[fv2 x1 y1,fv2 x2 y2,.int .i64 q])∧Kept u w'))
  (KJ:Hid (∀(u v:World) (B:Nat),Kept w u→B=v.heap.size→Kept (v.alloc (.cells #[.float .f64 x1,.float .f64 y1,.float .f64 x2,.float .f64 y2] 68)) u→Calls Tryz.prog 47 #[.int .i64 n,.slice (some ⟨B,0,none⟩) 2 2] u fun e w'=>∃x y,e=.returned (fv2 x y)∧J x y∧Kept u w'))
  (KT:Hid (∀u x y,J x y→Calls Tryz.prog 46 #[fv2 x y,.int .i64 n,.int .i64 q] u fun e w'=>e=.returned (.tuple #[sp2 p1 p2,.int .i64 q])∧Kept u w')):
  Calls Tryz.prog 10 #[sp2 a1 b1,sp2 a2 b2,.int .i64 n] w fun e w'=>e=.returned (.tuple #[sp2 p1 p2,.int .i64 q])∧Kept w w':=by
 obtain⟨X,hX⟩:∃X,X=((w.alloc (.cells #[.int .i64 a1,.int .i64 b1] 23)).alloc (.cells #[.int .i64 a2,.int .i64 b2] 23)).alloc (.cells #[.int .i64 0,.int .i64 0] 23):=⟨_,rfl⟩
 have hP1:P2 X w.heap.size (.int .i64 a1) (.int .i64 b1):=by
  rw[hX]
  exact((P2.new w _ _ _).alloc _ _).alloc _ _
 have hP2:P2 X (w.heap.size+1) (.int .i64 a2) (.int .i64 b2):=by
  rw[hX]
  have:=(P2.new (w.alloc (.cells #[.int .i64 a1,.int .i64 b1] 23)) (.int .i64 a2) (.int .i64 b2) 23).alloc #[.int .i64 0,.int .i64 0] 23
  simpa using this
 have hQ:P2 X (w.heap.size+1+1) (.int .i64 0) (.int .i64 0):=by
  rw[hX]
  have:=P2.new ((w.alloc (.cells #[.int .i64 a1,.int .i64 b1] 23)).alloc (.cells #[.int .i64 a2,.int .i64 b2] 23)) (.int .i64 0) (.int .i64 0) 23
  simpa using this
 have hK:Kept w X:=by
  rw[hX]
  exact(((qia w).alloc _ _).alloc _ _).alloc _ _
 obtain⟨H1,hH1⟩:∃H,H=w.heap.size+1:=⟨_,rfl⟩
 obtain⟨H2,hH2⟩:∃H,H=H1+1:=⟨_,rfl⟩
 rw[←hH1]at hP2 hQ
 rw[←hH2]at hQ
 have o2:w.heap.size≤H2:=by omega
 have hSF:=j6
 go_enter Tryz.func10,Tryz.ntmps10
 go_upto_region 1 with fail
 rw[←hX,←hH1,←hH2]
 clear hX hH1 hH2
 obtain⟨p10,p11,p1f⟩:=hP1
 obtain⟨p20,p21,p2f⟩:=hP2
 go_upto_region 2 with (first|(go_at_call 45;refine(KB.out _).mono ?_;rintro e w1 ⟨rfl,k1⟩))
 have hQ1:=hQ.kept k1
 have kw1:=hK.trans k1
 clear p10 p11 p1f p20 p21 p2f KB hK hQ k1
 obtain⟨Y,hY⟩:∃Y,Y=(w1.alloc (.cells #[.float .f64 x1,.float .f64 y1] 68)).alloc (.cells #[.float .f64 x2,.float .f64 y2] 68):=⟨_,rfl⟩
 have hC1:P2 Y w1.heap.size (.float .f64 x1) (.float .f64 y1):=by
  rw[hY]
  exact(P2.new w1 _ _ _).alloc _ _
 have hC2:P2 Y (w1.heap.size+1) (.float .f64 x2) (.float .f64 y2):=by
  rw[hY]
  have:=P2.new (w1.alloc (.cells #[.float .f64 x1,.float .f64 y1] 68)) (.float .f64 x2) (.float .f64 y2) 68
  simpa using this
 have kY:Kept w1 Y:=by
  rw[hY]
  exact((qia w1).alloc _ _).alloc _ _
 have hQY:=hQ1.kept kY
 have kwY:=kw1.trans kY
 rw[←hY]
 clear hY kw1 kY hQ1
 obtain⟨b0,b1',bf⟩:=hC1
 obtain⟨c0,c1,cf⟩:=hC2
 go_wp2_with (first|(go_at_call 47;refine(KJ.out _ _ _ (kwY.alloc _ _) rfl (qia _)).mono ?_;rintro e w2 ⟨x,y,rfl,hJ,k2⟩)|(go_at_call 46;refine(KT.out _ _ _ hJ).mono ?_;rintro e w3 ⟨rfl,k3⟩;have k4:=((qia Y).alloc _ _).trans (k2.trans k3);have hz:=(hQY.kept k4).put (.int .i64 p1) (.int .i64 p2);obtain⟨d0,d1,df⟩:=hQY.kept k4;obtain⟨e0,e1,ef⟩:=hz))
 refine qh9 (v:=.tuple #[sp2 p1 p2,.int .i64 q]) ?_ rfl ⟨rfl,?_⟩
 ·simp[results,Tryz.results10,go_sem, *]
 ·(repeat' first|exact kwY.trans k4|refine Kept.setCell ?_ ?_ _|exact o2)
def Smk (n way k1 k2 K:Int):Prop:=
 ((k1=(ifn n:Int)∨k1=-(ifn n:Int))∧(k2≠-k1)∧K=k1)∨((k2=(ifn n:Int)∨k2=-(ifn n:Int))∧(k1≠-k2)∧K=k2)∨
 ((-(ifn n:Int)<k1∧k1<(ifn n:Int))∧(-(ifn n:Int)<k2∧k2<(ifn n:Int))∧∃r,cfm (kvz n (-1074) k1+kvz n (-1074) k2) (-1074)=some r∧K=kyN n way r)
theorem xj {n:Int}{x:Nat}{k q:Int}(h:Fl n x k)(hq:Fl 64 x q):ze q↔(k=(ifn n:Int)∨k=-(ifn n:Int)):=by
 obtain⟨q',hq',hK,-⟩:=h.wide
 have:q'=q:=hq'.same64.symm.trans hq.same64
 subst this
 unfold ze
 rw[hK.top,hK.bot]
theorem qb9 (n way:Int)(hn:n=64∨n=32)(x1 x2:Nat)(k1 k2:Int)(h1:Fl n x1 k1)(h2:Fl n x2 k2)(hop:¬((k1=(ifn n:Int)∨k1=-(ifn n:Int))∧k2=-k1))(q1 q2:Int)(g1:Fl 64 x1 q1)(g2:Fl 64 x2 q2):∃K,Smk n way k1 k2 K∧(-(ifn n:Int)≤K∧K≤(ifn n:Int))∧∀x,Rd n way (two x1 x2) (two q1 q2) 2 x→Fl n x K:=by
 have i1:=xj h1 g1
 have i2:=xj h2 g2
 have hr1:=h1.rng
 have hr2:=h2.rng
 have hpos:=jI n
 have e0:two q1 q2 0=q1:=rfl
 have e1:two q1 q2 1=q2:=rfl
 have hw:iW (two x1 x2) (two q1 q2) 2=if ze q2 then x2 else (if ze q1 then x1 else 0):=rfl
 have hq:iQ (two q1 q2) 2=if ze q2 then q2 else (if ze q1 then q1 else 0):=rfl
 by_cases a2:ze q2
 ·have:=i2.1 a2
  refine⟨k2,.inr (.inl ⟨this,fun e=>hop ⟨by omega,by omega⟩,rfl⟩),hr2,fun x hx=>?_⟩
  rcases hx with ⟨hi,hx⟩|⟨hi,r,hr,hx⟩
  ·rw[hx,hw,if_pos a2]
   exact h2
  ·exact absurd (by rw[e1];exact a2) (hi 1 (by decide))
 ·by_cases a1:ze q1
  ·have:=i1.1 a1
   refine⟨k1,.inl ⟨this,fun e=>hop ⟨this,e⟩,rfl⟩,hr1,fun x hx=>?_⟩
   rcases hx with ⟨hi,hx⟩|⟨hi,r,hr,hx⟩
   ·rw[hx,hw,if_neg a2,if_pos a1]
    exact h1
   ·exact absurd (by rw[e0];exact a1) (hi 0 (by decide))
  ·have b1:-(ifn n:Int)<k1∧k1<(ifn n:Int):=by
    have c1:k1≠(ifn n:Int):=fun e=>a1 (i1.2 (.inl e))
    have c2:k1≠-(ifn n:Int):=fun e=>a1 (i1.2 (.inr e))
    omega
   have b2:-(ifn n:Int)<k2∧k2<(ifn n:Int):=by
    have c1:k2≠(ifn n:Int):=fun e=>a2 (i2.2 (.inl e))
    have c2:k2≠-(ifn n:Int):=fun e=>a2 (i2.2 (.inr e))
    omega
   have hs:sV (two x1 x2) (two q1 q2) 2=kvz n (-1074) k1+kvz n (-1074) k2:=by
    have:sV (two x1 x2) (two q1 q2) 2=0+(if ze q1 then 0 else zw x1)+(if ze q2 then 0 else zw x2):=rfl
    rw[this,if_neg a1,if_neg a2,xY h1 b1.1 b1.2,xY h2 b2.1 b2.2]
    omega
   obtain⟨r,hr,-,-⟩:=Vt (two x1 x2) (two q1 q2) 2 (by decide) (fun i hi=>by
    rcases(show i=0∨i=1 by omega)with rfl|rfl
    ·exact g1
    ·exact g2)
   refine⟨kyN n way r,.inr (.inr ⟨b1,b2,r,by rw[←hs];exact hr,rfl⟩),jf n way r,fun x hx=>?_⟩
   rcases hx with ⟨hi,hx⟩|⟨hi,r',hr',hx⟩
   ·rw[hq,if_neg a2,if_neg a1]at hi
    exact absurd hi (by decide)
   ·rw[hr]at hr'
    cases hr'
    rw[hx]
    exact qb5 n way hn r
theorem qet (a1 b1 a2 b2 n:Int)(s1:RB a1)(s2:RB b1)(s3:RB a2)(s4:RB b2)(hv1:vsp a1 b1 n=true)(hv2:vsp a2 b2 n=true):∃K1 K2,Smk n 1 (qd a1 n) (qd a2 n) K1∧Smk n 2 (qd b1 n) (qd b2 n) K2∧(-(ifn n:Int)≤K1∧K1≤(ifn n:Int))∧(-(ifn n:Int)≤K2∧K2≤(ifn n:Int))∧∀(w:World),Tab w→Calls Tryz.prog 10 #[sp2 a1 b1,sp2 a2 b2,.int .i64 n] w fun e w'=>e=.returned (.tuple #[sp2 (pz n K1) (pz n K2),.int .i64 0])∧Kept w w':=by
 obtain⟨i1,i2,v3,v4,v5⟩:=jw _ _ _ hv1
 obtain⟨i3,i4,u3,u4,u5⟩:=jw _ _ _ hv2
 have hn:=qO _ _ i1
 obtain⟨x1,y1,x2,y2,q,hB,KB⟩:=J6 a1 b1 a2 b2 n s1 s2 s3 s4
 have hq:q=0:=hB.err.trans ((vL _ _ _ _ _).2 ⟨hv1,hv2⟩)
 obtain⟨f1,f2,f3,f4⟩:=hB.ok hq
 subst hq
 have hpos:=jI n
 obtain⟨p1,P1,-⟩:=f1.wide
 obtain⟨p2,P2,-⟩:=f2.wide
 obtain⟨p3,P3,-⟩:=f3.wide
 obtain⟨p4,P4,-⟩:=f4.wide
 obtain⟨K1,S1,R1,F1⟩:=qb9 n 1 hn x1 x2 _ _ f1 f3 (by omega) p1 p3 P1 P3
 obtain⟨K2,S2,R2,F2⟩:=qb9 n 2 hn y1 y2 _ _ f2 f4 (by omega) p2 p4 P2 P4
 refine⟨K1,K2,S1,S2,R1,R2,fun w hT=>?_⟩
 refine qb8 a1 b1 a2 b2 n x1 y1 x2 y2 0 _ _ (fun x y=>Fl n x K1∧Fl n y K2) w KB (fun u v B kwu hBv k=>?_) (fun u x y h=>kl h.1 h.2 u)
 subst hBv
 refine(ko n hn 2 (by decide) (two x1 x2) (two y1 y2) (two p1 p3) (two p2 p4) (fun i hi=>?_) _ _ u (hT.kept kwu) (qes k)).mono ?_
 ·rcases(show i=0∨i=1 by omega)with rfl|rfl
  ·exact⟨P1,P2⟩
  ·exact⟨P3,P4⟩
 ·rintro e w' ⟨x,y,rfl,hx,hy,k'⟩
  exact⟨x,y,rfl,⟨F1 x hx,F2 y hy⟩,k'⟩
end Go.Proofs.YtaglkncdedeipaaGreatDoor
