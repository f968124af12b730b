/-  -/
import Derived.Test.YtaglkncdedeipaaGreatDoorWs37
namespace Go.Proofs.YtaglkncdedeipaaGreatDoor
open Go.ChangeShapes Go.WideShapes Go.ChangeAt Go.RowKit
set_option linter.unusedVariables false
set_option linter.unusedSimpArgs false
set_option maxHeartbeats 16000000
set_option maxRecDepth 100000
theorem Vc (n:Int)(m cap:Nat)(hm:m≤100000)(la lb:Nat→Int)(ao:Option Addr)(z1 z2:Int)(w:World)(hI:Sps w ao m la lb)
  (KW:Hid (∀u,Calls Tryz.prog 67 #[.agg #[.bool false,.slice none 0 0,.int .i64 0]] u fun e w'=>∃r,e=.returned r∧EnAt (qj u.heap.size) w' r 0 ⟨false,[],0⟩ oneN5∧Kept u w'))
  (KO:Hid (∀k b,k<m→(b=la∨b=lb)→∀u,Calls Tryz.prog 52 #[.int .i64 (b k),.int .i64 n] u fun e w'=>∃v,e=.returned v∧EnAt (qj u.heap.size) w' v (iK n (b k)) (qz (b k) n) oneN5∧Kept u w'))
  (KP:Hid (∀k b,k<m→(b=la∨b=lb)→∀(Q:Nat→Prop) u v1 v2,EnAt Q u v1 (iS n b k) (xS n b k) oneN5→EnAt Q u v2 (iK n (b k)) (qz (b k) n) oneN5→(∀c,u.heap.size≤c→Q c)→Calls Tryz.prog 61 #[v1,v2] u fun e w'=>∃r,e=.returned r∧EnAt Q w' r (iS n b (k+1)) (xS n b (k+1)) oneN5∧Kept u w'))
  (KM:Hid (∀(Q:Nat→Prop) u v1 v2,EnAt Q u v1 (iS n la m) (xS n la m) oneN5→EnAt Q u v2 (iS n lb m) (xS n lb m) oneN5→Calls Tryz.prog 60 #[v1,v2,.int .i64 n] u fun e w'=>e=.returned (.agg #[.int .i64 z1,.int .i64 z2])∧Kept u w')):
  Calls Tryz.prog 27 #[.slice ao m cap,.int .i64 n] w fun e w'=>e=.returned (.agg #[.int .i64 z1,.int .i64 z2])∧Kept w w':=by
 have HI:Hid (Sps w ao m la lb):=hI
 clear hI
 obtain⟨X,hX⟩:∃X,X=w.alloc (.cells #[.int .i64 0,.int .i64 0] 23):=⟨_,rfl⟩
 have hK:Kept w X:=by rw[hX];exact(qia w).alloc _ _
 have hXs:X.heap.size=w.heap.size+1:=by rw[hX];simp
 have hP0:P2 X (w.heap.size) (.int .i64 0) (.int .i64 0):=by
  rw[hX]
  have:=(P2.new (w) (.int .i64 0) (.int .i64 0) 23)
  simpa using this
 obtain⟨B0,hB0⟩:∃B,B=w.heap.size:=⟨_,rfl⟩
 rw[←hB0]at hP0
 have oB:Hid (w.heap.size≤B0∧B0<X.heap.size):=(show _∧_ from by omega)
 have oX:Hid (w.heap.size≤X.heap.size):=hK.below.size
 go_enter Tryz.func27,Tryz.ntmps27
 go_upto_region 1 with fail
 rw[←hX,←hB0]
 clear hX hXs hB0
 go_wp2_with fail
 refine(KW.out _).mono ?_
 rintro e w1 ⟨v1,rfl,g1,k1⟩
 obtain⟨n1,a1,l1,c1,x1,m1,b1,k1',d1,y1,rfl⟩:=EnAt.shape g1
 go_upto_region 2 with fail
 obtain⟨X1,hX1⟩:∃X1,X1=w1.alloc (.cells #[.int .i64 0,.bool n1,.slice a1 l1 c1,.int .i64 x1,.bool m1,.slice b1 k1' d1,.int .i64 y1] 77):=⟨_,rfl⟩
 obtain⟨B1,hB1⟩:∃B1,B1=w1.heap.size:=⟨_,rfl⟩
 have hQ1:P7 X1 B1 (.int .i64 0) (.bool n1) (.slice a1 l1 c1) (.int .i64 x1) (.bool m1) (.slice b1 k1' d1) (.int .i64 y1):=by
  rw[hX1,hB1]
  exact P7.new w1 _ _ _ _ _ _ _ _
 have kX1:Kept w1 X1:=by rw[hX1];exact(qia w1).alloc _ _
 have hX1s:X1.heap.size=B1+1:=by rw[hX1,hB1];simp
 have g1:=g1.here.kept kX1
 have o1:X.heap.size≤B1:=by rw[hB1];exact k1.below.size
 have kK1:=hK.trans (k1.trans kX1)
 have hP1:=hP0.kept (k1.trans kX1)
 rw[←hB1]at g1
 rw[←hX1,←hB1]
 clear hX1 hB1 k1 kX1
 go_wp2_with fail
 refine(KW.out _).mono ?_
 rintro e w2 ⟨v2,rfl,g2,k2⟩
 obtain⟨n2,a2,l2,c2,x2,m2,b2,k2',d2,y2,rfl⟩:=EnAt.shape g2
 go_upto_region 3 with fail
 obtain⟨X2,hX2⟩:∃X2,X2=w2.alloc (.cells #[.int .i64 0,.bool n2,.slice a2 l2 c2,.int .i64 x2,.bool m2,.slice b2 k2' d2,.int .i64 y2] 77):=⟨_,rfl⟩
 obtain⟨B2,hB2⟩:∃B2,B2=w2.heap.size:=⟨_,rfl⟩
 have hQ2:P7 X2 B2 (.int .i64 0) (.bool n2) (.slice a2 l2 c2) (.int .i64 x2) (.bool m2) (.slice b2 k2' d2) (.int .i64 y2):=by
  rw[hX2,hB2]
  exact P7.new w2 _ _ _ _ _ _ _ _
 have kX2:Kept w2 X2:=by rw[hX2];exact(qia w2).alloc _ _
 have hX2s:X2.heap.size=B2+1:=by rw[hX2,hB2];simp
 have o2:X1.heap.size≤B2:=by rw[hB2];exact k2.below.size
 have g2:=g2.here.kept kX2
 rw[←hB2]at g2
 have G1:EnAt (fun c=>c≠B1∧c≠B2) X2 (env 0 n1 a1 l1 c1 x1 m1 b1 k1' d1 y1) (iS n la 0) (xS n la 0) oneN5:=(g1.kept (k2.trans kX2)).imp fun c hc=>by have:=hc.2;omega
 have G2:EnAt (fun c=>c≠B1∧c≠B2) X2 (env 0 n2 a2 l2 c2 x2 m2 b2 k2' d2 y2) (iS n lb 0) (xS n lb 0) oneN5:=g2.imp fun c hc=>by have:=hc.2;have:=hc.1;simp only[qj]at this;omega
 have hQ1:=hQ1.kept (k2.trans kX2)
 have kK2:=kK1.trans (k2.trans kX2)
 have hP2:=hP1.kept (k2.trans kX2)
 have nB:Hid (B1≠B2∧B2≠B1∧B0≠B1∧B0≠B2∧B1≠B0∧B2≠B0∧w.heap.size≤B0∧w.heap.size≤B1∧w.heap.size≤B2∧B1<X2.heap.size∧B2<X2.heap.size):=(show _∧_∧_∧_∧_∧_∧_∧_∧_∧_∧_ from by
  have:=oB.out
  have:=oX.out
  omega)
 rw[←hX2,←hB2]
 have HX2:Hid (Kept X2 X2):=qia X2
 clear hX2 hB2 k2 kX2 g1 g2 hX1s hX2s o1 o2 kK1 hK hP0 hP1 KW oB oX
 go_wp2_with fail
 go_loopw [7] (fun i wr=>∃(k:Nat) (i1:Int) (n1:Bool) (a1:Option Addr) (l1 c1:Nat) (x1:Int) (m1:Bool) (b1:Option Addr) (k1 d1:Nat) (y1:Int) (i2:Int) (n2:Bool) (a2:Option Addr) (l2 c2:Nat) (x2:Int) (m2:Bool) (b2:Option Addr) (k2 d2:Nat) (y2:Int),k≤m∧i=.int .i64 k∧Kept w wr∧X2.heap.size≤wr.heap.size∧P2 wr B0 (.int .i64 0) (.int .i64 0)∧P7 wr B1 (.int .i64 i1) (.bool n1) (.slice a1 l1 c1) (.int .i64 x1) (.bool m1) (.slice b1 k1 d1) (.int .i64 y1)∧P7 wr B2 (.int .i64 i2) (.bool n2) (.slice a2 l2 c2) (.int .i64 x2) (.bool m2) (.slice b2 k2 d2) (.int .i64 y2)∧EnAt (fun c=>c≠B1∧c≠B2) wr (env i1 n1 a1 l1 c1 x1 m1 b1 k1 d1 y1) (iS n la k) (xS n la k) oneN5∧EnAt (fun c=>c≠B1∧c≠B2) wr (env i2 n2 a2 l2 c2 x2 m2 b2 k2 d2 y2) (iS n lb k) (xS n lb k) oneN5) (fun i _=>m-(intOf i).toNat)
 case atStart=>exact⟨0,0,n1,a1,l1,c1,x1,m1,b1,k1',d1,y1,0,n2,a2,l2,c2,x2,m2,b2,k2',d2,y2,Nat.zero_le _,rfl,kK2,qhy _,hP2,hQ1,hQ2,G1,G2⟩
 case round=>
  clear hP2 hQ1 hQ2 G1 G2 kK2 HX2
  obtain⟨k,i1,n1,a1,l1,c1,x1,m1,b1,k1,d1,y1,i2,n2,a2,l2,c2,x2,m2,b2,k2,d2,y2,hk,rfl,kr,swr,hR,hQ1,hQ2,G1,G2⟩:=hrel
  obtain⟨q1,q2,q3,q4,q5,q6,q7,q8,q9,q10,q11⟩:=nB.out
  by_cases hkm:k<m
  ·obtain⟨eb,eo,rfl,ci0,ci1⟩:=HI.out _ kr k hkm
   have HC:Hid (∀u,Kept w u→u.cell? ⟨eb,eo+k*2,none⟩=some (.int .i64 (la k))∧u.cell? ⟨eb,eo+k*2+1,none⟩=some (.int .i64 (lb k))):=fun u ku=>by
    obtain⟨b',off',e,h1,h2⟩:=HI.out u ku k hkm
    cases e
    exact⟨h1,h2⟩
   have KO1:Hid (∀u,Calls Tryz.prog 52 #[.int .i64 (la k),.int .i64 n] u fun e w'=>∃v,e=.returned v∧EnAt (qj u.heap.size) w' v (iK n (la k)) (qz (la k) n) oneN5∧Kept u w'):=KO.out k la hkm (.inl rfl)
   have KO2:Hid (∀u,Calls Tryz.prog 52 #[.int .i64 (lb k),.int .i64 n] u fun e w'=>∃v,e=.returned v∧EnAt (qj u.heap.size) w' v (iK n (lb k)) (qz (lb k) n) oneN5∧Kept u w'):=KO.out k lb hkm (.inr rfl)
   have KP1:=KP.out k la hkm (.inl rfl)
   have KP1:Hid (∀(Q:Nat→Prop) u v1 v2,EnAt Q u v1 (iS n la k) (xS n la k) oneN5→EnAt Q u v2 (iK n (la k)) (qz (la k) n) oneN5→(∀c,u.heap.size≤c→Q c)→Calls Tryz.prog 61 #[v1,v2] u fun e w'=>∃r,e=.returned r∧EnAt Q w' r (iS n la (k+1)) (xS n la (k+1)) oneN5∧Kept u w'):=KP1
   have KP2:Hid (∀(Q:Nat→Prop) u v1 v2,EnAt Q u v1 (iS n lb k) (xS n lb k) oneN5→EnAt Q u v2 (iK n (lb k)) (qz (lb k) n) oneN5→(∀c,u.heap.size≤c→Q c)→Calls Tryz.prog 61 #[v1,v2] u fun e w'=>∃r,e=.returned r∧EnAt Q w' r (iS n lb (k+1)) (xS n lb (k+1)) oneN5∧Kept u w'):=KP.out k lb hkm (.inr rfl)
   clear KO KP KM HI ci0 ci1 nB
   generalize hla:la k=la1 at *
   generalize hlb:lb k=lb1 at *
   clear hla hlb
   go_wp2_with fail
   have HS1:Hid (∀u,Kept wr u→Kept wr u∧(u.cell? ⟨B1,0,none⟩=some (.int .i64 i1)∧u.cell? ⟨B1,1,none⟩=some (.bool n1)∧u.cell? ⟨B1,2,none⟩=some (.slice a1 l1 c1)∧u.cell? ⟨B1,3,none⟩=some (.int .i64 x1)∧u.cell? ⟨B1,4,none⟩=some (.bool m1)∧u.cell? ⟨B1,5,none⟩=some (.slice b1 k1 d1)∧u.cell? ⟨B1,6,none⟩=some (.int .i64 y1))∧u.cell? ⟨eb,eo+k*2,none⟩=some (.int .i64 la1)):=fun u ku=>⟨ku,⟨(hQ1.kept ku).c0,(hQ1.kept ku).c1,(hQ1.kept ku).c2,(hQ1.kept ku).c3,(hQ1.kept ku).c4,(hQ1.kept ku).c5,(hQ1.kept ku).c6⟩,(HC.out u (kr.trans ku)).1⟩
   refine qZ [9] (fun u=>Kept wr u∧(u.cell? ⟨B1,0,none⟩=some (.int .i64 i1)∧u.cell? ⟨B1,1,none⟩=some (.bool n1)∧u.cell? ⟨B1,2,none⟩=some (.slice a1 l1 c1)∧u.cell? ⟨B1,3,none⟩=some (.int .i64 x1)∧u.cell? ⟨B1,4,none⟩=some (.bool m1)∧u.cell? ⟨B1,5,none⟩=some (.slice b1 k1 d1)∧u.cell? ⟨B1,6,none⟩=some (.int .i64 y1))∧u.cell? ⟨eb,eo+k*2,none⟩=some (.int .i64 la1)) (by kernel_rfl) (HS1.out _ (qia _).drew) (fun hHeld=>?_)
   refine tkD (i:=0) (v:=?_) rfl hHeld ?_
   try simp only[zz]
   refine tkD (i:=1) (v:=?_) rfl hHeld ?_
   try simp only[zz]
   refine tkD (i:=2) (v:=?_) rfl hHeld ?_
   try simp only[zz]
   refine tkD (i:=3) (v:=?_) rfl hHeld ?_
   try simp only[zz]
   refine tkD (i:=4) (v:=?_) rfl hHeld ?_
   try simp only[zz]
   refine tkD (i:=5) (v:=?_) rfl hHeld ?_
   try simp only[zz]
   refine tkD (i:=6) (v:=?_) rfl hHeld ?_
   try simp only[zz]
   refine qN (i:=7) (by kernel_rfl) rfl (fun K hK9=>?_)
   go_simp
   go_wp2_with fail
   refine(KO1.out _).mono ?_
   rintro e u11 ⟨v1,rfl,e1,p1⟩
   refine hK9.out _ _ (HS1.out _ (hHeld.1.trans p1)) (fun hH1=>?_)
   clear hK9 K
   try simp only[zz]
   refine qN (i:=8) (by kernel_rfl) rfl (fun K hK9=>?_)
   go_simp
   go_wp2_with fail
   refine(KP1.out (fun c=>c≠B1∧c≠B2) _ _ _ (G1.kept hH1.1) (e1.imp fun c hc=>by have:=hHeld.1.below.size;simp only[qj]at hc;omega) (fun c hc=>by have:=hH1.1.below.size;omega)).mono ?_
   rintro e u21 ⟨r1,rfl,f1,s1⟩
   refine hK9.out _ _ (HS1.out _ (hH1.1.trans s1)) (fun hH2=>?_)
   clear hK9 K
   try simp only[zz]
   obtain⟨j1,o1,a3,l3,c3,x3,o3,b3,k3,d3,y3,rfl⟩:∃j n a l c x m b k d y,r1=env j n a l c x m b k d y:=by
    obtain⟨nn,aa,ll,cc,xx,mm,bb,kk,dd,yy,e⟩:=EnAt.shape f1
    exact⟨_,nn,aa,ll,cc,xx,mm,bb,kk,dd,yy,e⟩
   have hQn:=hQ1.kept hH2.1
   obtain⟨h0,h1,h2,h3,h4,h5,h6,hf⟩:=hQn
   refine jx (i:=9) (by kernel_rfl) rfl rfl (fun K hK9=>?_)
   go_simp
   refine hK9.out _ _ ?_
   clear hK9 K
   try simp only[zz]
   refine zY (by kernel_rfl) ?_ _
   try simp only[zz]
   obtain⟨Y,hY⟩:∃Y,Y=((((((u21.setCell ⟨B1,0,none⟩ (.int .i64 j1)).setCell ⟨B1,1,none⟩ (.bool o1)).setCell ⟨B1,2,none⟩ (.slice a3 l3 c3)).setCell ⟨B1,3,none⟩ (.int .i64 x3)).setCell ⟨B1,4,none⟩ (.bool o3)).setCell ⟨B1,5,none⟩ (.slice b3 k3 d3)).setCell ⟨B1,6,none⟩ (.int .i64 y3):=⟨_,rfl⟩
   have kY:Kept w Y:=by rw[hY];exact yb (kr.trans hH2.1) q8 _ _ _ _ _ _ _
   have R1:P7 Y B1 (.int .i64 j1) (.bool o1) (.slice a3 l3 c3) (.int .i64 x3) (.bool o3) (.slice b3 k3 d3) (.int .i64 y3):=by rw[hY];exact(hQ1.kept hH2.1).put _ _ _ _ _ _ _
   have R2:P7 Y B2 (.int .i64 i2) (.bool n2) (.slice a2 l2 c2) (.int .i64 x2) (.bool m2) (.slice b2 k2 d2) (.int .i64 y2):=by rw[hY];exact(hQ2.kept hH2.1).other B1 q1 _ _ _ _ _ _ _
   have RR:P2 Y B0 (.int .i64 0) (.int .i64 0):=by rw[hY];exact(((((((hR.kept hH2.1).set B1 _ q5 _).set B1 _ q5 _).set B1 _ q5 _).set B1 _ q5 _).set B1 _ q5 _).set B1 _ q5 _).set B1 _ q5 _
   have J1:EnAt (fun c=>c≠B1∧c≠B2) Y (env j1 o1 a3 l3 c3 x3 o3 b3 k3 d3 y3) (iS n la (k+1)) (xS n la (k+1)) oneN5:=by rw[hY];exact f1.put B1 (fun c hc=>hc.1) _ _ _ _ _ _ _
   have J2:EnAt (fun c=>c≠B1∧c≠B2) Y (env i2 n2 a2 l2 c2 x2 m2 b2 k2 d2 y2) (iS n lb k) (xS n lb k) oneN5:=by rw[hY];exact(G2.kept hH2.1).put B1 (fun c hc=>hc.1) _ _ _ _ _ _ _
   have sY:X2.heap.size≤Y.heap.size:=by
    have:=hH2.1.below.size
    rw[hY]
    simp
    omega
   rw[←hY]
   clear hY hH2 hH1 hHeld f1 s1 p1 e1 hQ1 hQ2 hR G1 G2 h0 h1 h2 h3 h4 h5 h6 hf HS1 KO1 KP1 kr swr
   have kr:=kY
   go_wp2_with fail
   have HS2:Hid (∀u,Kept Y u→Kept Y u∧(u.cell? ⟨B2,0,none⟩=some (.int .i64 i2)∧u.cell? ⟨B2,1,none⟩=some (.bool n2)∧u.cell? ⟨B2,2,none⟩=some (.slice a2 l2 c2)∧u.cell? ⟨B2,3,none⟩=some (.int .i64 x2)∧u.cell? ⟨B2,4,none⟩=some (.bool m2)∧u.cell? ⟨B2,5,none⟩=some (.slice b2 k2 d2)∧u.cell? ⟨B2,6,none⟩=some (.int .i64 y2))∧u.cell? ⟨eb,eo+k*2+1,none⟩=some (.int .i64 lb1)):=fun u ku=>⟨ku,⟨(R2.kept ku).c0,(R2.kept ku).c1,(R2.kept ku).c2,(R2.kept ku).c3,(R2.kept ku).c4,(R2.kept ku).c5,(R2.kept ku).c6⟩,(HC.out u (kr.trans ku)).2⟩
   refine qZ [9] (fun u=>Kept Y u∧(u.cell? ⟨B2,0,none⟩=some (.int .i64 i2)∧u.cell? ⟨B2,1,none⟩=some (.bool n2)∧u.cell? ⟨B2,2,none⟩=some (.slice a2 l2 c2)∧u.cell? ⟨B2,3,none⟩=some (.int .i64 x2)∧u.cell? ⟨B2,4,none⟩=some (.bool m2)∧u.cell? ⟨B2,5,none⟩=some (.slice b2 k2 d2)∧u.cell? ⟨B2,6,none⟩=some (.int .i64 y2))∧u.cell? ⟨eb,eo+k*2+1,none⟩=some (.int .i64 lb1)) (by kernel_rfl) (HS2.out _ (qia _).drew) (fun hHeld=>?_)
   refine tkD (i:=0) (v:=?_) rfl hHeld ?_
   try simp only[zz]
   refine tkD (i:=1) (v:=?_) rfl hHeld ?_
   try simp only[zz]
   refine tkD (i:=2) (v:=?_) rfl hHeld ?_
   try simp only[zz]
   refine tkD (i:=3) (v:=?_) rfl hHeld ?_
   try simp only[zz]
   refine tkD (i:=4) (v:=?_) rfl hHeld ?_
   try simp only[zz]
   refine tkD (i:=5) (v:=?_) rfl hHeld ?_
   try simp only[zz]
   refine tkD (i:=6) (v:=?_) rfl hHeld ?_
   try simp only[zz]
   refine qN (i:=7) (by kernel_rfl) rfl (fun K hK9=>?_)
   go_simp
   go_wp2_with fail
   refine(KO2.out _).mono ?_
   rintro e u12 ⟨v2,rfl,e2,p2⟩
   refine hK9.out _ _ (HS2.out _ (hHeld.1.trans p2)) (fun hH1=>?_)
   clear hK9 K
   try simp only[zz]
   refine qN (i:=8) (by kernel_rfl) rfl (fun K hK9=>?_)
   go_simp
   go_wp2_with fail
   refine(KP2.out (fun c=>c≠B1∧c≠B2) _ _ _ (J2.kept hH1.1) (e2.imp fun c hc=>by have:=hHeld.1.below.size;simp only[qj]at hc;omega) (fun c hc=>by have:=hH1.1.below.size;omega)).mono ?_
   rintro e u22 ⟨r2,rfl,f2,s2⟩
   refine hK9.out _ _ (HS2.out _ (hH1.1.trans s2)) (fun hH2=>?_)
   clear hK9 K
   try simp only[zz]
   obtain⟨j2,o2,a4,l4,c4,x4,o4,b4,k4,d4,y4,rfl⟩:∃j n a l c x m b k d y,r2=env j n a l c x m b k d y:=by
    obtain⟨nn,aa,ll,cc,xx,mm,bb,kk,dd,yy,e⟩:=EnAt.shape f2
    exact⟨_,nn,aa,ll,cc,xx,mm,bb,kk,dd,yy,e⟩
   have hQn:=R2.kept hH2.1
   obtain⟨h0,h1,h2,h3,h4,h5,h6,hf⟩:=hQn
   refine jx (i:=9) (by kernel_rfl) rfl rfl (fun K hK9=>?_)
   go_simp
   refine hK9.out _ _ ?_
   clear hK9 K
   try simp only[zz]
   refine zY (by kernel_rfl) ?_ _
   try simp only[zz]
   obtain⟨Z,hZ⟩:∃Z,Z=((((((u22.setCell ⟨B2,0,none⟩ (.int .i64 j2)).setCell ⟨B2,1,none⟩ (.bool o2)).setCell ⟨B2,2,none⟩ (.slice a4 l4 c4)).setCell ⟨B2,3,none⟩ (.int .i64 x4)).setCell ⟨B2,4,none⟩ (.bool o4)).setCell ⟨B2,5,none⟩ (.slice b4 k4 d4)).setCell ⟨B2,6,none⟩ (.int .i64 y4):=⟨_,rfl⟩
   have kZ:Kept w Z:=by rw[hZ];exact yb (kY.trans hH2.1) q9 _ _ _ _ _ _ _
   have T2:P7 Z B2 (.int .i64 j2) (.bool o2) (.slice a4 l4 c4) (.int .i64 x4) (.bool o4) (.slice b4 k4 d4) (.int .i64 y4):=by rw[hZ];exact(R2.kept hH2.1).put _ _ _ _ _ _ _
   have T1:P7 Z B1 (.int .i64 j1) (.bool o1) (.slice a3 l3 c3) (.int .i64 x3) (.bool o3) (.slice b3 k3 d3) (.int .i64 y3):=by rw[hZ];exact(R1.kept hH2.1).other B2 q2 _ _ _ _ _ _ _
   have TT:P2 Z B0 (.int .i64 0) (.int .i64 0):=by rw[hZ];exact(((((((RR.kept hH2.1).set B2 _ q6 _).set B2 _ q6 _).set B2 _ q6 _).set B2 _ q6 _).set B2 _ q6 _).set B2 _ q6 _).set B2 _ q6 _
   have L2:EnAt (fun c=>c≠B1∧c≠B2) Z (env j2 o2 a4 l4 c4 x4 o4 b4 k4 d4 y4) (iS n lb (k+1)) (xS n lb (k+1)) oneN5:=by rw[hZ];exact f2.put B2 (fun c hc=>hc.2) _ _ _ _ _ _ _
   have L1:EnAt (fun c=>c≠B1∧c≠B2) Z (env j1 o1 a3 l3 c3 x3 o3 b3 k3 d3 y3) (iS n la (k+1)) (xS n la (k+1)) oneN5:=by rw[hZ];exact(J1.kept hH2.1).put B2 (fun c hc=>hc.2) _ _ _ _ _ _ _
   have sZ:X2.heap.size≤Z.heap.size:=by
    have:=hH2.1.below.size
    rw[hZ]
    simp
    omega
   rw[←hZ]
   clear hZ hH2 hH1 hHeld f2 s2 p2 e2 R1 R2 RR J1 J2 h0 h1 h2 h3 h4 h5 h6 hf HS2 KO2 KP2
   go_wp2_with fail
   go_roundw
   case rel=>exact⟨k+1,j1,o1,a3,l3,c3,x3,o3,b3,k3,d3,y3,j2,o2,a4,l4,c4,x4,o4,b4,k4,d4,y4,by omega,by go_num,kZ,sZ,TT,T1,T2,L1,L2⟩
   case measure=>simp[intOf];omega
  ·have hkm2:k=m:=by omega
   subst hkm2
   clear KO KP HI hkm hk
   have hR2:=hR.put (.int .i64 z1) (.int .i64 z2)
   obtain⟨g0,g1,g2,g3,g4,g5,g6,gf⟩:=hQ1
   obtain⟨h0,h1,h2,h3,h4,h5,h6,hf⟩:=hQ2
   go_wp2_with fail
   refine(KM.out _ _ _ _ G1 G2).mono ?_
   rintro e w3 ⟨rfl,k3⟩
   have hz:=(hR.kept k3).put (.int .i64 z1) (.int .i64 z2)
   obtain⟨d0,d1',df⟩:=hR.kept k3
   obtain⟨e0,e1,ef⟩:=hz
   go_wp2_with fail
   exact qh9 (v:=.agg #[.int .i64 z1,.int .i64 z2]) (by simp[results,Tryz.results27,go_sem,e0,e1]) rfl ⟨rfl,((kr.trans k3).setCell (p:=⟨B0,0,none⟩) q7 _).setCell (p:=⟨B0,1,none⟩) q7 _⟩
end Go.Proofs.YtaglkncdedeipaaGreatDoor
