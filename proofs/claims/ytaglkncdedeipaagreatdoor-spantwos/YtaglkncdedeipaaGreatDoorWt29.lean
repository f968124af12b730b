/-  -/
import Derived.Test.YtaglkncdedeipaaGreatDoorWt28
namespace Go.Proofs.YtaglkncdedeipaaGreatDoor
open Go.ChangeShapes Go.WideShapes Go.ChangeAt Go.RowKit
set_option linter.unusedVariables false
set_option linter.unusedSimpArgs false
set_option maxHeartbeats 16000000
set_option maxRecDepth 100000
theorem QH (s1 s2 t1 t2 n z1 z2 cc:Int)(iE:Int→Int)(xE:Int→Nm)(lo hi:Int→Int→Int)(w:World)
  (KO:Hid (∀u b,(b=s1∨b=s2∨b=t1∨b=t2)→Kept w u→Calls Tryz.prog 52 #[.int .i64 b,.int .i64 n] u fun e w'=>∃v,e=.returned v∧EN iE xE b (qn u.heap.size) w' v∧Kept u w'))
  (KU:Hid (∀u b c v1 v2 P G,(b=s1∧c=t1∨b=s2∧c=t2)→Kept w u→EN iE xE b P u v1→EN iE xE c P u v2→AV u G 0 v1→AV u G 7 v2→Calls Tryz.prog 59 #[.slice (some ⟨G,0,none⟩) 2 2] u fun e w'=>∃vl vh,e=.returned (.tuple #[vl,vh])∧EN iE xE (lo b c) P w' vl∧EN iE xE (hi b c) P w' vh∧Kept u w'))
  (KR:Hid (∀u v1 v2,Kept w u→EN iE xE (hi s1 t1) Top u v1→EN iE xE (lo s2 t2) Top u v2→Calls Tryz.prog 53 #[v1,v2] u fun e w'=>e=.returned (.int .i64 cc)∧Kept u w')) (hc:decide (0<cc)=false)
  (KM:Hid (∀u v1 v2,Kept w u→EN iE xE (hi s1 t1) Top u v1→EN iE xE (lo s2 t2) Top u v2→Calls Tryz.prog 60 #[v1,v2,.int .i64 n] u fun e w'=>e=.returned (.agg #[.int .i64 z1,.int .i64 z2])∧Kept u w')):
  Calls Tryz.prog 19 #[.agg #[.int .i64 s1,.int .i64 s2],.agg #[.int .i64 t1,.int .i64 t2],.int .i64 n] w fun e w'=>e=.returned (.tuple #[.agg #[.int .i64 z1,.int .i64 z2],.bool true])∧Kept w w':=by
 obtain⟨X,hX⟩:∃X,X=((w.alloc (.cells #[.int .i64 s1,.int .i64 s2] 23)).alloc (.cells #[.int .i64 t1,.int .i64 t2] 23)).alloc (.cells #[.int .i64 0,.int .i64 0] 23):=⟨_,rfl⟩
 have hK:Kept w X:=by rw[hX];exact(((qo0 w).alloc _ _).alloc _ _).alloc _ _
 have hXs:X.heap.size=w.heap.size+3:=by rw[hX];simp
 have hP0:P2 X (w.heap.size) (.int .i64 s1) (.int .i64 s2):=by
  rw[hX]
  have:=(((P2.new (w) (.int .i64 s1) (.int .i64 s2) 23).alloc #[.int .i64 t1,.int .i64 t2] 23).alloc #[.int .i64 0,.int .i64 0] 23)
  simpa using this
 have hP1:P2 X (w.heap.size+1) (.int .i64 t1) (.int .i64 t2):=by
  rw[hX]
  have:=((P2.new (w.alloc (.cells #[.int .i64 s1,.int .i64 s2] 23)) (.int .i64 t1) (.int .i64 t2) 23).alloc #[.int .i64 0,.int .i64 0] 23)
  simpa using this
 have hP2:P2 X (w.heap.size+1+1) (.int .i64 0) (.int .i64 0):=by
  rw[hX]
  have:=(P2.new ((w.alloc (.cells #[.int .i64 s1,.int .i64 s2] 23)).alloc (.cells #[.int .i64 t1,.int .i64 t2] 23)) (.int .i64 0) (.int .i64 0) 23)
  simpa using this
 obtain⟨B0,hB0⟩:∃B,B=w.heap.size:=⟨_,rfl⟩
 obtain⟨B1,hB1⟩:∃B,B=B0+1:=⟨_,rfl⟩
 obtain⟨B2,hB2⟩:∃B,B=B1+1:=⟨_,rfl⟩
 rw[←hB0]at hP0
 rw[←hB0,←hB1]at hP1
 rw[←hB0,←hB1,←hB2]at hP2
 have oB:Hid (w.heap.size≤B0∧B0<X.heap.size∧w.heap.size≤B1∧B1<X.heap.size∧w.heap.size≤B2∧B2<X.heap.size):=(show _∧_∧_∧_∧_∧_ from by omega)
 have oX:Hid (w.heap.size≤X.heap.size):=hK.below.size
 have HS:Hid (∀u,Kept X u→Kept X u∧u.cell? ⟨B0,0,none⟩=some (.int .i64 s1)∧u.cell? ⟨B0,1,none⟩=some (.int .i64 s2)∧u.cell? ⟨B1,0,none⟩=some (.int .i64 t1)∧u.cell? ⟨B1,1,none⟩=some (.int .i64 t2)):=fun u k=>⟨k,(hP0.kept k).c0,(hP0.kept k).c1,(hP1.kept k).c0,(hP1.kept k).c1⟩
 go_enter Tryz.func19,Tryz.ntmps19
 go_upto_region 1 with fail
 rw[←hX,←hB0,←hB1,←hB2]
 clear hX hXs hB0 hB1 hB2
 refine qm [] (fun u=>Kept X u∧u.cell? ⟨B0,0,none⟩=some (.int .i64 s1)∧u.cell? ⟨B0,1,none⟩=some (.int .i64 s2)∧u.cell? ⟨B1,0,none⟩=some (.int .i64 t1)∧u.cell? ⟨B1,1,none⟩=some (.int .i64 t2)) (by kernel_rfl) (HS.out _ (qo0 X).drew) (fun hHeld=>?_)
 have hSS:∀u,Kept X u→Kept X u∧u.cell? ⟨B0,0,none⟩=some (.int .i64 s1)∧u.cell? ⟨B0,1,none⟩=some (.int .i64 s2)∧u.cell? ⟨B1,0,none⟩=some (.int .i64 t1)∧u.cell? ⟨B1,1,none⟩=some (.int .i64 t2):=fun u k=>HS.out u k
 refine tkD (i:=0) (v:=?_) rfl hHeld ?_
 try simp only[zz]
 refine tkD (i:=1) (v:=?_) rfl hHeld ?_
 try simp only[zz]
 refine tkD (i:=2) (v:=?_) rfl hHeld ?_
 try simp only[zz]
 refine tkD (i:=4) (v:=?_) rfl hHeld ?_
 try simp only[zz]
 refine tkD (i:=5) (v:=?_) rfl hHeld ?_
 try simp only[zz]
 refine tkD (i:=6) (v:=?_) rfl hHeld ?_
 try simp only[zz]
 refine QU (i1:=13) (i2:=14) (d1:=8) (d2:=9) (I:=JJ X (fun _ _=>True)) (JJ.start hHeld.1) ?_
 refine qE (c:=3) (I':=fun v1=>JJ X (fun P u=>EN iE xE s1 P u v1)) rfl (by kernel_rfl) rfl rfl (qG xQ hSS rfl rfl ⟨rfl,rfl,rfl⟩ ⟨rfl,rfl,rfl⟩) (fun v x y w h=>hSS w h.k) (fun xF yF uF hJ K hK9=>?_) (fun v1=>?_)
 ·rcases xF with _|xF<;>rcases yF with _|yF
  all_goals (
   (try simp only[fpt,zz])
   go_simp
   go_wp2_with fail
   refine(KO.out _ _ (.inl rfl) (hK.trans hJ.k)).mono ?_
   rintro e u1 ⟨v,rfl,g,k⟩
   exact hK9.out _ _ _ (by first|rfl|(simp only[fpt,zz])) (hJ.next k (g.here.imp fun c hc=>hJ.fresh hc.1 hc.2))
  )
 try simp only[zz]
 refine qE (c:=7) (I':=fun v2=>JJ X (fun P u=>EN iE xE s1 P u v1∧EN iE xE t1 P u v2)) rfl (by kernel_rfl) rfl rfl (qG (qJ _ _ _ _) hSS rfl rfl ⟨rfl,rfl,rfl⟩ ⟨rfl,rfl,rfl⟩) (fun v x y w h=>hSS w h.k) (fun xF yF uF hJ K hK9=>?_) (fun v2=>?_)
 ·rcases xF with _|xF<;>rcases yF with _|yF
  all_goals (
   (try simp only[fpt,zz])
   go_simp
   go_wp2_with fail
   refine(KO.out _ _ (.inr (.inr (.inl rfl))) (hK.trans hJ.k)).mono ?_
   rintro e u1 ⟨v,rfl,g,k⟩
   exact hK9.out _ _ _ (by first|rfl|(simp only[fpt,zz])) (hJ.next k ⟨((hJ.v.kept k).imp fun c hc=>hc.kept k),(g.here.imp fun c hc=>hJ.fresh hc.1 hc.2)⟩)
  )
 try simp only[zz]
 refine qE (c:=8) (I':=fun v x y w=>∃G,v=.slice (some ⟨G,0,none⟩) 2 2∧JJ X (fun P u=>(EN iE xE s1 P u v1∧EN iE xE t1 P u v2)∧AV u G 0 v1∧AV u G 7 v2) x y w) rfl (by kernel_rfl) rfl rfl (qG ((qJ _ _ _ _).and (qJ _ _ _ _)) hSS rfl rfl ⟨rfl,rfl,rfl⟩ ⟨rfl,rfl,rfl⟩) (fun v x y w h=>h.elim fun _ h=>hSS w h.2.k) (fun xF yF uF hJ K hK9=>?_) (jM fun G=>?_)
 ·obtain⟨ea,eb⟩:=hJ.v
  obtain⟨np,ap,lp,cp,xp,mp,bp,kp,dp,yp,rfl⟩:=ea.shape
  obtain⟨nq,aq,lq,cq,xq,mq,bq,kq,dq,yq,rfl⟩:=eb.shape
  rcases xF with _|xF<;>rcases yF with _|yF
  all_goals (
   (try simp only[fpt,zz])
   go_simp
   exact hK9.out _ _ _ (by first|rfl|(simp only[fpt,zz])) ⟨_,rfl,hJ.next ((qo0 uF).alloc _ _) ⟨⟨(ea.kept ((qo0 uF).alloc _ _)).imp fun c hc=>hc.kept ((qo0 uF).alloc _ _),(eb.kept ((qo0 uF).alloc _ _)).imp fun c hc=>hc.kept ((qo0 uF).alloc _ _)⟩,qe2 _ _ _ _ _ _ _ _ _ _ _ _ _ _ _ _ _ _ _ _ _ _ _ _⟩⟩
  )
 try simp only[zz]
 refine qE (c:=9) (I':=fun v x y w=>∃vl vh,v=.tuple #[vl,vh]∧JJ X (fun P u=>EN iE xE (lo s1 t1) P u vl∧EN iE xE (hi s1 t1) P u vh) x y w) rfl (by kernel_rfl) rfl rfl (qG (((qJ _ _ _ _).and (qJ _ _ _ _)).and ((zK _ _ _).and (zK _ _ _))) hSS rfl rfl ⟨rfl,rfl,rfl⟩ ⟨rfl,rfl,rfl⟩) (fun v x y w h=>h.elim fun _ h=>h.elim fun _ h=>hSS w h.2.k) (fun xF yF uF hJ K hK9=>?_) (jL fun vl vh=>?_)
 ·rcases xF with _|xF<;>rcases yF with _|yF
  all_goals (
   (try simp only[fpt,zz])
   go_simp
   go_wp2_with fail
   refine(KU.out _ _ _ _ _ _ _ (.inl ⟨rfl,rfl⟩) (hK.trans hJ.k) hJ.v.1.1 hJ.v.1.2 hJ.v.2.1 hJ.v.2.2).mono ?_
   rintro e u1 ⟨vl,vh,rfl,gl,gh,k⟩
   exact hK9.out _ _ _ (by first|rfl|(simp only[fpt,zz])) ⟨vl,vh,rfl,hJ.next k ⟨gl.imp fun c hc=>hc.kept k,gh.imp fun c hc=>hc.kept k⟩⟩
  )
 try simp only[zz]
 refine qY (i:=10) (v:=.tuple #[vl,vh]) rfl (by kernel_rfl) (by kernel_rfl) rfl rfl (fun _ _ _ h=>h) (fun x y w h=>hSS w h.k) (fun xF yF=>?_) ?_
 ·rcases xF with _|xF<;>rcases yF with _|yF<;>exact Or.inl ⟨by rfl,by(intro w hSw;simp only[fpt,zz];go_simp;try (with_reducible rfl))⟩
 try simp only[zz]
 refine qY (i:=11) (v:=vl) rfl (by kernel_rfl) (by kernel_rfl) rfl rfl (fun _ _ _ h=>h) (fun x y w h=>hSS w h.k) (fun xF yF=>?_) ?_
 ·rcases xF with _|xF<;>rcases yF with _|yF<;>exact Or.inl ⟨by rfl,by(intro w hSw;simp only[fpt,zz];go_simp;try (with_reducible rfl))⟩
 try simp only[zz]
 refine qY (i:=12) (v:=vh) rfl (by kernel_rfl) (by kernel_rfl) rfl rfl (fun _ _ _ h=>h) (fun x y w h=>hSS w h.k) (fun xF yF=>?_) ?_
 ·rcases xF with _|xF<;>rcases yF with _|yF<;>exact Or.inl ⟨by rfl,by(intro w hSw;simp only[fpt,zz];go_simp;try (with_reducible rfl))⟩
 try simp only[zz]
 refine yB (by kernel_rfl) rfl rfl (qG ((qJ _ _ _ _).and (qJ _ _ _ _)) hSS rfl rfl ⟨rfl,rfl,rfl⟩ ⟨rfl,rfl,rfl⟩) (fun xF yF uF hJ=>?_)
 obtain⟨C0,rfl,oC0,p1⟩:=hJ.f1 _ rfl
 obtain⟨C1,rfl,oC1,p2⟩:=hJ.f2 _ rfl
 have hne:C0≠C1:=fun e=>hJ.ne _ rfl (by rw[e])
 obtain⟨gl,gh⟩:=hJ.v
 have kU:=hJ.k
 replace gl:=gl.imp (fun c hc=>(show c≠C0∧c≠C1 from⟨hc.2.1 _ rfl,hc.2.2 _ rfl⟩))
 replace gh:=gh.imp (fun c hc=>(show c≠C0∧c≠C1 from⟨hc.2.1 _ rfl,hc.2.2 _ rfl⟩))
 clear hJ
 obtain⟨ne,ae,le,ce,xe,me,be,ke,de,ye,rfl⟩:=gl.shape
 obtain⟨nf,af,lf,cf,xf,mf,bf,kf,df,yf,rfl⟩:=gh.shape
 try simp only[zz]
 have p2b:=p2.other C0 hne (.int .i64 (iE (lo s1 t1))) (.bool ne) (.slice ae le ce) (.int .i64 xe) (.bool me) (.slice be ke de) (.int .i64 ye)
 have p1b:=p1.put (.int .i64 (iE (lo s1 t1))) (.bool ne) (.slice ae le ce) (.int .i64 xe) (.bool me) (.slice be ke de) (.int .i64 ye)
 have kV:=ze kU oC0 (.int .i64 (iE (lo s1 t1))) (.bool ne) (.slice ae le ce) (.int .i64 xe) (.bool me) (.slice be ke de) (.int .i64 ye)
 obtain⟨rr0,rr1,rr2,rr3,rr4,rr5,rr6,rrf⟩:=p1
 refine qi (i:=15) (by kernel_rfl) rfl (fun K hK9=>?_)
 go_simp
 refine hK9.out _ _ (hSS _ kV) (fun hH=>?_)
 clear hK9 K
 try simp only[zz]
 clear rr0 rr1 rr2 rr3 rr4 rr5 rr6 rrf
 obtain⟨V,hV⟩:∃Z,Z=(((((((uF).setCell ⟨C0,0,none⟩ (.int .i64 (iE (lo s1 t1)))).setCell ⟨C0,1,none⟩ (.bool ne)).setCell ⟨C0,2,none⟩ (.slice ae le ce)).setCell ⟨C0,3,none⟩ (.int .i64 xe)).setCell ⟨C0,4,none⟩ (.bool me)).setCell ⟨C0,5,none⟩ (.slice be ke de)).setCell ⟨C0,6,none⟩ (.int .i64 ye):=⟨_,rfl⟩
 have glV:EN iE xE (lo s1 t1) (fun c=>c≠C0∧c≠C1) V (env (iE (lo s1 t1)) ne ae le ce xe me be ke de ye):=by rw[hV];exact gl.put C0 (fun c h=>h.1) _ _ _ _ _ _ _
 have ghV:EN iE xE (hi s1 t1) (fun c=>c≠C0∧c≠C1) V (env (iE (hi s1 t1)) nf af lf cf xf mf bf kf df yf):=by rw[hV];exact gh.put C0 (fun c h=>h.1) _ _ _ _ _ _ _
 rw[←hV]
 change P7 ((((((((uF).setCell ⟨C0,0,none⟩ (.int .i64 (iE (lo s1 t1)))).setCell ⟨C0,1,none⟩ (.bool ne)).setCell ⟨C0,2,none⟩ (.slice ae le ce)).setCell ⟨C0,3,none⟩ (.int .i64 xe)).setCell ⟨C0,4,none⟩ (.bool me)).setCell ⟨C0,5,none⟩ (.slice be ke de)).setCell ⟨C0,6,none⟩ (.int .i64 ye)) _ _ _ _ _ _ _ _ at p2b
 change P7 ((((((((uF).setCell ⟨C0,0,none⟩ (.int .i64 (iE (lo s1 t1)))).setCell ⟨C0,1,none⟩ (.bool ne)).setCell ⟨C0,2,none⟩ (.slice ae le ce)).setCell ⟨C0,3,none⟩ (.int .i64 xe)).setCell ⟨C0,4,none⟩ (.bool me)).setCell ⟨C0,5,none⟩ (.slice be ke de)).setCell ⟨C0,6,none⟩ (.int .i64 ye)) _ _ _ _ _ _ _ _ at p1b
 change Kept _ ((((((((uF).setCell ⟨C0,0,none⟩ (.int .i64 (iE (lo s1 t1)))).setCell ⟨C0,1,none⟩ (.bool ne)).setCell ⟨C0,2,none⟩ (.slice ae le ce)).setCell ⟨C0,3,none⟩ (.int .i64 xe)).setCell ⟨C0,4,none⟩ (.bool me)).setCell ⟨C0,5,none⟩ (.slice be ke de)).setCell ⟨C0,6,none⟩ (.int .i64 ye))at kV
 rw[←hV]at p2b p1b kV
 clear hV gl gh hH p2
 have p1c:=p1b.other C1 (Ne.symm hne) (.int .i64 (iE (hi s1 t1))) (.bool nf) (.slice af lf cf) (.int .i64 xf) (.bool mf) (.slice bf kf df) (.int .i64 yf)
 have p2c:=p2b.put (.int .i64 (iE (hi s1 t1))) (.bool nf) (.slice af lf cf) (.int .i64 xf) (.bool mf) (.slice bf kf df) (.int .i64 yf)
 have kW:=ze kV oC1 (.int .i64 (iE (hi s1 t1))) (.bool nf) (.slice af lf cf) (.int .i64 xf) (.bool mf) (.slice bf kf df) (.int .i64 yf)
 obtain⟨rr0,rr1,rr2,rr3,rr4,rr5,rr6,rrf⟩:=p2b
 refine qi (i:=16) (by kernel_rfl) rfl (fun K hK9=>?_)
 go_simp
 refine hK9.out _ _ (hSS _ kW) (fun hH=>?_)
 clear hK9 K
 try simp only[zz]
 clear rr0 rr1 rr2 rr3 rr4 rr5 rr6 rrf
 obtain⟨U,hV⟩:∃Z,Z=(((((((V).setCell ⟨C1,0,none⟩ (.int .i64 (iE (hi s1 t1)))).setCell ⟨C1,1,none⟩ (.bool nf)).setCell ⟨C1,2,none⟩ (.slice af lf cf)).setCell ⟨C1,3,none⟩ (.int .i64 xf)).setCell ⟨C1,4,none⟩ (.bool mf)).setCell ⟨C1,5,none⟩ (.slice bf kf df)).setCell ⟨C1,6,none⟩ (.int .i64 yf):=⟨_,rfl⟩
 have eC0:EN iE xE (lo s1 t1) Top U (env (iE (lo s1 t1)) ne ae le ce xe me be ke de ye):=by rw[hV];exact(glV.put C1 (fun c h=>h.2) _ _ _ _ _ _ _).imp fun _ _=>trivial
 have eC1:EN iE xE (hi s1 t1) Top U (env (iE (hi s1 t1)) nf af lf cf xf mf bf kf df yf):=by rw[hV];exact(ghV.put C1 (fun c h=>h.2) _ _ _ _ _ _ _).imp fun _ _=>trivial
 rw[←hV]
 change P7 ((((((((V).setCell ⟨C1,0,none⟩ (.int .i64 (iE (hi s1 t1)))).setCell ⟨C1,1,none⟩ (.bool nf)).setCell ⟨C1,2,none⟩ (.slice af lf cf)).setCell ⟨C1,3,none⟩ (.int .i64 xf)).setCell ⟨C1,4,none⟩ (.bool mf)).setCell ⟨C1,5,none⟩ (.slice bf kf df)).setCell ⟨C1,6,none⟩ (.int .i64 yf)) _ _ _ _ _ _ _ _ at p2c
 change P7 ((((((((V).setCell ⟨C1,0,none⟩ (.int .i64 (iE (hi s1 t1)))).setCell ⟨C1,1,none⟩ (.bool nf)).setCell ⟨C1,2,none⟩ (.slice af lf cf)).setCell ⟨C1,3,none⟩ (.int .i64 xf)).setCell ⟨C1,4,none⟩ (.bool mf)).setCell ⟨C1,5,none⟩ (.slice bf kf df)).setCell ⟨C1,6,none⟩ (.int .i64 yf)) _ _ _ _ _ _ _ _ at p1c
 change Kept _ ((((((((V).setCell ⟨C1,0,none⟩ (.int .i64 (iE (hi s1 t1)))).setCell ⟨C1,1,none⟩ (.bool nf)).setCell ⟨C1,2,none⟩ (.slice af lf cf)).setCell ⟨C1,3,none⟩ (.int .i64 xf)).setCell ⟨C1,4,none⟩ (.bool mf)).setCell ⟨C1,5,none⟩ (.slice bf kf df)).setCell ⟨C1,6,none⟩ (.int .i64 yf))at kW
 rw[←hV]at p2c p1c kW
 clear hV glV ghV hH kU kV p1b uF V
 have q0:=p1c
 have q1:=p2c
 have kXU:=kW
 clear p1c p2c kW
 refine qs (by kernel_rfl) ?_ _
 try simp only[zz]
 go_upto_region 2 with fail
 clear hSS hHeld
 refine qm [] (fun u=>Kept X u∧u.cell? ⟨B0,0,none⟩=some (.int .i64 s1)∧u.cell? ⟨B0,1,none⟩=some (.int .i64 s2)∧u.cell? ⟨B1,0,none⟩=some (.int .i64 t1)∧u.cell? ⟨B1,1,none⟩=some (.int .i64 t2)) (by kernel_rfl) (HS.out _ (kXU.trans (qo0 U).drew)) (fun hHeld=>?_)
 have hSS:∀u,Kept U u→Kept X u∧u.cell? ⟨B0,0,none⟩=some (.int .i64 s1)∧u.cell? ⟨B0,1,none⟩=some (.int .i64 s2)∧u.cell? ⟨B1,0,none⟩=some (.int .i64 t1)∧u.cell? ⟨B1,1,none⟩=some (.int .i64 t2):=fun u k=>HS.out u (kXU.trans k)
 refine tkD (i:=0) (v:=?_) rfl hHeld ?_
 try simp only[zz]
 refine tkD (i:=1) (v:=?_) rfl hHeld ?_
 try simp only[zz]
 refine tkD (i:=2) (v:=?_) rfl hHeld ?_
 try simp only[zz]
 refine tkD (i:=4) (v:=?_) rfl hHeld ?_
 try simp only[zz]
 refine tkD (i:=5) (v:=?_) rfl hHeld ?_
 try simp only[zz]
 refine tkD (i:=6) (v:=?_) rfl hHeld ?_
 try simp only[zz]
 refine QU (i1:=13) (i2:=14) (d1:=10) (d2:=11) (I:=JJ U (fun _ _=>True)) (JJ.start (qo0 U).drew) ?_
 refine qE (c:=3) (I':=fun v1=>JJ U (fun P u=>EN iE xE s2 P u v1)) rfl (by kernel_rfl) rfl rfl (qG xQ hSS rfl rfl ⟨rfl,rfl,rfl⟩ ⟨rfl,rfl,rfl⟩) (fun v x y w h=>hSS w h.k) (fun xF yF uF hJ K hK9=>?_) (fun v1=>?_)
 ·rcases xF with _|xF<;>rcases yF with _|yF
  all_goals (
   (try simp only[fpt,zz])
   go_simp
   go_wp2_with fail
   refine(KO.out _ _ (.inr (.inl rfl)) ((hK.trans kXU).trans hJ.k)).mono ?_
   rintro e u1 ⟨v,rfl,g,k⟩
   exact hK9.out _ _ _ (by first|rfl|(simp only[fpt,zz])) (hJ.next k (g.here.imp fun c hc=>hJ.fresh hc.1 hc.2))
  )
 try simp only[zz]
 refine qE (c:=7) (I':=fun v2=>JJ U (fun P u=>EN iE xE s2 P u v1∧EN iE xE t2 P u v2)) rfl (by kernel_rfl) rfl rfl (qG (qJ _ _ _ _) hSS rfl rfl ⟨rfl,rfl,rfl⟩ ⟨rfl,rfl,rfl⟩) (fun v x y w h=>hSS w h.k) (fun xF yF uF hJ K hK9=>?_) (fun v2=>?_)
 ·rcases xF with _|xF<;>rcases yF with _|yF
  all_goals (
   (try simp only[fpt,zz])
   go_simp
   go_wp2_with fail
   refine(KO.out _ _ (.inr (.inr (.inr rfl))) ((hK.trans kXU).trans hJ.k)).mono ?_
   rintro e u1 ⟨v,rfl,g,k⟩
   exact hK9.out _ _ _ (by first|rfl|(simp only[fpt,zz])) (hJ.next k ⟨((hJ.v.kept k).imp fun c hc=>hc.kept k),(g.here.imp fun c hc=>hJ.fresh hc.1 hc.2)⟩)
  )
 try simp only[zz]
 refine qE (c:=8) (I':=fun v x y w=>∃G,v=.slice (some ⟨G,0,none⟩) 2 2∧JJ U (fun P u=>(EN iE xE s2 P u v1∧EN iE xE t2 P u v2)∧AV u G 0 v1∧AV u G 7 v2) x y w) rfl (by kernel_rfl) rfl rfl (qG ((qJ _ _ _ _).and (qJ _ _ _ _)) hSS rfl rfl ⟨rfl,rfl,rfl⟩ ⟨rfl,rfl,rfl⟩) (fun v x y w h=>h.elim fun _ h=>hSS w h.2.k) (fun xF yF uF hJ K hK9=>?_) (jM fun G=>?_)
 ·obtain⟨ea,eb⟩:=hJ.v
  obtain⟨np,ap,lp,cp,xp,mp,bp,kp,dp,yp,rfl⟩:=ea.shape
  obtain⟨nq,aq,lq,cq,xq,mq,bq,kq,dq,yq,rfl⟩:=eb.shape
  rcases xF with _|xF<;>rcases yF with _|yF
  all_goals (
   (try simp only[fpt,zz])
   go_simp
   exact hK9.out _ _ _ (by first|rfl|(simp only[fpt,zz])) ⟨_,rfl,hJ.next ((qo0 uF).alloc _ _) ⟨⟨(ea.kept ((qo0 uF).alloc _ _)).imp fun c hc=>hc.kept ((qo0 uF).alloc _ _),(eb.kept ((qo0 uF).alloc _ _)).imp fun c hc=>hc.kept ((qo0 uF).alloc _ _)⟩,qe2 _ _ _ _ _ _ _ _ _ _ _ _ _ _ _ _ _ _ _ _ _ _ _ _⟩⟩
  )
 try simp only[zz]
 refine qE (c:=9) (I':=fun v x y w=>∃vl vh,v=.tuple #[vl,vh]∧JJ U (fun P u=>EN iE xE (lo s2 t2) P u vl∧EN iE xE (hi s2 t2) P u vh) x y w) rfl (by kernel_rfl) rfl rfl (qG (((qJ _ _ _ _).and (qJ _ _ _ _)).and ((zK _ _ _).and (zK _ _ _))) hSS rfl rfl ⟨rfl,rfl,rfl⟩ ⟨rfl,rfl,rfl⟩) (fun v x y w h=>h.elim fun _ h=>h.elim fun _ h=>hSS w h.2.k) (fun xF yF uF hJ K hK9=>?_) (jL fun vl vh=>?_)
 ·rcases xF with _|xF<;>rcases yF with _|yF
  all_goals (
   (try simp only[fpt,zz])
   go_simp
   go_wp2_with fail
   refine(KU.out _ _ _ _ _ _ _ (.inr ⟨rfl,rfl⟩) ((hK.trans kXU).trans hJ.k) hJ.v.1.1 hJ.v.1.2 hJ.v.2.1 hJ.v.2.2).mono ?_
   rintro e u1 ⟨vl,vh,rfl,gl,gh,k⟩
   exact hK9.out _ _ _ (by first|rfl|(simp only[fpt,zz])) ⟨vl,vh,rfl,hJ.next k ⟨gl.imp fun c hc=>hc.kept k,gh.imp fun c hc=>hc.kept k⟩⟩
  )
 try simp only[zz]
 refine qY (i:=10) (v:=.tuple #[vl,vh]) rfl (by kernel_rfl) (by kernel_rfl) rfl rfl (fun _ _ _ h=>h) (fun x y w h=>hSS w h.k) (fun xF yF=>?_) ?_
 ·rcases xF with _|xF<;>rcases yF with _|yF<;>exact Or.inl ⟨by rfl,by(intro w hSw;simp only[fpt,zz];go_simp;try (with_reducible rfl))⟩
 try simp only[zz]
 refine qY (i:=11) (v:=vl) rfl (by kernel_rfl) (by kernel_rfl) rfl rfl (fun _ _ _ h=>h) (fun x y w h=>hSS w h.k) (fun xF yF=>?_) ?_
 ·rcases xF with _|xF<;>rcases yF with _|yF<;>exact Or.inl ⟨by rfl,by(intro w hSw;simp only[fpt,zz];go_simp;try (with_reducible rfl))⟩
 try simp only[zz]
 refine qY (i:=12) (v:=vh) rfl (by kernel_rfl) (by kernel_rfl) rfl rfl (fun _ _ _ h=>h) (fun x y w h=>hSS w h.k) (fun xF yF=>?_) ?_
 ·rcases xF with _|xF<;>rcases yF with _|yF<;>exact Or.inl ⟨by rfl,by(intro w hSw;simp only[fpt,zz];go_simp;try (with_reducible rfl))⟩
 try simp only[zz]
 refine yB (by kernel_rfl) rfl rfl (qG ((qJ _ _ _ _).and (qJ _ _ _ _)) hSS rfl rfl ⟨rfl,rfl,rfl⟩ ⟨rfl,rfl,rfl⟩) (fun xF yF uF hJ=>?_)
 obtain⟨C2,rfl,oC2,p1⟩:=hJ.f1 _ rfl
 obtain⟨C3,rfl,oC3,p2⟩:=hJ.f2 _ rfl
 have hne:C2≠C3:=fun e=>hJ.ne _ rfl (by rw[e])
 obtain⟨gl,gh⟩:=hJ.v
 have kU:=hJ.k
 replace gl:=gl.imp (fun c hc=>(show c≠C2∧c≠C3 from⟨hc.2.1 _ rfl,hc.2.2 _ rfl⟩))
 replace gh:=gh.imp (fun c hc=>(show c≠C2∧c≠C3 from⟨hc.2.1 _ rfl,hc.2.2 _ rfl⟩))
 clear hJ
 obtain⟨ng,ag,lg,cg,xg,mg,bg,kg,dg,yg,rfl⟩:=gl.shape
 obtain⟨nh,ah,lh,ch,xh,mh,bh,kh,dh,yh,rfl⟩:=gh.shape
 try simp only[zz]
 have p2b:=p2.other C2 hne (.int .i64 (iE (lo s2 t2))) (.bool ng) (.slice ag lg cg) (.int .i64 xg) (.bool mg) (.slice bg kg dg) (.int .i64 yg)
 have p1b:=p1.put (.int .i64 (iE (lo s2 t2))) (.bool ng) (.slice ag lg cg) (.int .i64 xg) (.bool mg) (.slice bg kg dg) (.int .i64 yg)
 have kV:=ze kU oC2 (.int .i64 (iE (lo s2 t2))) (.bool ng) (.slice ag lg cg) (.int .i64 xg) (.bool mg) (.slice bg kg dg) (.int .i64 yg)
 obtain⟨rr0,rr1,rr2,rr3,rr4,rr5,rr6,rrf⟩:=p1
 refine qi (i:=15) (by kernel_rfl) rfl (fun K hK9=>?_)
 go_simp
 refine hK9.out _ _ (hSS _ kV) (fun hH=>?_)
 clear hK9 K
 try simp only[zz]
 clear rr0 rr1 rr2 rr3 rr4 rr5 rr6 rrf
 obtain⟨V,hV⟩:∃Z,Z=(((((((uF).setCell ⟨C2,0,none⟩ (.int .i64 (iE (lo s2 t2)))).setCell ⟨C2,1,none⟩ (.bool ng)).setCell ⟨C2,2,none⟩ (.slice ag lg cg)).setCell ⟨C2,3,none⟩ (.int .i64 xg)).setCell ⟨C2,4,none⟩ (.bool mg)).setCell ⟨C2,5,none⟩ (.slice bg kg dg)).setCell ⟨C2,6,none⟩ (.int .i64 yg):=⟨_,rfl⟩
 have glV:EN iE xE (lo s2 t2) (fun c=>c≠C2∧c≠C3) V (env (iE (lo s2 t2)) ng ag lg cg xg mg bg kg dg yg):=by rw[hV];exact gl.put C2 (fun c h=>h.1) _ _ _ _ _ _ _
 have ghV:EN iE xE (hi s2 t2) (fun c=>c≠C2∧c≠C3) V (env (iE (hi s2 t2)) nh ah lh ch xh mh bh kh dh yh):=by rw[hV];exact gh.put C2 (fun c h=>h.1) _ _ _ _ _ _ _
 rw[←hV]
 change P7 ((((((((uF).setCell ⟨C2,0,none⟩ (.int .i64 (iE (lo s2 t2)))).setCell ⟨C2,1,none⟩ (.bool ng)).setCell ⟨C2,2,none⟩ (.slice ag lg cg)).setCell ⟨C2,3,none⟩ (.int .i64 xg)).setCell ⟨C2,4,none⟩ (.bool mg)).setCell ⟨C2,5,none⟩ (.slice bg kg dg)).setCell ⟨C2,6,none⟩ (.int .i64 yg)) _ _ _ _ _ _ _ _ at p2b
 change P7 ((((((((uF).setCell ⟨C2,0,none⟩ (.int .i64 (iE (lo s2 t2)))).setCell ⟨C2,1,none⟩ (.bool ng)).setCell ⟨C2,2,none⟩ (.slice ag lg cg)).setCell ⟨C2,3,none⟩ (.int .i64 xg)).setCell ⟨C2,4,none⟩ (.bool mg)).setCell ⟨C2,5,none⟩ (.slice bg kg dg)).setCell ⟨C2,6,none⟩ (.int .i64 yg)) _ _ _ _ _ _ _ _ at p1b
 change Kept _ ((((((((uF).setCell ⟨C2,0,none⟩ (.int .i64 (iE (lo s2 t2)))).setCell ⟨C2,1,none⟩ (.bool ng)).setCell ⟨C2,2,none⟩ (.slice ag lg cg)).setCell ⟨C2,3,none⟩ (.int .i64 xg)).setCell ⟨C2,4,none⟩ (.bool mg)).setCell ⟨C2,5,none⟩ (.slice bg kg dg)).setCell ⟨C2,6,none⟩ (.int .i64 yg))at kV
 rw[←hV]at p2b p1b kV
 clear hV gl gh hH p2
 have p1c:=p1b.other C3 (Ne.symm hne) (.int .i64 (iE (hi s2 t2))) (.bool nh) (.slice ah lh ch) (.int .i64 xh) (.bool mh) (.slice bh kh dh) (.int .i64 yh)
 have p2c:=p2b.put (.int .i64 (iE (hi s2 t2))) (.bool nh) (.slice ah lh ch) (.int .i64 xh) (.bool mh) (.slice bh kh dh) (.int .i64 yh)
 have kW:=ze kV oC3 (.int .i64 (iE (hi s2 t2))) (.bool nh) (.slice ah lh ch) (.int .i64 xh) (.bool mh) (.slice bh kh dh) (.int .i64 yh)
 obtain⟨rr0,rr1,rr2,rr3,rr4,rr5,rr6,rrf⟩:=p2b
 refine qi (i:=16) (by kernel_rfl) rfl (fun K hK9=>?_)
 go_simp
 refine hK9.out _ _ (hSS _ kW) (fun hH=>?_)
 clear hK9 K
 try simp only[zz]
 clear rr0 rr1 rr2 rr3 rr4 rr5 rr6 rrf
 obtain⟨W,hV⟩:∃Z,Z=(((((((V).setCell ⟨C3,0,none⟩ (.int .i64 (iE (hi s2 t2)))).setCell ⟨C3,1,none⟩ (.bool nh)).setCell ⟨C3,2,none⟩ (.slice ah lh ch)).setCell ⟨C3,3,none⟩ (.int .i64 xh)).setCell ⟨C3,4,none⟩ (.bool mh)).setCell ⟨C3,5,none⟩ (.slice bh kh dh)).setCell ⟨C3,6,none⟩ (.int .i64 yh):=⟨_,rfl⟩
 have eC2:EN iE xE (lo s2 t2) Top W (env (iE (lo s2 t2)) ng ag lg cg xg mg bg kg dg yg):=by rw[hV];exact(glV.put C3 (fun c h=>h.2) _ _ _ _ _ _ _).imp fun _ _=>trivial
 have eC3:EN iE xE (hi s2 t2) Top W (env (iE (hi s2 t2)) nh ah lh ch xh mh bh kh dh yh):=by rw[hV];exact(ghV.put C3 (fun c h=>h.2) _ _ _ _ _ _ _).imp fun _ _=>trivial
 rw[←hV]
 change P7 ((((((((V).setCell ⟨C3,0,none⟩ (.int .i64 (iE (hi s2 t2)))).setCell ⟨C3,1,none⟩ (.bool nh)).setCell ⟨C3,2,none⟩ (.slice ah lh ch)).setCell ⟨C3,3,none⟩ (.int .i64 xh)).setCell ⟨C3,4,none⟩ (.bool mh)).setCell ⟨C3,5,none⟩ (.slice bh kh dh)).setCell ⟨C3,6,none⟩ (.int .i64 yh)) _ _ _ _ _ _ _ _ at p2c
 change P7 ((((((((V).setCell ⟨C3,0,none⟩ (.int .i64 (iE (hi s2 t2)))).setCell ⟨C3,1,none⟩ (.bool nh)).setCell ⟨C3,2,none⟩ (.slice ah lh ch)).setCell ⟨C3,3,none⟩ (.int .i64 xh)).setCell ⟨C3,4,none⟩ (.bool mh)).setCell ⟨C3,5,none⟩ (.slice bh kh dh)).setCell ⟨C3,6,none⟩ (.int .i64 yh)) _ _ _ _ _ _ _ _ at p1c
 change Kept _ ((((((((V).setCell ⟨C3,0,none⟩ (.int .i64 (iE (hi s2 t2)))).setCell ⟨C3,1,none⟩ (.bool nh)).setCell ⟨C3,2,none⟩ (.slice ah lh ch)).setCell ⟨C3,3,none⟩ (.int .i64 xh)).setCell ⟨C3,4,none⟩ (.bool mh)).setCell ⟨C3,5,none⟩ (.slice bh kh dh)).setCell ⟨C3,6,none⟩ (.int .i64 yh))at kW
 rw[←hV]at p2c p1c kW
 clear hV glV ghV hH kU kV p1b uF V
 have q2:=p1c
 have q3:=p2c
 have kUW:=kW
 clear p1c p2c kW
 refine qs (by kernel_rfl) ?_ _
 try simp only[zz]
 go_upto_region 3 with fail
 clear hSS hHeld
 obtain⟨q10,q11,q12,q13,q14,q15,q16,q1f⟩:=q1.kept kUW
 obtain⟨q20,q21,q22,q23,q24,q25,q26,q2f⟩:=id q2
 go_wp2_with fail
 refine(KR.out _ _ _ (hK.trans (kXU.trans kUW)) (eC1.kept kUW) eC2).mono ?_
 rintro e w3 ⟨rfl,k3⟩
 clear q10 q11 q12 q13 q14 q15 q16 q1f q20 q21 q22 q23 q24 q25 q26 q2f
 obtain⟨q10,q11,q12,q13,q14,q15,q16,q1f⟩:=q1.kept (kUW.trans k3)
 obtain⟨q20,q21,q22,q23,q24,q25,q26,q2f⟩:=q2.kept k3
 go_wp2_with fail
 refine(KM.out _ _ _ (hK.trans (kXU.trans (kUW.trans k3))) (eC1.kept (kUW.trans k3)) (eC2.kept k3)).mono ?_
 rintro e w4 ⟨rfl,k4⟩
 obtain⟨p0,p1,pf⟩:=hP2.kept (kXU.trans (kUW.trans (k3.trans k4)))
 go_wp2_with fail
 exact qoz (v:=.tuple #[.agg #[.int .i64 z1,.int .i64 z2],.bool true]) (by simp[results,Tryz.results19,go_sem,p0,p1]) rfl ⟨rfl,((hK.trans (kXU.trans (kUW.trans (k3.trans k4)))).setCell (p:=⟨B2,0,none⟩) oB.out.2.2.2.2.1 _).setCell (p:=⟨B2,1,none⟩) oB.out.2.2.2.2.1 _⟩
theorem Qk (s1 s2 t1 t2 n cc:Int)(iE:Int→Int)(xE:Int→Nm)(lo hi:Int→Int→Int)(w:World)
  (KO:Hid (∀u b,(b=s1∨b=s2∨b=t1∨b=t2)→Kept w u→Calls Tryz.prog 52 #[.int .i64 b,.int .i64 n] u fun e w'=>∃v,e=.returned v∧EN iE xE b (qn u.heap.size) w' v∧Kept u w'))
  (KU:Hid (∀u b c v1 v2 P G,(b=s1∧c=t1∨b=s2∧c=t2)→Kept w u→EN iE xE b P u v1→EN iE xE c P u v2→AV u G 0 v1→AV u G 7 v2→Calls Tryz.prog 59 #[.slice (some ⟨G,0,none⟩) 2 2] u fun e w'=>∃vl vh,e=.returned (.tuple #[vl,vh])∧EN iE xE (lo b c) P w' vl∧EN iE xE (hi b c) P w' vh∧Kept u w'))
  (KR:Hid (∀u v1 v2,Kept w u→EN iE xE (hi s1 t1) Top u v1→EN iE xE (lo s2 t2) Top u v2→Calls Tryz.prog 53 #[v1,v2] u fun e w'=>e=.returned (.int .i64 cc)∧Kept u w')) (hc:decide (0<cc)=true):
  Calls Tryz.prog 19 #[.agg #[.int .i64 s1,.int .i64 s2],.agg #[.int .i64 t1,.int .i64 t2],.int .i64 n] w fun e w'=>e=.returned (.tuple #[.agg #[.int .i64 0,.int .i64 0],.bool false])∧Kept w w':=by
 obtain⟨X,hX⟩:∃X,X=((w.alloc (.cells #[.int .i64 s1,.int .i64 s2] 23)).alloc (.cells #[.int .i64 t1,.int .i64 t2] 23)).alloc (.cells #[.int .i64 0,.int .i64 0] 23):=⟨_,rfl⟩
 have hK:Kept w X:=by rw[hX];exact(((qo0 w).alloc _ _).alloc _ _).alloc _ _
 have hXs:X.heap.size=w.heap.size+3:=by rw[hX];simp
 have hP0:P2 X (w.heap.size) (.int .i64 s1) (.int .i64 s2):=by
  rw[hX]
  have:=(((P2.new (w) (.int .i64 s1) (.int .i64 s2) 23).alloc #[.int .i64 t1,.int .i64 t2] 23).alloc #[.int .i64 0,.int .i64 0] 23)
  simpa using this
 have hP1:P2 X (w.heap.size+1) (.int .i64 t1) (.int .i64 t2):=by
  rw[hX]
  have:=((P2.new (w.alloc (.cells #[.int .i64 s1,.int .i64 s2] 23)) (.int .i64 t1) (.int .i64 t2) 23).alloc #[.int .i64 0,.int .i64 0] 23)
  simpa using this
 have hP2:P2 X (w.heap.size+1+1) (.int .i64 0) (.int .i64 0):=by
  rw[hX]
  have:=(P2.new ((w.alloc (.cells #[.int .i64 s1,.int .i64 s2] 23)).alloc (.cells #[.int .i64 t1,.int .i64 t2] 23)) (.int .i64 0) (.int .i64 0) 23)
  simpa using this
 obtain⟨B0,hB0⟩:∃B,B=w.heap.size:=⟨_,rfl⟩
 obtain⟨B1,hB1⟩:∃B,B=B0+1:=⟨_,rfl⟩
 obtain⟨B2,hB2⟩:∃B,B=B1+1:=⟨_,rfl⟩
 rw[←hB0]at hP0
 rw[←hB0,←hB1]at hP1
 rw[←hB0,←hB1,←hB2]at hP2
 have oB:Hid (w.heap.size≤B0∧B0<X.heap.size∧w.heap.size≤B1∧B1<X.heap.size∧w.heap.size≤B2∧B2<X.heap.size):=(show _∧_∧_∧_∧_∧_ from by omega)
 have oX:Hid (w.heap.size≤X.heap.size):=hK.below.size
 have HS:Hid (∀u,Kept X u→Kept X u∧u.cell? ⟨B0,0,none⟩=some (.int .i64 s1)∧u.cell? ⟨B0,1,none⟩=some (.int .i64 s2)∧u.cell? ⟨B1,0,none⟩=some (.int .i64 t1)∧u.cell? ⟨B1,1,none⟩=some (.int .i64 t2)):=fun u k=>⟨k,(hP0.kept k).c0,(hP0.kept k).c1,(hP1.kept k).c0,(hP1.kept k).c1⟩
 go_enter Tryz.func19,Tryz.ntmps19
 go_upto_region 1 with fail
 rw[←hX,←hB0,←hB1,←hB2]
 clear hX hXs hB0 hB1 hB2
 refine qm [] (fun u=>Kept X u∧u.cell? ⟨B0,0,none⟩=some (.int .i64 s1)∧u.cell? ⟨B0,1,none⟩=some (.int .i64 s2)∧u.cell? ⟨B1,0,none⟩=some (.int .i64 t1)∧u.cell? ⟨B1,1,none⟩=some (.int .i64 t2)) (by kernel_rfl) (HS.out _ (qo0 X).drew) (fun hHeld=>?_)
 have hSS:∀u,Kept X u→Kept X u∧u.cell? ⟨B0,0,none⟩=some (.int .i64 s1)∧u.cell? ⟨B0,1,none⟩=some (.int .i64 s2)∧u.cell? ⟨B1,0,none⟩=some (.int .i64 t1)∧u.cell? ⟨B1,1,none⟩=some (.int .i64 t2):=fun u k=>HS.out u k
 refine tkD (i:=0) (v:=?_) rfl hHeld ?_
 try simp only[zz]
 refine tkD (i:=1) (v:=?_) rfl hHeld ?_
 try simp only[zz]
 refine tkD (i:=2) (v:=?_) rfl hHeld ?_
 try simp only[zz]
 refine tkD (i:=4) (v:=?_) rfl hHeld ?_
 try simp only[zz]
 refine tkD (i:=5) (v:=?_) rfl hHeld ?_
 try simp only[zz]
 refine tkD (i:=6) (v:=?_) rfl hHeld ?_
 try simp only[zz]
 refine QU (i1:=13) (i2:=14) (d1:=8) (d2:=9) (I:=JJ X (fun _ _=>True)) (JJ.start hHeld.1) ?_
 refine qE (c:=3) (I':=fun v1=>JJ X (fun P u=>EN iE xE s1 P u v1)) rfl (by kernel_rfl) rfl rfl (qG xQ hSS rfl rfl ⟨rfl,rfl,rfl⟩ ⟨rfl,rfl,rfl⟩) (fun v x y w h=>hSS w h.k) (fun xF yF uF hJ K hK9=>?_) (fun v1=>?_)
 ·rcases xF with _|xF<;>rcases yF with _|yF
  all_goals (
   (try simp only[fpt,zz])
   go_simp
   go_wp2_with fail
   refine(KO.out _ _ (.inl rfl) (hK.trans hJ.k)).mono ?_
   rintro e u1 ⟨v,rfl,g,k⟩
   exact hK9.out _ _ _ (by first|rfl|(simp only[fpt,zz])) (hJ.next k (g.here.imp fun c hc=>hJ.fresh hc.1 hc.2))
  )
 try simp only[zz]
 refine qE (c:=7) (I':=fun v2=>JJ X (fun P u=>EN iE xE s1 P u v1∧EN iE xE t1 P u v2)) rfl (by kernel_rfl) rfl rfl (qG (qJ _ _ _ _) hSS rfl rfl ⟨rfl,rfl,rfl⟩ ⟨rfl,rfl,rfl⟩) (fun v x y w h=>hSS w h.k) (fun xF yF uF hJ K hK9=>?_) (fun v2=>?_)
 ·rcases xF with _|xF<;>rcases yF with _|yF
  all_goals (
   (try simp only[fpt,zz])
   go_simp
   go_wp2_with fail
   refine(KO.out _ _ (.inr (.inr (.inl rfl))) (hK.trans hJ.k)).mono ?_
   rintro e u1 ⟨v,rfl,g,k⟩
   exact hK9.out _ _ _ (by first|rfl|(simp only[fpt,zz])) (hJ.next k ⟨((hJ.v.kept k).imp fun c hc=>hc.kept k),(g.here.imp fun c hc=>hJ.fresh hc.1 hc.2)⟩)
  )
 try simp only[zz]
 refine qE (c:=8) (I':=fun v x y w=>∃G,v=.slice (some ⟨G,0,none⟩) 2 2∧JJ X (fun P u=>(EN iE xE s1 P u v1∧EN iE xE t1 P u v2)∧AV u G 0 v1∧AV u G 7 v2) x y w) rfl (by kernel_rfl) rfl rfl (qG ((qJ _ _ _ _).and (qJ _ _ _ _)) hSS rfl rfl ⟨rfl,rfl,rfl⟩ ⟨rfl,rfl,rfl⟩) (fun v x y w h=>h.elim fun _ h=>hSS w h.2.k) (fun xF yF uF hJ K hK9=>?_) (jM fun G=>?_)
 ·obtain⟨ea,eb⟩:=hJ.v
  obtain⟨np,ap,lp,cp,xp,mp,bp,kp,dp,yp,rfl⟩:=ea.shape
  obtain⟨nq,aq,lq,cq,xq,mq,bq,kq,dq,yq,rfl⟩:=eb.shape
  rcases xF with _|xF<;>rcases yF with _|yF
  all_goals (
   (try simp only[fpt,zz])
   go_simp
   exact hK9.out _ _ _ (by first|rfl|(simp only[fpt,zz])) ⟨_,rfl,hJ.next ((qo0 uF).alloc _ _) ⟨⟨(ea.kept ((qo0 uF).alloc _ _)).imp fun c hc=>hc.kept ((qo0 uF).alloc _ _),(eb.kept ((qo0 uF).alloc _ _)).imp fun c hc=>hc.kept ((qo0 uF).alloc _ _)⟩,qe2 _ _ _ _ _ _ _ _ _ _ _ _ _ _ _ _ _ _ _ _ _ _ _ _⟩⟩
  )
 try simp only[zz]
 refine qE (c:=9) (I':=fun v x y w=>∃vl vh,v=.tuple #[vl,vh]∧JJ X (fun P u=>EN iE xE (lo s1 t1) P u vl∧EN iE xE (hi s1 t1) P u vh) x y w) rfl (by kernel_rfl) rfl rfl (qG (((qJ _ _ _ _).and (qJ _ _ _ _)).and ((zK _ _ _).and (zK _ _ _))) hSS rfl rfl ⟨rfl,rfl,rfl⟩ ⟨rfl,rfl,rfl⟩) (fun v x y w h=>h.elim fun _ h=>h.elim fun _ h=>hSS w h.2.k) (fun xF yF uF hJ K hK9=>?_) (jL fun vl vh=>?_)
 ·rcases xF with _|xF<;>rcases yF with _|yF
  all_goals (
   (try simp only[fpt,zz])
   go_simp
   go_wp2_with fail
   refine(KU.out _ _ _ _ _ _ _ (.inl ⟨rfl,rfl⟩) (hK.trans hJ.k) hJ.v.1.1 hJ.v.1.2 hJ.v.2.1 hJ.v.2.2).mono ?_
   rintro e u1 ⟨vl,vh,rfl,gl,gh,k⟩
   exact hK9.out _ _ _ (by first|rfl|(simp only[fpt,zz])) ⟨vl,vh,rfl,hJ.next k ⟨gl.imp fun c hc=>hc.kept k,gh.imp fun c hc=>hc.kept k⟩⟩
  )
 try simp only[zz]
 refine qY (i:=10) (v:=.tuple #[vl,vh]) rfl (by kernel_rfl) (by kernel_rfl) rfl rfl (fun _ _ _ h=>h) (fun x y w h=>hSS w h.k) (fun xF yF=>?_) ?_
 ·rcases xF with _|xF<;>rcases yF with _|yF<;>exact Or.inl ⟨by rfl,by(intro w hSw;simp only[fpt,zz];go_simp;try (with_reducible rfl))⟩
 try simp only[zz]
 refine qY (i:=11) (v:=vl) rfl (by kernel_rfl) (by kernel_rfl) rfl rfl (fun _ _ _ h=>h) (fun x y w h=>hSS w h.k) (fun xF yF=>?_) ?_
 ·rcases xF with _|xF<;>rcases yF with _|yF<;>exact Or.inl ⟨by rfl,by(intro w hSw;simp only[fpt,zz];go_simp;try (with_reducible rfl))⟩
 try simp only[zz]
 refine qY (i:=12) (v:=vh) rfl (by kernel_rfl) (by kernel_rfl) rfl rfl (fun _ _ _ h=>h) (fun x y w h=>hSS w h.k) (fun xF yF=>?_) ?_
 ·rcases xF with _|xF<;>rcases yF with _|yF<;>exact Or.inl ⟨by rfl,by(intro w hSw;simp only[fpt,zz];go_simp;try (with_reducible rfl))⟩
 try simp only[zz]
 refine yB (by kernel_rfl) rfl rfl (qG ((qJ _ _ _ _).and (qJ _ _ _ _)) hSS rfl rfl ⟨rfl,rfl,rfl⟩ ⟨rfl,rfl,rfl⟩) (fun xF yF uF hJ=>?_)
 obtain⟨C0,rfl,oC0,p1⟩:=hJ.f1 _ rfl
 obtain⟨C1,rfl,oC1,p2⟩:=hJ.f2 _ rfl
 have hne:C0≠C1:=fun e=>hJ.ne _ rfl (by rw[e])
 obtain⟨gl,gh⟩:=hJ.v
 have kU:=hJ.k
 replace gl:=gl.imp (fun c hc=>(show c≠C0∧c≠C1 from⟨hc.2.1 _ rfl,hc.2.2 _ rfl⟩))
 replace gh:=gh.imp (fun c hc=>(show c≠C0∧c≠C1 from⟨hc.2.1 _ rfl,hc.2.2 _ rfl⟩))
 clear hJ
 obtain⟨ne,ae,le,ce,xe,me,be,ke,de,ye,rfl⟩:=gl.shape
 obtain⟨nf,af,lf,cf,xf,mf,bf,kf,df,yf,rfl⟩:=gh.shape
 try simp only[zz]
 have p2b:=p2.other C0 hne (.int .i64 (iE (lo s1 t1))) (.bool ne) (.slice ae le ce) (.int .i64 xe) (.bool me) (.slice be ke de) (.int .i64 ye)
 have p1b:=p1.put (.int .i64 (iE (lo s1 t1))) (.bool ne) (.slice ae le ce) (.int .i64 xe) (.bool me) (.slice be ke de) (.int .i64 ye)
 have kV:=ze kU oC0 (.int .i64 (iE (lo s1 t1))) (.bool ne) (.slice ae le ce) (.int .i64 xe) (.bool me) (.slice be ke de) (.int .i64 ye)
 obtain⟨rr0,rr1,rr2,rr3,rr4,rr5,rr6,rrf⟩:=p1
 refine qi (i:=15) (by kernel_rfl) rfl (fun K hK9=>?_)
 go_simp
 refine hK9.out _ _ (hSS _ kV) (fun hH=>?_)
 clear hK9 K
 try simp only[zz]
 clear rr0 rr1 rr2 rr3 rr4 rr5 rr6 rrf
 obtain⟨V,hV⟩:∃Z,Z=(((((((uF).setCell ⟨C0,0,none⟩ (.int .i64 (iE (lo s1 t1)))).setCell ⟨C0,1,none⟩ (.bool ne)).setCell ⟨C0,2,none⟩ (.slice ae le ce)).setCell ⟨C0,3,none⟩ (.int .i64 xe)).setCell ⟨C0,4,none⟩ (.bool me)).setCell ⟨C0,5,none⟩ (.slice be ke de)).setCell ⟨C0,6,none⟩ (.int .i64 ye):=⟨_,rfl⟩
 have glV:EN iE xE (lo s1 t1) (fun c=>c≠C0∧c≠C1) V (env (iE (lo s1 t1)) ne ae le ce xe me be ke de ye):=by rw[hV];exact gl.put C0 (fun c h=>h.1) _ _ _ _ _ _ _
 have ghV:EN iE xE (hi s1 t1) (fun c=>c≠C0∧c≠C1) V (env (iE (hi s1 t1)) nf af lf cf xf mf bf kf df yf):=by rw[hV];exact gh.put C0 (fun c h=>h.1) _ _ _ _ _ _ _
 rw[←hV]
 change P7 ((((((((uF).setCell ⟨C0,0,none⟩ (.int .i64 (iE (lo s1 t1)))).setCell ⟨C0,1,none⟩ (.bool ne)).setCell ⟨C0,2,none⟩ (.slice ae le ce)).setCell ⟨C0,3,none⟩ (.int .i64 xe)).setCell ⟨C0,4,none⟩ (.bool me)).setCell ⟨C0,5,none⟩ (.slice be ke de)).setCell ⟨C0,6,none⟩ (.int .i64 ye)) _ _ _ _ _ _ _ _ at p2b
 change P7 ((((((((uF).setCell ⟨C0,0,none⟩ (.int .i64 (iE (lo s1 t1)))).setCell ⟨C0,1,none⟩ (.bool ne)).setCell ⟨C0,2,none⟩ (.slice ae le ce)).setCell ⟨C0,3,none⟩ (.int .i64 xe)).setCell ⟨C0,4,none⟩ (.bool me)).setCell ⟨C0,5,none⟩ (.slice be ke de)).setCell ⟨C0,6,none⟩ (.int .i64 ye)) _ _ _ _ _ _ _ _ at p1b
 change Kept _ ((((((((uF).setCell ⟨C0,0,none⟩ (.int .i64 (iE (lo s1 t1)))).setCell ⟨C0,1,none⟩ (.bool ne)).setCell ⟨C0,2,none⟩ (.slice ae le ce)).setCell ⟨C0,3,none⟩ (.int .i64 xe)).setCell ⟨C0,4,none⟩ (.bool me)).setCell ⟨C0,5,none⟩ (.slice be ke de)).setCell ⟨C0,6,none⟩ (.int .i64 ye))at kV
 rw[←hV]at p2b p1b kV
 clear hV gl gh hH p2
 have p1c:=p1b.other C1 (Ne.symm hne) (.int .i64 (iE (hi s1 t1))) (.bool nf) (.slice af lf cf) (.int .i64 xf) (.bool mf) (.slice bf kf df) (.int .i64 yf)
 have p2c:=p2b.put (.int .i64 (iE (hi s1 t1))) (.bool nf) (.slice af lf cf) (.int .i64 xf) (.bool mf) (.slice bf kf df) (.int .i64 yf)
 have kW:=ze kV oC1 (.int .i64 (iE (hi s1 t1))) (.bool nf) (.slice af lf cf) (.int .i64 xf) (.bool mf) (.slice bf kf df) (.int .i64 yf)
 obtain⟨rr0,rr1,rr2,rr3,rr4,rr5,rr6,rrf⟩:=p2b
 refine qi (i:=16) (by kernel_rfl) rfl (fun K hK9=>?_)
 go_simp
 refine hK9.out _ _ (hSS _ kW) (fun hH=>?_)
 clear hK9 K
 try simp only[zz]
 clear rr0 rr1 rr2 rr3 rr4 rr5 rr6 rrf
 obtain⟨U,hV⟩:∃Z,Z=(((((((V).setCell ⟨C1,0,none⟩ (.int .i64 (iE (hi s1 t1)))).setCell ⟨C1,1,none⟩ (.bool nf)).setCell ⟨C1,2,none⟩ (.slice af lf cf)).setCell ⟨C1,3,none⟩ (.int .i64 xf)).setCell ⟨C1,4,none⟩ (.bool mf)).setCell ⟨C1,5,none⟩ (.slice bf kf df)).setCell ⟨C1,6,none⟩ (.int .i64 yf):=⟨_,rfl⟩
 have eC0:EN iE xE (lo s1 t1) Top U (env (iE (lo s1 t1)) ne ae le ce xe me be ke de ye):=by rw[hV];exact(glV.put C1 (fun c h=>h.2) _ _ _ _ _ _ _).imp fun _ _=>trivial
 have eC1:EN iE xE (hi s1 t1) Top U (env (iE (hi s1 t1)) nf af lf cf xf mf bf kf df yf):=by rw[hV];exact(ghV.put C1 (fun c h=>h.2) _ _ _ _ _ _ _).imp fun _ _=>trivial
 rw[←hV]
 change P7 ((((((((V).setCell ⟨C1,0,none⟩ (.int .i64 (iE (hi s1 t1)))).setCell ⟨C1,1,none⟩ (.bool nf)).setCell ⟨C1,2,none⟩ (.slice af lf cf)).setCell ⟨C1,3,none⟩ (.int .i64 xf)).setCell ⟨C1,4,none⟩ (.bool mf)).setCell ⟨C1,5,none⟩ (.slice bf kf df)).setCell ⟨C1,6,none⟩ (.int .i64 yf)) _ _ _ _ _ _ _ _ at p2c
 change P7 ((((((((V).setCell ⟨C1,0,none⟩ (.int .i64 (iE (hi s1 t1)))).setCell ⟨C1,1,none⟩ (.bool nf)).setCell ⟨C1,2,none⟩ (.slice af lf cf)).setCell ⟨C1,3,none⟩ (.int .i64 xf)).setCell ⟨C1,4,none⟩ (.bool mf)).setCell ⟨C1,5,none⟩ (.slice bf kf df)).setCell ⟨C1,6,none⟩ (.int .i64 yf)) _ _ _ _ _ _ _ _ at p1c
 change Kept _ ((((((((V).setCell ⟨C1,0,none⟩ (.int .i64 (iE (hi s1 t1)))).setCell ⟨C1,1,none⟩ (.bool nf)).setCell ⟨C1,2,none⟩ (.slice af lf cf)).setCell ⟨C1,3,none⟩ (.int .i64 xf)).setCell ⟨C1,4,none⟩ (.bool mf)).setCell ⟨C1,5,none⟩ (.slice bf kf df)).setCell ⟨C1,6,none⟩ (.int .i64 yf))at kW
 rw[←hV]at p2c p1c kW
 clear hV glV ghV hH kU kV p1b uF V
 have q0:=p1c
 have q1:=p2c
 have kXU:=kW
 clear p1c p2c kW
 refine qs (by kernel_rfl) ?_ _
 try simp only[zz]
 go_upto_region 2 with fail
 clear hSS hHeld
 refine qm [] (fun u=>Kept X u∧u.cell? ⟨B0,0,none⟩=some (.int .i64 s1)∧u.cell? ⟨B0,1,none⟩=some (.int .i64 s2)∧u.cell? ⟨B1,0,none⟩=some (.int .i64 t1)∧u.cell? ⟨B1,1,none⟩=some (.int .i64 t2)) (by kernel_rfl) (HS.out _ (kXU.trans (qo0 U).drew)) (fun hHeld=>?_)
 have hSS:∀u,Kept U u→Kept X u∧u.cell? ⟨B0,0,none⟩=some (.int .i64 s1)∧u.cell? ⟨B0,1,none⟩=some (.int .i64 s2)∧u.cell? ⟨B1,0,none⟩=some (.int .i64 t1)∧u.cell? ⟨B1,1,none⟩=some (.int .i64 t2):=fun u k=>HS.out u (kXU.trans k)
 refine tkD (i:=0) (v:=?_) rfl hHeld ?_
 try simp only[zz]
 refine tkD (i:=1) (v:=?_) rfl hHeld ?_
 try simp only[zz]
 refine tkD (i:=2) (v:=?_) rfl hHeld ?_
 try simp only[zz]
 refine tkD (i:=4) (v:=?_) rfl hHeld ?_
 try simp only[zz]
 refine tkD (i:=5) (v:=?_) rfl hHeld ?_
 try simp only[zz]
 refine tkD (i:=6) (v:=?_) rfl hHeld ?_
 try simp only[zz]
 refine QU (i1:=13) (i2:=14) (d1:=10) (d2:=11) (I:=JJ U (fun _ _=>True)) (JJ.start (qo0 U).drew) ?_
 refine qE (c:=3) (I':=fun v1=>JJ U (fun P u=>EN iE xE s2 P u v1)) rfl (by kernel_rfl) rfl rfl (qG xQ hSS rfl rfl ⟨rfl,rfl,rfl⟩ ⟨rfl,rfl,rfl⟩) (fun v x y w h=>hSS w h.k) (fun xF yF uF hJ K hK9=>?_) (fun v1=>?_)
 ·rcases xF with _|xF<;>rcases yF with _|yF
  all_goals (
   (try simp only[fpt,zz])
   go_simp
   go_wp2_with fail
   refine(KO.out _ _ (.inr (.inl rfl)) ((hK.trans kXU).trans hJ.k)).mono ?_
   rintro e u1 ⟨v,rfl,g,k⟩
   exact hK9.out _ _ _ (by first|rfl|(simp only[fpt,zz])) (hJ.next k (g.here.imp fun c hc=>hJ.fresh hc.1 hc.2))
  )
 try simp only[zz]
 refine qE (c:=7) (I':=fun v2=>JJ U (fun P u=>EN iE xE s2 P u v1∧EN iE xE t2 P u v2)) rfl (by kernel_rfl) rfl rfl (qG (qJ _ _ _ _) hSS rfl rfl ⟨rfl,rfl,rfl⟩ ⟨rfl,rfl,rfl⟩) (fun v x y w h=>hSS w h.k) (fun xF yF uF hJ K hK9=>?_) (fun v2=>?_)
 ·rcases xF with _|xF<;>rcases yF with _|yF
  all_goals (
   (try simp only[fpt,zz])
   go_simp
   go_wp2_with fail
   refine(KO.out _ _ (.inr (.inr (.inr rfl))) ((hK.trans kXU).trans hJ.k)).mono ?_
   rintro e u1 ⟨v,rfl,g,k⟩
   exact hK9.out _ _ _ (by first|rfl|(simp only[fpt,zz])) (hJ.next k ⟨((hJ.v.kept k).imp fun c hc=>hc.kept k),(g.here.imp fun c hc=>hJ.fresh hc.1 hc.2)⟩)
  )
 try simp only[zz]
 refine qE (c:=8) (I':=fun v x y w=>∃G,v=.slice (some ⟨G,0,none⟩) 2 2∧JJ U (fun P u=>(EN iE xE s2 P u v1∧EN iE xE t2 P u v2)∧AV u G 0 v1∧AV u G 7 v2) x y w) rfl (by kernel_rfl) rfl rfl (qG ((qJ _ _ _ _).and (qJ _ _ _ _)) hSS rfl rfl ⟨rfl,rfl,rfl⟩ ⟨rfl,rfl,rfl⟩) (fun v x y w h=>h.elim fun _ h=>hSS w h.2.k) (fun xF yF uF hJ K hK9=>?_) (jM fun G=>?_)
 ·obtain⟨ea,eb⟩:=hJ.v
  obtain⟨np,ap,lp,cp,xp,mp,bp,kp,dp,yp,rfl⟩:=ea.shape
  obtain⟨nq,aq,lq,cq,xq,mq,bq,kq,dq,yq,rfl⟩:=eb.shape
  rcases xF with _|xF<;>rcases yF with _|yF
  all_goals (
   (try simp only[fpt,zz])
   go_simp
   exact hK9.out _ _ _ (by first|rfl|(simp only[fpt,zz])) ⟨_,rfl,hJ.next ((qo0 uF).alloc _ _) ⟨⟨(ea.kept ((qo0 uF).alloc _ _)).imp fun c hc=>hc.kept ((qo0 uF).alloc _ _),(eb.kept ((qo0 uF).alloc _ _)).imp fun c hc=>hc.kept ((qo0 uF).alloc _ _)⟩,qe2 _ _ _ _ _ _ _ _ _ _ _ _ _ _ _ _ _ _ _ _ _ _ _ _⟩⟩
  )
 try simp only[zz]
 refine qE (c:=9) (I':=fun v x y w=>∃vl vh,v=.tuple #[vl,vh]∧JJ U (fun P u=>EN iE xE (lo s2 t2) P u vl∧EN iE xE (hi s2 t2) P u vh) x y w) rfl (by kernel_rfl) rfl rfl (qG (((qJ _ _ _ _).and (qJ _ _ _ _)).and ((zK _ _ _).and (zK _ _ _))) hSS rfl rfl ⟨rfl,rfl,rfl⟩ ⟨rfl,rfl,rfl⟩) (fun v x y w h=>h.elim fun _ h=>h.elim fun _ h=>hSS w h.2.k) (fun xF yF uF hJ K hK9=>?_) (jL fun vl vh=>?_)
 ·rcases xF with _|xF<;>rcases yF with _|yF
  all_goals (
   (try simp only[fpt,zz])
   go_simp
   go_wp2_with fail
   refine(KU.out _ _ _ _ _ _ _ (.inr ⟨rfl,rfl⟩) ((hK.trans kXU).trans hJ.k) hJ.v.1.1 hJ.v.1.2 hJ.v.2.1 hJ.v.2.2).mono ?_
   rintro e u1 ⟨vl,vh,rfl,gl,gh,k⟩
   exact hK9.out _ _ _ (by first|rfl|(simp only[fpt,zz])) ⟨vl,vh,rfl,hJ.next k ⟨gl.imp fun c hc=>hc.kept k,gh.imp fun c hc=>hc.kept k⟩⟩
  )
 try simp only[zz]
 refine qY (i:=10) (v:=.tuple #[vl,vh]) rfl (by kernel_rfl) (by kernel_rfl) rfl rfl (fun _ _ _ h=>h) (fun x y w h=>hSS w h.k) (fun xF yF=>?_) ?_
 ·rcases xF with _|xF<;>rcases yF with _|yF<;>exact Or.inl ⟨by rfl,by(intro w hSw;simp only[fpt,zz];go_simp;try (with_reducible rfl))⟩
 try simp only[zz]
 refine qY (i:=11) (v:=vl) rfl (by kernel_rfl) (by kernel_rfl) rfl rfl (fun _ _ _ h=>h) (fun x y w h=>hSS w h.k) (fun xF yF=>?_) ?_
 ·rcases xF with _|xF<;>rcases yF with _|yF<;>exact Or.inl ⟨by rfl,by(intro w hSw;simp only[fpt,zz];go_simp;try (with_reducible rfl))⟩
 try simp only[zz]
 refine qY (i:=12) (v:=vh) rfl (by kernel_rfl) (by kernel_rfl) rfl rfl (fun _ _ _ h=>h) (fun x y w h=>hSS w h.k) (fun xF yF=>?_) ?_
 ·rcases xF with _|xF<;>rcases yF with _|yF<;>exact Or.inl ⟨by rfl,by(intro w hSw;simp only[fpt,zz];go_simp;try (with_reducible rfl))⟩
 try simp only[zz]
 refine yB (by kernel_rfl) rfl rfl (qG ((qJ _ _ _ _).and (qJ _ _ _ _)) hSS rfl rfl ⟨rfl,rfl,rfl⟩ ⟨rfl,rfl,rfl⟩) (fun xF yF uF hJ=>?_)
 obtain⟨C2,rfl,oC2,p1⟩:=hJ.f1 _ rfl
 obtain⟨C3,rfl,oC3,p2⟩:=hJ.f2 _ rfl
 have hne:C2≠C3:=fun e=>hJ.ne _ rfl (by rw[e])
 obtain⟨gl,gh⟩:=hJ.v
 have kU:=hJ.k
 replace gl:=gl.imp (fun c hc=>(show c≠C2∧c≠C3 from⟨hc.2.1 _ rfl,hc.2.2 _ rfl⟩))
 replace gh:=gh.imp (fun c hc=>(show c≠C2∧c≠C3 from⟨hc.2.1 _ rfl,hc.2.2 _ rfl⟩))
 clear hJ
 obtain⟨ng,ag,lg,cg,xg,mg,bg,kg,dg,yg,rfl⟩:=gl.shape
 obtain⟨nh,ah,lh,ch,xh,mh,bh,kh,dh,yh,rfl⟩:=gh.shape
 try simp only[zz]
 have p2b:=p2.other C2 hne (.int .i64 (iE (lo s2 t2))) (.bool ng) (.slice ag lg cg) (.int .i64 xg) (.bool mg) (.slice bg kg dg) (.int .i64 yg)
 have p1b:=p1.put (.int .i64 (iE (lo s2 t2))) (.bool ng) (.slice ag lg cg) (.int .i64 xg) (.bool mg) (.slice bg kg dg) (.int .i64 yg)
 have kV:=ze kU oC2 (.int .i64 (iE (lo s2 t2))) (.bool ng) (.slice ag lg cg) (.int .i64 xg) (.bool mg) (.slice bg kg dg) (.int .i64 yg)
 obtain⟨rr0,rr1,rr2,rr3,rr4,rr5,rr6,rrf⟩:=p1
 refine qi (i:=15) (by kernel_rfl) rfl (fun K hK9=>?_)
 go_simp
 refine hK9.out _ _ (hSS _ kV) (fun hH=>?_)
 clear hK9 K
 try simp only[zz]
 clear rr0 rr1 rr2 rr3 rr4 rr5 rr6 rrf
 obtain⟨V,hV⟩:∃Z,Z=(((((((uF).setCell ⟨C2,0,none⟩ (.int .i64 (iE (lo s2 t2)))).setCell ⟨C2,1,none⟩ (.bool ng)).setCell ⟨C2,2,none⟩ (.slice ag lg cg)).setCell ⟨C2,3,none⟩ (.int .i64 xg)).setCell ⟨C2,4,none⟩ (.bool mg)).setCell ⟨C2,5,none⟩ (.slice bg kg dg)).setCell ⟨C2,6,none⟩ (.int .i64 yg):=⟨_,rfl⟩
 have glV:EN iE xE (lo s2 t2) (fun c=>c≠C2∧c≠C3) V (env (iE (lo s2 t2)) ng ag lg cg xg mg bg kg dg yg):=by rw[hV];exact gl.put C2 (fun c h=>h.1) _ _ _ _ _ _ _
 have ghV:EN iE xE (hi s2 t2) (fun c=>c≠C2∧c≠C3) V (env (iE (hi s2 t2)) nh ah lh ch xh mh bh kh dh yh):=by rw[hV];exact gh.put C2 (fun c h=>h.1) _ _ _ _ _ _ _
 rw[←hV]
 change P7 ((((((((uF).setCell ⟨C2,0,none⟩ (.int .i64 (iE (lo s2 t2)))).setCell ⟨C2,1,none⟩ (.bool ng)).setCell ⟨C2,2,none⟩ (.slice ag lg cg)).setCell ⟨C2,3,none⟩ (.int .i64 xg)).setCell ⟨C2,4,none⟩ (.bool mg)).setCell ⟨C2,5,none⟩ (.slice bg kg dg)).setCell ⟨C2,6,none⟩ (.int .i64 yg)) _ _ _ _ _ _ _ _ at p2b
 change P7 ((((((((uF).setCell ⟨C2,0,none⟩ (.int .i64 (iE (lo s2 t2)))).setCell ⟨C2,1,none⟩ (.bool ng)).setCell ⟨C2,2,none⟩ (.slice ag lg cg)).setCell ⟨C2,3,none⟩ (.int .i64 xg)).setCell ⟨C2,4,none⟩ (.bool mg)).setCell ⟨C2,5,none⟩ (.slice bg kg dg)).setCell ⟨C2,6,none⟩ (.int .i64 yg)) _ _ _ _ _ _ _ _ at p1b
 change Kept _ ((((((((uF).setCell ⟨C2,0,none⟩ (.int .i64 (iE (lo s2 t2)))).setCell ⟨C2,1,none⟩ (.bool ng)).setCell ⟨C2,2,none⟩ (.slice ag lg cg)).setCell ⟨C2,3,none⟩ (.int .i64 xg)).setCell ⟨C2,4,none⟩ (.bool mg)).setCell ⟨C2,5,none⟩ (.slice bg kg dg)).setCell ⟨C2,6,none⟩ (.int .i64 yg))at kV
 rw[←hV]at p2b p1b kV
 clear hV gl gh hH p2
 have p1c:=p1b.other C3 (Ne.symm hne) (.int .i64 (iE (hi s2 t2))) (.bool nh) (.slice ah lh ch) (.int .i64 xh) (.bool mh) (.slice bh kh dh) (.int .i64 yh)
 have p2c:=p2b.put (.int .i64 (iE (hi s2 t2))) (.bool nh) (.slice ah lh ch) (.int .i64 xh) (.bool mh) (.slice bh kh dh) (.int .i64 yh)
 have kW:=ze kV oC3 (.int .i64 (iE (hi s2 t2))) (.bool nh) (.slice ah lh ch) (.int .i64 xh) (.bool mh) (.slice bh kh dh) (.int .i64 yh)
 obtain⟨rr0,rr1,rr2,rr3,rr4,rr5,rr6,rrf⟩:=p2b
 refine qi (i:=16) (by kernel_rfl) rfl (fun K hK9=>?_)
 go_simp
 refine hK9.out _ _ (hSS _ kW) (fun hH=>?_)
 clear hK9 K
 try simp only[zz]
 clear rr0 rr1 rr2 rr3 rr4 rr5 rr6 rrf
 obtain⟨W,hV⟩:∃Z,Z=(((((((V).setCell ⟨C3,0,none⟩ (.int .i64 (iE (hi s2 t2)))).setCell ⟨C3,1,none⟩ (.bool nh)).setCell ⟨C3,2,none⟩ (.slice ah lh ch)).setCell ⟨C3,3,none⟩ (.int .i64 xh)).setCell ⟨C3,4,none⟩ (.bool mh)).setCell ⟨C3,5,none⟩ (.slice bh kh dh)).setCell ⟨C3,6,none⟩ (.int .i64 yh):=⟨_,rfl⟩
 have eC2:EN iE xE (lo s2 t2) Top W (env (iE (lo s2 t2)) ng ag lg cg xg mg bg kg dg yg):=by rw[hV];exact(glV.put C3 (fun c h=>h.2) _ _ _ _ _ _ _).imp fun _ _=>trivial
 have eC3:EN iE xE (hi s2 t2) Top W (env (iE (hi s2 t2)) nh ah lh ch xh mh bh kh dh yh):=by rw[hV];exact(ghV.put C3 (fun c h=>h.2) _ _ _ _ _ _ _).imp fun _ _=>trivial
 rw[←hV]
 change P7 ((((((((V).setCell ⟨C3,0,none⟩ (.int .i64 (iE (hi s2 t2)))).setCell ⟨C3,1,none⟩ (.bool nh)).setCell ⟨C3,2,none⟩ (.slice ah lh ch)).setCell ⟨C3,3,none⟩ (.int .i64 xh)).setCell ⟨C3,4,none⟩ (.bool mh)).setCell ⟨C3,5,none⟩ (.slice bh kh dh)).setCell ⟨C3,6,none⟩ (.int .i64 yh)) _ _ _ _ _ _ _ _ at p2c
 change P7 ((((((((V).setCell ⟨C3,0,none⟩ (.int .i64 (iE (hi s2 t2)))).setCell ⟨C3,1,none⟩ (.bool nh)).setCell ⟨C3,2,none⟩ (.slice ah lh ch)).setCell ⟨C3,3,none⟩ (.int .i64 xh)).setCell ⟨C3,4,none⟩ (.bool mh)).setCell ⟨C3,5,none⟩ (.slice bh kh dh)).setCell ⟨C3,6,none⟩ (.int .i64 yh)) _ _ _ _ _ _ _ _ at p1c
 change Kept _ ((((((((V).setCell ⟨C3,0,none⟩ (.int .i64 (iE (hi s2 t2)))).setCell ⟨C3,1,none⟩ (.bool nh)).setCell ⟨C3,2,none⟩ (.slice ah lh ch)).setCell ⟨C3,3,none⟩ (.int .i64 xh)).setCell ⟨C3,4,none⟩ (.bool mh)).setCell ⟨C3,5,none⟩ (.slice bh kh dh)).setCell ⟨C3,6,none⟩ (.int .i64 yh))at kW
 rw[←hV]at p2c p1c kW
 clear hV glV ghV hH kU kV p1b uF V
 have q2:=p1c
 have q3:=p2c
 have kUW:=kW
 clear p1c p2c kW
 refine qs (by kernel_rfl) ?_ _
 try simp only[zz]
 go_upto_region 3 with fail
 clear hSS hHeld
 obtain⟨q10,q11,q12,q13,q14,q15,q16,q1f⟩:=q1.kept kUW
 obtain⟨q20,q21,q22,q23,q24,q25,q26,q2f⟩:=id q2
 go_wp2_with fail
 refine(KR.out _ _ _ (hK.trans (kXU.trans kUW)) (eC1.kept kUW) eC2).mono ?_
 rintro e w3 ⟨rfl,k3⟩
 clear q10 q11 q12 q13 q14 q15 q16 q1f q20 q21 q22 q23 q24 q25 q26 q2f
 obtain⟨p0,p1,pf⟩:=hP2.kept (kXU.trans (kUW.trans k3))
 go_wp2_with fail
 exact qoz (v:=.tuple #[.agg #[.int .i64 0,.int .i64 0],.bool false]) (by simp[results,Tryz.results19,go_sem,p0,p1]) rfl ⟨rfl,((hK.trans (kXU.trans (kUW.trans k3))).setCell (p:=⟨B2,0,none⟩) oB.out.2.2.2.2.1 _).setCell (p:=⟨B2,1,none⟩) oB.out.2.2.2.2.1 _⟩
end Go.Proofs.YtaglkncdedeipaaGreatDoor
