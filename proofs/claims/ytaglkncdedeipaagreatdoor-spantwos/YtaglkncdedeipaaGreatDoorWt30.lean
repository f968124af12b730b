/-  -/
import Derived.Test.YtaglkncdedeipaaGreatDoorWt29
import Derived.Test.YtaglkncdedeipaaGreatDoorWt28
import Derived.Test.YtaglkncdedeipaaGreatDoorWt20
import Derived.Test.YtaglkncdedeipaaGreatDoorWt27
namespace Go.Proofs.YtaglkncdedeipaaGreatDoor
open Go.ChangeShapes Go.WideShapes Go.ChangeAt Go.RowKit
set_option linter.unusedVariables false
set_option linter.unusedSimpArgs false
set_option maxHeartbeats 16000000
set_option maxRecDepth 100000
theorem qkj (n a b:Int)(ha:RB a)(hb:RB b)(ia:qj a n=true)(ib:qj b n=true)(h:qc a n=qc b n):ql a n=ql b n:=by
 obtain⟨va,la⟩:=zh n a ha ia
 obtain⟨vb,lb⟩:=zh n b hb ib
 obtain⟨a1,a2⟩:=xy n a (-1075) (by decide) ha ia
 obtain⟨b1,b2⟩:=xy n b (-1075) (by decide) hb ib
 refine qny (-1075) _ _ va vb la lb ?_
 by_cases hi:qR n (qc a n)=0
 ·rw[a1 hi,b1 (by rw[←h];exact hi),h]
 ·rw[a2 hi,b2 (by rw[←h];exact hi)]
theorem kG (M:Nat)(hM:1≤M)(hM2:M≤100)(G cap:Nat)(v:Nat→Value)(r:Nat→Int)(w:World)(hA:∀j,j<M→AV w G (j*7) (v j))
  (KO:∀u p q,p<M→q<M→Kept w u→Calls Tryz.prog 53 #[v p,v q] u fun e w'=>e=.returned (.int .i64 (cz (r p) (r q)))∧Kept u w'):
  Calls Tryz.prog 59 #[.slice (some ⟨G,0,none⟩) M cap] w fun e w'=>∃p q,(p<M∧q<M∧(∀j,j<M→r p≤r j)∧(∀j,j<M→r j≤r q))∧e=.returned (.tuple #[v p,v q])∧Kept w w':=by
 have hc:∀j,∃t:Int×Bool×Option Addr×Nat×Nat×Int×Bool×Option Addr×Nat×Nat×Int,j<M→v j=env t.1 t.2.1 t.2.2.1 t.2.2.2.1 t.2.2.2.2.1 t.2.2.2.2.2.1 t.2.2.2.2.2.2.1 t.2.2.2.2.2.2.2.1 t.2.2.2.2.2.2.2.2.1 t.2.2.2.2.2.2.2.2.2.1 t.2.2.2.2.2.2.2.2.2.2∧A7 w G (j*7) (.int .i64 t.1) (.bool t.2.1) (.slice t.2.2.1 t.2.2.2.1 t.2.2.2.2.1) (.int .i64 t.2.2.2.2.2.1) (.bool t.2.2.2.2.2.2.1) (.slice t.2.2.2.2.2.2.2.1 t.2.2.2.2.2.2.2.2.1 t.2.2.2.2.2.2.2.2.2.1) (.int .i64 t.2.2.2.2.2.2.2.2.2.2):=fun j=>by
  by_cases hj:j<M
  ·obtain⟨i,n,a,l,c,x,m,b,k,d,y,e,h⟩:=hA j hj
   exact⟨(i,n,a,l,c,x,m,b,k,d,y),fun _=>⟨e,h⟩⟩
  ·exact⟨(0,false,none,0,0,0,false,none,0,0,0),fun h=>absurd h hj⟩
 obtain⟨f,hf⟩:=Classical.axiomOfChoice hc
 refine(YV M hM hM2 G 0 cap (fun j=>(f j).1) (fun j=>(f j).2.1) (fun j=>(f j).2.2.1) (fun j=>(f j).2.2.2.1) (fun j=>(f j).2.2.2.2.1) (fun j=>(f j).2.2.2.2.2.1) (fun j=>(f j).2.2.2.2.2.2.1) (fun j=>(f j).2.2.2.2.2.2.2.1) (fun j=>(f j).2.2.2.2.2.2.2.2.1) (fun j=>(f j).2.2.2.2.2.2.2.2.2.1) (fun j=>(f j).2.2.2.2.2.2.2.2.2.2) r w (fun u k j hj=>?_) (fun u p q hp hq k=>?_)).mono ?_
 ·rw[Nat.zero_add]
  exact(hf j hj).2.kept k
 ·have:=KO u p q hp hq k
  rw[(hf p hp).1,(hf q hq).1]at this
  exact this
 ·rintro e w' ⟨p,q,h,rfl,k⟩
  refine⟨p,q,h,?_,k⟩
  rw[(hf p h.1).1,(hf q h.2.1).1]
def loB (n b c:Int):Int:=if qc b n≤qc c n then b else c
def hiB (n b c:Int):Int:=if qc b n≤qc c n then c else b
theorem Ql (n b c:Int):qc (loB n b c) n=min (qc b n) (qc c n):=by
 unfold loB;split<;>omega
theorem Qm (n b c:Int):qc (hiB n b c) n=max (qc b n) (qc c n):=by
 unfold hiB;split<;>omega
theorem qhr (n b c:Int):loB n b c=b∨loB n b c=c:=by unfold loB;split<;>simp
theorem qhs (n b c:Int):hiB n b c=b∨hiB n b c=c:=by unfold hiB;split<;>simp
abbrev iK (n b:Int):Int:=qR n (qc b n)
theorem Zp (n b c:Int)(hb:RB b)(hc:RB c)(ib:qj b n=true)(ic:qj c n=true)(u:World)(v1 v2:Value)(P:Nat→Prop)(G:Nat)(e1:EN (iK n) (fun b=>ql b n) b P u v1)(e2:EN (iK n) (fun b=>ql b n) c P u v2)(h1:AV u G 0 v1)(h2:AV u G 7 v2):
  Calls Tryz.prog 59 #[.slice (some ⟨G,0,none⟩) 2 2] u fun e w'=>∃vl vh,e=.returned (.tuple #[vl,vh])∧EN (iK n) (fun b=>ql b n) (loB n b c) P w' vl∧EN (iK n) (fun b=>ql b n) (hiB n b c) P w' vh∧Kept u w':=by
 have hj2:∀j,j<2→j=0∨j=1:=fun j hj=>by omega
 refine(kG 2 (by decide) (by decide) G 2 (fun j=>if j=0 then v1 else v2) (fun j=>if j=0 then qc b n else qc c n) u (fun j hj=>?_) (fun w p q hp hq k=>?_)).mono ?_
 ·rcases hj2 j hj with rfl|rfl
  ·simpa using h1
  ·simpa using h2
 ·have f1:PE n b w v1:=(EnAt.kept e1 k).imp fun _ _=>trivial
  have f2:PE n c w v2:=(EnAt.kept e2 k).imp fun _ _=>trivial
  rcases hj2 p hp with rfl|rfl<;>rcases hj2 q hq with rfl|rfl
  ·simpa using xc n b b hb hb ib ib v1 v1 w f1 f1
  ·simpa using xc n b c hb hc ib ic v1 v2 w f1 f2
  ·simpa using xc n c b hc hb ic ib v2 v1 w f2 f1
  ·simpa using xc n c c hc hc ic ic v2 v2 w f2 f2
 ·rintro e w' ⟨p,q,⟨hp,hq,hl,hh⟩,rfl,k⟩
  have f1:=EnAt.kept e1 k
  have f2:=EnAt.kept e2 k
  have g12:qc b n=qc c n→EnAt P w' v2 (qR n (qc b n)) (ql b n) oneN5∧EnAt P w' v1 (qR n (qc c n)) (ql c n) oneN5:=fun h=>by
   have e:=qkj n b c hb hc ib ic h
   constructor
   ·rw[e,h];exact f2
   ·rw[←e,←h];exact f1
  refine⟨_,_,rfl,?_,?_,k⟩
  ·have l0:=hl 0 (by decide)
   have l1:=hl 1 (by decide)
   rcases hj2 p hp with rfl|rfl
   ·have:qc b n≤qc c n:=by simpa using l1
    show EnAt P w' v1 (qR n (qc (loB n b c) n)) (ql (loB n b c) n) oneN5
    unfold loB
    rw[if_pos this]
    exact f1
   ·have hcb:qc c n≤qc b n:=by simpa using l0
    show EnAt P w' v2 (qR n (qc (loB n b c) n)) (ql (loB n b c) n) oneN5
    unfold loB
    split
    ·exact(g12 (by omega)).1
    ·exact f2
  ·have l0:=hh 0 (by decide)
   have l1:=hh 1 (by decide)
   rcases hj2 q hq with rfl|rfl
   ·have hcb:qc c n≤qc b n:=by simpa using l1
    show EnAt P w' v1 (qR n (qc (hiB n b c) n)) (ql (hiB n b c) n) oneN5
    unfold hiB
    split
    ·exact(g12 (by omega)).2
    ·exact f1
   ·have:qc b n≤qc c n:=by simpa using l0
    show EnAt P w' v2 (qR n (qc (hiB n b c) n)) (ql (hiB n b c) n) oneN5
    unfold hiB
    rw[if_pos this]
    exact f2
theorem yi (Q:Int→Prop)(a b c d:Int)(ha:Q a)(hb:Q b)(hc:Q c)(hd:Q d):∀x,(x=a∨x=b∨x=c∨x=d)→Q x:=fun x h=>by
 rcases h with rfl|rfl|rfl|rfl<;>assumption
theorem kO5 (n b:Int)(hb:RB b∧qj b n=true)(u:World):Calls Tryz.prog 52 #[.int .i64 b,.int .i64 n] u fun e w'=>∃v,e=.returned v∧EN (iK n) (fun b=>ql b n) b (qn u.heap.size) w' v∧Kept u w':=by
 refine(qnr b n hb.1 hb.2 u).mono ?_
 rintro e w' ⟨⟨r,rfl,h⟩,k⟩
 exact⟨r,rfl,h,k⟩
theorem kM5 (n a b:Int)(ha:RB a∧qj a n=true)(hb:RB b∧qj b n=true)(v1 v2:Value)(u:World)(e1:EN (iK n) (fun b=>ql b n) a Top u v1)(e2:EN (iK n) (fun b=>ql b n) b Top u v2):Calls Tryz.prog 60 #[v1,v2,.int .i64 n] u fun e w'=>e=.returned (.agg #[.int .i64 (pz n (qc a n)),.int .i64 (pz n (qc b n))])∧Kept u w':=by
 have:=VF n (qv a n ha.2) _ _ _ _ (jl n _) (jl n _) (zh n a ha.1 ha.2).1 (zh n b hb.1 hb.2).1 v1 v2 u e1 e2
 rw[Jc n 1 a (.inl rfl) ha.1 ha.2,Jc n 2 b (.inr rfl) hb.1 hb.2]at this
 exact this
theorem qht (a1 b1 a2 b2 n:Int)(s1:RB a1∧qj a1 n=true)(s2:RB b1∧qj b1 n=true)(s3:RB a2∧qj a2 n=true)(s4:RB b2∧qj b2 n=true)(w:World):
  Calls Tryz.prog 23 #[.agg #[.int .i64 a1,.int .i64 b1],.agg #[.int .i64 a2,.int .i64 b2],.int .i64 n] w fun e w'=>e=.returned (.agg #[.int .i64 (pz n (min (qc a1 n) (qc a2 n))),.int .i64 (pz n (max (qc b1 n) (qc b2 n)))])∧Kept w w':=by
 have hall:=yi (fun b=>RB b∧qj b n=true) a1 b1 a2 b2 s1 s2 s3 s4
 refine YZ a1 b1 a2 b2 n _ _ (iK n) (fun b=>ql b n) (loB n) (hiB n) w (fun u b hb _=>kO5 n b (hall b hb) u) (fun u b c v1 v2 P G hbc _ e1 e2 h1 h2=>?_) (fun u v1 v2 _ e1 e2=>?_)
 ·rcases hbc with ⟨rfl,rfl⟩|⟨rfl,rfl⟩
  ·exact Zp n _ _ s1.1 s3.1 s1.2 s3.2 u v1 v2 P G e1 e2 h1 h2
  ·exact Zp n _ _ s2.1 s4.1 s2.2 s4.2 u v1 v2 P G e1 e2 h1 h2
 ·have:=kM5 n _ _ (hall (loB n a1 a2) (by rcases qhr n a1 a2 with h|h<;>rw[h]<;>simp)) (hall (hiB n b1 b2) (by rcases qhs n b1 b2 with h|h<;>rw[h]<;>simp)) v1 v2 u e1 e2
  rw[Ql,Qm]at this
  exact this
theorem qhu (a1 b1 a2 b2 n:Int)(s1:RB a1∧qj a1 n=true)(s2:RB b1∧qj b1 n=true)(s3:RB a2∧qj a2 n=true)(s4:RB b2∧qj b2 n=true)(w:World):
  Calls Tryz.prog 19 #[.agg #[.int .i64 a1,.int .i64 b1],.agg #[.int .i64 a2,.int .i64 b2],.int .i64 n] w fun e w'=>e=.returned (if max (qc a1 n) (qc a2 n)≤min (qc b1 n) (qc b2 n)then .tuple #[.agg #[.int .i64 (pz n (max (qc a1 n) (qc a2 n))),.int .i64 (pz n (min (qc b1 n) (qc b2 n)))],.bool true]else .tuple #[.agg #[.int .i64 0,.int .i64 0],.bool false])∧Kept w w':=by
 have hall:=yi (fun b=>RB b∧qj b n=true) a1 b1 a2 b2 s1 s2 s3 s4
 have hh:=hall (hiB n a1 a2) (by rcases qhs n a1 a2 with h|h<;>rw[h]<;>simp)
 have hl:=hall (loB n b1 b2) (by rcases qhr n b1 b2 with h|h<;>rw[h]<;>simp)
 have KU:∀(u:World) (b c:Int) (v1 v2:Value) (P:Nat→Prop) (G:Nat),(b=a1∧c=a2∨b=b1∧c=b2)→Kept w u→EN (iK n) (fun b=>ql b n) b P u v1→EN (iK n) (fun b=>ql b n) c P u v2→AV u G 0 v1→AV u G 7 v2→Calls Tryz.prog 59 #[.slice (some ⟨G,0,none⟩) 2 2] u fun e w'=>∃vl vh,e=.returned (.tuple #[vl,vh])∧EN (iK n) (fun b=>ql b n) (loB n b c) P w' vl∧EN (iK n) (fun b=>ql b n) (hiB n b c) P w' vh∧Kept u w':=fun u b c v1 v2 P G hbc _ e1 e2 h1 h2=>by
  rcases hbc with ⟨rfl,rfl⟩|⟨rfl,rfl⟩
  ·exact Zp n _ _ s1.1 s3.1 s1.2 s3.2 u v1 v2 P G e1 e2 h1 h2
  ·exact Zp n _ _ s2.1 s4.1 s2.2 s4.2 u v1 v2 P G e1 e2 h1 h2
 have KR:∀(u:World) (v1 v2:Value),Kept w u→EN (iK n) (fun b=>ql b n) (hiB n a1 a2) Top u v1→EN (iK n) (fun b=>ql b n) (loB n b1 b2) Top u v2→Calls Tryz.prog 53 #[v1,v2] u fun e w'=>e=.returned (.int .i64 (cz (qc (hiB n a1 a2) n) (qc (loB n b1 b2) n)))∧Kept u w':=fun u v1 v2 _ e1 e2=>xc n _ _ hh.1 hl.1 hh.2 hl.2 v1 v2 u e1 e2
 obtain⟨c1,c2,c3⟩:=zQ (qc (hiB n a1 a2) n) (qc (loB n b1 b2) n)
 rw[Qm,Ql]at c1 c2 c3
 by_cases hm:max (qc a1 n) (qc a2 n)≤min (qc b1 n) (qc b2 n)
 ·rw[if_pos hm]
  refine QH a1 b1 a2 b2 n _ _ _ (iK n) (fun b=>ql b n) (loB n) (hiB n) w (fun u b hb _=>kO5 n b (hall b hb) u) KU KR ?_ (fun u v1 v2 _ e1 e2=>?_)
  ·rw[Qm,Ql]
   rcases Int.lt_or_eq_of_le hm with h|h
   ·rw[c1 h];rfl
   ·rw[c2 h];rfl
  ·have:=kM5 n _ _ hh hl v1 v2 u e1 e2
   rw[Ql,Qm]at this
   exact this
 ·rw[if_neg hm]
  refine Qk a1 b1 a2 b2 n _ (iK n) (fun b=>ql b n) (loB n) (hiB n) w (fun u b hb _=>kO5 n b (hall b hb) u) KU KR ?_
  rw[Qm,Ql,c3 (by omega)]
  rfl
theorem Zo (n way:Int)(x:Nm):Tk n way 0 x=kyN n way x:=by unfold Tk;rw[if_neg (by decide),if_neg (by decide)]
def ipl (n b c:Int):Int:=if iK n b≠0 then iK n b else if iK n c≠0 then iK n c else 0
def xpl (n b c:Int):Nm:=if iK n b≠0 then ql b n else if iK n c≠0 then ql c n else pls (ql b n) (ql c n)
theorem Xw (n b c:Int)(hb:RB b∧qj b n=true)(hc:RB c∧qj c n=true)(v1 v2:Value)(u:World)(e1:PE n b u v1)(e2:PE n c u v2):
  Calls Tryz.prog 61 #[v1,v2] u fun e w'=>∃r,e=.returned r∧EnAt Top w' r (ipl n b c) (xpl n b c) oneN5∧Kept u w':=by
 unfold ipl xpl iK
 have g1:=EnAt.here e1
 have g2:=EnAt.here e2
 obtain⟨n1,a1,l1,c1,y1,m1,b1,k1,d1,z1,rfl⟩:=EnAt.shape e1
 obtain⟨n2,a2,l2,c2,y2,m2,b2,k2,d2,z2,rfl⟩:=EnAt.shape e2
 by_cases h1:qR n (qc b n)=0
 ·by_cases h2:qR n (qc c n)=0
  ·rw[if_neg (not_not_intro h1),if_neg (not_not_intro h2),if_neg (not_not_intro h1),if_neg (not_not_intro h2)]
   rw[h1]at g1 ⊢
   rw[h2]at g2 ⊢
   have q1:=vg _ (zh n b hb.1 hb.2).1
   have q2:=vg _ (zh n c hc.1 hc.2).1
   refine(qkc n1 a1 l1 c1 y1 m1 b1 k1 d1 z1 n2 a2 l2 c2 y2 m2 b2 k2 d2 z2 (pls (ql b n) (ql c n)) (fun c=>c<u.heap.size) u (fun v k=>?_)).mono ?_
   ·exact qaj _ v _ _ _ _ ((EnAt.kept (g1.imp fun c hc=>hc.2) k).fst).1 ((EnAt.kept (g2.imp fun c hc=>hc.2) k).fst).1 q1.1 q2.1 (by have:=q1.2.1;omega) (by have:=q2.2.1;omega) (by have:=q1.2.2;omega) (by have:=q2.2.2;omega)
   ·rintro e w' ⟨u',C,v,v0,v1,v2,v3,v4,v5,v6,rfl,g,k,hC,rfl⟩
    exact⟨v,rfl,(g.put C (fun c hc=>by rcases hc with hc|hc<;>omega) _ _ _ _ _ _ _).imp fun _ _=>trivial,ze k hC _ _ _ _ _ _ _⟩
  ·rw[if_neg (not_not_intro h1),if_pos h2,if_neg (not_not_intro h1),if_pos h2]
   rw[h1]at g1 ⊢
   refine(qkb n1 a1 l1 c1 y1 m1 b1 k1 d1 z1 _ n2 a2 l2 c2 y2 m2 b2 k2 d2 z2 (by simpa using h2) u).mono ?_
   rintro e w' ⟨u',C,v0,v1,v2,v3,v4,v5,v6,rfl,k,hC,rfl⟩
   exact⟨_,rfl,((g2.kept k).put C (fun c hc=>by have:=hc.2;omega) _ _ _ _ _ _ _).imp fun _ _=>trivial,ze k hC _ _ _ _ _ _ _⟩
 ·rw[if_pos h1,if_pos h1]
  refine(qka _ n1 a1 l1 c1 y1 m1 b1 k1 d1 z1 _ n2 a2 l2 c2 y2 m2 b2 k2 d2 z2 (by simpa using h1) u).mono ?_
  rintro e w' ⟨u',C,v0,v1,v2,v3,v4,v5,v6,rfl,k,hC,rfl⟩
  exact⟨_,rfl,((g1.kept k).put C (fun c hc=>by have:=hc.2;omega) _ _ _ _ _ _ _).imp fun _ _=>trivial,ze k hC _ _ _ _ _ _ _⟩
theorem jm (n k:Int)(hn:n=64∨n=32)(hk:-(ifn n:Int)≤k∧k≤(ifn n:Int)):(qR n k=0↔-(ifn n:Int)<k∧k<(ifn n:Int)):=by
 have hp:(0:Int)<(ifn n:Int):=by rcases hn with rfl|rfl<;>decide
 unfold qR
 split
 ·constructor
  ·intro h;exact absurd h (by decide)
  ·intro h;omega
 ·split
  ·constructor
   ·intro h;exact absurd h (by decide)
   ·intro h;omega
  ·constructor
   ·intro _;omega
   ·intro _;rfl
theorem vM (n b:Int)(hb:RB b∧qj b n=true)(h:-(ifn n:Int)<qc b n∧qc b n<(ifn n:Int)):cls b n<3∧ql b n=ofN b n:=by
 have:=(Zm b n hb.1 hb.2).1.2 h
 exact⟨this,by unfold ql;rw[if_pos this]⟩
theorem qkk (n b c:Int)(hb:RB b∧qj b n=true)(hc:RB c∧qj c n=true)(h1:-(ifn n:Int)<qc b n∧qc b n<(ifn n:Int))(h2:-(ifn n:Int)<qc c n∧qc c n<(ifn n:Int))(r:Nm)(hr:cfm (kvz n (-1074) (qc b n)+kvz n (-1074) (qc c n)) (-1074)=some r):pls (ql b n) (ql c n)=r∧vld (pls (ql b n) (ql c n))=true:=by
 have hn:=qv b n hb.2
 obtain⟨p1,q1⟩:=vM n b hb h1
 obtain⟨p2,q2⟩:=vM n c hc h2
 obtain⟨l1,z1⟩:=zr b n hn hb.1 p1
 obtain⟨l2,z2⟩:=zr c n hn hc.1 p2
 rw[q1,q2]
 have e:=qk3 (-1075) 5000 (by decide) _ _ l1 l2
 rw[z1,z2,←Int.add_mul]at e
 have hs:=jA (kvz n (-1074) (qc b n)+kvz n (-1074) (qc c n)) 1 (-1075)
 have e2:qif (ofN b n) (ofN c n)=some r:=e.trans (hs.trans hr)
 rw[qlo _ _ l1.ok l2.ok]at e2
 by_cases hv:vld (pls (ofN b n) (ofN c n))=true
 ·rw[if_pos hv]at e2
  cases e2
  exact⟨rfl,hv⟩
 ·rw[if_neg hv]at e2
  cases e2
theorem qc0 (n way b c K:Int)(hw:way=1∨way=2)(hb:RB b∧qj b n=true)(hc:RB c∧qj c n=true)(h:Smk n way (qc b n) (qc c n) K):Tk n way (ipl n b c) (xpl n b c)=K∧vld (xpl n b c)=true∧(ipl n b c=-1∨ipl n b c=0∨ipl n b c=1):=by
 have hn:=qv b n hb.2
 have k1:=zG b n hb.2 hb.1.1 hb.1.2
 have k2:=zG c n hc.2 hc.1.1 hc.1.2
 have i1:=jm n _ hn k1
 have i2:=jm n _ hn k2
 have hp:(0:Int)<(ifn n:Int):=by rcases hn with rfl|rfl<;>decide
 have vb:=(zh n b hb.1 hb.2).1
 have vc:=(zh n c hc.1 hc.2).1
 have t1:=Jc n way b hw hb.1 hb.2
 have t2:=Jc n way c hw hc.1 hc.2
 unfold ipl xpl iK
 by_cases h1:qR n (qc b n)=0
 ·have f1:=i1.1 h1
  rw[if_neg (not_not_intro h1),if_neg (not_not_intro h1)]
  by_cases h2:qR n (qc c n)=0
  ·have f2:=i2.1 h2
   rw[if_neg (not_not_intro h2),if_neg (not_not_intro h2)]
   rcases h with ⟨h,-,-⟩|⟨h,-,-⟩|⟨-,-,r,hr,hK⟩
   ·rcases h with h|h<;>omega
   ·rcases h with h|h<;>omega
   ·obtain⟨e,v⟩:=qkk n b c hb hc f1 f2 r hr
    refine⟨?_,v,.inr (.inl rfl)⟩
    rw[Zo,e,hK]
  ·rw[if_pos h2,if_pos h2]
   refine⟨?_,vc,jl n _⟩
   rw[t2]
   have f2:¬(-(ifn n:Int)<qc c n∧qc c n<(ifn n:Int)):=fun h=>h2 (i2.2 h)
   rcases h with ⟨h,-,-⟩|⟨h,-,hK⟩|⟨-,h,r,hr,hK⟩
   ·rcases h with h|h<;>omega
   ·exact hK.symm
   ·exact absurd h f2
 ·rw[if_pos h1,if_pos h1]
  refine⟨?_,vb,jl n _⟩
  rw[t1]
  have f1:¬(-(ifn n:Int)<qc b n∧qc b n<(ifn n:Int)):=fun h=>h1 (i1.2 h)
  rcases h with ⟨h,-,hK⟩|⟨h,h',hK⟩|⟨h,-,r,hr,hK⟩
  ·exact hK.symm
  ·rw[hK]
   rcases h with h|h<;>omega
  ·exact absurd h f1
theorem qbo (a1 b1 a2 b2 n K1 K2:Int)(s1:RB a1∧qj a1 n=true)(s2:RB b1∧qj b1 n=true)(s3:RB a2∧qj a2 n=true)(s4:RB b2∧qj b2 n=true)(h1:Smk n 1 (qc a1 n) (qc a2 n) K1)(h2:Smk n 2 (qc b1 n) (qc b2 n) K2)(w:World):
  Calls Tryz.prog 20 #[.agg #[.int .i64 a1,.int .i64 b1],.agg #[.int .i64 a2,.int .i64 b2],.int .i64 n] w fun e w'=>e=.returned (.agg #[.int .i64 (pz n K1),.int .i64 (pz n K2)])∧Kept w w':=by
 have hall:=yi (fun b=>RB b∧qj b n=true) a1 b1 a2 b2 s1 s2 s3 s4
 obtain⟨e1,q1,j1⟩:=qc0 n 1 a1 a2 K1 (.inl rfl) s1 s3 h1
 obtain⟨e2,q2,j2⟩:=qc0 n 2 b1 b2 K2 (.inr rfl) s2 s4 h2
 refine YW a1 b1 a2 b2 n _ _ (PE n) (PE.kept n) (fun b c w v=>EnAt Top w v (ipl n b c) (xpl n b c) oneN5) (fun b c u u' v h k=>EnAt.kept h k) w (fun u b hb _=>qbn n b (hall b hb).1 (hall b hb).2 u) (fun u b c v1 v2 hbc _ f1 f2=>?_) (fun u v3 v4 _ g1 g2=>?_)
 ·rcases hbc with ⟨rfl,rfl⟩|⟨rfl,rfl⟩
  ·exact Xw n _ _ s1 s3 v1 v2 u f1 f2
  ·exact Xw n _ _ s2 s4 v1 v2 u f1 f2
 ·have:=VF n (qv a1 n s1.2) _ _ _ _ j1 j2 q1 q2 v3 v4 u g1 g2
  rw[e1,e2]at this
  exact this
theorem qc1 (a1 b1 a2 b2 n K1 K2:Int)(s1:RB a1∧qj a1 n=true)(s2:RB b1∧qj b1 n=true)(s3:RB a2∧qj a2 n=true)(s4:RB b2∧qj b2 n=true)(h1:Smk n 1 (qc a1 n) (-qc b2 n) K1)(h2:Smk n 2 (qc b1 n) (-qc a2 n) K2)(w:World):
  Calls Tryz.prog 21 #[.agg #[.int .i64 a1,.int .i64 b1],.agg #[.int .i64 a2,.int .i64 b2],.int .i64 n] w fun e w'=>e=.returned (.agg #[.int .i64 (pz n K1),.int .i64 (pz n K2)])∧Kept w w':=by
 have hn:=qv a1 n s1.2
 have k3:=zG a2 n s3.2 s3.1.1 s3.1.2
 have k4:=zG b2 n s4.2 s4.1.1 s4.1.2
 have p3:=JQ n (-qc a2 n) hn (by omega) (by omega)
 have p4:=JQ n (-qc b2 n) hn (by omega) (by omega)
 have q3:RB (pz n (-qc a2 n)):=yK n (-qc a2 n) hn (by omega) (by omega)
 have q4:RB (pz n (-qc b2 n)):=yK n (-qc b2 n) hn (by omega) (by omega)
 have r3:=JP n (-qc a2 n) hn (by omega) (by omega)
 have r4:=JP n (-qc b2 n) hn (by omega) (by omega)
 refine VE a1 b1 a2 b2 n _ _ _ _ w (fun u _=>qns a2 b2 n s3.1 s4.1 s3.2 s4.2 u) (fun u _=>?_)
 exact qbo a1 b1 _ _ n K1 K2 s1 s2 ⟨q4,r4⟩ ⟨q3,r3⟩ (by rw[p4];exact h1) (by rw[p3];exact h2) u
structure Stv (L:(Nat→Prop)→World→Value→Prop):Prop where
 imp:∀P P' u v,(∀c,P c→P' c)→L P u v→L P' u v
 kept:∀P u u' v,Kept u u'→L P u v→L P u' v
 put:∀P u v b,(∀c,P c→c≠b)→L P u v→∀v0 v1 v2 v3 v4 v5 v6,L P (xY u b v0 v1 v2 v3 v4 v5 v6) v
 shape:∀P u v,L P u v→∃i n a l c x m b k d y,v=env i n a l c x m b k d y
theorem Stv.stb {L:(Nat→Prop)→World→Value→Prop}(h:Stv L)(v:Value):Stb (fun P u=>L P u v):=⟨fun P P' u e g=>h.imp P P' u v e g,fun P u u' k g=>h.kept P u u' v k g⟩
theorem zb (v:Value)(i:Int)(x y:Nm):Stb (fun P u=>EnAt P u v i x y):=⟨fun _ _ _ h g=>g.imp h,fun _ _ _ k g=>g.kept k⟩
theorem JJ.old {X:World}{Y:(Nat→Prop)→World→Prop}{x y:Option Value}{u u':World}(h:JJ X Y x y u){c:Nat}(h1:c<X.heap.size)(h2:c<u'.heap.size):NFs x y u' c:=by
 refine⟨h2,fun b hb=>?_,fun b hb=>?_⟩
 ·obtain⟨d,e,hd,-⟩:=h.f1 _ hb
  cases e
  exact Nat.ne_of_lt (qok h1 hd)
 ·obtain⟨d,e,hd,-⟩:=h.f2 _ hb
  cases e
  exact Nat.ne_of_lt (qok h1 hd)
theorem VG (s1 s2 t1 t2 n z1 z2:Int)(iE:Int→Int)(xE:Int→Nm)(iT:Int→Int→Int)(xT yT:Int→Int→Nm)(Lw Hw:(Nat→Prop)→World→Value→Prop)(sL:Stv Lw)(sH:Stv Hw)(w:World)
  (KO:Hid (∀u b,(b=s1∨b=s2∨b=t1∨b=t2)→Kept w u→Calls Tryz.prog 52 #[.int .i64 b,.int .i64 n] u fun e w'=>∃v,e=.returned v∧EN iE xE b (qn u.heap.size) w' v∧Kept u w'))
  (KT:Hid (∀u b c v1 v2 P,((b=s1∨b=s2)∧(c=t1∨c=t2))→Kept w u→EN iE xE b P u v1→EN iE xE c P u v2→Calls Tryz.prog 62 #[v1,v2] u fun e w'=>∃v,e=.returned v∧EnAt (PL P u) w' v (iT b c) (xT b c) (yT b c)∧Kept u w'))
  (KU:Hid (∀u v1 v2 v3 v4 P G,Kept w u→EnAt P u v1 (iT s1 t1) (xT s1 t1) (yT s1 t1)→EnAt P u v2 (iT s1 t2) (xT s1 t2) (yT s1 t2)→EnAt P u v3 (iT s2 t1) (xT s2 t1) (yT s2 t1)→EnAt P u v4 (iT s2 t2) (xT s2 t2) (yT s2 t2)→AV u G 0 v1→AV u G 7 v2→AV u G 14 v3→AV u G 21 v4→Calls Tryz.prog 59 #[.slice (some ⟨G,0,none⟩) 4 4] u fun e w'=>∃vl vh,e=.returned (.tuple #[vl,vh])∧Lw P w' vl∧Hw P w' vh∧Kept u w'))
  (KM:Hid (∀u v1 v2,Kept w u→Lw Top u v1→Hw Top u v2→Calls Tryz.prog 60 #[v1,v2,.int .i64 n] u fun e w'=>e=.returned (.agg #[.int .i64 z1,.int .i64 z2])∧Kept u w')):
  Calls Tryz.prog 22 #[.agg #[.int .i64 s1,.int .i64 s2],.agg #[.int .i64 t1,.int .i64 t2],.int .i64 n] w fun e w'=>e=.returned (.agg #[.int .i64 z1,.int .i64 z2])∧Kept w w':=by
 obtain⟨X,hX⟩:∃X,X=((w.alloc (.cells #[.int .i64 s1,.int .i64 s2] 23)).alloc (.cells #[.int .i64 t1,.int .i64 t2] 23)).alloc (.cells #[.int .i64 0,.int .i64 0] 23):=⟨_,rfl⟩
 have hK:Kept w X:=by rw[hX];exact(((qo0 w).alloc _ _).alloc _ _).alloc _ _
 have hXs:X.heap.size=w.heap.size+3:=by rw[hX];simp
 have hP0:P2 X (w.heap.size) (.int .i64 s1) (.int .i64 s2):=by
  rw[hX]
  have:=(((P2.new (w) (.int .i64 s1) (.int .i64 s2) 23).alloc #[.int .i64 t1,.int .i64 t2] 23).alloc #[.int .i64 0,.int .i64 0] 23)
  simpa using this
 have hP1:P2 X (w.heap.size+1) (.int .i64 t1) (.int .i64 t2):=by
  rw[hX]
  have:=((P2.new (w.alloc (.cells #[.int .i64 s1,.int .i64 s2] 23)) (.int .i64 t1) (.int .i64 t2) 23).alloc #[.int .i64 0,.int .i64 0] 23)
  simpa using this
 have hP2:P2 X (w.heap.size+1+1) (.int .i64 0) (.int .i64 0):=by
  rw[hX]
  have:=(P2.new ((w.alloc (.cells #[.int .i64 s1,.int .i64 s2] 23)).alloc (.cells #[.int .i64 t1,.int .i64 t2] 23)) (.int .i64 0) (.int .i64 0) 23)
  simpa using this
 obtain⟨B0,hB0⟩:∃B,B=w.heap.size:=⟨_,rfl⟩
 obtain⟨B1,hB1⟩:∃B,B=B0+1:=⟨_,rfl⟩
 obtain⟨B2,hB2⟩:∃B,B=B1+1:=⟨_,rfl⟩
 rw[←hB0]at hP0
 rw[←hB0,←hB1]at hP1
 rw[←hB0,←hB1,←hB2]at hP2
 have oB:Hid (w.heap.size≤B0∧B0<X.heap.size∧w.heap.size≤B1∧B1<X.heap.size∧w.heap.size≤B2∧B2<X.heap.size):=(show _∧_∧_∧_∧_∧_ from by omega)
 have oX:Hid (w.heap.size≤X.heap.size):=hK.below.size
 go_enter Tryz.func22,Tryz.ntmps22
 go_upto_region 1 with fail
 rw[←hX,←hB0,←hB1,←hB2]
 clear hX hXs hB0 hB1 hB2
 have kXX:=qo0 X
 obtain⟨p0,p1,pf⟩:=hP0.kept kXX
 go_wp2_with fail
 refine(KO.out _ _ (.inl rfl) (hK.trans kXX)).mono ?_
 rintro e wj ⟨v,rfl,g,k⟩
 clear p0 p1 pf
 obtain⟨ne,ae,le,ce,xe,me,be,ke,de,ye,rfl⟩:=g.shape
 replace g:=g.here.imp (fun c hc=>(show c<wj.heap.size from hc.2))
 have kq:=((qo0 wj).alloc #[.int .i64 (iE s1),.bool ne,.slice ae le ce,.int .i64 xe,.bool me,.slice be ke de,.int .i64 ye] 77)
 have kB:=k.trans kq
 have gB:=g.kept kq
 have rB:=P7.new wj (.int .i64 (iE s1)) (.bool ne) (.slice ae le ce) (.int .i64 xe) (.bool me) (.slice be ke de) (.int .i64 ye) 77
 go_upto_region 2 with fail
 obtain⟨U1,hU⟩:∃Z,Z=wj.alloc (.cells #[.int .i64 (iE s1),.bool ne,.slice ae le ce,.int .i64 xe,.bool me,.slice be ke de,.int .i64 ye] 77):=⟨_,rfl⟩
 rw[←hU]at kq kB gB rB
 rw[←hU]
 obtain⟨D1,hD⟩:∃Z,Z=wj.heap.size:=⟨_,rfl⟩
 rw[←hD]at gB rB
 rw[←hD]
 replace gB:=gB.here.imp (fun c hc=>(show c<U1.heap.size from hc.2))
 have kXU1:=kXX.trans kB
 have kU1:=kB
 have gU1:=gB
 have rU1:=rB
 clear hU hD kq g k kB gB rB wj
 obtain⟨p0,p1,pf⟩:=hP0.kept kXU1
 go_wp2_with fail
 refine(KO.out _ _ (.inr (.inl rfl)) (hK.trans kXU1)).mono ?_
 rintro e wj ⟨v,rfl,g,k⟩
 clear p0 p1 pf
 obtain⟨nf,af,lf,cf,xf,mf,bf,kf,df,yf,rfl⟩:=g.shape
 replace g:=g.here.imp (fun c hc=>(show c<wj.heap.size from hc.2))
 have kq:=((qo0 wj).alloc #[.int .i64 (iE s2),.bool nf,.slice af lf cf,.int .i64 xf,.bool mf,.slice bf kf df,.int .i64 yf] 77)
 have kB:=k.trans kq
 have gB:=g.kept kq
 have rB:=P7.new wj (.int .i64 (iE s2)) (.bool nf) (.slice af lf cf) (.int .i64 xf) (.bool mf) (.slice bf kf df) (.int .i64 yf) 77
 go_upto_region 3 with fail
 obtain⟨U2,hU⟩:∃Z,Z=wj.alloc (.cells #[.int .i64 (iE s2),.bool nf,.slice af lf cf,.int .i64 xf,.bool mf,.slice bf kf df,.int .i64 yf] 77):=⟨_,rfl⟩
 rw[←hU]at kq kB gB rB
 rw[←hU]
 obtain⟨D2,hD⟩:∃Z,Z=wj.heap.size:=⟨_,rfl⟩
 rw[←hD]at gB rB
 rw[←hD]
 replace gB:=gB.here.imp (fun c hc=>(show c<U2.heap.size from hc.2))
 have kXU2:=kXU1.trans kB
 have kU2:=kB
 have gU2:=gB
 have rU2:=rB
 clear hU hD kq g k kB gB rB wj
 obtain⟨p0,p1,pf⟩:=hP1.kept kXU2
 go_wp2_with fail
 refine(KO.out _ _ (.inr (.inr (.inl rfl))) (hK.trans kXU2)).mono ?_
 rintro e wj ⟨v,rfl,g,k⟩
 clear p0 p1 pf
 obtain⟨ng,ag,lg,cg,xg,mg,bg,kg,dg,yg,rfl⟩:=g.shape
 replace g:=g.here.imp (fun c hc=>(show c<wj.heap.size from hc.2))
 have kq:=((qo0 wj).alloc #[.int .i64 (iE t1),.bool ng,.slice ag lg cg,.int .i64 xg,.bool mg,.slice bg kg dg,.int .i64 yg] 77)
 have kB:=k.trans kq
 have gB:=g.kept kq
 have rB:=P7.new wj (.int .i64 (iE t1)) (.bool ng) (.slice ag lg cg) (.int .i64 xg) (.bool mg) (.slice bg kg dg) (.int .i64 yg) 77
 go_upto_region 4 with fail
 obtain⟨U3,hU⟩:∃Z,Z=wj.alloc (.cells #[.int .i64 (iE t1),.bool ng,.slice ag lg cg,.int .i64 xg,.bool mg,.slice bg kg dg,.int .i64 yg] 77):=⟨_,rfl⟩
 rw[←hU]at kq kB gB rB
 rw[←hU]
 obtain⟨D3,hD⟩:∃Z,Z=wj.heap.size:=⟨_,rfl⟩
 rw[←hD]at gB rB
 rw[←hD]
 replace gB:=gB.here.imp (fun c hc=>(show c<U3.heap.size from hc.2))
 have kXU3:=kXU2.trans kB
 have kU3:=kB
 have gU3:=gB
 have rU3:=rB
 clear hU hD kq g k kB gB rB wj
 obtain⟨p0,p1,pf⟩:=hP1.kept kXU3
 go_wp2_with fail
 refine(KO.out _ _ (.inr (.inr (.inr rfl))) (hK.trans kXU3)).mono ?_
 rintro e wj ⟨v,rfl,g,k⟩
 clear p0 p1 pf
 obtain⟨nj,aj,lj,cj,xj,mj,bj,kj,dj,yj,rfl⟩:=g.shape
 replace g:=g.here.imp (fun c hc=>(show c<wj.heap.size from hc.2))
 have kq:=((qo0 wj).alloc #[.int .i64 (iE t2),.bool nj,.slice aj lj cj,.int .i64 xj,.bool mj,.slice bj kj dj,.int .i64 yj] 77)
 have kB:=k.trans kq
 have gB:=g.kept kq
 have rB:=P7.new wj (.int .i64 (iE t2)) (.bool nj) (.slice aj lj cj) (.int .i64 xj) (.bool mj) (.slice bj kj dj) (.int .i64 yj) 77
 go_upto_region 5 with fail
 obtain⟨U4,hU⟩:∃Z,Z=wj.alloc (.cells #[.int .i64 (iE t2),.bool nj,.slice aj lj cj,.int .i64 xj,.bool mj,.slice bj kj dj,.int .i64 yj] 77):=⟨_,rfl⟩
 rw[←hU]at kq kB gB rB
 rw[←hU]
 obtain⟨D4,hD⟩:∃Z,Z=wj.heap.size:=⟨_,rfl⟩
 rw[←hD]at gB rB
 rw[←hD]
 replace gB:=gB.here.imp (fun c hc=>(show c<U4.heap.size from hc.2))
 have kXU4:=kXU3.trans kB
 have kU4:=kB
 have gU4:=gB
 have rU4:=rB
 clear hU hD kq g k kB gB rB wj
 have R1:=rU1.kept (kU2.trans (kU3.trans kU4))
 have R2:=rU2.kept (kU3.trans kU4)
 have R3:=rU3.kept kU4
 have R4:=rU4
 have G1:=(gU1.kept (kU2.trans (kU3.trans kU4))).imp (fun c hc=>(show c<U4.heap.size from qok hc (kU2.trans (kU3.trans kU4)).below.size))
 have G2:=(gU2.kept (kU3.trans kU4)).imp (fun c hc=>(show c<U4.heap.size from qok hc (kU3.trans kU4).below.size))
 have G3:=(gU3.kept kU4).imp (fun c hc=>(show c<U4.heap.size from qok hc kU4.below.size))
 have G4:=gU4
 clear rU1 rU2 rU3 rU4 gU1 gU2 gU3 gU4 kU1 kU2 kU3 kU4
 refine qm [] (fun u=>Kept U4 u) (by kernel_rfl) ((qo0 U4).drew) (fun hHeld=>?_)
 have hSS:∀u,Kept U4 u→Kept U4 u:=fun u k=>k
 refine qz (i:=0) (v:=?_) rfl (by kernel_rfl) (by kernel_rfl) (by kernel_rfl) (by kernel_rfl) (fun _ _ _ h=>h) (Or.inl ⟨by rfl,?hyb0⟩) hHeld ?_
 case hyb0=>(intro w hSw;(try dsimp only at hSw);obtain⟨rr0,rr1,rr2,rr3,rr4,rr5,rr6,rrf⟩:=R1.kept hSw;go_simp;try (with_reducible rfl))
 try simp only[zz]
 refine qz (i:=1) (v:=?_) rfl (by kernel_rfl) (by kernel_rfl) (by kernel_rfl) (by kernel_rfl) (fun _ _ _ h=>h) (Or.inl ⟨by rfl,?hyb1⟩) hHeld ?_
 case hyb1=>(intro w hSw;(try dsimp only at hSw);obtain⟨rr0,rr1,rr2,rr3,rr4,rr5,rr6,rrf⟩:=R3.kept hSw;go_simp;try (with_reducible rfl))
 try simp only[zz]
 refine qz (i:=3) (v:=?_) rfl (by kernel_rfl) (by kernel_rfl) (by kernel_rfl) (by kernel_rfl) (fun _ _ _ h=>h) (Or.inl ⟨by rfl,?hyb3⟩) hHeld ?_
 case hyb3=>(intro w hSw;(try dsimp only at hSw);obtain⟨rr0,rr1,rr2,rr3,rr4,rr5,rr6,rrf⟩:=R1.kept hSw;go_simp;try (with_reducible rfl))
 try simp only[zz]
 refine qz (i:=4) (v:=?_) rfl (by kernel_rfl) (by kernel_rfl) (by kernel_rfl) (by kernel_rfl) (fun _ _ _ h=>h) (Or.inl ⟨by rfl,?hyb4⟩) hHeld ?_
 case hyb4=>(intro w hSw;(try dsimp only at hSw);obtain⟨rr0,rr1,rr2,rr3,rr4,rr5,rr6,rrf⟩:=R4.kept hSw;go_simp;try (with_reducible rfl))
 try simp only[zz]
 refine qz (i:=6) (v:=?_) rfl (by kernel_rfl) (by kernel_rfl) (by kernel_rfl) (by kernel_rfl) (fun _ _ _ h=>h) (Or.inl ⟨by rfl,?hyb6⟩) hHeld ?_
 case hyb6=>(intro w hSw;(try dsimp only at hSw);obtain⟨rr0,rr1,rr2,rr3,rr4,rr5,rr6,rrf⟩:=R2.kept hSw;go_simp;try (with_reducible rfl))
 try simp only[zz]
 refine qz (i:=7) (v:=?_) rfl (by kernel_rfl) (by kernel_rfl) (by kernel_rfl) (by kernel_rfl) (fun _ _ _ h=>h) (Or.inl ⟨by rfl,?hyb7⟩) hHeld ?_
 case hyb7=>(intro w hSw;(try dsimp only at hSw);obtain⟨rr0,rr1,rr2,rr3,rr4,rr5,rr6,rrf⟩:=R3.kept hSw;go_simp;try (with_reducible rfl))
 try simp only[zz]
 refine qz (i:=9) (v:=?_) rfl (by kernel_rfl) (by kernel_rfl) (by kernel_rfl) (by kernel_rfl) (fun _ _ _ h=>h) (Or.inl ⟨by rfl,?hyb9⟩) hHeld ?_
 case hyb9=>(intro w hSw;(try dsimp only at hSw);obtain⟨rr0,rr1,rr2,rr3,rr4,rr5,rr6,rrf⟩:=R2.kept hSw;go_simp;try (with_reducible rfl))
 try simp only[zz]
 refine qz (i:=10) (v:=?_) rfl (by kernel_rfl) (by kernel_rfl) (by kernel_rfl) (by kernel_rfl) (fun _ _ _ h=>h) (Or.inl ⟨by rfl,?hyb10⟩) hHeld ?_
 case hyb10=>(intro w hSw;(try dsimp only at hSw);obtain⟨rr0,rr1,rr2,rr3,rr4,rr5,rr6,rrf⟩:=R4.kept hSw;go_simp;try (with_reducible rfl))
 try simp only[zz]
 refine QU (i1:=17) (i2:=18) (d1:=11) (d2:=12) (I:=JJ U4 (fun _ _=>True)) (JJ.start hHeld) ?_
 refine qE (c:=2) (I':=fun v1=>JJ U4 (fun P u=>EnAt P u v1 (iT s1 t1) (xT s1 t1) (yT s1 t1))) rfl (by kernel_rfl) rfl rfl (qG xQ hSS rfl rfl ⟨rfl,rfl,rfl⟩ ⟨rfl,rfl,rfl⟩) (fun v x y w h=>hSS w h.k) (fun xF yF uF hJ K hK9=>?_) (fun v1=>?_)
 ·rcases xF with _|xF<;>rcases yF with _|yF
  all_goals (
   (try simp only[fpt,zz])
   go_simp
   go_wp2_with fail
   refine(KT.out _ _ _ _ _ _ ⟨.inl rfl,.inl rfl⟩ ((hK.trans kXU4).trans hJ.k) (G1.kept hJ.k) (G3.kept hJ.k)).mono ?_
   rintro e u1 ⟨v,rfl,g,k⟩
   exact hK9.out _ _ _ (by first|rfl|(simp only[fpt,zz])) (hJ.next k (g.here.imp fun c hc=>hc.1.elim (fun hc1=>hJ.old hc1 hc.2) fun hc1=>hJ.fresh hc1 hc.2))
  )
 try simp only[zz]
 refine qE (c:=5) (I':=fun v2=>JJ U4 (fun P u=>EnAt P u v1 (iT s1 t1) (xT s1 t1) (yT s1 t1)∧EnAt P u v2 (iT s1 t2) (xT s1 t2) (yT s1 t2))) rfl (by kernel_rfl) rfl rfl (qG (zb _ _ _ _) hSS rfl rfl ⟨rfl,rfl,rfl⟩ ⟨rfl,rfl,rfl⟩) (fun v x y w h=>hSS w h.k) (fun xF yF uF hJ K hK9=>?_) (fun v2=>?_)
 ·rcases xF with _|xF<;>rcases yF with _|yF
  all_goals (
   (try simp only[fpt,zz])
   go_simp
   go_wp2_with fail
   refine(KT.out _ _ _ _ _ _ ⟨.inl rfl,.inr rfl⟩ ((hK.trans kXU4).trans hJ.k) (G1.kept hJ.k) (G4.kept hJ.k)).mono ?_
   rintro e u1 ⟨v,rfl,g,k⟩
   exact hK9.out _ _ _ (by first|rfl|(simp only[fpt,zz])) (hJ.next k ⟨((hJ.v.kept k).imp fun c hc=>hc.kept k),(g.here.imp fun c hc=>hc.1.elim (fun hc1=>hJ.old hc1 hc.2) fun hc1=>hJ.fresh hc1 hc.2)⟩)
  )
 try simp only[zz]
 refine qE (c:=8) (I':=fun v3=>JJ U4 (fun P u=>EnAt P u v1 (iT s1 t1) (xT s1 t1) (yT s1 t1)∧EnAt P u v2 (iT s1 t2) (xT s1 t2) (yT s1 t2)∧EnAt P u v3 (iT s2 t1) (xT s2 t1) (yT s2 t1))) rfl (by kernel_rfl) rfl rfl (qG ((zb _ _ _ _).and (zb _ _ _ _)) hSS rfl rfl ⟨rfl,rfl,rfl⟩ ⟨rfl,rfl,rfl⟩) (fun v x y w h=>hSS w h.k) (fun xF yF uF hJ K hK9=>?_) (fun v3=>?_)
 ·rcases xF with _|xF<;>rcases yF with _|yF
  all_goals (
   (try simp only[fpt,zz])
   go_simp
   go_wp2_with fail
   refine(KT.out _ _ _ _ _ _ ⟨.inr rfl,.inl rfl⟩ ((hK.trans kXU4).trans hJ.k) (G2.kept hJ.k) (G3.kept hJ.k)).mono ?_
   rintro e u1 ⟨v,rfl,g,k⟩
   exact hK9.out _ _ _ (by first|rfl|(simp only[fpt,zz])) (hJ.next k ⟨((hJ.v.1.kept k).imp fun c hc=>hc.kept k),((hJ.v.2.kept k).imp fun c hc=>hc.kept k),(g.here.imp fun c hc=>hc.1.elim (fun hc1=>hJ.old hc1 hc.2) fun hc1=>hJ.fresh hc1 hc.2)⟩)
  )
 try simp only[zz]
 refine qE (c:=11) (I':=fun v4=>JJ U4 (fun P u=>EnAt P u v1 (iT s1 t1) (xT s1 t1) (yT s1 t1)∧EnAt P u v2 (iT s1 t2) (xT s1 t2) (yT s1 t2)∧EnAt P u v3 (iT s2 t1) (xT s2 t1) (yT s2 t1)∧EnAt P u v4 (iT s2 t2) (xT s2 t2) (yT s2 t2))) rfl (by kernel_rfl) rfl rfl (qG ((zb _ _ _ _).and ((zb _ _ _ _).and (zb _ _ _ _))) hSS rfl rfl ⟨rfl,rfl,rfl⟩ ⟨rfl,rfl,rfl⟩) (fun v x y w h=>hSS w h.k) (fun xF yF uF hJ K hK9=>?_) (fun v4=>?_)
 ·rcases xF with _|xF<;>rcases yF with _|yF
  all_goals (
   (try simp only[fpt,zz])
   go_simp
   go_wp2_with fail
   refine(KT.out _ _ _ _ _ _ ⟨.inr rfl,.inr rfl⟩ ((hK.trans kXU4).trans hJ.k) (G2.kept hJ.k) (G4.kept hJ.k)).mono ?_
   rintro e u1 ⟨v,rfl,g,k⟩
   exact hK9.out _ _ _ (by first|rfl|(simp only[fpt,zz])) (hJ.next k ⟨((hJ.v.1.kept k).imp fun c hc=>hc.kept k),((hJ.v.2.1.kept k).imp fun c hc=>hc.kept k),((hJ.v.2.2.kept k).imp fun c hc=>hc.kept k),(g.here.imp fun c hc=>hc.1.elim (fun hc1=>hJ.old hc1 hc.2) fun hc1=>hJ.fresh hc1 hc.2)⟩)
  )
 try simp only[zz]
 refine qE (c:=12) (I':=fun v x y w=>∃G,v=.slice (some ⟨G,0,none⟩) 4 4∧JJ U4 (fun P u=>(EnAt P u v1 (iT s1 t1) (xT s1 t1) (yT s1 t1)∧EnAt P u v2 (iT s1 t2) (xT s1 t2) (yT s1 t2)∧EnAt P u v3 (iT s2 t1) (xT s2 t1) (yT s2 t1)∧EnAt P u v4 (iT s2 t2) (xT s2 t2) (yT s2 t2))∧AV u G 0 v1∧AV u G 7 v2∧AV u G 14 v3∧AV u G 21 v4) x y w) rfl (by kernel_rfl) rfl rfl (qG ((zb _ _ _ _).and ((zb _ _ _ _).and ((zb _ _ _ _).and (zb _ _ _ _)))) hSS rfl rfl ⟨rfl,rfl,rfl⟩ ⟨rfl,rfl,rfl⟩) (fun v x y w h=>h.elim fun _ h=>hSS w h.2.k) (fun xF yF uF hJ K hK9=>?_) (jM fun G=>?_)
 ·obtain⟨ea,eb,ec,ed⟩:=hJ.v
  obtain⟨np,ap,lp,cp,xp,mp,bp,kp,dp,yp,rfl⟩:=ea.shape
  obtain⟨nq,aq,lq,cq,xq,mq,bq,kq,dq,yq,rfl⟩:=eb.shape
  obtain⟨nr,ar,lr,cr,xr,mr,br,kr,dr,yr,rfl⟩:=ec.shape
  obtain⟨nu,au,lu,cu,xu,mu,bu,ku,du,yu,rfl⟩:=ed.shape
  rcases xF with _|xF<;>rcases yF with _|yF
  all_goals (
   (try simp only[fpt,zz])
   go_simp
   exact hK9.out _ _ _ (by first|rfl|(simp only[fpt,zz])) ⟨_,rfl,hJ.next ((qo0 uF).alloc _ _) ⟨⟨(ea.kept ((qo0 uF).alloc _ _)).imp fun c hc=>hc.kept ((qo0 uF).alloc _ _),(eb.kept ((qo0 uF).alloc _ _)).imp fun c hc=>hc.kept ((qo0 uF).alloc _ _),(ec.kept ((qo0 uF).alloc _ _)).imp fun c hc=>hc.kept ((qo0 uF).alloc _ _),(ed.kept ((qo0 uF).alloc _ _)).imp fun c hc=>hc.kept ((qo0 uF).alloc _ _)⟩,qnt _ _ _ _ _ _ _ _ _ _ _ _ _ _ _ _ _ _ _ _ _ _ _ _ _ _ _ _ _ _ _ _ _ _ _ _ _ _ _ _ _ _ _ _ _ _⟩⟩
  )
 try simp only[zz]
 refine qE (c:=13) (I':=fun v x y w=>∃vl vh,v=.tuple #[vl,vh]∧JJ U4 (fun P u=>Lw P u vl∧Hw P u vh) x y w) rfl (by kernel_rfl) rfl rfl (qG (((zb _ _ _ _).and ((zb _ _ _ _).and ((zb _ _ _ _).and (zb _ _ _ _)))).and ((zK _ _ _).and ((zK _ _ _).and ((zK _ _ _).and (zK _ _ _))))) hSS rfl rfl ⟨rfl,rfl,rfl⟩ ⟨rfl,rfl,rfl⟩) (fun v x y w h=>h.elim fun _ h=>h.elim fun _ h=>hSS w h.2.k) (fun xF yF uF hJ K hK9=>?_) (jL fun vl vh=>?_)
 ·rcases xF with _|xF<;>rcases yF with _|yF
  all_goals (
   (try simp only[fpt,zz])
   go_simp
   go_wp2_with fail
   refine(KU.out _ _ _ _ _ _ _ ((hK.trans kXU4).trans hJ.k) hJ.v.1.1 hJ.v.1.2.1 hJ.v.1.2.2.1 hJ.v.1.2.2.2 hJ.v.2.1 hJ.v.2.2.1 hJ.v.2.2.2.1 hJ.v.2.2.2.2).mono ?_
   rintro e u1 ⟨vl,vh,rfl,gl,gh,k⟩
   exact hK9.out _ _ _ (by first|rfl|(simp only[fpt,zz])) ⟨vl,vh,rfl,hJ.next k ⟨sL.imp _ _ _ _ (fun c hc=>hc.kept k) gl,sH.imp _ _ _ _ (fun c hc=>hc.kept k) gh⟩⟩
  )
 try simp only[zz]
 refine qY (i:=14) (v:=.tuple #[vl,vh]) rfl (by kernel_rfl) (by kernel_rfl) rfl rfl (fun _ _ _ h=>h) (fun x y w h=>hSS w h.k) (fun xF yF=>?_) ?_
 ·rcases xF with _|xF<;>rcases yF with _|yF<;>exact Or.inl ⟨by rfl,by(intro w hSw;simp only[fpt,zz];go_simp;try (with_reducible rfl))⟩
 try simp only[zz]
 refine qY (i:=15) (v:=vl) rfl (by kernel_rfl) (by kernel_rfl) rfl rfl (fun _ _ _ h=>h) (fun x y w h=>hSS w h.k) (fun xF yF=>?_) ?_
 ·rcases xF with _|xF<;>rcases yF with _|yF<;>exact Or.inl ⟨by rfl,by(intro w hSw;simp only[fpt,zz];go_simp;try (with_reducible rfl))⟩
 try simp only[zz]
 refine qY (i:=16) (v:=vh) rfl (by kernel_rfl) (by kernel_rfl) rfl rfl (fun _ _ _ h=>h) (fun x y w h=>hSS w h.k) (fun xF yF=>?_) ?_
 ·rcases xF with _|xF<;>rcases yF with _|yF<;>exact Or.inl ⟨by rfl,by(intro w hSw;simp only[fpt,zz];go_simp;try (with_reducible rfl))⟩
 try simp only[zz]
 refine yB (by kernel_rfl) rfl rfl (qG ((sL.stb _).and (sH.stb _)) hSS rfl rfl ⟨rfl,rfl,rfl⟩ ⟨rfl,rfl,rfl⟩) (fun xF yF uF hJ=>?_)
 obtain⟨C0,rfl,oC0,p1⟩:=hJ.f1 _ rfl
 obtain⟨C1,rfl,oC1,p2⟩:=hJ.f2 _ rfl
 have hne:C0≠C1:=fun e=>hJ.ne _ rfl (by rw[e])
 obtain⟨gl,gh⟩:=hJ.v
 have kU:=hJ.k
 replace gl:=sL.imp _ _ _ _ (fun c hc=>(show c≠C0∧c≠C1 from⟨hc.2.1 _ rfl,hc.2.2 _ rfl⟩)) gl
 replace gh:=sH.imp _ _ _ _ (fun c hc=>(show c≠C0∧c≠C1 from⟨hc.2.1 _ rfl,hc.2.2 _ rfl⟩)) gh
 clear hJ
 obtain⟨ip,np,ap,lp,cp,xp,mp,bp,kp,dp,yp,rfl⟩:=sL.shape _ _ _ gl
 obtain⟨iq,nq,aq,lq,cq,xq,mq,bq,kq,dq,yq,rfl⟩:=sH.shape _ _ _ gh
 try simp only[zz]
 have p2b:=p2.other C0 hne (.int .i64 ip) (.bool np) (.slice ap lp cp) (.int .i64 xp) (.bool mp) (.slice bp kp dp) (.int .i64 yp)
 have p1b:=p1.put (.int .i64 ip) (.bool np) (.slice ap lp cp) (.int .i64 xp) (.bool mp) (.slice bp kp dp) (.int .i64 yp)
 have kV:=ze kU oC0 (.int .i64 ip) (.bool np) (.slice ap lp cp) (.int .i64 xp) (.bool mp) (.slice bp kp dp) (.int .i64 yp)
 obtain⟨rr0,rr1,rr2,rr3,rr4,rr5,rr6,rrf⟩:=p1
 refine qi (i:=19) (by kernel_rfl) rfl (fun K hK9=>?_)
 go_simp
 refine hK9.out _ _ (hSS _ kV) (fun hH=>?_)
 clear hK9 K
 try simp only[zz]
 clear rr0 rr1 rr2 rr3 rr4 rr5 rr6 rrf
 obtain⟨V,hV⟩:∃Z,Z=(((((((uF).setCell ⟨C0,0,none⟩ (.int .i64 ip)).setCell ⟨C0,1,none⟩ (.bool np)).setCell ⟨C0,2,none⟩ (.slice ap lp cp)).setCell ⟨C0,3,none⟩ (.int .i64 xp)).setCell ⟨C0,4,none⟩ (.bool mp)).setCell ⟨C0,5,none⟩ (.slice bp kp dp)).setCell ⟨C0,6,none⟩ (.int .i64 yp):=⟨_,rfl⟩
 have glV:Lw (fun c=>c≠C0∧c≠C1) V (env ip np ap lp cp xp mp bp kp dp yp):=by rw[hV];exact sL.put _ _ _ C0 (fun c h=>h.1) gl _ _ _ _ _ _ _
 have ghV:Hw (fun c=>c≠C0∧c≠C1) V (env iq nq aq lq cq xq mq bq kq dq yq):=by rw[hV];exact sH.put _ _ _ C0 (fun c h=>h.1) gh _ _ _ _ _ _ _
 rw[←hV]
 change P7 ((((((((uF).setCell ⟨C0,0,none⟩ (.int .i64 ip)).setCell ⟨C0,1,none⟩ (.bool np)).setCell ⟨C0,2,none⟩ (.slice ap lp cp)).setCell ⟨C0,3,none⟩ (.int .i64 xp)).setCell ⟨C0,4,none⟩ (.bool mp)).setCell ⟨C0,5,none⟩ (.slice bp kp dp)).setCell ⟨C0,6,none⟩ (.int .i64 yp)) _ _ _ _ _ _ _ _ at p2b
 change P7 ((((((((uF).setCell ⟨C0,0,none⟩ (.int .i64 ip)).setCell ⟨C0,1,none⟩ (.bool np)).setCell ⟨C0,2,none⟩ (.slice ap lp cp)).setCell ⟨C0,3,none⟩ (.int .i64 xp)).setCell ⟨C0,4,none⟩ (.bool mp)).setCell ⟨C0,5,none⟩ (.slice bp kp dp)).setCell ⟨C0,6,none⟩ (.int .i64 yp)) _ _ _ _ _ _ _ _ at p1b
 change Kept _ ((((((((uF).setCell ⟨C0,0,none⟩ (.int .i64 ip)).setCell ⟨C0,1,none⟩ (.bool np)).setCell ⟨C0,2,none⟩ (.slice ap lp cp)).setCell ⟨C0,3,none⟩ (.int .i64 xp)).setCell ⟨C0,4,none⟩ (.bool mp)).setCell ⟨C0,5,none⟩ (.slice bp kp dp)).setCell ⟨C0,6,none⟩ (.int .i64 yp))at kV
 rw[←hV]at p2b p1b kV
 clear hV gl gh hH p2
 have p1c:=p1b.other C1 (Ne.symm hne) (.int .i64 iq) (.bool nq) (.slice aq lq cq) (.int .i64 xq) (.bool mq) (.slice bq kq dq) (.int .i64 yq)
 have p2c:=p2b.put (.int .i64 iq) (.bool nq) (.slice aq lq cq) (.int .i64 xq) (.bool mq) (.slice bq kq dq) (.int .i64 yq)
 have kW:=ze kV oC1 (.int .i64 iq) (.bool nq) (.slice aq lq cq) (.int .i64 xq) (.bool mq) (.slice bq kq dq) (.int .i64 yq)
 obtain⟨rr0,rr1,rr2,rr3,rr4,rr5,rr6,rrf⟩:=p2b
 refine qi (i:=20) (by kernel_rfl) rfl (fun K hK9=>?_)
 go_simp
 refine hK9.out _ _ (hSS _ kW) (fun hH=>?_)
 clear hK9 K
 try simp only[zz]
 clear rr0 rr1 rr2 rr3 rr4 rr5 rr6 rrf
 obtain⟨W,hV⟩:∃Z,Z=(((((((V).setCell ⟨C1,0,none⟩ (.int .i64 iq)).setCell ⟨C1,1,none⟩ (.bool nq)).setCell ⟨C1,2,none⟩ (.slice aq lq cq)).setCell ⟨C1,3,none⟩ (.int .i64 xq)).setCell ⟨C1,4,none⟩ (.bool mq)).setCell ⟨C1,5,none⟩ (.slice bq kq dq)).setCell ⟨C1,6,none⟩ (.int .i64 yq):=⟨_,rfl⟩
 have eC0:Lw Top W (env ip np ap lp cp xp mp bp kp dp yp):=by rw[hV];exact sL.imp _ _ _ _ (fun _ _=>trivial) (sL.put _ _ _ C1 (fun c h=>h.2) glV _ _ _ _ _ _ _)
 have eC1:Hw Top W (env iq nq aq lq cq xq mq bq kq dq yq):=by rw[hV];exact sH.imp _ _ _ _ (fun _ _=>trivial) (sH.put _ _ _ C1 (fun c h=>h.2) ghV _ _ _ _ _ _ _)
 rw[←hV]
 change P7 ((((((((V).setCell ⟨C1,0,none⟩ (.int .i64 iq)).setCell ⟨C1,1,none⟩ (.bool nq)).setCell ⟨C1,2,none⟩ (.slice aq lq cq)).setCell ⟨C1,3,none⟩ (.int .i64 xq)).setCell ⟨C1,4,none⟩ (.bool mq)).setCell ⟨C1,5,none⟩ (.slice bq kq dq)).setCell ⟨C1,6,none⟩ (.int .i64 yq)) _ _ _ _ _ _ _ _ at p2c
 change P7 ((((((((V).setCell ⟨C1,0,none⟩ (.int .i64 iq)).setCell ⟨C1,1,none⟩ (.bool nq)).setCell ⟨C1,2,none⟩ (.slice aq lq cq)).setCell ⟨C1,3,none⟩ (.int .i64 xq)).setCell ⟨C1,4,none⟩ (.bool mq)).setCell ⟨C1,5,none⟩ (.slice bq kq dq)).setCell ⟨C1,6,none⟩ (.int .i64 yq)) _ _ _ _ _ _ _ _ at p1c
 change Kept _ ((((((((V).setCell ⟨C1,0,none⟩ (.int .i64 iq)).setCell ⟨C1,1,none⟩ (.bool nq)).setCell ⟨C1,2,none⟩ (.slice aq lq cq)).setCell ⟨C1,3,none⟩ (.int .i64 xq)).setCell ⟨C1,4,none⟩ (.bool mq)).setCell ⟨C1,5,none⟩ (.slice bq kq dq)).setCell ⟨C1,6,none⟩ (.int .i64 yq))at kW
 rw[←hV]at p2c p1c kW
 clear hV glV ghV hH kU kV p1b uF V
 have q0:=p1c
 have q1:=p2c
 have kU4W:=kW
 clear p1c p2c kW
 refine qs (by kernel_rfl) ?_ _
 try simp only[zz]
 go_upto_region 6 with fail
 obtain⟨q00,q01,q02,q03,q04,q05,q06,q0f⟩:=q0
 obtain⟨q10,q11,q12,q13,q14,q15,q16,q1f⟩:=q1
 go_wp2_with fail
 refine(KM.out _ _ _ (hK.trans (kXU4.trans kU4W)) eC0 eC1).mono ?_
 rintro e w3 ⟨rfl,k3⟩
 obtain⟨p0,p1,pf⟩:=hP2.kept (kXU4.trans (kU4W.trans k3))
 go_wp2_with fail
 exact qoz (v:=.agg #[.int .i64 z1,.int .i64 z2]) (by simp[results,Tryz.results22,go_sem,p0,p1]) rfl ⟨rfl,((hK.trans (kXU4.trans (kU4W.trans k3))).setCell (p:=⟨B2,0,none⟩) oB.out.2.2.2.2.1 _).setCell (p:=⟨B2,1,none⟩) oB.out.2.2.2.2.1 _⟩
def sgk (k:Int):Int:=if k<0 then -1 else if k=0 then 0 else 1
theorem xZ (k:Int):(k<0∧sgk k=-1)∨(k=0∧sgk k=0)∨(0<k∧sgk k=1):=by
 unfold sgk
 (repeat' split)<;>omega
theorem qmv (s:Int)(x:Nm)(hv:vld x=true):(if x.mag.length=0 then (0:Int)else if x.neg then -1 else 1)=sgk (vz s x):=by
 obtain⟨n,L,e⟩:=x
 by_cases hL:L=[]
 ·subst hL
  rw[zM]
  rfl
 ·have hp:=Jp s n L e hL hv
  have hl:¬L.length=0:=fun h=>hL (List.eq_nil_of_length_eq_zero h)
  have hz:vz s ⟨n,L,e⟩=sg n (((nv L*2^(e-s).toNat:Nat)):Int):=by unfold vz;simp
  generalize nv L*2^(e-s).toNat=N at hp hz
  rw[hz]
  dsimp only
  rw[if_neg hl]
  unfold sgk sg
  cases n
  ·simp only[Bool.false_eq_true,if_false]
   rw[if_neg (by omega),if_neg (by omega)]
  ·simp only[if_true]
   rw[if_pos (by omega)]
theorem Jd (n b:Int)(hb:RB b∧qj b n=true)(P:Nat→Prop)(u:World)(v:Value)(e:EnAt P u v (iK n b) (ql b n) oneN5)(w:World):Calls Tryz.prog 63 #[v] w fun e w'=>e=.returned (.int .i64 (sgk (qc b n)))∧Kept w w':=by
 have hn:=qv b n hb.2
 have hp:(0:Int)<(ifn n:Int):=by rcases hn with rfl|rfl<;>decide
 obtain⟨a1,c1,a2,c2,rfl,r1,r2⟩:=e
 by_cases h:qR n (qc b n)=0
 ·have hv:=(zh n b hb.1 hb.2).1
  have hz:=(xy n b (-1075) (by decide) hb.1 hb.2).1 h
  obtain⟨q1,q2,q3⟩:=jp n (-1075) (qc b n) hn
  have hs:(if (ql b n).mag.length=0 then (0:Int)else if (ql b n).neg then -1 else 1)=sgk (qc b n):=by
   rw[qmv (-1075) _ hv,hz]
   rcases xZ (qc b n)with ⟨f,g⟩|⟨f,g⟩|⟨f,g⟩<;>rcases xZ (kvz n (-1075) (qc b n))with ⟨p,q⟩|⟨p,q⟩|⟨p,q⟩<;>omega
  show Calls Tryz.prog 63 #[env (qR n (qc b n)) _ _ _ _ _ _ _ _ _ _] w _
  rw[h]
  exact qe0 _ _ _ _ _ _ _ _ _ _ _ w (fun u=>by rw[←hs];exact YF _ _ _ _ _ u)
 ·have:=qez (qR n (qc b n)) (ql b n).neg a1 (ql b n).mag.length c1 (ql b n).exp oneN5.neg a2 oneN5.mag.length c2 oneN5.exp (by simpa using h) w
  have hs:qR n (qc b n)=sgk (qc b n):=by
   unfold qR at h ⊢
   unfold sgk
   (repeat' split)<;>first|omega|(exfalso;revert h;(repeat' split)<;>omega)
  rw[←hs]
  exact this
def itm (n b c:Int):Int:=if qc b n=0∨qc c n=0 then 0 else if iK n b≠0∨iK n c≠0 then sgk (qc b n)*sgk (qc c n)else 0
def xtm (n b c:Int):Nm:=if (qc b n=0∨qc c n=0)∨(iK n b≠0∨iK n c≠0)then ⟨false,[],0⟩else tms (ql b n) (ql c n)
theorem qbp (n b c:Int)(hb:RB b∧qj b n=true)(hc:RB c∧qj c n=true)(P:Nat→Prop)(v1 v2:Value)(u:World)(e1:EnAt P u v1 (iK n b) (ql b n) oneN5)(e2:EnAt P u v2 (iK n c) (ql c n) oneN5):
  Calls Tryz.prog 62 #[v1,v2] u fun e w'=>∃r,e=.returned r∧EnAt (PL P u) w' r (itm n b c) (xtm n b c) oneN5∧Kept u w':=by
 have S1:=Jd n b hb P u v1 e1
 have S2:=Jd n c hc P u v2 e2
 have g1:=EnAt.here e1
 have g2:=EnAt.here e2
 obtain⟨n1,a1,l1,c1,y1,m1,b1,k1,d1,z1,rfl⟩:=EnAt.shape e1
 obtain⟨n2,a2,l2,c2,y2,m2,b2,k2,d2,z2,rfl⟩:=EnAt.shape e2
 unfold itm xtm
 by_cases h0:qc b n=0∨qc c n=0
 ·rw[if_pos h0,if_pos (.inl h0)]
  have hz:sgk (qc b n)*sgk (qc c n)=0:=by
   rcases h0 with h|h<;>rw[h]
   ·show(0:Int)*_=0
    omega
   ·show _*(0:Int)=0
    omega
  refine(YT _ n1 a1 l1 c1 y1 m1 b1 k1 d1 z1 _ n2 a2 l2 c2 y2 m2 b2 k2 d2 z2 _ _ (by rw[hz];decide) u S1 S2).mono ?_
  rintro e w' ⟨u',C,v,v0,v1,v2,v3,v4,v5,v6,rfl,g,k,hC,rfl⟩
  exact⟨v,rfl,(g.put C (fun c hc=>by omega) _ _ _ _ _ _ _).imp fun c hc=>.inr (by omega),ze k hC _ _ _ _ _ _ _⟩
 ·rw[if_neg h0]
  have hz:sgk (qc b n)*sgk (qc c n)=1∨sgk (qc b n)*sgk (qc c n)=-1:=by
   rcases xZ (qc b n)with ⟨p,q⟩|⟨p,q⟩|⟨p,q⟩<;>rcases xZ (qc c n)with ⟨r,s⟩|⟨r,s⟩|⟨r,s⟩<;>rw[q,s]<;>first|(left;decide)|(right;decide)|(exfalso;omega)
  have hw:IntKind.i64.wrap (sgk (qc b n)*sgk (qc c n))=sgk (qc b n)*sgk (qc c n):=by rcases hz with h|h<;>rw[h]<;>decide
  have hz0:(sgk (qc b n)*sgk (qc c n)==0)=false:=by rcases hz with h|h<;>rw[h]<;>decide
  by_cases hi:iK n b≠0∨iK n c≠0
  ·rw[if_pos hi,if_pos (.inr hi)]
   refine(qbj (iK n b) n1 a1 l1 c1 y1 m1 b1 k1 d1 z1 (iK n c) n2 a2 l2 c2 y2 m2 b2 k2 d2 z2 _ _ _ hw hz0 _ _ rfl rfl (by simpa [Bool.or_eq_true] using hi) u S1 S2).mono ?_
   rintro e w' ⟨u',C,v,v0,v1,v2,v3,v4,v5,v6,rfl,g,k,hC,rfl⟩
   exact⟨v,rfl,(g.put C (fun c hc=>by omega) _ _ _ _ _ _ _).imp fun c hc=>.inr (by omega),ze k hC _ _ _ _ _ _ _⟩
  ·rw[if_neg hi,if_neg (fun h=>h.elim h0 hi)]
   have h1:iK n b=0:=by rcases Decidable.em (iK n b=0)with h|h;exact h;exact absurd (.inl h) hi
   have h2:iK n c=0:=by rcases Decidable.em (iK n c=0)with h|h;exact h;exact absurd (.inr h) hi
   rw[h1]at g1 S1 ⊢
   rw[h2]at g2 S2 ⊢
   refine(qhm n1 a1 l1 c1 y1 m1 b1 k1 d1 z1 n2 a2 l2 c2 y2 m2 b2 k2 d2 z2 _ _ _ hw hz0 (tms (ql b n) (ql c n)) (fun c=>P c∧c<u.heap.size) u (fun v k=>?_) S1 S2).mono ?_
   ·exact vE _ v _ _ _ _ ((EnAt.kept g1 k).fst).1 ((EnAt.kept g2 k).fst).1 (zh n b hb.1 hb.2).1 (zh n c hc.1 hc.2).1
   ·rintro e w' ⟨u',C,v,v0,v1,v2,v3,v4,v5,v6,rfl,g,k,hC,rfl⟩
    exact⟨v,rfl,(g.put C (fun c hc=>by rcases hc with hc|hc<;>(try have:=hc.2)<;>omega) _ _ _ _ _ _ _).imp fun c hc=>hc.elim (fun h=>.inl h.1) (fun h=>.inr (by omega)),ze k hC _ _ _ _ _ _ _⟩
end Go.Proofs.YtaglkncdedeipaaGreatDoor
