/-  -/
import Derived.Test.YtaglkncdedeipaaGreatDoorWt24
import Derived.Test.YtaglkncdedeipaaGreatDoorWt23
import Derived.Test.YtaglkncdedeipaaGreatDoorWt04
import Derived.Test.YtaglkncdedeipaaGreatDoorWt05
import Derived.Test.YtaglkncdedeipaaGreatDoorWt22
import Derived.Test.YtaglkncdedeipaaGreatDoorWt06
import Derived.Test.YtaglkncdedeipaaGreatDoorWt19
namespace Go.Proofs.YtaglkncdedeipaaGreatDoor
open Go.ChangeShapes Go.WideShapes Go.ChangeAt Go.RowKit
set_option linter.unusedVariables false
set_option linter.unusedSimpArgs false
set_option maxHeartbeats 16000000
set_option maxRecDepth 100000
theorem qjo (r:Nat):decide (0<(digs r).length)=decide (r≠0):=by
 apply decide_eq_decide.2
 constructor
 ·intro h h0
  rw[h0,qN]at h
  simp at h
 ·intro h
  have:(digs r).length≠0:=fun g=>h (vF r g)
  omega
theorem qd9 (k0 p k2 k3 k4 k5 k6 k7 k8:Int)(hp:0≤p∧p≤64)(A B:Nat)(hA0:A≠0)(hB0:B≠0)(ga gb:Bool)(xa xb:Int)(hxa:-1048576≤xa∧xa≤1048576)(hxb:-1048576≤xb∧xb≤1048576)(va vb:Value)(w:World)(hLa:RL w va (digs A))(hLb:RL w vb (digs B))(la:(digs A).length≤2000)(lb:(digs B).length≤2000)(s:Nat)(hs:(s:Int)=max 0 ((bl B:Int)-(bl A:Int)+p+2)):Calls Tryz.prog 181 #[.agg #[.int .i64 k0,.int .i64 p,.int .i64 k2,.int .i64 k3,.int .i64 k4,.int .i64 k5,.int .i64 k6,.int .i64 k7,.int .i64 k8],.agg #[.bool ga,va,.int .i64 xa],.agg #[.bool gb,vb,.int .i64 xb]] w fun e w'=>∃r1,e=.returned (.tuple #[r1,.int .i64 (xa-xb-s),.bool (decide (A*2^s%B≠0))])∧RL w' r1 (digs (A*2^s/B))∧Kept w w':=by
 have hTa:bl A≤60000:=by
  have:=zg A (30*(digs A).length) (qS A _ (qoo _))
  omega
 have hTb:bl B≤60000:=by
  have:=zg B (30*(digs B).length) (qS B _ (qoo _))
  omega
 have hs9:s≤70000:=by omega
 have hAs:(digs (A*2^s)).length<20000:=by
  have h1:=qS A _ (qoo (digs A).length)
  obtain⟨z,hz⟩:∃z:Nat,z=3000:=⟨_,rfl⟩
  have h2:2^s≤2^(30*z):=qom (by omega) (by omega)
  have h3:A*2^s<2^(30*((digs A).length+z)):=by
   rw[Nat.mul_add,qol]
   exact Nat.mul_lt_mul_of_lt_of_le h1 h2 (qoj _)
  have:=qC _ _ h3
  omega
 have hbs:bl B≤bl (A*2^s):=by rw[Z3 A s hA0];omega
 have KB:Hid (∀v x Y,RL v x (digs Y)→(digs Y).length≤2000→Calls Tryz.prog 185 #[x] v fun e w'=>e=.returned (.int .i64 (bl Y:Int))∧v=w'):=fun v x Y hx hl=>xM v Y x hx (by omega)
 have KSh:Hid (∀v,Kept w v→Calls Tryz.prog 122 #[va,.int .i64 (s:Int)] v fun e w'=>(∃r,e=.returned r∧RL w' r (digs (A*2^s)))∧Kept v w'):=fun v kv=>by
  refine(jE v A s va (hLa.kept kv) (by omega) (by omega)).mono ?_
  rintro e w' ⟨⟨r,rfl,hr⟩,hk⟩
  exact⟨⟨r,rfl,hr.rl⟩,hk⟩
 have KD:Hid (∀v r,Kept w v→RL v r (digs (A*2^s))→Calls Tryz.prog 186 #[r,vb] v fun e w'=>∃r1 n2 a2 c2,e=.returned (.tuple #[r1,.slice a2 n2 c2])∧RL w' r1 (digs (A*2^s/B))∧(decide (0<n2)=decide (A*2^s%B≠0))∧Kept v w'):=fun v r kv hr=>by
  refine(qax v _ B r vb hr (hLb.kept kv) hB0 hbs hAs (by omega)).mono ?_
  rintro e w' ⟨r1,r2,rfl,h1,h2,h3⟩
  obtain⟨ao,c,rfl,-⟩:=h2
  exact⟨r1,_,ao,c,rfl,h1,qjo _,h3⟩
 have HLa:Hid (∀v,Kept w v→RL v va (digs A)):=fun v kv=>hLa.kept kv
 have HLb:Hid (∀v,Kept w v→RL v vb (digs B)):=fun v kv=>hLb.kept kv
 obtain⟨aa,an,ac,rfl⟩:∃sa sn sc,va=.slice sa sn sc:=by
  obtain⟨ao,c,h,-⟩:=hLa
  exact⟨ao,_,c,h⟩
 obtain⟨ba,bn,bc,rfl⟩:∃sa sn sc,vb=.slice sa sn sc:=by
  obtain⟨ao,c,h,-⟩:=hLb
  exact⟨ao,_,c,h⟩
 obtain⟨X,hX⟩:∃X,X=((w.alloc (.cells #[.int .i64 k0,.int .i64 p,.int .i64 k2,.int .i64 k3,.int .i64 k4,.int .i64 k5,.int .i64 k6,.int .i64 k7,.int .i64 k8] 116)).alloc (.cells #[.bool ga,.slice aa an ac,.int .i64 xa] 31)).alloc (.cells #[.bool gb,.slice ba bn bc,.int .i64 xb] 31):=⟨_,rfl⟩
 have hK:Kept w X:=by rw[hX];exact(((qo0 w).alloc _ _).alloc _ _).alloc _ _
 have HS:Hid (∀u,Kept X u→Kept X u∧u.cell? ⟨w.heap.size,1,none⟩=some (.int .i64 p)∧u.cell? ⟨w.heap.size+1,0,none⟩=some (.bool ga)∧u.cell? ⟨w.heap.size+1,1,none⟩=some (.slice aa an ac)∧u.cell? ⟨w.heap.size+1,2,none⟩=some (.int .i64 xa)∧u.cell? ⟨w.heap.size+2,0,none⟩=some (.bool gb)∧u.cell? ⟨w.heap.size+2,1,none⟩=some (.slice ba bn bc)∧u.cell? ⟨w.heap.size+2,2,none⟩=some (.int .i64 xb)):=fun u ku=>by
  have hb0:w.heap.size<X.heap.size:=by rw[hX];simp[go_sem]
  have hb1:w.heap.size+1<X.heap.size:=by rw[hX];simp[go_sem]
  have hb2:w.heap.size+2<X.heap.size:=by rw[hX];simp[go_sem]
  refine⟨ku,(ku.below.cell (p:=⟨w.heap.size,1,none⟩) hb0).trans ?_,(ku.below.cell (p:=⟨w.heap.size+1,0,none⟩) hb1).trans ?_,(ku.below.cell (p:=⟨w.heap.size+1,1,none⟩) hb1).trans ?_,(ku.below.cell (p:=⟨w.heap.size+1,2,none⟩) hb1).trans ?_,(ku.below.cell (p:=⟨w.heap.size+2,0,none⟩) hb2).trans ?_,(ku.below.cell (p:=⟨w.heap.size+2,1,none⟩) hb2).trans ?_,(ku.below.cell (p:=⟨w.heap.size+2,2,none⟩) hb2).trans ?_⟩
  all_goals
   rw[hX]
   simp[go_sem]
 have kd:=(qo0 X).drew
 have hsm:max 0 ((bl B:Int)-(bl A:Int)+p+2)=(s:Int):=hs.symm
 have q1:IntKind.i64.wrap ((bl B:Int)-(bl A:Int))=(bl B:Int)-(bl A:Int):=by rw[qg];omega
 have q2:IntKind.i64.wrap ((bl B:Int)-(bl A:Int)+p)=(bl B:Int)-(bl A:Int)+p:=by rw[qg];omega
 have q3:IntKind.i64.wrap ((bl B:Int)-(bl A:Int)+p+2)=(bl B:Int)-(bl A:Int)+p+2:=by rw[qg];omega
 have q4:IntKind.i64.wrap (xa-xb)=xa-xb:=by rw[qg];omega
 have q5:IntKind.i64.wrap (xa-xb-(s:Int))=xa-xb-s:=by rw[qg];omega
 clear hs hLa hLb hAs hbs hA0 hB0
 go_enter Tryz.func181,Tryz.ntmps181
 go_upto_region 1 with fail
 rw[←hX]
 clear hX
 go_region_held (fun u=>Kept X u∧u.cell? ⟨w.heap.size,1,none⟩=some (.int .i64 p)∧u.cell? ⟨w.heap.size+1,0,none⟩=some (.bool ga)∧u.cell? ⟨w.heap.size+1,1,none⟩=some (.slice aa an ac)∧u.cell? ⟨w.heap.size+1,2,none⟩=some (.int .i64 xa)∧u.cell? ⟨w.heap.size+2,0,none⟩=some (.bool gb)∧u.cell? ⟨w.heap.size+2,1,none⟩=some (.slice ba bn bc)∧u.cell? ⟨w.heap.size+2,2,none⟩=some (.int .i64 xb)) (first|assumption|exact HS.out _ kd|exact HS.out _ (by assumption)) (first|(go_at_call 185;refine(KB.out _ _ _ (by first|exact HLa.out _ (hK.trans (by first|exact kd|assumption))|exact HLb.out _ (hK.trans (by first|exact kd|assumption))) (by first|exact la|exact lb)).mono ?_;rintro e w1 ⟨rfl,rfl⟩))
 clear q1 q2 q3 hsm KB
 replace kd:=kd.drew
 go_upto_region 2 with fail
 go_region_held (fun u=>Kept X u∧u.cell? ⟨w.heap.size,1,none⟩=some (.int .i64 p)∧u.cell? ⟨w.heap.size+1,0,none⟩=some (.bool ga)∧u.cell? ⟨w.heap.size+1,1,none⟩=some (.slice aa an ac)∧u.cell? ⟨w.heap.size+1,2,none⟩=some (.int .i64 xa)∧u.cell? ⟨w.heap.size+2,0,none⟩=some (.bool gb)∧u.cell? ⟨w.heap.size+2,1,none⟩=some (.slice ba bn bc)∧u.cell? ⟨w.heap.size+2,2,none⟩=some (.int .i64 xb)) (first|assumption|exact HS.out _ kd|exact HS.out _ (by assumption)) (first|(go_at_call 122;refine(KSh.out _ (hK.trans (by first|exact kd|assumption))).mono ?_;rintro e w2 ⟨⟨r2,rfl,hr2⟩,k2⟩;replace kd:=kd.trans k2)|(go_at_call 186;refine(KD.out _ _ (hK.trans (by first|exact kd|assumption)) hr2).mono ?_;rintro e w3 ⟨r3,n4,a4,c4,rfl,hr3,hr4,k3⟩;replace kd:=kd.trans k3;replace hr3:=hr3))
 have hr5:=hr3.kept (qo0 w3).drew
 replace kd:=kd.drew
 obtain⟨-,-,m0,m1,m2,m3,m4,m5⟩:=HS.out _ kd
 go_upto_region 3 with fail
 go_region
 go_wp2_with fail
 exact qoz (v:=.tuple #[r3,.int .i64 (xa-xb-s),.bool (decide (A*2^s%B≠0))]) (by simp[results,Tryz.results181,go_sem]) rfl ⟨r3,rfl,hr5,hK.trans kd⟩
theorem J9 (k0 p k2 k3 k4 k5 k6 k7 k8:Int)(hp:0≤p∧p≤64)(A B:Nat)(hA0:A≠0)(hB0:B≠0)(ga gb:Bool)(xa xb:Int)(hxa:-1048576≤xa∧xa≤1048576)(hxb:-1048576≤xb∧xb≤1048576)(va vb:Value)(w:World)(hLa:RL w va (digs A))(hLb:RL w vb (digs B))(la:(digs A).length≤2000)(lb:(digs B).length≤2000)(s:Nat)(hs:(s:Int)=max 0 ((bl B:Int)-(bl A:Int)+p+2))(way b0 b1:Int)(od:Bool)(HC:Hid (∀v r1,RL v r1 (digs (A*2^s/B))→Calls Tryz.prog 183 #[.agg #[.int .i64 k0,.int .i64 p,.int .i64 k2,.int .i64 k3,.int .i64 k4,.int .i64 k5,.int .i64 k6,.int .i64 k7,.int .i64 k8],.bool (ga != gb),r1,.int .i64 (xa-xb-s),.bool (decide (A*2^s%B≠0)),.int .i64 way] v fun e w'=>e=.returned (.tuple #[.int .i64 b0,.bool od])∧Kept v w'))(HT:Hid (∀v,Calls Tryz.prog 182 #[.agg #[.int .i64 k0,.int .i64 p,.int .i64 k2,.int .i64 k3,.int .i64 k4,.int .i64 k5,.int .i64 k6,.int .i64 k7,.int .i64 k8],.int .i64 b0,.bool od] v fun e w'=>e=.returned (.tuple #[.int .i64 b1,.bool od])∧Kept v w')):Calls Tryz.prog 174 #[.agg #[.int .i64 k0,.int .i64 p,.int .i64 k2,.int .i64 k3,.int .i64 k4,.int .i64 k5,.int .i64 k6,.int .i64 k7,.int .i64 k8],.agg #[.bool ga,va,.int .i64 xa],.agg #[.bool gb,vb,.int .i64 xb],.int .i64 way] w fun e w'=>e=.returned (.tuple #[.int .i64 b1,.bool od])∧Kept w w':=by
 have KQ:Hid (∀v,Kept w v→Calls Tryz.prog 181 #[.agg #[.int .i64 k0,.int .i64 p,.int .i64 k2,.int .i64 k3,.int .i64 k4,.int .i64 k5,.int .i64 k6,.int .i64 k7,.int .i64 k8],.agg #[.bool ga,va,.int .i64 xa],.agg #[.bool gb,vb,.int .i64 xb]] v fun e w'=>∃r1,e=.returned (.tuple #[r1,.int .i64 (xa-xb-s),.bool (decide (A*2^s%B≠0))])∧RL w' r1 (digs (A*2^s/B))∧Kept v w'):=fun v kv=>qd9 k0 p k2 k3 k4 k5 k6 k7 k8 hp A B hA0 hB0 ga gb xa xb hxa hxb va vb v (hLa.kept kv) (hLb.kept kv) la lb s hs
 generalize A*2^s/B=Q at *
 generalize decide (A*2^s%B≠0)=mo at *
 generalize xa-xb-(s:Int)=ex at *
 have hne:¬(digs A).length=0:=fun h=>hA0 (vF A h)
 obtain⟨aa,ac,rfl,-⟩:=hLa
 obtain⟨an,han⟩:∃an,(digs A).length=an:=⟨_,rfl⟩
 rw[han]at KQ hne ⊢
 obtain⟨ba,bn,bc,rfl⟩:∃sa sn sc,vb=.slice sa sn sc:=by
  obtain⟨ao,c,h,-⟩:=hLb
  exact⟨ao,_,c,h⟩
 obtain⟨X,hX⟩:∃X,X=((w.alloc (.cells #[.int .i64 k0,.int .i64 p,.int .i64 k2,.int .i64 k3,.int .i64 k4,.int .i64 k5,.int .i64 k6,.int .i64 k7,.int .i64 k8] 116)).alloc (.cells #[.bool ga,.slice aa an ac,.int .i64 xa] 31)).alloc (.cells #[.bool gb,.slice ba bn bc,.int .i64 xb] 31):=⟨_,rfl⟩
 have hK:Kept w X:=by rw[hX];exact(((qo0 w).alloc _ _).alloc _ _).alloc _ _
 have HS:Hid (∀u,Kept X u→Kept X u∧u.cell? ⟨w.heap.size,0,none⟩=some (.int .i64 k0)∧u.cell? ⟨w.heap.size,1,none⟩=some (.int .i64 p)∧u.cell? ⟨w.heap.size,2,none⟩=some (.int .i64 k2)∧u.cell? ⟨w.heap.size,3,none⟩=some (.int .i64 k3)∧u.cell? ⟨w.heap.size,4,none⟩=some (.int .i64 k4)∧u.cell? ⟨w.heap.size,5,none⟩=some (.int .i64 k5)∧u.cell? ⟨w.heap.size,6,none⟩=some (.int .i64 k6)∧u.cell? ⟨w.heap.size,7,none⟩=some (.int .i64 k7)∧u.cell? ⟨w.heap.size,8,none⟩=some (.int .i64 k8)∧u.cell? ⟨w.heap.size+1,0,none⟩=some (.bool ga)∧u.cell? ⟨w.heap.size+1,1,none⟩=some (.slice aa an ac)∧u.cell? ⟨w.heap.size+1,2,none⟩=some (.int .i64 xa)∧u.cell? ⟨w.heap.size+2,0,none⟩=some (.bool gb)∧u.cell? ⟨w.heap.size+2,1,none⟩=some (.slice ba bn bc)∧u.cell? ⟨w.heap.size+2,2,none⟩=some (.int .i64 xb)):=fun u ku=>by
  have hb0:w.heap.size<X.heap.size:=by rw[hX];simp[go_sem]
  have hb1:w.heap.size+1<X.heap.size:=by rw[hX];simp[go_sem]
  have hb2:w.heap.size+2<X.heap.size:=by rw[hX];simp[go_sem]
  refine⟨ku,(ku.below.cell (p:=⟨w.heap.size,0,none⟩) hb0).trans ?_,(ku.below.cell (p:=⟨w.heap.size,1,none⟩) hb0).trans ?_,(ku.below.cell (p:=⟨w.heap.size,2,none⟩) hb0).trans ?_,(ku.below.cell (p:=⟨w.heap.size,3,none⟩) hb0).trans ?_,(ku.below.cell (p:=⟨w.heap.size,4,none⟩) hb0).trans ?_,(ku.below.cell (p:=⟨w.heap.size,5,none⟩) hb0).trans ?_,(ku.below.cell (p:=⟨w.heap.size,6,none⟩) hb0).trans ?_,(ku.below.cell (p:=⟨w.heap.size,7,none⟩) hb0).trans ?_,(ku.below.cell (p:=⟨w.heap.size,8,none⟩) hb0).trans ?_,(ku.below.cell (p:=⟨w.heap.size+1,0,none⟩) hb1).trans ?_,(ku.below.cell (p:=⟨w.heap.size+1,1,none⟩) hb1).trans ?_,(ku.below.cell (p:=⟨w.heap.size+1,2,none⟩) hb1).trans ?_,(ku.below.cell (p:=⟨w.heap.size+2,0,none⟩) hb2).trans ?_,(ku.below.cell (p:=⟨w.heap.size+2,1,none⟩) hb2).trans ?_,(ku.below.cell (p:=⟨w.heap.size+2,2,none⟩) hb2).trans ?_⟩
  all_goals
   rw[hX]
   simp[go_sem]
 have kd:=qo0 X
 obtain⟨-,x0,x1,x2,x3,x4,x5,x6,x7,x8,y0,y1,y2,z0,z1,z2⟩:=HS.out _ kd
 have he:(((an:Int))==0)=false:=by simpa using hne
 go_enter Tryz.func174,Tryz.ntmps174
 go_upto_region 1 with fail
 rw[←hX]
 clear hX
 go_upto_region 4 with (first|(go_at_call 181;refine(KQ.out _ hK).mono ?_;rintro e w1 ⟨r1,rfl,hr1,kw1⟩;replace kd:=kd.trans kw1))
 replace kd:=kd.drew
 have hr2:=hr1.kept (qo0 w1).drew
 clear x0 x1 x2 x3 x4 x5 x6 x7 x8 y0 y1 y2 z0 z1 z2
 go_region_held (fun u=>Kept X u∧u.cell? ⟨w.heap.size,0,none⟩=some (.int .i64 k0)∧u.cell? ⟨w.heap.size,1,none⟩=some (.int .i64 p)∧u.cell? ⟨w.heap.size,2,none⟩=some (.int .i64 k2)∧u.cell? ⟨w.heap.size,3,none⟩=some (.int .i64 k3)∧u.cell? ⟨w.heap.size,4,none⟩=some (.int .i64 k4)∧u.cell? ⟨w.heap.size,5,none⟩=some (.int .i64 k5)∧u.cell? ⟨w.heap.size,6,none⟩=some (.int .i64 k6)∧u.cell? ⟨w.heap.size,7,none⟩=some (.int .i64 k7)∧u.cell? ⟨w.heap.size,8,none⟩=some (.int .i64 k8)∧u.cell? ⟨w.heap.size+1,0,none⟩=some (.bool ga)∧u.cell? ⟨w.heap.size+1,1,none⟩=some (.slice aa an ac)∧u.cell? ⟨w.heap.size+1,2,none⟩=some (.int .i64 xa)∧u.cell? ⟨w.heap.size+2,0,none⟩=some (.bool gb)∧u.cell? ⟨w.heap.size+2,1,none⟩=some (.slice ba bn bc)∧u.cell? ⟨w.heap.size+2,2,none⟩=some (.int .i64 xb)) (first|assumption|exact HS.out _ kd|exact HS.out _ (by assumption)) (first|(go_at_call 183;refine(HC.out _ _ hr2).mono ?_;rintro e w2 ⟨rfl,hk2⟩;replace kd:=kd.trans hk2)|(go_at_call 182;refine(HT.out _).mono ?_;rintro e w3 ⟨rfl,hk3⟩;replace kd:=kd.trans hk3))
 go_wp2_with fail
 go_ret2
 exact⟨rfl,hK.trans kd⟩
theorem Xa (k:Value)(k0 p k2 k3 k4 k5 k6 k7 k8:Int)(hk:k=.agg #[.int .i64 k0,.int .i64 p,.int .i64 k2,.int .i64 k3,.int .i64 k4,.int .i64 k5,.int .i64 k6,.int .i64 k7,.int .i64 k8])(ga:Bool)(aa:Option Addr)(ac:Nat)(xa:Int)(gb:Bool)(ba:Option Addr)(bn bc:Nat)(xb way:Int)(w:World):Calls Tryz.prog 174 #[k,.agg #[.bool ga,.slice aa 0 ac,.int .i64 xa],.agg #[.bool gb,.slice ba bn bc,.int .i64 xb],.int .i64 way] w fun e w'=>e=.returned (.tuple #[.int .i64 0,.bool false])∧Kept w w':=by
 subst hk
 go_enter Tryz.func174,Tryz.ntmps174
 go_wp2
 go_ret2
 exact⟨rfl,(((qo0 w).alloc _ _).alloc _ _).alloc _ _⟩
def FE (n way:Int)(ok:Bool):Int:=if n=64∨n=32 then (if way<0∨2<way then 1 else if ok=true then 0 else 7)else 3
abbrev xV:Value:=.agg #[.int .i64 0,.int .i64 0,.int .i64 0,.int .i64 0,.nilFunc]
theorem XZ (n way:Int)(h1:(n==32)=false)(h2:(n==64)=false)(given:Value)(w:World):Calls Tryz.prog 112 #[.int .i64 n,.int .i64 way,given] w fun e w'=>e=.returned (.tuple #[xV,.int .i64 3])∧Kept w w':=by
 have hK:Kept w (w.alloc zo):=(qo0 w).alloc _ _
 have HR:Hid (∀u,Kept (w.alloc zo) u→(u.cell? ⟨w.heap.size,0,none⟩=some (.int .i64 0)∧u.cell? ⟨w.heap.size,1,none⟩=some (.int .i64 0)∧u.cell? ⟨w.heap.size,2,none⟩=some (.int .i64 0)∧u.cell? ⟨w.heap.size,3,none⟩=some (.int .i64 0)∧u.cell? ⟨w.heap.size,4,none⟩=some .nilFunc)∧∀o,u.frozen? ⟨w.heap.size,o,none⟩=false):=fun u k=>⟨⟨(qh k 0).trans (by simp[go_sem]),(qh k 1).trans (by simp[go_sem]),(qh k 2).trans (by simp[go_sem]),(qh k 3).trans (by simp[go_sem]),(qh k 4).trans (by simp[go_sem])⟩,fun o=>(k.frozen _).trans (by simp[go_sem])⟩
 go_enter Tryz.func112,Tryz.ntmps112
 go_wp2_with ((go_at_call 142;refine(qhj n h1 h2 _).mono ?_;rintro e w1 ⟨rfl,hk1⟩;obtain⟨⟨r0,r1,r2,r3,r4⟩,rf⟩:=HR.out _ (hk1.alloc #[.int .i64 0,.int .i64 0,.int .i64 0,.int .i64 0] 144)))
 exact qoz (v:=.tuple #[xV,.int .i64 3]) (by simp[results,Tryz.results112,go_sem,r0,r1,r2,r3,r4]) rfl ⟨rfl,(hK.trans (hk1.alloc _ _))|>.setCell (by simp) _|>.setCell (by simp) _|>.setCell (by simp) _|>.setCell (by simp) _|>.setCell (by simp) _⟩
theorem JR (n way:Int)(hn:n=64∨n=32)(h1:decide (way<0)=true)(given:Value)(w:World):Calls Tryz.prog 112 #[.int .i64 n,.int .i64 way,given] w fun e w'=>e=.returned (.tuple #[xV,.int .i64 1])∧Kept w w':=by
 have hK:Kept w (w.alloc zo):=(qo0 w).alloc _ _
 have HR:Hid (∀u,Kept (w.alloc zo) u→(u.cell? ⟨w.heap.size,0,none⟩=some (.int .i64 0)∧u.cell? ⟨w.heap.size,1,none⟩=some (.int .i64 0)∧u.cell? ⟨w.heap.size,2,none⟩=some (.int .i64 0)∧u.cell? ⟨w.heap.size,3,none⟩=some (.int .i64 0)∧u.cell? ⟨w.heap.size,4,none⟩=some .nilFunc)∧∀o,u.frozen? ⟨w.heap.size,o,none⟩=false):=fun u k=>⟨⟨(qh k 0).trans (by simp[go_sem]),(qh k 1).trans (by simp[go_sem]),(qh k 2).trans (by simp[go_sem]),(qh k 3).trans (by simp[go_sem]),(qh k 4).trans (by simp[go_sem])⟩,fun o=>(k.frozen _).trans (by simp[go_sem])⟩
 go_enter Tryz.func112,Tryz.ntmps112
 go_wp2_with ((go_at_call 142;refine(jy n hn _).mono ?_;rintro e w1 ⟨rfl,hk1⟩;obtain⟨⟨r0,r1,r2,r3,r4⟩,rf⟩:=HR.out _ (hk1.alloc #[.int .i64 n,.int .i64 (qM n),.int .i64 (qk n),.int .i64 (jg n)] 144)))
 exact qoz (v:=.tuple #[xV,.int .i64 1]) (by simp[results,Tryz.results112,go_sem,r0,r1,r2,r3,r4]) rfl ⟨rfl,(hK.trans (hk1.alloc _ _))|>.setCell (by simp) _|>.setCell (by simp) _|>.setCell (by simp) _|>.setCell (by simp) _|>.setCell (by simp) _⟩
theorem JS (n way:Int)(hn:n=64∨n=32)(h1:decide (way<0)=false)(h2:decide (2<way)=true)(given:Value)(w:World):Calls Tryz.prog 112 #[.int .i64 n,.int .i64 way,given] w fun e w'=>e=.returned (.tuple #[xV,.int .i64 1])∧Kept w w':=by
 have hK:Kept w (w.alloc zo):=(qo0 w).alloc _ _
 have HR:Hid (∀u,Kept (w.alloc zo) u→(u.cell? ⟨w.heap.size,0,none⟩=some (.int .i64 0)∧u.cell? ⟨w.heap.size,1,none⟩=some (.int .i64 0)∧u.cell? ⟨w.heap.size,2,none⟩=some (.int .i64 0)∧u.cell? ⟨w.heap.size,3,none⟩=some (.int .i64 0)∧u.cell? ⟨w.heap.size,4,none⟩=some .nilFunc)∧∀o,u.frozen? ⟨w.heap.size,o,none⟩=false):=fun u k=>⟨⟨(qh k 0).trans (by simp[go_sem]),(qh k 1).trans (by simp[go_sem]),(qh k 2).trans (by simp[go_sem]),(qh k 3).trans (by simp[go_sem]),(qh k 4).trans (by simp[go_sem])⟩,fun o=>(k.frozen _).trans (by simp[go_sem])⟩
 go_enter Tryz.func112,Tryz.ntmps112
 go_wp2_with ((go_at_call 142;refine(jy n hn _).mono ?_;rintro e w1 ⟨rfl,hk1⟩;obtain⟨⟨r0,r1,r2,r3,r4⟩,rf⟩:=HR.out _ (hk1.alloc #[.int .i64 n,.int .i64 (qM n),.int .i64 (qk n),.int .i64 (jg n)] 144)))
 exact qoz (v:=.tuple #[xV,.int .i64 1]) (by simp[results,Tryz.results112,go_sem,r0,r1,r2,r3,r4]) rfl ⟨rfl,(hK.trans (hk1.alloc _ _))|>.setCell (by simp) _|>.setCell (by simp) _|>.setCell (by simp) _|>.setCell (by simp) _|>.setCell (by simp) _⟩
theorem X4 (n way:Int)(hn:n=64∨n=32)(h1:decide (way<0)=false)(h2:decide (2<way)=false)(given:Value)(w:World)(KV:Hid (∀w',Kept w w'→Calls Tryz.prog 137 #[given] w' fun e w''=>e=.returned (.bool false)∧Kept w' w'')):Calls Tryz.prog 112 #[.int .i64 n,.int .i64 way,given] w fun e w'=>e=.returned (.tuple #[xV,.int .i64 7])∧Kept w w':=by
 have hK:Kept w (w.alloc zo):=(qo0 w).alloc _ _
 have HR:Hid (∀u,Kept (w.alloc zo) u→(u.cell? ⟨w.heap.size,0,none⟩=some (.int .i64 0)∧u.cell? ⟨w.heap.size,1,none⟩=some (.int .i64 0)∧u.cell? ⟨w.heap.size,2,none⟩=some (.int .i64 0)∧u.cell? ⟨w.heap.size,3,none⟩=some (.int .i64 0)∧u.cell? ⟨w.heap.size,4,none⟩=some .nilFunc)∧∀o,u.frozen? ⟨w.heap.size,o,none⟩=false):=fun u k=>⟨⟨(qh k 0).trans (by simp[go_sem]),(qh k 1).trans (by simp[go_sem]),(qh k 2).trans (by simp[go_sem]),(qh k 3).trans (by simp[go_sem]),(qh k 4).trans (by simp[go_sem])⟩,fun o=>(k.frozen _).trans (by simp[go_sem])⟩
 go_enter Tryz.func112,Tryz.ntmps112
 go_wp2_with (first|(go_at_call 142;refine(jy n hn _).mono ?_;rintro e w1 ⟨rfl,hk1⟩)|(go_at_call 137;refine(KV.out _ (hK.trans (hk1.alloc _ _))).mono ?_;rintro e w2 ⟨rfl,hk2⟩;obtain⟨⟨r0,r1,r2,r3,r4⟩,rf⟩:=HR.out _ ((hk1.alloc #[.int .i64 n,.int .i64 (qM n),.int .i64 (qk n),.int .i64 (jg n)] 144).trans hk2)))
 exact qoz (v:=.tuple #[xV,.int .i64 7]) (by simp[results,Tryz.results112,go_sem,r0,r1,r2,r3,r4]) rfl ⟨rfl,(hK.trans ((hk1.alloc _ _).trans hk2))|>.setCell (by simp) _|>.setCell (by simp) _|>.setCell (by simp) _|>.setCell (by simp) _|>.setCell (by simp) _⟩
theorem JT (n way:Int)(ok:Bool)(h:FE n way ok≠0)(given:Value)(w:World)(KV:Hid (∀w',Kept w w'→Calls Tryz.prog 137 #[given] w' fun e w''=>e=.returned (.bool ok)∧Kept w' w'')):Calls Tryz.prog 112 #[.int .i64 n,.int .i64 way,given] w fun e w'=>e=.returned (.tuple #[xV,.int .i64 (FE n way ok)])∧Kept w w':=by
 unfold FE at h ⊢
 by_cases hn:n=64∨n=32
 ·rw[if_pos hn]at h ⊢
  by_cases h1:way<0
  ·rw[if_pos (Or.inl h1)]
   exact JR n way hn (qos h1) given w
  ·by_cases h2:2<way
   ·rw[if_pos (Or.inr h2)]
    exact JS n way hn (qot h1) (qos h2) given w
   ·rw[if_neg (by omega)]at h ⊢
    cases ok with
    |true=>exact absurd rfl h
    |false=>exact X4 n way hn (qot h1) (qot h2) given w KV
 ·rw[if_neg hn]
  exact XZ n way (by simp;omega) (by simp;omega) given w
theorem qd4 (n way fe:Int)(hfe:(fe==0)=false)(ng:Bool)(ao:Option Addr)(ln c:Nat)(x:Int)(w:World)(KR:Hid (Calls Tryz.prog 112 #[.int .i64 n,.int .i64 way,.slice (some ⟨w.heap.size+1,0,none⟩) 1 1] ((w.alloc (.cells #[.bool ng,.slice ao ln c,.int .i64 x] 31)).alloc (.cells #[.bool ng,.slice ao ln c,.int .i64 x] 31)) fun e w'=>e=.returned (.tuple #[xV,.int .i64 fe])∧Kept ((w.alloc (.cells #[.bool ng,.slice ao ln c,.int .i64 x] 31)).alloc (.cells #[.bool ng,.slice ao ln c,.int .i64 x] 31)) w')):Calls Tryz.prog 84 #[.agg #[.bool ng,.slice ao ln c,.int .i64 x],.int .i64 n,.int .i64 way] w fun e w'=>e=.returned (.tuple #[.int .i64 0,.bool false,.int .i64 fe])∧Kept w w':=by
 have hK:Kept w ((w.alloc (.cells #[.bool ng,.slice ao ln c,.int .i64 x] 31)).alloc (.cells #[.bool ng,.slice ao ln c,.int .i64 x] 31)):=((qo0 w).alloc _ _).alloc _ _
 go_enter Tryz.func84,Tryz.ntmps84
 go_wp2_with (first|(go_at_call 112;refine KR.out.mono ?_;rintro e w1 ⟨rfl,hk1⟩))
 go_ret3
 exact⟨rfl,hK.trans (hk1.alloc _ _)⟩
theorem av1 (a:Nm)(ra:Rg a.mag)(la:a.mag.length<60000000)(a1:Option Addr)(c1:Nat)(w:World)(h1:Sl w (.slice a1 a.mag.length c1) a.mag):Hid (∀u,Kept ((w.alloc (.cells #[.bool a.neg,.slice a1 a.mag.length c1,.int .i64 a.exp] 31)).alloc (.cells #[.bool a.neg,.slice a1 a.mag.length c1,.int .i64 a.exp] 31)) u→Calls Tryz.prog 137 #[.slice (some ⟨w.heap.size+1,0,none⟩) 1 1] u fun e w'=>e=.returned (.bool (vld a))∧Kept u w'):=fun u k=>by
 have hK:Kept w ((w.alloc (.cells #[.bool a.neg,.slice a1 a.mag.length c1,.int .i64 a.exp] 31)).alloc (.cells #[.bool a.neg,.slice a1 a.mag.length c1,.int .i64 a.exp] 31)):=((qo0 w).alloc _ _).alloc _ _
 have hb:w.heap.size+1<((w.alloc (.cells #[.bool a.neg,.slice a1 a.mag.length c1,.int .i64 a.exp] 31)).alloc (.cells #[.bool a.neg,.slice a1 a.mag.length c1,.int .i64 a.exp] 31)).heap.size:=by simp
 exact(QS (w.heap.size+1) (qok hb k.below.size) a.neg a.mag ra (by omega) a1 c1 a.exp (h1.kept (hK.trans k)) ((k.below.cell (p:=⟨w.heap.size+1,0,none⟩) hb).trans (by simp[go_sem])) ((k.below.cell (p:=⟨w.heap.size+1,1,none⟩) hb).trans (by simp[go_sem])) ((k.below.cell (p:=⟨w.heap.size+1,2,none⟩) hb).trans (by simp[go_sem])) (vld a) rfl).out u (qo0 _)
theorem av2 (a b:Nm)(ra:Rg a.mag)(rb:Rg b.mag)(la:a.mag.length<60000000)(lb:b.mag.length<60000000)(a1 a2:Option Addr)(c1 c2:Nat)(w:World)(h1:Sl w (.slice a1 a.mag.length c1) a.mag)(h2:Sl w (.slice a2 b.mag.length c2) b.mag):Hid (∀u,Kept (((w.alloc (.cells #[.bool a.neg,.slice a1 a.mag.length c1,.int .i64 a.exp] 31)).alloc (.cells #[.bool b.neg,.slice a2 b.mag.length c2,.int .i64 b.exp] 31)).alloc (.cells (jT a.neg (.slice a1 a.mag.length c1) a.exp b.neg (.slice a2 b.mag.length c2) b.exp) 31)) u→Calls Tryz.prog 137 #[.slice (some ⟨w.heap.size+2,0,none⟩) 2 2] u fun e w'=>e=.returned (.bool (vld a&&vld b))∧Kept u w'):=fun u k=>by
 have hK:Kept w (((w.alloc (.cells #[.bool a.neg,.slice a1 a.mag.length c1,.int .i64 a.exp] 31)).alloc (.cells #[.bool b.neg,.slice a2 b.mag.length c2,.int .i64 b.exp] 31)).alloc (.cells (jT a.neg (.slice a1 a.mag.length c1) a.exp b.neg (.slice a2 b.mag.length c2) b.exp) 31)):=(((qo0 w).alloc _ _).alloc _ _).alloc _ _
 have hb':w.heap.size+2<(((w.alloc (.cells #[.bool a.neg,.slice a1 a.mag.length c1,.int .i64 a.exp] 31)).alloc (.cells #[.bool b.neg,.slice a2 b.mag.length c2,.int .i64 b.exp] 31)).alloc (.cells (jT a.neg (.slice a1 a.mag.length c1) a.exp b.neg (.slice a2 b.mag.length c2) b.exp) 31)).heap.size:=by simp
 exact kA u (w.heap.size+2) 2 a.neg b.neg a1 a2 a.mag.length c1 b.mag.length c2 a.exp b.exp (vld a) (vld b) (qok hb' k.below.size) ((k.below.cell (p:=⟨w.heap.size+2,0,none⟩) hb').trans (by simp[go_sem])) ((k.below.cell (p:=⟨w.heap.size+2,1,none⟩) hb').trans (by simp[go_sem])) ((k.below.cell (p:=⟨w.heap.size+2,2,none⟩) hb').trans (by simp[go_sem])) ((k.below.cell (p:=⟨w.heap.size+2,3,none⟩) hb').trans (by simp[go_sem])) ((k.below.cell (p:=⟨w.heap.size+2,4,none⟩) hb').trans (by simp[go_sem])) ((k.below.cell (p:=⟨w.heap.size+2,5,none⟩) hb').trans (by simp[go_sem])) (fun v kv=>jc a ra (by omega) (.agg #[.bool a.neg,.slice a1 a.mag.length c1,.int .i64 a.exp]) v ⟨_,rfl,((h1.kept hK).kept k).kept kv⟩) (fun v kv=>jc b rb (by omega) (.agg #[.bool b.neg,.slice a2 b.mag.length c2,.int .i64 b.exp]) v ⟨_,rfl,((h2.kept hK).kept k).kept kv⟩)
theorem qnj {n way:Int}{ok:Bool}(h:FE n way ok=0):(n=64∨n=32)∧(way=0∨way=1∨way=2)∧ok=true:=by
 unfold FE at h
 split at h
 ·rename_i hn
  split at h
  ·exact absurd h (by decide)
  ·split at h
   ·rename_i h2 h3
    exact⟨hn,by omega,h3⟩
   ·exact absurd h (by decide)
 ·exact absurd h (by decide)
theorem qd5 (n way:Int)(a:Nm)(ra:Rg a.mag)(la:a.mag.length<60000000)(a1:Option Addr)(c1:Nat)(w:World)(hT:Tab w)(h1:Sl w (.slice a1 a.mag.length c1) a.mag)(q:Int)(o:Bool)(fe:Int)(hfe:fe=FE n way (vld a))(hno:fe≠0→q=0∧o=false)(hok:fe=0→q=rzN n way a∧o=oxN n way a):Calls Tryz.prog 84 #[.agg #[.bool a.neg,.slice a1 a.mag.length c1,.int .i64 a.exp],.int .i64 n,.int .i64 way] w fun e w'=>e=.returned (.tuple #[.int .i64 q,.bool o,.int .i64 fe])∧Kept w w':=by
 by_cases h0:fe=0
 ·obtain⟨rfl,rfl⟩:=hok h0
  obtain⟨hn,hw,hv⟩:=qnj (hfe.symm.trans h0)
  rw[h0]
  exact qbr n way hn hw a hv a1 c1 w hT h1
 ·obtain⟨rfl,rfl⟩:=hno h0
  exact qd4 n way fe (by simpa using h0) a.neg a1 a.mag.length c1 a.exp w (by rw[hfe];exact JT n way (vld a) (by rw[←hfe];exact h0) _ _ (av1 a ra la a1 c1 w h1))
theorem Ye (n way:Int)(hn:n=64∨n=32)(hw:way=0∨way=1∨way=2)(a b:Nm)(ra:Rg a.mag)(rb:Rg b.mag)(la:a.mag.length<60000000)(lb:b.mag.length<60000000)(a1 a2:Option Addr)(c1 c2:Nat)(w:World)(h1:Sl w (.slice a1 a.mag.length c1) a.mag)(h2:Sl w (.slice a2 b.mag.length c2) b.mag)(ha:vld a=true)(hb:vld b=true)(ham:a.mag.length=0)(hbm:b.mag.length≠0):Calls Tryz.prog 92 #[.agg #[.bool a.neg,.slice a1 a.mag.length c1,.int .i64 a.exp],.agg #[.bool b.neg,.slice a2 b.mag.length c2,.int .i64 b.exp],.int .i64 n,.int .i64 way] w fun e w'=>e=.returned (.tuple #[.int .i64 0,.bool false,.int .i64 0])∧Kept w w':=by
 have hv:=av2 a b ra rb la lb a1 a2 c1 c2 w h1 h2
 rw[ha,hb]at hv
 have KG:∀u,Kept w u→_:=fun u _=>ZP b.neg a2 b.mag.length c2 b.exp u
 rw[if_neg hbm]at KG
 have hsg:((if b.neg=true then (-1:Int)else 1)==0)=false:=by cases b.neg<;>rfl
 have KQ:∀u,Kept w u→_:=fun u _=>Vw a.neg a1 c1 a.exp b.neg a2 b.mag.length c2 b.exp u
 rw[←ham]at KQ
 have KR:=xX n way hn hw _ _ hv
 exact ql1 way _ n _ _ _ a.neg b.neg a1 a2 a.mag.length c1 b.mag.length c2 a.exp b.exp _ _ _ hsg _ _ _ _ w KR KG KQ (fun u _=>Z8 n _ _ _ _ 0 false false u)
def knd (n:Int):Value:=if n=64 then .agg #[.int .i64 64,.int .i64 53,.int .i64 4503599627370496,.int .i64 2047,.int .i64 (-1074),.int .i64 1024,.int .i64 9218868437227405312,.int .i64 (-9223372036854775808),.int .i64 9221120237041090561]else .agg #[.int .i64 32,.int .i64 24,.int .i64 8388608,.int .i64 255,.int .i64 (-149),.int .i64 128,.int .i64 2139095040,.int .i64 2147483648,.int .i64 2143289345]
theorem qat (n:Int)(hn:n=64∨n=32)(w:World):Calls Tryz.prog 86 #[.int .i64 n] w fun e w'=>e=.returned (.tuple #[knd n,.bool true])∧Kept w w':=by
 rcases hn with rfl|rfl
 ·exact vW w
 ·exact vX w
theorem qme (n:Int)(hn:n=64∨n=32):∃k0 p k2 k3 k4 k5 k6 k7 k8:Int,knd n=.agg #[.int .i64 k0,.int .i64 p,.int .i64 k2,.int .i64 k3,.int .i64 k4,.int .i64 k5,.int .i64 k6,.int .i64 k7,.int .i64 k8]:=by
 rcases hn with rfl|rfl
 ·exact⟨_,_,_,_,_,_,_,_,_,rfl⟩
 ·exact⟨_,_,_,_,_,_,_,_,_,rfl⟩
theorem qf3 (n way:Int)(hn:n=64∨n=32)(n1 n2:Bool)(a1 a2:Option Addr)(l1 c1 l2 c2:Nat)(x1 x2 b:Int)(od:Bool)(w:World)(KT:Hid (∀u,Kept w u→Calls Tryz.prog 174 #[knd n,.agg #[.bool n1,.slice a1 l1 c1,.int .i64 x1],.agg #[.bool n2,.slice a2 l2 c2,.int .i64 x2],.int .i64 way] u fun e w'=>e=.returned (.tuple #[.int .i64 b,.bool od])∧Kept u w')):Calls Tryz.prog 155 #[.agg #[.bool n1,.slice a1 l1 c1,.int .i64 x1],.agg #[.bool n2,.slice a2 l2 c2,.int .i64 x2],.int .i64 n,.int .i64 way] w fun e w'=>e=.returned (.tuple #[.int .i64 b,.bool od])∧Kept w w':=by
 obtain⟨k0,p,k2,k3,k4,k5,k6,k7,k8,hk⟩:=qme n hn
 have KO:Hid (∀u,Calls Tryz.prog 86 #[.int .i64 n] u fun e w'=>e=.returned (.tuple #[.agg #[.int .i64 k0,.int .i64 p,.int .i64 k2,.int .i64 k3,.int .i64 k4,.int .i64 k5,.int .i64 k6,.int .i64 k7,.int .i64 k8],.bool true])∧Kept u w'):=fun u=>by
  have:=qat n hn u
  rw[hk]at this
  exact this
 rw[hk]at KT
 obtain⟨X,hX⟩:∃X,X=(w.alloc (.cells #[.bool n1,.slice a1 l1 c1,.int .i64 x1] 31)).alloc (.cells #[.bool n2,.slice a2 l2 c2,.int .i64 x2] 31):=⟨_,rfl⟩
 have hK:Kept w X:=by rw[hX];exact((qo0 w).alloc _ _).alloc _ _
 have HQ:Hid (∀u,Kept X u→(u.cell? ⟨w.heap.size,0,none⟩=some (.bool n1)∧u.cell? ⟨w.heap.size,1,none⟩=some (.slice a1 l1 c1)∧u.cell? ⟨w.heap.size,2,none⟩=some (.int .i64 x1))∧u.cell? ⟨w.heap.size+1,0,none⟩=some (.bool n2)∧u.cell? ⟨w.heap.size+1,1,none⟩=some (.slice a2 l2 c2)∧u.cell? ⟨w.heap.size+1,2,none⟩=some (.int .i64 x2)):=fun u k=>by
  have hb0:w.heap.size<X.heap.size:=by rw[hX];simp[go_sem]
  have hb1:w.heap.size+1<X.heap.size:=by rw[hX];simp
  refine⟨⟨(k.below.cell (p:=⟨w.heap.size,0,none⟩) hb0).trans ?_,(k.below.cell (p:=⟨w.heap.size,1,none⟩) hb0).trans ?_,(k.below.cell (p:=⟨w.heap.size,2,none⟩) hb0).trans ?_⟩,(k.below.cell (p:=⟨w.heap.size+1,0,none⟩) hb1).trans ?_,(k.below.cell (p:=⟨w.heap.size+1,1,none⟩) hb1).trans ?_,(k.below.cell (p:=⟨w.heap.size+1,2,none⟩) hb1).trans ?_⟩
  all_goals
   rw[hX]
   simp[go_sem]
 go_enter Tryz.func155,Tryz.ntmps155
 go_upto_region 1 with fail
 rw[←hX]
 clear hX
 go_wp2_with fail
 refine(KO.out _).mono ?_
 rintro e w1 ⟨rfl,hk1⟩
 have hk2:=hk1.alloc #[.int .i64 k0,.int .i64 p,.int .i64 k2,.int .i64 k3,.int .i64 k4,.int .i64 k5,.int .i64 k6,.int .i64 k7,.int .i64 k8] 116
 obtain⟨⟨q0,q1,q2⟩,q3,q4,q5⟩:=HQ.out _ hk2
 go_wp2_with fail
 refine(KT.out _ (hK.trans hk2)).mono ?_
 rintro e w2 ⟨rfl,hk3⟩
 go_wp2_with fail
 go_ret2
 exact⟨rfl,hK.trans (hk2.trans hk3)⟩
theorem qau (ng:Bool)(M:Nat)(hM:M≤9218868437227405312):(if (if ng=true then (-9223372036854775808:Int)else 0)+(M:Int)=-9223372036854775808 then 0 else (if ng=true then (-9223372036854775808:Int)else 0)+(M:Int))=pz 64 (kyz ng M):=by
 unfold pz kyz
 cases ng
 ·simp only[Bool.false_eq_true,if_false,if_true]
  (repeat' split)<;>first|omega|(exfalso;simp_all;done)
 ·simp only[if_true]
  (repeat' split)<;>first|omega|(exfalso;simp_all;done)
theorem qav (ng:Bool)(M:Nat)(hM:M≤2139095040):(if (if ng=true then (2147483648:Int)else 0)+(M:Int)=2147483648 then 0 else (if ng=true then (2147483648:Int)else 0)+(M:Int))=pz 32 (kyz ng M):=by
 unfold pz kyz
 cases ng
 ·simp only[Bool.false_eq_true,if_false,if_true]
  (repeat' split)<;>first|omega|(exfalso;simp_all;done)
 ·simp only[if_true]
  (repeat' split)<;>first|omega|(exfalso;simp_all;done)
theorem qf4 (A s z:Nat)(h:s≤30*z):(digs (A*2^s)).length≤(digs A).length+z:=by
 have h1:=qS A _ (qoo (digs A).length)
 have h2:2^s≤2^(30*z):=qom (by omega) h
 have h3:A*2^s<2^(30*((digs A).length+z)):=by
  rw[Nat.mul_add,qol]
  exact Nat.mul_lt_mul_of_lt_of_le h1 h2 (qoj _)
 exact qC _ _ h3
theorem Yf (r:Nm)(hv:vld r=true)(hne:r.mag≠[]):bl (nv r.mag)≤60000:=by
 obtain⟨hd,h0,hl,hx1,hx2⟩:=kQ r hv hne
 have:=zg (nv r.mag) (30*(digs (nv r.mag)).length) (qS (nv r.mag) _ (qoo _))
 rw[hd]at this
 omega
theorem qn7 (n:Int)(hn:n=64∨n=32):qM n≤53∧24≤qM n∧-1074≤qk n∧qk n≤-149:=by
 rcases hn with rfl|rfl<;>decide
end Go.Proofs.YtaglkncdedeipaaGreatDoor
namespace Go.Proofs.YtaglkncdedeipaaGreatDoor
open Go.ChangeShapes Go.WideShapes Go.ChangeAt Go.RowKit Ieee
set_option linter.unusedVariables false
set_option linter.unusedSimpArgs false
set_option maxHeartbeats 16000000
set_option maxRecDepth 100000
theorem qoe (f:Format)(hb:f.binade≤f.infRung)(x y:Nat)(hx:qo f x=f.infRung)(hy:qo f y<f.infRung):f.div x y=some (f.word (below f x^^below f y) f.infRung):=by
 obtain⟨m,i,ey,-⟩:=zY f y hy
 unfold Format.div
 rw[jQ f x hx hb,ey]
 rfl
theorem qle {n:Int}{x y:Nat}{k j:Int}(hx:Fl n x k)(hy:Fl n y j)(hk:k=(ifn n:Int)∨k=-(ifn n:Int))(hj:-(ifn n:Int)<j∧j<(ifn n:Int))(hj0:j≠0):FloatKind.f64.format.div x y=some (FloatKind.f64.format.word (decide (k<0)^^decide (j<0)) FloatKind.f64.format.infRung):=by
 obtain⟨p1,p2,p3⟩:=hx.parts
 obtain⟨q1,q2,q3⟩:=hy.parts
 have hle:=hy.le
 have hpos:=jw n
 have hy2:qo FloatKind.f64.format y<FloatKind.f64.format.infRung:=by
  have:qo FloatKind.f64.format y≠FloatKind.f64.format.infRung:=fun e=>by have:=q2.1 e;omega
  omega
 rw[qoe FloatKind.f64.format Ze x y (p2.2 hk) hy2,p3 (by omega),q3 hj0]
theorem vf (n way:Int)(x y z:Nat)(s1 s2:Bool)(w:World)
  (KI:Hid (∀u v s,(v=x∧s=s1∨v=y∧s=s2)→Calls Tryz.prog 81 #[.float .f64 v,.int .i64 0] u fun e w'=>e=.returned (.bool s)∧u=w'))
  (hz:s2=true→z=0) (hm:s2=false→s1=true→FloatKind.f64.format.div x y=some z)
  (a b:Nm) (rz:Int) (ox:Bool)
  (KX:Hid (s2=false→s1=false→∀u v c,(v=x∧c=a∨v=y∧c=b)→Kept w u→Calls Tryz.prog 83 #[.float .f64 v] u fun e w'=>∃v,e=.returned v∧New u w' v c∧Kept u w'))
  (KQ:Hid (s2=false→s1=false→∀u a1 c1 a2 c2,Kept w u→Sl u (.slice a1 a.mag.length c1) a.mag→Sl u (.slice a2 b.mag.length c2) b.mag→Calls Tryz.prog 92 #[.agg #[.bool a.neg,.slice a1 a.mag.length c1,.int .i64 a.exp],.agg #[.bool b.neg,.slice a2 b.mag.length c2,.int .i64 b.exp],.int .i64 n,.int .i64 way] u fun e w'=>e=.returned (.tuple #[.int .i64 rz,.bool ox,.int .i64 0])∧Kept u w'))
  (KF:Hid (s2=false→s1=false→∀u,Calls Tryz.prog 85 #[.int .i64 rz,.int .i64 n] u fun e w'=>e=.returned (.float .f64 z)∧Kept u w')):
  Calls Tryz.prog 57 #[.float .f64 x,.float .f64 y,.int .i64 n,.int .i64 way] w fun e w'=>e=.returned (.float .f64 z)∧Kept w w':=by
 cases s2
 ·cases s1
  ·have KX':=KX.out rfl rfl
   have KX2:Hid (∀u v c,(v=x∧c=a∨v=y∧c=b)→Kept w u→Calls Tryz.prog 83 #[.float .f64 v] u fun e w'=>∃v,e=.returned v∧New u w' v c∧Kept u w'):=KX.out rfl rfl
   have KQ2:Hid (∀u a1 c1 a2 c2,Kept w u→Sl u (.slice a1 a.mag.length c1) a.mag→Sl u (.slice a2 b.mag.length c2) b.mag→Calls Tryz.prog 92 #[.agg #[.bool a.neg,.slice a1 a.mag.length c1,.int .i64 a.exp],.agg #[.bool b.neg,.slice a2 b.mag.length c2,.int .i64 b.exp],.int .i64 n,.int .i64 way] u fun e w'=>e=.returned (.tuple #[.int .i64 rz,.bool ox,.int .i64 0])∧Kept u w'):=KQ.out rfl rfl
   have KF2:Hid (∀u,Calls Tryz.prog 85 #[.int .i64 rz,.int .i64 n] u fun e w'=>e=.returned (.float .f64 z)∧Kept u w'):=KF.out rfl rfl
   clear KX KQ KF hz hm
   go_enter Tryz.func57,Tryz.ntmps57
   go_upto_region 5 with (first|(go_at_call 81;refine(KI.out _ _ _ (by first|exact .inl ⟨rfl,rfl⟩|exact .inr ⟨rfl,rfl⟩)).mono ?_;rintro e w1 ⟨rfl,rfl⟩))
   go_wp2_with fail
   refine(KX2.out _ _ _ (.inl ⟨rfl,rfl⟩) (qo0 _)).mono ?_
   rintro e w1 ⟨v,rfl,hN1,k1⟩
   obtain⟨vn,va,vl,vc,vx,rfl⟩:=hN1.shape
   obtain⟨rfl,rfl,rfl,hs1⟩:=jD hN1
   have HS1:Hid (Sl w1 (.slice va a.mag.length vc) a.mag):=hs1
   clear hN1 hs1
   go_wp2_with fail
   refine(KX2.out _ _ _ (.inr ⟨rfl,rfl⟩) k1).mono ?_
   rintro e w2 ⟨v,rfl,hN2,k2⟩
   obtain⟨vn,vb,vl,vd,vx,rfl⟩:=hN2.shape
   obtain⟨rfl,rfl,rfl,hs2⟩:=jD hN2
   have HS2:Hid (Sl w2 (.slice vb b.mag.length vd) b.mag):=hs2
   clear hN2 hs2
   go_wp2_with fail
   refine(KQ2.out _ _ _ _ _ (k1.trans k2) (HS1.out.kept k2) HS2.out).mono ?_
   rintro e w3 ⟨rfl,k3⟩
   have j3:=(k1.trans k2).trans k3
   clear KX2 KQ2 KI HS1 HS2
   go_wp2_with (first|(go_at_call 85;refine(KF2.out _).mono ?_;rintro e w5 ⟨rfl,k5⟩))
   go_ret
   exact⟨rfl,j3.trans k5⟩
  ·have hd:=hm rfl rfl
   have hx:∀wx:World,(binOp .quo 66 (.float .f64 x) (.float .f64 y)).run Tryz.prog wx=.ok (.float .f64 z) wx:=fun wx=>run_float_arith wx .quo 66 .f64 x y z hd
   clear hd hm hz KX KQ KF
   go_enter Tryz.func57,Tryz.ntmps57
   go_wp2_with (first|(go_at_call 81;refine(KI.out _ _ _ (by first|exact .inl ⟨rfl,rfl⟩|exact .inr ⟨rfl,rfl⟩)).mono ?_;rintro e w1 ⟨rfl,rfl⟩))
   go_ret
   exact⟨rfl,qo0 _⟩
 ·have hz0:=hz rfl
  subst hz0
  clear hm hz KX KQ KF
  go_enter Tryz.func57,Tryz.ntmps57
  go_wp2_with (first|(go_at_call 81;refine(KI.out _ _ _ (.inr ⟨rfl,rfl⟩)).mono ?_;rintro e w1 ⟨rfl,rfl⟩))
  go_ret
  exact⟨rfl,qo0 _⟩
def qZ (n k1 k2:Int):Int:=if k2<0 then -kvz n (-2600) k1 else kvz n (-2600) k1
def qW (n k2:Int):Int:=if k2<0 then -kvz n (-1300) k2 else kvz n (-1300) k2
structure Qd (n Z U d:Int):Prop where
 low:-(ifn n:Int)≤d
 high:d<(ifn n:Int)
 fin:-(ifn n:Int)<d→kvz n (-1300) d*U≤Z
 nxt:d+1<(ifn n:Int)→Z<kvz n (-1300) (d+1)*U
def Qrk (n way k1 k2 K:Int):Prop:=
 ((k2=(ifn n:Int)∨k2=-(ifn n:Int))∧K=0)∨
 ((-(ifn n:Int)<k2∧k2<(ifn n:Int))∧(k1=(ifn n:Int)∨k1=-(ifn n:Int))∧K=(if (decide (k1<0)^^decide (k2<0))=true then -(ifn n:Int)else (ifn n:Int)))∨
 ((-(ifn n:Int)<k2∧k2<(ifn n:Int))∧(-(ifn n:Int)<k1∧k1<(ifn n:Int))∧(way=1→Qd n (qZ n k1 k2) (qW n k2) K)∧(way=2→Qd n (-qZ n k1 k2) (qW n k2) (-K)))
theorem qab (a:Nm)(h:vld a=true)(hne:a.mag≠[]):a.mag.getD (a.mag.length-1) 0≠0:=by
 unfold vld at h
 rw[if_neg hne]at h
 unfold ZR at h
 simp only[Bool.and_eq_true,bne_iff_ne]at h
 exact h.1.1.1.2
theorem jp (n s k:Int)(hn:n=64∨n=32):(0<k↔0<kvz n s k)∧(k<0↔kvz n s k<0)∧(k=0↔kvz n s k=0):=by
 have h0:=yt n s
 rcases Int.lt_trichotomy k 0 with h|h|h
 ·have:=yx n s hn k 0 h
  omega
 ·subst h;omega
 ·have:=yx n s hn 0 k h
  omega
theorem qlf (n:Int)(hn:n=64∨n=32)(way:Int)(hw:way=1∨way=2)(x y:Nat)(k j:Int)(hx:Fl n x k)(hy:Fl n y j)(bk:-(ifn n:Int)<k∧k<(ifn n:Int))(bj:-(ifn n:Int)<j∧j<(ifn n:Int))(hj0:j≠0)(cx:cls (qw x) 64<3)(cy:cls (qw y) 64<3):∃K ox,((way=1→Qd n (qZ n k j) (qW n j) K)∧(way=2→Qd n (-qZ n k j) (qW n j) (-K)))∧(-(ifn n:Int)≤K∧K≤(ifn n:Int))∧∀(a1 a2:Option Addr) (c1 c2:Nat) (w:World),Tab w→Sl w (.slice a1 (ofN (qw x) 64).mag.length c1) (ofN (qw x) 64).mag→Sl w (.slice a2 (ofN (qw y) 64).mag.length c2) (ofN (qw y) 64).mag→Calls Tryz.prog 92 #[.agg #[.bool (ofN (qw x) 64).neg,.slice a1 (ofN (qw x) 64).mag.length c1,.int .i64 (ofN (qw x) 64).exp],.agg #[.bool (ofN (qw y) 64).neg,.slice a2 (ofN (qw y) 64).mag.length c2,.int .i64 (ofN (qw y) 64).exp],.int .i64 n,.int .i64 way] w fun e w'=>e=.returned (.tuple #[.int .i64 (pz n K),.bool ox,.int .i64 0])∧Kept w w':=by
 have hjs:=jp n (-1300) j hn
 have hks:=jp n (-2600) k hn
 obtain⟨ea,la,va⟩:=qdj x cx
 obtain⟨eb,lb,vb⟩:=qdj y cy
 rw[yw hx bk.1 bk.2]at va
 rw[yw hy bj.1 bj.2]at vb
 have hkl:(-1074:Int)≤qk n:=by rcases hn with rfl|rfl<;>decide
 have va2:vz (-2600) (ofN (qw x) 64)=kvz n (-2600) k:=by rw[vP (-2600) (-1074) _ (by decide) la.low,xI n (-2600) (-1074) k (by decide) hkl,va]
 have vb2:vz (-1300) (ofN (qw y) 64)=kvz n (-1300) j:=by rw[vP (-1300) (-1074) _ (by decide) lb.low,xI n (-1300) (-1074) j (by decide) hkl,vb]
 obtain⟨okA,rgA,lnA⟩:=vA (qw x) 64 (.inl rfl) cx
 obtain⟨okB,rgB,lnB⟩:=vA (qw y) 64 (.inl rfl) cy
 have QI:∀p:Int,cls p 64<3→(ofN p 64).mag≠[]→bl (nv (ofN p 64).mag)≤53∧(ofN p 64).mag.length≤2:=fun p hc hne=>by
  obtain⟨q1,q2,q3,q4⟩:=vD p hc
  have hz:qI p 64≠0:=fun h=>hne (by rw[(vN p 64 h).2])
  have e:=(VK p 64 (.inl rfl) hc hz).2
  have hb53:=(Jf p 64 (.inl rfl) hc).2
  obtain⟨v,hv⟩:∃v,v=(qI p 64).toNat:=⟨_,rfl⟩
  rw[←hv]at e hb53
  have hnv:nv (ofN p 64).mag=v/2^tzn v:=by rw[e];exact qQ _
  have hle:v/2^tzn v≤v:=Nat.div_le_self _ _
  have hbl:bl (nv (ofN p 64).mag)≤53:=by
   rw[hnv]
   exact zg _ _ (Nat.lt_of_le_of_lt hle (qok (Z0 v) (qom (by decide) hb53)))
  refine⟨hbl,?_⟩
  obtain⟨-,hD⟩:=ya _ _ _ (vA p 64 (.inl rfl) hc).1
  have hlast:=qab _ (vA p 64 (.inl rfl) hc).1 hne
  have:=(VR (ofN p 64).mag hD hne hlast).1
  omega
 have bitsA:=QI (qw x) cx
 have bitsB:=QI (qw y) cy
 clear QI
 generalize ofN (qw x) 64=a at *
 generalize ofN (qw y) 64=b at *
 have sgA:=jb (-2600) a okA
 have sgB:=jb (-1300) b okB
 rw[va2]at sgA
 rw[vb2]at sgB
 have hbm:b.mag≠[]:=fun h=>by
  have:=(sgB.2.2 h).2
  omega
 have hbn:b.neg=decide (j<0):=by
  cases hb:b.neg
  ·have:=sgB.2.1 hb
   symm;rw[decide_eq_false_iff_not];omega
  ·have:=sgB.1 hb
   symm;rw[qor];omega
 have hUa:qW n j=((nv b.mag*2^(b.exp- -1300).toNat:Nat):Int):=by
  rw[←jo (-1300) b,vb2]
  unfold qW
  split<;>omega
 have hUp:0<nv b.mag*2^(b.exp- -1300).toNat:=by
  have:0<qW n j:=by unfold qW;split<;>omega
  omega
 have hpos:=jw n
 by_cases hk:k=0
 ·have ham:a.mag=[]:=by
   apply Classical.not_not.1
   intro hne
   have:=Jp (-2600) a.neg a.mag a.exp hne okA
   have h2:=jo (-2600) a
   rw[va2]at h2
   have:=hks.2.2.1 hk
   omega
  have hz0:qZ n k j=0:=by
   unfold qZ
   rw[hks.2.2.1 hk]
   simp
  have q0:Qd n 0 (qW n j) 0:=by
   refine⟨by omega,by omega,fun _=>?_,fun _=>?_⟩
   ·rw[yt];simp
   ·have h1:=(jp n (-1300) (0+1) hn).1.1 (by decide)
    rw[hUa]
    exact Int.mul_pos h1 (by omega)
  refine⟨0,false,⟨fun _=>by rw[hz0];exact q0,fun _=>by rw[hz0];exact q0⟩,by omega,fun a1 a2 c1 c2 w hT h1 h2=>?_⟩
  have hp0:pz n 0=0:=by rcases hn with rfl|rfl<;>decide
  rw[hp0]
  exact Ye n way hn (by omega) a b rgA rgB (by omega) (by omega) a1 a2 c1 c2 w h1 h2 okA okB (by rw[ham];rfl) (fun h=>hbm (List.length_eq_zero_iff.1 h))
 ·have ham:a.mag≠[]:=fun h=>by
   have:=(sgA.2.2 h).2
   omega
  have han:a.neg=decide (k<0):=by
   cases ha:a.neg
   ·have:=sgA.2.1 ha
    symm;rw[decide_eq_false_iff_not];omega
   ·have:=sgA.1 ha
    symm;rw[qor];omega
  have hA1:=la.low ham
  have hB1:=lb.low hbm
  obtain⟨B53,L2⟩:=bitsB hbm
  obtain⟨A53,LA2⟩:=bitsA ham
  obtain⟨kk,Q,H,F,od,hf,rt,hC,hP⟩:=Xr n hn a b okA okB ham hbm (-1300) (by omega) (by omega) (by omega) (by unfold qex;omega) (by omega)
  have hVe:(2:Int)*-1300=-2600:=by decide
  rw[hVe]at hC
  have hVp:0<nv a.mag*2^(a.exp- -2600).toNat:=by
   have h2:=jo (-2600) a
   rw[va2]at h2
   omega
  have hVa:∀(g:Bool),g=(a.neg != b.neg)→qZ n k j=if g=true then -((nv a.mag*2^(a.exp- -2600).toNat:Nat):Int)else ((nv a.mag*2^(a.exp- -2600).toNat:Nat):Int):=fun g hg=>by
   rw[←jo (-2600) a,va2,hg,han,hbn]
   unfold qZ
   by_cases h1:k<0<;>by_cases h2:j<0<;>simp[h1,h2]<;>omega
  have qd1:=qcv n hn (a.neg != b.neg) _ _ kk Q H F od hf rt hUp hVp hC
  have qd2:=qcv n hn (!(a.neg != b.neg)) _ _ kk Q H F od hf rt hUp hVp hC
  have hm:=(yY 2 (.inr (.inr rfl)) (a.neg != b.neg) (ifn n) F od hf rt).1
  rw[show mir 2=1 by decide]at hm
  rw[hm]at qd2
  have hVg:=hVa _ rfl
  have le1:=Yb 1 (a.neg != b.neg) (ifn n) F od hf rt
  have le2:=Yb 2 (a.neg != b.neg) (ifn n) F od hf rt
  generalize hg:(a.neg != b.neg)=g at *
  have hkn:∀m:Nat,kyz (!g) m=-kyz g m:=fun m=>by cases g<;>simp[kyz]
  rw[hkn]at qd2
  rcases hw with rfl|rfl
  ·refine⟨kyz g (mgz 1 g (ifn n) F od hf rt),odz 1 g (ifn n) F od hf rt,⟨fun _=>?_,fun h=>by cases h⟩,by unfold kyz;split<;>omega,fun a1 a2 c1 c2 w hT h1 h2=>hP 1 (by simp) a1 a2 c1 c2 w hT h1 h2⟩
   rw[hVg,hUa]
   exact⟨qd1.low,qd1.high,fun h=>(qd1.fin h).1,qd1.nxt⟩
  ·refine⟨kyz g (mgz 2 g (ifn n) F od hf rt),odz 2 g (ifn n) F od hf rt,⟨fun h=>(by cases h),fun _=>?_⟩,by unfold kyz;split<;>omega,fun a1 a2 c1 c2 w hT h1 h2=>hP 2 (by simp) a1 a2 c1 c2 w hT h1 h2⟩
   have e:-qZ n k j=if (!g)=true then -((nv a.mag*2^(a.exp- -2600).toNat:Nat):Int)else ((nv a.mag*2^(a.exp- -2600).toNat:Nat):Int):=by
    rw[hVg]
    cases g<;>simp
   rw[e,hUa]
   exact⟨qd2.low,qd2.high,fun h=>(qd2.fin h).1,qd2.nxt⟩
theorem jf (n way:Int)(hn:n=64∨n=32)(hw:way=1∨way=2)(x y:Nat)(k j:Int)(hx:Fl n x k)(hy:Fl n y j)(hj0:j≠0):∃z K,Qrk n way k j K∧Fl n z K∧∀w,Tab w→Calls Tryz.prog 57 #[.float .f64 x,.float .f64 y,.int .i64 n,.int .i64 way] w fun e w'=>e=.returned (.float .f64 z)∧Kept w w':=by
 have rx:=hx.rng
 have ry:=hy.rng
 have hpos:=jw n
 have KI:Hid (∀u v s,(v=x∧s=decide (k=(ifn n:Int)∨k=-(ifn n:Int))∨v=y∧s=decide (j=(ifn n:Int)∨j=-(ifn n:Int)))→Calls Tryz.prog 81 #[.float .f64 v,.int .i64 0] u fun e w'=>e=.returned (.bool s)∧u=w'):=fun u v s h=>by
  rcases h with ⟨rfl,rfl⟩|⟨rfl,rfl⟩
  ·exact jZ hx u
  ·exact jZ hy u
 by_cases hji:j=(ifn n:Int)∨j=-(ifn n:Int)
 ·refine⟨0,0,.inl ⟨hji,rfl⟩,Fl.zero n hn,fun w _=>vf n way x y 0 _ _ w KI (fun _=>rfl) (fun h=>?_) ⟨false,[],0⟩ ⟨false,[],0⟩ 0 false (fun h=>?_) (fun h=>?_) (fun h=>?_)⟩
  all_goals exact absurd hji (of_decide_eq_false h)
 ·have bj:-(ifn n:Int)<j∧j<(ifn n:Int):=by omega
  by_cases hki:k=(ifn n:Int)∨k=-(ifn n:Int)
  ·refine⟨_,_,.inr (.inl ⟨bj,hki,rfl⟩),Fl.infw n hn _,fun w _=>vf n way x y _ _ _ w KI (fun h=>absurd (of_decide_eq_true h) hji) (fun _ _=>qle hx hy hki bj hj0) ⟨false,[],0⟩ ⟨false,[],0⟩ 0 false (fun _ h=>?_) (fun _ h=>?_) (fun _ h=>?_)⟩
   all_goals exact absurd hki (of_decide_eq_false h)
  ·have bk:-(ifn n:Int)<k∧k<(ifn n:Int):=by omega
   obtain⟨q,hq,hK,-⟩:=hx.wide
   obtain⟨p,hp,hJ,-⟩:=hy.wide
   have qr:=hq.rng
   have pr:=hp.rng
   have t1:=hK.top
   have t2:=hK.bot
   have t3:=hJ.top
   have t4:=hJ.bot
   have cx:=(Jw hq (by omega) (by omega)).2.2
   have cy:=(Jw hp (by omega) (by omega)).2.2
   obtain⟨K,ox,hQ,hr,hC⟩:=qlf n hn way hw x y k j hx hy bk bj hj0 cx cy
   have hrb:=yK n K hn hr.1 hr.2
   have hfl:=Fl.flv (JP n K hn hr.1 hr.2) hrb.1 hrb.2
   rw[JQ n K hn hr.1 hr.2]at hfl
   refine⟨flv (pz n K) n,K,.inr (.inr ⟨bj,bk,hQ.1,hQ.2⟩),hfl,fun w hT=>vf n way x y _ _ _ w KI (fun h=>absurd (of_decide_eq_true h) hji) (fun _ h=>absurd (of_decide_eq_true h) hki) (ofN (qw x) 64) (ofN (qw y) 64) (pz n K) ox (fun _ _ u v c h k=>?_) (fun _ _ u a1 c1 a2 c2 k h1 h2=>hC a1 a2 c1 c2 u (hT.kept k) h1 h2) (fun _ _ u=>jC _ n hrb.1 hrb.2 u)⟩
   rcases h with ⟨rfl,rfl⟩|⟨rfl,rfl⟩
   ·exact xS _ q hq cx u (hT.kept k)
   ·exact xS _ p hp cy u (hT.kept k)
end Go.Proofs.YtaglkncdedeipaaGreatDoor
