/-  -/
import Derived.Test.YtnniljhdcplkgaaGreatDoorWs25
import Derived.Test.YtnniljhdcplkgaaGreatDoorWs15
import Derived.Test.YtnniljhdcplkgaaGreatDoorWs30
import Derived.Test.YtnniljhdcplkgaaGreatDoorWs35
import Derived.Test.YtnniljhdcplkgaaGreatDoorWs24
namespace Go.Proofs.YtnniljhdcplkgaaGreatDoor
open Go.ChangeShapes Go.WideShapes Go.ChangeAt Go.RowKit
set_option maxHeartbeats 16000000
set_option maxRecDepth 100000
set_option linter.unusedVariables false
set_option linter.unusedSimpArgs false
theorem len_pos (r:Nat):decide (0<(digs r).length)=decide (r≠0):=by
 apply decide_eq_decide.2
 constructor
 ·intro h h0
  rw[h0,digs_zero]at h
  simp at h
 ·intro h
  have:(digs r).length≠0:=fun g=>h (digs_len0 r g)
  omega
theorem rquot_any (k0 p k2 k3 k4 k5 k6 k7 k8:Int)(hp:0≤p∧p≤64)(A B:Nat)(hA0:A≠0)(hB0:B≠0)(ga gb:Bool)(xa xb:Int)(hxa:-1048576≤xa∧xa≤1048576)(hxb:-1048576≤xb∧xb≤1048576)(va vb:Value)(w:World)(hLa:RL w va (digs A))(hLb:RL w vb (digs B))(la:(digs A).length≤2000)(lb:(digs B).length≤2000)(s:Nat)(hs:(s:Int)=max 0 ((bl B:Int)-(bl A:Int)+p+2)):Calls Tryz.prog 77 #[.agg #[.int .i64 k0,.int .i64 p,.int .i64 k2,.int .i64 k3,.int .i64 k4,.int .i64 k5,.int .i64 k6,.int .i64 k7,.int .i64 k8],.agg #[.bool ga,va,.int .i64 xa],.agg #[.bool gb,vb,.int .i64 xb]] w fun e w'=>∃r1,e=.returned (.tuple #[r1,.int .i64 (xa-xb-s),.bool (decide (A*2^s%B≠0))])∧RL w' r1 (digs (A*2^s/B))∧Kept w w':=by
 have hTa:bl A≤60000:=by
  have:=bl_le A (30*(digs A).length) (digs_lt A _ (Nat.le_refl _))
  omega
 have hTb:bl B≤60000:=by
  have:=bl_le B (30*(digs B).length) (digs_lt B _ (Nat.le_refl _))
  omega
 have hs9:s≤70000:=by omega
 have hAs:(digs (A*2^s)).length<20000:=by
  have h1:=digs_lt A _ (Nat.le_refl (digs A).length)
  obtain⟨z,hz⟩:∃z:Nat,z=3000:=⟨_,rfl⟩
  have h2:2^s≤2^(30*z):=Nat.pow_le_pow_right (by omega) (by omega)
  have h3:A*2^s<2^(30*((digs A).length+z)):=by
   rw[Nat.mul_add,Nat.pow_add]
   exact Nat.mul_lt_mul_of_lt_of_le h1 h2 (Nat.two_pow_pos _)
  have:=digs_length_le _ _ h3
  omega
 have hbs:bl B≤bl (A*2^s):=by rw[bl_mul A s hA0];omega
 have KB:Hid (∀v x Y,RL v x (digs Y)→(digs Y).length≤2000→Calls Tryz.prog 55 #[x] v fun e w'=>e=.returned (.int .i64 (bl Y:Int))∧v=w'):=fun v x Y hx hl=>natBits_any v Y x hx (by omega)
 have KSh:Hid (∀v,Kept w v→Calls Tryz.prog 54 #[va,.int .i64 (s:Int)] v fun e w'=>(∃r,e=.returned r∧RL w' r (digs (A*2^s)))∧Kept v w'):=fun v kv=>by
  refine(natShl_any v A s va (hLa.kept kv) (by omega) (by omega)).mono ?_
  rintro e w' ⟨⟨r,rfl,hr⟩,hk⟩
  exact⟨⟨r,rfl,hr.rl⟩,hk⟩
 have KD:Hid (∀v r,Kept w v→RL v r (digs (A*2^s))→Calls Tryz.prog 56 #[r,vb] v fun e w'=>∃r1 n2 a2 c2,e=.returned (.tuple #[r1,.slice a2 n2 c2])∧RL w' r1 (digs (A*2^s/B))∧(decide (0<n2)=decide (A*2^s%B≠0))∧Kept v w'):=fun v r kv hr=>by
  refine(natDiv_any v _ B r vb hr (hLb.kept kv) hB0 hbs hAs (by omega)).mono ?_
  rintro e w' ⟨r1,r2,rfl,h1,h2,h3⟩
  obtain⟨ao,c,rfl,-⟩:=h2
  exact⟨r1,_,ao,c,rfl,h1,len_pos _,h3⟩
 have HLa:Hid (∀v,Kept w v→RL v va (digs A)):=fun v kv=>hLa.kept kv
 have HLb:Hid (∀v,Kept w v→RL v vb (digs B)):=fun v kv=>hLb.kept kv
 obtain⟨aa,an,ac,rfl⟩:∃sa sn sc,va=.slice sa sn sc:=by
  obtain⟨ao,c,h,-⟩:=hLa
  exact⟨ao,_,c,h⟩
 obtain⟨ba,bn,bc,rfl⟩:∃sa sn sc,vb=.slice sa sn sc:=by
  obtain⟨ao,c,h,-⟩:=hLb
  exact⟨ao,_,c,h⟩
 obtain⟨X,hX⟩:∃X,X=((w.alloc (.cells #[.int .i64 k0,.int .i64 p,.int .i64 k2,.int .i64 k3,.int .i64 k4,.int .i64 k5,.int .i64 k6,.int .i64 k7,.int .i64 k8] 66)).alloc (.cells #[.bool ga,.slice aa an ac,.int .i64 xa] 43)).alloc (.cells #[.bool gb,.slice ba bn bc,.int .i64 xb] 43):=⟨_,rfl⟩
 have hK:Kept w X:=by rw[hX];exact(((Kept.refl w).alloc _ _).alloc _ _).alloc _ _
 have HS:Hid (∀u,Kept X u→Kept X u∧u.cell? ⟨w.heap.size,1,none⟩=some (.int .i64 p)∧u.cell? ⟨w.heap.size+1,0,none⟩=some (.bool ga)∧u.cell? ⟨w.heap.size+1,1,none⟩=some (.slice aa an ac)∧u.cell? ⟨w.heap.size+1,2,none⟩=some (.int .i64 xa)∧u.cell? ⟨w.heap.size+2,0,none⟩=some (.bool gb)∧u.cell? ⟨w.heap.size+2,1,none⟩=some (.slice ba bn bc)∧u.cell? ⟨w.heap.size+2,2,none⟩=some (.int .i64 xb)):=fun u ku=>by
  have hb0:w.heap.size<X.heap.size:=by rw[hX];simp[go_sem]
  have hb1:w.heap.size+1<X.heap.size:=by rw[hX];simp[go_sem]
  have hb2:w.heap.size+2<X.heap.size:=by rw[hX];simp[go_sem]
  refine⟨ku,(ku.below.cell (p:=⟨w.heap.size,1,none⟩) hb0).trans ?_,(ku.below.cell (p:=⟨w.heap.size+1,0,none⟩) hb1).trans ?_,(ku.below.cell (p:=⟨w.heap.size+1,1,none⟩) hb1).trans ?_,(ku.below.cell (p:=⟨w.heap.size+1,2,none⟩) hb1).trans ?_,(ku.below.cell (p:=⟨w.heap.size+2,0,none⟩) hb2).trans ?_,(ku.below.cell (p:=⟨w.heap.size+2,1,none⟩) hb2).trans ?_,(ku.below.cell (p:=⟨w.heap.size+2,2,none⟩) hb2).trans ?_⟩
  all_goals
   rw[hX]
   simp[go_sem]
 have kd:=(Kept.refl X).drew
 have hsm:max 0 ((bl B:Int)-(bl A:Int)+p+2)=(s:Int):=hs.symm
 have q1:IntKind.i64.wrap ((bl B:Int)-(bl A:Int))=(bl B:Int)-(bl A:Int):=by rw[wrap_i64];omega
 have q2:IntKind.i64.wrap ((bl B:Int)-(bl A:Int)+p)=(bl B:Int)-(bl A:Int)+p:=by rw[wrap_i64];omega
 have q3:IntKind.i64.wrap ((bl B:Int)-(bl A:Int)+p+2)=(bl B:Int)-(bl A:Int)+p+2:=by rw[wrap_i64];omega
 have q4:IntKind.i64.wrap (xa-xb)=xa-xb:=by rw[wrap_i64];omega
 have q5:IntKind.i64.wrap (xa-xb-(s:Int))=xa-xb-s:=by rw[wrap_i64];omega
 clear hs hLa hLb hAs hbs hA0 hB0
 go_enter Tryz.func77,Tryz.ntmps77
 go_upto_region 1 with fail
 rw[←hX]
 clear hX
 go_region_held (fun u=>Kept X u∧u.cell? ⟨w.heap.size,1,none⟩=some (.int .i64 p)∧u.cell? ⟨w.heap.size+1,0,none⟩=some (.bool ga)∧u.cell? ⟨w.heap.size+1,1,none⟩=some (.slice aa an ac)∧u.cell? ⟨w.heap.size+1,2,none⟩=some (.int .i64 xa)∧u.cell? ⟨w.heap.size+2,0,none⟩=some (.bool gb)∧u.cell? ⟨w.heap.size+2,1,none⟩=some (.slice ba bn bc)∧u.cell? ⟨w.heap.size+2,2,none⟩=some (.int .i64 xb)) (first|assumption|exact HS.out _ kd|exact HS.out _ (by assumption)) (first|(go_at_call 55;refine(KB.out _ _ _ (by first|exact HLa.out _ (hK.trans (by first|exact kd|assumption))|exact HLb.out _ (hK.trans (by first|exact kd|assumption))) (by first|exact la|exact lb)).mono ?_;rintro e w1 ⟨rfl,rfl⟩))
 clear q1 q2 q3 hsm KB
 replace kd:=kd.drew
 go_upto_region 2 with fail
 go_region_held (fun u=>Kept X u∧u.cell? ⟨w.heap.size,1,none⟩=some (.int .i64 p)∧u.cell? ⟨w.heap.size+1,0,none⟩=some (.bool ga)∧u.cell? ⟨w.heap.size+1,1,none⟩=some (.slice aa an ac)∧u.cell? ⟨w.heap.size+1,2,none⟩=some (.int .i64 xa)∧u.cell? ⟨w.heap.size+2,0,none⟩=some (.bool gb)∧u.cell? ⟨w.heap.size+2,1,none⟩=some (.slice ba bn bc)∧u.cell? ⟨w.heap.size+2,2,none⟩=some (.int .i64 xb)) (first|assumption|exact HS.out _ kd|exact HS.out _ (by assumption)) (first|(go_at_call 54;refine(KSh.out _ (hK.trans (by first|exact kd|assumption))).mono ?_;rintro e w2 ⟨⟨r2,rfl,hr2⟩,k2⟩;replace kd:=kd.trans k2)|(go_at_call 56;refine(KD.out _ _ (hK.trans (by first|exact kd|assumption)) hr2).mono ?_;rintro e w3 ⟨r3,n4,a4,c4,rfl,hr3,hr4,k3⟩;replace kd:=kd.trans k3;replace hr3:=hr3))
 have hr5:=hr3.kept (Kept.refl w3).drew
 replace kd:=kd.drew
 obtain⟨-,-,m0,m1,m2,m3,m4,m5⟩:=HS.out _ kd
 go_upto_region 3 with fail
 go_region
 go_wp2_with fail
 exact bodyPost_ret (v:=.tuple #[r3,.int .i64 (xa-xb-s),.bool (decide (A*2^s%B≠0))]) (by simp[results,Tryz.results77,go_sem]) rfl ⟨r3,rfl,hr5,hK.trans kd⟩
theorem rQuot_any (k0 p k2 k3 k4 k5 k6 k7 k8:Int)(hp:0≤p∧p≤64)(A B:Nat)(hA0:A≠0)(hB0:B≠0)(ga gb:Bool)(xa xb:Int)(hxa:-1048576≤xa∧xa≤1048576)(hxb:-1048576≤xb∧xb≤1048576)(va vb:Value)(w:World)(hLa:RL w va (digs A))(hLb:RL w vb (digs B))(la:(digs A).length≤2000)(lb:(digs B).length≤2000)(s:Nat)(hs:(s:Int)=max 0 ((bl B:Int)-(bl A:Int)+p+2))(way b0 b1:Int)(od:Bool)(HC:Hid (∀v r1,RL v r1 (digs (A*2^s/B))→Calls Tryz.prog 58 #[.agg #[.int .i64 k0,.int .i64 p,.int .i64 k2,.int .i64 k3,.int .i64 k4,.int .i64 k5,.int .i64 k6,.int .i64 k7,.int .i64 k8],.bool (ga != gb),r1,.int .i64 (xa-xb-s),.bool (decide (A*2^s%B≠0)),.int .i64 way] v fun e w'=>e=.returned (.tuple #[.int .i64 b0,.bool od])∧Kept v w'))(HT:Hid (∀v,Calls Tryz.prog 78 #[.agg #[.int .i64 k0,.int .i64 p,.int .i64 k2,.int .i64 k3,.int .i64 k4,.int .i64 k5,.int .i64 k6,.int .i64 k7,.int .i64 k8],.int .i64 b0,.bool od] v fun e w'=>e=.returned (.tuple #[.int .i64 b1,.bool od])∧Kept v w')):Calls Tryz.prog 46 #[.agg #[.int .i64 k0,.int .i64 p,.int .i64 k2,.int .i64 k3,.int .i64 k4,.int .i64 k5,.int .i64 k6,.int .i64 k7,.int .i64 k8],.agg #[.bool ga,va,.int .i64 xa],.agg #[.bool gb,vb,.int .i64 xb],.int .i64 way] w fun e w'=>e=.returned (.tuple #[.int .i64 b1,.bool od])∧Kept w w':=by
 have KQ:Hid (∀v,Kept w v→Calls Tryz.prog 77 #[.agg #[.int .i64 k0,.int .i64 p,.int .i64 k2,.int .i64 k3,.int .i64 k4,.int .i64 k5,.int .i64 k6,.int .i64 k7,.int .i64 k8],.agg #[.bool ga,va,.int .i64 xa],.agg #[.bool gb,vb,.int .i64 xb]] v fun e w'=>∃r1,e=.returned (.tuple #[r1,.int .i64 (xa-xb-s),.bool (decide (A*2^s%B≠0))])∧RL w' r1 (digs (A*2^s/B))∧Kept v w'):=fun v kv=>rquot_any k0 p k2 k3 k4 k5 k6 k7 k8 hp A B hA0 hB0 ga gb xa xb hxa hxb va vb v (hLa.kept kv) (hLb.kept kv) la lb s hs
 generalize A*2^s/B=Q at *
 generalize decide (A*2^s%B≠0)=mo at *
 generalize xa-xb-(s:Int)=ex at *
 have hne:¬(digs A).length=0:=fun h=>hA0 (digs_len0 A h)
 obtain⟨aa,ac,rfl,-⟩:=hLa
 obtain⟨an,han⟩:∃an,(digs A).length=an:=⟨_,rfl⟩
 rw[han]at KQ hne ⊢
 obtain⟨ba,bn,bc,rfl⟩:∃sa sn sc,vb=.slice sa sn sc:=by
  obtain⟨ao,c,h,-⟩:=hLb
  exact⟨ao,_,c,h⟩
 obtain⟨X,hX⟩:∃X,X=((w.alloc (.cells #[.int .i64 k0,.int .i64 p,.int .i64 k2,.int .i64 k3,.int .i64 k4,.int .i64 k5,.int .i64 k6,.int .i64 k7,.int .i64 k8] 66)).alloc (.cells #[.bool ga,.slice aa an ac,.int .i64 xa] 43)).alloc (.cells #[.bool gb,.slice ba bn bc,.int .i64 xb] 43):=⟨_,rfl⟩
 have hK:Kept w X:=by rw[hX];exact(((Kept.refl w).alloc _ _).alloc _ _).alloc _ _
 have HS:Hid (∀u,Kept X u→Kept X u∧u.cell? ⟨w.heap.size,0,none⟩=some (.int .i64 k0)∧u.cell? ⟨w.heap.size,1,none⟩=some (.int .i64 p)∧u.cell? ⟨w.heap.size,2,none⟩=some (.int .i64 k2)∧u.cell? ⟨w.heap.size,3,none⟩=some (.int .i64 k3)∧u.cell? ⟨w.heap.size,4,none⟩=some (.int .i64 k4)∧u.cell? ⟨w.heap.size,5,none⟩=some (.int .i64 k5)∧u.cell? ⟨w.heap.size,6,none⟩=some (.int .i64 k6)∧u.cell? ⟨w.heap.size,7,none⟩=some (.int .i64 k7)∧u.cell? ⟨w.heap.size,8,none⟩=some (.int .i64 k8)∧u.cell? ⟨w.heap.size+1,0,none⟩=some (.bool ga)∧u.cell? ⟨w.heap.size+1,1,none⟩=some (.slice aa an ac)∧u.cell? ⟨w.heap.size+1,2,none⟩=some (.int .i64 xa)∧u.cell? ⟨w.heap.size+2,0,none⟩=some (.bool gb)∧u.cell? ⟨w.heap.size+2,1,none⟩=some (.slice ba bn bc)∧u.cell? ⟨w.heap.size+2,2,none⟩=some (.int .i64 xb)):=fun u ku=>by
  have hb0:w.heap.size<X.heap.size:=by rw[hX];simp[go_sem]
  have hb1:w.heap.size+1<X.heap.size:=by rw[hX];simp[go_sem]
  have hb2:w.heap.size+2<X.heap.size:=by rw[hX];simp[go_sem]
  refine⟨ku,(ku.below.cell (p:=⟨w.heap.size,0,none⟩) hb0).trans ?_,(ku.below.cell (p:=⟨w.heap.size,1,none⟩) hb0).trans ?_,(ku.below.cell (p:=⟨w.heap.size,2,none⟩) hb0).trans ?_,(ku.below.cell (p:=⟨w.heap.size,3,none⟩) hb0).trans ?_,(ku.below.cell (p:=⟨w.heap.size,4,none⟩) hb0).trans ?_,(ku.below.cell (p:=⟨w.heap.size,5,none⟩) hb0).trans ?_,(ku.below.cell (p:=⟨w.heap.size,6,none⟩) hb0).trans ?_,(ku.below.cell (p:=⟨w.heap.size,7,none⟩) hb0).trans ?_,(ku.below.cell (p:=⟨w.heap.size,8,none⟩) hb0).trans ?_,(ku.below.cell (p:=⟨w.heap.size+1,0,none⟩) hb1).trans ?_,(ku.below.cell (p:=⟨w.heap.size+1,1,none⟩) hb1).trans ?_,(ku.below.cell (p:=⟨w.heap.size+1,2,none⟩) hb1).trans ?_,(ku.below.cell (p:=⟨w.heap.size+2,0,none⟩) hb2).trans ?_,(ku.below.cell (p:=⟨w.heap.size+2,1,none⟩) hb2).trans ?_,(ku.below.cell (p:=⟨w.heap.size+2,2,none⟩) hb2).trans ?_⟩
  all_goals
   rw[hX]
   simp[go_sem]
 have kd:=Kept.refl X
 obtain⟨-,x0,x1,x2,x3,x4,x5,x6,x7,x8,y0,y1,y2,z0,z1,z2⟩:=HS.out _ kd
 have he:(((an:Int))==0)=false:=by simpa using hne
 go_enter Tryz.func46,Tryz.ntmps46
 go_upto_region 1 with fail
 rw[←hX]
 clear hX
 go_upto_region 4 with (first|(go_at_call 77;refine(KQ.out _ hK).mono ?_;rintro e w1 ⟨r1,rfl,hr1,kw1⟩;replace kd:=kd.trans kw1))
 replace kd:=kd.drew
 have hr2:=hr1.kept (Kept.refl w1).drew
 clear x0 x1 x2 x3 x4 x5 x6 x7 x8 y0 y1 y2 z0 z1 z2
 go_region_held (fun u=>Kept X u∧u.cell? ⟨w.heap.size,0,none⟩=some (.int .i64 k0)∧u.cell? ⟨w.heap.size,1,none⟩=some (.int .i64 p)∧u.cell? ⟨w.heap.size,2,none⟩=some (.int .i64 k2)∧u.cell? ⟨w.heap.size,3,none⟩=some (.int .i64 k3)∧u.cell? ⟨w.heap.size,4,none⟩=some (.int .i64 k4)∧u.cell? ⟨w.heap.size,5,none⟩=some (.int .i64 k5)∧u.cell? ⟨w.heap.size,6,none⟩=some (.int .i64 k6)∧u.cell? ⟨w.heap.size,7,none⟩=some (.int .i64 k7)∧u.cell? ⟨w.heap.size,8,none⟩=some (.int .i64 k8)∧u.cell? ⟨w.heap.size+1,0,none⟩=some (.bool ga)∧u.cell? ⟨w.heap.size+1,1,none⟩=some (.slice aa an ac)∧u.cell? ⟨w.heap.size+1,2,none⟩=some (.int .i64 xa)∧u.cell? ⟨w.heap.size+2,0,none⟩=some (.bool gb)∧u.cell? ⟨w.heap.size+2,1,none⟩=some (.slice ba bn bc)∧u.cell? ⟨w.heap.size+2,2,none⟩=some (.int .i64 xb)) (first|assumption|exact HS.out _ kd|exact HS.out _ (by assumption)) (first|(go_at_call 58;refine(HC.out _ _ hr2).mono ?_;rintro e w2 ⟨rfl,hk2⟩;replace kd:=kd.trans hk2)|(go_at_call 78;refine(HT.out _).mono ?_;rintro e w3 ⟨rfl,hk3⟩;replace kd:=kd.trans hk3))
 go_wp2_with fail
 go_ret2
 exact⟨rfl,hK.trans kd⟩
theorem rQuot_nil (k:Value)(k0 p k2 k3 k4 k5 k6 k7 k8:Int)(hk:k=.agg #[.int .i64 k0,.int .i64 p,.int .i64 k2,.int .i64 k3,.int .i64 k4,.int .i64 k5,.int .i64 k6,.int .i64 k7,.int .i64 k8])(ga:Bool)(aa:Option Addr)(ac:Nat)(xa:Int)(gb:Bool)(ba:Option Addr)(bn bc:Nat)(xb way:Int)(w:World):Calls Tryz.prog 46 #[k,.agg #[.bool ga,.slice aa 0 ac,.int .i64 xa],.agg #[.bool gb,.slice ba bn bc,.int .i64 xb],.int .i64 way] w fun e w'=>e=.returned (.tuple #[.int .i64 0,.bool false])∧Kept w w':=by
 subst hk
 go_enter Tryz.func46,Tryz.ntmps46
 go_wp2
 go_ret2
 exact⟨rfl,(((Kept.refl w).alloc _ _).alloc _ _).alloc _ _⟩
end Go.Proofs.YtnniljhdcplkgaaGreatDoor

namespace Go.Proofs.YtnniljhdcplkgaaGreatDoor
open Go.ChangeShapes Go.WideShapes Go.ChangeAt Go.RowKit
set_option maxHeartbeats 16000000
set_option maxRecDepth 100000
set_option linter.unusedVariables false
set_option linter.unusedSimpArgs false
end Go.Proofs.YtnniljhdcplkgaaGreatDoor

namespace Go.Proofs.YtnniljhdcplkgaaGreatDoor
open Go.ChangeShapes Go.WideShapes Go.ChangeAt Go.RowKit
set_option maxHeartbeats 16000000
set_option maxRecDepth 100000
set_option linter.unusedVariables false
set_option linter.unusedSimpArgs false
theorem av2 (a b:Nm)(ra:Rg a.mag)(rb:Rg b.mag)(la:a.mag.length<60000000)(lb:b.mag.length<60000000)(a1 a2:Option Addr)(c1 c2:Nat)(w:World)(h1:Sl w (.slice a1 a.mag.length c1) a.mag)(h2:Sl w (.slice a2 b.mag.length c2) b.mag):Hid (∀u,Kept (((w.alloc (.cells #[.bool a.neg,.slice a1 a.mag.length c1,.int .i64 a.exp] 43)).alloc (.cells #[.bool b.neg,.slice a2 b.mag.length c2,.int .i64 b.exp] 43)).alloc (.cells (pairC a.neg (.slice a1 a.mag.length c1) a.exp b.neg (.slice a2 b.mag.length c2) b.exp) 43)) u→Calls Tryz.prog 124 #[.slice (some ⟨w.heap.size+2,0,none⟩) 2 2] u fun e w'=>e=.returned (.bool (vld a&&vld b))∧Kept u w'):=fun u k=>by
 have hK:Kept w (((w.alloc (.cells #[.bool a.neg,.slice a1 a.mag.length c1,.int .i64 a.exp] 43)).alloc (.cells #[.bool b.neg,.slice a2 b.mag.length c2,.int .i64 b.exp] 43)).alloc (.cells (pairC a.neg (.slice a1 a.mag.length c1) a.exp b.neg (.slice a2 b.mag.length c2) b.exp) 43)):=(((Kept.refl w).alloc _ _).alloc _ _).alloc _ _
 have hb':w.heap.size+2<(((w.alloc (.cells #[.bool a.neg,.slice a1 a.mag.length c1,.int .i64 a.exp] 43)).alloc (.cells #[.bool b.neg,.slice a2 b.mag.length c2,.int .i64 b.exp] 43)).alloc (.cells (pairC a.neg (.slice a1 a.mag.length c1) a.exp b.neg (.slice a2 b.mag.length c2) b.exp) 43)).heap.size:=by simp
 exact allValid_2 u (w.heap.size+2) 2 a.neg b.neg a1 a2 a.mag.length c1 b.mag.length c2 a.exp b.exp (vld a) (vld b) (Nat.lt_of_lt_of_le hb' k.below.size) ((k.below.cell (p:=⟨w.heap.size+2,0,none⟩) hb').trans (by simp[go_sem])) ((k.below.cell (p:=⟨w.heap.size+2,1,none⟩) hb').trans (by simp[go_sem])) ((k.below.cell (p:=⟨w.heap.size+2,2,none⟩) hb').trans (by simp[go_sem])) ((k.below.cell (p:=⟨w.heap.size+2,3,none⟩) hb').trans (by simp[go_sem])) ((k.below.cell (p:=⟨w.heap.size+2,4,none⟩) hb').trans (by simp[go_sem])) ((k.below.cell (p:=⟨w.heap.size+2,5,none⟩) hb').trans (by simp[go_sem])) (fun v kv=>xvalid_any a ra (by omega) (.agg #[.bool a.neg,.slice a1 a.mag.length c1,.int .i64 a.exp]) v ⟨_,rfl,((h1.kept hK).kept k).kept kv⟩) (fun v kv=>xvalid_any b rb (by omega) (.agg #[.bool b.neg,.slice a2 b.mag.length c2,.int .i64 b.exp]) v ⟨_,rfl,((h2.kept hK).kept k).kept kv⟩)
theorem quot_nought (n way:Int)(hn:n=64∨n=32)(hw:way=0∨way=1∨way=2)(a b:Nm)(ra:Rg a.mag)(rb:Rg b.mag)(la:a.mag.length<60000000)(lb:b.mag.length<60000000)(a1 a2:Option Addr)(c1 c2:Nat)(w:World)(h1:Sl w (.slice a1 a.mag.length c1) a.mag)(h2:Sl w (.slice a2 b.mag.length c2) b.mag)(ha:vld a=true)(hb:vld b=true)(ham:a.mag.length=0)(hbm:b.mag.length≠0):Calls Tryz.prog 68 #[.agg #[.bool a.neg,.slice a1 a.mag.length c1,.int .i64 a.exp],.agg #[.bool b.neg,.slice a2 b.mag.length c2,.int .i64 b.exp],.int .i64 n,.int .i64 way] w fun e w'=>e=.returned (.tuple #[.int .i64 0,.bool false,.int .i64 0])∧Kept w w':=by
 have hv:=av2 a b ra rb la lb a1 a2 c1 c2 w h1 h2
 rw[ha,hb]at hv
 have KG:∀u,Kept w u→_:=fun u _=>signOf_any b.neg a2 b.mag.length c2 b.exp u
 rw[if_neg hbm]at KG
 have hsg:((if b.neg=true then (-1:Int)else 1)==0)=false:=by cases b.neg<;>rfl
 have KQ:∀u,Kept w u→_:=fun u _=>quotient_nil a.neg a1 c1 a.exp b.neg a2 b.mag.length c2 b.exp u
 rw[←ham]at KQ
 have KR:=roundingOf_ok n way hn hw _ _ hv
 exact xquot way _ n _ _ _ a.neg b.neg a1 a2 a.mag.length c1 b.mag.length c2 a.exp b.exp _ _ _ hsg _ _ _ _ w KR KG KQ (fun u _=>round_zero n _ _ _ _ 0 false false u)
end Go.Proofs.YtnniljhdcplkgaaGreatDoor

namespace Go.Proofs.YtnniljhdcplkgaaGreatDoor
open Go.ChangeShapes Go.WideShapes Go.ChangeAt Go.RowKit
set_option maxHeartbeats 16000000
set_option maxRecDepth 100000
set_option linter.unusedVariables false
set_option linter.unusedSimpArgs false
theorem bl_bound (r:Nm)(hv:vld r=true)(hne:r.mag≠[]):bl (nv r.mag)≤60000:=by
 obtain⟨hd,h0,hl,hx1,hx2⟩:=vld_digs r hv hne
 have:=bl_le (nv r.mag) (30*(digs (nv r.mag)).length) (digs_lt (nv r.mag) _ (Nat.le_refl _))
 rw[hd]at this
 omega
abbrev Cl4 (s:Int):Prop:=-9223372036854775808≤s∧s≤9223372036854775807∧cls s 64<4
theorem pz_cls4 (k:Int)(h1:-(ifn 64:Int)≤k)(h2:k≤(ifn 64:Int)):Cl4 (pz 64 k):=by
 simp only[Cl4,ifn,pz,cls,clsOf,reduceIte]at *
 refine⟨?_,?_,?_⟩<;>(repeat' split)<;>omega
theorem quot_both (n way:Int)(hn:n=64∨n=32)(hw:way=0∨way=1∨way=2)(a b:Nm)(ha:vld a=true)(hb:vld b=true)(ham:a.mag≠[])(hbm:b.mag≠[]):∃(q:Int) (o:Bool),(n=64→Cl4 q)∧(∀(a1 a2:Option Addr) (c1 c2:Nat) (w:World),Tab w→Sl w (.slice a1 a.mag.length c1) a.mag→Sl w (.slice a2 b.mag.length c2) b.mag→Calls Tryz.prog 68 #[.agg #[.bool a.neg,.slice a1 a.mag.length c1,.int .i64 a.exp],.agg #[.bool b.neg,.slice a2 b.mag.length c2,.int .i64 b.exp],.int .i64 n,.int .i64 way] w fun e w'=>e=.returned (.tuple #[.int .i64 q,.bool o,.int .i64 0])∧Kept w w')∧(∀(va vb:Value) (w:World),RL w va a.mag→RL w vb b.mag→Calls Tryz.prog 46 #[knd n,.agg #[.bool a.neg,va,.int .i64 a.exp],.agg #[.bool b.neg,vb,.int .i64 b.exp],.int .i64 way] w fun e w'=>e=.returned (.tuple #[.int .i64 q,.bool o])∧Kept w w'):=by
 obtain⟨da,a0,la,xa1,xa2⟩:=vld_digs a ha ham
 obtain⟨db,b0,lb,xb1,xb2⟩:=vld_digs b hb hbm
 have hTa:=bl_bound a ha ham
 have hTb:=bl_bound b hb hbm
 obtain⟨pm1,pm2,pm3,pm4⟩:=kmax n hn
 obtain⟨sh,hsh⟩:∃sh:Nat,(sh:Int)=max 0 ((bl (nv b.mag):Int)-(bl (nv a.mag):Int)+kprec n+2):=⟨(max 0 ((bl (nv b.mag):Int)-(bl (nv a.mag):Int)+kprec n+2)).toNat,by omega⟩
 obtain⟨k,Q,H,F,od,hf,rt,hC,hP⟩:=quotz_all n hn a b ha hb ham hbm (-5000000) (by omega) (by omega) (by omega) (by unfold qex;omega) (by omega)
 obtain⟨e,he⟩:∃e,e=a.exp-b.exp-sh:=⟨_,rfl⟩
 obtain⟨u,hu⟩:∃u,unz (kprec n).toNat (kleast n) (bl (nv a.mag*2^sh/nv b.mag)) e=u:=⟨_,rfl⟩
 obtain⟨k',hk'⟩:∃k',flo (nv a.mag*2^sh/nv b.mag) (e-u)=k':=⟨_,rfl⟩
 obtain⟨F',hF'⟩:∃F',F'=(u-kleast n).toNat*cbn n+k':=⟨_,rfl⟩
 obtain⟨Q',H',hD⟩:=quot_cutz n hn (nv a.mag) (nv b.mag) a0 b0 a.exp b.exp (-5000000) e sh (by omega) he (by omega) (by omega) (by omega) u hu k' F' hk' hF'
 have hS:=cutz_same hC hD (rv_lt n hn) way hw (a.neg != b.neg) (ifn n)
 refine⟨_,_,?_,fun a1 a2 c1 c2 w hT h1 h2=>hP way hw a1 a2 c1 c2 w hT h1 h2,fun va vb w h1 h2=>?_⟩
 ·intro hn64
  subst hn64
  have:=mgz_le way (a.neg != b.neg) (ifn 64) F od hf rt
  exact pz_cls4 _ (by unfold kyz;split<;>omega) (by unfold kyz;split<;>omega)
 rw[hS.1,hS.2]
 obtain⟨p1,-,-⟩:=kp_toNat n hn
 have hq:=quot_bits (nv a.mag) (nv b.mag) sh (kprec n).toNat a0 b0 (by omega)
 have hq0:nv a.mag*2^sh/nv b.mag≠0:=by
  intro h0
  rw[h0,bl_zero]at hq
  omega
 have hl1:=shl_len2 (nv a.mag) sh 5000 (by omega)
 have hl2:=digs_len_le (nv a.mag*2^sh/nv b.mag) (nv a.mag*2^sh) (Nat.div_le_self _ _)
 rw[←da]at h1 la
 rw[←db]at h2 lb
 have hM:=mgz_le way (a.neg != b.neg) (ifn n) F' (decide (k'%2=1)) (decide (flo (nv a.mag*2^sh/nv b.mag) (e-u+1)%2=1)) (decide (nv a.mag*2^sh%nv b.mag≠0)||rst (nv a.mag*2^sh/nv b.mag) (e-u+1))
 rcases hn with rfl|rfl
 ·refine rQuot_any 64 53 4503599627370496 2047 (-1074) 1024 9218868437227405312 (-9223372036854775808) 9221120237041090561 (by decide) (nv a.mag) (nv b.mag) a0 b0 a.neg b.neg a.exp b.exp ⟨xa1,xa2⟩ ⟨xb1,xb2⟩ va vb w h1 h2 la lb sh hsh way ((if (a.neg != b.neg)=true then (-9223372036854775808:Int)else 0)+(mgz way (a.neg != b.neg) (ifn 64) F' (decide (k'%2=1)) (decide (flo (nv a.mag*2^sh/nv b.mag) (e-u+1)%2=1)) (decide (nv a.mag*2^sh%nv b.mag≠0)||rst (nv a.mag*2^sh/nv b.mag) (e-u+1)):Nat)) _ _ (fun v r1 hr=>?_) (fun v=>?_)
  ·rw[←he]
   exact rcut_64 way hw (a.neg != b.neg) _ hq0 e _ r1 v hr (by omega) (by omega) (by omega) u hu k' hk' F' hF' _ _ _ rfl rfl rfl _ rfl
  ·have:=rtold_64 ((if (a.neg != b.neg)=true then (-9223372036854775808:Int)else 0)+(mgz way (a.neg != b.neg) (ifn 64) F' (decide (k'%2=1)) (decide (flo (nv a.mag*2^sh/nv b.mag) (e-u+1)%2=1)) (decide (nv a.mag*2^sh%nv b.mag≠0)||rst (nv a.mag*2^sh/nv b.mag) (e-u+1)):Nat)) (odz way (a.neg != b.neg) (ifn 64) F' (decide (k'%2=1)) (decide (flo (nv a.mag*2^sh/nv b.mag) (e-u+1)%2=1)) (decide (nv a.mag*2^sh%nv b.mag≠0)||rst (nv a.mag*2^sh/nv b.mag) (e-u+1))) v
   rw[told_pz_64 _ _ hM]at this
   exact this
 ·refine rQuot_any 32 24 8388608 255 (-149) 128 2139095040 2147483648 2143289345 (by decide) (nv a.mag) (nv b.mag) a0 b0 a.neg b.neg a.exp b.exp ⟨xa1,xa2⟩ ⟨xb1,xb2⟩ va vb w h1 h2 la lb sh hsh way ((if (a.neg != b.neg)=true then (2147483648:Int)else 0)+(mgz way (a.neg != b.neg) (ifn 32) F' (decide (k'%2=1)) (decide (flo (nv a.mag*2^sh/nv b.mag) (e-u+1)%2=1)) (decide (nv a.mag*2^sh%nv b.mag≠0)||rst (nv a.mag*2^sh/nv b.mag) (e-u+1)):Nat)) _ _ (fun v r1 hr=>?_) (fun v=>?_)
  ·rw[←he]
   exact rcut_32 way hw (a.neg != b.neg) _ hq0 e _ r1 v hr (by omega) (by omega) (by omega) u hu k' hk' F' hF' _ _ _ rfl rfl rfl _ rfl
  ·have:=rtold_32 ((if (a.neg != b.neg)=true then (2147483648:Int)else 0)+(mgz way (a.neg != b.neg) (ifn 32) F' (decide (k'%2=1)) (decide (flo (nv a.mag*2^sh/nv b.mag) (e-u+1)%2=1)) (decide (nv a.mag*2^sh%nv b.mag≠0)||rst (nv a.mag*2^sh/nv b.mag) (e-u+1)):Nat)) (odz way (a.neg != b.neg) (ifn 32) F' (decide (k'%2=1)) (decide (flo (nv a.mag*2^sh/nv b.mag) (e-u+1)%2=1)) (decide (nv a.mag*2^sh%nv b.mag≠0)||rst (nv a.mag*2^sh/nv b.mag) (e-u+1))) v
   rw[told_pz_32 _ _ hM]at this
   exact this
end Go.Proofs.YtnniljhdcplkgaaGreatDoor
