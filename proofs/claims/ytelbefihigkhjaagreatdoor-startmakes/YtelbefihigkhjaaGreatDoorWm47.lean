/-  -/
import Derived.Test.YtelbefihigkhjaaGreatDoorWm46
import Derived.Test.YtelbefihigkhjaaGreatDoorWm42
import Derived.Test.YtelbefihigkhjaaGreatDoorWm30
import Derived.Test.YtelbefihigkhjaaGreatDoorWm37
namespace Go.Proofs.YtelbefihigkhjaaGreatDoor
open Go.ChangeShapes Go.WideShapes Go.ChangeAt Go.RowKit
set_option maxHeartbeats 16000000
set_option maxRecDepth 100000
set_option linter.unusedVariables false
set_option linter.unusedSimpArgs false
theorem Qd (kd ro co wd va vb seed stream q:Int)(hq:(q==0)=false)(w:World)
  (KR:Hid (∀u,Kept w u→Calls Tryz.prog 30 #[.agg #[.int .i64 kd,.int .i64 ro,.int .i64 co,.int .i64 wd,.int .i64 va,.int .i64 vb]] u fun e w'=>e=.returned (.int .i64 q)∧Kept u w')):
  Calls Tryz.prog 12 #[.agg #[.int .i64 kd,.int .i64 ro,.int .i64 co,.int .i64 wd,.int .i64 va,.int .i64 vb],.int .i64 seed,.int .i64 stream] w fun e w'=>e=.returned (.tuple #[zy,.int .i64 q])∧Kept w w':=by
 have hq1:(q != 0)=true:=by simpa using hq
 have h3:¬q=0:=by simpa using hq
 obtain⟨W0,hW0⟩:∃W0,W0=(w.alloc (.cells #[.int .i64 kd,.int .i64 ro,.int .i64 co,.int .i64 wd,.int .i64 va,.int .i64 vb] 23)).alloc (.cells #[.int .i64 0,.int .i64 0,.int .i64 0,.slice none 0 0] 28):=⟨_,rfl⟩
 have hK:Kept w W0:=by rw[hW0];exact((qlv w).alloc _ _).alloc _ _
 obtain⟨B3,hB3⟩:∃B,B=w.heap.size:=⟨_,rfl⟩
 obtain⟨B6,hB6⟩:∃B,B=B3+1:=⟨_,rfl⟩
 have hP:Q6 W0 B3 (.int .i64 kd) (.int .i64 ro) (.int .i64 co) (.int .i64 wd) (.int .i64 va) (.int .i64 vb):=by rw[hW0,hB3];exact(Q6.new w _ _ _ _ _ _ _).alloc _ _
 have hb6:Bk W0 B6 [.int .i64 0,.int .i64 0,.int .i64 0,.slice none 0 0]:=by
  rw[hW0,hB6,hB3]
  have:=Bk.new (w.alloc (.cells #[.int .i64 kd,.int .i64 ro,.int .i64 co,.int .i64 wd,.int .i64 va,.int .i64 vb] 23)) [.int .i64 0,.int .i64 0,.int .i64 0,.slice none 0 0] 28
  simpa using this
 have HB6:=(show Hid (∀u,Kept W0 u→Bk u B6 [.int .i64 0,.int .i64 0,.int .i64 0,.slice none 0 0])from fun u k=>hb6.kept k)
 have HKW:=(show Hid (Kept w W0)from hK)
 have h6w:w.heap.size≤B6:=by omega
 have H6W:=(show Hid (w.heap.size≤B6)from h6w)
 clear h6w hb6 hK
 go_enter Tryz.func12,Tryz.ntmps12
 go_upto_region 1 with fail
 rw[←hW0,←hB3,←hB6]
 clear hW0 hB3 hB6
 obtain⟨p0,p1,p2,p3,p4,p5⟩:=hP
 go_wp2_with fail
 refine(KR.out _ HKW.out).mono ?_
 rintro e w1 ⟨rfl,k1⟩
 clear p0 p1 p2 p3 p4 p5
 have b6:=HB6.out _ k1
 have e0:=b6.c 0 _ rfl
 have e1:=b6.c 1 _ rfl
 have e2:=b6.c 2 _ rfl
 have e3:=b6.c 3 _ rfl
 have ef:=b6.fz
 have kw:Kept w w1:=HKW.out.trans k1
 have h6w:=H6W.out
 clear b6
 go_wp2_with fail
 refine qlu (v:=.tuple #[zy,.int .i64 q]) (by simp[results,Tryz.results12,go_sem,e0,e1,e2,e3]) rfl ⟨rfl,?_⟩
 exact(((kw.setCell h6w _).setCell h6w _).setCell h6w _).setCell h6w _
theorem qcn (n:Int)(hn:n=64∨n=32)(r:Nm):cls (rzN n 0 r) n≤3∧-9223372036854775808≤rzN n 0 r∧rzN n 0 r≤9223372036854775807:=by
 obtain⟨h1,h2⟩:=qao n 0 r
 have h3:=qj0 n _ hn h1 h2
 have h4:=X7 n _ hn h1 h2
 have h5:=YO (rzN n 0 r) n
 unfold qv at h3
 have h6:=(of_decide_eq_true h3).2
 refine⟨?_,h4⟩
 have h7:¬cls (rzN n 0 r) n=4:=h6
 omega
theorem qco (n:Int)(cl:Nat→Int):∀(L:List Int) (k:Nat),(∀j,j<L.length→cls (L.getD j 0) n≤3∧cl j=cls (L.getD j 0) n)→(stp n L k).2=if xK cl L.length=L.length then 0 else 31:=by
 intro L k h
 by_cases hf:xK cl L.length=L.length
 ·rw[if_pos hf]
  obtain⟨-,h2,-⟩:=yI cl L.length
  rw[hf]at h2
  have hh:∀j,j<L.length→cls (L.getD j 0) n<3:=fun j hj=>by
   have h3:=h2 j hj
   obtain⟨h4,h5⟩:=h j hj
   rw[h5]at h3
   have:¬cls (L.getD j 0) n=3:=by simpa using h3
   omega
  clear h h2 hf
  induction L generalizing k with
  |nil=>rfl
  |cons b l ih=>
   have h0:=hh 0 (by simp)
   simp only[List.getD_cons_zero]at h0
   unfold stp
   rw[if_neg (by omega),if_neg (by omega)]
   exact ih (k+1) (fun j hj=>by have:=hh (j+1) (by simpa using hj);simpa using this)
 ·rw[if_neg hf]
  obtain⟨h1,-,h9⟩:=yI cl L.length
  have hlt:xK cl L.length<L.length:=by omega
  have h3:=h9 hlt
  obtain⟨h4,h5⟩:=h _ hlt
  rw[h5]at h3
  have h6:cls (L.getD (xK cl L.length) 0) n=3:=by simpa using h3
  have hh:∃j,j<L.length∧cls (L.getD j 0) n=3:=⟨_,hlt,h6⟩
  have hle:∀j,j<L.length→cls (L.getD j 0) n≤3:=fun j hj=>(h j hj).1
  clear h h1 h3 h4 h5 h6 hlt hf h9
  induction L generalizing k with
  |nil=>obtain⟨j,hj,-⟩:=hh;simp at hj
  | cons b l ih=>
   have h0:=hle 0 (by simp)
   simp only[List.getD_cons_zero]at h0
   unfold stp
   rw[if_neg (by omega)]
   by_cases hb:cls b n=3
   ·rw[if_pos hb]
   ·rw[if_neg hb]
    obtain⟨j,hj,h7⟩:=hh
    cases j with
    |zero=>simp only[List.getD_cons_zero]at h7;exact absurd h7 hb
    |succ j=>exact ih (k+1) ⟨j,by simpa using hj,by simpa using h7⟩ (fun j hj=>by have:=hle (j+1) (by simpa using hj);simpa using this)
theorem qf6 (R C wd:Int)(hwd:wd=64∨wd=32)(nu:Nat→Nm)(N:Nat)(hN:N≤4096):∃q1:Int,Hid (∀u g,Own u g N (stl N (btN wd nu) N)→Calls Tryz.prog 41 #[.agg #[.int .i64 R,.int .i64 C,.int .i64 wd,.slice (some ⟨g,0,none⟩) N N]] u fun e w'=>e=.returned (.tuple #[.int .i64 q1,.int .i64 (feN wd nu N)])∧Kept u w'):=by
 have hl:=jc N (btN wd nu) N
 have hg:∀j,j<N→(stl N (btN wd nu) N).getD j 0=btN wd nu j:=fun j hj=>by rw[YL _ _ _ _ hj,if_pos hj]
 have hf:(stp wd (stl N (btN wd nu) N) 0).2=feN wd nu N:=by
  have:=qco wd (fun i=>cls (btN wd nu i) wd) (stl N (btN wd nu) N) 0 (fun j hj=>by
   rw[hl]at hj
   rw[hg j hj]
   exact⟨(qcn wd hwd _).1,rfl⟩)
  rw[this,hl]
  rfl
 refine⟨(stp wd (stl N (btN wd nu) N) 0).1,fun u g ho=>?_⟩
 have:=qhe R C wd g 0 N (stl N (btN wd nu) N) (fun i hi=>by
  rw[hl]at hi
  rw[hg i hi]
  exact(qcn wd hwd _).2) (by rw[hl];exact hN) u ho.lt ho.reads
 rw[hl,hf]at this
 exact this
end Go.Proofs.YtelbefihigkhjaaGreatDoor

namespace Go.Proofs.YtelbefihigkhjaaGreatDoor
open Go.ChangeShapes Go.WideShapes Go.ChangeAt Go.RowKit
set_option maxHeartbeats 16000000
set_option maxRecDepth 100000
set_option linter.unusedVariables false
set_option linter.unusedSimpArgs false
theorem qcp {Z T s t:Int}{r:Nm}(k:Nat)(hk:s=t+k)(h:Vz t T r)(hT:T=Z*2^k):nz s Z=r:=by
 have:=h.eq
 rw[hT,zw,←hk]at this
 unfold nz
 rw[this]
 rfl
theorem Vz.uniq {s Z:Int}{x y:Nm}(h1:Vz s Z x)(h2:Vz s Z y):x=y:=Option.some.inj (h1.eq.symm.trans h2.eq)
theorem Yw {x:Int}{a b:Nat}(h:x.natAbs<2^a)(hab:a≤b):x.natAbs<2^b:=qlf h (qlh (by decide) hab)
theorem qcq {x y:Int}{a:Nat}(hx:x.natAbs<2^a)(hy:y.natAbs<2^a):(x+y).natAbs<2^(a+1):=by rw[qlq];omega
theorem x7 (T:Nat):((2:Int)^T).natAbs<2^(T+1):=by
 rw[Int.natAbs_pow]
 exact Nat.pow_lt_pow_right (by decide) (by omega)
theorem Vq (wd:Int)(hwd:wd=64∨wd=32)(n:Nat)(h1:1≤n)(h2:n≤4097):∃(R:Nat) (y z:Nm),cfm 6 0=some y∧cfm (n:Int) 0=some z∧(-9223372036854775808≤(R:Int)∧(R:Int)≤9223372036854775807)∧cls (R:Int) wd<3∧(∀w,Tab w→Calls Tryz.prog 107 #[.int .i64 (n:Int),.int .i64 wd] w fun e w'=>e=.returned (.int .i64 (R:Int))∧Kept w w')∧(∀u v1 v2,RT u v1 y→RT u v2 z→Calls Tryz.prog 33 #[v1,v2,.int .i64 wd] u fun e w'=>e=.returned (.int .i64 (R:Int))∧Kept u w'):=by
 obtain⟨y,y1,y2,y3,y4,y5,y6,y7⟩:=XJ 6 (by decide) (by decide)
 obtain⟨z,z1,z2,z3,z4,z5,z6,z7⟩:=XJ n (by omega) (Nat.lt_of_le_of_lt h2 (by decide))
 have b6:bl 6=3:=by decide
 obtain⟨b1,b2,b3⟩:=qu n (by omega)
 have b4:=qN n 13 (Nat.lt_of_le_of_lt h2 (by decide))
 have hdx:-140≤dex 4 y z∧dex 4 y z≤-110:=by unfold dex;omega
 obtain⟨R,o,hR,hRl,KP,KD⟩:=qgs wd hwd y z y2 z2 y4 z4 y3 z3
 have hRl:=hRl hdx.1 hdx.2
 have hpz:pz wd (R:Int)=(R:Int):=by
  unfold pz
  rcases hwd with rfl|rfl<;>simp<;>omega
 have c:=(JG wd (R:Int) hwd (by omega) (by omega)).2 ⟨by omega,by omega⟩
 have g:=X7 wd (R:Int) hwd (by omega) (by omega)
 rw[hpz]at c g
 refine⟨R,y,z,y1,z1,g,c,fun w hT=>?_,fun u v1 v2 t1 t2=>?_⟩
 ·refine V6 (n:Int) wd _ y z w (fun u k=>Qw 6 (by decide) (by decide) y y1 u (hT.kept k)) (fun u k=>Qw (n:Int) (by omega) (by omega) z z1 u (hT.kept k)) (fun u v1 v2 k n1 n2=>?_)
  obtain⟨a1,c1,rfl,s1⟩:=n1.form
  obtain⟨a2,c2,rfl,s2⟩:=n2.form
  exact XI _ _ _ _ _ _ _ _ _ _ wd _ 0 _ u (fun u2 k2=>KP a1 a2 c1 c2 u2 ((hT.kept k).kept k2) (s1.kept k2) (s2.kept k2))
 ·obtain⟨a1,c1,rfl,s1⟩:=t1.shape
  obtain⟨a2,c2,rfl,s2⟩:=t2.shape
  exact KD a1 a2 c1 c2 u s1.rl s2.rl
theorem Vr (s t:Int):∃ru:Nat→Int,(∀i,0≤ru i∧ru i<9218868437227405312)∧(∀S:Nat,S=1021→∀i:Nat,zf (ru i) 64=(upt s t (i:Int):Int)*2^S)∧∀u (i:Nat),Calls Tryz.prog 36 #[.agg #[.int .i64 s,.int .i64 t,.int .i64 (wrap64 (i:Int))],.int .i64 64] u fun e w'=>e=.returned (.tuple #[.int .i64 (ru i),.agg #[.int .i64 s,.int .i64 t,.int .i64 (wrap64 ((i+1:Nat):Int))]])∧Kept u w':=by
 have h:=fun i:Nat=>qka (upt s t (i:Int)) (yH s t i)
 refine⟨fun i=>((h i).choose:Int),fun i=>?_,fun S hS i=>?_,fun u i=>?_⟩
 ·have h4:=(h i).choose_spec.1
  exact⟨Int.natCast_nonneg _,Int.ofNat_lt.2 h4⟩
 ·exact(h i).choose_spec.2.1 S hS
 ·have hw:wn s t (wrap64 (i:Int))=wn s t (i:Int):=qgc _ _ _ _ (by unfold wrap64;omega)
  have h3:=J7 s t (wrap64 (i:Int)) (h i).choose (by rw[hw];exact(h i).choose_spec.2.2) u
  have e:wrap64 (wrap64 (i:Int)+1)=wrap64 ((i+1:Nat):Int):=by unfold wrap64;omega
  rw[e]at h3
  exact h3
theorem yw (b:Int)(h1:0≤b)(h2:b<9218868437227405312):cls b 64<3:=by
 unfold cls zn
 (repeat' split)<;>omega
theorem Zb {u:World}{B:Nat}(h:B<u.heap.size):∀c,u.heap.size≤c→c≠B:=fun c hc=>by omega
end Go.Proofs.YtelbefihigkhjaaGreatDoor
