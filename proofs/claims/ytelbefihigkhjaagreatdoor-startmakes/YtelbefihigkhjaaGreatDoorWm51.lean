/-  -/
import Derived.Test.YtelbefihigkhjaaGreatDoorWm47
import Derived.Test.YtelbefihigkhjaaGreatDoorWm48
import Derived.Test.YtelbefihigkhjaaGreatDoorWm49
import Derived.Test.YtelbefihigkhjaaGreatDoorWm50
import Derived.Test.YtelbefihigkhjaaGreatDoorWm39
import Derived.Test.YtelbefihigkhjaaGreatDoorWm42
namespace Go.Proofs.YtelbefihigkhjaaGreatDoor
open Go.ChangeShapes Go.WideShapes Go.ChangeAt Go.RowKit
set_option maxHeartbeats 16000000
set_option maxRecDepth 100000
set_option linter.unusedVariables false
set_option linter.unusedSimpArgs false
structure Zc (kd wd va vb:Int) (R C N:Nat) (y6 yn:Nm) (nn L6:Int) (nu:Nat→Nm) (q1:Int):Prop where
 ks:Hid (∀u g,Own u g N (stl N (btN wd nu) N)→Calls Tryz.prog 41 #[.agg #[.int .i64 (R:Int),.int .i64 (C:Int),.int .i64 wd,.slice (some ⟨g,0,none⟩) N N]] u fun e w'=>e=.returned (.tuple #[.int .i64 q1,.int .i64 (feN wd nu N)])∧Kept u w')
 kr:∀u,Calls Tryz.prog 30 #[.agg #[.int .i64 kd,.int .i64 (R:Int),.int .i64 (C:Int),.int .i64 wd,.int .i64 va,.int .i64 vb]] u fun e w'=>e=.returned (.int .i64 0)∧Kept u w'
 kz:∀u,Calls Tryz.prog 31 #[.agg #[.int .i64 (R:Int),.int .i64 (C:Int),.int .i64 wd]] u fun e w'=>∃g,e=.returned (.agg #[.int .i64 (R:Int),.int .i64 (C:Int),.int .i64 wd,.slice (some ⟨g,0,none⟩) N N])∧u.heap.size≤g∧Own w' g N (List.replicate N 0)∧Kept u w'
 kw6:∀u,Calls Tryz.prog 34 #[.int .i64 6] u fun e w'=>∃v,e=.returned v∧RT w' v y6∧Kept u w'
 kwn:∀u,Calls Tryz.prog 34 #[.int .i64 nn] u fun e w'=>∃v,e=.returned v∧RT w' v yn∧Kept u w'
 kq:∀u v1 v2,RT u v1 y6→RT u v2 yn→Calls Tryz.prog 33 #[v1,v2,.int .i64 wd] u fun e w'=>e=.returned (.int .i64 L6)∧Kept u w'
 kx:∀u,Calls Tryz.prog 32 #[.int .i64 L6,.int .i64 wd] u fun e w'=>∃v,e=.returned v∧VN (qj u.heap.size) w' v (-1074) (zf L6 wd)∧Kept u w'
 L1:-9223372036854775808≤L6∧L6≤9223372036854775807
 L2:cls L6 wd<3
abbrev RMk (kd wd va vb s t:Int)(R C N:Nat)(nu:Nat→Nm):Prop:=∀w,Calls Tryz.prog 12 #[.agg #[.int .i64 kd,.int .i64 (R:Int),.int .i64 (C:Int),.int .i64 wd,.int .i64 va,.int .i64 vb],.int .i64 s,.int .i64 t] w fun e w'=>MkA (feN wd nu N) (R:Int) (C:Int) wd N (stl N (btN wd nu) N) w e w'
theorem qky (wd va vb s t:Int)(R C N:Nat)(hN:N≤4096)(hwd:wd=64∨wd=32)(y6 yn:Nm)(L6 q1:Int)(nu:Nat→Nm)(B:Zc 0 wd va vb R C N y6 yn (R:Int) L6 nu q1)(hnu:∀i,nu i=⟨false,[],0⟩):RMk 0 wd va vb s t R C N nu:=fun w=>
 qf0 0 wd va vb s t R C N hN rfl y6 yn (R:Int) L6 rfl (btN wd nu) (fun _=>0) rfl hwd (fun _=>rfl) q1 (feN wd nu N) w (fun i=>by unfold btN;rw[hnu]) B.ks (fun u _=>B.kr u) B.kz (fun u _=>B.kw6 u) (fun u _=>B.kwn u) (fun u v1 v2 _ a b=>B.kq u v1 v2 a b) (fun u _=>B.kx u)
theorem qkz (wd va vb s t:Int)(ha:-9223372036854775808≤va∧va≤9223372036854775807)(ca:cls va 64<3)(R C N:Nat)(hN:N≤4096)(hwd:wd=64∨wd=32)(y6 yn:Nm)(L6 q1:Int)(B:Zc 1 wd va vb R C N y6 yn (R:Int) L6 (fun _=>ofN va 64) q1):RMk 1 wd va vb s t R C N (fun _=>ofN va 64):=fun w=>
 qf1 1 wd va vb s t R C N hN rfl y6 yn (R:Int) L6 rfl (btN wd (fun _=>ofN va 64)) (fun _=>0) rfl hwd (fun _=>rfl) q1 (feN wd (fun _=>ofN va 64) N) w (fun i r hr=>by unfold btN;rw[hr.uniq (jh va 64 (.inl rfl) ca).1]) (fun u _=>Vp va ha.1 ha.2 ca u) B.ks (fun u _=>B.kr u) B.kz (fun u _=>B.kw6 u) (fun u _=>B.kwn u) (fun u v1 v2 _ a b=>B.kq u v1 v2 a b) (fun u _=>B.kx u)
theorem qk0 (wd va vb s t:Int)(ha:-9223372036854775808≤va∧va≤9223372036854775807)(ca:cls va 64<3)(hb:-9223372036854775808≤vb∧vb≤9223372036854775807)(cb:cls vb 64<3)(R C N:Nat)(hN:N≤4096)(hwd:wd=64∨wd=32)(y6 yn:Nm)(L6 q1:Int)(nu:Nat→Nm)(hnu:∀i:Nat,nu i=nz (-1127) (zf va 64*2^53+(zf vb 64-zf va 64)*(upt s t (i:Int):Int)))(B:Zc 2 wd va vb R C N y6 yn (R:Int) L6 nu q1):RMk 2 wd va vb s t R C N nu:=fun w=>by
 obtain⟨ru,r1,r2,r3⟩:=Vr s t
 obtain⟨S,hS⟩:∃S:Nat,S=1021:=⟨_,rfl⟩
 obtain⟨T,hT⟩:∃T:Nat,T=1074:=⟨_,rfl⟩
 obtain⟨E,hE⟩:∃E:Nat,E=2200:=⟨_,rfl⟩
 have r2:=r2 S hS
 have cu:=fun i=>yw (ru i) (r1 i).1 (r1 i).2
 have la:=(jh va 64 (.inl rfl) ca).2 E hE
 have lb:=(jh vb 64 (.inl rfl) cb).2 E hE
 have lu:=fun i=>(jh (ru i) 64 (.inl rfl) (cu i)).2 E hE
 have ld:(zf vb 64-zf va 64).natAbs<2^(E+1):=by rw[qlq];omega
 have lt:=fun i=>jl _ _ (E+1) E ld (lu i)
 have ls:=jl _ _ E (T+1) la (x7 T)
 refine qf2 2 wd va vb s t R C N hN rfl y6 yn (R:Int) L6 rfl (btN wd nu) (fun i=>wrap64 (i:Int)) (by show wrap64 ((0:Nat):Int)=0;unfold wrap64;omega) hwd (fun _=>rfl) q1 (feN wd nu N) w ru (zf vb 64-zf va 64) (fun i=>(zf vb 64-zf va 64)*zf (ru i) 64) (fun i=>zf va 64*2^T+(zf vb 64-zf va 64)*zf (ru i) 64) (fun i r hr=>?_) r3 (fun u=>Vp va ha.1 ha.2 ca u) (fun u=>Vp vb hb.1 hb.2 cb u) (fun u i=>Vp (ru i) (by have:=(r1 i).1;omega) (by have:=(r1 i).2;omega) (cu i) u) (fun u b v2 v1 hbu h2 h1=>qip (by omega) (by omega) (E+1) (by omega) ld v2 v1 u (Zb hbu) h2 h1) (fun u i b v2 v1 hbu h2 h1=>ZN (by omega) (by omega) (by omega) (E+1+E) (by omega) (lt i) v2 v1 u (Zb hbu) h2 h1) (fun u i b v2 v1 hbu h2 h1=>qcl (by omega) (by omega) (E+1+E+1) (by omega) (qcq (Yw ls (by omega)) (lt i)) v2 v1 u (Zb hbu) (h2.down T (by omega) (by omega) (by omega) (E+(T+1)) (by omega) ls) h1) B.ks (fun u _=>B.kr u) B.kz (fun u _=>B.kw6 u) (fun u _=>B.kwn u) (fun u v1 v2 _ a b=>B.kq u v1 v2 a b) (fun u _=>B.kx u)
 unfold btN
 rw[hnu,qcp S (by omega) hr]
 show zf va 64*2^T+(zf vb 64-zf va 64)*zf (ru i) 64=_
 rw[r2 i,show T=53+S by omega,Int.pow_add,Int.add_mul,←Int.mul_assoc,←Int.mul_assoc]
theorem qhz (kd wd va vb s t:Int)(R C N:Nat)(hN:N≤4096)(hwd:wd=64∨wd=32)(hRC:(R:Int)+(C:Int)≤100000)(y6 yn:Nm)(nn L6 q1:Int)(nu:Nat→Nm)(hk:kd=3∧nn=(R:Int)+(C:Int)∨kd=4∧nn=(R:Int))(hnu:∀i:Nat,nu i=nz (-1127) (zf L6 wd*(2*(upt s t (i:Int):Int)-9007199254740992)))(B:Zc kd wd va vb R C N y6 yn nn L6 nu q1):RMk kd wd va vb s t R C N nu:=fun w=>by
 obtain⟨ru,r1,r2,r3⟩:=Vr s t
 obtain⟨S,hS⟩:∃S:Nat,S=1021:=⟨_,rfl⟩
 obtain⟨T,hT⟩:∃T:Nat,T=1074:=⟨_,rfl⟩
 obtain⟨E,hE⟩:∃E:Nat,E=2200:=⟨_,rfl⟩
 have r2:=r2 S hS
 have cu:=fun i=>yw (ru i) (r1 i).1 (r1 i).2
 have ll:=(jh L6 wd hwd B.L2).2 E hE
 have lu:=fun i=>(jh (ru i) 64 (.inl rfl) (cu i)).2 E hE
 have l2:((2:Int)*2^T).natAbs<2^(2+(T+1)):=jl 2 _ 2 (T+1) (by decide) (x7 T)
 have lt:=fun i=>jl _ _ (2+(T+1)) E l2 (lu i)
 have lm:((-1:Int)*2^(T+T)).natAbs<2^(1+(T+T+1)):=jl (-1) _ 1 (T+T+1) (by decide) (x7 (T+T))
 have ls:=fun i=>qcq (lt i) (Yw lm (by omega))
 have lw:=jl _ _ E (T+1) ll (x7 T)
 have lq:=fun i=>jl _ _ (2+(T+1)+E+1) (E+(T+1)) (ls i) lw
 have HBT:∀(i:Nat) r,Vz (-4296) ((2*2^T*zf (ru i) 64+-1*2^(T+T))*(zf L6 wd*2^T)) r→rzN wd 0 r=btN wd nu i:=fun i r hr=>by
  unfold btN
  rw[hnu,qcp (S+T+T) (by omega) hr]
  rw[r2 i,show(2:Int)^(T+T)=9007199254740992*(2^S*2^T) by rw[←Int.pow_add,show T+T=53+(S+T) by omega,Int.pow_add];rfl,Int.pow_add,Int.pow_add]
  generalize (2:Int)^T=p
  generalize (2:Int)^S=q
  generalize zf L6 wd=z
  generalize (upt s t (i:Int):Int)=a
  have e1:2*p*(a*q)+-1*(9007199254740992*(q*p))=(2*a-9007199254740992)*(q*p):=by
   rw[Int.sub_mul,Int.neg_mul,Int.one_mul,Int.sub_eq_add_neg]
   congr 1
   ac_rfl
  rw[e1]
  ac_rfl
 have KN:=fun(u:World) (i:Nat)=>Vp (ru i) (by have:=(r1 i).1;omega) (by have:=(r1 i).2;omega) (cu i) u
 have KT:∀(u:World) (i:Nat) (b:Nat) v2 v1,b<u.heap.size→VN (fun c=>c≠b) u v2 0 2→VN (fun c=>c≠b) u v1 (-1074) (zf (ru i) 64)→Calls Tryz.prog 38 #[v2,v1] u fun e w'=>∃v,e=.returned v∧VN (fun c=>c≠b) w' v (-2148) (2*2^T*zf (ru i) 64)∧Kept u w':=fun u i b v2 v1 hbu h2 h1=>ZN (by omega) (by omega) (by omega) (2+(T+1)+E) (by omega) (lt i) v2 v1 u (Zb hbu) (h2.down T (by omega) (by omega) (by omega) (2+(T+1)) (by omega) l2) h1
 have KP:∀(u:World) (i:Nat) (b:Nat) v2 v1,b<u.heap.size→VN (fun c=>c≠b) u v2 (-2148) (2*2^T*zf (ru i) 64)→VN (fun c=>c≠b) u v1 0 (-1)→Calls Tryz.prog 37 #[v2,v1] u fun e w'=>∃v,e=.returned v∧VN (fun c=>c≠b) w' v (-2148) (2*2^T*zf (ru i) 64+-1*2^(T+T))∧Kept u w':=fun u i b v2 v1 hbu h2 h1=>qcl (by omega) (by omega) (2+(T+1)+E+1) (by omega) (ls i) v2 v1 u (Zb hbu) h2 (h1.down (T+T) (by omega) (by omega) (by omega) (1+(T+T+1)) (by omega) lm)
 have KL:∀(u:World) (i:Nat) (b:Nat) v2 v1,b<u.heap.size→VN (fun c=>c≠b) u v2 (-2148) (2*2^T*zf (ru i) 64+-1*2^(T+T))→VN (fun c=>c≠b) u v1 (-1074) (zf L6 wd)→Calls Tryz.prog 38 #[v2,v1] u fun e w'=>∃v,e=.returned v∧VN (fun c=>c≠b) w' v (-4296) ((2*2^T*zf (ru i) 64+-1*2^(T+T))*(zf L6 wd*2^T))∧Kept u w':=fun u i b v2 v1 hbu h2 h1=>ZN (by omega) (by omega) (by omega) (2+(T+1)+E+1+(E+(T+1))) (by omega) (lq i) v2 v1 u (Zb hbu) h2 (h1.down T (by omega) (by omega) (by omega) (E+(T+1)) (by omega) lw)
 rcases hk with ⟨rfl,hn⟩|⟨rfl,hn⟩
 ·exact qf3 3 wd va vb s t R C N hN rfl y6 yn nn L6 hn (btN wd nu) (fun i=>wrap64 (i:Int)) (by show wrap64 ((0:Nat):Int)=0;unfold wrap64;omega) hwd hRC q1 (feN wd nu N) w ru (fun i=>2*2^T*zf (ru i) 64) (fun i=>2*2^T*zf (ru i) 64+-1*2^(T+T)) (fun i=>(2*2^T*zf (ru i) 64+-1*2^(T+T))*(zf L6 wd*2^T)) HBT r3 KN (fun u=>Qc 2 (by omega) (by omega) u) (fun u=>Qc (-1) (by omega) (by omega) u) KT KP KL B.ks (fun u _=>B.kr u) B.kz (fun u _=>B.kw6 u) (fun u _=>B.kwn u) (fun u v1 v2 _ a b=>B.kq u v1 v2 a b) (fun u _=>B.kx u)
 ·exact qf4 4 wd va vb s t R C N hN rfl y6 yn nn L6 hn (btN wd nu) (fun i=>wrap64 (i:Int)) (by show wrap64 ((0:Nat):Int)=0;unfold wrap64;omega) hwd hRC q1 (feN wd nu N) w ru (fun i=>2*2^T*zf (ru i) 64) (fun i=>2*2^T*zf (ru i) 64+-1*2^(T+T)) (fun i=>(2*2^T*zf (ru i) 64+-1*2^(T+T))*(zf L6 wd*2^T)) HBT r3 KN (fun u=>Qc 2 (by omega) (by omega) u) (fun u=>Qc (-1) (by omega) (by omega) u) KT KP KL B.ks (fun u _=>B.kr u) B.kz (fun u _=>B.kw6 u) (fun u _=>B.kwn u) (fun u v1 v2 _ a b=>B.kq u v1 v2 a b) (fun u _=>B.kx u)
theorem qk1 (wd va vb s t:Int)(ha:-9223372036854775808≤va∧va≤9223372036854775807)(ca:cls va 64<3)(R C N:Nat)(hN:N≤4096)(hwd:wd=64∨wd=32)(y6 yn:Nm)(L6 q1:Int)(nu:Nat→Nm)(hnu:∀i:Nat,nu i=nz (-1127) (zf va 64*(sup s t (12*(i:Int)) 12-54043195528445952)))(B:Zc 5 wd va vb R C N y6 yn (R:Int) L6 nu q1):RMk 5 wd va vb s t R C N nu:=fun w=>by
 obtain⟨ru,r1,r2,r3⟩:=Vr s t
 obtain⟨S,hS⟩:∃S:Nat,S=1021:=⟨_,rfl⟩
 obtain⟨T,hT⟩:∃T:Nat,T=1074:=⟨_,rfl⟩
 obtain⟨E,hE⟩:∃E:Nat,E=2200:=⟨_,rfl⟩
 have r2:=r2 S hS
 have cu:=fun i=>yw (ru i) (r1 i).1 (r1 i).2
 have la:=(jh va 64 (.inl rfl) ca).2 E hE
 have lsu:∀(i k:Nat),k≤12→((sup s t (12*(i:Int)) k-54043195528445952)*2^S).natAbs<2^(57+(S+1)):=fun i k hk=>jl _ _ 57 (S+1) (by
  have h:=Ju s t (12*(i:Int)) k
  have:(2:Nat)^57=144115188075855872:=rfl
  have h2:(k:Int)*9007199254740992≤12*9007199254740992:=Int.mul_le_mul_of_nonneg_right (by omega) (by decide)
  omega) (x7 S)
 have lt:=fun i:Nat=>jl _ _ (57+(S+1)) E (lsu i 12 (by omega)) la
 have e6:(-6:Int)*2^T=(0-54043195528445952)*2^S:=by
  rw[show T=53+S by omega,Int.pow_add,←Int.mul_assoc]
  rfl
 have l6:((-6:Int)*2^T).natAbs<2^(3+(T+1)):=jl (-6) _ 3 (T+1) (by decide) (x7 T)
 refine qf5 5 wd va vb s t R C N hN rfl y6 yn (R:Int) L6 rfl (btN wd nu) (fun i=>wrap64 ((12*i:Nat):Int)) (by show wrap64 ((12*0:Nat):Int)=0;unfold wrap64;omega) hwd (fun i=>wrap64 (i:Int)) (fun i=>rfl) q1 (feN wd nu N) w ru (fun i k=>(sup s t (12*(i:Int)) k-54043195528445952)*2^S) (fun i=>(sup s t (12*(i:Int)) 12-54043195528445952)*2^S*zf va 64) (fun i r hr=>?_) r3 (fun u i=>Vp (ru i) (by have:=(r1 i).1;omega) (by have:=(r1 i).2;omega) (cu i) u) (fun u=>Vp va ha.1 ha.2 ca u) (fun u i=>?_) (fun u i k P v2 v1 hk hP h2 h1=>?_) (fun u i P v2 v1 hP h2 h1=>ZN (by omega) (by omega) (by omega) (57+(S+1)+E) (by omega) (lt i) v2 v1 u hP h2 h1) B.ks (fun u _=>B.kr u) B.kz (fun u _=>B.kw6 u) (fun u _=>B.kwn u) (fun u v1 v2 _ a b=>B.kq u v1 v2 a b) (fun u _=>B.kx u)
 ·unfold btN
  rw[hnu,qcp S (by omega) hr]
  ac_rfl
 ·refine(Qc (-6) (by omega) (by omega) u).mono ?_
  rintro e w' ⟨v,rfl,hv,k⟩
  have h:=hv.down T (t:=-1074) (by omega) (by omega) (by omega) (3+(T+1)) (by omega) l6
  rw[e6]at h
  exact⟨v,rfl,h,k⟩
 ·have es:(sup s t (12*(i:Int)) k-54043195528445952)*2^S+zf (ru (12*i+k)) 64=(sup s t (12*(i:Int)) (k+1)-54043195528445952)*2^S:=by
   rw[r2,←Int.add_mul]
   congr 1
   have:(((12*i+k:Nat):Int))=12*(i:Int)+(k:Int):=by omega
   rw[this]
   show _=sup s t (12*(i:Int)) k+(upt s t (12*(i:Int)+k):Int)-54043195528445952
   omega
  have h:=qcl (P:=P) (by omega) (by omega) (57+(S+1)) (by omega) (by rw[es];exact lsu i (k+1) (by omega)) v2 v1 u hP h2 h1
  rw[es]at h
  exact h
end Go.Proofs.YtelbefihigkhjaaGreatDoor

namespace Go.Proofs.YtelbefihigkhjaaGreatDoor
open Go.ChangeShapes Go.WideShapes Go.ChangeAt Go.RowKit
set_option maxHeartbeats 16000000
set_option maxRecDepth 100000
set_option linter.unusedVariables false
set_option linter.unusedSimpArgs false
theorem Kx (kd rows cols wd va vb s t:Int)(ha:-9223372036854775808≤va∧va≤9223372036854775807)(hb:-9223372036854775808≤vb∧vb≤9223372036854775807):
  ∃(q:Int) (N:Nat) (L:List Int),L.length=N∧N≤4096∧(∀w,Tab w→Calls Tryz.prog 11 #[xL kd rows cols wd va vb,.int .i64 s,.int .i64 t] w fun e w'=>MkA q rows cols wd N L w e w')∧∀w,Calls Tryz.prog 12 #[xL kd rows cols wd va vb,.int .i64 s,.int .i64 t] w fun e w'=>MkA q rows cols wd N L w e w':=by
 by_cases hk:kd<0∨5<kd
 ·exact⟨42,0,[],rfl,by decide,fun w hT=>(qa6 kd rows cols wd va vb s t hk w).mono fun e w' h=>⟨h.2,.inr ⟨rfl,h.1⟩⟩,fun w=>(Qd kd rows cols wd va vb s t 42 rfl w (fun u k=>Kv kd rows cols wd va vb hk u)).mono fun e w' h=>⟨h.2,.inr ⟨rfl,h.1⟩⟩⟩
 have hk:0≤kd∧kd≤5:=by omega
 by_cases hz:ckS rows cols wd=0
 ·obtain⟨hwd,hr,hc,hrc⟩:=qjm hz
  obtain⟨R,rfl⟩:∃R:Nat,rows=(R:Int):=⟨rows.toNat,by omega⟩
  obtain⟨C,rfl⟩:∃C:Nat,cols=(C:Int):=⟨cols.toNat,by omega⟩
  obtain⟨N,hN⟩:∃N:Nat,R*C=N:=⟨_,rfl⟩
  have hNi:(N:Int)=(R:Int)*(C:Int):=by rw[←hN];exact Int.natCast_mul R C
  have h1:0<(R:Int)*(C:Int):=Int.mul_pos (by omega) (by omega)
  have hN1:1≤N:=by omega
  have hN4:N≤4096:=by omega
  have hw:IntKind.i64.wrap ((R:Int)*(C:Int))=(N:Int):=by rw[qc];omega
  have KZ:=fun u=>XL (R:Int) (C:Int) wd hwd hz N hw hN4 u
  have KN:=fun u=>jT kd (R:Int) (C:Int) wd va vb (by omega) ha hb u
  have KF:=fun u=>qcm kd (R:Int) (C:Int) wd va vb hk hz ha hb u
  by_cases hn:cks kd va vb=0
  ·rw [hn]at KN KF
   have na:ckn va (uA kd)=0:=by
    unfold cks at hn
    split at hn
    ·rename_i h;exact absurd hn h
    ·rename_i h;simpa using h
   have ca:cls va 64<3:=qej na
   have cb:cls vb 64<3:=by
    unfold cks at hn
    split at hn
    ·rename_i h;exact absurd hn h
    ·split at hn
     ·rename_i h;exact absurd hn h
     ·rename_i h;exact qej (by simpa using h)
   have both:∀nu:Nat→Nm,(∀i,vld (nu i)=true)→(∀u,Tab u→Calls Tryz.prog 29 #[xL kd (R:Int) (C:Int) wd va vb,.agg #[.int .i64 s,.int .i64 t,.int .i64 0]] u fun e w'=>∃v,e=.returned v∧XK nu N u w' v∧Kept u w')→RMk kd wd va vb s t R C N nu→∃(q:Int) (N:Nat) (L:List Int),L.length=N∧N≤4096∧(∀w,Tab w→Calls Tryz.prog 11 #[xL kd (R:Int) (C:Int) wd va vb,.int .i64 s,.int .i64 t] w fun e w'=>MkA q (R:Int) (C:Int) wd N L w e w')∧∀w,Calls Tryz.prog 12 #[xL kd (R:Int) (C:Int) wd va vb,.int .i64 s,.int .i64 t] w fun e w'=>MkA q (R:Int) (C:Int) wd N L w e w':=fun nu hnu KE hM=>
    ⟨_,N,_,jc N _ N,hN4,YN nu hnu kd (R:Int) (C:Int) wd va vb s t N hk hwd hN4 hN1 KZ KN KE,hM⟩
   have rc:(R:Int)+(C:Int)≤4097:=by
    have:0≤((R:Int)-1)*((C:Int)-1):=Int.mul_nonneg (by omega) (by omega)
    rw[Int.sub_mul,Int.mul_sub]at this
    omega
   have base:∀n:Nat,1≤n→n≤4097→∃(L6:Nat) (y6 yn:Nm),(-9223372036854775808≤(L6:Int)∧(L6:Int)≤9223372036854775807)∧cls (L6:Int) wd<3∧(∀w,Tab w→Calls Tryz.prog 107 #[.int .i64 (n:Int),.int .i64 wd] w fun e w'=>e=.returned (.int .i64 (L6:Int))∧Kept w w')∧∀nu:Nat→Nm,∃q1,Zc kd wd va vb R C N y6 yn (n:Int) (L6:Int) nu q1:=fun n n1 n2=>by
    obtain⟨L6,y,z,e6,en,l1,l2,KP,KD⟩:=Vq wd hwd n n1 n2
    refine⟨L6,y,z,l1,l2,KP,fun nu=>?_⟩
    obtain⟨q1,ks⟩:=qf6 (R:Int) (C:Int) wd hwd nu N hN4
    exact⟨q1,ks,KF,fun u=>qep R C wd N hN hN4 u,fun u=>(yv 6 (by omega) (by omega) y e6 u).mono fun e w' ⟨v,h1,h2,h3⟩=>⟨v,h1,h2.rt,h3⟩,fun u=>(yv (n:Int) (by omega) (by omega) z en u).mono fun e w' ⟨v,h1,h2,h3⟩=>⟨v,h1,h2.rt,h3⟩,KD,fun u=>qiq (L6:Int) wd hwd l1.1 l1.2 l2 u,l1,l2⟩
   have hR4:R≤4097:=by omega
   have hc6:kd=0∨kd=1∨kd=2∨kd=3∨kd=4∨kd=5:=by omega
   rcases hc6 with h|h|h|h|h|h
   ·obtain⟨L6,y6,yn,l1,l2,KP,KB⟩:=base R (by omega) hR4
    obtain⟨q1,B⟩:=KB (fun _=>ofN va 64)
    have hva:va=0:=by
     have hu:uA kd=false:=by rw[h];rfl
     rw[hu]at na
     unfold ckn at na
     by_cases hv:va=0
     ·exact hv
     ·rw[if_pos ⟨rfl,hv⟩]at na
      exact absurd na (by decide)
    refine both _ (fun i=>(jh va 64 (.inl rfl) ca).1.ok) (fun u hT=>qei kd (R:Int) (C:Int) wd va vb s t ha ca hb cb N hN4 u hT (.inl h)) ?_
    subst h
    exact qky wd va vb s t R C N hN4 hwd y6 yn (L6:Int) q1 _ B (fun i=>by rw[hva];first|rfl|kernel_rfl)
   ·obtain⟨L6,y6,yn,l1,l2,KP,KB⟩:=base R (by omega) hR4
    obtain⟨q1,B⟩:=KB (fun _=>ofN va 64)
    refine both _ (fun i=>(jh va 64 (.inl rfl) ca).1.ok) (fun u hT=>qei kd (R:Int) (C:Int) wd va vb s t ha ca hb cb N hN4 u hT (.inr h)) ?_
    subst h
    exact qkz wd va vb s t ha ca R C N hN4 hwd y6 yn (L6:Int) q1 B
   ·obtain⟨L6,y6,yn,l1,l2,KP,KB⟩:=base R (by omega) hR4
    refine both _ (fun i=>Jv _ _) (fun u hT=>qkm kd (R:Int) (C:Int) wd va vb s t ha ca hb cb N hN4 u hT h) ?_
    obtain⟨q1,B⟩:=KB (fun i=>nz (-1127) (zf va 64*2^53+(zf vb 64-zf va 64)*(upt s t (i:Int):Int)))
    subst h
    exact qk0 wd va vb s t ha ca hb cb R C N hN4 hwd y6 yn (L6:Int) q1 _ (fun i=>rfl) B
   ·obtain⟨L6,y6,yn,l1,l2,KP,KB⟩:=base (R+C) (by omega) (by omega)
    obtain⟨q1,B⟩:=KB (fun i=>nz (-1127) (zf (L6:Int) wd*(2*(upt s t (i:Int):Int)-9007199254740992)))
    refine both _ (fun i=>Jv _ _) (fun u hT=>qh8 kd (R:Int) (C:Int) wd va vb s t ha ca hb cb N hN4 u hT ((R+C:Nat):Int) (L6:Int) (.inl ⟨h,by rw[qc];omega⟩) hwd l1 l2 KP) ?_
    exact qhz kd wd va vb s t R C N hN4 hwd (by omega) y6 yn _ (L6:Int) q1 _ (.inl ⟨h,by omega⟩) (fun i=>rfl) B
   ·obtain⟨L6,y6,yn,l1,l2,KP,KB⟩:=base R (by omega) hR4
    obtain⟨q1,B⟩:=KB (fun i=>nz (-1127) (zf (L6:Int) wd*(2*(upt s t (i:Int):Int)-9007199254740992)))
    refine both _ (fun i=>Jv _ _) (fun u hT=>qh8 kd (R:Int) (C:Int) wd va vb s t ha ca hb cb N hN4 u hT (R:Int) (L6:Int) (.inr ⟨h,rfl⟩) hwd l1 l2 KP) ?_
    exact qhz kd wd va vb s t R C N hN4 hwd (by omega) y6 yn _ (L6:Int) q1 _ (.inr ⟨h,rfl⟩) (fun i=>rfl) B
   ·obtain⟨L6,y6,yn,l1,l2,KP,KB⟩:=base R (by omega) hR4
    refine both _ (fun i=>Jv _ _) (fun u hT=>qkn kd (R:Int) (C:Int) wd va vb s t ha ca hb cb N hN4 u hT h) ?_
    obtain⟨q1,B⟩:=KB (fun i=>nz (-1127) (zf va 64*(sup s t (12*(i:Int)) 12-54043195528445952)))
    subst h
    exact qk1 wd va vb s t ha ca R C N hN4 hwd y6 yn (L6:Int) q1 _ (fun i=>rfl) B
  ·have hq:(cks kd va vb != 0)=true:=by simpa using hn
   have hq2:(cks kd va vb==0)=false:=by simpa using hn
   exact⟨cks kd va vb,0,[],rfl,by decide,fun w hT=>(qeg kd (R:Int) (C:Int) wd va vb s t _ N hk hq hq2 w KZ KN).mono fun e w' h=>⟨h.2,.inr ⟨hq2,h.1⟩⟩,fun w=>(Qd kd (R:Int) (C:Int) wd va vb s t _ hq2 w (fun u k=>KF u)).mono fun e w' h=>⟨h.2,.inr ⟨hq2,h.1⟩⟩⟩
 ·have hq:(ckS rows cols wd != 0)=true:=by simpa using hz
  have hq2:(ckS rows cols wd==0)=false:=by simpa using hz
  exact⟨ckS rows cols wd,0,[],rfl,by decide,fun w hT=>(qa7 kd rows cols wd va vb s t _ hk hq hq2 w (fun u=>qg8 rows cols wd _ rfl hq u)).mono fun e w' h=>⟨h.2,.inr ⟨hq2,h.1⟩⟩,fun w=>(Qd kd rows cols wd va vb s t _ hq2 w (fun u k=>Kw kd rows cols wd va vb _ hk rfl hq2 hq u)).mono fun e w' h=>⟨h.2,.inr ⟨hq2,h.1⟩⟩⟩
end Go.Proofs.YtelbefihigkhjaaGreatDoor

namespace Go.Proofs.YtelbefihigkhjaaGreatDoor
open Go.ChangeShapes Go.WideShapes Go.ChangeAt Go.RowKit
set_option maxHeartbeats 16000000
set_option maxRecDepth 100000
set_option linter.unusedVariables false
set_option linter.unusedSimpArgs false
def lgt (rows cols:Int):Bool:=decide (rows<1)||(decide (cols<1)||(decide (rows>100000)||(decide (cols>100000)||(decide (wrap64 (rows*cols)≤400)||decide (wrap64 (rows*cols)>4096)))))
theorem qa8 (kd rows cols wd va vb:Int)(w:World):Calls Tryz.prog 10 #[.agg #[.int .i64 kd,.int .i64 rows,.int .i64 cols,.int .i64 wd,.int .i64 va,.int .i64 vb]] w fun e w'=>e=.returned (.bool (lgt rows cols))∧Kept w w':=by
 obtain⟨r,hr⟩:∃r,r=lgt rows cols:=⟨_,rfl⟩
 rw[←hr]
 unfold lgt at hr
 obtain⟨Y,hY⟩:∃Y,Y=w.alloc (.cells #[.int .i64 kd,.int .i64 rows,.int .i64 cols,.int .i64 wd,.int .i64 va,.int .i64 vb] 23):=⟨_,rfl⟩
 obtain⟨B0,hB0⟩:∃B,B=w.heap.size:=⟨_,rfl⟩
 have hK:Kept w Y:=by rw[hY];exact(qlv w).alloc _ _
 have hP0:Q6 Y B0 (.int .i64 kd) (.int .i64 rows) (.int .i64 cols) (.int .i64 wd) (.int .i64 va) (.int .i64 vb):=by rw[hY,hB0];exact Q6.new w _ _ _ _ _ _ _
 go_enter Tryz.func10,Tryz.ntmps10
 go_upto_region 1 with fail
 rw[←hY,←hB0]
 clear hY hB0
 obtain⟨p0,p1,p2,p3,p4,p5⟩:=hP0
 by_cases h0:rows<1
 ·have t0:decide (rows<1)=true:=qln h0
  have hr2:r=true:=by rw[hr];simp[t0]
  clear hr
  subst hr2
  go_wp2_with fail
  go_ret
  exact⟨rfl,hK⟩
 have t0:decide (rows<1)=false:=qlo h0
 by_cases h1:cols<1
 ·have t1:decide (cols<1)=true:=qln h1
  have hr2:r=true:=by rw[hr];simp[t0,t1]
  clear hr
  subst hr2
  go_wp2_with fail
  go_ret
  exact⟨rfl,hK⟩
 have t1:decide (cols<1)=false:=qlo h1
 by_cases h2:rows>100000
 ·have t2:decide (rows>100000)=true:=qln h2
  have u2:decide (100000<rows)=true:=t2
  have hr2:r=true:=by rw[hr];simp[t0,t1,t2]
  clear hr
  subst hr2
  go_wp2_with fail
  go_ret
  exact⟨rfl,hK⟩
 have t2:decide (rows>100000)=false:=qlo h2
 have u2:decide (100000<rows)=false:=t2
 by_cases h3:cols>100000
 ·have t3:decide (cols>100000)=true:=qln h3
  have u3:decide (100000<cols)=true:=t3
  have hr2:r=true:=by rw[hr];simp[t0,t1,t2,t3]
  clear hr
  subst hr2
  go_wp2_with fail
  go_ret
  exact⟨rfl,hK⟩
 have t3:decide (cols>100000)=false:=qlo h3
 have u3:decide (100000<cols)=false:=t3
 by_cases h4:wrap64 (rows*cols)≤400
 ·have t4:decide (wrap64 (rows*cols)≤400)=true:=qln h4
  have hr2:r=true:=by rw[hr];simp[t0,t1,t2,t3,t4]
  clear hr
  subst hr2
  go_wp2_with fail
  go_ret
  exact⟨rfl,hK⟩
 have t4:decide (wrap64 (rows*cols)≤400)=false:=qlo h4
 by_cases h5:wrap64 (rows*cols)>4096
 ·have t5:decide (wrap64 (rows*cols)>4096)=true:=qln h5
  have u5:decide (4096<wrap64 (rows*cols))=true:=t5
  have hr2:r=true:=by rw[hr];simp[t0,t1,t2,t3,t4,t5]
  clear hr
  subst hr2
  go_wp2_with fail
  go_ret
  exact⟨rfl,hK⟩
 have t5:decide (wrap64 (rows*cols)>4096)=false:=qlo h5
 have u5:decide (4096<wrap64 (rows*cols))=false:=t5
 have hr2:r=false:=by rw[hr];simp[t0,t1,t2,t3,t4,t5]
 clear hr
 subst hr2
 go_wp2_with fail
 go_ret
 exact⟨rfl,hK⟩
theorem qek (w:World):Calls Tryz.prog 13 #[zy,zy] w fun e w'=>e=.returned (.bool true)∧Kept w w':=by
 obtain⟨N,hN⟩:∃N:Nat,Hid (N=0):=⟨0,(show(0:Nat)=0 from rfl)⟩
 obtain⟨rows,hrw⟩:∃r:Int,Hid (r=0):=⟨0,(show(0:Int)=0 from rfl)⟩
 obtain⟨cols,hco⟩:∃r:Int,Hid (r=0):=⟨0,(show(0:Int)=0 from rfl)⟩
 obtain⟨wd,hwd⟩:∃r:Int,Hid (r=0):=⟨0,(show(0:Int)=0 from rfl)⟩
 rw[show zy=.agg #[.int .i64 rows,.int .i64 cols,.int .i64 wd,.slice none N 0] by rw[hN.out,hrw.out,hco.out,hwd.out]]
 have n1:(rows != rows)=false:=by simp
 have n2:(cols != cols)=false:=by simp
 have n3:(wd != wd)=false:=by simp
 have n4:((N:Int) != (N:Int))=false:=by simp
 obtain⟨X,hX⟩:∃X,X=(w.alloc (.cells #[.int .i64 rows,.int .i64 cols,.int .i64 wd,.slice none N 0] 28)).alloc (.cells #[.int .i64 rows,.int .i64 cols,.int .i64 wd,.slice none N 0] 28):=⟨_,rfl⟩
 obtain⟨B0,hB0⟩:∃B,B=w.heap.size:=⟨_,rfl⟩
 obtain⟨B1,hB1⟩:∃B,B=B0+1:=⟨_,rfl⟩
 have hK:Kept w X:=by rw[hX];exact((qlv w).alloc _ _).alloc _ _
 have hP0:Q4 X B0 (.int .i64 rows) (.int .i64 cols) (.int .i64 wd) (.slice none N 0):=by rw[hX,hB0];exact(Q4.new w _ _ _ _ _).alloc _ _
 have hP1:Q4 X B1 (.int .i64 rows) (.int .i64 cols) (.int .i64 wd) (.slice none N 0):=by
  rw[hX,hB1,hB0]
  have:=Q4.new (w.alloc (.cells #[.int .i64 rows,.int .i64 cols,.int .i64 wd,.slice none N 0] 28)) (.int .i64 rows) (.int .i64 cols) (.int .i64 wd) (.slice none N 0) 28
  simpa using this
 go_enter Tryz.func13,Tryz.ntmps13
 go_upto_region 1 with fail
 rw[←hX,←hB0,←hB1]
 clear hX hB0 hB1
 have HP0:Hid (Q4 X B0 (.int .i64 rows) (.int .i64 cols) (.int .i64 wd) (.slice none N 0)):=hP0
 have HP1:Hid (Q4 X B1 (.int .i64 rows) (.int .i64 cols) (.int .i64 wd) (.slice none N 0)):=hP1
 obtain⟨p0,p1,p2,p3,pf⟩:=hP0
 obtain⟨r0,r1,r2,r3,rf⟩:=hP1
 go_wp2_with fail
 clear p0 p1 p2 p3 pf r0 r1 r2 r3 rf
 go_loopw [5] (fun i wr=>∃k:Nat,k≤N∧i=.int .i64 k∧Kept X wr) (fun i _=>0)
 case atStart=>exact⟨0,Nat.zero_le _,rfl,qlv X⟩
 case round=>
  obtain⟨k,hkN,rfl,hk⟩:=hrel
  obtain⟨p0,p1,p2,p3,pf⟩:=HP0.out.kept hk
  obtain rfl:k=N:=by have:=hN.out;omega
  go_wp2_with fail
  go_ret
  exact⟨rfl,hK.trans hk⟩
theorem qa9 (rows cols wd:Int)(N:Nat)(hN:N≤100000)(L:List Int)(hL:L.length=N)(ga gb:Nat)(w:World)(hA:Own w ga N L)(hB:Own w gb N L):Calls Tryz.prog 13 #[.agg #[.int .i64 rows,.int .i64 cols,.int .i64 wd,.slice (some ⟨ga,0,none⟩) N N],.agg #[.int .i64 rows,.int .i64 cols,.int .i64 wd,.slice (some ⟨gb,0,none⟩) N N]] w fun e w'=>e=.returned (.bool true)∧Kept w w':=by
 have n1:(rows != rows)=false:=by simp
 have n2:(cols != cols)=false:=by simp
 have n3:(wd != wd)=false:=by simp
 have n4:((N:Int) != (N:Int))=false:=by simp
 obtain⟨X,hX⟩:∃X,X=(w.alloc (.cells #[.int .i64 rows,.int .i64 cols,.int .i64 wd,.slice (some ⟨ga,0,none⟩) N N] 28)).alloc (.cells #[.int .i64 rows,.int .i64 cols,.int .i64 wd,.slice (some ⟨gb,0,none⟩) N N] 28):=⟨_,rfl⟩
 obtain⟨B0,hB0⟩:∃B,B=w.heap.size:=⟨_,rfl⟩
 obtain⟨B1,hB1⟩:∃B,B=B0+1:=⟨_,rfl⟩
 have hK:Kept w X:=by rw[hX];exact((qlv w).alloc _ _).alloc _ _
 have hP0:Q4 X B0 (.int .i64 rows) (.int .i64 cols) (.int .i64 wd) (.slice (some ⟨ga,0,none⟩) N N):=by rw[hX,hB0];exact(Q4.new w _ _ _ _ _).alloc _ _
 have hP1:Q4 X B1 (.int .i64 rows) (.int .i64 cols) (.int .i64 wd) (.slice (some ⟨gb,0,none⟩) N N):=by
  rw[hX,hB1,hB0]
  have:=Q4.new (w.alloc (.cells #[.int .i64 rows,.int .i64 cols,.int .i64 wd,.slice (some ⟨ga,0,none⟩) N N] 28)) (.int .i64 rows) (.int .i64 cols) (.int .i64 wd) (.slice (some ⟨gb,0,none⟩) N N) 28
  simpa using this
 go_enter Tryz.func13,Tryz.ntmps13
 go_upto_region 1 with fail
 rw[←hX,←hB0,←hB1]
 clear hX hB0 hB1
 have HP0:Hid (Q4 X B0 (.int .i64 rows) (.int .i64 cols) (.int .i64 wd) (.slice (some ⟨ga,0,none⟩) N N)):=hP0
 have HP1:Hid (Q4 X B1 (.int .i64 rows) (.int .i64 cols) (.int .i64 wd) (.slice (some ⟨gb,0,none⟩) N N)):=hP1
 obtain⟨p0,p1,p2,p3,pf⟩:=hP0
 obtain⟨r0,r1,r2,r3,rf⟩:=hP1
 go_wp2_with fail
 clear p0 p1 p2 p3 pf r0 r1 r2 r3 rf
 go_loopw [5] (fun i wr=>∃k:Nat,k≤N∧i=.int .i64 k∧Kept X wr) (fun i _=>N-(intOf i).toNat)
 case atStart=>exact⟨0,Nat.zero_le _,rfl,qlv X⟩
 case round=>
  obtain⟨k,hkN,rfl,hk⟩:=hrel
  have hQ0:=HP0.out.kept hk
  have hQ1:=HP1.out.kept hk
  by_cases hlt:k<N
  ·have HS:Hid (∀u,Kept wr u→u.cell? ⟨B0,3,none⟩=some (.slice (some ⟨ga,0,none⟩) N N)∧u.cell? ⟨B1,3,none⟩=some (.slice (some ⟨gb,0,none⟩) N N)∧u.cell? ⟨ga,k,none⟩=some (.int .i64 (L.getD k 0))∧u.cell? ⟨gb,k,none⟩=some (.int .i64 (L.getD k 0))):=fun u q=>⟨(hQ0.kept q).c3,(hQ1.kept q).c3,(((hA.kept hK).kept hk).kept q).cell k (by omega),(((hB.kept hK).kept hk).kept q).cell k (by omega)⟩
   have n5:((L.getD k 0) != (L.getD k 0))=false:=by simp
   obtain⟨p0,p1,p2,p3,pf⟩:=hQ0
   clear hQ1
   go_upto_region 6 with fail
   clear p0 p1 p2 p3 pf
   refine qi [] (fun u=>u.cell? ⟨B0,3,none⟩=some (.slice (some ⟨ga,0,none⟩) N N)∧u.cell? ⟨B1,3,none⟩=some (.slice (some ⟨gb,0,none⟩) N N)∧u.cell? ⟨ga,k,none⟩=some (.int .i64 (L.getD k 0))∧u.cell? ⟨gb,k,none⟩=some (.int .i64 (L.getD k 0))) (by kernel_rfl) (HS.out _ (qlv wr).drew) (fun hHeld=>?_)
   refine tkD (i:=0) (v:=?_) rfl hHeld ?_
   try simp only[zz]
   refine tkD (i:=1) (v:=?_) rfl hHeld ?_
   try simp only[zz]
   refine tkD (i:=2) (v:=?_) rfl hHeld ?_
   try simp only[zz]
   refine tkD (i:=3) (v:=?_) rfl hHeld ?_
   try simp only[zz]
   refine tkD (i:=4) (v:=?_) rfl hHeld ?_
   try simp only[zz]
   refine tkD (i:=5) (v:=?_) rfl hHeld ?_
   try simp only[zz]
   refine tkD (i:=6) (v:=?_) rfl hHeld ?_
   try simp only[zz]
   refine tkD (i:=7) (v:=?_) rfl hHeld ?_
   try simp only[zz]
   refine tkD (i:=8) (v:=?_) rfl hHeld ?_
   try simp only[zz]
   refine tkD (i:=9) (v:=?_) rfl hHeld ?_
   try simp only[zz]
   refine tkD (i:=10) (v:=?_) rfl hHeld ?_
   try simp only[zz]
   refine qk (by kernel_rfl) ?_ _
   try simp only[zz]
   generalize L.getD k 0=lk at *
   go_wp2_with fail
   go_roundw
   case rel=>exact⟨k+1,by omega,by go_num,hk.trans (qlv wr).drew⟩
   case measure=>simp[intOf];omega
  ·obtain rfl:k=N:=by omega
   obtain⟨p0,p1,p2,p3,pf⟩:=hQ0
   go_wp2_with fail
   go_ret
   exact⟨rfl,hK.trans hk⟩
end Go.Proofs.YtelbefihigkhjaaGreatDoor

namespace Go.Proofs.YtelbefihigkhjaaGreatDoor
open Go.ChangeShapes Go.WideShapes Go.ChangeAt Go.RowKit
set_option maxHeartbeats 16000000
set_option maxRecDepth 100000
set_option linter.unusedVariables false
set_option linter.unusedSimpArgs false
theorem qjj:feN 64 (fun _=>ofN 4607182418800017408 64) 2=0:=by decide+kernel
theorem qjk:stl 2 (btN 64 (fun _=>ofN 4607182418800017408 64)) 2=[4607182418800017408,4607182418800017408]:=by decide+kernel
theorem qel (w:World)(hT:Tab w):Calls Tryz.prog 11 #[xL 1 1 2 64 4607182418800017408 0,.int .i64 0,.int .i64 0] w fun e w'=>∃g,e=.returned (.tuple #[.agg #[.int .i64 1,.int .i64 2,.int .i64 64,.slice (some ⟨g,0,none⟩) 2 2],.int .i64 0])∧Own w' g 2 [4607182418800017408,4607182418800017408]∧Kept w w':=by
 have hz:ckS 1 2 64=0:=by decide+kernel
 have hn:cks 1 4607182418800017408 0=0:=by decide+kernel
 have ca:cls 4607182418800017408 64<3:=by decide+kernel
 have cb:cls 0 64<3:=by decide+kernel
 have KZ:=fun u=>XL 1 2 64 (.inl rfl) hz 2 (by decide+kernel) (by decide) u
 have KN:=fun u=>jT 1 1 2 64 4607182418800017408 0 (by decide) (by decide) (by decide) u
 rw[hn]at KN
 have:=YN (fun _=>ofN 4607182418800017408 64) (fun i=>(jh _ 64 (.inl rfl) ca).1.ok) 1 1 2 64 4607182418800017408 0 0 0 2 (by decide) (.inl rfl) (by decide) (by decide) KZ KN (fun u hT=>qei 1 1 2 64 4607182418800017408 0 0 0 (by decide) ca (by decide) cb 2 (by decide) u hT (.inr rfl)) w hT
 rw[qjj,qjk]at this
 refine this.mono ?_
 rintro e w' ⟨k,⟨-,g,he,-,ho⟩|⟨h0,-⟩⟩
 ·exact⟨g,he,ho,k⟩
 ·exact absurd h0 (by decide)
theorem qg5 (w:World)(hT:Tab w):Calls Tryz.prog 9 #[] w fun e w'=>e=.returned (.bool true)∧Kept w w':=by
 have KM:Hid (∀u,Tab u→Calls Tryz.prog 11 #[xL 1 1 2 64 4607182418800017408 0,.int .i64 0,.int .i64 0] u fun e w'=>∃g,e=.returned (.tuple #[.agg #[.int .i64 1,.int .i64 2,.int .i64 64,.slice (some ⟨g,0,none⟩) 2 2],.int .i64 0])∧Own w' g 2 [4607182418800017408,4607182418800017408]∧Kept u w'):=qel
 go_enter Tryz.func9,Tryz.ntmps9
 go_wp2_with fail
 refine(KM.out _ hT).mono ?_
 rintro e w1 ⟨g,rfl,ho,k1⟩
 go_upto_region 2 with fail
 obtain⟨V,hV⟩:∃V,V=w1.alloc (.cells #[.int .i64 1,.int .i64 2,.int .i64 64,.slice (some ⟨g,0,none⟩) 2 2] 28):=⟨_,rfl⟩
 obtain⟨B8,hB8⟩:∃B,B=w1.heap.size:=⟨_,rfl⟩
 have kV:Kept w V:=by rw[hV];exact k1.alloc _ _
 have hP8:Q4 V B8 (.int .i64 1) (.int .i64 2) (.int .i64 64) (.slice (some ⟨g,0,none⟩) 2 2):=by rw[hV,hB8];exact Q4.new w1 _ _ _ _ _
 have oV:Own V g 2 [4607182418800017408,4607182418800017408]:=by rw[hV];exact ho.kept ((qlv w1).alloc _ _)
 rw[←hV,←hB8]
 clear hV hB8 ho k1
 have cg:V.cell? ⟨g,0,none⟩=some (.int .i64 4607182418800017408):=oV.cell 0 (by decide)
 obtain⟨p0,p1,p2,p3,pf⟩:=hP8
 go_wp2_with fail
 go_ret
 exact⟨rfl,kV⟩
end Go.Proofs.YtelbefihigkhjaaGreatDoor
