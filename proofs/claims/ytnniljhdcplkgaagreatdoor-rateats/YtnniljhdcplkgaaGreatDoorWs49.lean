/-  -/
import Derived.Test.YtnniljhdcplkgaaGreatDoorWs48
namespace Go.Proofs.YtnniljhdcplkgaaGreatDoor
open Go.ChangeShapes Go.WideShapes Go.ChangeAt Go.RowKit
set_option maxHeartbeats 16000000
set_option maxRecDepth 100000
set_option linter.unusedVariables false
set_option linter.unusedSimpArgs false
def BK18 (kd ev tt k s:Int)(nb nf:Nm):Prop:=
 (kd=1∧(ev=0→False)∧∃(q:Int) (np nt:Nm),IntKind.i64.wrap (k.tdiv ev)=q∧Dpw nf (min q 900) np∧Dtm nb np nt∧Dnr nt s)∨
   (kd=2∧tt≤k∧s=0)∨
   (kd=2∧¬tt≤k∧∃(d:Int) (n1 n2 n3:Nm),IntKind.i64.wrap (tt-k)=d∧Dwh d n1∧Dtm nb n1 n2∧Dwh tt n3∧Dqt n2 n3 s)∨
   (kd=3∧∃(d:Int) (n1 n2 n3 n4:Nm),IntKind.i64.wrap (ev+k)=d∧Dtm nb nb n1∧Dwh ev n2∧Dtm n1 n2 n3∧Dwh d n4∧Drq n3 n4 s)∨
   (kd=4∧∃(t p d q:Int) (n1 n2 n3 n4 n5 n6:Nm),IntKind.i64.wrap (2*ev)=t∧(t=0→False)∧k.tmod t=p∧IntKind.i64.wrap (t-p)=d∧min p d=q∧Dwh ev n1∧Dtm nb n1 n2∧Dmi nf nb n3∧Dwh q n4∧Dtm n3 n4 n5∧Dpl n2 n5 n6∧Dqt n6 n1 s)∨
   (kd=5∧tt≤k∧s=0)∨
   (kd=5∧¬tt≤k∧∃(d:Int) (n1 n2 n3 n4 n5:Nm),IntKind.i64.wrap (tt-k)=d∧Dwh d n1∧Dpw n1 ev n2∧Dtm nb n2 n3∧Dwh tt n4∧Dpw n4 ev n5∧Dqt n3 n5 s)∨
   (kd=0∧Dnr nb s)
theorem rz_cls (x:Nm):Cl4 (rzN 64 0 x):=by
 have h:=kyN_range 64 0 x
 exact pz_cls4 _ h.1 h.2
theorem con_both (ba fa wa ev tt k:Int)(hb1:-9223372036854775808≤ba)(hb2:ba≤9223372036854775807)(hbc:cls ba 64<3):∃s:Int,Cl4 s∧(∀u,Tab u→Calls Tryz.prog 61 #[.agg #[.int .i64 0,.int .i64 ba,.int .i64 fa,.int .i64 wa,.int .i64 ev,.int .i64 tt],.int .i64 k] u fun e w'=>e=.returned (.int .i64 s)∧Kept u w')∧BK18 0 ev tt k s (ofN ba 64) (ofN fa 64):=by
 obtain⟨g,M,E,he,hM,hE1,hE2,hv⟩:=of_nrm ba hbc
 exact⟨rzN 64 0 (ofN ba 64),rz_cls _,fun u hT=>constant_walk 0 ba fa wa ev tt k (ofN ba 64) _ u (fun u2 k=>sof_any ba 64 hb1 hb2 (.inl rfl) hbc u2 (hT.kept k)) (fun u2 v k nv=>sround_any 64 (.inl rfl) _ hv v u2 (hT.kept k) nv),.inr (.inr (.inr (.inr (.inr (.inr (.inr ⟨rfl,dnr_any _ hv⟩))))))⟩
theorem steps_both (ba fa wa ev tt k:Int)(hb1:-9223372036854775808≤ba)(hb2:ba≤9223372036854775807)(hbc:cls ba 64<3)(hf1:-9223372036854775808≤fa)(hf2:fa≤9223372036854775807)(hfc:cls fa 64<3)(hk0:0≤k)(hk1:k≤1099511627776)(he:0<ev)(he2:ev≤1099511627776):∃s:Int,Cl4 s∧(∀u,Tab u→Calls Tryz.prog 62 #[.agg #[.int .i64 1,.int .i64 ba,.int .i64 fa,.int .i64 wa,.int .i64 ev,.int .i64 tt],.int .i64 k] u fun e w'=>e=.returned (.int .i64 s)∧Kept u w')∧BK18 1 ev tt k s (ofN ba 64) (ofN fa 64):=by
 obtain⟨g,M,E,heb,hM,hE1,hE2,hv⟩:=of_nrm ba hbc
 obtain⟨g',M',E',hef,hM',hE1',hE2',hv'⟩:=of_nrm fa hfc
 have hq:0≤k.tdiv ev:=Int.tdiv_nonneg hk0 (by omega)
 have hq2:k.tdiv ev≤k:=by rw[Int.tdiv_eq_ediv_of_nonneg hk0];exact Int.ediv_le_self _ hk0
 have hw:IntKind.i64.wrap (k.tdiv ev)=k.tdiv ev:=by rw[wrap_i64];omega
 obtain⟨t,ht,ht9⟩:∃t:Nat,min (k.tdiv ev) 900=(t:Int)∧t≤900:=⟨(min (k.tdiv ev) 900).toNat,by omega,by omega⟩
 have vp:=pw_vld g' M' E' hM' hE1' hE2' t ht9
 have bp:=bl_pow_le M' 53 hM' t
 have ep:=ne_bd hE1' hE2' t ht9
 have e1:tms (ofN ba 64) (pw g' M' E' t)=nrm (g != gx g' t) (M*M'^t) (E+(t:Int)*E'):=by rw[heb];exact tms_nrm _ _ _ _ _ _ (by omega) (by omega) (by omega) (by omega)
 have bb:=bl_mul_le M (M'^t) 53 47701 hM (by omega)
 have vt:vld (tms (ofN ba 64) (pw g' M' E' t))=true:=by rw[e1];exact nrm_vld _ _ _ (by omega) (by omega) (by omega)
 refine⟨rzN 64 0 (tms (ofN ba 64) (pw g' M' E' t)),rz_cls _,fun u hT=>?_,.inl ⟨rfl,fun h=>by omega,_,_,_,hw,?_,dtm_any _ _ hv vp,dnr_any _ vt⟩⟩
 ·exact steps_walk 1 ba fa wa ev tt k _ _ (by omega) (by simp;omega) hw rfl (ofN fa 64) (ofN ba 64) (pw g' M' E' t) (tms (ofN ba 64) (pw g' M' E' t)) _ u (fun u2 k=>sof_any fa 64 hf1 hf2 (.inl rfl) hfc u2 (hT.kept k)) (fun u2 k=>sof_any ba 64 hb1 hb2 (.inl rfl) hbc u2 (hT.kept k)) (fun u2 v k nv=>by
   rw[hef]at nv
   have:=raised_pw g' M' E' hM' hE1' hE2' t ht9 u2 v (hT.kept k) nv
   rwa [←ht]at this) (fun u2 v v' k nv nv'=>by
   have:=smulT (ofN ba 64) (pw g' M' E' t) hv vp v v' u2 (hT.kept k) nv nv'
   rwa [mulT_tms _ _ hv vp vt]at this) (fun u2 v k nv=>sround_any 64 (.inl rfl) _ vt v u2 (hT.kept k) nv)
 ·rw[ht,hef]
  exact dpw_any g' M' E' hM' hE1' hE2' t ht9
theorem fade_both (kd:Int)(ba fa wa ev tt k:Int)(g:Nat)(hg0:0<g)(hg8:g≤8)(hb1:-9223372036854775808≤ba)(hb2:ba≤9223372036854775807)(hbc:cls ba 64<3)(hk0:0≤k)(hk1:k≤1099511627776)(ht:0<tt)(ht2:tt≤1099511627776):∃s:Int,Cl4 s∧(∀u,Tab u→Calls Tryz.prog 92 #[.agg #[.int .i64 kd,.int .i64 ba,.int .i64 fa,.int .i64 wa,.int .i64 ev,.int .i64 tt],.int .i64 k,.int .i64 (g:Int)] u fun e w'=>e=.returned (.int .i64 s)∧Kept u w')∧((tt≤k∧s=0)∨(¬tt≤k∧∃z:Nm,IntKind.i64.wrap (tt-k)=tt-k∧Dwh (tt-k) (nrm false (tt-k).toNat 0)∧Dpw (nrm false (tt-k).toNat 0) (g:Int) (pw false (tt-k).toNat 0 g)∧Dtm (ofN ba 64) (pw false (tt-k).toNat 0 g) z∧Dwh tt (nrm false tt.toNat 0)∧Dpw (nrm false tt.toNat 0) (g:Int) (pw false tt.toNat 0 g)∧Dqt z (pw false tt.toNat 0 g) s)):=by
 have hw:IntKind.i64.wrap (tt-k)=tt-k:=by rw[wrap_i64];omega
 obtain⟨d,hd⟩:∃d,max 0 (tt-k)=d:=⟨_,rfl⟩
 have bT:=bl_cnt tt (by omega) (by omega)
 have bD:=bl_cnt d (by omega) (by omega)
 obtain⟨vD,-,iD⟩:=int_nrm d (by omega) (by omega)
 obtain⟨vT,-,iT⟩:=int_nrm tt (by omega) (by omega)
 have pf:∀A:Nat,pw false A 0 g=nrm false (A^g) 0:=fun A=>by unfold pw gx;simp
 have b1:=bl_pow_le d.toNat 42 bD g
 have b2:=bl_pow_le tt.toNat 42 bT g
 have hne:(nrm false (tt.toNat^g) 0).mag≠[]:=by
  have h0:tt.toNat^g≠0:=Nat.pos_iff_ne_zero.1 (Nat.pow_pos (by omega))
  have:=(nrm_rg false (tt.toNat^g) 0).2
  intro h
  rw[h]at this
  have h2:=nv_digs (tt.toNat^g/2^tzn (tt.toNat^g))
  rw[←this]at h2
  exact(bl_sub _ h0).2 h2.symm
 obtain⟨s,z,hs,hs0,K1,K2,K3⟩:=share_both ba hb1 hb2 hbc (d.toNat^g) (tt.toNat^g) (by omega) (by omega) hne
 have hprog:∀u,Tab u→Calls Tryz.prog 92 #[.agg #[.int .i64 kd,.int .i64 ba,.int .i64 fa,.int .i64 wa,.int .i64 ev,.int .i64 tt],.int .i64 k,.int .i64 (g:Int)] u fun e w'=>e=.returned (.int .i64 s)∧Kept u w':=fun u hT=>
  fading_walk kd ba fa wa ev tt k g d (by rw[hw];exact hd) (nrm false d.toNat 0) (nrm false tt.toNat 0) (pw false d.toNat 0 g) (pw false tt.toNat 0 g) s u (fun u2 k=>iD u2 (hT.kept k)) (fun u2 k=>iT u2 (hT.kept k)) (fun u2 v k nv=>raised_pw false d.toNat 0 (by omega) (by decide) (by decide) g (by omega) u2 v (hT.kept k) nv) (fun u2 v k nv=>raised_pw false tt.toNat 0 (by omega) (by decide) (by decide) g (by omega) u2 v (hT.kept k) nv) (fun u2 v v' k nv nv'=>by
   rw[pf]at nv nv'
   exact K1 u2 v v' (hT.kept k) nv nv')
 by_cases hk:tt≤k
 ·obtain rfl:d=0:=by omega
  refine⟨s,hs,hprog,.inl ⟨hk,?_⟩⟩
  exact hs0 (by rw[show(0:Int).toNat=0 from rfl];exact Nat.zero_pow hg0)
 ·obtain rfl:d=tt-k:=by omega
  refine⟨s,hs,hprog,.inr ⟨hk,z,hw,dwh_any _ (by omega) (by omega),dpw_any false _ 0 (by omega) (by decide) (by decide) g (by omega),?_,dwh_any _ (by omega) (by omega),dpw_any false _ 0 (by omega) (by decide) (by decide) g (by omega),?_⟩⟩
  ·rw[pf];exact K2
  ·rw[pf];exact K3
theorem sqr_both (ba fa wa ev tt k:Int)(hb1:-9223372036854775808≤ba)(hb2:ba≤9223372036854775807)(hbc:cls ba 64<3)(hk0:0≤k)(hk1:k≤1099511627776)(he:0<ev)(he2:ev≤1099511627776):∃s:Int,Cl4 s∧(∀u,Tab u→Calls Tryz.prog 64 #[.agg #[.int .i64 3,.int .i64 ba,.int .i64 fa,.int .i64 wa,.int .i64 ev,.int .i64 tt],.int .i64 k] u fun e w'=>e=.returned (.int .i64 s)∧Kept u w')∧BK18 3 ev tt k s (ofN ba 64) (ofN fa 64):=by
 obtain⟨g,M,E,heb,hM,hE1,hE2,hv⟩:=of_nrm ba hbc
 have hw:IntKind.i64.wrap (ev+k)=ev+k:=by rw[wrap_i64];omega
 obtain⟨v1,-,i1⟩:=int_nrm ev (by omega) (by omega)
 obtain⟨v2,g2,i2⟩:=int_nrm (ev+k) (by omega) (by omega)
 have b1:=bl_cnt ev (by omega) (by omega)
 have bs:=bl_mul_le M M 53 53 hM hM
 have bt:=bl_mul_le (M*M) ev.toNat 106 42 bs b1
 have e1:tms (ofN ba 64) (ofN ba 64)=nrm false (M*M) (E+E):=by
  rw[heb,tms_nrm _ _ _ _ _ _ (by omega) (by omega) (by omega) (by omega)]
  cases g<;>rfl
 have e2:tms (tms (ofN ba 64) (ofN ba 64)) (nrm false ev.toNat 0)=nrm false (M*M*ev.toNat) (E+E+0):=by rw[e1,tms_nrm _ _ _ _ _ _ (by omega) (by omega) (by omega) (by omega)];rfl
 have w1:vld (tms (ofN ba 64) (ofN ba 64))=true:=by rw[e1];exact nrm_vld _ _ _ (by omega) (by omega) (by omega)
 have w2:vld (tms (tms (ofN ba 64) (ofN ba 64)) (nrm false ev.toNat 0))=true:=by rw[e2];exact nrm_vld _ _ _ (by omega) (by omega) (by omega)
 have ng:∀v x,(nrm false v x).neg=false:=fun v x=>by unfold nrm;split<;>rfl
 obtain⟨s,hs,K1,K2⟩:=sroot_both _ _ w2 v2 (g2 (by omega)) (by rw[e2];exact ng _ _) (ng _ _)
 refine⟨s,hs,fun u hT=>?_,.inr (.inr (.inr (.inl ⟨rfl,ev+k,_,_,_,_,hw,dtm_any _ _ hv hv,dwh_any ev (by omega) (by omega),dtm_any _ _ w1 v1,dwh_any (ev+k) (by omega) (by omega),K2⟩)))⟩
 exact rroot_walk 3 ba fa wa ev tt k _ hw (ofN ba 64) (tms (ofN ba 64) (ofN ba 64)) (nrm false ev.toNat 0) (nrm false (ev+k).toNat 0) _ s u (fun u2 k=>sof_any ba 64 hb1 hb2 (.inl rfl) hbc u2 (hT.kept k)) (fun u2 v k nv=>by
  have:=smulT (ofN ba 64) (ofN ba 64) hv hv v v u2 (hT.kept k) nv nv
  rwa [mulT_tms _ _ hv hv w1]at this) (fun u2 k=>i1 u2 (hT.kept k)) (fun u2 v v' k nv nv'=>by
  have:=smulT _ (nrm false ev.toNat 0) w1 v1 v v' u2 (hT.kept k) nv nv'
  rwa [mulT_tms _ _ w1 v1 w2]at this) (fun u2 k=>i2 u2 (hT.kept k)) (fun u2 v v' k nv nv'=>K1 _ _ u2 (hT.kept k) nv nv')
theorem Vz.pls18 {s X Y:Int}{x y r:Nm}(hx:Vz s X x)(hy:Vz s Y y)(hr:Vz s (X+Y) r):pls x y=r:=by
 have h:=hx.add hy hr
 rw[add_ans x y hx.ok hy.ok]at h
 split at h
 ·exact Option.some.inj h
 ·cases h
theorem Vz.mns18 {s X Y:Int}{x y r:Nm}(hx:Vz s X x)(hy:Vz s Y y)(hr:Vz s (X-Y) r):pls x (trn y)=r:=by
 have h:=hx.sub hy hr
 rw[sub_ans x y hx.ok hy.ok]at h
 split at h
 ·exact Option.some.inj h
 ·cases h
theorem Vz.tms18 {s t X Y:Int}{x y r:Nm}(h1:-20000≤s)(h2:s≤0)(hx:Vz s X x)(hy:Vz s Y y)(ht:t=s+s)(hr:Vz t (X*Y) r):tms x y=r∧mulT x y=r:=by
 have h:=Vz.mul h1 h2 hx hy ht hr.eq
 refine⟨?_,by unfold mulT;rw[h];rfl⟩
 rw[mul_ans x y hx.ok hy.ok]at h
 split at h
 ·exact Option.some.inj h
 ·cases h
theorem nm_mul {X Y:Int}{a b:Nat}(hX:X.natAbs<2^a)(hY:Y.natAbs<2^b):(X*Y).natAbs<2^(a+b):=by
 rw[Int.natAbs_mul,Nat.pow_add]
 rcases Nat.eq_zero_or_pos X.natAbs with h0|h0
 ·rw[h0,Nat.zero_mul];exact Nat.mul_pos (Nat.two_pow_pos _) (Nat.two_pow_pos _)
 ·exact Nat.mul_lt_mul'' hX hY
theorem nm_add {X Y:Int}{a:Nat}(hX:X.natAbs<2^a)(hY:Y.natAbs<2^a):(X+Y).natAbs<2^(a+1):=by
 rw[Nat.pow_succ]
 have:=Int.natAbs_add_le X Y
 omega
theorem nm_up {n a b:Nat}(h:n<2^a)(hab:a≤b):n<2^b:=Nat.lt_of_lt_of_le h (Nat.pow_le_pow_right (by decide) hab)
theorem int_vz (p:Int)(h0:0≤p)(h:p<4398046511104)(P:Int)(K:Nat)(hK:K=1074)(hP:P=2^K):Vz (-1074) (p*P) (nrm false p.toNat 0):=by
 have hz:p.natAbs<2^42:=by
  have hh:(2:Nat)^42=4398046511104:=(by decide)
  omega
 obtain⟨y,hy⟩:=vz_mk 0 p (by decide) (by decide) (nm_up hz (by unfold expS;omega))
 have hr:=cfm_nrm hy.eq
 rw[decide_eq_false (by omega),show p.natAbs=p.toNat by omega]at hr
 rw[hr,hP]
 have h2:((2:Int)^K).natAbs<2^(K+1):=by
  rw[Int.natAbs_pow]
  exact Nat.pow_lt_pow_right (by decide) (by omega)
 exact hy.down K (by omega) (by decide) (by decide) (nm_up (nm_mul hz h2) (by unfold expS;omega))
theorem tri_both (ba fa wa ev tt k:Int)(hb1:-9223372036854775808≤ba)(hb2:ba≤9223372036854775807)(hbc:cls ba 64<3)(hf1:-9223372036854775808≤fa)(hf2:fa≤9223372036854775807)(hfc:cls fa 64<3)(hk0:0≤k)(hk1:k≤1099511627776)(he:0<ev)(he2:ev≤1099511627776):∃s:Int,Cl4 s∧(∀u,Tab u→Calls Tryz.prog 65 #[.agg #[.int .i64 4,.int .i64 ba,.int .i64 fa,.int .i64 wa,.int .i64 ev,.int .i64 tt],.int .i64 k] u fun e w'=>e=.returned (.int .i64 s)∧Kept u w')∧BK18 4 ev tt k s (ofN ba 64) (ofN fa 64):=by
 have hw:IntKind.i64.wrap (2*ev)=2*ev:=by rw[wrap_i64];omega
 obtain⟨pp,hpp⟩:∃p,k.tmod (2*ev)=p:=⟨_,rfl⟩
 have hp:0≤pp∧pp<2*ev:=by
  rw[←hpp,Int.tmod_eq_emod_of_nonneg hk0]
  exact⟨Int.emod_nonneg _ (by omega),Int.emod_lt_of_pos _ (by omega)⟩
 have hd:IntKind.i64.wrap (2*ev-pp)=2*ev-pp:=by rw[wrap_i64];omega
 obtain⟨qq,hqq⟩:∃q,min pp (2*ev-pp)=q:=⟨_,rfl⟩
 have hq:0≤qq∧qq≤ev:=by omega
 have hed:IntKind.i64.wrap (ev-qq)=ev-qq:=by rw[wrap_i64];omega
 obtain⟨w1,-,i1⟩:=int_nrm (ev-qq) (by omega) (by omega)
 obtain⟨w2,-,i2⟩:=int_nrm qq (by omega) (by omega)
 obtain⟨w3,g3,i3⟩:=int_nrm ev (by omega) (by omega)
 obtain⟨zb,bb⟩:=zf_vz ba 64 (.inl rfl) hbc
 obtain⟨zf',bf⟩:=zf_vz fa 64 (.inl rfl) hfc
 obtain⟨EB,hEB⟩:∃E:Nat,E=2200:=⟨_,rfl⟩
 have bb:=bb EB hEB
 have bf:=bf EB hEB
 obtain⟨K,hK⟩:∃K:Nat,K=1074:=⟨_,rfl⟩
 obtain⟨P,hP⟩:∃P:Int,P=2^K:=⟨_,rfl⟩
 have z1:=int_vz (ev-qq) (by omega) (by omega) P K hK hP
 have z2:=int_vz qq (by omega) (by omega) P K hK hP
 have z3:=int_vz ev (by omega) (by omega) P K hK hP
 have bP:P.natAbs<2^(K+1):=by
  rw[hP,Int.natAbs_pow]
  exact Nat.pow_lt_pow_right (by decide) (by omega)
 have bI:∀p:Int,0≤p→p<4398046511104→(p*P).natAbs<2^(42+(K+1)):=fun p h0 h1=>nm_mul (by
  have hh:(2:Nat)^42=4398046511104:=(by decide)
  omega) bP
 obtain⟨B,hB⟩:∃B,zf ba 64=B:=⟨_,rfl⟩
 obtain⟨F,hF⟩:∃F,zf fa 64=F:=⟨_,rfl⟩
 rw[hB]at zb bb
 rw[hF]at zf' bf
 have hX:∀E,E≤8000→E≤expS:=fun E h=>by unfold expS;omega
 have mk:∀(s Z:Int) (E:Nat),-20000≤s→s≤0→E≤8000→Z.natAbs<2^E→∃x,Vz s Z x:=fun s Z E h1 h2 hE hz=>vz_mk s Z h1 h2 (nm_up hz (hX E hE))
 have cB3:=nm_mul bb (bI ev (by omega) (by omega))
 have cB1:=nm_mul bb (bI (ev-qq) (by omega) (by omega))
 have cF2:=nm_mul bf (bI qq (by omega) (by omega))
 have bn:(F-B).natAbs<2^(EB+1):=by
  rw[Int.sub_eq_add_neg]
  exact nm_add bf (by rw[Int.natAbs_neg];exact bb)
 have cD2:=nm_mul bn (bI qq (by omega) (by omega))
 obtain⟨n2,hn2⟩:=mk (-2148) (B*(ev*P)) _ (by decide) (by decide) (by omega) cB3
 obtain⟨n3,hn3⟩:=mk (-1074) (F-B) _ (by decide) (by decide) (by omega) bn
 obtain⟨n5,hn5⟩:=mk (-2148) ((F-B)*(qq*P)) _ (by decide) (by decide) (by omega) cD2
 obtain⟨n6,hn6⟩:=mk (-2148) (B*(ev*P)+(F-B)*(qq*P)) _ (by decide) (by decide) (by omega) (nm_add (a:=EB+1+(42+(K+1))) (nm_up cB3 (by omega)) (nm_up cD2 (by omega)))
 obtain⟨s1,hs1⟩:=mk (-2148) (B*((ev-qq)*P)) _ (by decide) (by decide) (by omega) cB1
 obtain⟨s2,hs2⟩:=mk (-2148) (F*(qq*P)) _ (by decide) (by decide) (by omega) cF2
 have eV:B*((ev-qq)*P)+F*(qq*P)=B*(ev*P)+(F-B)*(qq*P):=by
  rw[Int.sub_mul ev qq P,Int.mul_sub,Int.sub_mul F B]
  omega
 have hs3:Vz (-2148) (B*((ev-qq)*P)+F*(qq*P)) n6:=by rw[eV];exact hn6
 have t2:=Vz.tms18 (by decide) (by decide) zb z3 (t:=-2148) (by decide) hn2
 have t3:=Vz.mns18 zf' zb hn3
 have t5:=Vz.tms18 (by decide) (by decide) hn3 z2 (t:=-2148) (by decide) hn5
 have t6:=Vz.pls18 hn2 hn5 hn6
 have u1:=Vz.tms18 (by decide) (by decide) zb z1 (t:=-2148) (by decide) hs1
 have u2:=Vz.tms18 (by decide) (by decide) zf' z2 (t:=-2148) (by decide) hs2
 have u3:addT s1 s2=n6:=by
  unfold addT
  rw[hs1.add hs2 hs3]
  rfl
 obtain⟨s,hs,-,K1,K2⟩:=squot_both n6 (nrm false ev.toNat 0) hn6.ok w3 (g3 he)
 have d1:=dtm_any _ _ zb.ok w3
 rw[t2.1]at d1
 have d2:=dmi_any _ _ zf'.ok zb.ok
 rw[t3]at d2
 have d3:=dtm_any _ _ hn3.ok w2
 rw[t5.1]at d3
 have d4:=dpl_any _ _ hn2.ok hn5.ok
 rw[t6]at d4
 refine⟨s,hs,fun u hT=>?_,.inr (.inr (.inr (.inr (.inl ⟨rfl,2*ev,pp,2*ev-pp,qq,_,n2,n3,_,n5,n6,hw,fun h=>by omega,hpp,hd,hqq,dwh_any ev (by omega) (by omega),d1,d2,dwh_any qq (by omega) (by omega),d3,d4,K2⟩))))⟩
 exact triangle_walk 4 ba fa wa ev tt k _ _ _ _ _ hw (by omega) (by simp;omega) hpp hd hqq hed (ofN ba 64) (ofN fa 64) (nrm false (ev-qq).toNat 0) (nrm false qq.toNat 0) (nrm false ev.toNat 0) s1 s2 n6 s u (fun u2 k=>sof_any ba 64 hb1 hb2 (.inl rfl) hbc u2 (hT.kept k)) (fun u2 k=>sof_any fa 64 hf1 hf2 (.inl rfl) hfc u2 (hT.kept k)) (fun u2 k=>i1 u2 (hT.kept k)) (fun u2 k=>i2 u2 (hT.kept k)) (fun u2 k=>i3 u2 (hT.kept k)) (fun u2 v v' k nv nv'=>by
  have:=smulT _ _ zb.ok w1 v v' u2 (hT.kept k) nv nv'
  rwa [u1.2]at this) (fun u2' v v' k nv nv'=>by
  have:=smulT _ _ zf'.ok w2 v v' u2' (hT.kept k) nv nv'
  rwa [u2.2]at this) (fun u2 v v' k nv nv'=>by
  have:=saddT s1 s2 hs1.ok hs2.ok v v' u2 (hT.kept k) nv nv'
  rwa [u3]at this) (fun u2 v v' k nv nv'=>K1 _ _ u2 (hT.kept k) nv nv')
end Go.Proofs.YtnniljhdcplkgaaGreatDoor
