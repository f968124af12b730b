/-  -/
import Derived.Test.YtnniljhdcplkgaaGreatDoorWs18
import Derived.Test.YtnniljhdcplkgaaGreatDoorWs24
namespace Go.Proofs.YtnniljhdcplkgaaGreatDoor
open Go.ChangeShapes Go.WideShapes Go.ChangeAt Go.RowKit
set_option maxHeartbeats 16000000
set_option maxRecDepth 100000
set_option linter.unusedVariables false
set_option linter.unusedSimpArgs false
def dg (V i:Nat):Nat:=V/2^(30*i)%1073741824
theorem dg_lt (V i:Nat):dg V i<1073741824:=Nat.mod_lt _ (by decide)
theorem pow30k (k:Nat):2^(30*(k+1))=2^(30*k)*1073741824:=by
 rw[Nat.mul_add,Nat.pow_add]
theorem dg_split (V k:Nat):V/2^(30*k)=V/2^(30*(k+1))*1073741824+dg V k:=by
 unfold dg
 rw[pow30k,←Nat.div_div_eq_div_mul]
 omega
theorem dg_mod (V k:Nat):V%2^(30*(k+1))=V%2^(30*k)+2^(30*k)*dg V k:=by
 unfold dg
 rw[pow30k,Nat.mod_mul]
theorem bel_eq (V U k:Nat)(h:V/2^(30*(k+1))=U/2^(30*(k+1)))(hd:dg V k=dg U k):V/2^(30*k)=U/2^(30*k):=by
 rw[dg_split V k,dg_split U k,h,hd]
theorem bel_lt (V U k:Nat)(h:V/2^(30*(k+1))=U/2^(30*(k+1)))(hd:dg V k<dg U k):V<U:=by
 apply Decidable.byContradiction
 intro hn
 have:=Nat.div_le_div_right (c:=2^(30*k)) (show U≤V by omega)
 rw[dg_split V k,dg_split U k,h]at this
 omega
theorem dg_zero_hi (V n:Nat)(h:V<2^(30*(n+1))):dg V n=V/2^(30*n):=by
 unfold dg
 rw[pow30k]at h
 exact Nat.mod_eq_of_lt (Nat.div_lt_of_lt_mul h)
def nmr (V U g k:Nat):Int:=((V%2^(30*k):Nat):Int)-(g:Int)*((U%2^(30*k):Nat):Int)
def ovr (V U g k:Nat):Int:=nmr V U g k/((2^(30*k):Nat):Int)
theorem ovr_zero (V U g:Nat):ovr V U g 0=0:=by
 unfold ovr nmr
 rw[Nat.mul_zero,Nat.pow_zero,Nat.mod_one,Nat.mod_one]
 simp
theorem nmr_succ (V U g k:Nat):nmr V U g (k+1)=nmr V U g k+((dg V k:Int)-(g:Int)*(dg U k:Int))*((2^(30*k):Nat):Int):=by
 unfold nmr
 rw[dg_mod,dg_mod,Int.natCast_add,Int.natCast_add,Int.natCast_mul,Int.natCast_mul,Int.mul_add,Int.sub_mul]
 have e1:((2^(30*k):Nat):Int)*(dg V k:Int)=(dg V k:Int)*((2^(30*k):Nat):Int):=Int.mul_comm _ _
 have e2:(g:Int)*(((2^(30*k):Nat):Int)*(dg U k:Int))=(g:Int)*(dg U k:Int)*((2^(30*k):Nat):Int):=by rw[Int.mul_assoc,Int.mul_comm ((2^(30*k):Nat):Int)]
 rw[e1,e2]
 omega
theorem nmr_div (V U g k:Nat):nmr V U g (k+1)/((2^(30*k):Nat):Int)=ovr V U g k+((dg V k:Int)-(g:Int)*(dg U k:Int)):=by
 have hp:((2^(30*k):Nat):Int)≠0:=by have:=Nat.two_pow_pos (30*k);omega
 rw[nmr_succ,Int.add_mul_ediv_right _ _ hp]
 rfl
theorem ovr_step (V U g k:Nat):(ovr V U g k+((dg V k:Int)-(g:Int)*(dg U k:Int)))/1073741824=ovr V U g (k+1):=by
 rw[←nmr_div]
 unfold ovr
 rw[pow30k,Int.natCast_mul,←Int.ediv_ediv_of_nonneg (Int.natCast_nonneg _)]
 rfl
theorem ovr_digit (V U g k:Nat)(h:g*U≤V):(ovr V U g k+((dg V k:Int)-(g:Int)*(dg U k:Int)))%1073741824=(dg (V-g*U) k:Int):=by
 rw[←nmr_div]
 have hp:=Nat.two_pow_pos (30*k)
 have hdv:=Nat.div_add_mod V (2^(30*(k+1)))
 have hdu:=Nat.div_add_mod U (2^(30*(k+1)))
 have e:((V-g*U:Nat):Int)=nmr V U g (k+1)+(((V/2^(30*(k+1)):Nat):Int)-(g:Int)*((U/2^(30*(k+1)):Nat):Int))*1073741824*((2^(30*k):Nat):Int):=by
  unfold nmr
  rw[Int.natCast_sub h,Int.natCast_mul]
  have v1:(V:Int)=((2^(30*(k+1)):Nat):Int)*((V/2^(30*(k+1)):Nat):Int)+((V%2^(30*(k+1)):Nat):Int):=by
   rw[←Int.natCast_mul,←Int.natCast_add,hdv]
  have u1:(U:Int)=((2^(30*(k+1)):Nat):Int)*((U/2^(30*(k+1)):Nat):Int)+((U%2^(30*(k+1)):Nat):Int):=by
   rw[←Int.natCast_mul,←Int.natCast_add,hdu]
  have q:((2^(30*(k+1)):Nat):Int)=1073741824*((2^(30*k):Nat):Int):=by rw[pow30k,Int.natCast_mul,Int.mul_comm];rfl
  conv=>lhs;rw[v1,u1]
  rw[q]
  generalize ((V/2^(30*(k+1)):Nat):Int)=a
  generalize ((U/2^(30*(k+1)):Nat):Int)=b
  generalize ((V%2^(30*(k+1)):Nat):Int)=c
  generalize ((U%2^(30*(k+1)):Nat):Int)=d
  generalize ((2^(30*k):Nat):Int)=P
  have t1:(g:Int)*(1073741824*P*b+d)=(g:Int)*b*1073741824*P+(g:Int)*d:=by
   rw[Int.mul_add];congr 1
   ac_rfl
  have t2:1073741824*P*a=a*1073741824*P:=by ac_rfl
  have t3:(a-(g:Int)*b)*1073741824*P=a*1073741824*P-(g:Int)*b*1073741824*P:=by rw[Int.sub_mul,Int.sub_mul]
  rw[t1,t2,t3]
  omega
 unfold dg
 rw[Int.natCast_emod,Int.natCast_ediv,e,Int.add_mul_ediv_right _ _ (by omega)]
 exact(Int.add_mul_emod_self_right _ _ _).symm
theorem ovr_last (V U g n:Nat)(h:g*U≤V)(hV:V<2^(30*(n+1)))(hU:U<2^(30*n)):(dg V n:Int)+ovr V U g n=(dg (V-g*U) n:Int):=by
 have hp:=Nat.two_pow_pos (30*n)
 have e:=nmr_div V U g n
 have hu0:dg U n=0:=by unfold dg;rw[Nat.div_eq_of_lt hU]
 rw[hu0]at e
 have en:nmr V U g (n+1)=((V-g*U:Nat):Int):=by
  unfold nmr
  rw[Nat.mod_eq_of_lt hV,Nat.mod_eq_of_lt (Nat.lt_of_lt_of_le hU (Nat.pow_le_pow_right (by decide) (by omega))),Int.natCast_sub h,Int.natCast_mul]
 rw[en,←Int.natCast_ediv,←dg_zero_hi _ _ (Nat.lt_of_le_of_lt (Nat.sub_le _ _) hV)]at e
 rw[e]
 simp
 omega
theorem ovr_bounds (V U g k:Nat):-(g:Int)-1≤ovr V U g k∧ovr V U g k≤0:=by
 have hp:=Nat.two_pow_pos (30*k)
 have hv:V%2^(30*k)<2^(30*k):=Nat.mod_lt _ hp
 have hu:U%2^(30*k)<2^(30*k):=Nat.mod_lt _ hp
 unfold ovr nmr
 generalize V%2^(30*k)=a at *
 generalize U%2^(30*k)=b at *
 generalize 2^(30*k)=P at *
 have hgb:g*b≤g*P:=Nat.mul_le_mul_left _ (by omega)
 have hgb':(g:Int)*(b:Int)≤(g:Int)*(P:Int):=by rw[←Int.natCast_mul,←Int.natCast_mul];omega
 have hgb0:0≤(g:Int)*(b:Int):=by rw[←Int.natCast_mul];omega
 constructor
 ·apply Int.le_ediv_of_mul_le (by omega)
  rw[Int.sub_mul,Int.neg_mul]
  omega
 ·have:((a:Int)-(g:Int)*(b:Int))/(P:Int)<1:=Int.ediv_lt_of_lt_mul (by omega) (by omega)
  omega
theorem guess_ok (V U n:Nat)(hV:V<2^(30*(n+1+1)))(hU2:U<2^(30*(n+1)))(hUV:U≤V)(g:Nat)(hg:g=max 1 ((V/2^(30*n))/(U/2^(30*n)+1))):g*U≤V∧1≤g:=by
 refine⟨?_,by omega⟩
 by_cases h1:g=1
 ·rw[h1];omega
 ·have hg2:g=V/2^(30*n)/(U/2^(30*n)+1):=by omega
  have hp:=Nat.two_pow_pos (30*n)
  have a1:U≤(U/2^(30*n)+1)*2^(30*n):=by
   have:=Nat.div_add_mod U (2^(30*n))
   have:=Nat.mod_lt U hp
   rw[Nat.add_mul,Nat.one_mul,Nat.mul_comm]
   omega
  have a2:g*(U/2^(30*n)+1)≤V/2^(30*n):=by rw[hg2];exact Nat.div_mul_le_self _ _
  calc g*U≤g*((U/2^(30*n)+1)*2^(30*n)):=Nat.mul_le_mul_left _ a1
   _=g*(U/2^(30*n)+1)*2^(30*n):=by rw[Nat.mul_assoc]
   _≤V/2^(30*n)*2^(30*n):=Nat.mul_le_mul_right _ a2
   _≤V:=Nat.div_mul_le_self _ _
theorem guess_lt (V U n:Nat)(hV:V<2^(30*(n+1+1)))(hU1:2^(30*n)*536870912≤U):V/2^(30*n)<1152921504606846976∧536870912≤U/2^(30*n)∧V/2^(30*n)/(U/2^(30*n)+1)<2147483648:=by
 have hp:=Nat.two_pow_pos (30*n)
 have h1:V/2^(30*n)<1152921504606846976:=by
  rw[Nat.div_lt_iff_lt_mul hp]
  rw[pow30k,pow30k]at hV
  rw[Nat.mul_comm]
  rw[Nat.mul_assoc]at hV
  exact hV
 have h2:536870912≤U/2^(30*n):=by
  rw[Nat.le_div_iff_mul_le hp,Nat.mul_comm];exact hU1
 refine⟨h1,h2,?_⟩
 rw[Nat.div_lt_iff_lt_mul (by omega)]
 omega
def DgAt (w:World)(g off m V:Nat):Prop:=∀i,i<m→w.cell? ⟨g,off+i,none⟩=some (.int .i64 ((dg V i:Nat):Int))
theorem DgAt.kept {w w':World}{g off m V:Nat}(h:DgAt w g off m V)(k:Kept w w'):DgAt w' g off m V:=fun i hi=>(k.below.cell (p:=⟨g,off+i,none⟩) (World.block_lt_of_cell? w _ (h i hi))).trans (h i hi)
theorem below_any (g off cap h cap2 n:Nat)(hn:0<n)(hn2:n<100000)(V U:Nat)(hV0:V<2^(30*(n+1)))(hU0:U<2^(30*n))(w:World)(RX0:DgAt w g off (n+1) V)(RU0:DgAt w h 0 n U):Calls Tryz.prog 164 #[.slice (some ⟨g,off,none⟩) (n+1) cap,.slice (some ⟨h,0,none⟩) n cap2] w fun e w'=>e=.returned (.bool (decide (V<U)))∧Kept w w':=by
 have RX:Hid (DgAt w g off (n+1) V):=RX0
 have RU:Hid (DgAt w h 0 n U):=RU0
 have HV:Hid (V<2^(30*(n+1))):=hV0
 have HU:Hid (U<2^(30*n)):=hU0
 have ct:=RX0 n (by omega)
 obtain⟨d,hd⟩:∃d,dg V n=d:=⟨_,rfl⟩
 have HD:Hid (dg V n=d):=hd
 rw[hd]at ct
 clear hd RX0 RU0 hV0 hU0
 obtain⟨res,hres⟩:∃res,decide (V<U)=res:=⟨_,rfl⟩
 have HRes:Hid (decide (V<U)=res):=hres
 rw[hres]
 clear hres
 by_cases hd0:d=0
 ·subst hd0
  have hz:V/2^(30*n)=0:=by rw[←dg_zero_hi V n HV.out];exact HD.out
  have HZ:Hid (V/2^(30*(n-0))=U/2^(30*(n-0))):=by
   show V/2^(30*(n-0))=U/2^(30*(n-0))
   rw[Nat.sub_zero,hz,Nat.div_eq_of_lt HU.out]
  clear hz
  go_enter Tryz.func164,Tryz.ntmps164
  go_wp2
  go_loopw [16] (fun i wr=>∃k:Nat,k≤n∧i=.int .i64 k∧Kept w wr∧V/2^(30*(n-k))=U/2^(30*(n-k))) (fun i _=>n-(intOf i).toNat)
  case atStart=>exact⟨0,Nat.zero_le _,rfl,Kept.refl _,HZ.out⟩
  case round=>
   obtain⟨k,hk,rfl,hKr,he⟩:=hrel
   have HE:Hid (V/2^(30*(n-k))=U/2^(30*(n-k))):=he
   clear he
   by_cases hkn:k<n
   ·obtain⟨n1,hn1⟩:∃n1:Nat,n=n1+1:=⟨n-1,by omega⟩
    obtain⟨j,hj⟩:∃j:Nat,n1=j+k:=⟨n1-k,by omega⟩
    have e1:(n:Int)-1=(n1:Int):=by omega
    have e2:(n1:Int)-(k:Int)=(j:Int):=by omega
    have z1:IntKind.i64.wrap (n1:Int)=(n1:Int):=by rw[wrap_i64];omega
    have z2:IntKind.i64.wrap (j:Int)=(j:Int):=by rw[wrap_i64];omega
    have hjn:j<n:=by omega
    have hj1:(j:Int)<(n:Int)+1:=by omega
    have hj2:(j:Int)<(n:Int):=by omega
    have HE2:Hid (V/2^(30*(j+1))=U/2^(30*(j+1))):=by
     have:=HE.out
     rw[show n-k=j+1 by omega]at this
     exact this
    have HJ:Hid (n-(k+1)=j):=by show n-(k+1)=j;omega
    have cx:=(RX.out.kept hKr) j (by omega)
    have cu:=(RU.out.kept hKr) j (by omega)
    obtain⟨xv,hx⟩:∃xv,dg V j=xv:=⟨_,rfl⟩
    obtain⟨uv,hu⟩:∃uv,dg U j=uv:=⟨_,rfl⟩
    rw[hx]at cx
    rw[hu,Nat.zero_add]at cu
    have HX:Hid (dg V j=xv∧dg U j=uv):=⟨hx,hu⟩
    clear hx hu hn1 hj HE
    go_wp2_with fail
    refine wp_region_held_drew (S:=fun u=>u.cell? ⟨g,off+j,none⟩=some (.int .i64 (xv:Int))∧u.cell? ⟨h,j,none⟩=some (.int .i64 (uv:Int))) (by kernel_rfl) ⟨cx,cu⟩ (fun hHeld=>?_)
    refine tk (i:=0) (v:=?_) rfl ?_
    simp only[Act.put,zA,zB,zC,zD,zE,zF]
    refine tk (i:=1) (v:=?_) rfl ?_
    simp only[Act.put,zA,zB,zC,zD,zE,zF]
    refine tk (i:=2) (v:=?_) rfl ?_
    simp only[Act.put,zA,zB,zC,zD,zE,zF]
    refine tk (i:=3) (v:=?_) rfl ?_
    simp only[Act.put,zA,zB,zC,zD,zE,zF]
    refine tk (i:=4) (v:=?_) rfl ?_
    simp only[Act.put,zA,zB,zC,zD,zE,zF]
    refine tk (i:=5) (v:=?_) rfl ?_
    simp only[Act.put,zA,zB,zC,zD,zE,zF]
    refine tk (i:=6) (v:=?_) rfl ?_
    simp only[Act.put,zA,zB,zC,zD,zE,zF]
    refine tk (i:=7) (v:=?_) rfl ?_
    simp only[Act.put,zA,zB,zC,zD,zE,zF]
    refine tk (i:=8) (v:=?_) rfl ?_
    simp only[Act.put,zA,zB,zC,zD,zE,zF]
    refine tk (i:=9) (v:=?_) rfl ?_
    simp only[Act.put,zA,zB,zC,zD,zE,zF]
    refine tk (i:=10) (v:=?_) rfl ?_
    simp only[Act.put,zA,zB,zC,zD,zE,zF]
    refine tk (i:=11) (v:=?_) rfl ?_
    simp only[Act.put,zA,zB,zC,zD,zE,zF]
    refine tk (i:=12) (v:=?_) rfl ?_
    simp only[Act.put,zA,zB,zC,zD,zE,zF]
    refine tk (i:=13) (v:=?_) rfl ?_
    simp only[Act.put,zA,zB,zC,zD,zE,zF]
    refine wpAnyH_ready (rs:=[14]) (by kernel_rfl) (by simp) ?_
    refine AllReadyH.cons rfl (fun K hK9=>?_) AllReadyH.nil
    go_simp
    go_wp2_with fail
    refine(compare_cz _ _ _).mono ?_
    rintro e w2 ⟨rfl,rfl⟩
    refine hK9.out _ _ ⟨cx,cu⟩ (fun hHeld2=>?_)
    clear hK9 K hHeld
    refine tk (i:=15) (v:=?_) rfl ?_
    simp only[Act.put,zA,zB,zC,zD,zE,zF]
    refine wpAnyH_done (by kernel_rfl) ?_ _
    clear hHeld2
    rcases Nat.lt_trichotomy xv uv with hl|hl|hl
    ·rw[cz_lt (show(xv:Int)<(uv:Int) by omega)]
     have hr:res=true:=by rw[←HRes.out];exact decide_eq_true (bel_lt V U j HE2.out (by rw[HX.out.1,HX.out.2];exact hl))
     subst hr
     go_wp2
     go_ret
     exact⟨rfl,hKr.drew⟩
    ·rw[cz_eq (show(xv:Int)=(uv:Int) by omega)]
     go_wp2
     go_roundw
     case rel=>exact⟨k+1,by omega,by go_num,hKr.drew,by rw[HJ.out];exact bel_eq V U j HE2.out (by rw[HX.out.1,HX.out.2];exact hl)⟩
     case measure=>simp[intOf];omega
    ·rw[cz_gt (show(uv:Int)<(xv:Int) by omega)]
     have hr:res=false:=by
      rw[←HRes.out]
      have:=bel_lt U V j HE2.out.symm (by rw[HX.out.1,HX.out.2];exact hl)
      exact decide_eq_false (by omega)
     subst hr
     go_wp2
     go_ret
     exact⟨rfl,hKr.drew⟩
   ·obtain rfl:k=n:=by omega
    have hE:=HE.out
    rw[Nat.sub_self,Nat.mul_zero,Nat.pow_zero,Nat.div_one,Nat.div_one]at hE
    have hr:res=false:=by rw[←HRes.out];exact decide_eq_false (by omega)
    subst hr
    go_wp2
    go_ret
    exact⟨rfl,hKr⟩
 ·have hb:((d:Int) != 0)=true:=by simpa [bne_iff_ne] using (show ¬(d:Int)=0 by omega)
  have hb2:((d:Int)==0)=false:=by rw[beq_eq_false_iff_ne];omega
  have hge:¬V<U:=by
   intro hlt
   have:=Nat.div_le_div_right (c:=2^(30*n)) (Nat.le_of_lt hlt)
   rw[←dg_zero_hi V n HV.out,HD.out,Nat.div_eq_of_lt HU.out]at this
   omega
  have hr:res=false:=by rw[←HRes.out];exact decide_eq_false hge
  subst hr
  clear hge
  go_enter Tryz.func164,Tryz.ntmps164
  go_wp2
  go_ret
  exact⟨rfl,Kept.refl _⟩
end Go.Proofs.YtnniljhdcplkgaaGreatDoor

namespace Go.Proofs.YtnniljhdcplkgaaGreatDoor
open Go.ChangeShapes Go.WideShapes Go.ChangeAt Go.RowKit
set_option maxHeartbeats 16000000
set_option maxRecDepth 100000
set_option linter.unusedVariables false
set_option linter.unusedSimpArgs false
structure TK (g off n:Nat) (w w':World):Prop where
 grw:Grw g w w'
 rest:∀i,(i<off∨off+n<i)→w'.cell? ⟨g,i,none⟩=w.cell? ⟨g,i,none⟩
theorem TK.refl (g off n:Nat)(w:World):TK g off n w w:=⟨Grw.refl _ _,fun _ _=>rfl⟩
theorem TK.kept {g off n:Nat}{w a b:World}(hg:g<w.heap.size)(h:TK g off n w a)(k:Kept a b):TK g off n w b:=
 ⟨h.grw.trans (k.toGrw g),fun i hi=>(k.below.cell (p:=⟨g,i,none⟩) (Nat.lt_of_lt_of_le hg h.grw.grown.size)).trans (h.rest i hi)⟩
theorem TK.set {g off n:Nat}{w a:World}(h:TK g off n w a)(j:Nat)(hj:j≤n)(v:Value):TK g off n w (a.setCell ⟨g,off+j,none⟩ v):=
 ⟨h.grw.setCell _ _,fun i hi=>by
  exact(World.cell?_setCell_other a ⟨g,off+j,none⟩ ⟨g,i,none⟩ v (by intro he;injection he with _ he;omega)).trans (h.rest i hi)⟩
theorem DgAt.off_block {w w':World}{g h m V:Nat}(hd:DgAt w h 0 m V)(hgh:h≠g)(k:Grw g w w'):DgAt w' h 0 m V:=fun i hi=>by
 have hc:=hd i hi
 have hb:=World.block_lt_of_cell? w _ hc
 exact(World.cell?_of_block (a:=⟨h,0+i,none⟩) (k.grown.block h hb (by simpa using hgh))).trans hc
theorem or_30 (xn xm T2:Nat)(hm:xm<1073741824)(hn:xn<1073741824)(hT:T2=xn*1073741824+xm):bits .or .i64 ((xn:Int)*1073741824) (xm:Int)=(T2:Int):=by
 have e:(2:Nat)^30=1073741824:=by decide
 have:=or_low xm xn 30 (by rw[e];exact hm) (by rw[e];omega)
 rw[e]at this
 rw[show((xn*1073741824:Nat):Int)=(xn:Int)*1073741824 by omega,show((xm+xn*1073741824:Nat):Int)=(T2:Int) by omega]at this
 exact this
theorem quo_nat (a b:Nat):(a:Int).tdiv ((b:Int)+1)=((a/(b+1):Nat):Int):=by
 rw[Int.tdiv_eq_ediv_of_nonneg (by omega),Int.natCast_ediv]
 rfl
theorem take_any (g off cap h cap2 n:Nat)(hgh:h≠g)(hn:0<n)(hn2:n<100000)(V U:Nat)(hV0:V<2^(30*(n+1)))(hU1:2^(30*(n-1))*536870912≤U)(hU0:U<2^(30*n))(hVU:V<U*4294967296)(w:World)(hg0:g<w.heap.size)(RX0:DgAt w g off (n+1) V)(RU0:DgAt w h 0 n U)(FZ0:∀i,w.frozen? ⟨g,i,none⟩=false):Calls Tryz.prog 153 #[.slice (some ⟨g,off,none⟩) (n+1) cap,.slice (some ⟨h,0,none⟩) n cap2] w fun e w'=>e=.returned (.int .i64 ((V/U:Nat):Int))∧DgAt w' g off (n+1) (V%U)∧TK g off n w w':=by
 have RX:Hid (DgAt w g off (n+1) V):=RX0
 have RU:Hid (DgAt w h 0 n U):=RU0
 have FZ:Hid (∀i,w.frozen? ⟨g,i,none⟩=false):=FZ0
 have HV:Hid (V<2^(30*(n+1))):=hV0
 have HU:Hid (2^(30*(n-1))*536870912≤U∧U<2^(30*n)∧V<U*4294967296):=⟨hU1,hU0,hVU⟩
 have HG0:Hid (g<w.heap.size):=hg0
 clear RX0 RU0 FZ0 hV0 hU0 hU1 hVU hg0
 obtain⟨n1,hn1⟩:∃n1:Nat,n=n1+1:=⟨n-1,by omega⟩
 have HN:Hid (n=n1+1):=hn1
 have hn1i:(n:Int)-1=(n1:Int):=by omega
 have hn1n:(n1:Int)<(n:Int):=by omega
 have hn1n':(n1:Int)<(n:Int)+1:=by omega
 have hn1b:n1<100000:=by omega
 have hnn:(n:Int)<(n:Int)+1:=by omega
 clear hn1
 have zn1:IntKind.i64.wrap (n1:Int)=(n1:Int):=by rw[wrap_i64];omega
 obtain⟨res,hres⟩:∃res,V/U=res:=⟨_,rfl⟩
 have HRes:Hid (V/U=res):=hres
 rw[hres]
 clear hres
 go_enter Tryz.func153,Tryz.ntmps153
 go_wp2
 go_loopw [6] (fun tv wr=>∃(t X:Nat),tv=.int .i64 t∧V=t*U+X∧DgAt wr g off (n+1) X∧TK g off n w wr) (fun tv _=>V-(intOf tv).toNat)
 case atStart=>exact⟨0,V,rfl,by rw[Nat.zero_mul,Nat.zero_add],RX.out,TK.refl _ _ _ _⟩
 case round=>
  obtain⟨t,X,rfl,hVX,hDX,hTK⟩:=hrel
  have HVX:Hid (V=t*U+X):=hVX
  have HDX:Hid (DgAt wr g off (n+1) X):=hDX
  have HTK:Hid (TK g off n w wr):=hTK
  have hXV:X≤V:=by rw[hVX];exact Nat.le_add_left _ _
  have HX:Hid (X<2^(30*(n+1))):=Nat.lt_of_le_of_lt hXV HV.out
  have hU0:0<U:=Nat.lt_of_lt_of_le (Nat.mul_pos (Nat.two_pow_pos _) (by decide)) HU.out.1
  have ht:t<4294967296:=by
   have h1:=HU.out.2.2
   rw[hVX]at h1
   apply Decidable.byContradiction
   intro hge
   have:=Nat.mul_le_mul_right U (show 4294967296≤t by omega)
   rw[Nat.mul_comm 4294967296 U]at this
   omega
  have KB:Hid (Calls Tryz.prog 164 #[.slice (some ⟨g,off,none⟩) (n+1) cap,.slice (some ⟨h,0,none⟩) n cap2] wr fun e w'=>e=.returned (.bool (decide (X<U)))∧Kept wr w'):=below_any g off cap h cap2 n hn hn2 X U HX.out HU.out.2.1 wr hDX (RU.out.off_block hgh hTK.grw)
  clear hVX hDX hTK hXV
  by_cases hlt:X<U
  ·rw[decide_eq_true hlt]at KB
   go_wp2_with fail
   refine KB.out.mono ?_
   rintro e w1 ⟨rfl,k1⟩
   have e1:V/U=t∧V%U=X:=by
    rw[HVX.out]
    rw[Nat.mul_comm]
    exact⟨by rw[Nat.mul_add_div hU0,Nat.div_eq_of_lt hlt,Nat.add_zero],by rw[Nat.mul_add_mod,Nat.mod_eq_of_lt hlt]⟩
   have hr:res=t:=by rw[←HRes.out];exact e1.1
   have HE:Hid (V%U=X):=e1.2
   subst hr
   clear e1
   go_wp2
   go_ret
   exact⟨rfl,by rw[HE.out];exact HDX.out.kept k1,HTK.out.kept HG0.out k1⟩
  ·rw [decide_eq_false hlt]at KB
   have hUX:U≤X:=by omega
   obtain⟨gs,hgs⟩:∃gs,gs=max 1 ((X/2^(30*n1))/(U/2^(30*n1)+1)):=⟨_,rfl⟩
   have hN:=HN.out
   have hx2:=HX.out
   have hu3:=HU.out
   rw[hN]at hx2 hu3
   rw[Nat.add_sub_cancel]at hu3
   obtain⟨gU,g1⟩:=guess_ok X U n1 hx2 hu3.2.1 hUX gs hgs
   obtain⟨t1,t2,t3⟩:=guess_lt X U n1 hx2 hu3.1
   have HGU:Hid (gs*U≤X):=gU
   have hgs31:gs<2147483648:=by omega
   obtain⟨T2,hT2⟩:∃T2,X/2^(30*n1)=T2:=⟨_,rfl⟩
   obtain⟨ut,hut⟩:∃ut,U/2^(30*n1)=ut:=⟨_,rfl⟩
   have hut2:dg U n1=ut:=by rw[dg_zero_hi U n1 hu3.2.1];exact hut
   obtain⟨xn,hxn⟩:∃xn,dg X n=xn:=⟨_,rfl⟩
   obtain⟨xm,hxm⟩:∃xm,dg X n1=xm:=⟨_,rfl⟩
   have hT3:T2=xn*1073741824+xm:=by
    rw[←hT2,←hxn,←hxm,dg_split X n1,hN,←dg_zero_hi X (n1+1) hx2]
   have bxn:=dg_lt X n
   have bxm:=dg_lt X n1
   have but:=dg_lt U n1
   rw[hxn]at bxn
   rw[hxm]at bxm
   rw[hut2]at but
   rw[hT2]at hgs t1 t3
   rw[hut]at hgs t2 t3
   have cn:=HDX.out n (by omega)
   have cm:=HDX.out n1 (by omega)
   have cu:=(RU.out.off_block hgh HTK.out.grw) n1 (by omega)
   rw[hxn]at cn
   rw[hxm]at cm
   rw[hut2,Nat.zero_add]at cu
   have o1':bits .or .i64 ((xn:Int)*1073741824) (xm:Int)=(T2:Int):=by
    exact or_30 xn xm T2 bxm bxn hT3
   obtain⟨xs,hxs⟩:∃xs:Nat,(xn:Int)*1073741824=(xs:Int):=⟨xn*1073741824,by omega⟩
   have zx:IntKind.i64.wrap ((xn:Int)*1073741824)=(xs:Int):=by rw[wrap_i64];omega
   have o1:bits .or .i64 (xs:Int) (xm:Int)=(T2:Int):=by rw[←hxs];exact o1'
   obtain⟨ud,hud⟩:∃ud:Nat,ud=ut+1:=⟨_,rfl⟩
   have zu:IntKind.i64.wrap ((ut:Int)+1)=(ud:Int):=by rw[wrap_i64];omega
   have hu10:¬ud=0:=by omega
   clear o1' hxs
   obtain⟨qd,hqd⟩:∃qd:Nat,T2/(ut+1)=qd:=⟨_,rfl⟩
   rw[hqd]at hgs t3
   have o2:(T2:Int).tdiv (ud:Int)=(qd:Int):=by
    rw[show(ud:Int)=(ut:Int)+1 by omega,quo_nat,hqd]
   have zq:IntKind.i64.wrap (qd:Int)=(qd:Int):=by rw[wrap_i64];omega
   have o3:max (1:Int) (qd:Int)=(gs:Int):=by omega
   clear hud
   clear hgs hT2 hut hut2 hxn hxm hT3 hqd hN hx2 hu3 gU t1 t2
   go_wp2_with fail
   refine KB.out.mono ?_
   rintro e w1 ⟨rfl,k1⟩
   have cn1:=(k1.below.cell (p:=⟨g,off+n,none⟩) (World.block_lt_of_cell? wr _ cn)).trans cn
   have cm1:=(k1.below.cell (p:=⟨g,off+n1,none⟩) (World.block_lt_of_cell? wr _ cm)).trans cm
   have cu1:=(k1.below.cell (p:=⟨h,n1,none⟩) (World.block_lt_of_cell? wr _ cu)).trans cu
   have HDX1:Hid (DgAt w1 g off (n+1) X):=HDX.out.kept k1
   have HTK1:Hid (TK g off n w w1):=HTK.out.kept HG0.out k1
   clear cn cm cu k1 HDX HTK
   go_wp2_with fail
   refine wp_region_held_drew (S:=fun u=>(u.cell? ⟨g,off+n,none⟩=some (.int .i64 (xn:Int))∧u.cell? ⟨g,off+n1,none⟩=some (.int .i64 (xm:Int)))∧u.cell? ⟨h,n1,none⟩=some (.int .i64 (ut:Int))) (by kernel_rfl) ⟨⟨cn1,cm1⟩,cu1⟩ (fun hHeld=>?_)
   refine tk (i:=0) (v:=?_) rfl ?_
   simp only[Act.put,zA,zB,zC,zD,zE,zF]
   refine tk (i:=1) (v:=?_) rfl ?_
   simp only[Act.put,zA,zB,zC,zD,zE,zF]
   refine tk (i:=2) (v:=?_) rfl ?_
   simp only[Act.put,zA,zB,zC,zD,zE,zF]
   refine tk (i:=3) (v:=?_) rfl ?_
   simp only[Act.put,zA,zB,zC,zD,zE,zF]
   refine tk (i:=4) (v:=?_) rfl ?_
   simp only[Act.put,zA,zB,zC,zD,zE,zF]
   refine tk (i:=5) (v:=?_) rfl ?_
   simp only[Act.put,zA,zB,zC,zD,zE,zF]
   refine tk (i:=6) (v:=?_) rfl ?_
   simp only[Act.put,zA,zB,zC,zD,zE,zF]
   refine tk (i:=7) (v:=?_) rfl ?_
   simp only[Act.put,zA,zB,zC,zD,zE,zF]
   refine tk (i:=8) (v:=?_) rfl ?_
   simp only[Act.put,zA,zB,zC,zD,zE,zF]
   refine tk (i:=9) (v:=?_) rfl ?_
   simp only[Act.put,zA,zB,zC,zD,zE,zF]
   refine tk (i:=10) (v:=?_) rfl ?_
   simp only[Act.put,zA,zB,zC,zD,zE,zF]
   refine tk (i:=11) (v:=?_) rfl ?_
   simp only[Act.put,zA,zB,zC,zD,zE,zF]
   refine tk (i:=12) (v:=?_) rfl ?_
   simp only[Act.put,zA,zB,zC,zD,zE,zF]
   refine tk (i:=13) (v:=?_) rfl ?_
   simp only[Act.put,zA,zB,zC,zD,zE,zF]
   refine tk (i:=14) (v:=?_) rfl ?_
   simp only[Act.put,zA,zB,zC,zD,zE,zF]
   refine tk (i:=15) (v:=?_) rfl ?_
   simp only[Act.put,zA,zB,zC,zD,zE,zF]
   refine tk (i:=16) (v:=?_) rfl ?_
   simp only[Act.put,zA,zB,zC,zD,zE,zF]
   refine tk (i:=17) (v:=?_) rfl ?_
   simp only[Act.put,zA,zB,zC,zD,zE,zF]
   refine tk (i:=18) (v:=?_) rfl ?_
   simp only[Act.put,zA,zB,zC,zD,zE,zF]
   refine tk (i:=19) (v:=?_) rfl ?_
   simp only[Act.put,zA,zB,zC,zD,zE,zF]
   refine wpAnyH_done (by kernel_rfl) ?_ _
   clear hHeld
   have HD2:Hid (DgAt w1.drew g off (n+1) X):=HDX1.out.kept (Kept.refl _).drew
   have HT2:Hid (TK g off n w w1.drew):=HTK1.out.kept HG0.out (Kept.refl _).drew
   clear HDX1 HTK1 cn1 cm1 cu1 o1 o2 o3 zx zu zq hu10
   obtain⟨X',hX'⟩:∃X',X-gs*U=X':=⟨_,rfl⟩
   have HX':Hid (X-gs*U=X'):=hX'
   clear hX'
   go_wp2_with fail
   go_loopw [8,36] (fun ov iv wi=>∃(k:Nat) (o:Int),k≤n∧iv=.int .i64 k∧ov=.int .i64 o∧o=ovr X U gs k∧(∀i,i<k→wi.cell? ⟨g,off+i,none⟩=some (.int .i64 ((dg X' i:Nat):Int)))∧(∀i,k≤i→i<n+1→wi.cell? ⟨g,off+i,none⟩=some (.int .i64 ((dg X i:Nat):Int)))∧TK g off n w wi) (fun _ iv _=>n-(intOf iv).toNat)
   case atStart=>exact⟨0,0,Nat.zero_le _,rfl,rfl,(ovr_zero X U gs).symm,fun i hi=>absurd hi (by omega),fun i _ hi=>HD2.out i hi,HT2.out⟩
   case round=>
    obtain⟨k,o,hk,rfl,rfl,ho,hlo,hhi,hTi⟩:=hrel
    have ob:=ovr_bounds X U gs k
    rw[←ho]at ob
    have HO:Hid (o=ovr X U gs k):=ho
    have HLO:Hid (∀i,i<k→wr.cell? ⟨g,off+i,none⟩=some (.int .i64 ((dg X' i:Nat):Int))):=hlo
    have HHI:Hid (∀i,k≤i→i<n+1→wr.cell? ⟨g,off+i,none⟩=some (.int .i64 ((dg X i:Nat):Int))):=hhi
    have HTI:Hid (TK g off n w wr):=hTi
    clear ho hlo hhi hTi
    by_cases hkn:k<n
    ·have hki:(k:Int)<(n:Int):=by omega
     have hki':(k:Int)<(n:Int)+1:=by omega
     have cx:=HHI.out k (Nat.le_refl _) (by omega)
     have cu:=(RU.out.off_block hgh HTI.out.grw) k hkn
     have ff:wr.frozen? ⟨g,off+k,none⟩=false:=(HTI.out.grw.frozen _).trans (FZ.out _)
     have dst:=ovr_step X U gs k
     have ddg:=ovr_digit X U gs k HGU.out
     rw[HX'.out]at ddg
     rw[←HO.out]at dst ddg
     have ob2:=ovr_bounds X U gs (k+1)
     obtain⟨xv,hxv⟩:∃xv,dg X k=xv:=⟨_,rfl⟩
     obtain⟨uv,huv⟩:∃uv,dg U k=uv:=⟨_,rfl⟩
     obtain⟨dv,hdv⟩:∃dv,dg X' k=dv:=⟨_,rfl⟩
     obtain⟨o2,ho2⟩:∃o2,ovr X U gs (k+1)=o2:=⟨_,rfl⟩
     have bx:=dg_lt X k
     have bu:=dg_lt U k
     rw[hxv]at cx dst ddg bx
     rw[huv]at cu dst ddg bu
     rw[hdv]at ddg
     rw[ho2]at dst ob2
     rw[Nat.zero_add]at cu
     have HDV:Hid (dg X' k=dv):=hdv
     have HO2:Hid (ovr X U gs (k+1)=o2):=ho2
     obtain⟨p,hp⟩:∃p:Nat,gs*uv=p:=⟨_,rfl⟩
     have bp:p<2305843009213693952:=by
      rw[←hp]
      have:=Nat.mul_lt_mul'' hgs31 bu
      omega
     have ep:(gs:Int)*(uv:Int)=(p:Int):=by rw[←Int.natCast_mul,hp]
     have zp:IntKind.i64.wrap (p:Int)=(p:Int):=by rw[wrap_i64];omega
     rw[ep]at dst ddg
     obtain⟨e1,he1⟩:∃e1:Int,(xv:Int)-(p:Int)=e1:=⟨_,rfl⟩
     have ze1:IntKind.i64.wrap ((xv:Int)-(p:Int))=e1:=by rw[wrap_i64];omega
     rw[he1]at dst ddg
     obtain⟨e2,he2⟩:∃e2:Int,o+e1=e2:=⟨_,rfl⟩
     have ze2:IntKind.i64.wrap (o+e1)=e2:=by rw[wrap_i64];omega
     rw[he2]at dst ddg
     have hand:bits .and .i64 e2 1073741823=(dv:Int):=by rw[mask30];exact ddg
     clear hxv huv hdv ho2 hp he1 he2 ddg
     go_wp2_with fail
     refine wp_region_held_drew (S:=fun u=>u.cell? ⟨g,off+k,none⟩=some (.int .i64 (xv:Int))∧u.cell? ⟨h,k,none⟩=some (.int .i64 (uv:Int))) (by kernel_rfl) ⟨cx,cu⟩ (fun hHeld=>?_)
     refine tk (i:=0) (v:=?_) rfl ?_
     simp only[Act.put,zA,zB,zC,zD,zE,zF]
     refine tk (i:=1) (v:=?_) rfl ?_
     simp only[Act.put,zA,zB,zC,zD,zE,zF]
     refine tk (i:=2) (v:=?_) rfl ?_
     simp only[Act.put,zA,zB,zC,zD,zE,zF]
     refine tk (i:=3) (v:=?_) rfl ?_
     simp only[Act.put,zA,zB,zC,zD,zE,zF]
     refine tk (i:=4) (v:=?_) rfl ?_
     simp only[Act.put,zA,zB,zC,zD,zE,zF]
     refine tk (i:=5) (v:=?_) rfl ?_
     simp only[Act.put,zA,zB,zC,zD,zE,zF]
     refine tk (i:=6) (v:=?_) rfl ?_
     simp only[Act.put,zA,zB,zC,zD,zE,zF]
     refine tk (i:=7) (v:=?_) rfl ?_
     simp only[Act.put,zA,zB,zC,zD,zE,zF]
     refine tk (i:=8) (v:=?_) rfl ?_
     simp only[Act.put,zA,zB,zC,zD,zE,zF]
     refine tk (i:=9) (v:=?_) rfl ?_
     simp only[Act.put,zA,zB,zC,zD,zE,zF]
     refine tk (i:=10) (v:=?_) rfl ?_
     simp only[Act.put,zA,zB,zC,zD,zE,zF]
     refine tk (i:=11) (v:=?_) rfl ?_
     simp only[Act.put,zA,zB,zC,zD,zE,zF]
     refine tk (i:=12) (v:=?_) rfl ?_
     simp only[Act.put,zA,zB,zC,zD,zE,zF]
     refine tk (i:=13) (v:=?_) rfl ?_
     simp only[Act.put,zA,zB,zC,zD,zE,zF]
     refine wpAnyH_done (by kernel_rfl) ?_ _
     clear hHeld
     have ff2:wr.drew.frozen? ⟨g,off+k,none⟩=false:=ff
     have cx2:wr.drew.cell? ⟨g,off+k,none⟩=some (.int .i64 (xv:Int)):=cx
     go_wp2
     go_roundw
     case rel=>
      have hTd:TK g off n w wr.drew:=HTI.out.kept HG0.out (Kept.refl _).drew
      refine⟨k+1,o2,by omega,by go_num,by first|rfl|(rw[dst]),HO2.out.symm,fun i hi=>?_,fun i h1 h2=>?_,hTd.set k (by omega) _⟩
      ·by_cases hik:i=k
       ·subst hik
        rw[HDV.out]
        exact World.cell?_setCell_same _ _ _ cx2
       ·exact(World.cell?_setCell_other wr.drew ⟨g,off+k,none⟩ ⟨g,off+i,none⟩ _ (by intro he;injection he with _ he;omega)).trans (HLO.out i (by omega))
      ·exact(World.cell?_setCell_other wr.drew ⟨g,off+k,none⟩ ⟨g,off+i,none⟩ _ (by intro he;injection he with _ he;omega)).trans (HHI.out i (by omega) h2)
     case measure=>simp[intOf];omega
    ·obtain rfl:k=n:=by omega
     have cx:=HHI.out k (Nat.le_refl _) (by omega)
     have ff:wr.frozen? ⟨g,off+k,none⟩=false:=(HTI.out.grw.frozen _).trans (FZ.out _)
     have dl:=ovr_last X U gs k HGU.out HX.out HU.out.2.1
     rw[HX'.out,←HO.out]at dl
     obtain⟨xv,hxv⟩:∃xv,dg X k=xv:=⟨_,rfl⟩
     obtain⟨dv,hdv⟩:∃dv,dg X' k=dv:=⟨_,rfl⟩
     have HDV:Hid (dg X' k=dv):=hdv
     have bd:=dg_lt X' k
     rw[hxv]at cx dl
     rw[hdv]at dl bd
     have zl:IntKind.i64.wrap ((xv:Int)+o)=(dv:Int):=by rw[wrap_i64];omega
     have zt:IntKind.i64.wrap ((t:Int)+(gs:Int))=((t+gs:Nat):Int):=by rw[wrap_i64];omega
     clear hxv hdv
     go_wp2
     go_roundw
     case rel=>
      refine⟨t+gs,X',by go_num,?_,fun i hi=>?_,HTI.out.set k (Nat.le_refl _) _⟩
      ·have h1:=HVX.out
       have h2:=HX'.out
       have h3:=HGU.out
       rw[Nat.add_mul]
       omega
      ·by_cases hik:i=k
       ·subst hik
        rw[HDV.out]
        exact World.cell?_setCell_same _ _ _ cx
       ·exact(World.cell?_setCell_other wr ⟨g,off+k,none⟩ ⟨g,off+i,none⟩ _ (by intro he;injection he with _ he;omega)).trans (HLO.out i (by omega))
     case measure=>
      have h1:=HVX.out
      have h4:t*1≤t*U:=Nat.mul_le_mul_left _ hU0
      simp[intOf]
      omega
end Go.Proofs.YtnniljhdcplkgaaGreatDoor
