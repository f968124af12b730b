/-  -/
import Derived.Test.YtaglkncdedeipaaGreatDoorWt02
import Derived.Defers
import Derived.Recover
import Derived.OwnWalk
import Derived.Laws.Cover3
import Derived.Laws.OwnMore
import Derived.Laws.AppendOwn
namespace Go.Proofs.YtaglkncdedeipaaGreatDoor
open Go.ChangeShapes Go.WideShapes Go.ChangeAt Go.RowKit
set_option linter.unusedVariables false
set_option linter.unusedSimpArgs false
set_option maxHeartbeats 16000000
set_option maxRecDepth 100000
theorem qei (x:Nat)(h:x<2^63):Lib.bitLen x=bl x:=by
 by_cases h0:x=0
 ·subst h0;rfl
 ·have h1:=qO x h0
  have h2:=zg x 63 h
  obtain⟨m,hm⟩:∃m,bl x=m+1:=⟨bl x-1,by omega⟩
  rw[hm]at h1 ⊢
  exact vK m x (by omega) (by simpa using h1.1) h1.2.1
def Cn (L:List Int):Prop:=Dg L∧(L≠[]→L.getD (L.length-1) 0≠0)
theorem Cn.digs (n:Nat):Cn (digs n):=⟨za n,fun h=>vw n (fun h0=>h (by rw[h0,qN]))⟩
theorem qa3 (v n:Nat)(hd:v/2^n≠0):bl v=n+bl (v/2^n):=by
 have h6:=qO _ hd
 obtain⟨d,hv⟩:∃d,v/2^n=d:=⟨_,rfl⟩
 rw[hv]at h6 ⊢
 obtain⟨m,hm⟩:∃m,bl d=m+1:=⟨bl d-1,by have:=h6.2.2;omega⟩
 rw[hm]at h6 ⊢
 rw[Nat.add_sub_cancel]at h6
 rw[←Nat.add_assoc]
 apply Xl
 ·rw[qol,qoq]
  exact(Nat.le_div_iff_mul_le (qoj _)).1 (by rw[hv];exact h6.1)
 ·rw[show n+m+1=(m+1)+n by omega,qol]
  exact(Nat.div_lt_iff_lt_mul (qoj _)).1 (by rw[hv];exact h6.2.1)
theorem Yw (L:List Int)(hL:Dg L)(n:Nat)(hn:L.length=n+1)(hl:L.getD n 0≠0):((n:Int)+1-1)*30+((bl (L.getD n 0).toNat:Nat):Int)=((bl (nv L):Nat):Int):=by
 have h1:=zZ L hL n
 have h2:=zJ L hL
 have h4:=hL.getD n
 rw[hn,Qf]at h2
 have h5:nv L/2^(30*n)<1073741824:=by
  rw[Nat.div_lt_iff_lt_mul (qoj _)];exact h2
 rw[Nat.mod_eq_of_lt h5]at h1
 have h6:nv L/2^(30*n)≠0:=by rw[←h1];omega
 have h7:=qa3 _ _ h6
 rw[←h1]at h7
 rw[h7]
 clear h1 h2 h5 h6 h7
 omega
theorem length_nil (ao:Option Addr)(cap:Nat)(w:World):Calls Tryz.prog 140 #[.slice ao 0 cap] w fun e w'=>e=.returned (.int .i64 0)∧w=w':=by
 go_enter Tryz.func140,Tryz.ntmps140
 go_wp2
 go_ret
 exact⟨rfl,rfl⟩
theorem Yx (n b off cap:Nat)(hn:n<100000000)(d:Int)(h0:0≤d)(h1:d<1073741824)(r:Nat)(hr:((n:Int)+1-1)*30+((bl d.toNat:Nat):Int)=(r:Int))(w:World)(hc:w.cell? ⟨b,off+n,none⟩=some (.int .i64 d)):Calls Tryz.prog 140 #[.slice (some ⟨b,off,none⟩) (n+1) cap] w fun e w'=>e=.returned (.int .i64 (r:Int))∧w=w':=by
 have K:Hid (∀w:World,Calls Tryz.prog 145 #[.int .u64 d] w fun e w'=>e=.returned (.int .i64 ((bl d.toNat:Nat):Int))∧w=w'):=by
  intro w
  have:=len d w h0 (by omega)
  rw[qei _ (by omega)]at this
  exact this
 have hb:bl d.toNat≤30:=zg _ _ (by omega)
 generalize bl d.toNat=k at *
 have e1:IntKind.u64.wrap d=d:=by rw[IntKind.wrap_u64];omega
 go_enter Tryz.func140,Tryz.ntmps140
 go_wp2_with (first|(go_at_call 145;refine(K.out _).mono ?_;rintro e w1 ⟨rfl,rfl⟩))
 go_ret
 rw[←show(n:Int)*30+(k:Int)=(r:Int) by omega]
 exact⟨rfl,rfl⟩
theorem zR (L:List Int)(hL:Cn L)(hlen:L.length<100000000)(v:Value)(w:World)(h:Sl w v L):Calls Tryz.prog 140 #[v] w fun e w'=>e=.returned (.int .i64 ((bl (nv L):Nat):Int))∧w=w':=by
 obtain⟨ao,cap,rfl,hc,hm,hr⟩:=h
 by_cases hne:L=[]
 ·subst hne;exact length_nil ao cap w
 ·obtain⟨b,off,rfl,hb,hr⟩:=hr hne
  have hpos:=List.length_pos_iff.2 hne
  obtain⟨n,hn⟩:∃n,L.length=n+1:=⟨L.length-1,by omega⟩
  have hd:=hL.1.getD n
  have hcell:=hr n (by omega)
  have hl:=hL.2 hne
  rw[hn,Nat.add_sub_cancel]at hl
  have hm:=Yw L hL.1 n hn hl
  rw[hn]
  exact Yx n b off cap (by omega) _ hd.1 hd.2 _ hm w hcell
theorem ZP (neg:Bool)(ao:Option Addr)(n cap:Nat)(x:Int)(w:World):Calls Tryz.prog 119 #[.agg #[.bool neg,.slice ao n cap,.int .i64 x]] w fun e w'=>e=.returned (.int .i64 (if n=0 then 0 else if neg=true then -1 else 1))∧Kept w w':=by
 cases neg<;>cases n
 all_goals
  go_enter Tryz.func119,Tryz.ntmps119
  go_wp2
  go_ret
  exact⟨by simp,(qo0 _).alloc _ _⟩
theorem qgm (X:Nat)(h:X<2^64):X&&& (2^64-2^30)=X/2^30*2^30:=by
 apply Nat.eq_of_testBit_eq
 intro j
 have f:(2^64-2^30:Nat)=2^30*(2^34-1)+0:=by decide
 have g:X/2^30*2^30=2^30*(X/2^30)+0:=by omega
 rw[Nat.testBit_and,f,g,Nat.testBit_two_pow_mul_add _ (by decide),Nat.testBit_two_pow_mul_add _ (by decide)]
 by_cases hj:j<30
 ·simp[hj]
 ·rw[if_neg hj,if_neg hj,Nat.testBit_two_pow_sub_one,Nat.testBit_div_two_pow]
  by_cases hk:j<64
  ·rw[show j-30+30=j by omega];simp;omega
  ·rw[show j-30+30=j by omega,Nat.testBit_lt_two_pow (i:=j) (x:=X) (qok h (qom (by decide) (by omega)))]
   simp
theorem qgn (d:Int)(h1:-9223372036854775808≤d)(h2:d≤9223372036854775807):bits .andNot .i64 d 1073741823=d/1073741824*1073741824:=by
 have e:(~~~ BitVec.ofInt 64 1073741823:BitVec 64).toNat=2^64-2^30:=by decide
 have h:=qD d
 rw[yb,BitVec.toNat_and,e,qgm _ (BitVec.isLt _),qg]
 omega
def Rg (L:List Int):Prop:=∀d∈L,-9223372036854775808≤d∧d≤9223372036854775807
theorem Rg.getD {L:List Int}(h:Rg L)(i:Nat):-9223372036854775808≤L.getD i 0∧L.getD i 0≤9223372036854775807:=by
 by_cases hi:i<L.length
 ·rw[qon,List.getElem?_eq_getElem hi]
  exact h _ (List.getElem_mem hi)
 ·rw[qon,List.getElem?_eq_none (by omega)]
  simp
theorem Dg.rg {L:List Int}(h:Dg L):Rg L:=fun d hd=>by have:=h d hd;omega
def dgb (L:List Int):Bool:=L.all fun d=>decide (0≤d∧d<1073741824)
theorem yN (L:List Int):dgb L=true↔Dg L:=by simp[dgb,Dg]
theorem qgo (L:List Int)(h:∀j,j<L.length→0≤L.getD j 0∧L.getD j 0<1073741824):dgb L=true:=(yN L).2 (Dg.of_getD h)
theorem qej (L:List Int)(j:Nat)(hj:j<L.length)(h:¬(0≤L.getD j 0∧L.getD j 0<1073741824)):dgb L=false:=by
 cases hb:dgb L
 ·rfl
 ·exact absurd (((yN L).1 hb).getD j) h
theorem ZQ (L:List Int)(hR:Rg L)(b off cap:Nat)(w:World)(hlen:L.length<100000000)(hr:Reads w b off L):Calls Tryz.prog 176 #[.slice (some ⟨b,off,none⟩) L.length cap] w fun e w'=>e=.returned (.bool (dgb L))∧w=w':=by
 obtain⟨n,hn⟩:∃n,n=L.length:=⟨_,rfl⟩
 have HN:Hid (n=L.length):=hn
 have HR:Hid (Reads w b off L):=hr
 rw[←hn]at hlen ⊢
 clear hr hn
 go_enter Tryz.func176,Tryz.ntmps176
 go_wp2
 go_loop [6] (fun i=>∃k:Nat,k≤n∧i=.int .i64 k∧∀j,j<k→0≤L.getD j 0∧L.getD j 0<1073741824) (fun i=>n-(intOf i).toNat)
 case atStart=>exact⟨0,Nat.zero_le _,rfl,fun j h=>by omega⟩
 case round=>
  obtain⟨k,hk,rfl,hd⟩:=hrel
  have HD:Hid (∀j,j<k→0≤L.getD j 0∧L.getD j 0<1073741824):=hd
  clear hd
  by_cases hkn:k<n
  ·have hcell:=HR.out k (by rw[←HN.out];exact hkn)
   have hg:=hR.getD k
   have ha:=qgn _ hg.1 hg.2
   obtain⟨d,hd⟩:∃d,d=L.getD k 0:=⟨_,rfl⟩
   have HE:Hid (d=L.getD k 0):=hd
   rw[←hd]at hcell hg ha
   clear hd
   by_cases hz:0≤d∧d<1073741824
   ·have hz2:d/1073741824*1073741824=0:=by omega
    rw[hz2]at ha
    go_wp2
    go_round
    case rel=>
     refine⟨k+1,by omega,by go_num,fun j hj=>?_⟩
     by_cases hjk:j=k
     ·subst hjk;rw[←HE.out];exact hz
     ·exact HD.out j (by omega)
    case measure=>simp[intOf];omega
   ·have hz2:(d/1073741824*1073741824 != 0)=true:=by simp;omega
    go_wp2
    go_ret
    refine⟨?_,rfl⟩
    rw[qej L k (by rw[←HN.out];exact hkn) (by rw[←HE.out];exact hz)]
    rfl
  ·go_wp2
   go_ret
   refine⟨?_,rfl⟩
   rw[qgo L (fun j hj=>HD.out j (by have:=HN.out;omega))]
   rfl
def ZR (n:Nat)(g:Bool)(d d0 x:Int):Bool:=decide ((n:Int)≤2000)&&g&&(d != 0)&&(bits .and .i64 d0 1==1)&&decide (-1048576≤x)&&decide (x≤1048576)
theorem qa4 (neg:Bool)(n b off cap:Nat)(hn:n<100000000)(d d0 x:Int)(g:Bool)(w:World)(hb:b<w.heap.size)(h0:w.cell? ⟨b,off,none⟩=some (.int .i64 d0))(h1:w.cell? ⟨b,off+n,none⟩=some (.int .i64 d))
  (K:Hid (∀w':World,Kept w w'→Calls Tryz.prog 176 #[.slice (some ⟨b,off,none⟩) (n+1) cap] w' fun e w''=>e=.returned (.bool g)∧w'=w'')):
  Calls Tryz.prog 160 #[.agg #[.bool neg,.slice (some ⟨b,off,none⟩) (n+1) cap,.int .i64 x]] w fun e w'=>e=.returned (.bool (ZR (n+1) g d d0 x))∧Kept w w':=by
 have hK:=(qo0 w).alloc #[.bool neg,.slice (some ⟨b,off,none⟩) (n+1) cap,.int .i64 x] 31
 have c0:=(hK.below.cell (p:=⟨b,off,none⟩) hb).trans h0
 have c1:=(hK.below.cell (p:=⟨b,off+n,none⟩) hb).trans h1
 clear h0 h1
 obtain⟨r,hr⟩:∃r,r=ZR (n+1) g d d0 x:=⟨_,rfl⟩
 rw[←hr]
 have HR:Hid (r=ZR (n+1) g d d0 x):=hr
 clear hr
 go_enter Tryz.func160,Tryz.ntmps160
 go_wp2_with (first|(go_at_call 176;refine(K.out _ hK).mono ?_;rintro e w1 ⟨rfl,rfl⟩))
 all_goals
  go_ret
  refine⟨?_,hK⟩
  rw[HR.out]
  clear HR c0 c1 K hK
  unfold ZR
  simp_all
  try omega
theorem qek (neg:Bool)(ao:Option Addr)(cap:Nat)(x:Int)(w:World):Calls Tryz.prog 160 #[.agg #[.bool neg,.slice ao 0 cap,.int .i64 x]] w fun e w'=>e=.returned (.bool (!neg&&x==0))∧Kept w w':=by
 cases neg
 all_goals
  go_enter Tryz.func160,Tryz.ntmps160
  go_wp2
  go_ret
  exact⟨by simp,(qo0 _).alloc _ _⟩
structure Nm where
 neg:Bool
 mag:List Int
 exp:Int
def vld (x:Nm):Bool:=if x.mag=[]then (!x.neg&&x.exp==0)else ZR x.mag.length (dgb x.mag) (x.mag.getD (x.mag.length-1) 0) (x.mag.getD 0 0) x.exp
def NumAt (w:World)(v:Value)(x:Nm):Prop:=∃s,v=.agg #[.bool x.neg,s,.int .i64 x.exp]∧Sl w s x.mag
theorem NumAt.kept {w w':World}{v:Value}{x:Nm}(h:NumAt w v x)(k:Kept w w'):NumAt w' v x:=by
 obtain⟨s,e,hs⟩:=h
 exact⟨s,e,hs.kept k⟩
theorem jc (x:Nm)(hR:Rg x.mag)(hlen:x.mag.length<100000000)(v:Value)(w:World)(h:NumAt w v x):Calls Tryz.prog 160 #[v] w fun e w'=>e=.returned (.bool (vld x))∧Kept w w':=by
 obtain⟨neg,L,ex⟩:=x
 dsimp only at hR hlen
 obtain⟨s,rfl,ao,cap,rfl,hc,hm,hr⟩:=h
 dsimp only at hc hr
 unfold vld
 by_cases hne:L=[]
 ·subst hne;exact qek neg ao cap ex w
 ·obtain⟨b,off,rfl,hb,hr⟩:=hr hne
  have hpos:=List.length_pos_iff.2 hne
  simp only[hne,if_false]
  have K:Hid (∀w':World,Kept w w'→Calls Tryz.prog 176 #[.slice (some ⟨b,off,none⟩) L.length cap] w' fun e w''=>e=.returned (.bool (dgb L))∧w'=w''):=fun w' k=>ZQ L hR b off cap w' hlen (hr.kept hb k)
  have h0:=hr 0 hpos
  have h1:=hr (L.length-1) (by omega)
  obtain⟨n,hn⟩:∃n,L.length=n+1:=⟨L.length-1,by omega⟩
  rw[hn]at K h1 hlen ⊢
  rw[Nat.add_sub_cancel]at h1 ⊢
  exact qa4 neg n b off cap (by omega) _ _ ex _ w hb h0 h1 K
def vI:List PanicEntry:=[{ v:=.iface 9 (.string { data:=#[97,32,110,117,109,98,101,114,32,116,111,111,32,108,111,110,103] }),recovered:=false }]
theorem qco (l x:Int)(h1:l≤60000)(h2:-1048576≤x)(h3:x≤1048576)(w:World):Calls Tryz.prog 139 #[.int .i64 l,.int .i64 x] w fun e w'=>e=.returned (.tuple #[])∧w=w':=by
 go_enter Tryz.func139,Tryz.ntmps139
 go_wp2
 go_end0
 exact⟨rfl,rfl⟩
theorem qgp (l x:Int)(h:60000<l∨x< -1048576∨1048576<x)(w:World):Calls Tryz.prog 139 #[.int .i64 l,.int .i64 x] w fun e w'=>e=.panicked vI∧w=w':=by
 rcases(show 60000<l∨(l≤60000∧x< -1048576)∨(l≤60000∧-1048576≤x∧1048576<x) by omega)with h|⟨h1,h⟩|⟨h1,h2,h⟩
 all_goals
  go_enter Tryz.func139,Tryz.ntmps139
  go_wp2
  exact⟨rfl,rfl,rfl⟩
theorem qa5 (w:World):Calls Tryz.prog 137 #[.slice none 0 0] w fun e w'=>e=.returned (.bool true)∧Kept w w':=by
 go_enter Tryz.func137,Tryz.ntmps137
 go_wp2
 refine wp_loop_rounds 1 ?_
 rw[rounds_succ]
 go_wp2
 go_ret
 exact⟨rfl,qo0 _⟩
theorem qa6 (w:World)(b cap:Nat)(n1:Bool)(a1:Option Addr)(l1 p1:Nat)(e1:Int)(g1:Bool)(hb:b<w.heap.size)
  (c0:w.cell? ⟨b,0,none⟩=some (.bool n1)) (c1:w.cell? ⟨b,1,none⟩=some (.slice a1 l1 p1)) (c2:w.cell? ⟨b,2,none⟩=some (.int .i64 e1))
  (K1:Hid (∀w',Kept w w'→Calls Tryz.prog 160 #[.agg #[.bool n1,.slice a1 l1 p1,.int .i64 e1]] w' fun e w''=>e=.returned (.bool g1)∧Kept w' w'')):
  Calls Tryz.prog 137 #[.slice (some ⟨b,0,none⟩) 1 cap] w fun e w'=>e=.returned (.bool g1)∧Kept w w':=by
 have hK:=(qo0 w).alloc #[.bool n1,.slice a1 l1 p1,.int .i64 e1] 31
 cases g1
 ·go_enter Tryz.func137,Tryz.ntmps137
  go_wp2
  refine wp_loop_rounds 2 ?_
  rw[rounds_succ]
  go_wp2_with (first|(go_at_call 160;refine(K1.out _ (by first|exact hK|assumption)).mono ?_;rintro e w1 ⟨rfl,hk1⟩))
  go_ret
  exact⟨rfl,hK.trans hk1⟩
 ·go_enter Tryz.func137,Tryz.ntmps137
  go_wp2
  refine wp_loop_rounds 2 ?_
  rw[rounds_succ]
  go_wp2_with (first|(go_at_call 160;refine(K1.out _ (by first|exact hK|assumption)).mono ?_;rintro e w1 ⟨rfl,hk1⟩))
  rw[rounds_succ]
  go_wp2
  go_ret
  exact⟨rfl,hK.trans hk1⟩
theorem kA (w:World)(b cap:Nat)(n1 n2:Bool)(a1 a2:Option Addr)(l1 p1 l2 p2:Nat)(e1 e2:Int)(g1 g2:Bool)(hb:b<w.heap.size)
  (c0:w.cell? ⟨b,0,none⟩=some (.bool n1)) (c1:w.cell? ⟨b,1,none⟩=some (.slice a1 l1 p1)) (c2:w.cell? ⟨b,2,none⟩=some (.int .i64 e1))
  (c3:w.cell? ⟨b,3,none⟩=some (.bool n2)) (c4:w.cell? ⟨b,4,none⟩=some (.slice a2 l2 p2)) (c5:w.cell? ⟨b,5,none⟩=some (.int .i64 e2))
  (K1:Hid (∀w',Kept w w'→Calls Tryz.prog 160 #[.agg #[.bool n1,.slice a1 l1 p1,.int .i64 e1]] w' fun e w''=>e=.returned (.bool g1)∧Kept w' w''))
  (K2:Hid (∀w',Kept w w'→Calls Tryz.prog 160 #[.agg #[.bool n2,.slice a2 l2 p2,.int .i64 e2]] w' fun e w''=>e=.returned (.bool g2)∧Kept w' w'')):
  Calls Tryz.prog 137 #[.slice (some ⟨b,0,none⟩) 2 cap] w fun e w'=>e=.returned (.bool (g1&&g2))∧Kept w w':=by
 have hK:=(qo0 w).alloc #[.bool n1,.slice a1 l1 p1,.int .i64 e1] 31
 have C3:Hid (∀w',Kept w w'→w'.cell? ⟨b,3,none⟩=some (.bool n2)):=fun w' k=>(k.below.cell (p:=⟨b,3,none⟩) hb).trans c3
 have C4:Hid (∀w',Kept w w'→w'.cell? ⟨b,4,none⟩=some (.slice a2 l2 p2)):=fun w' k=>(k.below.cell (p:=⟨b,4,none⟩) hb).trans c4
 have C5:Hid (∀w',Kept w w'→w'.cell? ⟨b,5,none⟩=some (.int .i64 e2)):=fun w' k=>(k.below.cell (p:=⟨b,5,none⟩) hb).trans c5
 clear c3 c4 c5
 cases g1
 ·rw[Bool.false_and]
  go_enter Tryz.func137,Tryz.ntmps137
  go_wp2
  refine wp_loop_rounds 3 ?_
  rw[rounds_succ]
  go_wp2_with (first|(go_at_call 160;refine(K1.out _ (by first|exact hK|assumption)).mono ?_;rintro e w1 ⟨rfl,hk1⟩))
  go_ret
  exact⟨rfl,hK.trans hk1⟩
 ·rw[Bool.true_and]
  cases g2
  ·go_enter Tryz.func137,Tryz.ntmps137
   go_wp2
   refine wp_loop_rounds 3 ?_
   rw[rounds_succ]
   go_wp2_with (first|(go_at_call 160;refine(K1.out _ (by first|exact hK|assumption)).mono ?_;rintro e w1 ⟨rfl,hk1⟩))
   have hk2:=hK.trans hk1
   have d3:=C3.out _ hk2
   have d4:=C4.out _ hk2
   have d5:=C5.out _ hk2
   have hk3:=hk2.alloc #[.bool n2,.slice a2 l2 p2,.int .i64 e2] 31
   clear hk1 hk2 c0 c1 c2 hK
   rw[rounds_succ]
   go_wp2_with (first|(go_at_call 160;refine(K2.out _ (by first|exact hk3|assumption)).mono ?_;rintro e w1 ⟨rfl,hk4⟩))
   go_ret
   exact⟨rfl,hk3.trans hk4⟩
  ·go_enter Tryz.func137,Tryz.ntmps137
   go_wp2
   refine wp_loop_rounds 3 ?_
   rw[rounds_succ]
   go_wp2_with (first|(go_at_call 160;refine(K1.out _ (by first|exact hK|assumption)).mono ?_;rintro e w1 ⟨rfl,hk1⟩))
   have hk2:=hK.trans hk1
   have d3:=C3.out _ hk2
   have d4:=C4.out _ hk2
   have d5:=C5.out _ hk2
   have hk3:=hk2.alloc #[.bool n2,.slice a2 l2 p2,.int .i64 e2] 31
   clear hk1 hk2 c0 c1 c2 hK
   rw[rounds_succ]
   go_wp2_with (first|(go_at_call 160;refine(K2.out _ (by first|exact hk3|assumption)).mono ?_;rintro e w1 ⟨rfl,hk4⟩))
   rw[rounds_succ]
   go_wp2
   go_ret
   exact⟨rfl,hk3.trans hk4⟩
theorem ZS (n:Int)(h0:0≤n)(h1:n≤18446744073709551615):bits .and .u64 n 1073741823=n%1073741824:=by
 rw[u64_and n 1073741823 h0 (by omega) (by omega) (by omega),show(1073741823:Int).toNat=2^30-1 by rfl,Nat.and_two_pow_sub_one_eq_mod]
 omega
theorem Vf (n:Int)(h0:0≤n)(h1:n≤18446744073709551615)(w:World):Calls Tryz.prog 143 #[.int .u64 n] w fun e w'=>e=.returned (.slice (some ⟨w.heap.size,0,none⟩) 3 3)∧w'=w.alloc (.cells #[.int .i64 (n%1073741824),.int .i64 (n/1073741824%1073741824),.int .i64 (n/1152921504606846976)] 3):=by
 have e1:=ZS n h0 h1
 have e2:=ZS (n/1073741824) (by omega) (by omega)
 have e3:wrap64 (n%1073741824)=n%1073741824:=by unfold wrap64;omega
 have e4:wrap64 (n/1073741824%1073741824)=n/1073741824%1073741824:=by unfold wrap64;omega
 go_enter Tryz.func143,Tryz.ntmps143
 go_wp2
 go_ret
 exact⟨rfl,rfl⟩
theorem qel (L:List Int)(h:Dg L)(i:Nat)(hz:∀j,j<i→L.getD j 0=0)(hi:L.getD i 0≠0):tzn (nv L)=30*i+Lib.ctz 64 (L.getD i 0).toNat:=by
 induction i generalizing L with
 | zero=>
  have hd:=h.getD 0
  obtain⟨a1,a2,a3,a4⟩:=ZW (L.getD 0 0).toNat (by omega) (by omega)
  have h1:=zZ L h 0
  rw[Nat.mul_zero,Nat.pow_zero,Nat.div_one]at h1
  generalize Lib.ctz 64 (L.getD 0 0).toNat=k at *
  generalize (L.getD 0 0).toNat/2^k=o at *
  generalize (L.getD 0 0).toNat=d at *
  have hk30:k<30:=by
   by_cases hk:k<30
   ·exact hk
   ·have:2^30≤2^k:=qom (by decide) (by omega)
    have:1*2^30≤o*2^k:=Nat.mul_le_mul (by omega) this
    omega
  have e:nv L=(o+2^(30-k)*(nv L/1073741824))*2^k:=by
   rw[Nat.add_mul,←a2,Nat.mul_right_comm,←qol,show 30-k+k=30 by omega]
   omega
  rw[e,Qh]
  ·omega
  ·obtain⟨m,hm⟩:∃m,30-k=m+1:=⟨30-k-1,by omega⟩
   rw[hm,qov,Nat.mul_right_comm,Nat.add_mul_mod_self_right]
   exact a3
 | succ i ih=>
  cases L with
  |nil=>simp at hi
  | cons d L=>
   have h0:=hz 0 (by omega)
   simp at h0
   subst h0
   have:=ih L h.tail (fun j hj=>by have:=hz (j+1) (by omega);simpa using this) (by simpa using hi)
   have hne:nv L≠0:=fun h0=>by
    have:=(jj L h.tail).1 h0 i
    simp at hi
    simp at this
    exact hi this
   obtain⟨o,ho,e⟩:=jK _ hne
   rw[show nv (0::L)=o*2^(30+tzn (nv L)) by
    rw[nv,qol,←qop,qoq o,qop,←e];simp,Qh _ _ ho,this]
   simp
   omega
theorem JX (L:List Int)(hL:Dg L)(hlen:L.length<100000000)(m:Nat)(hm:m<L.length)(hz:∀j,j<m→L.getD j 0=0)(hne:L.getD m 0≠0)(b off cap:Nat)(w:World)(hr:Reads w b off L)(hT:Tab w):Calls Tryz.prog 161 #[.slice (some ⟨b,off,none⟩) L.length cap] w fun e w'=>e=.returned (.int .i64 ((tzn (nv L):Nat):Int))∧w=w':=by
 rw[qel L hL m hz hne]
 have hd:=hL.getD m
 have hcm:=hr m hm
 obtain⟨d,hdd⟩:∃d,d=L.getD m 0:=⟨_,rfl⟩
 rw[←hdd]at hd hne hcm ⊢
 have K:Hid (Calls Tryz.prog 168 #[.int .u64 d] w fun e w'=>e=.returned (.int .i64 ((Lib.ctz 64 d.toNat:Nat):Int))∧w=w'):=ZX d (by omega) (by omega) w hT
 have hk64:Lib.ctz 64 d.toNat<64:=(ZW d.toNat (by omega) (by omega)).1
 generalize Lib.ctz 64 d.toNat=c at *
 have HZ:Hid (∀j,j<m→w.cell? ⟨b,off+j,none⟩=some (.int .i64 0)):=fun j hj=>by have:=hr j (by omega);rw[hz j hj]at this;exact this
 generalize L.length=n at *
 clear hr hz hdd hL hT
 have e1:IntKind.u64.wrap d=d:=by rw[IntKind.wrap_u64];omega
 go_enter Tryz.func161,Tryz.ntmps161
 go_wp2
 go_loop [3] (fun i=>∃k:Nat,k≤m∧i=.int .i64 k) (fun i=>n-(intOf i).toNat)
 case atStart=>exact⟨0,Nat.zero_le _,rfl⟩
 case round=>
  obtain⟨k,hk,rfl⟩:=hrel
  by_cases hkm:k<m
  ·have hc:=HZ.out k hkm
   go_wp2
   go_round
   case rel=>exact⟨k+1,by omega,by go_num⟩
   case measure=>simp[intOf];omega
  ·obtain rfl:k=m:=by omega
   have hne2:(d==0)=false:=by simp[hne]
   go_wp2_with (first|(go_at_call 168;refine K.out.mono ?_;rintro e w1 ⟨rfl,rfl⟩))
   rw[show((30*k+c:Nat):Int)=(k:Int)*30+(c:Int) by omega]
   go_ret
   exact⟨rfl,rfl⟩
def Own (w:World)(g cap:Nat)(L:List Int):Prop:=∃cur,w.heap[g]?=some (.cells cur 3 (0,0))∧L.length≤cap∧cap≤maxLen∧cur.size=cap∧cur.toList.take L.length=L.map (Value.int .i64)
structure Grw (g:Nat) (w w':World):Prop where
 grown:w.grownBy w' (some g)
 frozen:∀a,w'.frozen? a=w.frozen? a
theorem Grw.refl (g:Nat)(w:World):Grw g w w:=⟨World.grownBy.refl _ _,fun _=>rfl⟩
theorem Grw.trans {g:Nat}{a b c:World}(h:Grw g a b)(k:Grw g b c):Grw g a c:=
 ⟨⟨k.grown.os.trans h.grown.os,k.grown.tape.trans h.grown.tape,k.grown.output.trans h.grown.output,qou h.grown.size k.grown.size,fun i hi hne=>(k.grown.block i (qok hi h.grown.size) hne).trans (h.grown.block i hi hne)⟩,fun x=>(k.frozen x).trans (h.frozen x)⟩
theorem Kept.toGrw {a b:World}(g:Nat)(h:Kept a b):Grw g a b:=⟨⟨h.below.os,h.below.tape,h.below.output,h.below.size,fun i hi _=>h.below.block i hi⟩,h.frozen⟩
theorem Kept.grw {a b c:World}{g:Nat}(h:Kept a b)(hg:a.heap.size≤g)(k:Grw g b c):Kept a c:=
 ⟨h.below.grown k.grown h.below.size (fun i e=>by cases e;exact hg),fun x=>(k.frozen x).trans (h.frozen x)⟩
theorem Grw.setCell {g:Nat}{a b:World}(h:Grw g a b)(j:Nat)(u:Value):Grw g a (b.setCell ⟨g,j,none⟩ u):=
 ⟨⟨h.grown.os,h.grown.tape,h.grown.output,by simpa using h.grown.size,fun i hi hne=>(Below.heap_setCell b ⟨g,j,none⟩ u i (fun e=>hne (by rw[e]))).trans (h.grown.block i hi hne)⟩,fun x=>(World.frozen?_setCell _ _ _ _).trans (h.frozen x)⟩
theorem Own.lt {w:World}{g cap:Nat}{L:List Int}(h:Own w g cap L):g<w.heap.size:=by
 obtain⟨cur,hg,-⟩:=h
 exact lt_of_block hg
theorem Own.kept {w w':World}{g cap:Nat}{L:List Int}(h:Own w g cap L)(k:Kept w w'):Own w' g cap L:=by
 have hl:=h.lt
 obtain⟨cur,hg,r⟩:=h
 exact⟨cur,(k.below.block g hl).trans hg,r⟩
theorem Own.grw {w w':World}{g g' cap:Nat}{L:List Int}(h:Own w g cap L)(k:Grw g' w w')(hne:g≠g'):Own w' g cap L:=by
 have hl:=h.lt
 obtain⟨cur,hg,r⟩:=h
 exact⟨cur,(k.grown.block g hl (by simpa using hne)).trans hg,r⟩
theorem Own.cell {w:World}{g cap:Nat}{L:List Int}(h:Own w g cap L)(i:Nat)(hi:i<L.length):w.cell? ⟨g,i,none⟩=some (.int .i64 (L.getD i 0)):=by
 obtain⟨cur,hg,h1,h2,h3,h4⟩:=h
 rw[cell_of_row w g i cur 3 (0,0) hg]
 have:(cur.toList.take L.length)[i]?=(L.map (Value.int .i64))[i]?:=by rw[h4]
 rw[List.getElem?_take,if_pos hi,List.getElem?_map,List.getElem?_eq_getElem hi]at this
 rw[qon,List.getElem?_eq_getElem hi]
 simpa using this
theorem Own.reads {w:World}{g cap:Nat}{L:List Int}(h:Own w g cap L):Reads w g 0 L:=fun i hi=>by rw[Nat.zero_add];exact h.cell i hi
theorem Own.free {w:World}{g cap:Nat}{L:List Int}(h:Own w g cap L)(i:Nat):w.frozen? ⟨g,i,none⟩=false:=by
 obtain⟨cur,hg,-⟩:=h
 exact frozen_of_row w g i cur 3 hg
theorem Own.set {w:World}{g cap:Nat}{L:List Int}(h:Own w g cap L)(i:Nat)(d:Int):Own (w.setCell ⟨g,i,none⟩ (.int .i64 d)) g cap (L.set i d):=by
 obtain⟨cur,hg,h1,h2,h3,h4⟩:=h
 refine⟨cur.setIfInBounds i (.int .i64 d),heap_setCell_same w g i cur 3 _ hg,by simpa using h1,h2,by simpa using h3,?_⟩
 rw[Array.toList_setIfInBounds,List.length_set,List.take_set,h4,List.map_set]
theorem Own.take {w:World}{g cap:Nat}{L:List Int}(h:Own w g cap L)(n:Nat)(hn:n≤L.length):Own w g cap (L.take n):=by
 obtain⟨cur,hg,h1,h2,h3,h4⟩:=h
 refine⟨cur,hg,by simp;omega,h2,h3,?_⟩
 rw[List.length_take,Nat.min_eq_left hn,List.map_take,←h4,List.take_take,Nat.min_eq_left hn]
theorem Own.sl {w:World}{g cap:Nat}{L:List Int}(h:Own w g cap L):Sl w (.slice (some ⟨g,0,none⟩) L.length cap) L:=by
 have hr:=h.reads
 have hl:=h.lt
 obtain⟨cur,hg,h1,h2,h3,h4⟩:=h
 exact⟨_,_,rfl,h1,h2,fun _=>⟨g,0,rfl,hl,hr⟩⟩
theorem Own.slTake {w:World}{g cap:Nat}{L:List Int}(h:Own w g cap L)(n:Nat)(hn:n≤L.length):Sl w (.slice (some ⟨g,0,none⟩) n cap) (L.take n):=by
 have:=(h.take n hn).sl
 rw[List.length_take,Nat.min_eq_left hn]at this
 exact this
abbrev Qb:Value:=.agg #[.bool false,.slice none 0 0,.int .i64 0]
theorem qem (neg:Bool)(L:List Int)(hlen:L.length<100000000)(hz:∀j,L.getD j 0=0)(g cap:Nat)(x:Int)(w:World)(h:Own w g cap L):Calls Tryz.prog 141 #[.bool neg,.slice (some ⟨g,0,none⟩) L.length cap,.int .i64 x] w fun e w'=>e=.returned Qb∧Kept w w':=by
 have hK:=(qo0 w).alloc #[.bool false,.slice none 0 0,.int .i64 0] 31
 have HC:Hid (∀j,j<L.length→(w.alloc (.cells #[.bool false,.slice none 0 0,.int .i64 0] 31)).cell? ⟨g,j,none⟩=some (.int .i64 0)):=fun j hj=>by
  have:=(h.kept hK).cell j hj
  rw[hz j]at this
  exact this
 generalize L.length=n at *
 clear h hz
 go_enter Tryz.func141,Tryz.ntmps141
 go_wp2
 go_loop [7] (fun i=>∃k:Nat,k≤n∧i=.int .i64 k) (fun i=>(intOf i).toNat)
 case atStart=>exact⟨n,qoo _,rfl⟩
 case round=>
  obtain⟨k,hk,rfl⟩:=hrel
  rcases k with _|k
  ·go_wp2
   exact qoz (v:=Qb) (by simp[results,Tryz.results141,go_sem]) rfl ⟨rfl,hK⟩
  ·have hc:=HC.out k (by omega)
   go_wp2
   go_round
   case rel=>exact⟨k,by omega,by go_num⟩
   case measure=>simp[intOf]
theorem Grw.setNew {g:Nat}{a b:World}(h:Grw g a b){p:Addr}(hp:a.heap.size≤p.block)(u:Value):Grw g a (b.setCell p u):=
 ⟨⟨h.grown.os,h.grown.tape,h.grown.output,by simpa using h.grown.size,fun i hi hne=>(Below.heap_setCell b p u i (fun e=>by omega)).trans (h.grown.block i hi hne)⟩,fun x=>(World.frozen?_setCell _ _ _ _).trans (h.frozen x)⟩
theorem Own.setOther {w:World}{g cap:Nat}{L:List Int}(h:Own w g cap L){p:Addr}(hp:g≠p.block)(u:Value):Own (w.setCell p u) g cap L:=by
 obtain⟨cur,hg,r⟩:=h
 exact⟨cur,(Below.heap_setCell w p u g hp).trans hg,r⟩
theorem xO {g:Nat}{w wr:World}{o:Obj}(h:Grw g (w.alloc o) wr)(hne:g≠w.heap.size)(j:Nat):wr.cell? ⟨w.heap.size,j,none⟩=(w.alloc o).cell? ⟨w.heap.size,j,none⟩∧wr.frozen? ⟨w.heap.size,j,none⟩=(w.alloc o).frozen? ⟨w.heap.size,j,none⟩:=
 have hb:=h.grown.block w.heap.size (by simp) (by simpa using fun e=>hne e.symm)
 ⟨World.cell?_of_block (a:=⟨w.heap.size,j,none⟩) hb,World.frozen?_of_block (a:=⟨w.heap.size,j,none⟩) hb⟩
theorem Yy (L M:List Int)(k c q:Nat)(hM:k<M.length)(hz:∀j,k<j→L.getD j 0=0)(hh:∀j,c≤j→M.getD j 0=L.getD j 0)(hq:c≤q):dig (M.take (k+1)) (q:Int)=dig L (q:Int):=by
 unfold dig
 rw[if_pos (by omega),if_pos (by omega),Int.toNat_natCast,←hh q hq]
 by_cases h:q<k+1
 ·rw[qon,qon,List.getElem?_take,if_pos h]
 ·rw[hh q hq,hz q (by omega),qon,List.getElem?_eq_none (by simp;omega)]
  rfl
theorem qgq (L M:List Int)(k c q s:Nat)(hM:k<M.length)(hz:∀j,k<j→L.getD j 0=0)(hh:∀j,c≤j→M.getD j 0=L.getD j 0)(hq:c≤q):pcq (M.take (k+1)) (q:Int) s=pcq L (q:Int) s:=by
 unfold pcq
 rw[Yy L M k c q hM hz hh hq,show((q:Int)+1)=((q+1:Nat):Int) by omega,Yy L M k c (q+1) hM hz hh (by omega)]
theorem qL (M:List Int)(c j:Nat)(d:Int)(hc:c<M.length):(M.set c d).getD j 0=if c=j then d else M.getD j 0:=by
 rw[qon,qon,List.getElem?_set]
 by_cases h:c=j
 ·subst h;simp[hc]
 ·simp[h]
theorem qen (neg:Bool)(L:List Int)(hlen:L.length<100000000)(m:Nat)(hm:m<L.length)(hz:∀j,m<j→L.getD j 0=0)(hne:L.getD m 0≠0)(g cap:Nat)(x y:Int)(Z BL C:Nat)(lg:Int)(hlg:(BL:Int)-(Z:Int)=lg)(hC:(lg+30-1)/30=(C:Int))(hlg0:0<lg)(hlg1:lg≤60000)(hy0:wrap64 (x+(Z:Int))=y)(hy1:-1048576≤y)(hy2:y≤1048576)(hZ:Z<2000000000)(hBL:BL<3000000000)(hCm:C≤m+1)(w:World)(h:Own w g cap L)
  (KT:Hid (Calls Tryz.prog 161 #[.slice (some ⟨g,0,none⟩) L.length cap] (w.alloc (.cells #[.bool false,.slice none 0 0,.int .i64 0] 31)) fun e w'=>e=.returned (.int .i64 (Z:Int))∧(w.alloc (.cells #[.bool false,.slice none 0 0,.int .i64 0] 31))=w'))
  (KL:Hid (Calls Tryz.prog 140 #[.slice (some ⟨g,0,none⟩) (m+1) cap] (w.alloc (.cells #[.bool false,.slice none 0 0,.int .i64 0] 31)) fun e w'=>e=.returned (.int .i64 (BL:Int))∧(w.alloc (.cells #[.bool false,.slice none 0 0,.int .i64 0] 31))=w')):Calls Tryz.prog 141 #[.bool neg,.slice (some ⟨g,0,none⟩) L.length cap,.int .i64 x] w fun e w'=>∃M,e=.returned (.agg #[.bool neg,.slice (some ⟨g,0,none⟩) C cap,.int .i64 y])∧Own w' g cap M∧C≤M.length∧(∀j,j<C→M.getD j 0=pcq L ((Z/30+j:Nat):Int) (Z%30))∧Grw g w w':=by
 have hK:=(qo0 w).alloc #[.bool false,.slice none 0 0,.int .i64 0] 31
 have HO:Hid (Own (w.alloc (.cells #[.bool false,.slice none 0 0,.int .i64 0] 31)) g cap L):=h.kept hK
 have HC:Hid (∀j,j<L.length→(w.alloc (.cells #[.bool false,.slice none 0 0,.int .i64 0] 31)).cell? ⟨g,j,none⟩=some (.int .i64 (L.getD j 0))):=fun j hj=>(h.kept hK).cell j hj
 have hgl:=h.lt
 have hcap:L.length≤cap:=by obtain⟨_,_,h1,_⟩:=h;exact h1
 obtain⟨n,hn⟩:∃n,n=L.length:=⟨_,rfl⟩
 have HN:Hid (n=L.length):=hn
 rw[←hn]at hlen hm HC KT hcap ⊢
 have HZ:Hid (∀j,m<j→L.getD j 0=0):=hz
 clear h hz hn
 go_enter Tryz.func141,Tryz.ntmps141
 go_wp2
 go_loop [7] (fun i=>∃k:Nat,k≤n∧m<k∧i=.int .i64 k) (fun i=>(intOf i).toNat)
 case atStart=>exact⟨n,qoo _,hm,rfl⟩
 case round=>
  obtain⟨k,hk,hmk,rfl⟩:=hrel
  obtain⟨k,rfl⟩:∃j,k=j+1:=⟨k-1,by omega⟩
  have hc:=HC.out k (by omega)
  by_cases hkm:m<k
  ·rw[HZ.out k hkm]at hc
   go_wp2
   go_round
   case rel=>exact⟨k,by omega,hkm,by go_num⟩
   case measure=>simp[intOf]
  ·obtain rfl:k=m:=by omega
   have hne2:(L.getD k 0==0)=false:=by simpa using hne
   generalize L.getD k 0=d at *
   go_wp2_with (first|(go_at_call 161;refine KT.out.mono ?_;rintro e w1 ⟨rfl,rfl⟩)|(go_at_call 140;refine KL.out.mono ?_;rintro e w1 ⟨rfl,rfl⟩)|(go_at_call 139;refine(qco _ _ (by omega) (by omega) (by omega) _).mono ?_;rintro e w1 ⟨rfl,rfl⟩))
   rw[hC]
   have hC2:C≤2001:=by omega
   clear hC
   go_loopw [47] (fun i wr=>∃(c:Nat) (M:List Int),c≤C∧i=.int .i64 c∧Own wr g cap M∧M.length=n∧(∀j,j<c→M.getD j 0=pcq L ((Z/30+j:Nat):Int) (Z%30))∧(∀j,c≤j→M.getD j 0=L.getD j 0)∧Grw g (w.alloc (.cells #[.bool false,.slice none 0 0,.int .i64 0] 31)) wr) (fun i _=>C-(intOf i).toNat)
   case atStart=>exact⟨0,L,Nat.zero_le _,rfl,HO.out,HN.out.symm,fun j h=>by omega,fun j _=>rfl,Grw.refl _ _⟩
   case round=>
    obtain⟨c,M,hc0,rfl,hO,hMl,hlo,hhi,hG⟩:=hrel
    have HG:Hid (Grw g (w.alloc (.cells #[.bool false,.slice none 0 0,.int .i64 0] 31)) wr):=hG
    have HL:Hid (∀j,j<c→M.getD j 0=pcq L ((Z/30+j:Nat):Int) (Z%30)):=hlo
    have HH:Hid (∀j,c≤j→M.getD j 0=L.getD j 0):=hhi
    have HM:Hid (M.length=n):=hMl
    by_cases hcC:c<C
    ·have KP:Hid (Calls Tryz.prog 149 #[.slice (some ⟨g,0,none⟩) (k+1) cap,.int .i64 ((Z:Int)+(c:Int)*30)] wr fun e w'=>e=.returned (.int .i64 (pcq L ((Z/30+c:Nat):Int) (Z%30)))∧Kept wr w'):=by
      have:=Ys (M.take (k+1)) _ ((Z/30+c:Nat):Int) (Z%30) (by omega) (by omega) (by omega) ((Z:Int)+(c:Int)*30) (by omega) (.inl (by omega)) wr (hO.slTake (k+1) (by omega))
      rw[qgq L M k c (Z/30+c) (Z%30) (by omega) HZ.out hhi (by omega)]at this
      exact this
     generalize hpv:pcq L ((Z/30+c:Nat):Int) (Z%30)=pv at KP
     have HP:Hid (pcq L ((Z/30+c:Nat):Int) (Z%30)=pv):=hpv
     have HO2:Hid (Own wr g cap M):=hO
     clear hO hMl hlo hhi hG HO HC hc KT KL hK hpv
     go_wp2_with (first|(go_at_call 149;refine KP.out.mono ?_;rintro e w2 ⟨rfl,hk2⟩;have hO2:=HO2.out.kept hk2;have hcc:=hO2.cell c (by have:=HM.out;omega);have hff:=hO2.free c))
     go_roundw
     case rel=>
      have hO2:=HO2.out.kept hk2
      refine⟨c+1,M.set c pv,by omega,by go_num,hO2.set c pv,by rw[List.length_set];exact HM.out,fun j hj=>?_,fun j hj=>?_,(HG.out.trans (hk2.toGrw g)).setCell _ _⟩
      ·rw[qL M c j pv (by have:=HM.out;omega)]
       by_cases hcj:c=j
       ·rw[if_pos hcj,←hcj];exact HP.out.symm
       ·rw[if_neg hcj];exact HL.out j (by omega)
      ·rw[qL M c j pv (by have:=HM.out;omega),if_neg (by omega)]
       exact HH.out j (by omega)
     case measure=>simp[intOf];omega
    ·obtain rfl:c=C:=by omega
     have hgn:g≠w.heap.size:=by omega
     have hb0:wr.cell? ⟨w.heap.size,0,none⟩=some (.bool false):=(xO hG hgn 0).1.trans (by simp[go_sem])
     have hb1:wr.cell? ⟨w.heap.size,1,none⟩=some (.slice none 0 0):=(xO hG hgn 1).1.trans (by simp[go_sem])
     have hb2:wr.cell? ⟨w.heap.size,2,none⟩=some (.int .i64 0):=(xO hG hgn 2).1.trans (by simp[go_sem])
     have hf:∀o,wr.frozen? ⟨w.heap.size,o,none⟩=false:=fun o=>(xO hG hgn o).2.trans (by simp[go_sem])
     have HO2:Hid (Own wr g cap M):=hO
     have HK:Hid (Kept w (w.alloc (.cells #[.bool false,.slice none 0 0,.int .i64 0] 31))):=hK
     clear hO hMl hlo hhi hG HO HC hc KT KL hK
     go_wp2
     refine qoz (v:=.agg #[.bool neg,.slice (some ⟨g,0,none⟩) c cap,.int .i64 y]) (by simp[results,Tryz.results141,go_sem,hb0,hb1,hb2]) rfl ⟨M,rfl,((HO2.out.setOther (by simpa using hgn) _).setOther (by simpa using hgn) _).setOther (by simpa using hgn) _,by have:=HM.out;omega,HL.out,?_⟩
     exact(((((HK.out.toGrw g).trans HG.out).setNew (by simp) _).setNew (by simp) _).setNew (by simp) _)
theorem qjs (neg:Bool)(L:List Int)(hlen:L.length<100000000)(m:Nat)(hm:m<L.length)(hz:∀j,m<j→L.getD j 0=0)(hne:L.getD m 0≠0)(g cap:Nat)(x y:Int)(Z BL:Nat)(lg:Int)(hlg:(BL:Int)-(Z:Int)=lg)(hy0:wrap64 (x+(Z:Int))=y)(hno:60000<lg∨y< -1048576∨1048576<y)(hZ:Z<3000000000)(hBL:BL<3000000000)(w:World)(h:Own w g cap L)
  (KT:Hid (Calls Tryz.prog 161 #[.slice (some ⟨g,0,none⟩) L.length cap] (w.alloc (.cells #[.bool false,.slice none 0 0,.int .i64 0] 31)) fun e w'=>e=.returned (.int .i64 (Z:Int))∧(w.alloc (.cells #[.bool false,.slice none 0 0,.int .i64 0] 31))=w'))
  (KL:Hid (Calls Tryz.prog 140 #[.slice (some ⟨g,0,none⟩) (m+1) cap] (w.alloc (.cells #[.bool false,.slice none 0 0,.int .i64 0] 31)) fun e w'=>e=.returned (.int .i64 (BL:Int))∧(w.alloc (.cells #[.bool false,.slice none 0 0,.int .i64 0] 31))=w')):Calls Tryz.prog 141 #[.bool neg,.slice (some ⟨g,0,none⟩) L.length cap,.int .i64 x] w fun e w'=>e=.panicked vI∧Kept w w':=by
 have hK:=(qo0 w).alloc #[.bool false,.slice none 0 0,.int .i64 0] 31
 have HC:Hid (∀j,j<L.length→(w.alloc (.cells #[.bool false,.slice none 0 0,.int .i64 0] 31)).cell? ⟨g,j,none⟩=some (.int .i64 (L.getD j 0))):=fun j hj=>(h.kept hK).cell j hj
 have hcap:L.length≤cap:=by obtain⟨_,_,h1,_⟩:=h;exact h1
 obtain⟨n,hn⟩:∃n,n=L.length:=⟨_,rfl⟩
 have HN:Hid (n=L.length):=hn
 rw[←hn]at hlen hm HC KT hcap ⊢
 have HZ:Hid (∀j,m<j→L.getD j 0=0):=hz
 clear h hz hn
 go_enter Tryz.func141,Tryz.ntmps141
 go_wp2
 go_loop [7] (fun i=>∃k:Nat,k≤n∧m<k∧i=.int .i64 k) (fun i=>(intOf i).toNat)
 case atStart=>exact⟨n,qoo _,hm,rfl⟩
 case round=>
  obtain⟨k,hk,hmk,rfl⟩:=hrel
  obtain⟨k,rfl⟩:∃j,k=j+1:=⟨k-1,by omega⟩
  have hc:=HC.out k (by omega)
  by_cases hkm:m<k
  ·rw[HZ.out k hkm]at hc
   go_wp2
   go_round
   case rel=>exact⟨k,by omega,hkm,by go_num⟩
   case measure=>simp[intOf]
  ·obtain rfl:k=m:=by omega
   have hne2:(L.getD k 0==0)=false:=by simpa using hne
   generalize L.getD k 0=d at *
   go_wp2_with (first|(go_at_call 161;refine KT.out.mono ?_;rintro e w1 ⟨rfl,rfl⟩)|(go_at_call 140;refine KL.out.mono ?_;rintro e w1 ⟨rfl,rfl⟩)|(go_at_call 139;refine(qgp _ _ hno _).mono ?_;rintro e w1 ⟨rfl,rfl⟩))
   exact⟨rfl,rfl,hK⟩
def frm (neg:Bool)(v:Nat)(x:Int):Option Nm:=
 if v=0 then some ⟨false,[],0⟩else
 if bl v-tzn v≤60000∧-1048576≤wrap64 (x+(tzn v:Int))∧wrap64 (x+(tzn v:Int))≤1048576 then some ⟨neg,digs (v/2^tzn v),wrap64 (x+(tzn v:Int))⟩else none
def New (w0 w:World)(v:Value)(x:Nm):Prop:=
 (x=⟨false,[],0⟩∧v=Qb)∨∃g cap,v=.agg #[.bool x.neg,.slice (some ⟨g,0,none⟩) x.mag.length cap,.int .i64 x.exp]∧w0.heap.size≤g∧Own w g cap x.mag∧x.mag≠[]
def NewG (g cap:Nat)(w0 w:World)(v:Value)(x:Nm):Prop:=
 (x=⟨false,[],0⟩∧v=Qb)∨(v=.agg #[.bool x.neg,.slice (some ⟨g,0,none⟩) x.mag.length cap,.int .i64 x.exp]∧w0.heap.size≤g∧Own w g cap x.mag∧x.mag≠[])
theorem NewG.new {g cap:Nat}{w0 w:World}{v:Value}{x:Nm}(h:NewG g cap w0 w v x):New w0 w v x:=by
 rcases h with h|h
 ·exact .inl h
 ·exact .inr ⟨g,cap,h⟩
theorem New.numAt {w0 w:World}{v:Value}{x:Nm}(h:New w0 w v x):NumAt w v x:=by
 rcases h with ⟨rfl,rfl⟩|⟨g,cap,rfl,hg,ho,hne⟩
 ·exact⟨_,rfl,none,0,rfl,qoo _,by simp[maxLen],fun h=>absurd rfl h⟩
 ·exact⟨_,rfl,ho.sl⟩
theorem New.kept {w0 w w':World}{v:Value}{x:Nm}(h:New w0 w v x)(k:Kept w w'):New w0 w' v x:=by
 rcases h with h|⟨g,cap,e,hg,ho,hne⟩
 ·exact .inl h
 ·exact .inr ⟨g,cap,e,hg,ho.kept k,hne⟩
theorem New.from {w0 w1 w:World}{v:Value}{x:Nm}(h:New w1 w v x)(k:Kept w0 w1):New w0 w v x:=by
 rcases h with h|⟨g,cap,e,hg,ho,hne⟩
 ·exact .inl h
 ·exact .inr ⟨g,cap,e,qou k.below.size hg,ho,hne⟩
theorem vJ (v:Nat)(hv:v≠0):bl v=bl (v/2^tzn v)+tzn v∧v/2^tzn v≠0:=by
 obtain⟨h1,h2⟩:=Zk v hv
 generalize v/2^tzn v=o at *
 have:bl v=bl (o*2^tzn v):=by rw[←h2]
 rw[this,Z3 _ _ (by omega)]
 exact⟨rfl,by omega⟩
theorem Qc (n:Nat)(h:n≠0):(digs n).length=(bl n+29)/30:=by
 have h1:=qO n h
 obtain⟨k,hk⟩:∃k,(bl n+29)/30=k+1:=⟨(bl n+29)/30-1,by omega⟩
 have a:=qC n (k+1) (qok h1.2.1 (qom (by decide) (by omega)))
 have b:=jk n k (qou (qom (by decide) (by omega)) h1.1)
 omega
theorem qmk (L:List Int)(h:¬∀j,L.getD j 0=0):∃m,m<L.length∧(∀j,m<j→L.getD j 0=0)∧L.getD m 0≠0:=by
 induction L with
 |nil=>exact absurd (fun j=>by simp) h
 | cons d L ih=>
  by_cases hL:∀j,L.getD j 0=0
  ·refine⟨0,by simp,fun j hj=>?_,?_⟩
   ·obtain⟨i,rfl⟩:∃i,j=i+1:=⟨j-1,by omega⟩
    rw[List.getD_cons_succ];exact hL i
   ·intro h0
    apply h
    intro j
    cases j with
    |zero=>exact h0
    |succ i=>rw[List.getD_cons_succ];exact hL i
  ·obtain⟨m,h1,h2,h3⟩:=ih hL
   refine⟨m+1,by simpa using h1,fun j hj=>?_,by rw[List.getD_cons_succ];exact h3⟩
   obtain⟨i,rfl⟩:∃i,j=i+1:=⟨j-1,by omega⟩
   rw[List.getD_cons_succ];exact h2 i (by omega)
theorem qml (L:List Int)(h:¬∀j,L.getD j 0=0):∃m,m<L.length∧(∀j,j<m→L.getD j 0=0)∧L.getD m 0≠0:=by
 induction L with
 |nil=>exact absurd (fun j=>by simp) h
 | cons d L ih=>
  by_cases hd:d=0
  ·have hL:¬∀j,L.getD j 0=0:=fun hL=>h (fun j=>by
    cases j with
    |zero=>simpa using hd
    |succ i=>rw[List.getD_cons_succ];exact hL i)
   obtain⟨m,h1,h2,h3⟩:=ih hL
   refine⟨m+1,by simpa using h1,fun j hj=>?_,by rw[List.getD_cons_succ];exact h3⟩
   cases j with
   |zero=>simpa using hd
   |succ i=>rw[List.getD_cons_succ];exact h2 i (by omega)
  ·exact⟨0,by simp,fun j hj=>by omega,by simpa using hd⟩
theorem Vg (L:List Int)(h:Dg L)(m:Nat)(hz:∀j,m<j→L.getD j 0=0):nv (L.take (m+1))=nv L:=by
 have e:=QG (L.take (m+1)) (L.drop (m+1))
 rw[List.take_append_drop]at e
 have:nv (L.drop (m+1))=0:=by
  rw[jj _ (fun d hd=>h d (List.mem_of_mem_drop hd))]
  intro i
  have:=hz (m+1+i) (by omega)
  rw[qon]at this ⊢
  rw[List.getElem?_drop]
  exact this
 rw[this]at e
 omega
theorem Zg (L:List Int)(h:Dg L)(m:Nat):Dg (L.take m):=fun d hd=>h d (List.mem_of_mem_take hd)
theorem Xh (L:List Int)(hL:Dg L)(hlen:L.length<60000000)(g cap:Nat)(hv:nv L≠0)(w:World)(h:Own w g cap L)(hT:Tab w):
  ∃m,m<L.length∧(∀j,m<j→L.getD j 0=0)∧L.getD m 0≠0∧tzn (nv L)<2000000000∧bl (nv L)<3000000000∧bl (nv L)≤30*(m+1)∧
   Hid (Calls Tryz.prog 161 #[.slice (some ⟨g,0,none⟩) L.length cap] (w.alloc (.cells #[.bool false,.slice none 0 0,.int .i64 0] 31)) fun e w'=>e=.returned (.int .i64 (tzn (nv L):Int))∧(w.alloc (.cells #[.bool false,.slice none 0 0,.int .i64 0] 31))=w')∧
   Hid (Calls Tryz.prog 140 #[.slice (some ⟨g,0,none⟩) (m+1) cap] (w.alloc (.cells #[.bool false,.slice none 0 0,.int .i64 0] 31)) fun e w'=>e=.returned (.int .i64 (bl (nv L):Int))∧(w.alloc (.cells #[.bool false,.slice none 0 0,.int .i64 0] 31))=w'):=by
 have hnz:¬∀j,L.getD j 0=0:=fun hz=>hv ((jj L hL).2 hz)
 obtain⟨m,hm,hz,hne⟩:=qmk L hnz
 obtain⟨t,ht,htz,htn⟩:=qml L hnz
 have hK:=(qo0 w).alloc #[.bool false,.slice none 0 0,.int .i64 0] 31
 have hO:=h.kept hK
 have hb:=zg _ _ (zJ _ (Zg L hL (m+1)))
 rw[Vg L hL m hz,List.length_take,Nat.min_eq_left (by omega)]at hb
 have hs:=vJ _ hv
 have hq:=(qO _ hs.2).2.2
 refine⟨m,hm,hz,hne,by omega,by omega,hb,?_,?_⟩
 ·exact JX L hL (by omega) t ht htz htn g 0 cap _ hO.reads (hT.kept hK)
 ·have:=zR (L.take (m+1)) ⟨Zg L hL _,fun _=>?_⟩ (by simp;omega) _ _ (hO.slTake (m+1) (by omega))
  ·rw[Vg L hL m hz]at this
   exact this
  ·rw[List.length_take,Nat.min_eq_left (by omega),Nat.add_sub_cancel,qon,List.getElem?_take,if_pos (by omega),←qon]
   exact hne
theorem qcp (neg:Bool)(L:List Int)(hL:Dg L)(hlen:L.length<60000000)(g cap:Nat)(x:Int)(w:World)(h:Own w g cap L)(hT:Tab w)(hf:frm neg (nv L) x=none):Calls Tryz.prog 141 #[.bool neg,.slice (some ⟨g,0,none⟩) L.length cap,.int .i64 x] w fun e w'=>e=.panicked vI∧Kept w w':=by
 unfold frm at hf
 by_cases hv:nv L=0
 ·rw[if_pos hv]at hf;cases hf
 ·rw[if_neg hv]at hf
  split at hf
  ·cases hf
  ·rename_i hno
   obtain⟨m,hm,hz,hne,hZ,hB,hBm,KT,KL⟩:=Xh L hL hlen g cap hv w h hT
   have hs:=vJ _ hv
   exact qjs neg L (by omega) m hm hz hne g cap x _ _ _ _ rfl rfl (by omega) (by omega) hB w h KT KL
theorem Yz (neg:Bool)(L:List Int)(hL:Dg L)(hlen:L.length<60000000)(g cap:Nat)(x:Int)(w0 w:World)(hk:Kept w0 w)(hg:w0.heap.size≤g)(h:Own w g cap L)(hT:Tab w)(r:Nm)(hf:frm neg (nv L) x=some r):Calls Tryz.prog 141 #[.bool neg,.slice (some ⟨g,0,none⟩) L.length cap,.int .i64 x] w fun e w'=>(∃v,e=.returned v∧NewG g cap w0 w' v r)∧Kept w0 w'∧Grw g w w':=by
 unfold frm at hf
 by_cases hv:nv L=0
 ·rw[if_pos hv]at hf
  cases hf
  refine(qem neg L (by omega) ((jj L hL).1 hv) g cap x w h).mono ?_
  rintro e w' ⟨rfl,k⟩
  exact⟨⟨_,rfl,.inl ⟨rfl,rfl⟩⟩,hk.trans k,k.toGrw g⟩
 ·rw [if_neg hv]at hf
  split at hf
  ·rename_i hyes
   cases hf
   obtain⟨m,hm,hz,hne,hZ,hB,hBm,KT,KL⟩:=Xh L hL hlen g cap hv w h hT
   have hs:=vJ _ hv
   have hq:=(qO _ hs.2).2.2
   have hdl:=Qc _ hs.2
   refine(qen neg L (by omega) m hm hz hne g cap x _ _ _ (digs (nv L/2^tzn (nv L))).length _ rfl (by omega) (by omega) (by omega) rfl hyes.2.1 hyes.2.2 hZ hB (by omega) w h KT KL).mono ?_
   rintro e w' ⟨M,rfl,hO,hC,hM,hG⟩
   have hO2:=hO.take _ hC
   have e1:M.take (digs (nv L/2^tzn (nv L))).length=digs (nv L/2^tzn (nv L)):=by
    apply List.ext_getElem?
    intro j
    rw[List.getElem?_take]
    split
    ·rename_i hj
     have h1:=hM j hj
     have h2:=qgi L hL ((tzn (nv L)/30+j:Nat):Int) (tzn (nv L)%30) (by omega)
     have h3:=zZ _ (za (nv L/2^tzn (nv L))) j
     have h4:=(za (nv L/2^tzn (nv L))).getD j
     rw[qQ]at h3
     rw[h2,show 30*((tzn (nv L)/30+j:Nat):Int)+((tzn (nv L)%30:Nat):Int)=((tzn (nv L)+30*j:Nat):Int) by omega]at h1
     unfold pcz at h1
     rw[if_pos (by omega),Int.toNat_natCast,qol,←Nat.div_div_eq_div_mul,←h3]at h1
     rw[List.getElem?_eq_getElem hj,List.getElem?_eq_getElem (by omega)]
     rw[qon,List.getElem?_eq_getElem (by omega)]at h1
     rw[qon,List.getElem?_eq_getElem hj]at h1 h4
     simp only[Option.getD_some]at h1 h4
     congr 1
     omega
    ·rename_i hj
     rw[List.getElem?_eq_none (by omega)]
   rw[e1]at hO2
   have hne3:digs (nv L/2^tzn (nv L))≠[]:=by
    intro hh
    rw[hh]at hdl
    simp only[List.length_nil]at hdl
    omega
   exact⟨⟨_,rfl,.inr ⟨rfl,hg,hO2,hne3⟩⟩,hk.grw hg hG,hG⟩
  ·cases hf
theorem qcq (neg:Bool)(L:List Int)(hL:Dg L)(hlen:L.length<60000000)(g cap:Nat)(x:Int)(w0 w:World)(hk:Kept w0 w)(hg:w0.heap.size≤g)(h:Own w g cap L)(hT:Tab w)(r:Nm)(hf:frm neg (nv L) x=some r):Calls Tryz.prog 141 #[.bool neg,.slice (some ⟨g,0,none⟩) L.length cap,.int .i64 x] w fun e w'=>(∃v,e=.returned v∧New w0 w' v r)∧Kept w0 w':=(Yz neg L hL hlen g cap x w0 w hk hg h hT r hf).mono fun _ _ h=>⟨let ⟨v,h1,h2⟩:=h.1;⟨v,h1,h2.new⟩,h.2.1⟩
theorem qa7 (p q:Addr)(w:World):CallsD Tryz.prog 138 #[.pointer (some p),.pointer (some q)] .returning w fun e u' w'=>e=.returned (.tuple #[])∧u'=.returning∧w'=w:=by
 refine callsD_of_wpS Tryz.func138 rfl fun c₀ cs hu=>?_
 apply wpS_seq
 apply wpS_region
 simp[wpOpsS,go_sem,recoverD,hu,Tryz.ntmps138,Exit.thenS]
 refine wpS_cond (t:=false) (by simp[Act.eval,Array.replicate]) ?_
 simp only[Bool.false_eq_true,if_false]
 refine wpS_of_wp (wp_skip ?_)
 cases c₀
 simp_all [bodyPostS,results,Tryz.results138]
abbrev ql0 (w:World):World:=(w.alloc (.cells #[.bool false,.slice none 0 0,.int .i64 0] 31)).alloc (.cells #[.int .i64 0] 36)
theorem ZT {w w1:World}(h:Kept (ql0 w) w1):w1.cell? ⟨w.heap.size,0,none⟩=some (.bool false)∧w1.cell? ⟨w.heap.size,1,none⟩=some (.slice none 0 0)∧w1.cell? ⟨w.heap.size,2,none⟩=some (.int .i64 0)∧w1.cell? ⟨w.heap.size+1,0,none⟩=some (.int .i64 0)∧(∀o,w1.frozen? ⟨w.heap.size,o,none⟩=false)∧w1.frozen? ⟨w.heap.size+1,0,none⟩=false:=
 ⟨(h.below.cell (p:=⟨w.heap.size,0,none⟩) (by simp;omega)).trans (by simp[go_sem]),(h.below.cell (p:=⟨w.heap.size,1,none⟩) (by simp;omega)).trans (by simp[go_sem]),(h.below.cell (p:=⟨w.heap.size,2,none⟩) (by simp;omega)).trans (by simp[go_sem]),(h.below.cell (p:=⟨w.heap.size+1,0,none⟩) (by simp)).trans (by simp[go_sem]),fun o=>(h.frozen _).trans (by simp[go_sem]),(h.frozen _).trans (by simp[go_sem])⟩
theorem qa8 (w:World):Kept w (ql0 w):=((qo0 w).alloc _ _).alloc _ _
theorem qcr (K:Nat)(caps:Array Value)(hcall:∀w,(callFunc K caps).run Tryz.prog w=.ok (.enter K caps) w)(given:Value)(r:Nm)(w:World)
  (KV:Hid (∀w',Kept w w'→Calls Tryz.prog 137 #[given] w' fun e w''=>e=.returned (.bool true)∧Kept w' w''))
  (KR:Hid (∀w',Kept w w'→Calls Tryz.prog K caps w' fun e w''=>(∃v,e=.returned v∧New w' w'' v r)∧Kept w' w'')):
  Calls Tryz.prog 108 #[.func (.func K) #[] caps,given] w fun e w'=>∃v,e=.returned (.tuple #[v,.int .i64 0])∧New w w' v r∧Kept w w':=by
 have hK:=qa8 w
 have hmf:∀(fn:Fn) (first cap:Array Value) (w:World),(Instr.makeFunc fn first cap).run Tryz.prog w=.ok (.func fn first cap) w:=fun _ _ _ _=>rfl
 go_enter_defers Tryz.func108,Tryz.ntmps108
 go_wp2_with (first|(go_at_call 137;refine(KV.out _ hK).mono ?_;rintro e w1 ⟨rfl,hk1⟩;obtain⟨c0,c1,c2,c3,f0,f1⟩:=ZT hk1))
 refine(KR.out _ (hK.trans hk1)).mono ?_
 rintro e w2 ⟨⟨v,rfl,hN⟩,hk2⟩
 obtain⟨d0,d1,d2,d3,g0,g1⟩:=ZT (hk1.trans hk2)
 clear c0 c1 c2 c3 f0 f1
 have HN:Hid (New w1 w2 v r):=hN
 obtain⟨n,ao,l,c,x,rfl⟩:∃n ao l c x,v=.agg #[.bool n,.slice ao l c,.int .i64 x]:=by
  rcases hN with ⟨-,rfl⟩|⟨g,cap,rfl,-⟩
  ·exact⟨_,_,_,_,_,rfl⟩
  ·exact⟨_,_,_,_,_,rfl⟩
 clear hN
 go_wp2
 refine leaves_cons (f:=138) (args:=#[.pointer (some ⟨w.heap.size,0,none⟩),.pointer (some ⟨w.heap.size+1,0,none⟩)]) (by simp) (by simp[go_sem]) ?_
 refine(qa7 ⟨w.heap.size,0,none⟩ ⟨w.heap.size+1,0,none⟩ _).mono ?_
 rintro e u' w'' ⟨rfl,rfl,rfl⟩
 simp only[Leaves,settle]
 refine⟨_,(by simp[results,Tryz.results108,go_sem,d0,d1,d2,d3];rfl),_,rfl,?_,?_⟩
 ·have hsz:w.heap.size+2≤w1.heap.size:=by have:=hk1.below.size;simpa using this
  have hn:=HN.out
  rcases hn with h|⟨g,cap,e,hg,ho,hne⟩
  ·exact .inl h
  ·exact .inr ⟨g,cap,e,by omega,(((ho.setOther (by simp;omega) _).setOther (by simp;omega) _).setOther (by simp;omega) _).setOther (by simp;omega) _,hne⟩
 ·exact((hK.trans hk1).trans hk2).setCell (by simp) _|>.setCell (by simp) _|>.setCell (by simp) _|>.setCell (by simp) _
theorem qu {P:Program}{w:World}{ops:Array Oper}{rest:List Oper}{o:Oper}{a:Act}{Q:Exit→Act→World→Prop}(hgd:o.guard=none)(s x:Operand)(t:TypeId)
  (ho:o.op=.call { callee:=.builtin .append,args:=#[s,x],argTypes:=#[t,t] }) (v xv:Value) (hs:a.eval s=v) (hx:a.eval x=xv) (v':Value) (w':World)
  (hr:(Builtin.append_ #[t,t] o.type #[v,xv]).run P w=.ok v' w') (h:wpList P ops Q rest (a.put o.dst v') w'):wpList P ops Q (o::rest) a w:=by
 refine wpList_plain hgd fun K hK=>?_
 unfold Oper.wp execOp
 simp only[ho,resolve,invoke,builtin,Sem.run_bind,Sem.run_pure,Result.andThen_ok,List.map_toArray,List.map_cons,List.map_nil,hs,hx,hr]
 exact hK _ _ h
theorem YA:(Tryz.prog.info? 3).map (fun i=>(i.zero,i.size,i.bytes))=some (some (.int .i64 0),1,8):=by kernel_rfl
theorem ZU:Tryz.prog.underlying 29=some (.slice 3):=by kernel_rfl
def Cl (w0 w:World)(sv:Value)(L:List Int):Prop:=
 (L=[]∧∃ao cap,sv=.slice ao 0 cap)∨∃g cap,sv=.slice (some ⟨g,0,none⟩) L.length cap∧w0.heap.size≤g∧Own w g cap L
theorem Cl.kept {w0 w w':World}{sv:Value}{L:List Int}(h:Cl w0 w sv L)(k:Kept w w'):Cl w0 w' sv L:=by
 rcases h with h|⟨g,cap,e,hg,ho⟩
 ·exact .inl h
 ·exact .inr ⟨g,cap,e,hg,ho.kept k⟩
abbrev qP (w:World):World:=w.alloc (.cells #[.bool false,.slice none 0 0,.int .i64 0] 31)
theorem j9 {w w1:World}(h:Kept (qP w) w1):w1.cell? ⟨w.heap.size,0,none⟩=some (.bool false)∧w1.cell? ⟨w.heap.size,1,none⟩=some (.slice none 0 0)∧w1.cell? ⟨w.heap.size,2,none⟩=some (.int .i64 0)∧(∀o,w1.frozen? ⟨w.heap.size,o,none⟩=false):=
 ⟨(h.below.cell (p:=⟨w.heap.size,0,none⟩) (by simp)).trans (by simp[go_sem]),(h.below.cell (p:=⟨w.heap.size,1,none⟩) (by simp)).trans (by simp[go_sem]),(h.below.cell (p:=⟨w.heap.size,2,none⟩) (by simp)).trans (by simp[go_sem]),fun o=>(h.frozen _).trans (by simp[go_sem])⟩
theorem ZV {w u2:World}{v:Value}{r:Nm}(hN:New (qP w) u2 v r)(hk:Kept (qP w) u2)(a b c:Value):New w (((u2.setCell ⟨w.heap.size,0,none⟩ a).setCell ⟨w.heap.size,1,none⟩ b).setCell ⟨w.heap.size,2,none⟩ c) v r∧Kept w (((u2.setCell ⟨w.heap.size,0,none⟩ a).setCell ⟨w.heap.size,1,none⟩ b).setCell ⟨w.heap.size,2,none⟩ c):=by
 have hK:Kept w (qP w):=(qo0 w).alloc _ _
 constructor
 ·rcases hN with h|⟨g,cap,e,hg,ho,hne⟩
  ·exact .inl h
  ·have hsz:w.heap.size+1≤g:=by simpa using hg
   exact .inr ⟨g,cap,e,by omega,((ho.setOther (by simp;omega) _).setOther (by simp;omega) _).setOther (by simp;omega) _,hne⟩
 ·exact(hK.trans hk).setCell (by simp) _|>.setCell (by simp) _|>.setCell (by simp) _
theorem New.shape {w0 w:World}{v:Value}{r:Nm}(h:New w0 w v r):∃n ao l c x,v=.agg #[.bool n,.slice ao l c,.int .i64 x]:=by
 rcases h with ⟨-,rfl⟩|⟨g,cap,rfl,-⟩
 ·exact⟨_,_,_,_,_,rfl⟩
 ·exact⟨_,_,_,_,_,rfl⟩
theorem Cl.from {w0 w1 w:World}{sv:Value}{L:List Int}(h:Cl w1 w sv L)(k:Kept w0 w1):Cl w0 w sv L:=by
 rcases h with h|⟨g,cap,e,hg,ho⟩
 ·exact .inl h
 ·exact .inr ⟨g,cap,e,qou k.below.size hg,ho⟩
end Go.Proofs.YtaglkncdedeipaaGreatDoor
