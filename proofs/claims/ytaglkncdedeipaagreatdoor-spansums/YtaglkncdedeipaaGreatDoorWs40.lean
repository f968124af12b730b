/-  -/
import Derived.Test.YtaglkncdedeipaaGreatDoorWs38
import Derived.Test.YtaglkncdedeipaaGreatDoorWs39
import Derived.Test.YtaglkncdedeipaaGreatDoorWs23
import Derived.Test.YtaglkncdedeipaaGreatDoorWs08
import Derived.ProofKit
import Derived.OpenShut
import Derived.Carry
import Derived.Lib.SmallJoins
import Derived.ChangeSlices
import Derived.Deep.SlicePairs
import Derived.Deep.Strs
namespace Go.Proofs.YtaglkncdedeipaaGreatDoor
open Go.ChangeShapes Go.WideShapes Go.ChangeAt Go.RowKit
set_option linter.unusedVariables false
set_option linter.unusedSimpArgs false
set_option maxHeartbeats 16000000
set_option maxRecDepth 100000
theorem VZ (v:Nat→Bool)(m:Nat):avl v m=true↔∀i,i<m→v i=true:=by
 induction m with
 |zero=>exact⟨fun _ i hi=>by omega,fun _=>rfl⟩
 | succ m ih=>
  show(avl v m&&v m)=true↔_
  rw[Bool.and_eq_true,ih]
  constructor
  ·intro h i hi
   by_cases e:i=m
   ·rw[e];exact h.2
   ·exact h.1 i (by omega)
  ·intro h
   exact⟨fun i hi=>h i (by omega),h m (by omega)⟩
theorem YV (v:Nat→Bool)(m:Nat)(h:avl v m=false):∃j,j<m∧v j=false∧∀i,i<j→v i=true:=by
 induction m with
 |zero=>exact absurd (show true=false from h) (by decide)
 | succ m ih=>
  by_cases c:avl v m=true
  ·refine⟨m,by omega,?_,(VZ v m).1 c⟩
   have:(avl v m&&v m)=false:=h
   rw[c]at this
   simpa using this
  ·obtain⟨j,h1,h2,h3⟩:=ih (by simpa using c)
   exact⟨j,by omega,h2,h3⟩
theorem qg9 (n:Int)(hn:n=64∨n=32)(m cap:Nat)(hm:m≤65536)(la lb:Nat→Int)(ra:∀i,i<m→RB (la i))(rb:∀i,i<m→RB (lb i))(hv:∀i,i<m→vsp (la i) (lb i) n=true)(K1 K2:Int)(h1:SmN n 1 (fun i=>qd (la i) n) m K1)(h2:SmN n 2 (fun i=>qd (lb i) n) m K2)(ao:Option Addr)(w:World)(hI:Sps w ao m la lb):Calls Tryz.prog 27 #[.slice ao m cap,.int .i64 n] w fun e w'=>e=.returned (.agg #[.int .i64 (pz n K1),.int .i64 (pz n K2)])∧Kept w w':=by
 have hv':=fun i hi=>jw _ _ _ (hv i hi)
 have ba:∀i,i<m→RB (la i)∧qh (la i) n=true:=fun i hi=>⟨ra i hi,(hv' i hi).1⟩
 have bb:∀i,i<m→RB (lb i)∧qh (lb i) n=true:=fun i hi=>⟨rb i hi,(hv' i hi).2.1⟩
 have hp:(0:Int)<(ifn n:Int):=by rcases hn with rfl|rfl<;>decide
 have sa:∀i j,i<m→j<m→iK n (la i)≠0→iK n (la j)≠0→qd (la i) n=qd (la j) n:=fun i j hi hj g1 g2=>by
  have e:∀i,i<m→iK n (la i)≠0→qd (la i) n=-(ifn n:Int):=fun i hi g=>by
   have k:=zh (la i) n (ba i hi).2 (ba i hi).1.1 (ba i hi).1.2
   have:=xg n _ hn k
   have:=(hv' i hi).2.2.2.1
   by_cases c:-(ifn n:Int)<qd (la i) n
   ·exact absurd ((xg n _ hn k).2 (by omega)) g
   ·omega
  rw[e i hi g1,e j hj g2]
 have sb:∀i j,i<m→j<m→iK n (lb i)≠0→iK n (lb j)≠0→qd (lb i) n=qd (lb j) n:=fun i j hi hj g1 g2=>by
  have e:∀i,i<m→iK n (lb i)≠0→qd (lb i) n=(ifn n:Int):=fun i hi g=>by
   have k:=zh (lb i) n (bb i hi).2 (bb i hi).1.1 (bb i hi).1.2
   have:=(hv' i hi).2.2.2.2
   by_cases c:qd (lb i) n<(ifn n:Int)
   ·exact absurd ((xg n _ hn k).2 (by omega)) g
   ·omega
  rw[e i hi g1,e j hj g2]
 have t1:=qbf n 1 K1 hn (.inl rfl) la m hm ba sa h1
 have t2:=qbf n 2 K2 hn (.inr rfl) lb m hm bb sb h2
 have z1:=Vb n hn la m hm ba
 have z2:=Vb n hn lb m hm bb
 have hb:∀(b:Nat→Int),(b=la∨b=lb)→∀k,k<m→(RB (b k)∧qh (b k) n=true)∧qfh n b k:=fun b hb k hk=>by
  rcases hb with rfl|rfl
  ·exact⟨ba k hk,z1 k (by omega)⟩
  ·exact⟨bb k hk,z2 k (by omega)⟩
 refine Vc n m cap (by omega) la lb ao _ _ w hI (fun u=>?_) (fun k b hk hbb u=>?_) (fun k b hk hbb Q u v1 v2 e1 e2 hQ=>?_) (fun Q u v1 v2 e1 e2=>?_)
 ·refine(xW (fun _=>False) u ⟨false,[],0⟩ _ ⟨.slice none 0 0,rfl,none,0,rfl,fun _=>rfl,⟨none,0,rfl,qhy _,by simp[maxLen],fun h=>absurd rfl h⟩,fun b off h=>absurd rfl h⟩).mono ?_
  rintro e w' ⟨⟨r,rfl,h⟩,k⟩
  refine⟨r,rfl,h.imp fun b hb=>?_,k⟩
  rcases hb with hb|hb
  ·exact hb.elim
  ·exact hb
 ·refine(qg3 (b k) n (hb b hbb k hk).1.1 (hb b hbb k hk).1.2 u).mono ?_
  rintro e w' ⟨⟨r,rfl,h⟩,kk⟩
  exact⟨r,rfl,h,kk⟩
 ·exact YU Q n _ _ _ (hb b hbb k hk).2.ok (hb b hbb k hk).1 v1 v2 u e1 e2 hQ
 ·have:=qf5 n hn _ _ _ _ (z1 m (qhy _)).sg (z2 m (qhy _)).sg (z1 m (qhy _)).ok (z2 m (qhy _)).ok v1 v2 u (e1.imp fun _ _=>trivial) (e2.imp fun _ _=>trivial)
  rw[t1,t2]at this
  exact this
theorem qbi (n:Int)(m c:Nat)(hm:m≤70000)(la lb:Nat→Int)(ra:∀i,i<m→RB (la i))(rb:∀i,i<m→RB (lb i))(ao:Option Addr)(w:World)(hT:Tab w)(hI:Sps w ao m la lb):Calls Tryz.prog 8 #[.slice ao m c,.int .i64 n] w fun e w'=>e=.returned (.bool true)∧Kept w w':=by
 have hI':∀u,Kept w u→Sps u ao m la lb:=fun u k v kv=>hI v (k.trans kv)
 have KV:∀k,k<m→∀u,Calls Tryz.prog 12 #[.agg #[.int .i64 (la k),.int .i64 (lb k)],.int .i64 n] u fun e w'=>e=.returned (.bool (vsp (la k) (lb k) n))∧Kept u w':=fun k hk u=>qd0 _ _ n (ra k hk) (rb k hk) u
 by_cases hn:n=64∨n=32
 ·have f1:fs5 n true=0:=by unfold fs5;rw[if_pos hn,if_pos rfl]
  have KF:∀u,Calls Tryz.prog 13 #[.int .i64 n,.bool true] u fun e w'=>e=.returned (.int .i64 0)∧Kept u w':=fun u=>by
   have:=Zw n true u
   rw[f1]at this
   exact this
  have KB:∀u,Calls Tryz.prog 65 #[.int .i64 0,.int .i64 n] u fun e w'=>e=.returned (.bool true)∧u=w':=fun u=>by
   have:=jC 0 n u
   rw[show val 0 n=true by rcases hn with rfl|rfl<;>decide]at this
   exact this
  by_cases hb:65536<m
  ·exact xE n m c hm la lb ao 0 0 2 0 0 0 (fun k=>vsp (la k) (lb k) n) w hI (.inr (.inl ⟨rfl,hb,rfl⟩)) (fun u g cap k h=>qgc n m cap hb _ u KB) KV KF (fun _ h=>absurd h (by omega)) (fun h=>absurd h (by decide)) (fun u s1 s2 _ h=>by
    obtain⟨rfl,rfl⟩:=h (by decide)
    exact Zx 2 (by decide) 0 0 u)
  ·by_cases hv:avl (fun k=>vsp (la k) (lb k) n) m=true
   ·have hv':=(VZ _ m).1 hv
    obtain⟨K1,K2,S1,S2,-,-,KS⟩:=qea n hn m (by omega) la lb ra rb hv'
    exact xE n m c hm la lb ao (pz n K1) (pz n K2) 0 0 (pz n K1) (pz n K2) (fun k=>vsp (la k) (lb k) n) w hI (.inr (.inr (.inr ⟨rfl,by omega,rfl⟩))) (fun u g cap k h=>KS u _ cap (hT.kept k) h) KV KF (fun _ _ u=>by
     have:=Zw n true u
     rw[f1]at this
     rw[hv]
     exact this) (fun _ u k=>qg9 n hn m c (by omega) la lb ra rb hv' K1 K2 S1 S2 ao u (hI' u k)) (fun u s1 s2 h _=>by
     obtain⟨rfl,rfl⟩:=h rfl
     exact qf6 _ _ u)
   ·have hv0:avl (fun k=>vsp (la k) (lb k) n) m=false:=by simpa using hv
    obtain⟨j,hj,hbad,hgood⟩:=YV _ m hv0
    have f2:fs5 n false=1:=by unfold fs5;rw[if_pos hn,if_neg (by decide)]
    exact xE n m c hm la lb ao 0 0 1 0 0 0 (fun k=>vsp (la k) (lb k) n) w hI (.inr (.inr (.inl ⟨rfl,by omega,rfl⟩))) (fun u g cap k h=>qgd n m cap j (by omega) hj la lb (fun i=>flv (la i) n) (fun i=>flv (lb i) n) _ u h KB (fun i hi v=>(QE _ _ n (ra i (by omega)) (rb i (by omega)) (hgood i hi)).2.2 v) (fun v=>by
     have:=jV (la j) (lb j) n (ra j hj) (rb j hj) v
     unfold opV opE at this
     rw[if_neg (by simpa using hbad),if_pos hn,if_neg (by simpa using hbad)]at this
     exact this)) KV KF (fun _ _ u=>by
     have:=Zw n false u
     rw[f2]at this
     rw[hv0]
     exact this) (fun h=>absurd h (by decide)) (fun u s1 s2 _ h=>by
     obtain⟨rfl,rfl⟩:=h (by decide)
     exact Zx 1 (by decide) 0 0 u)
 ·have f1:fs5 n true=3:=by unfold fs5;rw[if_neg hn]
  exact xE n m c hm la lb ao 0 0 3 3 0 0 (fun k=>vsp (la k) (lb k) n) w hI (.inl ⟨rfl,rfl⟩) (fun u g cap k h=>qgb n m cap _ u (fun v=>by
   have:=jC 0 n v
   rw[show val 0 n=false by
    unfold val
    have h1:n≠64:=fun e=>hn (.inl e)
    have h2:n≠32:=fun e=>hn (.inr e)
    simp[h1,h2]]at this
   exact this)) KV (fun u=>by
   have:=Zw n true u
   rw[f1]at this
   exact this) (fun h=>absurd h (by decide)) (fun h=>absurd h (by decide)) (fun u s1 s2 _ h=>by
   obtain⟨rfl,rfl⟩:=h (by decide)
   exact Zx 3 (by decide) 0 0 u)
theorem spanSums_true (w:World)(hT:Tab w)(n:Int)(m c:Nat)(la lb:Nat→Int)(ra:∀i,i<m→RB (la i))(rb:∀i,i<m→RB (lb i))(ao:Option Addr)(hI:Sps w ao m la lb):Calls Tryz.prog 4 #[.slice ao m c,.int .i64 n] w fun e w'=>e=.returned (.bool true)∧Kept w w':=by
 have KA:Hid (∀u,Kept w u→Calls Tryz.prog 6 #[] u fun e w'=>e=.returned (.bool true)∧Kept u w'):=fun u k=>qgm u (hT.kept k)
 by_cases hm:m≤70000
 ·have K1:Hid (∀u,Kept w u→Calls Tryz.prog 8 #[.slice ao m c,.int .i64 n] u fun e w'=>e=.returned (.bool true)∧Kept u w'):=fun u k=>qbi n m c hm la lb ra rb ao u (hT.kept k) (fun v kv=>hI v (k.trans kv))
  have dl:decide ((m:Int)>70000)=false:=by rw[decide_eq_false_iff_not];omega
  have dl2:decide ((70000:Int)<(m:Int))=false:=by rw[decide_eq_false_iff_not];omega
  clear hT ra rb hI hm
  go_enter Tryz.func4,Tryz.ntmps4
  go_wp2_with (first|(go_at_call 6;refine(KA.out _ (qia w)).mono ?_;rintro e x1 ⟨rfl,k1⟩)|(go_at_call 8;refine(K1.out _ k1).mono ?_;rintro e x2 ⟨rfl,k2⟩))
  go_ret
  exact⟨rfl,k1.trans k2⟩
 ·have dl:decide ((m:Int)>70000)=true:=by rw[decide_eq_true_iff];omega
  have dl2:decide ((70000:Int)<(m:Int))=true:=by rw[decide_eq_true_iff];omega
  clear hT ra rb hI hm
  go_enter Tryz.func4,Tryz.ntmps4
  go_wp2_with (first|(go_at_call 6;refine(KA.out _ (qia w)).mono ?_;rintro e x1 ⟨rfl,k1⟩))
  go_ret
  exact⟨rfl,k1⟩
end Go.Proofs.YtaglkncdedeipaaGreatDoor
namespace Go.Proofs.YtaglkncdedeipaaGreatDoor
open Go.ChangeShapes Go.WideShapes Go.ChangeAt Go.RowKit Go.Joins
set_option linter.unusedVariables false
set_option linter.unusedSimpArgs false
set_option maxHeartbeats 16000000
set_option maxRecDepth 100000
theorem qap:laidOutB Tryz.prog=true:=by kernel_rfl
theorem qaq (n:Int)(h:(Lit.int .i64 n).wf=true):-9223372036854775808≤n∧n≤9223372036854775807:=by
 have e1:IntKind.i64.min=-9223372036854775808:=rfl
 have e2:IntKind.i64.max=9223372036854775807:=rfl
 simp[Lit.wf]at h
 omega
section
variable {H:Type} {enc:TypeId×Value→H} {W:World}
theorem xL {W':World}{sp:Nat→Bool}:∀{ts:List TypeId} {vs:List Value} {ds:List (DataW H)} {p:List MemPlace},(∀t∈ts,Tryz.prog.readableRec t=true∧t<Tryz.prog.types.size)→DataW.TrodAll enc Tryz.prog W 0 (fun _=>true) true ts vs ds p→(∀x∈p,W.sameAt W' x)→(∀x∈p,sp x.block=true)→DataW.TrodAll enc Tryz.prog W' 0 sp true ts vs ds p
 |[],_,_,_,_,h,_,_=>by
  obtain⟨rfl,rfl,rfl⟩:=trodAll_nil h
  exact trodAll_mk0
 |t::ts,_,_,_,hr,h,hs,hp=>by
  obtain⟨v,vs1,d,ds1,a,b,rfl,rfl,rfl,h1,h2⟩:=trodAll_cons h
  obtain⟨r1,r2⟩:=hr t (by simp)
  exact trodAll_cons_mk (WideElems.Trod_stays qap r1 r2 h1 (fun x hx=>hs x (by simp[hx])) (fun x hx=>hp x (by simp[hx]))) (xL (fun t' ht'=>hr t' (by simp[ht'])) h2 (fun x hx=>hs x (by simp[hx])) (fun x hx=>hp x (by simp[hx])))
end
theorem Qw:Tryz.prog.cellsOf 23=2:=by kernel_rfl
theorem qar:Tryz.prog.cellsOf 3=1:=by kernel_rfl
theorem Js {u:World}{b o:Nat}{v:Value}(h:u.cell? ⟨b,o,none⟩=some v):b<u.heap.size:=by
 by_cases hs:b<u.heap.size
 ·exact hs
 ·have hn:u.heap[b]?=none:=by simp;omega
  simp[World.cell?,hn]at h
section
variable {H:Type} {enc:TypeId×Value→H} {W:World}
theorem XS {b0:Nat}{v:Value}{d:DataW H}{p:List MemPlace}(hv:Value.okWide Tryz.prog W .any b0 26 v)(h:DataW.Trod enc Tryz.prog W 0 (fun _=>true) true 26 v d p):
  ∃(ar:Option Addr) (len cap:Nat) (la lb:Nat→Int),v=.slice ar len cap∧(∀i,i<len→RB (la i))∧(∀i,i<len→RB (lb i))∧Sps W ar len la lb:=by
 obtain⟨ar,len,cap,rfl⟩:=okWide_slice Tryz.underlying26 hv
 have key:∀i,∃z:Int×Int,i<len→(∃b off,ar=some ⟨b,off,none⟩∧W.cell? ⟨b,off+i*2,none⟩=some (.int .i64 z.1)∧W.cell? ⟨b,off+i*2+1,none⟩=some (.int .i64 z.2))∧RB z.1∧RB z.2:=fun i=>by
  by_cases hi:i<len
  ·obtain⟨fuel,hf⟩:=h
   rcases Go.Deep.open_slice Tryz.underlying26 hf with ⟨h0,-⟩|⟨a,len',cap',m,n,D,Pl,hcs,hb,hl,hm,hmm,-,hx⟩
   ·have:len=0:=by simp[Value.cells]at h0;exact h0.2.1
    omega
   ·have he:ar=some a∧len=len':=by simp[Value.cells]at hcs;exact⟨hcs.1,hcs.2.1⟩
    obtain⟨rfl,rfl⟩:=he
    have him:i<m:=by rw[hmm];simp;omega
    obtain⟨cz,hz1,hz2⟩:=hx 0 (by omega)
    rw[Qw]at hz1
    obtain⟨_,hlz,hcz⟩:=World.cells?_some hz1
    have hs:a.spot=none:=by
     have c:=hcz 0 (by omega)
     obtain⟨u,hu⟩:∃u,cz[0]?=some u:=⟨cz[0]'(by omega),List.getElem?_eq_getElem _⟩
     rw[hu]at c
     have:=World.cell?_spot c
     simpa [Addr.add] using this
    obtain⟨ab,ao,asp⟩:=a
    simp only at hs
    subst hs
    clear hcz hz1 hz2 hlz
    obtain⟨cs',h1,h2⟩:=hx i him
    rw[Qw]at h1
    obtain⟨_,hlen,hcell⟩:=World.cells?_some h1
    obtain⟨y0,y1,n1,-,-,g0,g1⟩:=trod_struct2 Tryz.underlying23 h2
    match cs',hlen with
    |[v0,v1],_=>
     simp only[qar,List.drop_zero,List.drop_succ_cons,List.take_succ_cons,List.take_zero]at g0 g1
     obtain⟨x0,e0,-,w0⟩:=DataW.trod_int Tryz.underlying3 g0
     obtain⟨x1,e1,-,w1⟩:=DataW.trod_int Tryz.underlying3 g1
     simp only[List.cons.injEq,and_true]at e0 e1
     subst e0 e1
     have c0:=hcell 0 (by omega)
     have c1:=hcell 1 (by omega)
     simp only[List.getElem?_cons_zero,List.getElem?_cons_succ]at c0 c1
     rw[Addr.add_lit,Addr.add_lit]at c0 c1
     exact⟨(x0,x1),fun _=>⟨⟨ab,ao,rfl,by simpa using c0,by simpa using c1⟩,qaq x0 w0,qaq x1 w1⟩⟩
  ·exact⟨(0,0),fun h=>absurd h hi⟩
 obtain⟨g,hg⟩:=Classical.axiomOfChoice key
 refine⟨ar,len,cap,fun i=>(g i).1,fun i=>(g i).2,rfl,fun i hi=>(hg i hi).2.1,fun i hi=>(hg i hi).2.2,fun u k i hi=>?_⟩
 obtain⟨b,off,rfl,c0,c1⟩:=(hg i hi).1
 exact⟨b,off,rfl,(k.below.cell (p:=⟨b,_,none⟩) (Js c0)).trans c0,(k.below.cell (p:=⟨b,_,none⟩) (Js c0)).trans c1⟩
end
end Go.Proofs.YtaglkncdedeipaaGreatDoor
