/-  -/
import Derived.Test.YtaglkncdedeipaaGreatDoorWt01
import Derived.Deep.RegionHeld
namespace Go.Proofs.YtaglkncdedeipaaGreatDoor
open Go
set_option linter.unusedVariables false
set_option linter.unusedSimpArgs false
set_option maxHeartbeats 16000000
set_option maxRecDepth 100000
section
variable {P:Program} {ops:Array Oper} {Q:Exit→Act→World→Prop} {md:Region.Mode} {S:World→Prop} {D:List Nat} {i1 i2:Nat} {d1 d2:Tmp}
def FU:Value:=undef
def fls (x:Option Value)(i:Nat)(l:Array Bool):Array Bool:=match x with
 |none=>l
 |some _=>l.setIfInBounds i true
def fpt (x:Option Value)(d:Tmp)(a:Act):Act:=match x with
 |none=>a
 |some v=>a.put (some d) v
def fnn (x:Option Value):Nat:=match x with
 |none=>1
 |some _=>0
def fwo (x:Option Value)(i:Nat):List Nat:=match x with
 |none=>[i]
 |some _=>[]
theorem yR {x:Option Value}{i c:Nat}{l:Array Bool}(h:c≠i):(fls x i l).setIfInBounds c true=fls x i (l.setIfInBounds c true):=by
 cases x with
 |none=>rfl
 |some _=>exact Array.setIfInBounds_comm _ _ (Ne.symm h)
theorem yS {x:Option Value}{d:Tmp}{a:Act}{e:Option Tmp}{v:Value}(h:e≠some d):(fpt x d a).put e v=fpt x d (a.put e v):=by
 cases x with
 |none=>rfl
 |some u=>exact Act.put_comm a u v (fun d' hd he=>h (by cases hd;exact he))
def FL (P:Program)(md:Region.Mode)(ops:Array Oper)(Q:Exit→Act→World→Prop)(S:World→Prop)(D:List Nat)(i1 i2:Nat)(d1 d2:Tmp)(fuel:Nat)(L:Array Bool)(a:Act)(I:Option Value→Option Value→World→Prop):Prop:=
 ∀x y w,I x y w→zc P md ops Q S D (fuel+fnn x+fnn y) (fls y i2 (fls x i1 L)) (fpt y d2 (fpt x d1 a)) w
def rdy (md:Region.Mode)(ops:Array Oper)(L:Array Bool)(cs:List Nat)(i1 i2:Nat):Bool:=
 [(none:Option Value),some FU].all fun x=>[(none:Option Value),some FU].all fun y=>((cs++fwo x i1++fwo y i2).isEmpty||!(Region.ready md ops (fls y i2 (fls x i1 L))).isEmpty)&&(Region.ready md ops (fls y i2 (fls x i1 L))).all fun j=>(cs++fwo x i1++fwo y i2).contains j
theorem yU {x:Option Value}{i:Nat}{l:Array Bool}:fls x i l=fls (x.map fun _=>FU) i l:=by cases x<;>rfl
theorem Zx {x:Option Value}{i:Nat}:fwo x i=fwo (x.map fun _=>FU) i:=by cases x<;>rfl
theorem V4 (x:Option Value):(x.map fun _=>FU)∈[(none:Option Value),some FU]:=by cases x<;>simp
theorem Qv {L:Array Bool}{cs:List Nat}(h:rdy md ops L cs i1 i2=true)(x y:Option Value):
  (cs++fwo x i1++fwo y i2≠[]→Region.ready md ops (fls y i2 (fls x i1 L))≠[])∧∀j∈Region.ready md ops (fls y i2 (fls x i1 L)),j∈cs++fwo x i1++fwo y i2:=by
 unfold rdy at h
 have h1:=List.all_eq_true.1 (List.all_eq_true.1 h _ (V4 x)) _ (V4 y)
 rw[←Zx,←Zx,←yU,←yU (x:=x)]at h1
 rw[Bool.and_eq_true,List.all_eq_true]at h1
 refine⟨fun hn he=>?_,fun j hj=>by simpa using h1.2 j hj⟩
 rw[he]at h1
 have h2:=h1.1
 simp only[List.isEmpty_nil,Bool.not_true,Bool.or_false,List.isEmpty_iff]at h2
 exact hn h2
structure Flt (P:Program) (ops:Array Oper) (Q:Exit→Act→World→Prop) (S:World→Prop) (i1 i2:Nat) (d1 d2:Tmp) (I:Option Value→Option Value→World→Prop):Prop where
 keeps:∀x y w,I x y w→S w
 one:∀(K:Act→World→Prop) a y w,I none y w→(∀x w',I (some x) y w'→K (a.put (some d1) x) w')→wpOp P ops Q i1 K a w
 two:∀(K:Act→World→Prop) a x w,I x none w→(∀y w',I x (some y) w'→K (a.put (some d2) y) w')→wpOp P ops Q i2 K a w
theorem qE {c:Nat}{o:Oper}{fuel:Nat}{L:Array Bool}{a:Act}{I:Option Value→Option Value→World→Prop}{I':Value→Option Value→Option Value→World→Prop}
  (ho:ops[c]?=some o) (hr:rdy md ops L [c] i1 i2=true) (hn:(c != i1&&c != i2&&i1 != i2)=true) (hd:(o.dst != some d1&&o.dst != some d2&&d1 != d2)=true) (hF:Flt P ops Q S i1 i2 d1 d2 I) (hS':∀v x y w,I' v x y w→S w)
  (hc:∀x y w,I x y w→∀K':Act→World→Prop,Shut (∀v A w',A=(fpt y d2 (fpt x d1 a)).put o.dst v→I' v x y w'→K' A w')→
   if Region.wanted o (yielded ops (fpt y d2 (fpt x d1 a)).tmps)=true then Oper.wp P o (fpt y d2 (fpt x d1 a)) w K' Q else K' ((fpt y d2 (fpt x d1 a)).put o.dst undef) w)
  (h:∀v,FL P md ops Q S D i1 i2 d1 d2 fuel (L.setIfInBounds c true) (a.put o.dst v) (I' v)):FL P md ops Q S D i1 i2 d1 d2 (fuel+1) L a I:=by
 simp only[Bool.and_eq_true,bne_iff_ne]at hn hd
 obtain⟨⟨hn1,hn2⟩,hn3⟩:=hn
 obtain⟨⟨hd1,hd2⟩,hd3⟩:=hd
 have hstep:∀x y w,I x y w→wpOp P ops Q c (fun a' w'=>(D.contains c=false→S w')∧zc P md ops Q S D (fuel+fnn x+fnn y) ((fls y i2 (fls x i1 L)).setIfInBounds c true) a' w') (fpt y d2 (fpt x d1 a)) w:=fun x y w hI=>by
  refine wpOp_step ho fun K' hK=>hc x y w hI K' fun v A w' hA hI'=>hK _ _ ⟨fun _=>hS' v x y w' hI',?_⟩
  rw[hA,yR hn2,yR hn1,yS hd2,yS hd1]
  exact h v x y w' hI'
 have h11:∀x y w,I (some x) (some y) w→zc P md ops Q S D (fuel+1) (fls (some y) i2 (fls (some x) i1 L)) (fpt (some y) d2 (fpt (some x) d1 a)) w:=fun x y w hI=>by
  obtain⟨g1,g2⟩:=Qv hr (some x) (some y)
  refine⟨fun he=>absurd he (g1 (by simp[fwo])),fun j hj=>?_⟩
  have hj':j=c:=by simpa [fwo] using g2 j hj
  subst hj'
  exact hstep (some x) (some y) w hI
 have h10:∀x w,I (some x) none w→zc P md ops Q S D (fuel+1+1) (fls none i2 (fls (some x) i1 L)) (fpt none d2 (fpt (some x) d1 a)) w:=fun x w hI=>by
  obtain⟨g1,g2⟩:=Qv hr (some x) none
  refine⟨fun he=>absurd he (g1 (by simp[fwo])),fun j hj=>?_⟩
  have hj':j=c∨j=i2:=by simpa [fwo] using g2 j hj
  rcases hj' with rfl|rfl
  ·exact hstep (some x) none w hI
  ·exact hF.two _ _ _ _ hI fun y w' hI'=>⟨fun _=>hF.keeps _ _ _ hI',h11 x y w' hI'⟩
 have h01:∀y w,I none (some y) w→zc P md ops Q S D (fuel+1+1) (fls (some y) i2 (fls none i1 L)) (fpt (some y) d2 (fpt none d1 a)) w:=fun y w hI=>by
  obtain⟨g1,g2⟩:=Qv hr none (some y)
  refine⟨fun he=>absurd he (g1 (by simp[fwo])),fun j hj=>?_⟩
  have hj':j=c∨j=i1:=by simpa [fwo] using g2 j hj
  rcases hj' with rfl|rfl
  ·exact hstep none (some y) w hI
  ·refine hF.one _ _ _ _ hI fun x w' hI'=>⟨fun _=>hF.keeps _ _ _ hI',?_⟩
   rw[yR hn3,yS (by simpa using hd3)]
   exact h11 x y w' hI'
 have h00:∀w,I none none w→zc P md ops Q S D (fuel+1+1+1) (fls none i2 (fls none i1 L)) (fpt none d2 (fpt none d1 a)) w:=fun w hI=>by
  obtain⟨g1,g2⟩:=Qv hr none none
  refine⟨fun he=>absurd he (g1 (by simp[fwo])),fun j hj=>?_⟩
  have hj':j=c∨j=i1∨j=i2:=by simpa [fwo] using g2 j hj
  rcases hj' with rfl|rfl|rfl
  ·exact hstep none none w hI
  ·exact hF.one _ _ _ _ hI fun x w' hI'=>⟨fun _=>hF.keeps _ _ _ hI',h10 x w' hI'⟩
  ·exact hF.two _ _ _ _ hI fun y w' hI'=>⟨fun _=>hF.keeps _ _ _ hI',h01 y w' hI'⟩
 intro x y w hI
 cases x with
 |none=>cases y with
  |none=>exact h00 w hI
  |some y=>exact h01 y w hI
 |some x=>cases y with
  |none=>exact h10 x w hI
  |some y=>exact h11 x y w hI
def qnc (md:Region.Mode)(ops:Array Oper)(L:Array Bool)(i1 i2:Nat):Bool:=
 [((none:Option Value),(none:Option Value)),(none,some FU),(some FU,none)].all fun p=>!(Region.ready md ops (fls p.2 i2 (fls p.1 i1 L))).isEmpty&&(Region.ready md ops (fls p.2 i2 (fls p.1 i1 L))).all fun j=>(fwo p.1 i1++fwo p.2 i2).contains j
theorem QP {L:Array Bool}(h:qnc md ops L i1 i2=true)(x y:Option Value)(hxy:x=none∨y=none):
  Region.ready md ops (fls y i2 (fls x i1 L))≠[]∧∀j∈Region.ready md ops (fls y i2 (fls x i1 L)),j∈fwo x i1++fwo y i2:=by
 unfold qnc at h
 have hm:((x.map fun _=>FU),(y.map fun _=>FU))∈[((none:Option Value),(none:Option Value)),(none,some FU),(some FU,none)]:=by
  rcases hxy with rfl|rfl
  ·cases y<;>simp
  ·cases x<;>simp
 have h1:=List.all_eq_true.1 h _ hm
 dsimp only at h1
 rw[←Zx,←Zx,←yU,←yU (x:=x)]at h1
 rw[Bool.and_eq_true,List.all_eq_true]at h1
 refine⟨fun he=>?_,fun j hj=>by simpa using h1.2 j hj⟩
 rw[he]at h1
 exact absurd h1.1 (by simp)
theorem yB {fuel:Nat}{L:Array Bool}{a:Act}{I:Option Value→Option Value→World→Prop}
  (hr:qnc md ops L i1 i2=true) (hn:(i1 != i2)=true) (hd:(d1 != d2)=true) (hF:Flt P ops Q S i1 i2 d1 d2 I)
  (h:∀x y w,I (some x) (some y) w→zc P md ops Q S D fuel ((L.setIfInBounds i1 true).setIfInBounds i2 true) ((a.put (some d1) x).put (some d2) y) w):FL P md ops Q S D i1 i2 d1 d2 fuel L a I:=by
 rw[bne_iff_ne]at hn hd
 have h11:∀x y w,I (some x) (some y) w→zc P md ops Q S D fuel (fls (some y) i2 (fls (some x) i1 L)) (fpt (some y) d2 (fpt (some x) d1 a)) w:=h
 have h10:∀x w,I (some x) none w→zc P md ops Q S D (fuel+1) (fls none i2 (fls (some x) i1 L)) (fpt none d2 (fpt (some x) d1 a)) w:=fun x w hI=>by
  obtain⟨g1,g2⟩:=QP hr (some x) none (.inr rfl)
  refine⟨fun he=>absurd he g1,fun j hj=>?_⟩
  have hj':j=i2:=by simpa [fwo] using g2 j hj
  subst hj'
  exact hF.two _ _ _ _ hI fun y w' hI'=>⟨fun _=>hF.keeps _ _ _ hI',h11 x y w' hI'⟩
 have h01:∀y w,I none (some y) w→zc P md ops Q S D (fuel+1) (fls (some y) i2 (fls none i1 L)) (fpt (some y) d2 (fpt none d1 a)) w:=fun y w hI=>by
  obtain⟨g1,g2⟩:=QP hr none (some y) (.inl rfl)
  refine⟨fun he=>absurd he g1,fun j hj=>?_⟩
  have hj':j=i1:=by simpa [fwo] using g2 j hj
  subst hj'
  refine hF.one _ _ _ _ hI fun x w' hI'=>⟨fun _=>hF.keeps _ _ _ hI',?_⟩
  rw[yR hn,yS (by simpa using hd)]
  exact h11 x y w' hI'
 have h00:∀w,I none none w→zc P md ops Q S D (fuel+1+1) (fls none i2 (fls none i1 L)) (fpt none d2 (fpt none d1 a)) w:=fun w hI=>by
  obtain⟨g1,g2⟩:=QP hr none none (.inl rfl)
  refine⟨fun he=>absurd he g1,fun j hj=>?_⟩
  have hj':j=i1∨j=i2:=by simpa [fwo] using g2 j hj
  rcases hj' with rfl|rfl
  ·exact hF.one _ _ _ _ hI fun x w' hI'=>⟨fun _=>hF.keeps _ _ _ hI',h10 x w' hI'⟩
  ·exact hF.two _ _ _ _ hI fun y w' hI'=>⟨fun _=>hF.keeps _ _ _ hI',h01 y w' hI'⟩
 intro x y w hI
 cases x with
 |none=>cases y with
  |none=>exact h00 w hI
  |some y=>exact h01 y w hI
 |some x=>cases y with
  |none=>exact h10 x w hI
  |some y=>exact h11 x y w hI
def tkf (md:Region.Mode)(ops:Array Oper)(L:Array Bool)(D:List Nat)(i i1 i2:Nat):Bool:=
 [(none:Option Value),some FU].all fun x=>[(none:Option Value),some FU].all fun y=>Region.free md ops (fls y i2 (fls x i1 L)) i&&(Region.ready md ops (fls y i2 (fls x i1 L))).contains i&&qaf md ops (fls y i2 (fls x i1 L)) D i (qb7 md ops i)
theorem qY {i:Nat}{oi:Oper}{v:Value}{fuel:Nat}{L:Array Bool}{a:Act}{I:Option Value→Option Value→World→Prop}(hi:ops[i]?=some oi)
  (hs:Region.noSelect ops=true) (hB:tkf md ops L D i i1 i2=true) (hn:(i != i1&&i != i2)=true) (hd:(oi.dst != some d1&&oi.dst != some d2)=true)
  (hQ:∀c a w,Q (.panic c) (a.put oi.dst v) w→Q (.panic c) a w) (hS:∀x y w,I x y w→S w) (hy:∀x y,YieldsIf P ops S oi v (fpt y d2 (fpt x d1 a)))
  (h:FL P md ops Q S D i1 i2 d1 d2 fuel (L.setIfInBounds i true) (a.put oi.dst v) I):FL P md ops Q S D i1 i2 d1 d2 (fuel+1) L a I:=by
 simp only[Bool.and_eq_true,bne_iff_ne]at hn hd
 intro x y w hI
 unfold tkf at hB
 have h1:=List.all_eq_true.1 (List.all_eq_true.1 hB _ (V4 x)) _ (V4 y)
 rw[←yU,←yU (x:=x)]at h1
 simp only[Bool.and_eq_true]at h1
 have h2:=h x y w hI
 rw[←yR hn.1,←yR hn.2,←yS hd.1,←yS hd.2]at h2
 have e:fuel+1+fnn x+fnn y=fuel+fnn x+fnn y+1:=by omega
 rw[e]
 exact qz hi hs h1.1.1 h1.1.2 h1.2 hQ (hy x y) (hS x y w hI) h2
end
end Go.Proofs.YtaglkncdedeipaaGreatDoor
namespace Go.Proofs.YtaglkncdedeipaaGreatDoor
open Go.ChangeShapes Go.WideShapes Go.ChangeAt Go.RowKit
set_option linter.unusedVariables false
set_option linter.unusedSimpArgs false
set_option maxHeartbeats 16000000
set_option maxRecDepth 100000
def Reads (w:World)(b off:Nat)(L:List Int):Prop:=∀i,i<L.length→w.cell? ⟨b,off+i,none⟩=some (.int .i64 (L.getD i 0))
def Sl (w:World)(v:Value)(L:List Int):Prop:=
 ∃ao cap,v=.slice ao L.length cap∧L.length≤cap∧cap≤maxLen∧(L≠[]→∃b off,ao=some ⟨b,off,none⟩∧b<w.heap.size∧Reads w b off L)
theorem Reads.kept {w w':World}{b off:Nat}{L:List Int}(h:Reads w b off L)(hb:b<w.heap.size)(k:Kept w w'):Reads w' b off L:=
 fun i hi=>(k.below.cell (p:=⟨b,off+i,none⟩) hb).trans (h i hi)
theorem Sl.kept {w w':World}{v:Value}{L:List Int}(h:Sl w v L)(k:Kept w w'):Sl w' v L:=by
 obtain⟨ao,cap,e,hc,hm,hr⟩:=h
 refine⟨ao,cap,e,hc,hm,fun hne=>?_⟩
 obtain⟨b,off,e2,hb,hr⟩:=hr hne
 exact⟨b,off,e2,qok hb k.below.size,hr.kept hb k⟩
def dig (L:List Int)(i:Int):Int:=if 0≤i then L.getD i.toNat 0 else 0
theorem qgh (L:List Int)(b off cap:Nat)(i:Nat)(hi:i<L.length)(w:World)(hr:Reads w b off L):Calls Tryz.prog 171 #[.slice (some ⟨b,off,none⟩) L.length cap,.int .i64 (i:Int)] w fun e w'=>e=.returned (.int .i64 (L.getD i 0))∧w=w':=by
 have h1:=hr i hi
 have h2:((i:Int)<0)=False:=by simp
 have h3:((L.length:Int)≤(i:Int))=False:=by simp;omega
 generalize L.getD i 0=d at *
 generalize L.length=n at *
 clear hr
 go_enter Tryz.func171,Tryz.ntmps171
 go_wp2
 go_ret
 exact⟨rfl,rfl⟩
theorem qed (n:Nat)(ao:Option Addr)(cap:Nat)(i:Int)(hi:i<0∨(n:Int)≤i)(w:World):Calls Tryz.prog 171 #[.slice ao n cap,.int .i64 i] w fun e w'=>e=.returned (.int .i64 0)∧w=w':=by
 rcases(show i<0∨(0≤i∧(n:Int)≤i) by omega)with h|⟨h0,h⟩
 ·go_enter Tryz.func171,Tryz.ntmps171
  go_wp2
  go_ret
  exact⟨rfl,rfl⟩
 ·go_enter Tryz.func171,Tryz.ntmps171
  go_wp2
  go_ret
  exact⟨rfl,rfl⟩
theorem Xd (L:List Int)(v:Value)(i:Int)(w:World)(h:Sl w v L):Calls Tryz.prog 171 #[v,.int .i64 i] w fun e w'=>e=.returned (.int .i64 (dig L i))∧w=w':=by
 obtain⟨ao,cap,rfl,hc,hm,hr⟩:=h
 by_cases hi:0≤i∧i<L.length
 ·obtain⟨b,off,rfl,-,hr⟩:=hr (by intro h;subst h;simp at hi;omega)
  have:=qgh L b off cap i.toNat (by omega) w hr
  rw[Int.toNat_of_nonneg hi.1]at this
  rw[dig,if_pos hi.1]
  exact this
 ·have:dig L i=0:=by
   unfold dig
   split
   ·rw[qon,List.getElem?_eq_none (by omega)];rfl
   ·rfl
  rw[this]
  exact qed _ _ _ _ (by omega) w
theorem Vb (L:List Int)(h:Dg L)(q:Nat):dig L (q:Int)=((nv L/2^(30*q)%1073741824:Nat):Int):=by
 have h1:=zZ L h q
 have h2:=h.getD q
 rw[dig,if_pos (by omega),Int.toNat_natCast]
 omega
theorem qck (L:List Int)(q:Int)(h:q<0):dig L q=0:=by rw[dig,if_neg (by omega)]
def pcq (L:List Int)(q:Int)(s:Nat):Int:=bits .and .i64 (bits .or .i64 (dig L q/2^s) (IntKind.i64.wrap (dig L (q+1)*2^(30-s)))) 1073741823
theorem Vc (x y s:Nat)(hs:s<30)(hx:x<1073741824)(hy:y<1073741824):bits .and .i64 (bits .or .i64 ((x:Int)/2^s) (IntKind.i64.wrap ((y:Int)*2^(30-s)))) 1073741823=(((x/2^s+y*2^(30-s))%1073741824:Nat):Int):=by
 obtain⟨p,q,hp,hq,e⟩:∃p q:Nat,2^s=p∧2^(30-s)=q∧p*q=1073741824:=⟨_,_,rfl,rfl,by rw[←qol,show s+(30-s)=30 by omega]⟩
 have hp0:0<p:=by rw[←hp];exact qoj _
 have hq0:0<q:=by rw[←hq];exact qoj _
 have hq1:q≤1073741824:=by rw[←e];exact Nat.le_mul_of_pos_left _ hp0
 have e1:(x:Int)/2^s=((x/2^s:Nat):Int):=by rw[Int.natCast_ediv,Int.natCast_pow];rfl
 have e2:(y:Int)*2^(30-s)=((y*2^(30-s):Nat):Int):=by rw[Int.natCast_mul,Int.natCast_pow];rfl
 have h1:x/2^s<2^(30-s):=by
  rw[hp,hq]
  exact(Nat.div_lt_iff_lt_mul hp0).2 (by rw[qoq];omega)
 have h2:y*2^(30-s)<1152921504606846976:=by
  rw[hq]
  calc y*q≤y*1073741824:=Nat.mul_le_mul_left _ hq1
   _<1152921504606846976:=by omega
 have e3:IntKind.i64.wrap ((y*2^(30-s):Nat):Int)=((y*2^(30-s):Nat):Int):=by
  rw[qg];omega
 rw[e1,e2,e3,qbc _ _ _ h1 (by have:x/2^s≤x:=Nat.div_le_self _ _;omega),xW]
 rfl
theorem qgi (L:List Int)(h:Dg L)(q:Int)(s:Nat)(hs:s<30):pcq L q s=pcz (nv L) (30*q+s):=by
 unfold pcq pcz
 by_cases h0:0≤q
 ·obtain⟨n,rfl⟩:∃n:Nat,q=n:=⟨q.toNat,by omega⟩
  rw[if_pos (by omega),show((n:Int)+1)=((n+1:Nat):Int) by omega,Vb L h,Vb L h,Vc _ _ s hs (Nat.mod_lt _ (by decide)) (Nat.mod_lt _ (by decide)),Xm _ s hs,show(30*(n:Int)+(s:Int)).toNat=30*n+s by omega]
 ·rw[if_neg (by omega),qck L q (by omega)]
  by_cases h1:q=-1
  ·subst h1
   have e:=Vb L h 0
   rw[show(-1+1:Int)=((0:Nat):Int) by rfl,e,show(0:Int)=((0:Nat):Int)from rfl,Vc 0 _ s hs (by decide) (Nat.mod_lt _ (by decide)),show(-(30*(-1)+(s:Int))).toNat=30-s by omega]
   simp[Nat.mod_mul_mod]
  ·rw[qck L (q+1) (by omega),show(0:Int)=((0:Nat):Int)from rfl,Vc 0 0 s hs (by decide) (by decide)]
   obtain⟨k,hk⟩:∃k,(-(30*q+(s:Int))).toNat=30+k:=⟨(-(30*q+(s:Int))).toNat-30,by omega⟩
   have e:nv L*(2^30*2^k)%1073741824=0:=by
    rw[Nat.mul_left_comm]
    exact Nat.mul_mod_right _ _
   rw[hk,qol,e]
   simp
theorem Vd (p q s:Int)(h0:0≤s)(hs:s<30)(hp:p=30*q+s)(hc:0≤q∨s=0):p.tdiv 30=q∧p.tmod 30=s:=by
 by_cases h:0≤p
 ·rw[Int.tdiv_eq_ediv_of_nonneg (by omega),Int.tmod_eq_emod_of_nonneg (by omega)]
  omega
 ·have e:p.tdiv 30=-((-p).tdiv 30):=by rw[Int.neg_tdiv];omega
  have f:p.tmod 30=-((-p).tmod 30):=by rw[Int.neg_tmod];omega
  rw[e,f,Int.tdiv_eq_ediv_of_nonneg (by omega),Int.tmod_eq_emod_of_nonneg (by omega)]
  omega
theorem qa0 (p q s:Int)(h0:0<s)(hs:s<30)(hp:p=30*q+s)(hc:q<0):p.tdiv 30=q+1∧p.tmod 30=s-30:=by
 have e:p.tdiv 30=-((-p).tdiv 30):=by rw[Int.neg_tdiv];omega
 have f:p.tmod 30=-((-p).tmod 30):=by rw[Int.neg_tmod];omega
 rw[e,f,Int.tdiv_eq_ediv_of_nonneg (by omega),Int.tmod_eq_emod_of_nonneg (by omega)]
 omega
theorem Ys (L:List Int)(v:Value)(q:Int)(s:Nat)(hs:s<30)(hq:q<100000000)(hq0:-100000000<q)(p:Int)(hp:p=30*(q:Int)+s)(hc:0≤q∨(s:Int)=0)(w:World)(h:Sl w v L):Calls Tryz.prog 149 #[v,.int .i64 p] w fun e w'=>e=.returned (.int .i64 (pcq L q s))∧Kept w w':=by
 have H:Hid (Sl w v L):=h
 clear h
 obtain⟨e1,e2⟩:=Vd p q s (by omega) (by omega) hp hc
 clear hp hc
 have hK:=qo0 w
 have e3:IntKind.i64.wrap (q+1)=q+1:=by rw[qg];omega
 have e4:IntKind.i64.wrap (30-(s:Int))=((30-s:Nat):Int):=by rw[qg];omega
 go_enter Tryz.func149,Tryz.ntmps149
 go_wp2_with fail
 go_region_held (fun u=>Kept w u) (first|exact hK.drew|assumption) (first|(go_at_call 171;refine(Xd L v _ _ (H.out.kept (by assumption))).mono ?_;rintro e w1 ⟨rfl,rfl⟩))
 go_wp2
 go_ret
 exact⟨rfl,hK.drew⟩
theorem Yt (L:List Int)(v:Value)(q:Int)(s:Nat)(hs:s<30)(hq:q<0)(hq0:-100000000<q)(p:Int)(hp:p=30*(q:Int)+s)(hc:0<s)(w:World)(h:Sl w v L):Calls Tryz.prog 149 #[v,.int .i64 p] w fun e w'=>e=.returned (.int .i64 (pcq L q s))∧Kept w w':=by
 have H:Hid (Sl w v L):=h
 clear h
 obtain⟨e1,e2⟩:=qa0 p q s (by omega) (by omega) hp hq
 clear hp
 have hK:=qo0 w
 have e3:IntKind.i64.wrap (q+1)=q+1:=by rw[qg];omega
 have e5:IntKind.i64.wrap (q+1-1)=q:=by rw[qg];omega
 have e6:IntKind.i64.wrap ((s:Int)-30+30)=(s:Int):=by rw[qg];omega
 have e4:IntKind.i64.wrap (30-(s:Int))=((30-s:Nat):Int):=by rw[qg];omega
 go_enter Tryz.func149,Tryz.ntmps149
 go_wp2_with fail
 go_region_held (fun u=>Kept w u) (first|exact hK.drew|assumption) (first|(go_at_call 171;refine(Xd L v _ _ (H.out.kept (by assumption))).mono ?_;rintro e w1 ⟨rfl,rfl⟩))
 go_wp2
 go_ret
 exact⟨rfl,hK.drew⟩
theorem QA (L:List Int)(hL:Dg L)(v:Value)(p:Int)(h1:-1000000000<p)(h2:p<1000000000)(w:World)(h:Sl w v L):Calls Tryz.prog 149 #[v,.int .i64 p] w fun e w'=>e=.returned (.int .i64 (pcz (nv L) p))∧Kept w w':=by
 obtain⟨s,hs⟩:∃s:Nat,p%30=s:=⟨(p%30).toNat,by omega⟩
 have e:30*(p/30)+(s:Int)=p:=by omega
 have:=qgi L hL (p/30) s (by omega)
 rw[e]at this
 rw[←this]
 by_cases hc:0≤p/30∨(s:Int)=0
 ·exact Ys L v (p/30) s (by omega) (by omega) (by omega) p e.symm hc w h
 ·exact Yt L v (p/30) s (by omega) (by omega) (by omega) p e.symm (by omega) w h
theorem QE {x v:World}{c:Array Value}{t:TypeId}(h:Kept (x.alloc (.cells c t)) v):Kept (x.alloc (.cells c t)) v.drew∧∀o,v.drew.cell? ⟨x.heap.size,o,none⟩=(x.alloc (.cells c t)).cell? ⟨x.heap.size,o,none⟩:=⟨h.drew,qh h.drew⟩
theorem qgs {x v v':World}{c:Array Value}{t:TypeId}(h:Kept (x.alloc (.cells c t)) v∧∀o,v.cell? ⟨x.heap.size,o,none⟩=(x.alloc (.cells c t)).cell? ⟨x.heap.size,o,none⟩)(k:Kept v v'):Kept (x.alloc (.cells c t)) v'∧∀o,v'.cell? ⟨x.heap.size,o,none⟩=(x.alloc (.cells c t)).cell? ⟨x.heap.size,o,none⟩:=⟨h.1.trans k,qh (h.1.trans k)⟩
theorem Xi (p:Bool)(v r q:Int)(hr:bits .or .i64 v (-9223372036854775808)=r)(hq:(if p=true then r else v)=q)(w:World):Calls Tryz.prog 167 #[.agg #[.int .i64 (-9223372036854775808),.int .i64 9218868437227405312,.int .i64 9221120237041090561,.int .i64 52,.int .i64 (-1074)],.bool p,.int .i64 v] w fun e w'=>e=.returned (.int .i64 q)∧Kept w w':=by
 subst hq
 go_enter Tryz.func167,Tryz.ntmps167
 cases p
 ·go_wp2
  go_ret
  exact⟨rfl,(qo0 _).alloc _ _⟩
 ·go_wp2
  go_ret
  exact⟨rfl,(qo0 _).alloc _ _⟩
theorem Vl (p:Bool)(x e:Int)(k:Nat)(hx0:0<x)(hx1:x≤9223372036854775807)(he1:-2000≤e)(he2:e≤2000)(hk:k<64)(o:Int)(L:Nat)(ho0:0<o)(ho1:o≤9223372036854775807)(hL:L≤64)(hsh:x/2^k=o)
  (Kz:Hid (∀w:World,Tab w→Calls Tryz.prog 168 #[.int .u64 x] w fun e w'=>e=.returned (.int .i64 (k:Int))∧w=w'))
  (Kl:Hid (∀w:World,Calls Tryz.prog 145 #[.int .u64 (IntKind.u64.wrap o)] w fun e w'=>e=.returned (.int .i64 (L:Int))∧w=w')) (U:Int) (hu:min (53-(L:Int)) (e+(k:Int)+1074)=U) (hU:0≤U) (hU2:U≤64) (hs:2047≤e+(k:Int)-U+1074+1) (w:World) (hT:Tab w):Calls Tryz.prog 147 #[.bool p,.int .i64 x,.int .i64 e,.int .i64 64] w fun e w'=>e=.returned (.tuple #[.int .i64 0,.bool false])∧Kept w w':=by
 have HT:Hid (Tab w):=hT
 clear hT
 go_enter Tryz.func147,Tryz.ntmps147
 go_wp2_with fail
 refine(zd _).mono ?_
 rintro e w1 ⟨rfl,hk1⟩
 go_wp2_with fail
 refine(Kz.out _ (HT.out.kept (hk1.alloc _ _))).mono ?_
 rintro e w2 ⟨rfl,rfl⟩
 go_wp2
 have hK:=qo0 (w1.alloc (.cells #[.int .i64 (-9223372036854775808),.int .i64 9218868437227405312,.int .i64 9221120237041090561,.int .i64 52,.int .i64 (-1074)] 166))
 go_region_held (fun v=>Kept (w1.alloc (.cells #[.int .i64 (-9223372036854775808),.int .i64 9218868437227405312,.int .i64 9221120237041090561,.int .i64 52,.int .i64 (-1074)] 166)) v∧∀o,v.cell? ⟨w1.heap.size,o,none⟩=(w1.alloc (.cells #[.int .i64 (-9223372036854775808),.int .i64 9218868437227405312,.int .i64 9221120237041090561,.int .i64 52,.int .i64 (-1074)] 166)).cell? ⟨w1.heap.size,o,none⟩) (first|exact QE hK|assumption) (first|(go_at_call 145;refine(Kl.out _).mono ?_;rintro e w3 ⟨rfl,rfl⟩))
 go_wp2
 go_ret2
 exact⟨rfl,(hk1.alloc _ _).drew⟩
theorem YD (p:Bool)(x e:Int)(k:Nat)(hx0:0<x)(hx1:x≤9223372036854775807)(he1:-2000≤e)(he2:e≤2000)(hk:k<64)(o:Int)(L:Nat)(ho0:0<o)(ho1:o≤9223372036854775807)(hL:L≤64)(hsh:x/2^k=o)
  (Kz:Hid (∀w:World,Tab w→Calls Tryz.prog 168 #[.int .u64 x] w fun e w'=>e=.returned (.int .i64 (k:Int))∧w=w'))
  (Kl:Hid (∀w:World,Calls Tryz.prog 145 #[.int .u64 (IntKind.u64.wrap o)] w fun e w'=>e=.returned (.int .i64 (L:Int))∧w=w')) (U:Nat) (hu:min (53-(L:Int)) (e+(k:Int)+1074)=(U:Int)) (hU2:U<64) (hs:e+(k:Int)-(U:Int)+1074+1<2047) (hs0:0≤e+(k:Int)-(U:Int)+1074) (v r:Int) (hv:0≤o*2^U) (hv2:o*2^U<2*4503599627370496) (hve:(e+(k:Int)-(U:Int)+1074)*4503599627370496+o*2^U=v) (hr:bits .or .i64 v (-9223372036854775808)=r) (q:Int) (hq0:(if p=true then r else v)=q) (w:World) (hT:Tab w):Calls Tryz.prog 147 #[.bool p,.int .i64 x,.int .i64 e,.int .i64 64] w fun e w'=>e=.returned (.tuple #[.int .i64 q,.bool true])∧Kept w w':=by
 have HQ:Hid ((if p=true then r else v)=q):=hq0
 clear hq0
 obtain⟨Q,hQ⟩:∃Q,Q=o*2^U:=⟨_,rfl⟩
 have HM:Hid (min (IntKind.i64.wrap (IntKind.i64.wrap 53-(L:Int))) (IntKind.i64.wrap (e+(k:Int)+1074))=(U:Int)):=by
  show min (IntKind.i64.wrap (IntKind.i64.wrap 53-(L:Int))) (IntKind.i64.wrap (e+(k:Int)+1074))=(U:Int)
  rw[qg,qg,qg]
  omega
 have HW:Hid (IntKind.i64.wrap (IntKind.i64.wrap ((e+(k:Int)-(U:Int)+1074)*4503599627370496)+IntKind.i64.wrap (o*2^U))=v):=by
  show IntKind.i64.wrap (IntKind.i64.wrap ((e+(k:Int)-(U:Int)+1074)*4503599627370496)+IntKind.i64.wrap (o*2^U))=v
  rw[←hQ]at hv hv2 hve ⊢
  rw[qg,qg,qg]
  omega
 clear hve hv hv2 hQ
 have HT:Hid (Tab w):=hT
 clear hT
 go_enter Tryz.func147,Tryz.ntmps147
 go_wp2_with fail
 refine(zd _).mono ?_
 rintro e w1 ⟨rfl,hk1⟩
 go_wp2_with fail
 refine(Kz.out _ (HT.out.kept (hk1.alloc _ _))).mono ?_
 rintro e w2 ⟨rfl,rfl⟩
 go_wp2
 have hK:=qo0 (w1.alloc (.cells #[.int .i64 (-9223372036854775808),.int .i64 9218868437227405312,.int .i64 9221120237041090561,.int .i64 52,.int .i64 (-1074)] 166))
 go_region_held (fun v=>Kept (w1.alloc (.cells #[.int .i64 (-9223372036854775808),.int .i64 9218868437227405312,.int .i64 9221120237041090561,.int .i64 52,.int .i64 (-1074)] 166)) v∧∀o,v.cell? ⟨w1.heap.size,o,none⟩=(w1.alloc (.cells #[.int .i64 (-9223372036854775808),.int .i64 9218868437227405312,.int .i64 9221120237041090561,.int .i64 52,.int .i64 (-1074)] 166)).cell? ⟨w1.heap.size,o,none⟩) (first|exact QE hK|assumption) (first|(go_at_call 145;refine(Kl.out _).mono ?_;rintro e w3 ⟨rfl,rfl⟩))
 go_wp2
 have hK2:=hK.drew
 rw[HM.out]
 go_region_held (fun v=>Kept (w1.alloc (.cells #[.int .i64 (-9223372036854775808),.int .i64 9218868437227405312,.int .i64 9221120237041090561,.int .i64 52,.int .i64 (-1074)] 166)) v∧∀o,v.cell? ⟨w1.heap.size,o,none⟩=(w1.alloc (.cells #[.int .i64 (-9223372036854775808),.int .i64 9218868437227405312,.int .i64 9221120237041090561,.int .i64 52,.int .i64 (-1074)] 166)).cell? ⟨w1.heap.size,o,none⟩) (first|exact QE hK2|(refine qgs ?_ hk5;assumption)) (first|(go_at_call 167;rw[HW.out];refine(Xi p v r q hr HQ.out _).mono ?_;rintro e w5 ⟨rfl,hk5⟩))
 go_wp2
 go_ret2
 exact⟨rfl,(hk1.trans (((qo0 _).alloc _ _).trans (And.left ‹_›)))⟩
theorem Xj (p:Bool)(v r q:Int)(hr:bits .or .i64 v 2147483648=r)(hq:(if p=true then r else v)=q)(w:World):Calls Tryz.prog 167 #[.agg #[.int .i64 2147483648,.int .i64 2139095040,.int .i64 2143289345,.int .i64 23,.int .i64 (-149)],.bool p,.int .i64 v] w fun e w'=>e=.returned (.int .i64 q)∧Kept w w':=by
 subst hq
 go_enter Tryz.func167,Tryz.ntmps167
 cases p
 ·go_wp2
  go_ret
  exact⟨rfl,(qo0 _).alloc _ _⟩
 ·go_wp2
  go_ret
  exact⟨rfl,(qo0 _).alloc _ _⟩
theorem Vm (p:Bool)(x e:Int)(k:Nat)(hx0:0<x)(hx1:x≤9223372036854775807)(he1:-2000≤e)(he2:e≤2000)(hk:k<64)(o:Int)(L:Nat)(ho0:0<o)(ho1:o≤9223372036854775807)(hL:L≤64)(hsh:x/2^k=o)
  (Kz:Hid (∀w:World,Tab w→Calls Tryz.prog 168 #[.int .u64 x] w fun e w'=>e=.returned (.int .i64 (k:Int))∧w=w'))
  (Kl:Hid (∀w:World,Calls Tryz.prog 145 #[.int .u64 (IntKind.u64.wrap o)] w fun e w'=>e=.returned (.int .i64 (L:Int))∧w=w')) (U:Int) (hu:min (24-(L:Int)) (e+(k:Int)+149)=U) (hU:0≤U) (hU2:U≤64) (hs:255≤e+(k:Int)-U+149+1) (w:World) (hT:Tab w):Calls Tryz.prog 147 #[.bool p,.int .i64 x,.int .i64 e,.int .i64 32] w fun e w'=>e=.returned (.tuple #[.int .i64 0,.bool false])∧Kept w w':=by
 have HT:Hid (Tab w):=hT
 clear hT
 go_enter Tryz.func147,Tryz.ntmps147
 go_wp2_with fail
 refine(zj _).mono ?_
 rintro e w1 ⟨rfl,hk1⟩
 go_wp2_with fail
 refine(Kz.out _ (HT.out.kept (hk1.alloc _ _))).mono ?_
 rintro e w2 ⟨rfl,rfl⟩
 go_wp2
 have hK:=qo0 (w1.alloc (.cells #[.int .i64 2147483648,.int .i64 2139095040,.int .i64 2143289345,.int .i64 23,.int .i64 (-149)] 166))
 go_region_held (fun v=>Kept (w1.alloc (.cells #[.int .i64 2147483648,.int .i64 2139095040,.int .i64 2143289345,.int .i64 23,.int .i64 (-149)] 166)) v∧∀o,v.cell? ⟨w1.heap.size,o,none⟩=(w1.alloc (.cells #[.int .i64 2147483648,.int .i64 2139095040,.int .i64 2143289345,.int .i64 23,.int .i64 (-149)] 166)).cell? ⟨w1.heap.size,o,none⟩) (first|exact QE hK|assumption) (first|(go_at_call 145;refine(Kl.out _).mono ?_;rintro e w3 ⟨rfl,rfl⟩))
 go_wp2
 go_ret2
 exact⟨rfl,(hk1.alloc _ _).drew⟩
theorem YE (p:Bool)(x e:Int)(k:Nat)(hx0:0<x)(hx1:x≤9223372036854775807)(he1:-2000≤e)(he2:e≤2000)(hk:k<64)(o:Int)(L:Nat)(ho0:0<o)(ho1:o≤9223372036854775807)(hL:L≤64)(hsh:x/2^k=o)
  (Kz:Hid (∀w:World,Tab w→Calls Tryz.prog 168 #[.int .u64 x] w fun e w'=>e=.returned (.int .i64 (k:Int))∧w=w'))
  (Kl:Hid (∀w:World,Calls Tryz.prog 145 #[.int .u64 (IntKind.u64.wrap o)] w fun e w'=>e=.returned (.int .i64 (L:Int))∧w=w')) (U:Nat) (hu:min (24-(L:Int)) (e+(k:Int)+149)=(U:Int)) (hU2:U<64) (hs:e+(k:Int)-(U:Int)+149+1<255) (hs0:0≤e+(k:Int)-(U:Int)+149) (v r:Int) (hv:0≤o*2^U) (hv2:o*2^U<2*8388608) (hve:(e+(k:Int)-(U:Int)+149)*8388608+o*2^U=v) (hr:bits .or .i64 v 2147483648=r) (q:Int) (hq0:(if p=true then r else v)=q) (w:World) (hT:Tab w):Calls Tryz.prog 147 #[.bool p,.int .i64 x,.int .i64 e,.int .i64 32] w fun e w'=>e=.returned (.tuple #[.int .i64 q,.bool true])∧Kept w w':=by
 have HQ:Hid ((if p=true then r else v)=q):=hq0
 clear hq0
 obtain⟨Q,hQ⟩:∃Q,Q=o*2^U:=⟨_,rfl⟩
 have HM:Hid (min (IntKind.i64.wrap (IntKind.i64.wrap 24-(L:Int))) (IntKind.i64.wrap (e+(k:Int)+149))=(U:Int)):=by
  show min (IntKind.i64.wrap (IntKind.i64.wrap 24-(L:Int))) (IntKind.i64.wrap (e+(k:Int)+149))=(U:Int)
  rw[qg,qg,qg]
  omega
 have HW:Hid (IntKind.i64.wrap (IntKind.i64.wrap ((e+(k:Int)-(U:Int)+149)*8388608)+IntKind.i64.wrap (o*2^U))=v):=by
  show IntKind.i64.wrap (IntKind.i64.wrap ((e+(k:Int)-(U:Int)+149)*8388608)+IntKind.i64.wrap (o*2^U))=v
  rw[←hQ]at hv hv2 hve ⊢
  rw[qg,qg,qg]
  omega
 clear hve hv hv2 hQ
 have HT:Hid (Tab w):=hT
 clear hT
 go_enter Tryz.func147,Tryz.ntmps147
 go_wp2_with fail
 refine(zj _).mono ?_
 rintro e w1 ⟨rfl,hk1⟩
 go_wp2_with fail
 refine(Kz.out _ (HT.out.kept (hk1.alloc _ _))).mono ?_
 rintro e w2 ⟨rfl,rfl⟩
 go_wp2
 have hK:=qo0 (w1.alloc (.cells #[.int .i64 2147483648,.int .i64 2139095040,.int .i64 2143289345,.int .i64 23,.int .i64 (-149)] 166))
 go_region_held (fun v=>Kept (w1.alloc (.cells #[.int .i64 2147483648,.int .i64 2139095040,.int .i64 2143289345,.int .i64 23,.int .i64 (-149)] 166)) v∧∀o,v.cell? ⟨w1.heap.size,o,none⟩=(w1.alloc (.cells #[.int .i64 2147483648,.int .i64 2139095040,.int .i64 2143289345,.int .i64 23,.int .i64 (-149)] 166)).cell? ⟨w1.heap.size,o,none⟩) (first|exact QE hK|assumption) (first|(go_at_call 145;refine(Kl.out _).mono ?_;rintro e w3 ⟨rfl,rfl⟩))
 go_wp2
 have hK2:=hK.drew
 rw[HM.out]
 go_region_held (fun v=>Kept (w1.alloc (.cells #[.int .i64 2147483648,.int .i64 2139095040,.int .i64 2143289345,.int .i64 23,.int .i64 (-149)] 166)) v∧∀o,v.cell? ⟨w1.heap.size,o,none⟩=(w1.alloc (.cells #[.int .i64 2147483648,.int .i64 2139095040,.int .i64 2143289345,.int .i64 23,.int .i64 (-149)] 166)).cell? ⟨w1.heap.size,o,none⟩) (first|exact QE hK2|(refine qgs ?_ hk5;assumption)) (first|(go_at_call 167;rw[HW.out];refine(Xj p v r q hr HQ.out _).mono ?_;rintro e w5 ⟨rfl,hk5⟩))
 go_wp2
 go_ret2
 exact⟨rfl,(hk1.trans (((qo0 _).alloc _ _).trans (And.left ‹_›)))⟩
theorem qg2 (b n:Int)(hn:n=64∨n=32)(hc:3≤cls b n)(w:World):Calls Tryz.prog 105 #[.int .i64 b,.int .i64 n] w fun e w'=>e=.returned (.tuple #[.bool false,.int .i64 0,.int .i64 0,.bool false])∧Kept w w':=by
 rcases hn with rfl|rfl
 ·go_enter Tryz.func105,Tryz.ntmps105
  go_wp2_with (first|(go_at_call 129;refine(zd _).mono ?_;rintro e w1 ⟨rfl,hk1⟩)|(go_at_call 133;refine(zV _ _ _).mono ?_;rintro e w2 ⟨rfl,hk2⟩))
  exact qoz (v:=.tuple #[.bool false,.int .i64 0,.int .i64 0,.bool false]) (by simp[results,Tryz.results105,go_sem]) rfl ⟨rfl,(hk1.alloc _ _).trans hk2⟩
 ·go_enter Tryz.func105,Tryz.ntmps105
  go_wp2_with (first|(go_at_call 129;refine(zj _).mono ?_;rintro e w1 ⟨rfl,hk1⟩)|(go_at_call 133;refine(zV _ _ _).mono ?_;rintro e w2 ⟨rfl,hk2⟩))
  exact qoz (v:=.tuple #[.bool false,.int .i64 0,.int .i64 0,.bool false]) (by simp[results,Tryz.results105,go_sem]) rfl ⟨rfl,(hk1.alloc _ _).trans hk2⟩
theorem qbe (b n:Int)(h1:(n==32)=false)(h2:(n==64)=false)(w:World):Calls Tryz.prog 105 #[.int .i64 b,.int .i64 n] w fun e w'=>e=.returned (.tuple #[.bool false,.int .i64 0,.int .i64 0,.bool false])∧Kept w w':=by
 go_enter Tryz.func105,Tryz.ntmps105
 go_wp2_with (first|(go_at_call 129;refine(vG _ h1 h2 _).mono ?_;rintro e w1 ⟨rfl,hk1⟩)|(go_at_call 133;refine(zV _ _ _).mono ?_;rintro e w2 ⟨rfl,hk2⟩))
 exact qoz (v:=.tuple #[.bool false,.int .i64 0,.int .i64 0,.bool false]) (by simp[results,Tryz.results105,go_sem]) rfl ⟨rfl,(hk1.alloc _ _)⟩
theorem Vp (b s g:Int)(hs:bits .andNot .i64 b (-9223372036854775808)=s)(hg:bits .and .i64 b (-9223372036854775808)=g)(hc:cls b 64<3)(hl:s<4503599627370496)(w:World):Calls Tryz.prog 105 #[.int .i64 b,.int .i64 64] w fun e w'=>e=.returned (.tuple #[.bool (g != 0),.int .i64 s,.int .i64 (-1074),.bool true])∧Kept w w':=by
 go_enter Tryz.func105,Tryz.ntmps105
 go_wp2_with (first|(go_at_call 129;refine(zd _).mono ?_;rintro e w1 ⟨rfl,hk1⟩)|(go_at_call 133;refine(zV _ _ _).mono ?_;rintro e w2 ⟨rfl,hk2⟩))
 have hcl:=qh hk2
 go_quiet (fail)
 go_wp2
 go_quiet (fail)
 go_wp2
 exact qoz (v:=.tuple #[.bool (g != 0),.int .i64 s,.int .i64 (-1074),.bool true]) (by simp[results,Tryz.results105,go_sem]) rfl ⟨rfl,(((hk1.alloc _ _).trans hk2).drewN _).drewN _⟩
theorem Vq (b s g m k:Int)(hs:bits .andNot .i64 b (-9223372036854775808)=s)(hg:bits .and .i64 b (-9223372036854775808)=g)(hm:bits .and .i64 s 4503599627370495=m)(hk:bits .or .i64 m 4503599627370496=k)(hc:cls b 64<3)(hl:¬s<4503599627370496)(hu:s≤9223372036854775807)(w:World):Calls Tryz.prog 105 #[.int .i64 b,.int .i64 64] w fun e w'=>e=.returned (.tuple #[.bool (g != 0),.int .i64 k,.int .i64 (-1074+s/4503599627370496-1),.bool true])∧Kept w w':=by
 go_enter Tryz.func105,Tryz.ntmps105
 go_wp2_with (first|(go_at_call 129;refine(zd _).mono ?_;rintro e w1 ⟨rfl,hk1⟩)|(go_at_call 133;refine(zV _ _ _).mono ?_;rintro e w2 ⟨rfl,hk2⟩))
 have hcl:=qh hk2
 go_quiet (fail)
 go_wp2
 go_quiet (fail)
 go_wp2
 exact qoz (v:=.tuple #[.bool (g != 0),.int .i64 k,.int .i64 (-1074+s/4503599627370496-1),.bool true]) (by simp[results,Tryz.results105,go_sem]) rfl ⟨rfl,(((hk1.alloc _ _).trans hk2).drewN _).drewN _⟩
theorem Vr (b s g:Int)(hs:bits .andNot .i64 b 2147483648=s)(hg:bits .and .i64 b 2147483648=g)(hc:cls b 32<3)(hl:s<8388608)(w:World):Calls Tryz.prog 105 #[.int .i64 b,.int .i64 32] w fun e w'=>e=.returned (.tuple #[.bool (g != 0),.int .i64 s,.int .i64 (-149),.bool true])∧Kept w w':=by
 go_enter Tryz.func105,Tryz.ntmps105
 go_wp2_with (first|(go_at_call 129;refine(zj _).mono ?_;rintro e w1 ⟨rfl,hk1⟩)|(go_at_call 133;refine(zV _ _ _).mono ?_;rintro e w2 ⟨rfl,hk2⟩))
 have hcl:=qh hk2
 go_quiet (fail)
 go_wp2
 go_quiet (fail)
 go_wp2
 exact qoz (v:=.tuple #[.bool (g != 0),.int .i64 s,.int .i64 (-149),.bool true]) (by simp[results,Tryz.results105,go_sem]) rfl ⟨rfl,(((hk1.alloc _ _).trans hk2).drewN _).drewN _⟩
theorem Vs (b s g m k:Int)(hs:bits .andNot .i64 b 2147483648=s)(hg:bits .and .i64 b 2147483648=g)(hm:bits .and .i64 s 8388607=m)(hk:bits .or .i64 m 8388608=k)(hc:cls b 32<3)(hl:¬s<8388608)(hu:s≤9223372036854775807)(w:World):Calls Tryz.prog 105 #[.int .i64 b,.int .i64 32] w fun e w'=>e=.returned (.tuple #[.bool (g != 0),.int .i64 k,.int .i64 (-149+s/8388608-1),.bool true])∧Kept w w':=by
 go_enter Tryz.func105,Tryz.ntmps105
 go_wp2_with (first|(go_at_call 129;refine(zj _).mono ?_;rintro e w1 ⟨rfl,hk1⟩)|(go_at_call 133;refine(zV _ _ _).mono ?_;rintro e w2 ⟨rfl,hk2⟩))
 have hcl:=qh hk2
 go_quiet (fail)
 go_wp2
 go_quiet (fail)
 go_wp2
 exact qoz (v:=.tuple #[.bool (g != 0),.int .i64 k,.int .i64 (-149+s/8388608-1),.bool true]) (by simp[results,Tryz.results105,go_sem]) rfl ⟨rfl,(((hk1.alloc _ _).trans hk2).drewN _).drewN _⟩
theorem qX {p q p' q':Bool}{a c a' c':Int}(h1:p=p')(h2:a=a')(h3:c=c')(h4:q=q'):Ending.returned (.tuple #[.bool p,.int .i64 a,.int .i64 c,.bool q])=.returned (.tuple #[.bool p',.int .i64 a',.int .i64 c',.bool q']):=by rw[h1,h2,h3,h4]
theorem qg3 (b:Int)(h1:-9223372036854775808≤b)(h2:b≤9223372036854775807):(bits .and .i64 b (-9223372036854775808) != 0)=sgn b 64:=by
 rw[Vn b h1 h2]
 unfold sgn
 rw[if_pos rfl]
 by_cases h:b<0<;>simp[h]
theorem qg4 (b:Int)(h1:0≤b)(h2:b<4294967296):(bits .and .i64 b 2147483648 != 0)=sgn b 32:=by
 have e:sgn b 32=decide (2147483648≤b):=by simp[sgn]
 rw[qgv b h1 h2,e]
 by_cases h:b<2147483648
 ·rw[if_pos h,qot (by omega)];rfl
 ·rw[if_neg h,qos (by omega)];rfl
theorem Xn (b n:Int)(hb1:-9223372036854775808≤b)(hb2:b≤9223372036854775807)(w:World):Calls Tryz.prog 105 #[.int .i64 b,.int .i64 n] w fun e w'=>e=.returned (.tuple #[.bool (zv b n),.int .i64 (qI b n),.int .i64 (qK b n),.bool (fin b n)])∧Kept w w':=by
 by_cases hn:n=64∨n=32
 ·by_cases hc:cls b n<3
  ·have hf:fin b n=true:=by simp[fin,hn,hc]
   rcases hn with rfl|rfl
   ·by_cases hl:b%9223372036854775808<4503599627370496
    ·refine(Vp b _ _ (kC b) rfl hc hl w).mono ?_
     rintro e w' ⟨rfl,hk⟩
     exact⟨qX (by rw[qg3 b hb1 hb2];simp[zv,hf]) (by simp[qI,hf,hl]) (by simp[qK,hf,hl]) hf.symm,hk⟩
    ·refine(Vq b _ _ _ _ (kC b) rfl (qju _) (qnn _ (by omega) (by omega)) hc hl (by omega) w).mono ?_
     rintro e w' ⟨rfl,hk⟩
     exact⟨qX (by rw[qg3 b hb1 hb2];simp[zv,hf]) (by simp only[qI,hf,if_true,hl,if_false]) (by simp only[qK,hf,if_true,hl,if_false];omega) hf.symm,hk⟩
   ·have hv:=qV b (by omega)
    by_cases hl:b%2147483648<8388608
    ·refine(Vr b _ _ (QF b hv.1 hv.2) rfl hc hl w).mono ?_
     rintro e w' ⟨rfl,hk⟩
     exact⟨qX (by rw[qg4 b hv.1 hv.2];simp[zv,hf]) (by simp[qI,hf,hl]) (by simp[qK,hf,hl]) hf.symm,hk⟩
    ·refine(Vs b _ _ _ _ (QF b hv.1 hv.2) rfl (qjv _) (qno _ (by omega) (by omega)) hc hl (by omega) w).mono ?_
     rintro e w' ⟨rfl,hk⟩
     exact⟨qX (by rw[qg4 b hv.1 hv.2];simp[zv,hf]) (by simp[qI,hf,hl]) (by simp[qK,hf,hl];omega) hf.symm,hk⟩
  ·have hf:fin b n=false:=by simp[fin];omega
   refine(qg2 b n hn (by omega) w).mono ?_
   rintro e w' ⟨rfl,hk⟩
   exact⟨qX (by simp[zv,hf]) (by simp[qI,hf]) (by simp[qK,hf]) hf.symm,hk⟩
 ·have hf:fin b n=false:=by simp[fin];omega
  refine(qbe b n (by rw[beq_eq_false_iff_ne];omega) (by rw[beq_eq_false_iff_ne];omega) w).mono ?_
  rintro e w' ⟨rfl,hk⟩
  exact⟨qX (by simp[zv,hf]) (by simp[qI,hf]) (by simp[qK,hf]) hf.symm,hk⟩
theorem qmm (v:Int)(h0:0≤v)(h1:v<9223372036854775808):bits .or .i64 v (-9223372036854775808)=v-9223372036854775808:=by
 have e:(BitVec.ofInt 64 (-9223372036854775808):BitVec 64).toNat=2^63*1:=by decide
 have h:=qD v
 rw[Qe,BitVec.toNat_or,e,Nat.or_comm,←Nat.two_pow_add_eq_or_of_lt (by omega),qg]
 omega
theorem qnm (v:Int)(h0:0≤v)(h1:v<2147483648):bits .or .i64 v 2147483648=v+2147483648:=by
 have e:(BitVec.ofInt 64 2147483648:BitVec 64).toNat=2^31*1:=by decide
 have h:=qD v
 rw[Qe,BitVec.toNat_or,e,Nat.or_comm,←Nat.two_pow_add_eq_or_of_lt (by omega),qg]
 omega
theorem Vh (p:Bool)(e:Int)(w:World):Calls Tryz.prog 147 #[.bool p,.int .i64 0,.int .i64 e,.int .i64 64] w fun e w'=>e=.returned (.tuple #[.int .i64 (if p=true then -9223372036854775808 else 0),.bool true])∧Kept w w':=by
 obtain⟨q,hq⟩:∃q:Int,(if p=true then -9223372036854775808 else 0)=q:=⟨_,rfl⟩
 have hr:bits .or .i64 0 (-9223372036854775808)=-9223372036854775808:=by decide
 rw[hq]
 have HR:Hid (bits .or .i64 0 (-9223372036854775808)=-9223372036854775808):=hr
 have HQ:Hid ((if p=true then (-9223372036854775808:Int)else 0)=q):=hq
 clear hr hq
 go_enter Tryz.func147,Tryz.ntmps147
 go_wp2_with (first|(go_at_call 129;refine(zd _).mono ?_;rintro e w1 ⟨rfl,hk1⟩)|(go_at_call 167;refine(Xi p 0 _ q HR.out HQ.out _).mono ?_;rintro e w2 ⟨rfl,hk2⟩))
 go_ret2
 exact⟨rfl,(hk1.alloc _ _).trans hk2⟩
theorem Vi (p:Bool)(e:Int)(w:World):Calls Tryz.prog 147 #[.bool p,.int .i64 0,.int .i64 e,.int .i64 32] w fun e w'=>e=.returned (.tuple #[.int .i64 (if p=true then 2147483648 else 0),.bool true])∧Kept w w':=by
 obtain⟨q,hq⟩:∃q:Int,(if p=true then 2147483648 else 0)=q:=⟨_,rfl⟩
 have hr:bits .or .i64 0 2147483648=2147483648:=by decide
 rw[hq]
 have HR:Hid (bits .or .i64 0 2147483648=2147483648):=hr
 have HQ:Hid ((if p=true then (2147483648:Int)else 0)=q):=hq
 clear hr hq
 go_enter Tryz.func147,Tryz.ntmps147
 go_wp2_with (first|(go_at_call 129;refine(zj _).mono ?_;rintro e w1 ⟨rfl,hk1⟩)|(go_at_call 167;refine(Xj p 0 _ q HR.out HQ.out _).mono ?_;rintro e w2 ⟨rfl,hk2⟩))
 go_ret2
 exact⟨rfl,(hk1.alloc _ _).trans hk2⟩
theorem Vj (f x:Nat):Lib.bitLenAux f x≤f:=by
 induction f generalizing x with
 |zero=>simp[Lib.bitLenAux]
 |succ f ih=>
  unfold Lib.bitLenAux
  split
  ·omega
  ·have:=ih (x/2);omega
theorem QC (f x:Nat)(hf:f≤64)(h:x<2^f):Lib.bitLen x≤f:=by
 unfold Lib.bitLen
 rw[Lib.bitLenAux_fuel f x h 64 hf]
 exact Vj f x
theorem vK (f x:Nat)(hf:f<64)(h1:2^f≤x)(h2:x<2^(f+1)):Lib.bitLen x=f+1:=by
 have hx:x<2^64:=qok h2 (qom (by decide) (by omega))
 rw[Lib.bitLen_shift f x h1 hx]
 have:x/2^f=1:=by
  apply Nat.div_eq_of_lt_le
  ·omega
  ·rw[qov]at h2;omega
 rw[this]
 rfl
theorem ZW (m:Nat)(h0:m≠0)(h:m<2^64):Lib.ctz 64 m<64∧m=m/2^Lib.ctz 64 m*2^Lib.ctz 64 m∧m/2^Lib.ctz 64 m%2=1∧Lib.bitLen m=Lib.ctz 64 m+Lib.bitLen (m/2^Lib.ctz 64 m):=by
 have e:Lib.ctz 64 m=Lib.ctzFrom 64 m:=by unfold Lib.ctz;rw[if_neg h0]
 obtain⟨j,hj,hk⟩:=Lib.ctzFrom_spec 64 m (by omega) h
 rw[←e]at hj hk
 generalize Lib.ctz 64 m=k at *
 have hp:0<2^k:=qoj _
 have hd:m/2^k=2*j+1:=by
  rw[hj]
  exact Nat.mul_div_cancel_left _ hp
 refine⟨hk,?_,by rw[hd];omega,?_⟩
 ·rw[hd,qoq];exact hj
 ·refine Lib.bitLen_shift _ m ?_ h
  rw[hj]
  exact Nat.le_mul_of_pos_right _ (by omega)
theorem qgr (o:Int)(h0:0≤o)(h1:o≤9223372036854775807):IntKind.u64.wrap o=o:=by
 rw[IntKind.wrap_u64];omega
theorem ZX (x:Int)(h0:0<x)(h1:x≤9223372036854775807)(w:World)(hT:Tab w):Calls Tryz.prog 168 #[.int .u64 x] w fun e w'=>e=.returned (.int .i64 ((Lib.ctz 64 x.toNat:Nat):Int))∧w=w':=by
 have h:=tz x.toNat (by omega) (by omega) w hT
 rw[Int.toNat_of_nonneg (by omega)]at h
 exact h
theorem Vk (o:Int)(h0:0≤o)(h1:o≤9223372036854775807)(w:World):Calls Tryz.prog 145 #[.int .u64 (IntKind.u64.wrap o)] w fun e w'=>e=.returned (.int .i64 ((Lib.bitLen o.toNat:Nat):Int))∧w=w':=by
 rw[qgr o h0 h1]
 exact len o w h0 (by omega)
theorem qcs (x:Int)(h0:0<x)(h1:x≤9223372036854775807):∃k:Nat,∃L:Nat,∃o:Int,k=Lib.ctz 64 x.toNat∧L=Lib.bitLen o.toNat∧x/2^k=o∧x=o*2^k∧k<64∧0<o∧o≤9223372036854775807∧Lib.bitLen x.toNat=k+L∧L≤64:=by
 obtain⟨a1,a2,a3,a4⟩:=ZW x.toNat (by omega) (by omega)
 obtain⟨k,hk⟩:∃k,k=Lib.ctz 64 x.toNat:=⟨_,rfl⟩
 rw[←hk]at a1 a2 a3 a4
 obtain⟨o,ho⟩:∃o,o=x.toNat/2^k:=⟨_,rfl⟩
 rw[←ho]at a2 a3 a4
 have hx:x=((o*2^k:Nat):Int):=by rw[←a2];omega
 have hp:(0:Nat)<2^k:=qoj k
 have hle:o≤o*2^k:=Nat.le_mul_of_pos_right _ hp
 have ho1:o<2^64:=by omega
 refine⟨k,Lib.bitLen o,(o:Int),hk,by simp,?_,?_,a1,by omega,by omega,a4,QC 64 o (by decide) ho1⟩
 ·rw[hx,Int.natCast_mul,Int.natCast_pow]
  exact Int.mul_ediv_cancel _ (Int.ne_of_gt (by exact_mod_cast hp))
 ·rw[hx,Int.natCast_mul,Int.natCast_pow]
  rfl
theorem YB (p:Bool)(x e:Int)(hx0:0<x)(he:2000<e)(w:World):Calls Tryz.prog 147 #[.bool p,.int .i64 x,.int .i64 e,.int .i64 64] w fun e w'=>e=.returned (.tuple #[.int .i64 0,.bool false])∧Kept w w':=by
 go_enter Tryz.func147,Tryz.ntmps147
 go_wp2_with fail
 refine(zd _).mono ?_
 rintro e w1 ⟨rfl,hk1⟩
 go_wp2
 go_ret2
 exact⟨rfl,(hk1.alloc _ _)⟩
theorem ZY (M E:Int)(h0:0<M)(h1:M≤9007199254740992)(hE:-1074≤E)(hk:E=-1074∨4503599627370496≤M):∃k:Nat,∃L:Nat,∃o:Int,∃U:Nat,k=Lib.ctz 64 M.toNat∧L=Lib.bitLen o.toNat∧M/2^k=o∧k<64∧0<o∧o≤9223372036854775807∧L≤64∧min (53-(L:Int)) (E+(k:Int)+1074)=(U:Int)∧U<64∧(0≤E+(k:Int)-(U:Int)+1074)∧(E+(k:Int)-(U:Int)+1074)*4503599627370496+o*2^U=(E+1074)*4503599627370496+M∧0≤o*2^U∧o*2^U<2*4503599627370496∧(E+(k:Int)-(U:Int)+1074+1<2047↔(E+1074)*4503599627370496+M<9218868437227405312):=by
 by_cases ht:M=9007199254740992
 ·subst ht
  refine⟨53,1,1,52,by decide+kernel,by decide+kernel,by decide,by decide,by decide,by decide,by decide,?_,by decide,by omega,?_,by decide,by decide,by omega⟩
  ·omega
  ·have:(1:Int)*2^52=4503599627370496:=by decide
   rw[this];omega
 ·obtain⟨k,L,o,hk',hL,hdiv,hxo,hk64,ho0,ho1,hlen,hL64⟩:=qcs M (by omega) (by omega)
  have hU:min (53-(L:Int)) (E+(k:Int)+1074)=(k:Int):=by
   by_cases hs:M<4503599627370496
   ·have:=QC 52 M.toNat (by decide) (by omega)
    omega
   ·have:=vK 52 M.toNat (by decide) (by omega) (by omega)
    omega
  refine⟨k,L,o,k,hk',hL,hdiv,hk64,ho0,ho1,hL64,hU,hk64,by omega,by rw[←hxo];omega,by rw[←hxo];omega,by rw[←hxo];omega,?_⟩
  omega
theorem qeo (p:Bool)(M E R q:Int)(h0:0≤M)(h1:M≤9007199254740992)(hE:-1074≤E)(hk:E=-1074∨4503599627370496≤M)(hR:(E+1074)*4503599627370496+M=R)(hlt:R<9218868437227405312)(hq:(if p=true then R-9223372036854775808 else R)=q)(w:World)(hT:Tab w):Calls Tryz.prog 147 #[.bool p,.int .i64 M,.int .i64 E,.int .i64 64] w fun e w'=>e=.returned (.tuple #[.int .i64 q,.bool true])∧Kept w w':=by
 by_cases hz:M=0
 ·subst hz
  have hR0:R=0:=by omega
  refine(Vh p E w).mono ?_
  rintro e w' ⟨rfl,hk⟩
  refine⟨?_,hk⟩
  rw[←hq,hR0]
  cases p<;>rfl
 ·obtain⟨k,L,o,U,hk',hL,hdiv,hk64,ho0,ho1,hL64,hU,hU64,hs0,hv,hv0,hv2,hiff⟩:=ZY M E (by omega) h1 hE hk
  have hs:=hiff.2 (by omega)
  refine YD p M E k (by omega) (by omega) (by omega) (by omega) hk64 o L ho0 ho1 hL64 hdiv ?_ ?_ U hU hU64 hs hs0 R (R-9223372036854775808) hv0 hv2 (by rw[hv,hR]) (qmm _ (by omega) (by omega)) q hq w hT
  ·intro w hT
   rw[hk']
   exact ZX M (by omega) (by omega) w hT
  ·intro w
   rw[hL]
   exact Vk o (by omega) ho1 w
theorem qa9 (p:Bool)(M E R:Int)(h0:0≤M)(h1:M≤9007199254740992)(hE:-1074≤E)(hk:E=-1074∨4503599627370496≤M)(hR:(E+1074)*4503599627370496+M=R)(hlt:9218868437227405312≤R)(w:World)(hT:Tab w):Calls Tryz.prog 147 #[.bool p,.int .i64 M,.int .i64 E,.int .i64 64] w fun e w'=>e=.returned (.tuple #[.int .i64 0,.bool false])∧Kept w w':=by
 by_cases hf:2000<E
 ·exact YB p M E (by omega) hf w
 ·obtain⟨k,L,o,U,hk',hL,hdiv,hk64,ho0,ho1,hL64,hU,hU64,hs0,hv,hv0,hv2,hiff⟩:=ZY M E (by omega) h1 hE hk
  refine Vl p M E k (by omega) (by omega) (by omega) (by omega) hk64 o L ho0 ho1 hL64 hdiv ?_ ?_ (U:Int) hU (by omega) (by omega) (by omega) w hT
  ·intro w hT
   rw[hk']
   exact ZX M (by omega) (by omega) w hT
  ·intro w
   rw[hL]
   exact Vk o (by omega) ho1 w
theorem YC (p:Bool)(x e:Int)(hx0:0<x)(he:2000<e)(w:World):Calls Tryz.prog 147 #[.bool p,.int .i64 x,.int .i64 e,.int .i64 32] w fun e w'=>e=.returned (.tuple #[.int .i64 0,.bool false])∧Kept w w':=by
 go_enter Tryz.func147,Tryz.ntmps147
 go_wp2_with fail
 refine(zj _).mono ?_
 rintro e w1 ⟨rfl,hk1⟩
 go_wp2
 go_ret2
 exact⟨rfl,(hk1.alloc _ _)⟩
theorem ZZ (M E:Int)(h0:0<M)(h1:M≤16777216)(hE:-149≤E)(hk:E=-149∨8388608≤M):∃k:Nat,∃L:Nat,∃o:Int,∃U:Nat,k=Lib.ctz 64 M.toNat∧L=Lib.bitLen o.toNat∧M/2^k=o∧k<64∧0<o∧o≤9223372036854775807∧L≤64∧min (24-(L:Int)) (E+(k:Int)+149)=(U:Int)∧U<64∧(0≤E+(k:Int)-(U:Int)+149)∧(E+(k:Int)-(U:Int)+149)*8388608+o*2^U=(E+149)*8388608+M∧0≤o*2^U∧o*2^U<2*8388608∧(E+(k:Int)-(U:Int)+149+1<255↔(E+149)*8388608+M<2139095040):=by
 by_cases ht:M=16777216
 ·subst ht
  refine⟨24,1,1,23,by decide+kernel,by decide+kernel,by decide,by decide,by decide,by decide,by decide,?_,by decide,by omega,?_,by decide,by decide,by omega⟩
  ·omega
  ·have:(1:Int)*2^23=8388608:=by decide
   rw[this];omega
 ·obtain⟨k,L,o,hk',hL,hdiv,hxo,hk64,ho0,ho1,hlen,hL64⟩:=qcs M (by omega) (by omega)
  have hU:min (24-(L:Int)) (E+(k:Int)+149)=(k:Int):=by
   by_cases hs:M<8388608
   ·have:=QC 23 M.toNat (by decide) (by omega)
    omega
   ·have:=vK 23 M.toNat (by decide) (by omega) (by omega)
    omega
  refine⟨k,L,o,k,hk',hL,hdiv,hk64,ho0,ho1,hL64,hU,hk64,by omega,by rw[←hxo];omega,by rw[←hxo];omega,by rw[←hxo];omega,?_⟩
  omega
theorem qep (p:Bool)(M E R q:Int)(h0:0≤M)(h1:M≤16777216)(hE:-149≤E)(hk:E=-149∨8388608≤M)(hR:(E+149)*8388608+M=R)(hlt:R<2139095040)(hq:(if p=true then R+2147483648 else R)=q)(w:World)(hT:Tab w):Calls Tryz.prog 147 #[.bool p,.int .i64 M,.int .i64 E,.int .i64 32] w fun e w'=>e=.returned (.tuple #[.int .i64 q,.bool true])∧Kept w w':=by
 by_cases hz:M=0
 ·subst hz
  have hR0:R=0:=by omega
  refine(Vi p E w).mono ?_
  rintro e w' ⟨rfl,hk⟩
  refine⟨?_,hk⟩
  rw[←hq,hR0]
  cases p<;>rfl
 ·obtain⟨k,L,o,U,hk',hL,hdiv,hk64,ho0,ho1,hL64,hU,hU64,hs0,hv,hv0,hv2,hiff⟩:=ZZ M E (by omega) h1 hE hk
  have hs:=hiff.2 (by omega)
  refine YE p M E k (by omega) (by omega) (by omega) (by omega) hk64 o L ho0 ho1 hL64 hdiv ?_ ?_ U hU hU64 hs hs0 R (R+2147483648) hv0 hv2 (by rw[hv,hR]) (qnm _ (by omega) (by omega)) q hq w hT
  ·intro w hT
   rw[hk']
   exact ZX M (by omega) (by omega) w hT
  ·intro w
   rw[hL]
   exact Vk o (by omega) ho1 w
theorem qba (p:Bool)(M E R:Int)(h0:0≤M)(h1:M≤16777216)(hE:-149≤E)(hk:E=-149∨8388608≤M)(hR:(E+149)*8388608+M=R)(hlt:2139095040≤R)(w:World)(hT:Tab w):Calls Tryz.prog 147 #[.bool p,.int .i64 M,.int .i64 E,.int .i64 32] w fun e w'=>e=.returned (.tuple #[.int .i64 0,.bool false])∧Kept w w':=by
 by_cases hf:2000<E
 ·exact YC p M E (by omega) hf w
 ·obtain⟨k,L,o,U,hk',hL,hdiv,hk64,ho0,ho1,hL64,hU,hU64,hs0,hv,hv0,hv2,hiff⟩:=ZZ M E (by omega) h1 hE hk
  refine Vm p M E k (by omega) (by omega) (by omega) (by omega) hk64 o L ho0 ho1 hL64 hdiv ?_ ?_ (U:Int) hU (by omega) (by omega) (by omega) w hT
  ·intro w hT
   rw[hk']
   exact ZX M (by omega) (by omega) w hT
  ·intro w
   rw[hL]
   exact Vk o (by omega) ho1 w
end Go.Proofs.YtaglkncdedeipaaGreatDoor
