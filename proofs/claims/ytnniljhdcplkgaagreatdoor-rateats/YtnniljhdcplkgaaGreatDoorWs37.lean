/-  -/
import Derived.Test.YtnniljhdcplkgaaGreatDoorWs18
import Derived.Test.YtnniljhdcplkgaaGreatDoorWs17
import Derived.Test.YtnniljhdcplkgaaGreatDoorWs23
import Derived.Test.YtnniljhdcplkgaaGreatDoorWs21
import Derived.Test.YtnniljhdcplkgaaGreatDoorWs19
import Derived.Test.YtnniljhdcplkgaaGreatDoorWs02
import Derived.Deep.RegionHeld
import Derived.Test.YtnniljhdcplkgaaGreatDoorWs30
namespace Go.Proofs.YtnniljhdcplkgaaGreatDoor
open Go.ChangeShapes Go.WideShapes Go.ChangeAt Go.RowKit
set_option maxHeartbeats 16000000
set_option maxRecDepth 100000
set_option linter.unusedVariables false
set_option linter.unusedSimpArgs false
structure N3 (w:World) (b:Nat) (u v x:Value):Prop where
 c0:w.cell? ⟨b,0,none⟩=some u
 c1:w.cell? ⟨b,1,none⟩=some v
 c2:w.cell? ⟨b,2,none⟩=some x
 fz:∀o,w.frozen? ⟨b,o,none⟩=false
theorem N3.new (w:World)(u v x:Value)(t:TypeId):N3 (w.alloc (.cells #[u,v,x] t)) w.heap.size u v x:=⟨by simp[go_sem],by simp[go_sem],by simp[go_sem],fun o=>by simp[go_sem]⟩
theorem N3.lt {w:World}{b:Nat}{u v x:Value}(h:N3 w b u v x):b<w.heap.size:=World.block_lt_of_cell? _ _ h.c0
theorem N3.kept {w w':World}{b:Nat}{u v x:Value}(h:N3 w b u v x)(k:Kept w w'):N3 w' b u v x:=
 ⟨(k.below.cell (p:=⟨b,0,none⟩) h.lt).trans h.c0,(k.below.cell (p:=⟨b,1,none⟩) h.lt).trans h.c1,(k.below.cell (p:=⟨b,2,none⟩) h.lt).trans h.c2,fun o=>(k.frozen _).trans (h.fz o)⟩
theorem N3.alloc {w:World}{b:Nat}{u v x:Value}(h:N3 w b u v x)(c:Array Value)(t:TypeId):N3 (w.alloc (.cells c t)) b u v x:=h.kept ((Kept.refl w).alloc c t)
theorem sof_walk (b n:Int)(r:Nm)(w:World)
  (KE:Hid (∀u,Kept w u→Calls Tryz.prog 73 #[.int .i64 b,.int .i64 n] u fun e w'=>∃v,e=.returned (.tuple #[v,.int .i64 0])∧New u w' v r∧Kept u w')):
  Calls Tryz.prog 42 #[.int .i64 b,.int .i64 n] w fun e w'=>∃v,e=.returned v∧New w w' v r∧Kept w w':=by
 obtain⟨X,hX⟩:∃X,X=w.alloc (.cells #[.bool false,.slice none 0 0,.int .i64 0] 43):=⟨_,rfl⟩
 have hK:Kept w X:=by rw[hX];exact(Kept.refl w).alloc _ _
 have hXs:X.heap.size=w.heap.size+1:=by rw[hX];simp
 have hP0:N3 X (w.heap.size) (.bool false) (.slice none 0 0) (.int .i64 0):=by
  rw[hX]
  have:=(N3.new (w) (.bool false) (.slice none 0 0) (.int .i64 0) 43)
  simpa using this
 obtain⟨B0,hB0⟩:∃B,B=w.heap.size:=⟨_,rfl⟩
 rw[←hB0]at hP0
 have oB:Hid (w.heap.size≤B0∧B0<X.heap.size):=(show _∧_ from by omega)
 have HR:Hid (∀u,Kept X u→N3 u B0 (.bool false) (.slice none 0 0) (.int .i64 0)):=fun u k=>hP0.kept k
 go_enter Tryz.func42,Tryz.ntmps42
 go_upto_region 1 with fail
 rw[←hX,←hB0]
 clear hX hXs hB0
 obtain⟨p00,p01,p02,p0f⟩:=hP0
 go_wp2_with (first|(go_at_call 73;refine(KE.out _ hK).mono ?_;rintro e w2 ⟨v,rfl,hN,k2⟩;obtain⟨vn,va,vl,vc,vx,rfl⟩:=hN.shape;clear p00 p01 p02 p0f;obtain⟨f0,f1,f2,f3⟩:=HR.out _ k2;have hlt:B0<w2.heap.size:=(HR.out _ k2).lt;have hne:B0≠w2.heap.size:=Nat.ne_of_lt hlt))
 have:=res_done B0 oB.out.1 oB.out.2 hK hN k2 (.bool vn) (.slice va vl vc) (.int .i64 vx)
 exact bodyPost_ret (v:=.agg #[.bool vn,.slice va vl vc,.int .i64 vx]) (by simp[results,Tryz.results42,go_sem,f0,f1,f2,hlt]) rfl ⟨_,rfl,this.1.kept ((Kept.refl _).alloc _ _),this.2.alloc _ _⟩
theorem sint_walk (n:Int)(r:Nm)(w:World)
  (KE:Hid (∀u,Kept w u→Calls Tryz.prog 43 #[.int .i64 n] u fun e w'=>∃v,e=.returned (v)∧New u w' v r∧Kept u w')):
  Calls Tryz.prog 23 #[.int .i64 n] w fun e w'=>∃v,e=.returned v∧New w w' v r∧Kept w w':=by
 obtain⟨X,hX⟩:∃X,X=w.alloc (.cells #[.bool false,.slice none 0 0,.int .i64 0] 43):=⟨_,rfl⟩
 have hK:Kept w X:=by rw[hX];exact(Kept.refl w).alloc _ _
 have hXs:X.heap.size=w.heap.size+1:=by rw[hX];simp
 have hP0:N3 X (w.heap.size) (.bool false) (.slice none 0 0) (.int .i64 0):=by
  rw[hX]
  have:=(N3.new (w) (.bool false) (.slice none 0 0) (.int .i64 0) 43)
  simpa using this
 obtain⟨B0,hB0⟩:∃B,B=w.heap.size:=⟨_,rfl⟩
 rw[←hB0]at hP0
 have oB:Hid (w.heap.size≤B0∧B0<X.heap.size):=(show _∧_ from by omega)
 have HR:Hid (∀u,Kept X u→N3 u B0 (.bool false) (.slice none 0 0) (.int .i64 0)):=fun u k=>hP0.kept k
 go_enter Tryz.func23,Tryz.ntmps23
 go_upto_region 1 with fail
 rw[←hX,←hB0]
 clear hX hXs hB0
 obtain⟨p00,p01,p02,p0f⟩:=hP0
 go_wp2_with (first|(go_at_call 43;refine(KE.out _ hK).mono ?_;rintro e w2 ⟨v,rfl,hN,k2⟩;obtain⟨vn,va,vl,vc,vx,rfl⟩:=hN.shape;clear p00 p01 p02 p0f;obtain⟨f0,f1,f2,f3⟩:=HR.out _ k2;have hlt:B0<w2.heap.size:=(HR.out _ k2).lt;have hne:B0≠w2.heap.size:=Nat.ne_of_lt hlt))
 have:=res_done B0 oB.out.1 oB.out.2 hK hN k2 (.bool vn) (.slice va vl vc) (.int .i64 vx)
 exact bodyPost_ret (v:=.agg #[.bool vn,.slice va vl vc,.int .i64 vx]) (by simp[results,Tryz.results23,go_sem,f0,f1,f2,hlt]) rfl ⟨_,rfl,this.1,this.2⟩
theorem sround_walk (n1:Bool)(a1:Option Addr)(l1 c1:Nat)(x1:Int)(n s q:Int)(o:Bool)(w:World)
  (KE:Hid (∀u,Kept w u→Calls Tryz.prog 118 #[.agg #[.bool n1,.slice a1 l1 c1,.int .i64 x1],.int .i64 n,.int .i64 0] u fun e w'=>e=.returned (.tuple #[.int .i64 s,.bool o,.int .i64 q])∧Kept u w')):
  Calls Tryz.prog 90 #[.agg #[.bool n1,.slice a1 l1 c1,.int .i64 x1],.int .i64 n] w fun e w'=>e=.returned (.int .i64 s)∧Kept w w':=by
 obtain⟨X,hX⟩:∃X,X=w.alloc (.cells #[.bool n1,.slice a1 l1 c1,.int .i64 x1] 43):=⟨_,rfl⟩
 have hK:Kept w X:=by rw[hX];exact(Kept.refl w).alloc _ _
 have hXs:X.heap.size=w.heap.size+1:=by rw[hX];simp
 have hP0:N3 X (w.heap.size) (.bool n1) (.slice a1 l1 c1) (.int .i64 x1):=by
  rw[hX]
  have:=(N3.new (w) (.bool n1) (.slice a1 l1 c1) (.int .i64 x1) 43)
  simpa using this
 obtain⟨B0,hB0⟩:∃B,B=w.heap.size:=⟨_,rfl⟩
 rw[←hB0]at hP0
 have oB:Hid (w.heap.size≤B0∧B0<X.heap.size):=(show _∧_ from by omega)
 go_enter Tryz.func90,Tryz.ntmps90
 go_upto_region 1 with fail
 rw[←hX,←hB0]
 clear hX hXs hB0
 obtain⟨p00,p01,p02,p0f⟩:=hP0
 go_wp2_with (first|(go_at_call 118;refine(KE.out _ hK).mono ?_;rintro e w2 ⟨rfl,k2⟩))
 go_ret
 exact⟨rfl,hK.trans k2⟩
end Go.Proofs.YtnniljhdcplkgaaGreatDoor

namespace Go.Proofs.YtnniljhdcplkgaaGreatDoor
open Go.ChangeShapes Go.WideShapes Go.ChangeAt Go.RowKit
set_option maxHeartbeats 16000000
set_option maxRecDepth 100000
set_option linter.unusedVariables false
set_option linter.unusedSimpArgs false
theorem int_neg (n:Int)(h0:-9223372036854775808≤n)(h1:n<0)(r:Nm)(hf:frm (decide (n<0)) n.natAbs 0=some r)(w:World)(hT:Tab w):Calls Tryz.prog 43 #[.int .i64 n] w fun e w'=>(∃v,e=.returned v∧New w w' v r)∧Kept w w':=by
 have hK:Kept w (numW w):=(Kept.refl w).alloc _ _
 obtain⟨s,hs⟩:∃s:Int,s=(n.natAbs:Int):=⟨_,rfl⟩
 have hs1:0≤s∧s≤9223372036854775808:=by omega
 have hw1:IntKind.u64.wrap n=if n<0 then n+18446744073709551616 else n:=by rw[IntKind.wrap_u64];split<;>omega
 have KD:Hid (Calls Tryz.prog 75 #[.int .u64 s] (numW w) fun e w'=>e=.returned (.slice (some ⟨(numW w).heap.size,0,none⟩) 3 3)∧w'=(numW w).alloc (.cells #[.int .i64 (s%1073741824),.int .i64 (s/1073741824%1073741824),.int .i64 (s/1152921504606846976)] 3)):=digitsOf_any s hs1.1 (by omega) (numW w)
 have hO:=own_three (numW w) (s%1073741824) (s/1073741824%1073741824) (s/1152921504606846976)
 have hDg:Dg [s%1073741824,s/1073741824%1073741824,s/1152921504606846976]:=Dg.cons (by omega) (by omega) (Dg.cons (by omega) (by omega) (Dg.cons (by omega) (by omega) Dg.nil))
 have hnv:nv [s%1073741824,s/1073741824%1073741824,s/1152921504606846976]=n.natAbs:=by
  show(s%1073741824).toNat+1073741824*((s/1073741824%1073741824).toNat+1073741824*((s/1152921504606846976).toNat+1073741824*0))=n.natAbs
  omega
 have hK2:Kept (numW w) ((numW w).alloc (.cells #[.int .i64 (s%1073741824),.int .i64 (s/1073741824%1073741824),.int .i64 (s/1152921504606846976)] 3)):=(Kept.refl _).alloc _ _
 have KF:Hid (Calls Tryz.prog 74 #[.bool (decide (n<0)),.slice (some ⟨(numW w).heap.size,0,none⟩) 3 3,.int .i64 0] ((numW w).alloc (.cells #[.int .i64 (s%1073741824),.int .i64 (s/1073741824%1073741824),.int .i64 (s/1152921504606846976)] 3)) fun e w'=>(∃v,e=.returned v∧New (numW w) w' v r)∧Kept (numW w) w'):=form_ok _ _ hDg (by simp) _ 3 0 (numW w) _ hK2 (Nat.le_refl _) hO (hT.kept (hK.trans hK2)) r (by rw[hnv];exact hf)
 clear hO hDg hnv hf hT
 simp only[World.size_alloc]at KD KF
 rw[if_pos h1]at hw1
 have hw2:IntKind.u64.wrap (-(n+18446744073709551616))=s:=by rw[IntKind.wrap_u64];omega
 rw[decide_eq_true h1]at KF
 clear hs hs1
 go_enter Tryz.func43,Tryz.ntmps43
 go_wp2_with (first|(go_at_call 75;refine KD.out.mono ?_;rintro e w1 ⟨rfl,rfl⟩)|(go_at_call 74;refine KF.out.mono ?_;rintro e w2 ⟨⟨v,rfl,hN⟩,hk1⟩;obtain⟨vn,va,vl,vc,vx,rfl⟩:=hN.shape;obtain⟨f0,f1,f2,f3⟩:=num_cells hk1))
 have:=num_done hN hk1 (.bool vn) (.slice va vl vc) (.int .i64 vx)
 exact bodyPost_ret (v:=.agg #[.bool vn,.slice va vl vc,.int .i64 vx]) (by simp[results,Tryz.results43,go_sem,f0,f1,f2]) rfl ⟨⟨_,rfl,this.1⟩,this.2⟩
end Go.Proofs.YtnniljhdcplkgaaGreatDoor

namespace Go.Proofs.YtnniljhdcplkgaaGreatDoor
open Go.ChangeShapes Go.WideShapes Go.ChangeAt Go.RowKit
set_option maxHeartbeats 16000000
set_option maxRecDepth 100000
set_option linter.unusedVariables false
set_option linter.unusedSimpArgs false
def expS:Nat:=9000
structure Vz (s Z:Int) (x:Nm):Prop where
 eq:cfm Z s=some x
 lies:Lies s expS x
 val:vz s x=Z
theorem vz_mk (s Z:Int)(h1:-20000≤s)(h2:s≤0)(hz:Z.natAbs<2^expS):∃x,Vz s Z x:=by
 obtain⟨x,e,l,v⟩:=cfm_lies s expS (by unfold expS;omega) h1 h2 Z hz
 exact⟨x,e,l,v⟩
theorem Vz.of {s Z:Int}{x:Nm}(h1:-20000≤s)(h2:s≤0)(hz:Z.natAbs<2^expS)(h:cfm Z s=some x):Vz s Z x:=by
 obtain⟨y,e,l,v⟩:=cfm_lies s expS (by unfold expS;omega) h1 h2 Z hz
 rw[h]at e
 cases e
 exact⟨h,l,v⟩
theorem Vz.ok {s Z:Int}{x:Nm}(h:Vz s Z x):vld x=true:=h.lies.ok
theorem Vz.add {s X Y:Int}{x y r:Nm}(hx:Vz s X x)(hy:Vz s Y y)(hr:Vz s (X+Y) r):addZ x y=some r:=by
 rw[add_cfm s expS (by unfold expS;omega) x y hx.lies hy.lies,hx.val,hy.val]
 exact hr.eq
theorem Vz.sub {s X Y:Int}{x y r:Nm}(hx:Vz s X x)(hy:Vz s Y y)(hr:Vz s (X-Y) r):addZ x (ng y)=some r:=by
 rw[sub_cfm s expS (by unfold expS;omega) x y hx.lies hy.lies,hx.val,hy.val]
 exact hr.eq
theorem Vz.mul {s t X Y:Int}{x y r:Nm}(h1:-20000≤s)(h2:s≤0)(hx:Vz s X x)(hy:Vz s Y y)(ht:t=s+s)(hr:cfm (X*Y) t=some r):mulN x y=some r:=by
 subst ht
 rw[mul_cfm s expS (by unfold expS;omega) h1 h2 x y hx.lies hy.lies,hx.val,hy.val]
 exact hr
theorem Vz.down {s t Z:Int}{x:Nm}(k:Nat)(hk:s=t+k)(h:Vz s Z x)(h1:-20000≤t)(h2:t≤0)(hz:(Z*2^k).natAbs<2^expS):Vz t (Z*2^k) x:=Vz.of h1 h2 hz (by rw[cfm_shift,←hk];exact h.eq)
def zf (b n:Int):Int:=sg (pneg b n) (pmag b n*2^(pexp b n+1074).toNat)
theorem zf_vz (b n:Int)(hn:n=64∨n=32)(hc:cls b n<3):Vz (-1074) (zf b n) (ofN b n)∧∀E,E=2200→(zf b n).natAbs<2^E:=by
 obtain⟨p1,p2,p3,p4,p5,-⟩:=fl_any b n hn hc
 have hlt:∀E,E=2200→(zf b n).natAbs<2^E:=by
  intro E hE
  have e:(zf b n).natAbs=(pmag b n).toNat*2^(pexp b n+1074).toNat:=by
   obtain⟨M,hM⟩:∃M:Nat,pmag b n=(M:Int):=⟨(pmag b n).toNat,by omega⟩
   unfold zf
   rw[hM,Int.toNat_natCast]
   have h0:∀(s:Bool) (a:Nat),(sg s (a:Int)).natAbs=a:=fun s a=>by cases s<;>simp[sg]
   have:=h0 (pneg b n) (M*2^(pexp b n+1074).toNat)
   push_cast at this
   exact this
  rw[e]
  have h1:(pmag b n).toNat<2^(kprec n).toNat:=by
   have:((pmag b n).toNat:Int)<((2^(kprec n).toNat:Nat):Int):=by push_cast;omega
   omega
  have h2:(kprec n).toNat≤53:=by rcases hn with rfl|rfl<;>decide
  have h3:(pexp b n+1074).toNat≤2074:=by omega
  have h4:(pmag b n).toNat<2^53:=Nat.lt_of_lt_of_le h1 (Nat.pow_le_pow_right (by decide) h2)
  obtain⟨F,hF⟩:∃F:Nat,F=2074:=⟨_,rfl⟩
  rw[←hF]at h3
  have h5:2^(pexp b n+1074).toNat≤2^F:=Nat.pow_le_pow_right (by decide) h3
  have h6:(pmag b n).toNat*2^(pexp b n+1074).toNat≤2^53*2^F:=Nat.mul_le_mul (Nat.le_of_lt h4) h5
  have h7:2^53*2^F<2^E:=by
   rw[←Nat.pow_add]
   exact Nat.pow_lt_pow_right (by decide) (by omega)
  exact Nat.lt_of_le_of_lt h6 h7
 obtain⟨E,hE⟩:∃E:Nat,E=2200:=⟨_,rfl⟩
 refine⟨Vz.of (by decide) (by decide) (Nat.lt_of_lt_of_le (hlt E hE) (Nat.pow_le_pow_right (by decide) (by unfold expS;omega))) ?_,hlt⟩
 have h:=of_frm b n hn hc
 rw[frm_cfm]at h
 have hm:∀(s:Bool) (a b:Int),sg s (a*b)=sg s a*b:=fun s a b=>by cases s<;>simp[sg,Int.neg_mul]
 unfold zf
 rw[hm,cfm_shift,show(-1074:Int)+((pexp b n+1074).toNat:Int)=pexp b n by omega]
 rw[show((pmag b n).toNat:Int)=pmag b n by omega]at h
 exact h
theorem NumAt.keptS {w w':World}{v:Value}{x:Nm}(h:NumAt w v x)(k:Kept w w'):NumAt w' v x:=by
 obtain⟨s,e,hs⟩:=h
 exact⟨s,e,hs.kept k⟩
theorem NumAt.form {w:World}{v:Value}{x:Nm}(h:NumAt w v x):∃ao c,v=.agg #[.bool x.neg,.slice ao x.mag.length c,.int .i64 x.exp]∧Sl w (.slice ao x.mag.length c) x.mag:=by
 obtain⟨s,rfl,hs⟩:=h
 obtain⟨ao,c,rfl,r⟩:=hs
 exact⟨ao,c,rfl,ao,c,rfl,r⟩
theorem sof_any (b n:Int)(hb1:-9223372036854775808≤b)(hb2:b≤9223372036854775807)(hn:n=64∨n=32)(hc:cls b n<3)(w:World)(hT:Tab w):Calls Tryz.prog 42 #[.int .i64 b,.int .i64 n] w fun e w'=>∃v,e=.returned v∧New w w' v (ofN b n)∧Kept w w':=
 sof_walk b n _ w (fun u k=>of_fin b n hb1 hb2 hn hc u (hT.kept k))
end Go.Proofs.YtnniljhdcplkgaaGreatDoor

namespace Go.Proofs.YtnniljhdcplkgaaGreatDoor
open Go
set_option maxHeartbeats 16000000
set_option maxRecDepth 100000
set_option linter.unusedVariables false
section
variable {P:Program} {ops:Array Oper} {Q:Exit→Act→World→Prop} {md:Region.Mode} {S:World→Prop} {D:List Nat}
def wpAnyD (P:Program)(md:Region.Mode)(ops:Array Oper)(Q:Exit→Act→World→Prop)(S:World→Prop)(D:List Nat):Nat→Array Bool→Act→World→Prop
 |0,listed,a,w=>Region.ready md ops listed=[]∧Q .normal a w
 |fuel+1,listed,a,w=>
  (Region.ready md ops listed=[]→Q .normal a w)∧
  ∀i∈Region.ready md ops listed,wpOp P ops Q i (fun a' w'=>(D.contains i=false→S w')∧wpAnyD P md ops Q S D fuel (listed.setIfInBounds i true) a' w') a w
theorem wpAny_of_late:∀(fuel:Nat) (listed:Array Bool) (a:Act) (w:World),wpAnyD P md ops Q S D fuel listed a w→wpAny P md ops Q fuel listed a w
 |0,_,_,_,h=>h
 |fuel+1,_,_,_,h=>⟨h.1,fun i hi=>wpOp_mono (fun a' w' h'=>wpAny_of_late fuel _ a' w' h'.2) (h.2 i hi)⟩
def waits (md:Region.Mode)(i:Nat)(E:List Nat)(o:Oper):Bool:=o.after.any fun e=>Region.binds md e&&(e.on==i||E.contains e.on)
def lateOf (md:Region.Mode)(ops:Array Oper)(i:Nat):List Nat:=(List.range ops.size).foldl (fun E j=>match ops[j]? with
 |some o=>if waits md i E o then j::E else E
 |none=>E) []
def lateB (md:Region.Mode)(ops:Array Oper)(listed:Array Bool)(D:List Nat)(i:Nat)(E:List Nat):Bool:=
 D.all (fun j=>E.contains j)&&E.all fun j=>(listed.getD j true==false)&&(j != i)&&(match ops[j]? with
  |some o=>waits md i E o
  |none=>true)
def LateP (md:Region.Mode)(ops:Array Oper)(listed:Array Bool)(i:Nat)(E:List Nat):Prop:=
 ∀j∈E,listed.getD j true=false∧j≠i∧∀o,ops[j]?=some o→∃e∈o.after,Region.binds md e=true∧(e.on=i∨e.on∈E)
theorem lateB_spec {listed:Array Bool}{i:Nat}{E:List Nat}(h:lateB md ops listed D i E=true):(∀j∈D,j∈E)∧LateP md ops listed i E:=by
 unfold lateB at h
 rw[Bool.and_eq_true,List.all_eq_true,List.all_eq_true]at h
 refine⟨fun j hj=>by simpa using h.1 j hj,fun j hj=>?_⟩
 have h1:=h.2 j hj
 rw[Bool.and_eq_true,Bool.and_eq_true]at h1
 refine⟨by simpa using h1.1.1,by simpa using h1.1.2,fun o ho=>?_⟩
 have h2:=h1.2
 rw[ho]at h2
 unfold waits at h2
 obtain⟨e,he,hb⟩:=Array.any_eq_true'.1 h2
 simp only[Bool.and_eq_true,Bool.or_eq_true,beq_iff_eq,List.contains_iff_mem]at hb
 exact⟨e,he,hb.1,hb.2⟩
theorem getD_ff {listed:Array Bool}{k:Nat}(h0:listed.getD k true=false)(h1:listed.getD k false=true):False:=by
 rcases Nat.lt_or_ge k listed.size with h'|h'
 ·simp[h']at h0 h1;rw[h0]at h1;cases h1
 ·simp[Array.getElem?_eq_none h']at h1
theorem late_not_ready {listed:Array Bool}{i j:Nat}{E:List Nat}(hL:LateP md ops listed i E)(hi:i∈Region.ready md ops listed)(hj:j∈Region.ready md ops listed):j∉E:=by
 intro hE
 obtain⟨-,-,h3⟩:=hL j hE
 obtain⟨-,o,ho,hall⟩:=mem_ready.1 hj
 obtain⟨e,he,hb,hw⟩:=h3 o ho
 have h1:=hall e he hb
 rcases hw with hw|hw
 ·rw[hw]at h1
  exact getD_ff (mem_ready.1 hi).1 h1
 ·exact getD_ff (hL _ hw).1 h1
theorem wpAnyD_first {i:Nat}{oi:Oper}{v:Value}{E:List Nat}(hi:ops[i]?=some oi)(hsel:∀(j:Nat) (o:Oper) cs b,ops[j]?=some o→o.op≠.select cs b)
  (hQ:∀c a w,Q (.panic c) (a.put oi.dst v) w→Q (.panic c) a w) (hD:∀j∈D,j∈E):
  ∀(fuel:Nat) (listed:Array Bool) (a:Act) (w:World),LateP md ops listed i E→
   (∀j oj,ops[j]?=some oj→j≠i→listed.getD j true=false→(∀e∈oj.after,Region.binds md e=true→e.on≠i)→oi.apart ops oj=true)→
   i∈Region.ready md ops listed→YieldsIf P ops S oi v a→S w→
   wpAnyD P md ops Q S D fuel (listed.setIfInBounds i true) (a.put oi.dst v) w→wpAnyD P md ops Q S D (fuel+1) listed a w:=by
 intro fuel
 induction fuel with
 | zero=>
  intro listed a w _ _ hr hy hS H
  refine⟨fun h=>(by rw[h]at hr;cases hr),fun j hj=>?_⟩
  by_cases hji:j=i
  ·subst hji;exact hy.wpOp hi hS ⟨fun _=>hS,H⟩
  ·have:=ready_mono hj hji
   rw[H.1]at this
   cases this
 | succ fuel ih=>
  intro listed a w hL hfree hr hy hS H
  refine⟨fun h=>(by rw[h]at hr;cases hr),fun j hj=>?_⟩
  by_cases hji:j=i
  ·subst hji;exact hy.wpOp hi hS ⟨fun _=>hS,H⟩
  ·have h1:=H.2 j (ready_mono hj hji)
   have hjE:=late_not_ready hL hr hj
   have hjD:D.contains j=false:=by
    rcases hc:D.contains j with _|_
    ·rfl
    ·exact absurd (hD j (by simpa using hc)) hjE
   obtain⟨hjun,oj,hoj,hall⟩:=mem_ready.1 hj
   have hnot:∀e∈oj.after,Region.binds md e=true→e.on≠i:=fun e he hb heq=>by
    have h1:=hall e he hb
    rw[heq]at h1
    exact getD_ff (mem_ready.1 hr).1 h1
   have h2:=wpOp_putIf hoj (hfree j oj hoj hji hjun hnot) (fun cs b=>hsel i oi cs b hi) (fun cs b=>hsel j oj cs b hoj) hQ hy h1
   have hfree':∀k ok,ops[k]?=some ok→k≠i→(listed.setIfInBounds j true).getD k true=false→
     (∀e∈ok.after,Region.binds md e=true→e.on≠i)→oi.apart ops ok=true:=fun k ok hk hki hun hno=>by
    refine hfree k ok hk hki ?_ hno
    by_cases hjk:j=k
    ·subst hjk;exact hjun
    ·rw[getD_set_ne true hjk]at hun;exact hun
   have hL':LateP md ops (listed.setIfInBounds j true) i E:=fun k hk=>by
    obtain⟨g1,g2,g3⟩:=hL k hk
    have hne:j≠k:=fun e=>by subst e;exact hjE hk
    exact⟨by rw[getD_set_ne true hne];exact g1,g2,g3⟩
   refine wpOp_mono (fun a' w' h3=>⟨h3.2.1,ih (listed.setIfInBounds j true) a' w' hL' hfree' (ready_mono hr (Ne.symm hji)) h3.1 (h3.2.1 hjD) ?_⟩) h2
   rw[Array.setIfInBounds_comm _ _ hji]
   exact h3.2.2
theorem wpAnyD_take {i:Nat}{oi:Oper}{v:Value}{fuel:Nat}{listed:Array Bool}{a:Act}{w:World}(hi:ops[i]?=some oi)
  (hs:Region.noSelect ops=true) (hf:Region.free md ops listed i=true) (hr:(Region.ready md ops listed).contains i=true) (hl:lateB md ops listed D i (lateOf md ops i)=true)
  (hQ:∀c a w,Q (.panic c) (a.put oi.dst v) w→Q (.panic c) a w) (hy:YieldsIf P ops S oi v a) (hS:S w)
  (h:wpAnyD P md ops Q S D fuel (listed.setIfInBounds i true) (a.put oi.dst v) w):wpAnyD P md ops Q S D (fuel+1) listed a w:=
 wpAnyD_first hi (Region.noSelect_spec hs) hQ (lateB_spec hl).1 fuel listed a w (lateB_spec hl).2 (Region.free_spec hi hf) (by simpa using hr) hy hS h
theorem wpAnyD_all {rs:List Nat}{fuel:Nat}{listed:Array Bool}{a:Act}{w:World}(hr:Region.ready md ops listed=rs)(hne:rs≠[])
  (h:∀i∈rs,wpOp P ops Q i (fun a' w'=>(D.contains i=false→S w')∧wpAnyD P md ops Q S D fuel (listed.setIfInBounds i true) a' w') a w):wpAnyD P md ops Q S D (fuel+1) listed a w:=
 ⟨fun h0=>absurd (hr▸h0) hne,hr▸h⟩
theorem wpAnyD_step {i:Nat}{o:Oper}{fuel:Nat}{listed:Array Bool}{a:Act}{w:World}(hr:Region.ready md ops listed=[i])(ho:ops[i]?=some o)
  (h:∀K':Act→World→Prop,Shut (∀a w,S w→(S w→wpAnyD P md ops Q S D fuel (listed.setIfInBounds i true) a w)→K' a w)→if Region.wanted o (yielded ops a.tmps)=true then Oper.wp P o a w K' Q else K' (a.put o.dst undef) w):
  wpAnyD P md ops Q S D (fuel+1) listed a w:=by
 refine wpAnyD_all hr (by simp) fun j hj=>?_
 obtain rfl:=List.mem_singleton.1 hj
 exact wpOp_step ho (fun K' hK=>h K' (fun a w hS hW=>hK a w ⟨fun _=>hS,hW hS⟩))
theorem wpAnyD_done {listed:Array Bool}{a:Act}{w:World}(hr:Region.ready md ops listed=[])(h:Q .normal a w):
  ∀fuel,wpAnyD P md ops Q S D fuel listed a w
 |0=>⟨hr,h⟩
 |_+1=>⟨fun _=>h,by rw[hr];simp⟩
theorem wp_region_late {id:Nat}{a:Act}{w:World}(D:List Nat)(S:World→Prop)(hm:P.follows .mixedOrders=true)(hS:S w.drew)
  (h:S w.drew→wpAnyD P .any ops Q S D ops.size (Array.replicate ops.size false) a w.drew):(Code.region id ops true).wp P Q a w:=
 wp_region_any hm (wpAny_of_late _ _ _ _ (h hS))
end
theorem tkD {P:Program}{ops:Array Oper}{Q:Exit→Act→World→Prop}{md:Region.Mode}{S:World→Prop}{D:List Nat}{i:Nat}{oi:Oper}{v:Value}{fuel:Nat}{listed:Array Bool}{a:Act}{w:World}(hi:ops[i]?=some oi)(hS:S w)(h:wpAnyD P md ops Q S D fuel (listed.setIfInBounds i true) (a.put oi.dst v) w)(hy:YieldsIf P ops S oi v a:=by exact .inl ⟨by rfl,by(intro w hSw;(try dsimp only at hSw);go_simp;try (with_reducible rfl))⟩)(hs:Region.noSelect ops=true:=by kernel_rfl)(hf:Region.free md ops listed i=true:=by kernel_rfl)(hr:(Region.ready md ops listed).contains i=true:=by kernel_rfl)(hl:lateB md ops listed D i (lateOf md ops i)=true:=by kernel_rfl)(hQ:∀c a w,Q (.panic c) (a.put oi.dst v) w→Q (.panic c) a w:=by exact fun _ _ _ h=>h):wpAnyD P md ops Q S D (fuel+1) listed a w:=wpAnyD_take hi hs hf hr hl hQ hy hS h
end Go.Proofs.YtnniljhdcplkgaaGreatDoor

namespace Go.Proofs.YtnniljhdcplkgaaGreatDoor
open Go.ChangeShapes Go.WideShapes Go.ChangeAt Go.RowKit
set_option maxHeartbeats 16000000
set_option maxRecDepth 100000
set_option linter.unusedVariables false
set_option linter.unusedSimpArgs false
theorem sint_any (p:Int)(h1:-9223372036854775808≤p)(h2:p≤9223372036854775807)(y:Nm)(hy:cfm p 0=some y)(w:World)(hT:Tab w):Calls Tryz.prog 23 #[.int .i64 p] w fun e w'=>∃v,e=.returned v∧New w w' v y∧Kept w w':=by
 refine sint_walk p y w (fun u k=>?_)
 by_cases h0:0≤p
 ·refine(int_pos p h0 h2 y hy u (hT.kept k)).mono ?_
  rintro e w' ⟨⟨v,rfl,hN⟩,kk⟩
  exact⟨v,rfl,hN,kk⟩
 ·refine(int_neg p h1 (by omega) y hy u (hT.kept k)).mono ?_
  rintro e w' ⟨⟨v,rfl,hN⟩,kk⟩
  exact⟨v,rfl,hN,kk⟩
theorem Vz.scale {s Z:Int}{x r:Nm}(h:Vz s Z x)(k:Int)(hr:cfm Z (s+k)=some r):frm x.neg (nv x.mag) (x.exp+k)=some r:=by
 rw[frm_cfm,←hr]
 by_cases hne:x.mag=[]
 ·have hz:Z=0:=by
   rw[←h.val]
   unfold vz
   rw[hne]
   cases x.neg<;>simp[sg,nv]
  rw[hz,hne,show sg x.neg ((nv []:Nat):Int)=0 by cases x.neg<;>rfl,cfm_zero,cfm_zero]
 ·have hl:=h.lies.low hne
  have e:Z=sg x.neg (nv x.mag:Int)*2^(x.exp-s).toNat:=by
   rw[←h.val]
   unfold vz
   cases x.neg<;>simp[sg,Int.neg_mul]
  rw[e,cfm_shift,show s+k+((x.exp-s).toNat:Int)=x.exp+k by omega]
theorem vld_exp (x:Nm)(h:vld x=true):-1048576≤x.exp∧x.exp≤1048576:=by
 obtain⟨n,L,e⟩:=x
 by_cases hL:L=[]
 ·subst hL
  obtain⟨-,rfl⟩:=vld_nil _ _ h
  exact⟨by dsimp only;omega,by dsimp only;omega⟩
 ·obtain⟨p1,p2,p3,p4,p5,p6⟩:=vld_some n L e hL h
  exact⟨p5,p6⟩
theorem sround_any (n:Int)(hn:n=64∨n=32)(x:Nm)(hv:vld x=true)(v1:Value)(w:World)(hT:Tab w)(h1:NumAt w v1 x):Calls Tryz.prog 90 #[v1,.int .i64 n] w fun e w'=>e=.returned (.int .i64 (rzN n 0 x))∧Kept w w':=by
 obtain⟨a1,c1,rfl,s1⟩:=h1.form
 exact sround_walk _ _ _ _ _ n _ 0 _ w (fun u kk=>roundz n 0 hn (.inl rfl) x hv a1 c1 u (hT.kept kk) (s1.kept kk))
end Go.Proofs.YtnniljhdcplkgaaGreatDoor

namespace Go.Proofs.YtnniljhdcplkgaaGreatDoor
open Go.ChangeShapes Go.WideShapes Go.ChangeAt Go.RowKit
set_option maxHeartbeats 16000000
set_option maxRecDepth 100000
set_option linter.unusedVariables false
set_option linter.unusedSimpArgs false
theorem srootq_walk (n1:Bool)(a1:Option Addr)(l1 c1:Nat)(x1:Int)(n2:Bool)(a2:Option Addr)(l2 c2:Nat)(x2:Int)(n s q:Int)(o:Bool)(w:World)
  (KE:Hid (∀u,Kept w u→Calls Tryz.prog 120 #[.agg #[.bool n1,.slice a1 l1 c1,.int .i64 x1],.agg #[.bool n2,.slice a2 l2 c2,.int .i64 x2],.int .i64 n,.int .i64 0] u fun e w'=>e=.returned (.tuple #[.int .i64 s,.bool o,.int .i64 q])∧Kept u w')):
  Calls Tryz.prog 93 #[.agg #[.bool n1,.slice a1 l1 c1,.int .i64 x1],.agg #[.bool n2,.slice a2 l2 c2,.int .i64 x2],.int .i64 n] w fun e w'=>e=.returned (.int .i64 s)∧Kept w w':=by
 obtain⟨X,hX⟩:∃X,X=(w.alloc (.cells #[.bool n1,.slice a1 l1 c1,.int .i64 x1] 43)).alloc (.cells #[.bool n2,.slice a2 l2 c2,.int .i64 x2] 43):=⟨_,rfl⟩
 have hK:Kept w X:=by rw[hX];exact((Kept.refl w).alloc _ _).alloc _ _
 have p00:X.cell? ⟨w.heap.size,0,none⟩=some (.bool n1):=by rw[hX];simp[go_sem]
 have p01:X.cell? ⟨w.heap.size,1,none⟩=some (.slice a1 l1 c1):=by rw[hX];simp[go_sem]
 have p02:X.cell? ⟨w.heap.size,2,none⟩=some (.int .i64 x1):=by rw[hX];simp[go_sem]
 have p10:X.cell? ⟨w.heap.size+1,0,none⟩=some (.bool n2):=by rw[hX];simp[go_sem]
 have p11:X.cell? ⟨w.heap.size+1,1,none⟩=some (.slice a2 l2 c2):=by rw[hX];simp[go_sem]
 have p12:X.cell? ⟨w.heap.size+1,2,none⟩=some (.int .i64 x2):=by rw[hX];simp[go_sem]
 have HP:=(show Hid (X.cell? ⟨w.heap.size,0,none⟩=some (.bool n1)∧X.cell? ⟨w.heap.size,1,none⟩=some (.slice a1 l1 c1)∧X.cell? ⟨w.heap.size,2,none⟩=some (.int .i64 x1)∧X.cell? ⟨w.heap.size+1,0,none⟩=some (.bool n2)∧X.cell? ⟨w.heap.size+1,1,none⟩=some (.slice a2 l2 c2)∧X.cell? ⟨w.heap.size+1,2,none⟩=some (.int .i64 x2))from⟨p00,p01,p02,p10,p11,p12⟩)
 clear p00 p01 p02 p10 p11 p12
 go_enter Tryz.func93,Tryz.ntmps93
 go_upto_region 1 with fail
 rw[←hX]
 clear hX
 obtain⟨p00,p01,p02,p10,p11,p12⟩:=HP.out
 go_wp2_with (first|(go_at_call 120;refine(KE.out _ hK).mono ?_;rintro e w2 ⟨rfl,k2⟩))
 go_ret
 exact⟨rfl,hK.trans k2⟩
end Go.Proofs.YtnniljhdcplkgaaGreatDoor
