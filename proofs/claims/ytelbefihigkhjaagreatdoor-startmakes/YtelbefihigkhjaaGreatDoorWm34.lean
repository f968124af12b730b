/-  -/
import Derived.Test.YtelbefihigkhjaaGreatDoorWm33
import Derived.Test.YtelbefihigkhjaaGreatDoorWm19
import Derived.Test.YtelbefihigkhjaaGreatDoorWm20
import Derived.Test.YtelbefihigkhjaaGreatDoorWm31
import Derived.Test.YtelbefihigkhjaaGreatDoorWm18
import Derived.Test.YtelbefihigkhjaaGreatDoorWm16
namespace Go.Proofs.YtelbefihigkhjaaGreatDoor
open Go.ChangeShapes Go.WideShapes Go.ChangeAt Go.RowKit
set_option maxHeartbeats 16000000
set_option maxRecDepth 100000
set_option linter.unusedVariables false
set_option linter.unusedSimpArgs false
theorem qbt (neg:Bool)(v k:Nat)(x:Int):nrm neg (v*2^k) x=nrm neg v (x+(k:Int)):=by
 by_cases hv:v=0
 ·subst hv
  simp[nrm]
 ·obtain⟨o,ho,e⟩:=zR v hv
  have hp:=qle k
  have hne:v*2^k≠0:=Nat.mul_ne_zero hv (by omega)
  have ht:tzn (v*2^k)=tzn v+k:=by
   have:v*2^k=o*2^(tzn v+k):=by rw[qlg,←qlk,←e]
   rw[this,vd o _ ho]
  have hw:wrap64 (x+((tzn v+k:Nat):Int))=wrap64 (x+(k:Int)+(tzn v:Int)):=by congr 1;push_cast;omega
  have hd:v*2^k/2^(tzn v+k)=v/2^tzn v:=by rw[qlg,Nat.mul_div_mul_right _ _ hp]
  unfold nrm
  rw[if_neg hne,if_neg hv,ht,hw,hd]
theorem qfl (neg:Bool)(v:Nat)(x:Int):Cn (nrm neg v x).mag:=by
 rw[(JC neg v x).2]
 exact Cn.digs _
theorem yR (w:World)(v:Nat)(hv:v≤9223372036854775807):Calls Tryz.prog 122 #[.int .i64 (v:Int)] w fun e w'=>(∃r,e=.returned r∧RNp (qj w.heap.size) w' r (nrm false v 0))∧Kept w w':=by
 have hK:Kept w (qh w):=(qlv w).alloc _ _
 have hl:(digs v).length≤3:=ql v 3 (by omega)
 have KF:Hid (Calls Tryz.prog 193 #[.int .i64 (v:Int)] (qh w) fun e w'=>(∃r,e=.returned r∧RLp (qj (qh w).heap.size) w' r (digs v))∧Kept (qh w) w'):=yY (qh w) v hv
 have KN:Hid (∀u va,Kept (qh w) u→RLp (qj (qh w).heap.size) u va (digs v)→Calls Tryz.prog 192 #[.bool false,va,.int .i64 0] u fun e w'=>(∃r,e=.returned r∧RNp (qj (qh w).heap.size) w' r (nrm false v 0))∧Kept u w'):=fun u va k h=>by
  have:=yo u false (digs v) va h.rl (qL v) (by omega) 0
  rw[qC]at this
  refine this.mono ?_
  rintro e w' ⟨⟨r,rfl,hr⟩,kk⟩
  exact⟨⟨r,rfl,hr.imp (fun b hb=>qlp k.below.size hb)⟩,kk⟩
 have hv0:¬(v:Int)<0:=by omega
 go_enter Tryz.func122,Tryz.ntmps122
 go_wp2_with (first|(go_at_call 193;refine KF.out.mono ?_;rintro e w1 ⟨⟨va,rfl,hva⟩,k1⟩)|(go_at_call 192;refine(KN.out _ _ k1 hva).mono ?_;rintro e w2 ⟨⟨r,rfl,hN⟩,k2⟩;obtain⟨vn,ao,vl,vc,vx,rfl⟩:=hN.shape5;obtain⟨f0,f1,f2,f3⟩:=qI (k1.trans k2)))
 have hd:=(hN.done w.heap.size (fun b hb=>by simp[qj]at hb;omega) (.bool vn) (.slice ao vl vc) (.int .i64 vx)).imp (Q:=qj w.heap.size) (fun b hb=>by simp[qj]at hb ⊢;omega)
 have hkk:=(hK.trans (k1.trans k2)).setCell (p:=⟨w.heap.size,0,none⟩) (qlj _) (.bool vn)|>.setCell (p:=⟨w.heap.size,1,none⟩) (qlj _) (.slice ao vl vc)|>.setCell (p:=⟨w.heap.size,2,none⟩) (qlj _) (.int .i64 vx)
 refine qlu (v:=.agg #[.bool vn,.slice ao vl vc,.int .i64 vx]) (by simp[results,Tryz.results122,go_sem,f0,f1,f2]) rfl ⟨⟨_,rfl,hd⟩,hkk⟩
abbrev qkw:Nm:=⟨false,[],0⟩
theorem qfm (P:Nat→Prop)(w:World):RNp P w jn qkw:=⟨_,rfl,RLp.nil P w⟩
theorem Ym (b n:Int)(hb1:-9223372036854775808≤b)(hb2:b≤9223372036854775807)(hn:n=64∨n=32)(hc:cls b n<3)(w:World):Calls Tryz.prog 115 #[.int .i64 b,.int .i64 n] w fun e w'=>(∃v,e=.returned v∧RNp (qj w.heap.size) w' v (nrm (qT b n) (qx b n).toNat (qE b n)))∧Kept w w':=by
 have hK:Kept w (qh w):=(qlv w).alloc _ _
 have hf:=yA b n hn hc
 have KP:Hid (∀u,Calls Tryz.prog 191 #[.int .i64 b,.int .i64 n] u fun e w'=>e=.returned (.tuple #[.bool (qT b n),.int .i64 (qx b n),.int .i64 (qE b n),.bool true])∧Kept u w'):=fun u=>by
  have:=VS b n hb1 hb2 u
  rw[Jc b n hn hc]at this
  exact this
 have hm53:qx b n<9223372036854775807:=by
  have h1:=hf.2.1
  have h2:(2:Int)^(qH n).toNat≤9007199254740992:=by rcases hn with rfl|rfl<;>decide
  omega
 obtain⟨v,hv⟩:∃v:Nat,qx b n=(v:Int):=⟨(qx b n).toNat,by have:=hf.1;omega⟩
 have hv2:(qx b n).toNat=v:=by omega
 have hv9:v≤9223372036854775807:=by omega
 rw[hv]at KP
 rw[hv2]
 have KF:Hid (∀u,Kept (qh w) u→Calls Tryz.prog 193 #[.int .i64 (v:Int)] u fun e w'=>(∃r,e=.returned r∧RLp (qj (qh w).heap.size) w' r (digs v))∧Kept u w'):=fun u k=>(yY u v hv9).mono (by
  rintro e w' ⟨⟨r,rfl,hr⟩,kk⟩
  exact⟨⟨r,rfl,hr.imp (fun b hb=>qlp k.below.size hb)⟩,kk⟩)
 have hl:(digs v).length≤3:=ql v 3 (by omega)
 have KN:Hid (∀u va,Kept (qh w) u→RLp (qj (qh w).heap.size) u va (digs v)→Calls Tryz.prog 192 #[.bool (qT b n),va,.int .i64 (qE b n)] u fun e w'=>(∃r,e=.returned r∧RNp (qj (qh w).heap.size) w' r (nrm (qT b n) v (qE b n)))∧Kept u w'):=fun u va k h=>by
  have:=yo u (qT b n) (digs v) va h.rl (qL v) (by omega) (qE b n)
  rw[qC]at this
  refine this.mono ?_
  rintro e w' ⟨⟨r,rfl,hr⟩,kk⟩
  exact⟨⟨r,rfl,hr.imp (fun b hb=>qlp k.below.size hb)⟩,kk⟩
 clear hf hm53 hv hv2 hl
 generalize nrm (qT b n) v (qE b n)=NR at *
 generalize qT b n=pn at *
 generalize qE b n=px at *
 go_enter Tryz.func115,Tryz.ntmps115
 go_wp2_with (first|(go_at_call 191;refine(KP.out _).mono ?_;rintro e w1 ⟨rfl,k1⟩)|(go_at_call 193;refine(KF.out _ k1).mono ?_;rintro e w2 ⟨⟨va,rfl,hva⟩,k2⟩)|(go_at_call 192;refine(KN.out _ _ (k1.trans k2) hva).mono ?_;rintro e w3 ⟨⟨r,rfl,hN⟩,k3⟩;obtain⟨vn,ao,vl,vc,vx,rfl⟩:=hN.shape5;obtain⟨f0,f1,f2,f3⟩:=qI (k1.trans (k2.trans k3))))
 have hd:=(hN.done w.heap.size (fun b hb=>by simp[qj]at hb;omega) (.bool vn) (.slice ao vl vc) (.int .i64 vx)).imp (Q:=qj w.heap.size) (fun b hb=>by simp[qj]at hb ⊢;omega)
 have hkk:=(hK.trans (k1.trans (k2.trans k3))).setCell (p:=⟨w.heap.size,0,none⟩) (qlj _) (.bool vn)|>.setCell (p:=⟨w.heap.size,1,none⟩) (qlj _) (.slice ao vl vc)|>.setCell (p:=⟨w.heap.size,2,none⟩) (qlj _) (.int .i64 vx)
 refine qlu (v:=.agg #[.bool vn,.slice ao vl vc,.int .i64 vx]) (by simp[results,Tryz.results115,go_sem,f0,f1,f2]) rfl ⟨⟨_,rfl,hd⟩,hkk⟩
theorem kh (b n:Int)(hb1:-9223372036854775808≤b)(hb2:b≤9223372036854775807)(hn:n=64∨n=32)(hc:cls b n<3)(w:World):Calls Tryz.prog 32 #[.int .i64 b,.int .i64 n] w fun e w'=>(∃v,e=.returned v∧RNp (qj w.heap.size) w' v (nrm (qT b n) (qx b n).toNat (qE b n)))∧Kept w w':=by
 have hK:Kept w (qh w):=(qlv w).alloc _ _
 have KE:Hid (Calls Tryz.prog 115 #[.int .i64 b,.int .i64 n] (qh w) fun e w'=>(∃v,e=.returned v∧RNp (qj (qh w).heap.size) w' v (nrm (qT b n) (qx b n).toNat (qE b n)))∧Kept (qh w) w'):=Ym b n hb1 hb2 hn hc (qh w)
 generalize nrm (qT b n) (qx b n).toNat (qE b n)=NR at *
 go_enter Tryz.func32,Tryz.ntmps32
 go_wp2_with (first|(go_at_call 115;refine KE.out.mono ?_;rintro e w3 ⟨⟨r,rfl,hN⟩,k3⟩;obtain⟨vn,ao,vl,vc,vx,rfl⟩:=hN.shape5;obtain⟨f0,f1,f2,f3⟩:=qI k3))
 have hd:=(hN.done w.heap.size (fun b hb=>by simp[qj]at hb;omega) (.bool vn) (.slice ao vl vc) (.int .i64 vx)).imp (Q:=qj w.heap.size) (fun b hb=>by simp[qj]at hb ⊢;omega)
 have hkk:=(hK.trans k3).setCell (p:=⟨w.heap.size,0,none⟩) (qlj _) (.bool vn)|>.setCell (p:=⟨w.heap.size,1,none⟩) (qlj _) (.slice ao vl vc)|>.setCell (p:=⟨w.heap.size,2,none⟩) (qlj _) (.int .i64 vx)
 refine qlu (v:=.agg #[.bool vn,.slice ao vl vc,.int .i64 vx]) (by simp[results,Tryz.results32,go_sem,f0,f1,f2]) rfl ⟨⟨_,rfl,hd⟩,hkk⟩
theorem Y0 (b n:Int)(hn:n=64∨n=32)(hc:cls b n<3):vld (nrm (qT b n) (qx b n).toNat (qE b n))=true∧ofN b n=nrm (qT b n) (qx b n).toNat (qE b n):=by
 have h1:=Jd b n hn hc
 rw[kJ]at h1
 by_cases h:vld (nrm (qT b n) (qx b n).toNat (qE b n))=true
 ·rw[if_pos h]at h1
  exact⟨h,(Option.some.inj h1).symm⟩
 ·rw[if_neg h]at h1
  cases h1
end Go.Proofs.YtelbefihigkhjaaGreatDoor

namespace Go.Proofs.YtelbefihigkhjaaGreatDoor
open Go.ChangeShapes Go.WideShapes Go.ChangeAt Go.RowKit
set_option maxHeartbeats 16000000
set_option maxRecDepth 100000
set_option linter.unusedVariables false
set_option linter.unusedSimpArgs false
structure N3 (w:World) (b:Nat) (u v x:Value):Prop where
 c0:w.cell? ⟨b,0,none⟩=some u
 c1:w.cell? ⟨b,1,none⟩=some v
 c2:w.cell? ⟨b,2,none⟩=some x
 fz:∀o,w.frozen? ⟨b,o,none⟩=false
theorem N3.new (w:World)(u v x:Value)(t:TypeId):N3 (w.alloc (.cells #[u,v,x] t)) w.heap.size u v x:=⟨by simp[go_sem],by simp[go_sem],by simp[go_sem],fun o=>by simp[go_sem]⟩
theorem N3.lt {w:World}{b:Nat}{u v x:Value}(h:N3 w b u v x):b<w.heap.size:=World.block_lt_of_cell? _ _ h.c0
theorem N3.kept {w w':World}{b:Nat}{u v x:Value}(h:N3 w b u v x)(k:Kept w w'):N3 w' b u v x:=
 ⟨(k.below.cell (p:=⟨b,0,none⟩) h.lt).trans h.c0,(k.below.cell (p:=⟨b,1,none⟩) h.lt).trans h.c1,(k.below.cell (p:=⟨b,2,none⟩) h.lt).trans h.c2,fun o=>(k.frozen _).trans (h.fz o)⟩
theorem N3.alloc {w:World}{b:Nat}{u v x:Value}(h:N3 w b u v x)(c:Array Value)(t:TypeId):N3 (w.alloc (.cells c t)) b u v x:=h.kept ((qlv w).alloc c t)
theorem qeb (b n:Int)(r:Nm)(w:World)
  (KE:Hid (∀u,Kept w u→Calls Tryz.prog 184 #[.int .i64 b,.int .i64 n] u fun e w'=>∃v,e=.returned (.tuple #[v,.int .i64 0])∧New u w' v r∧Kept u w')):
  Calls Tryz.prog 102 #[.int .i64 b,.int .i64 n] w fun e w'=>∃v,e=.returned v∧New w w' v r∧Kept w w':=by
 obtain⟨X,hX⟩:∃X,X=w.alloc (.cells #[.bool false,.slice none 0 0,.int .i64 0] 78):=⟨_,rfl⟩
 have hK:Kept w X:=by rw[hX];exact(qlv w).alloc _ _
 have hXs:X.heap.size=w.heap.size+1:=by rw[hX];simp
 have hP0:N3 X (w.heap.size) (.bool false) (.slice none 0 0) (.int .i64 0):=by
  rw[hX]
  have:=(N3.new (w) (.bool false) (.slice none 0 0) (.int .i64 0) 78)
  simpa using this
 obtain⟨B0,hB0⟩:∃B,B=w.heap.size:=⟨_,rfl⟩
 rw[←hB0]at hP0
 have oB:Hid (w.heap.size≤B0∧B0<X.heap.size):=(show _∧_ from by omega)
 have HR:Hid (∀u,Kept X u→N3 u B0 (.bool false) (.slice none 0 0) (.int .i64 0)):=fun u k=>hP0.kept k
 go_enter Tryz.func102,Tryz.ntmps102
 go_upto_region 1 with fail
 rw[←hX,←hB0]
 clear hX hXs hB0
 obtain⟨p00,p01,p02,p0f⟩:=hP0
 go_wp2_with (first|(go_at_call 184;refine(KE.out _ hK).mono ?_;rintro e w2 ⟨v,rfl,hN,k2⟩;obtain⟨vn,va,vl,vc,vx,rfl⟩:=hN.shape;clear p00 p01 p02 p0f;obtain⟨f0,f1,f2,f3⟩:=HR.out _ k2;have hlt:B0<w2.heap.size:=(HR.out _ k2).lt;have hne:B0≠w2.heap.size:=Nat.ne_of_lt hlt))
 have:=zi B0 oB.out.1 oB.out.2 hK hN k2 (.bool vn) (.slice va vl vc) (.int .i64 vx)
 exact qlu (v:=.agg #[.bool vn,.slice va vl vc,.int .i64 vx]) (by simp[results,Tryz.results102,go_sem,f0,f1,f2,hlt]) rfl ⟨_,rfl,this.1.kept ((qlv _).alloc _ _),this.2.alloc _ _⟩
theorem qaz (n:Int)(r:Nm)(w:World)
  (KE:Hid (∀u,Kept w u→Calls Tryz.prog 253 #[.int .i64 n] u fun e w'=>∃v,e=.returned (v)∧New u w' v r∧Kept u w')):
  Calls Tryz.prog 188 #[.int .i64 n] w fun e w'=>∃v,e=.returned v∧New w w' v r∧Kept w w':=by
 obtain⟨X,hX⟩:∃X,X=w.alloc (.cells #[.bool false,.slice none 0 0,.int .i64 0] 78):=⟨_,rfl⟩
 have hK:Kept w X:=by rw[hX];exact(qlv w).alloc _ _
 have hXs:X.heap.size=w.heap.size+1:=by rw[hX];simp
 have hP0:N3 X (w.heap.size) (.bool false) (.slice none 0 0) (.int .i64 0):=by
  rw[hX]
  have:=(N3.new (w) (.bool false) (.slice none 0 0) (.int .i64 0) 78)
  simpa using this
 obtain⟨B0,hB0⟩:∃B,B=w.heap.size:=⟨_,rfl⟩
 rw[←hB0]at hP0
 have oB:Hid (w.heap.size≤B0∧B0<X.heap.size):=(show _∧_ from by omega)
 have HR:Hid (∀u,Kept X u→N3 u B0 (.bool false) (.slice none 0 0) (.int .i64 0)):=fun u k=>hP0.kept k
 go_enter Tryz.func188,Tryz.ntmps188
 go_upto_region 1 with fail
 rw[←hX,←hB0]
 clear hX hXs hB0
 obtain⟨p00,p01,p02,p0f⟩:=hP0
 go_wp2_with (first|(go_at_call 253;refine(KE.out _ hK).mono ?_;rintro e w2 ⟨v,rfl,hN,k2⟩;obtain⟨vn,va,vl,vc,vx,rfl⟩:=hN.shape;clear p00 p01 p02 p0f;obtain⟨f0,f1,f2,f3⟩:=HR.out _ k2;have hlt:B0<w2.heap.size:=(HR.out _ k2).lt;have hne:B0≠w2.heap.size:=Nat.ne_of_lt hlt))
 have:=zi B0 oB.out.1 oB.out.2 hK hN k2 (.bool vn) (.slice va vl vc) (.int .i64 vx)
 exact qlu (v:=.agg #[.bool vn,.slice va vl vc,.int .i64 vx]) (by simp[results,Tryz.results188,go_sem,f0,f1,f2,hlt]) rfl ⟨_,rfl,this.1,this.2⟩
theorem qa0 (n1:Bool)(a1:Option Addr)(l1 c1:Nat)(x1:Int)(n2:Bool)(a2:Option Addr)(l2 c2:Nat)(x2:Int)(r:Nm)(w:World)
  (KE:Hid (∀u,Kept w u→Calls Tryz.prog 186 #[.agg #[.bool n1,.slice a1 l1 c1,.int .i64 x1],.agg #[.bool n2,.slice a2 l2 c2,.int .i64 x2]] u fun e w'=>∃v,e=.returned (.tuple #[v,.int .i64 0])∧New u w' v r∧Kept u w')):
  Calls Tryz.prog 105 #[.agg #[.bool n1,.slice a1 l1 c1,.int .i64 x1],.agg #[.bool n2,.slice a2 l2 c2,.int .i64 x2]] w fun e w'=>∃v,e=.returned v∧New w w' v r∧Kept w w':=by
 obtain⟨X,hX⟩:∃X,X=((w.alloc (.cells #[.bool n1,.slice a1 l1 c1,.int .i64 x1] 78)).alloc (.cells #[.bool n2,.slice a2 l2 c2,.int .i64 x2] 78)).alloc (.cells #[.bool false,.slice none 0 0,.int .i64 0] 78):=⟨_,rfl⟩
 have hK:Kept w X:=by rw[hX];exact(((qlv w).alloc _ _).alloc _ _).alloc _ _
 have hXs:X.heap.size=w.heap.size+3:=by rw[hX];simp
 have hP0:N3 X (w.heap.size) (.bool n1) (.slice a1 l1 c1) (.int .i64 x1):=by
  rw[hX]
  have:=(((N3.new (w) (.bool n1) (.slice a1 l1 c1) (.int .i64 x1) 78).alloc #[.bool n2,.slice a2 l2 c2,.int .i64 x2] 78).alloc #[.bool false,.slice none 0 0,.int .i64 0] 78)
  simpa using this
 have hP1:N3 X (w.heap.size+1) (.bool n2) (.slice a2 l2 c2) (.int .i64 x2):=by
  rw[hX]
  have:=((N3.new (w.alloc (.cells #[.bool n1,.slice a1 l1 c1,.int .i64 x1] 78)) (.bool n2) (.slice a2 l2 c2) (.int .i64 x2) 78).alloc #[.bool false,.slice none 0 0,.int .i64 0] 78)
  simpa using this
 have hP2:N3 X (w.heap.size+1+1) (.bool false) (.slice none 0 0) (.int .i64 0):=by
  rw[hX]
  have:=(N3.new ((w.alloc (.cells #[.bool n1,.slice a1 l1 c1,.int .i64 x1] 78)).alloc (.cells #[.bool n2,.slice a2 l2 c2,.int .i64 x2] 78)) (.bool false) (.slice none 0 0) (.int .i64 0) 78)
  simpa using this
 obtain⟨B0,hB0⟩:∃B,B=w.heap.size:=⟨_,rfl⟩
 obtain⟨B1,hB1⟩:∃B,B=B0+1:=⟨_,rfl⟩
 obtain⟨B2,hB2⟩:∃B,B=B1+1:=⟨_,rfl⟩
 rw[←hB0]at hP0
 rw[←hB0,←hB1]at hP1
 rw[←hB0,←hB1,←hB2]at hP2
 have oB:Hid (w.heap.size≤B0∧B0<X.heap.size∧w.heap.size≤B1∧B1<X.heap.size∧w.heap.size≤B2∧B2<X.heap.size):=(show _∧_∧_∧_∧_∧_ from by omega)
 have HR:Hid (∀u,Kept X u→N3 u B2 (.bool false) (.slice none 0 0) (.int .i64 0)):=fun u k=>hP2.kept k
 go_enter Tryz.func105,Tryz.ntmps105
 go_upto_region 1 with fail
 rw[←hX,←hB0,←hB1,←hB2]
 clear hX hXs hB0 hB1 hB2
 obtain⟨p00,p01,p02,p0f⟩:=hP0
 obtain⟨p10,p11,p12,p1f⟩:=hP1
 obtain⟨p20,p21,p22,p2f⟩:=hP2
 go_wp2_with (first|(go_at_call 186;refine(KE.out _ hK).mono ?_;rintro e w2 ⟨v,rfl,hN,k2⟩;obtain⟨vn,va,vl,vc,vx,rfl⟩:=hN.shape;clear p00 p01 p02 p0f;clear p10 p11 p12 p1f;clear p20 p21 p22 p2f;obtain⟨f0,f1,f2,f3⟩:=HR.out _ k2;have hlt:B2<w2.heap.size:=(HR.out _ k2).lt;have hne:B2≠w2.heap.size:=Nat.ne_of_lt hlt))
 have:=zi B2 oB.out.2.2.2.2.1 oB.out.2.2.2.2.2 hK hN k2 (.bool vn) (.slice va vl vc) (.int .i64 vx)
 exact qlu (v:=.agg #[.bool vn,.slice va vl vc,.int .i64 vx]) (by simp[results,Tryz.results105,go_sem,f0,f1,f2,hlt]) rfl ⟨_,rfl,this.1.kept ((qlv _).alloc _ _),this.2.alloc _ _⟩
theorem qa1 (n1:Bool)(a1:Option Addr)(l1 c1:Nat)(x1:Int)(n2:Bool)(a2:Option Addr)(l2 c2:Nat)(x2:Int)(r:Nm)(w:World)
  (KE:Hid (∀u,Kept w u→Calls Tryz.prog 185 #[.agg #[.bool n1,.slice a1 l1 c1,.int .i64 x1],.agg #[.bool n2,.slice a2 l2 c2,.int .i64 x2]] u fun e w'=>∃v,e=.returned (.tuple #[v,.int .i64 0])∧New u w' v r∧Kept u w')):
  Calls Tryz.prog 103 #[.agg #[.bool n1,.slice a1 l1 c1,.int .i64 x1],.agg #[.bool n2,.slice a2 l2 c2,.int .i64 x2]] w fun e w'=>∃v,e=.returned v∧New w w' v r∧Kept w w':=by
 obtain⟨X,hX⟩:∃X,X=((w.alloc (.cells #[.bool n1,.slice a1 l1 c1,.int .i64 x1] 78)).alloc (.cells #[.bool n2,.slice a2 l2 c2,.int .i64 x2] 78)).alloc (.cells #[.bool false,.slice none 0 0,.int .i64 0] 78):=⟨_,rfl⟩
 have hK:Kept w X:=by rw[hX];exact(((qlv w).alloc _ _).alloc _ _).alloc _ _
 have hXs:X.heap.size=w.heap.size+3:=by rw[hX];simp
 have hP0:N3 X (w.heap.size) (.bool n1) (.slice a1 l1 c1) (.int .i64 x1):=by
  rw[hX]
  have:=(((N3.new (w) (.bool n1) (.slice a1 l1 c1) (.int .i64 x1) 78).alloc #[.bool n2,.slice a2 l2 c2,.int .i64 x2] 78).alloc #[.bool false,.slice none 0 0,.int .i64 0] 78)
  simpa using this
 have hP1:N3 X (w.heap.size+1) (.bool n2) (.slice a2 l2 c2) (.int .i64 x2):=by
  rw[hX]
  have:=((N3.new (w.alloc (.cells #[.bool n1,.slice a1 l1 c1,.int .i64 x1] 78)) (.bool n2) (.slice a2 l2 c2) (.int .i64 x2) 78).alloc #[.bool false,.slice none 0 0,.int .i64 0] 78)
  simpa using this
 have hP2:N3 X (w.heap.size+1+1) (.bool false) (.slice none 0 0) (.int .i64 0):=by
  rw[hX]
  have:=(N3.new ((w.alloc (.cells #[.bool n1,.slice a1 l1 c1,.int .i64 x1] 78)).alloc (.cells #[.bool n2,.slice a2 l2 c2,.int .i64 x2] 78)) (.bool false) (.slice none 0 0) (.int .i64 0) 78)
  simpa using this
 obtain⟨B0,hB0⟩:∃B,B=w.heap.size:=⟨_,rfl⟩
 obtain⟨B1,hB1⟩:∃B,B=B0+1:=⟨_,rfl⟩
 obtain⟨B2,hB2⟩:∃B,B=B1+1:=⟨_,rfl⟩
 rw[←hB0]at hP0
 rw[←hB0,←hB1]at hP1
 rw[←hB0,←hB1,←hB2]at hP2
 have oB:Hid (w.heap.size≤B0∧B0<X.heap.size∧w.heap.size≤B1∧B1<X.heap.size∧w.heap.size≤B2∧B2<X.heap.size):=(show _∧_∧_∧_∧_∧_ from by omega)
 have HR:Hid (∀u,Kept X u→N3 u B2 (.bool false) (.slice none 0 0) (.int .i64 0)):=fun u k=>hP2.kept k
 go_enter Tryz.func103,Tryz.ntmps103
 go_upto_region 1 with fail
 rw[←hX,←hB0,←hB1,←hB2]
 clear hX hXs hB0 hB1 hB2
 obtain⟨p00,p01,p02,p0f⟩:=hP0
 obtain⟨p10,p11,p12,p1f⟩:=hP1
 obtain⟨p20,p21,p22,p2f⟩:=hP2
 go_wp2_with (first|(go_at_call 185;refine(KE.out _ hK).mono ?_;rintro e w2 ⟨v,rfl,hN,k2⟩;obtain⟨vn,va,vl,vc,vx,rfl⟩:=hN.shape;clear p00 p01 p02 p0f;clear p10 p11 p12 p1f;clear p20 p21 p22 p2f;obtain⟨f0,f1,f2,f3⟩:=HR.out _ k2;have hlt:B2<w2.heap.size:=(HR.out _ k2).lt;have hne:B2≠w2.heap.size:=Nat.ne_of_lt hlt))
 have:=zi B2 oB.out.2.2.2.2.1 oB.out.2.2.2.2.2 hK hN k2 (.bool vn) (.slice va vl vc) (.int .i64 vx)
 exact qlu (v:=.agg #[.bool vn,.slice va vl vc,.int .i64 vx]) (by simp[results,Tryz.results103,go_sem,f0,f1,f2,hlt]) rfl ⟨_,rfl,this.1.kept ((qlv _).alloc _ _),this.2.alloc _ _⟩
theorem qa2 (n1:Bool)(a1:Option Addr)(l1 c1:Nat)(x1:Int)(n2:Bool)(a2:Option Addr)(l2 c2:Nat)(x2:Int)(r:Nm)(w:World)
  (KE:Hid (∀u,Kept w u→Calls Tryz.prog 235 #[.agg #[.bool n1,.slice a1 l1 c1,.int .i64 x1],.agg #[.bool n2,.slice a2 l2 c2,.int .i64 x2]] u fun e w'=>∃v,e=.returned (.tuple #[v,.int .i64 0])∧New u w' v r∧Kept u w')):
  Calls Tryz.prog 165 #[.agg #[.bool n1,.slice a1 l1 c1,.int .i64 x1],.agg #[.bool n2,.slice a2 l2 c2,.int .i64 x2]] w fun e w'=>∃v,e=.returned v∧New w w' v r∧Kept w w':=by
 obtain⟨X,hX⟩:∃X,X=((w.alloc (.cells #[.bool n1,.slice a1 l1 c1,.int .i64 x1] 78)).alloc (.cells #[.bool n2,.slice a2 l2 c2,.int .i64 x2] 78)).alloc (.cells #[.bool false,.slice none 0 0,.int .i64 0] 78):=⟨_,rfl⟩
 have hK:Kept w X:=by rw[hX];exact(((qlv w).alloc _ _).alloc _ _).alloc _ _
 have hXs:X.heap.size=w.heap.size+3:=by rw[hX];simp
 have hP0:N3 X (w.heap.size) (.bool n1) (.slice a1 l1 c1) (.int .i64 x1):=by
  rw[hX]
  have:=(((N3.new (w) (.bool n1) (.slice a1 l1 c1) (.int .i64 x1) 78).alloc #[.bool n2,.slice a2 l2 c2,.int .i64 x2] 78).alloc #[.bool false,.slice none 0 0,.int .i64 0] 78)
  simpa using this
 have hP1:N3 X (w.heap.size+1) (.bool n2) (.slice a2 l2 c2) (.int .i64 x2):=by
  rw[hX]
  have:=((N3.new (w.alloc (.cells #[.bool n1,.slice a1 l1 c1,.int .i64 x1] 78)) (.bool n2) (.slice a2 l2 c2) (.int .i64 x2) 78).alloc #[.bool false,.slice none 0 0,.int .i64 0] 78)
  simpa using this
 have hP2:N3 X (w.heap.size+1+1) (.bool false) (.slice none 0 0) (.int .i64 0):=by
  rw[hX]
  have:=(N3.new ((w.alloc (.cells #[.bool n1,.slice a1 l1 c1,.int .i64 x1] 78)).alloc (.cells #[.bool n2,.slice a2 l2 c2,.int .i64 x2] 78)) (.bool false) (.slice none 0 0) (.int .i64 0) 78)
  simpa using this
 obtain⟨B0,hB0⟩:∃B,B=w.heap.size:=⟨_,rfl⟩
 obtain⟨B1,hB1⟩:∃B,B=B0+1:=⟨_,rfl⟩
 obtain⟨B2,hB2⟩:∃B,B=B1+1:=⟨_,rfl⟩
 rw[←hB0]at hP0
 rw[←hB0,←hB1]at hP1
 rw[←hB0,←hB1,←hB2]at hP2
 have oB:Hid (w.heap.size≤B0∧B0<X.heap.size∧w.heap.size≤B1∧B1<X.heap.size∧w.heap.size≤B2∧B2<X.heap.size):=(show _∧_∧_∧_∧_∧_ from by omega)
 have HR:Hid (∀u,Kept X u→N3 u B2 (.bool false) (.slice none 0 0) (.int .i64 0)):=fun u k=>hP2.kept k
 go_enter Tryz.func165,Tryz.ntmps165
 go_upto_region 1 with fail
 rw[←hX,←hB0,←hB1,←hB2]
 clear hX hXs hB0 hB1 hB2
 obtain⟨p00,p01,p02,p0f⟩:=hP0
 obtain⟨p10,p11,p12,p1f⟩:=hP1
 obtain⟨p20,p21,p22,p2f⟩:=hP2
 go_wp2_with (first|(go_at_call 235;refine(KE.out _ hK).mono ?_;rintro e w2 ⟨v,rfl,hN,k2⟩;obtain⟨vn,va,vl,vc,vx,rfl⟩:=hN.shape;clear p00 p01 p02 p0f;clear p10 p11 p12 p1f;clear p20 p21 p22 p2f;obtain⟨f0,f1,f2,f3⟩:=HR.out _ k2;have hlt:B2<w2.heap.size:=(HR.out _ k2).lt;have hne:B2≠w2.heap.size:=Nat.ne_of_lt hlt))
 have:=zi B2 oB.out.2.2.2.2.1 oB.out.2.2.2.2.2 hK hN k2 (.bool vn) (.slice va vl vc) (.int .i64 vx)
 exact qlu (v:=.agg #[.bool vn,.slice va vl vc,.int .i64 vx]) (by simp[results,Tryz.results165,go_sem,f0,f1,f2,hlt]) rfl ⟨_,rfl,this.1.kept ((qlv _).alloc _ _),this.2.alloc _ _⟩
theorem XG (n1:Bool)(a1:Option Addr)(l1 c1:Nat)(x1:Int)(k:Int)(r:Nm)(w:World)
  (KE:Hid (∀u,Kept w u→Calls Tryz.prog 252 #[.agg #[.bool n1,.slice a1 l1 c1,.int .i64 x1],.int .i64 k] u fun e w'=>∃v,e=.returned (.tuple #[v,.int .i64 0])∧New u w' v r∧Kept u w')):
  Calls Tryz.prog 187 #[.agg #[.bool n1,.slice a1 l1 c1,.int .i64 x1],.int .i64 k] w fun e w'=>∃v,e=.returned v∧New w w' v r∧Kept w w':=by
 obtain⟨X,hX⟩:∃X,X=(w.alloc (.cells #[.bool n1,.slice a1 l1 c1,.int .i64 x1] 78)).alloc (.cells #[.bool false,.slice none 0 0,.int .i64 0] 78):=⟨_,rfl⟩
 have hK:Kept w X:=by rw[hX];exact((qlv w).alloc _ _).alloc _ _
 have hXs:X.heap.size=w.heap.size+2:=by rw[hX];simp
 have hP0:N3 X (w.heap.size) (.bool n1) (.slice a1 l1 c1) (.int .i64 x1):=by
  rw[hX]
  have:=((N3.new (w) (.bool n1) (.slice a1 l1 c1) (.int .i64 x1) 78).alloc #[.bool false,.slice none 0 0,.int .i64 0] 78)
  simpa using this
 have hP1:N3 X (w.heap.size+1) (.bool false) (.slice none 0 0) (.int .i64 0):=by
  rw[hX]
  have:=(N3.new (w.alloc (.cells #[.bool n1,.slice a1 l1 c1,.int .i64 x1] 78)) (.bool false) (.slice none 0 0) (.int .i64 0) 78)
  simpa using this
 obtain⟨B0,hB0⟩:∃B,B=w.heap.size:=⟨_,rfl⟩
 obtain⟨B1,hB1⟩:∃B,B=B0+1:=⟨_,rfl⟩
 rw[←hB0]at hP0
 rw[←hB0,←hB1]at hP1
 have oB:Hid (w.heap.size≤B0∧B0<X.heap.size∧w.heap.size≤B1∧B1<X.heap.size):=(show _∧_∧_∧_ from by omega)
 have HR:Hid (∀u,Kept X u→N3 u B1 (.bool false) (.slice none 0 0) (.int .i64 0)):=fun u k=>hP1.kept k
 go_enter Tryz.func187,Tryz.ntmps187
 go_upto_region 1 with fail
 rw[←hX,←hB0,←hB1]
 clear hX hXs hB0 hB1
 obtain⟨p00,p01,p02,p0f⟩:=hP0
 obtain⟨p10,p11,p12,p1f⟩:=hP1
 go_wp2_with (first|(go_at_call 252;refine(KE.out _ hK).mono ?_;rintro e w2 ⟨v,rfl,hN,k2⟩;obtain⟨vn,va,vl,vc,vx,rfl⟩:=hN.shape;clear p00 p01 p02 p0f;clear p10 p11 p12 p1f;obtain⟨f0,f1,f2,f3⟩:=HR.out _ k2;have hlt:B1<w2.heap.size:=(HR.out _ k2).lt;have hne:B1≠w2.heap.size:=Nat.ne_of_lt hlt))
 have:=zi B1 oB.out.2.2.1 oB.out.2.2.2 hK hN k2 (.bool vn) (.slice va vl vc) (.int .i64 vx)
 exact qlu (v:=.agg #[.bool vn,.slice va vl vc,.int .i64 vx]) (by simp[results,Tryz.results187,go_sem,f0,f1,f2,hlt]) rfl ⟨_,rfl,this.1.kept ((qlv _).alloc _ _),this.2.alloc _ _⟩
theorem XH (n1:Bool)(a1:Option Addr)(l1 c1:Nat)(x1:Int)(n s q:Int)(o:Bool)(w:World)
  (KE:Hid (∀u,Kept w u→Calls Tryz.prog 181 #[.agg #[.bool n1,.slice a1 l1 c1,.int .i64 x1],.int .i64 n,.int .i64 0] u fun e w'=>e=.returned (.tuple #[.int .i64 s,.bool o,.int .i64 q])∧Kept u w')):
  Calls Tryz.prog 100 #[.agg #[.bool n1,.slice a1 l1 c1,.int .i64 x1],.int .i64 n] w fun e w'=>e=.returned (.int .i64 s)∧Kept w w':=by
 obtain⟨X,hX⟩:∃X,X=w.alloc (.cells #[.bool n1,.slice a1 l1 c1,.int .i64 x1] 78):=⟨_,rfl⟩
 have hK:Kept w X:=by rw[hX];exact(qlv w).alloc _ _
 have hXs:X.heap.size=w.heap.size+1:=by rw[hX];simp
 have hP0:N3 X (w.heap.size) (.bool n1) (.slice a1 l1 c1) (.int .i64 x1):=by
  rw[hX]
  have:=(N3.new (w) (.bool n1) (.slice a1 l1 c1) (.int .i64 x1) 78)
  simpa using this
 obtain⟨B0,hB0⟩:∃B,B=w.heap.size:=⟨_,rfl⟩
 rw[←hB0]at hP0
 have oB:Hid (w.heap.size≤B0∧B0<X.heap.size):=(show _∧_ from by omega)
 go_enter Tryz.func100,Tryz.ntmps100
 go_upto_region 1 with fail
 rw[←hX,←hB0]
 clear hX hXs hB0
 obtain⟨p00,p01,p02,p0f⟩:=hP0
 go_wp2_with (first|(go_at_call 181;refine(KE.out _ hK).mono ?_;rintro e w2 ⟨rfl,k2⟩))
 go_ret
 exact⟨rfl,hK.trans k2⟩
end Go.Proofs.YtelbefihigkhjaaGreatDoor

namespace Go.Proofs.YtelbefihigkhjaaGreatDoor
open Go.ChangeShapes Go.WideShapes Go.ChangeAt Go.RowKit
set_option maxHeartbeats 16000000
set_option maxRecDepth 100000
set_option linter.unusedVariables false
set_option linter.unusedSimpArgs false
theorem qgd (n:Int)(h0:-9223372036854775808≤n)(h1:n<0)(r:Nm)(hf:frm (decide (n<0)) n.natAbs 0=some r)(w:World)(hT:Tab w):Calls Tryz.prog 253 #[.int .i64 n] w fun e w'=>(∃v,e=.returned v∧New w w' v r)∧Kept w w':=by
 have hK:Kept w (qh w):=(qlv w).alloc _ _
 obtain⟨s,hs⟩:∃s:Int,s=(n.natAbs:Int):=⟨_,rfl⟩
 have hs1:0≤s∧s≤9223372036854775808:=by omega
 have hw1:IntKind.u64.wrap n=if n<0 then n+18446744073709551616 else n:=by rw[IntKind.wrap_u64];split<;>omega
 have KD:Hid (Calls Tryz.prog 247 #[.int .u64 s] (qh w) fun e w'=>e=.returned (.slice (some ⟨(qh w).heap.size,0,none⟩) 3 3)∧w'=(qh w).alloc (.cells #[.int .i64 (s%1073741824),.int .i64 (s/1073741824%1073741824),.int .i64 (s/1152921504606846976)] 3)):=jY s hs1.1 (by omega) (qh w)
 have hO:=yu (qh w) (s%1073741824) (s/1073741824%1073741824) (s/1152921504606846976)
 have hDg:Dg [s%1073741824,s/1073741824%1073741824,s/1152921504606846976]:=Dg.cons (by omega) (by omega) (Dg.cons (by omega) (by omega) (Dg.cons (by omega) (by omega) Dg.nil))
 have hnv:nv [s%1073741824,s/1073741824%1073741824,s/1152921504606846976]=n.natAbs:=by
  show(s%1073741824).toNat+1073741824*((s/1073741824%1073741824).toNat+1073741824*((s/1152921504606846976).toNat+1073741824*0))=n.natAbs
  omega
 have hK2:Kept (qh w) ((qh w).alloc (.cells #[.int .i64 (s%1073741824),.int .i64 (s/1073741824%1073741824),.int .i64 (s/1152921504606846976)] 3)):=(qlv _).alloc _ _
 have KF:Hid (Calls Tryz.prog 246 #[.bool (decide (n<0)),.slice (some ⟨(qh w).heap.size,0,none⟩) 3 3,.int .i64 0] ((qh w).alloc (.cells #[.int .i64 (s%1073741824),.int .i64 (s/1073741824%1073741824),.int .i64 (s/1152921504606846976)] 3)) fun e w'=>(∃v,e=.returned v∧New (qh w) w' v r)∧Kept (qh w) w'):=x6 _ _ hDg (by simp) _ 3 0 (qh w) _ hK2 (qlj _) hO (hT.kept (hK.trans hK2)) r (by rw[hnv];exact hf)
 clear hO hDg hnv hf hT
 simp only[World.size_alloc]at KD KF
 rw[if_pos h1]at hw1
 have hw2:IntKind.u64.wrap (-(n+18446744073709551616))=s:=by rw[IntKind.wrap_u64];omega
 rw[qln h1]at KF
 clear hs hs1
 go_enter Tryz.func253,Tryz.ntmps253
 go_wp2_with (first|(go_at_call 247;refine KD.out.mono ?_;rintro e w1 ⟨rfl,rfl⟩)|(go_at_call 246;refine KF.out.mono ?_;rintro e w2 ⟨⟨v,rfl,hN⟩,hk1⟩;obtain⟨vn,va,vl,vc,vx,rfl⟩:=hN.shape;obtain⟨f0,f1,f2,f3⟩:=qI hk1))
 have:=zj hN hk1 (.bool vn) (.slice va vl vc) (.int .i64 vx)
 exact qlu (v:=.agg #[.bool vn,.slice va vl vc,.int .i64 vx]) (by simp[results,Tryz.results253,go_sem,f0,f1,f2]) rfl ⟨⟨_,rfl,this.1⟩,this.2⟩
end Go.Proofs.YtelbefihigkhjaaGreatDoor
