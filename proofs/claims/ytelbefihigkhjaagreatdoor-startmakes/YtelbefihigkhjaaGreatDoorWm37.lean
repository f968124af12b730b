/-  -/
import Derived.Test.YtelbefihigkhjaaGreatDoorWm36
import Derived.Test.YtelbefihigkhjaaGreatDoorWm35
import Derived.Test.YtelbefihigkhjaaGreatDoorWm06
namespace Go.Proofs.YtelbefihigkhjaaGreatDoor
open Go.ChangeShapes Go.WideShapes Go.ChangeAt Go.RowKit
set_option maxHeartbeats 16000000
set_option maxRecDepth 100000
set_option linter.unusedVariables false
set_option linter.unusedSimpArgs false
theorem J6 (V m r:Nat)(hm:m=V/2048)(hr:r<9218868437227405312)(h:FloatKind.f64.format.mul (floatOfInt .f64 (m:Int)) 4368491638549381120=some r)(w:World):Calls Tryz.prog 243 #[.int .u64 V,.int .i64 64] w fun e w'=>e=.returned (.int .i64 r)∧w=w':=by
 have e1:(V:Int)/2048=(m:Int):=by rw[hm];rfl
 clear hm
 obtain⟨X,hX⟩:∃X,floatOfInt .f64 (m:Int)=X:=⟨_,rfl⟩
 rw[hX]at h
 have hx:∀wx:World,(binOp .mul 190 (.float .f64 X) (.float .f64 4368491638549381120)).run Tryz.prog wx=.ok (.float .f64 r) wx:=fun wx=>run_float_arith wx .mul 190 .f64 X 4368491638549381120 r h
 clear h
 have HO:Hid (∀u,Calls Tryz.prog 150 #[.float .f64 r] u fun e w'=>e=.returned (.int .i64 r)∧u=w'):=fun u=>by
  have:=XW r u
  rw[qiz r hr]at this
  exact this
 go_enter Tryz.func243,Tryz.ntmps243
 go_wp2_with (first|(go_at_call 150;refine(HO.out _).mono ?_;rintro e w1 ⟨rfl,rfl⟩))
 go_ret
 exact⟨rfl,rfl⟩
theorem Vv (s t a:Int)(r:Nat)(hr:r<9218868437227405312)(h:FloatKind.f64.format.mul (floatOfInt .f64 ((wn s t a/2048:Nat):Int)) 4368491638549381120=some r)(w:World):Calls Tryz.prog 183 #[.agg #[.int .i64 s,.int .i64 t,.int .i64 a],.int .i64 64] w fun e w'=>e=.returned (.tuple #[.int .i64 r,.agg #[.int .i64 s,.int .i64 t,.int .i64 (wrap64 (a+1))],.int .i64 0])∧Kept w w':=by
 have hA:=(qlv w).alloc #[.int .i64 s,.int .i64 t,.int .i64 a] 72
 have hB:=(qlv (w.alloc (.cells #[.int .i64 s,.int .i64 t,.int .i64 a] 72))).alloc #[.int .i64 0,.int .i64 0,.int .i64 0] 72
 have d1:=(j9 w s t a 72).kept hB
 have d2:=(j9 (w.alloc (.cells #[.int .i64 s,.int .i64 t,.int .i64 a] 72)) 0 0 0 72)
 rw[show(w.alloc (.cells #[.int .i64 s,.int .i64 t,.int .i64 a] 72)).heap.size=w.heap.size+1 by simp]at d2
 have hW0:=hA.trans hB
 clear hA hB
 obtain⟨Z,hZ⟩:∃Z,Z=wz s t a:=⟨_,rfl⟩
 obtain⟨P,hP⟩:∃P,P=wrap64 (a+1):=⟨_,rfl⟩
 obtain⟨V,hV⟩:∃V:Nat,V=wn s t a:=⟨_,rfl⟩
 have u1:IntKind.u64.wrap Z=(V:Int):=by rw[hZ,hV,qke]
 have HN:Hid (∀u,Calls Tryz.prog 242 #[.agg #[.int .i64 s,.int .i64 t,.int .i64 a]] u fun e w'=>e=.returned (.tuple #[.int .i64 Z,.agg #[.int .i64 s,.int .i64 t,.int .i64 P]])∧Kept u w'):=fun u=>by rw[hZ,hP];exact K7 s t a u
 have HF:Hid (∀u,Calls Tryz.prog 243 #[.int .u64 V,.int .i64 64] u fun e w'=>e=.returned (.int .i64 r)∧u=w'):=fun u=>J6 V _ r (by rw[hV]) hr h u
 rw[←hP]
 clear hZ hP hV h
 go_enter Tryz.func183,Tryz.ntmps183
 go_upto_region 1 with fail
 obtain⟨X,hX⟩:∃X,X=(w.alloc (.cells #[.int .i64 s,.int .i64 t,.int .i64 a] 72)).alloc (.cells #[.int .i64 0,.int .i64 0,.int .i64 0] 72):=⟨_,rfl⟩
 rw[←hX]at d1 d2 hW0 ⊢
 clear hX
 have D1:=d1
 obtain⟨⟨c0,c1,c2⟩,f1⟩:=D1
 go_wp2_with (first|(go_at_call 162;refine(kM _ _).mono ?_;rintro e w1 ⟨rfl,rfl⟩))
 refine(HN.out _).mono ?_
 rintro e w1 ⟨rfl,hk1⟩
 clear c0 c1 c2 f1
 have g1:=d1.kept hk1
 have g2:=d2.kept hk1
 have hK:=hW0.trans hk1
 have G1':=g1
 obtain⟨⟨c0,c1,c2⟩,f1⟩:=G1'
 go_upto_region 4 with fail
 clear c0 c1 c2 f1
 have k1:=g1.put s t P
 have k2:=g2.far3 w.heap.size (by simp) (.int .i64 s) (.int .i64 t) (.int .i64 P)
 have k3:=hK.put3 w.heap.size (qlj _) (.int .i64 s) (.int .i64 t) (.int .i64 P)
 obtain⟨Y,hY⟩:∃Y,Y=put3 w1 w.heap.size (.int .i64 s) (.int .i64 t) (.int .i64 P):=⟨_,rfl⟩
 rw[←hY]at k1 k2 k3
 unfold put3 at hY
 rw[←hY]
 clear hY g1 g2 hK d1 d2 hW0 hk1
 obtain⟨⟨c0,c1,c2⟩,f1⟩:=k1
 obtain⟨⟨c3,c4,c5⟩,f2⟩:=k2
 go_region_held (fun u=>Kept w u∧u.cell? ⟨w.heap.size,0,none⟩=some (.int .i64 s)∧u.cell? ⟨w.heap.size,1,none⟩=some (.int .i64 t)∧u.cell? ⟨w.heap.size,2,none⟩=some (.int .i64 P)) (first|exact⟨k3.drew,c0,c1,c2⟩|assumption|exact xB k3 (by simp) (by simp) ⟨c0,c1,c2⟩ _ _ _) (first|(go_at_call 243;refine(HF.out _).mono ?_;rintro e w1 ⟨rfl,rfl⟩))
 go_wp2
 exact qlu (v:=.tuple #[.int .i64 r,.agg #[.int .i64 s,.int .i64 t,.int .i64 P],.int .i64 0]) (by simp[results,Tryz.results183,go_sem, *]) rfl ⟨rfl,(xB k3 (by simp) (by simp) ⟨c0,c1,c2⟩ _ _ _).1⟩
theorem J7 (s t a:Int)(r:Nat)(h:∀w:World,Calls Tryz.prog 124 #[.bool false,.int .i64 ((wn s t a/2048:Nat):Int),.int .i64 (-53),.int .i64 64] w fun e w'=>∃g,e=.returned (.tuple #[.int .i64 r,.bool g])∧Kept w w')(w:World):Calls Tryz.prog 36 #[.agg #[.int .i64 s,.int .i64 t,.int .i64 a],.int .i64 64] w fun e w'=>e=.returned (.tuple #[.int .i64 r,.agg #[.int .i64 s,.int .i64 t,.int .i64 (wrap64 (a+1))]])∧Kept w w':=by
 have hA:=(qlv w).alloc #[.int .i64 s,.int .i64 t,.int .i64 a] 72
 have hB:=(qlv (w.alloc (.cells #[.int .i64 s,.int .i64 t,.int .i64 a] 72))).alloc #[.int .i64 0,.int .i64 0,.int .i64 0] 72
 have d1:=(j9 w s t a 72).kept hB
 have d2:=(j9 (w.alloc (.cells #[.int .i64 s,.int .i64 t,.int .i64 a] 72)) 0 0 0 72)
 rw[show(w.alloc (.cells #[.int .i64 s,.int .i64 t,.int .i64 a] 72)).heap.size=w.heap.size+1 by simp]at d2
 have hW0:=hA.trans hB
 clear hA hB
 obtain⟨Z,hZ⟩:∃Z,Z=wz s t a:=⟨_,rfl⟩
 obtain⟨P,hP⟩:∃P,P=wrap64 (a+1):=⟨_,rfl⟩
 obtain⟨V,hV⟩:∃V:Nat,V=wn s t a:=⟨_,rfl⟩
 have u1:IntKind.u64.wrap Z=(V:Int):=by rw[hZ,hV,qke]
 have hV64:V<18446744073709551616:=by rw[hV];exact qc0 _ _ _
 have HN:Hid (∀u,Calls Tryz.prog 123 #[.agg #[.int .i64 s,.int .i64 t,.int .i64 a]] u fun e w'=>e=.returned (.tuple #[.int .i64 Z,.agg #[.int .i64 s,.int .i64 t,.int .i64 P]])∧Kept u w'):=fun u=>by rw[hZ,hP];exact Vu s t a u
 rw[←hV]at h
 rw[←hP]
 clear hZ hP hV
 obtain⟨M,hM⟩:∃M:Nat,M=V/2048:=⟨_,rfl⟩
 rw[←hM]at h
 have HJ:Hid (∀w:World,Calls Tryz.prog 124 #[.bool false,.int .i64 (M:Int),.int .i64 (-53),.int .i64 64] w fun e w'=>∃g,e=.returned (.tuple #[.int .i64 r,.bool g])∧Kept w w'):=h
 clear h
 have u2:(V:Int)/2048=(M:Int):=by rw[hM];rfl
 have u3:IntKind.i64.wrap (M:Int)=(M:Int):=by rw[qc,hM];omega
 clear hM
 go_enter Tryz.func36,Tryz.ntmps36
 go_upto_region 1 with fail
 obtain⟨X,hX⟩:∃X,X=(w.alloc (.cells #[.int .i64 s,.int .i64 t,.int .i64 a] 72)).alloc (.cells #[.int .i64 0,.int .i64 0,.int .i64 0] 72):=⟨_,rfl⟩
 rw[←hX]at d1 d2 hW0 ⊢
 clear hX
 have D1:=d1
 obtain⟨⟨c0,c1,c2⟩,f1⟩:=D1
 go_wp2_with fail
 refine(HN.out _).mono ?_
 rintro e w1 ⟨rfl,hk1⟩
 clear c0 c1 c2 f1
 have g1:=d1.kept hk1
 have g2:=d2.kept hk1
 have hK:=hW0.trans hk1
 have G1':=g1
 obtain⟨⟨c0,c1,c2⟩,f1⟩:=G1'
 go_upto_region 2 with fail
 clear c0 c1 c2 f1
 have k1:=g1.put s t P
 have k2:=g2.far3 w.heap.size (by simp) (.int .i64 s) (.int .i64 t) (.int .i64 P)
 have k3:=hK.put3 w.heap.size (qlj _) (.int .i64 s) (.int .i64 t) (.int .i64 P)
 obtain⟨Y,hY⟩:∃Y,Y=put3 w1 w.heap.size (.int .i64 s) (.int .i64 t) (.int .i64 P):=⟨_,rfl⟩
 rw[←hY]at k1 k2 k3
 unfold put3 at hY
 rw[←hY]
 clear hY g1 g2 hK d1 d2 hW0 hk1
 go_wp2_with fail
 refine(HJ.out _).mono ?_
 rintro e w2 ⟨gg,rfl,hk2⟩
 have k4:=k3.trans hk2
 obtain⟨⟨c0,c1,c2⟩,f1⟩:=k1.kept hk2
 obtain⟨⟨c3,c4,c5⟩,f2⟩:=k2.kept hk2
 clear k1 k2 k3 hk2
 go_wp2_with fail
 go_region_held (fun u=>Kept w u∧u.cell? ⟨w.heap.size,0,none⟩=some (.int .i64 s)∧u.cell? ⟨w.heap.size,1,none⟩=some (.int .i64 t)∧u.cell? ⟨w.heap.size,2,none⟩=some (.int .i64 P)) (first|exact⟨k4.drew,c0,c1,c2⟩|assumption|exact xB k4 (by simp) (by simp) ⟨c0,c1,c2⟩ _ _ _) (fail)
 go_wp2
 exact qlu (v:=.tuple #[.int .i64 r,.agg #[.int .i64 s,.int .i64 t,.int .i64 P]]) (by simp[results,Tryz.results36,go_sem, *]) rfl ⟨rfl,(xB k4 (by simp) (by simp) ⟨c0,c1,c2⟩ _ _ _).1⟩
end Go.Proofs.YtelbefihigkhjaaGreatDoor

namespace Go.Proofs.YtelbefihigkhjaaGreatDoor
open Go.ChangeShapes Go.WideShapes Go.ChangeAt Go.RowKit Ieee
set_option maxHeartbeats 16000000
set_option maxRecDepth 100000
set_option linter.unusedVariables false
set_option linter.unusedSimpArgs false
def upt (s t a:Int):Nat:=wn s t a/2048
theorem yH (s t a:Int):upt s t a<9007199254740992:=by
 unfold upt
 have:=qc0 s t a
 omega
theorem qa4 (s t a b:Int)(D r q m:Nat)(w:World)(hD:Dw w D s t a)(hmul:FloatKind.f64.format.mul r 4845873199050653696=some q)(hcv:floatToIntVal .f64 q .i64=some (m:Int))(hp:xP (r:Int)=r)
  (KU:Hid (∀u,Calls Tryz.prog 183 #[.agg #[.int .i64 s,.int .i64 t,.int .i64 a],.int .i64 64] u fun e w'=>e=.returned (.tuple #[.int .i64 r,.agg #[.int .i64 s,.int .i64 t,.int .i64 b],.int .i64 0])∧Kept u w')):
  Calls Tryz.prog 182 #[.pointer (some ⟨D,0,none⟩)] w fun e w'=>e=.returned (.int .i64 m)∧Dw w' D s t b∧Grw D w w':=by
 have KF:Hid (∀u,Calls Tryz.prog 149 #[.int .i64 r] u fun e w'=>e=.returned (.float .f64 r)∧u=w'):=fun u=>by
  have:=Zx (r:Int) u
  rw[hp]at this
  exact this
 have HM:∀(u:World) (ty:TypeId),(binOp .mul ty (.float .f64 r) (.float .f64 4845873199050653696)).run Tryz.prog u=.ok (.float .f64 q) u:=fun u ty=>run_float_arith u .mul ty .f64 _ _ _ hmul
 have HV:∀u:World,(convert 190 3 (.float .f64 q)).run Tryz.prog u=.ok (.int .i64 m) u:=fun u=>run_convert_float_int u 190 3 .f64 .i64 q m (by kernel_rfl) (by kernel_rfl) hcv
 have hDK:Hid (∀u,Kept w u→Dw u D s t a):=fun u k=>hD.kept k
 obtain⟨⟨c0,c1,c2⟩,cf⟩:=hD
 clear hmul hcv hp
 go_enter Tryz.func182,Tryz.ntmps182
 go_wp2_with fail
 refine(KU.out _).mono ?_
 rintro e w1 ⟨rfl,k1⟩
 have h1:=hDK.out _ k1
 have h2:=h1.put s t b
 clear c0 c1 c2 cf
 obtain⟨⟨c0,c1,c2⟩,cf⟩:=h1
 go_upto_region 3 with fail
 have g:=(((Kept.toGrw D k1).setCell 0 (.int .i64 s)).setCell 1 (.int .i64 t)).setCell 2 (.int .i64 b)
 unfold put3 at h2
 generalize ((w1.setCell ⟨D,0,none⟩ (.int .i64 s)).setCell ⟨D,1,none⟩ (.int .i64 t)).setCell ⟨D,2,none⟩ (.int .i64 b)=Y at *
 clear c0 c1 c2 cf
 go_wp2_with (first|(go_at_call 149;refine(KF.out _).mono ?_;rintro e w2 ⟨rfl,rfl⟩))
 go_ret
 exact⟨rfl,h2,g⟩
theorem Qx (s t a:Int)(h0:0≤a)(h1:a≤1000000000)(D:Nat)(w:World)(hD:Dw w D s t a):Calls Tryz.prog 182 #[.pointer (some ⟨D,0,none⟩)] w fun e w'=>e=.returned (.int .i64 (upt s t a))∧Dw w' D s t (a+1)∧Grw D w w':=by
 obtain⟨r,q,hr,hm,hq,hc⟩:=qay (upt s t a) (yH s t a)
 have hw:wrap64 (a+1)=a+1:=by unfold wrap64;omega
 refine qa4 s t a (a+1) D r q (upt s t a) w hD hq hc ?_ (fun u=>?_)
 ·unfold xP
  rw[IntKind.wrap_u64]
  omega
 ·have:=Vv s t a r hr hm u
  rw[hw]at this
  exact this
end Go.Proofs.YtelbefihigkhjaaGreatDoor

namespace Go.Proofs.YtelbefihigkhjaaGreatDoor
open Go.ChangeShapes Go.WideShapes Go.ChangeAt Go.RowKit
set_option maxHeartbeats 16000000
set_option maxRecDepth 100000
set_option linter.unusedVariables false
set_option linter.unusedSimpArgs false
structure Gs (S:List Nat) (w w':World):Prop where
 os:w'.os=w.os
 tape:w'.tape=w.tape
 output:w'.output=w.output
 size:w.heap.size≤w'.heap.size
 block:∀i,i<w.heap.size→i∉S→w'.heap[i]?=w.heap[i]?
 frozen:∀a,w'.frozen? a=w.frozen? a
theorem Gs.refl (S:List Nat)(w:World):Gs S w w:=⟨rfl,rfl,rfl,qlj _,fun _ _ _=>rfl,fun _=>rfl⟩
theorem Gs.trans {S:List Nat}{a b c:World}(h:Gs S a b)(k:Gs S b c):Gs S a c:=
 ⟨k.os.trans h.os,k.tape.trans h.tape,k.output.trans h.output,qlp h.size k.size,fun i hi hn=>(k.block i (qlf hi h.size) hn).trans (h.block i hi hn),fun x=>(k.frozen x).trans (h.frozen x)⟩
theorem Gs.mono {S S':List Nat}{a b:World}(h:Gs S a b)(hs:∀i∈S,i∈S'):Gs S' a b:=
 ⟨h.os,h.tape,h.output,h.size,fun i hi hn=>h.block i hi (fun hm=>hn (hs i hm)),h.frozen⟩
theorem Kept.gs {a b:World}(S:List Nat)(h:Kept a b):Gs S a b:=⟨h.below.os,h.below.tape,h.below.output,h.below.size,fun i hi _=>h.below.block i hi,h.frozen⟩
theorem Grw.gs {g:Nat}{a b:World}(h:Grw g a b):Gs [g] a b:=⟨h.grown.os,h.grown.tape,h.grown.output,h.grown.size,fun i hi hn=>h.grown.block i hi (by simpa using hn),h.frozen⟩
theorem Kept.gsn {S:List Nat}{a b c:World}(h:Kept a b)(hS:∀i∈S,a.heap.size≤i)(k:Gs S b c):Kept a c:=
 ⟨⟨k.os.trans h.below.os,k.tape.trans h.below.tape,k.output.trans h.below.output,qlp h.below.size k.size,fun i hi=>(k.block i (qlf hi h.below.size) (fun hm=>by have:=hS i hm;omega)).trans (h.below.block i hi)⟩,fun x=>(k.frozen x).trans (h.frozen x)⟩
theorem Gs.setCell {S:List Nat}{a b:World}(h:Gs S a b){p:Addr}(hp:p.block∈S∨a.heap.size≤p.block)(u:Value):Gs S a (b.setCell p u):=
 ⟨h.os,h.tape,h.output,by simpa using h.size,fun i hi hn=>(Below.heap_setCell b p u i (fun e=>by subst e;rcases hp with h1|h1;exact hn h1;omega)).trans (h.block i hi hn),fun x=>(World.frozen?_setCell _ _ _ _).trans (h.frozen x)⟩
theorem Gs.kept {S:List Nat}{a b c:World}(h:Gs S a b)(k:Kept b c):Gs S a c:=h.trans (k.gs S)
theorem Gs.cell {S:List Nat}{a b:World}(h:Gs S a b)(B o:Nat)(hB:B<a.heap.size)(hn:B∉S):b.cell? ⟨B,o,none⟩=a.cell? ⟨B,o,none⟩:=by
 have:=h.block B hB hn
 simp only[World.cell?,this]
theorem N3.gs {S:List Nat}{w w':World}{b:Nat}{u v x:Value}(h:N3 w b u v x)(k:Gs S w w')(hn:b∉S):N3 w' b u v x:=
 ⟨(k.cell b 0 h.lt hn).trans h.c0,(k.cell b 1 h.lt hn).trans h.c1,(k.cell b 2 h.lt hn).trans h.c2,fun o=>(k.frozen _).trans (h.fz o)⟩
theorem Dw.gs {S:List Nat}{w w':World}{b:Nat}{s t a:Int}(h:Dw w b s t a)(k:Gs S w w')(hn:b∉S):Dw w' b s t a:=
 ⟨⟨(k.cell b 0 h.1.lt hn).trans h.1.1,(k.cell b 1 h.1.lt hn).trans h.1.2.1,(k.cell b 2 h.1.lt hn).trans h.1.2.2⟩,fun o=>(k.frozen _).trans (h.2 o)⟩
theorem Own.gs {S:List Nat}{w w':World}{g cap:Nat}{L:List Int}(h:Own w g cap L)(k:Gs S w w')(hn:g∉S):Own w' g cap L:=by
 have hl:=h.lt
 obtain⟨cur,hg,r⟩:=h
 exact⟨cur,(k.block g hl hn).trans hg,r⟩
theorem Tab.gs {S:List Nat}{w w':World}(h:Tab w)(k:Gs S w w')(hS:2∉S):Tab w':=
 ⟨qlp h.1 k.size,fun j hj=>(k.cell 2 j (by have:=h.1;omega) hS).trans (h.2 j hj)⟩
theorem Tab.own {w:World}(h:Tab w){g cap:Nat}{L:List Int}(ho:Own w g cap L)(hne:L≠[]):g≠2:=fun e=>by
 have h1:=h.2 0 (by decide)
 have h2:=ho.cell 0 (List.length_pos_iff.2 hne)
 rw[e,h1]at h2
 cases h2
theorem Tab.lo {w:World}(h:Tab w):3≤w.heap.size:=h.1
def NumUp (D:Nat)(w:World)(v:Value)(x:Nm):Prop:=
 (x=⟨false,[],0⟩∧v=jn)∨∃g cap,v=.agg #[.bool x.neg,.slice (some ⟨g,0,none⟩) x.mag.length cap,.int .i64 x.exp]∧D<g∧Own w g cap x.mag∧x.mag≠[]
theorem New.up {D:Nat}{w0 w:World}{v:Value}{x:Nm}(h:New w0 w v x)(hD:D<w0.heap.size):NumUp D w v x:=by
 rcases h with h|⟨g,cap,e,hg,ho,hne⟩
 ·exact .inl h
 ·exact .inr ⟨g,cap,e,by omega,ho,hne⟩
theorem NumUp.numAt {D:Nat}{w:World}{v:Value}{x:Nm}(h:NumUp D w v x):NumAt w v x:=by
 rcases h with ⟨rfl,rfl⟩|⟨g,cap,rfl,hg,ho,hne⟩
 ·exact⟨_,rfl,none,0,rfl,qlj _,by simp[maxLen],fun h=>absurd rfl h⟩
 ·exact⟨_,rfl,ho.sl⟩
theorem NumUp.gs {D:Nat}{S:List Nat}{w w':World}{v:Value}{x:Nm}(h:NumUp D w v x)(k:Gs S w w')(hS:∀i∈S,i≤D):NumUp D w' v x:=by
 rcases h with h|⟨g,cap,e,hg,ho,hne⟩
 ·exact .inl h
 ·exact .inr ⟨g,cap,e,hg,ho.gs k (fun hm=>by have:=hS g hm;omega),hne⟩
theorem NumUp.kept {D:Nat}{w w':World}{v:Value}{x:Nm}(h:NumUp D w v x)(k:Kept w w'):NumUp D w' v x:=h.gs (k.gs []) (fun i hi=>by cases hi)
theorem New.low {w0 w1 w:World}{v:Value}{x:Nm}(h:New w1 w v x)(k:w0.heap.size≤w1.heap.size):New w0 w v x:=by
 rcases h with h|⟨g,cap,e,hg,ho,hne⟩
 ·exact .inl h
 ·exact .inr ⟨g,cap,e,qlp k hg,ho,hne⟩
def sup (s t a:Int):Nat→Int
 |0=>0
 |k+1=>sup s t a k+(upt s t (a+k):Int)
theorem Ju (s t a:Int)(k:Nat):0≤sup s t a k∧sup s t a k≤k*9007199254740992:=by
 induction k with
 |zero=>exact⟨Int.le_refl _,by simp[sup]⟩
 |succ k ih=>
  have:=yH s t (a+k)
  unfold sup
  omega
theorem V7 (s t a:Int)(h0:0≤a)(h1:a≤500000000)(D:Nat)(w:World)(hD:Dw w D s t a):Calls Tryz.prog 110 #[.func (.func 182) #[] #[.pointer (some ⟨D,0,none⟩)]] w fun e w'=>e=.returned (.int .i64 (sup s t a 12-54043195528445952))∧Dw w' D s t (a+12)∧Gs [D] w w':=by
 have KU:Hid (∀u b,0≤b→b≤1000000000→Dw u D s t b→Calls Tryz.prog 182 #[.pointer (some ⟨D,0,none⟩)] u fun e w'=>e=.returned (.int .i64 (upt s t b))∧Dw w' D s t (b+1)∧Grw D u w'):=fun u b hb1 hb2 hd=>Qx s t b hb1 hb2 D u hd
 go_enter Tryz.func110,Tryz.ntmps110
 go_wp2_with fail
 go_loopw [3,4] (fun sv i wr=>∃k:Nat,k≤12∧i=.int .i64 k∧sv=.int .i64 (sup s t a k-54043195528445952)∧Dw wr D s t (a+k)∧Gs [D] w wr) (fun _ i _=>12-(intOf i).toNat)
 case atStart=>exact⟨0,Nat.zero_le _,rfl,rfl,by simpa using hD,Gs.refl _ w⟩
 case round=>
  clear hD
  obtain⟨k,hk,rfl,rfl,hDr,hG⟩:=hrel
  by_cases hk12:k<12
  ·have hr:=Ju s t a k
   have hu:=yH s t (a+k)
   have hsum:IntKind.i64.wrap (sup s t a k-54043195528445952+(upt s t (a+k):Int))=sup s t a (k+1)-54043195528445952:=by
    rw[qc]
    show _=sup s t a k+(upt s t (a+k):Int)-54043195528445952
    omega
   have KU2:Hid (∀u,Dw u D s t (a+k)→Calls Tryz.prog 182 #[.pointer (some ⟨D,0,none⟩)] u fun e w'=>e=.returned (.int .i64 (upt s t (a+k)))∧Dw w' D s t (a+k+1)∧Grw D u w'):=fun u=>KU.out u (a+k) (by omega) (by omega)
   have e1:a+(k:Int)+1=a+((k+1:Nat):Int):=by omega
   rw[e1]at KU2
   clear KU hu hr
   generalize sup s t a k=S0 at *
   obtain⟨S1,hS1⟩:∃S,S=sup s t a (k+1):=⟨_,rfl⟩
   rw[←hS1]at hsum
   have hS1:Hid (S1=sup s t a (k+1)):=hS1
   generalize (upt s t (a+k):Int)=U0 at *
   go_wp2_with (first|(go_at_call 182;refine(KU2.out _ hDr).mono ?_;rintro e w1 ⟨rfl,d1,g1⟩))
   go_roundw
   case rel=>exact⟨k+1,by omega,by go_num,by rw[←hS1.out,←hsum],d1,hG.trans g1.gs⟩
   case measure=>simp[intOf];omega
  ·obtain rfl:k=12:=by omega
   go_wp2_with fail
   go_ret
   exact⟨rfl,hDr,hG⟩
end Go.Proofs.YtelbefihigkhjaaGreatDoor

namespace Go.Proofs.YtelbefihigkhjaaGreatDoor
open Go.ChangeShapes Go.WideShapes Go.ChangeAt Go.RowKit
set_option maxHeartbeats 16000000
set_option maxRecDepth 100000
set_option linter.unusedVariables false
set_option linter.unusedSimpArgs false
def stl (N:Nat)(bt:Nat→Int)(k:Nat):List Int:=(List.range N).map fun j=>if j<k then bt j else 0
theorem jc (N:Nat)(bt:Nat→Int)(k:Nat):(stl N bt k).length=N:=by simp[stl]
theorem YL (N:Nat)(bt:Nat→Int)(k j:Nat)(hj:j<N):(stl N bt k).getD j 0=if j<k then bt j else 0:=by
 unfold stl
 rw[qli,List.getElem?_map,List.getElem?_range hj]
 rfl
theorem xj (N:Nat)(bt:Nat→Int)(k:Nat)(hk:k<N):(stl N bt k).set k (bt k)=stl N bt (k+1):=by
 apply List.ext_getElem
 ·simp[stl]
 ·intro j h1 h2
  have hj:j<N:=by simpa [stl] using h2
  simp only[stl,List.getElem_set,List.getElem_map,List.getElem_range]
  by_cases e:k=j
  ·subst e
   simp
  ·rw[if_neg e]
   by_cases h:j<k
   ·rw[if_pos h,if_pos (by omega)]
   ·rw[if_neg h,if_neg (by omega)]
theorem jA (N:Nat)(bt:Nat→Int):stl N bt 0=List.replicate N 0:=by
 apply List.ext_getElem
 ·simp[stl]
 ·intro j h1 h2
  simp[stl]
structure Q4 (w:World) (b:Nat) (v0 v1 v2 v3:Value):Prop where
 c0:w.cell? ⟨b,0,none⟩=some v0
 c1:w.cell? ⟨b,1,none⟩=some v1
 c2:w.cell? ⟨b,2,none⟩=some v2
 c3:w.cell? ⟨b,3,none⟩=some v3
 fz:∀o,w.frozen? ⟨b,o,none⟩=false
theorem Q4.new (w:World)(v0 v1 v2 v3:Value)(t:TypeId):Q4 (w.alloc (.cells #[v0,v1,v2,v3] t)) w.heap.size v0 v1 v2 v3:=⟨by simp[go_sem],by simp[go_sem],by simp[go_sem],by simp[go_sem],fun o=>by simp[go_sem]⟩
theorem Q4.lt {w:World}{b:Nat}{v0 v1 v2 v3:Value}(h:Q4 w b v0 v1 v2 v3):b<w.heap.size:=World.block_lt_of_cell? _ _ h.c0
theorem Q4.gs {S:List Nat}{w w':World}{b:Nat}{v0 v1 v2 v3:Value}(h:Q4 w b v0 v1 v2 v3)(k:Gs S w w')(hn:b∉S):Q4 w' b v0 v1 v2 v3:=
 ⟨(k.cell b 0 h.lt hn).trans h.c0,(k.cell b 1 h.lt hn).trans h.c1,(k.cell b 2 h.lt hn).trans h.c2,(k.cell b 3 h.lt hn).trans h.c3,fun o=>(k.frozen _).trans (h.fz o)⟩
theorem Q4.kept {w w':World}{b:Nat}{v0 v1 v2 v3:Value}(h:Q4 w b v0 v1 v2 v3)(k:Kept w w'):Q4 w' b v0 v1 v2 v3:=h.gs (k.gs []) (fun h=>by cases h)
theorem qa5 (K:Nat)(caps:Array Value)(hcall:∀w,(callFunc K caps).run Tryz.prog w=.ok (.enter K caps) w)(rows cols wd:Int)(g N cap D M:Nat)(bt cl:Nat→Int)(fe:Int)(nu:Nat→Nm)(J:Nat→World→Prop)(w:World)
  (hN:N≤100000) (hO:Own w g cap (stl N bt 0)) (hJ:J 0 w) (hDw:D<w.heap.size) (hDg:D≠g) (hM:M≤N) (hcl:∀i,i<M→(cl i==3)=false) (hend:M=N∧fe=0∨M<N∧(cl M==3)=true∧fe=31)
  (KE:Hid (∀i u,i<N→Gs [D,g] w u→J i u→Calls Tryz.prog K caps u fun e w'=>∃v,e=.returned v∧NumAt w' v (nu i)∧J (i+1) w'∧Gs [D] u w'))
  (KR:Hid (∀i u v,i<N→Gs [D,g] w u→NumAt u v (nu i)→Calls Tryz.prog 100 #[v,.int .i64 wd] u fun e w'=>e=.returned (.int .i64 (bt i))∧Kept u w'))
  (KC:Hid (∀i u,Calls Tryz.prog 83 #[.int .i64 (bt i),.int .i64 wd] u fun e w'=>e=.returned (.int .i64 (cl i))∧Kept u w'))
  (sJ:Hid (∀i u u',J i u→Kept u u'→J i u')) (jS:Hid (∀i u o v,J i u→J i (u.setCell ⟨g,o,none⟩ v))):
  Calls Tryz.prog 28 #[.agg #[.int .i64 rows,.int .i64 cols,.int .i64 wd,.slice (some ⟨g,0,none⟩) N cap],.func (.func K) #[] caps] w fun e w'=>e=.returned (.int .i64 fe)∧(fe=0→Own w' g cap (stl N bt N))∧Gs [D,g] w w':=by
 have hg:=hO.lt
 obtain⟨X,hX⟩:∃X,X=w.alloc (.cells #[.int .i64 rows,.int .i64 cols,.int .i64 wd,.slice (some ⟨g,0,none⟩) N cap] 28):=⟨_,rfl⟩
 obtain⟨B0,hB0⟩:∃B,B=w.heap.size:=⟨_,rfl⟩
 have hK:Kept w X:=by rw[hX];exact(qlv w).alloc _ _
 have hP:Q4 X B0 (.int .i64 rows) (.int .i64 cols) (.int .i64 wd) (.slice (some ⟨g,0,none⟩) N cap):=by rw[hX,hB0];exact Q4.new w _ _ _ _ _
 have nB:Hid (B0∉[D,g]∧w.heap.size≤B0):=(show _∧_ from⟨by simp;omega,by omega⟩)
 have HCL:Hid (∀i,i<M→(cl i==3)=false):=hcl
 have HE:Hid (M=N∧fe=0∨M<N∧(cl M==3)=true∧fe=31):=hend
 have hJX:=sJ.out _ _ _ hJ hK
 have hOX:=hO.kept hK
 clear hO hJ hDw hcl hend hg
 go_enter Tryz.func28,Tryz.ntmps28
 go_upto_region 1 with fail
 rw[←hX,←hB0]
 clear hX hB0
 have HP:Hid (Q4 X B0 (.int .i64 rows) (.int .i64 cols) (.int .i64 wd) (.slice (some ⟨g,0,none⟩) N cap)):=hP
 obtain⟨p0,p1,p2,p3,pf⟩:=hP
 go_wp2_with fail
 clear p0 p1 p2 p3 pf
 go_loopw [9] (fun i wr=>∃k:Nat,k≤M∧i=.int .i64 k∧Gs [D,g] X wr∧J k wr∧Own wr g cap (stl N bt k)) (fun i _=>N-(intOf i).toNat)
 case atStart=>exact⟨0,Nat.zero_le _,rfl,Gs.refl _ X,hJX,hOX⟩
 case round=>
  clear hJX hOX
  obtain⟨k,hkM,rfl,hG,hJ,hO⟩:=hrel
  have gW:Hid (Gs [D,g] w wr):=(hK.gs _).trans hG
  by_cases hkN:k<N
  ·have hP:=HP.out.gs hG nB.out.1
   have HS:Hid (∀u,Gs [D,g] wr u→Gs [D,g] wr u∧u.cell? ⟨B0,2,none⟩=some (.int .i64 wd)∧u.cell? ⟨B0,3,none⟩=some (.slice (some ⟨g,0,none⟩) N cap)):=fun u q=>⟨q,(hP.gs q nB.out.1).c2,(hP.gs q nB.out.1).c3⟩
   have KE2:Hid (∀u,Gs [D,g] w u→J k u→Calls Tryz.prog K caps u fun e w'=>∃v,e=.returned v∧NumAt w' v (nu k)∧J (k+1) w'∧Gs [D] u w'):=fun u=>KE.out k u hkN
   have KR2:Hid (∀u v,Gs [D,g] w u→NumAt u v (nu k)→Calls Tryz.prog 100 #[v,.int .i64 wd] u fun e w'=>e=.returned (.int .i64 (bt k))∧Kept u w'):=fun u v=>KR.out k u v hkN
   have KC2:Hid (∀u,Calls Tryz.prog 83 #[.int .i64 (bt k),.int .i64 wd] u fun e w'=>e=.returned (.int .i64 (cl k))∧Kept u w'):=fun u=>KC.out k u
   have HO:Hid (Own wr g cap (stl N bt k)):=hO
   have HJ:Hid (J k wr.drew):=sJ.out _ _ _ hJ (qlv wr).drew
   clear KE KR KC hO hP hJ
   go_upto_region 4 with fail
   refine qi [9] (fun u=>Gs [D,g] wr u∧u.cell? ⟨B0,2,none⟩=some (.int .i64 wd)∧u.cell? ⟨B0,3,none⟩=some (.slice (some ⟨g,0,none⟩) N cap)) (by kernel_rfl) (HS.out _ ((qlv wr).drew.gs _)) (fun hHeld=>?_)
   refine tkD (i:=0) (v:=?_) rfl hHeld ?_
   try simp only[zz]
   refine tkD (i:=1) (v:=?_) rfl hHeld ?_
   try simp only[zz]
   refine tkD (i:=2) (v:=?_) rfl hHeld ?_
   try simp only[zz]
   refine tkD (i:=3) (v:=?_) rfl hHeld ?_
   try simp only[zz]
   refine tkD (i:=5) (v:=?_) rfl hHeld ?_
   try simp only[zz]
   refine tkD (i:=6) (v:=?_) rfl hHeld ?_
   try simp only[zz]
   refine qg (i:=4) (by kernel_rfl) rfl (fun K hK9=>?_)
   go_simp
   go_wp2_with fail
   refine(KE2.out _ (gW.out.trans hHeld.1) HJ.out).mono ?_
   rintro e u1 ⟨v1,rfl,q1,j1,g1⟩
   refine hK9.out _ _ (HS.out _ (hHeld.1.trans (g1.mono (by simp)))) (fun hH1=>?_)
   clear hK9 K
   try simp only[zz]
   refine qg (i:=7) (by kernel_rfl) rfl (fun K hK9=>?_)
   go_simp
   go_wp2_with fail
   refine(KR2.out _ _ (gW.out.trans hH1.1) q1).mono ?_
   rintro e u2 ⟨rfl,k2⟩
   refine hK9.out _ _ (HS.out _ (hH1.1.kept k2)) (fun hH2=>?_)
   clear hK9 K
   try simp only[zz]
   refine tkD (i:=8) (v:=?_) rfl hH2 ?_
   try simp only[zz]
   have o2:Own u2 g cap (stl N bt k):=((HO.out.kept (qlv wr).drew).gs g1 (by simpa using Ne.symm hDg)).kept k2
   have o3:=o2.set k (bt k)
   rw[xj N bt k hkN]at o3
   have cg:=o2.cell k (by rw[jc];exact hkN)
   have fg:=o2.free k
   have j3:=jS.out _ _ k (.int .i64 (bt k)) (sJ.out _ _ _ j1 k2)
   have g3:=(hG.trans hH2.1).setCell (p:=⟨g,k,none⟩) (.inl (by simp)) (.int .i64 (bt k))
   refine qo (i:=9) (by kernel_rfl) rfl rfl (fun K hK9=>?_)
   go_simp
   refine hK9.out _ _ ?_
   clear hK9 K
   try simp only[zz]
   refine qk (by kernel_rfl) ?_ _
   try simp only[zz]
   generalize u2.setCell ⟨g,k,none⟩ (.int .i64 (bt k))=Y at *
   have hPY:=HP.out.gs g3 nB.out.1
   have HS5:Hid (∀u,Kept Y u→Kept Y u∧u.cell? ⟨B0,2,none⟩=some (.int .i64 wd)∧u.cell? ⟨B0,3,none⟩=some (.slice (some ⟨g,0,none⟩) N cap)∧u.cell? ⟨g,k,none⟩=some (.int .i64 (bt k))):=fun u q=>⟨q,(hPY.kept q).c2,(hPY.kept q).c3,by
    have:=(o3.kept q).cell k (by rw[jc];exact hkN)
    rw[YL N bt (k+1) k hkN,if_pos (Nat.lt_succ_self k)]at this
    exact this⟩
   clear HS HO HJ KE2 KR2 o2 cg fg hH1 hH2 hHeld q1 g1 k2 j1
   go_upto_region 5 with fail
   refine qi [] (fun u=>Kept Y u∧u.cell? ⟨B0,2,none⟩=some (.int .i64 wd)∧u.cell? ⟨B0,3,none⟩=some (.slice (some ⟨g,0,none⟩) N cap)∧u.cell? ⟨g,k,none⟩=some (.int .i64 (bt k))) (by kernel_rfl) (HS5.out _ (qlv Y).drew) (fun hHeld=>?_)
   refine tkD (i:=0) (v:=?_) rfl hHeld ?_
   try simp only[zz]
   refine tkD (i:=1) (v:=?_) rfl hHeld ?_
   try simp only[zz]
   refine tkD (i:=2) (v:=?_) rfl hHeld ?_
   try simp only[zz]
   refine tkD (i:=3) (v:=?_) rfl hHeld ?_
   try simp only[zz]
   refine tkD (i:=4) (v:=?_) rfl hHeld ?_
   try simp only[zz]
   refine tkD (i:=5) (v:=?_) rfl hHeld ?_
   try simp only[zz]
   refine tkD (i:=6) (v:=?_) rfl hHeld ?_
   try simp only[zz]
   refine qg (i:=7) (by kernel_rfl) rfl (fun K hK9=>?_)
   go_simp
   go_wp2_with fail
   refine(KC2.out _).mono ?_
   rintro e u5 ⟨rfl,k5⟩
   refine hK9.out _ _ (HS5.out _ (hHeld.1.trans k5)) (fun hH5=>?_)
   clear hK9 K
   try simp only[zz]
   refine tkD (i:=8) (v:=?_) rfl hH5 ?_
   try simp only[zz]
   refine qk (by kernel_rfl) ?_ _
   try simp only[zz]
   by_cases hk2:k<M
   ·have hc:=HCL.out k hk2
    go_wp2_with fail
    go_roundw
    case rel=>exact⟨k+1,by omega,by go_num,g3.kept hH5.1,sJ.out _ _ _ j3 hH5.1,o3.kept hH5.1⟩
    case measure=>simp[intOf];omega
   ·obtain rfl:k=M:=by omega
    rcases HE.out with ⟨e1,-⟩|⟨-,hc,rfl⟩
    ·omega
    ·go_wp2_with fail
     go_ret
     exact⟨rfl,(hK.gs _).trans (g3.kept hH5.1)⟩
  ·obtain rfl:k=N:=by omega
   rcases HE.out with ⟨-,rfl⟩|⟨e1,-⟩
   ·go_wp2_with fail
    go_ret
    exact⟨rfl,hO,gW.out⟩
   ·omega
end Go.Proofs.YtelbefihigkhjaaGreatDoor
