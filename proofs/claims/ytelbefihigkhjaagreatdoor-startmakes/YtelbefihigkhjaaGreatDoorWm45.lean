/-  -/
import Derived.Test.YtelbefihigkhjaaGreatDoorWm44
import Derived.Test.YtelbefihigkhjaaGreatDoorWm40
import Derived.Test.YtelbefihigkhjaaGreatDoorWm33
namespace Go.Proofs.YtelbefihigkhjaaGreatDoor
open Go.ChangeShapes Go.WideShapes Go.ChangeAt Go.RowKit
set_option maxHeartbeats 16000000
set_option maxRecDepth 100000
set_option linter.unusedVariables false
set_option linter.unusedSimpArgs false
def VbB (X u:World)(vs:List Value)(x:Option Value):Prop:=∀v,x=some v→∃b,v=.pointer (some ⟨b,0,none⟩)∧X.heap.size≤b∧Bk u b vs
structure JB (X:World) (vs:List Value) (Y:World→Prop) (x:Option Value) (u:World):Prop where
 k:Kept X u
 v:Y u
 n:VbB X u vs x
theorem VbB.kept {X u u':World}{vs:List Value}{x:Option Value}(h:VbB X u vs x)(k:Kept u u'):VbB X u' vs x:=fun v hv=>by
 obtain⟨b,e,hb,hc⟩:=h v hv
 exact⟨b,e,hb,hc.kept k⟩
theorem JB.next {X:World}{vs:List Value}{Y Y':World→Prop}{x:Option Value}{u u':World}(h:JB X vs Y x u)(k:Kept u u')(hv:Y' u'):JB X vs Y' x u':=⟨h.k.trans k,hv,h.n.kept k⟩
theorem JB.start {X:World}{vs:List Value}{Y:World→Prop}{u:World}(k:Kept X u)(hv:Y u):JB X vs Y none u:=⟨k,hv,(fun v hv=>by cases hv)⟩
def Alw (T:TypeId)(vs:List Value):Prop:=∀(o:Oper),o.op=.alloc T→∀(a:Act) (w:World) (K:Act→World→Prop) (Q:Exit→Act→World→Prop),K (a.put o.dst (.pointer (some ⟨w.heap.size,0,none⟩))) (w.alloc (.cells vs.toArray T))→Oper.wp Tryz.prog o a w K Q
theorem qP {T:TypeId}{vs:List Value}(hr:Alw T vs){ops:Array Oper}{Q:Exit→Act→World→Prop}{S:World→Prop}{i1:Nat}{d1:Tmp}{o1:Oper}{X:World}{Y:World→Prop}(sY:StE Y)(hS:∀u,Kept X u→S u)
  (h1:ops[i1]?=some o1) (e1:o1.op=.alloc T∧o1.dst=some d1∧o1.guard=none):qes Tryz.prog ops Q S i1 d1 (JB X vs Y):=by
 refine⟨fun x w h=>hS w h.k,fun K a w hI h=>?_⟩
 refine wpOp_step h1 fun K' hK=>?_
 have hw:Region.wanted o1 (yielded ops a.tmps)=true:=by unfold Region.wanted;rw[e1.2.2]
 rw[if_pos hw]
 refine hr o1 e1.1 _ _ _ _ (hK _ _ ?_)
 rw[e1.2.1]
 have k:Kept w (w.alloc (.cells vs.toArray T)):=(qlv w).alloc _ _
 exact h _ _ ⟨hI.k.trans k,sY _ _ k hI.v,fun v hv=>by cases hv;exact⟨_,rfl,hI.k.below.size,Bk.new w vs _⟩⟩
theorem Bk.set {w:World}{b:Nat}{vs:List Value}(h:Bk w b vs)(i:Nat)(u:Value):Bk (w.setCell ⟨b,i,none⟩ u) b (vs.set i u):=by
 refine⟨fun j v e=>?_,fun o=>(World.frozen?_setCell _ _ _ _).trans (h.fz o),by simpa using h.lt⟩
 rw[List.getElem?_set]at e
 by_cases hij:i=j
 ·subst hij
  rw[if_pos rfl]at e
  by_cases hl:i<vs.length
  ·rw[if_pos hl]at e
   cases e
   have hc:=h.c i _ (List.getElem?_eq_getElem hl)
   simp[go_sem,hc]
  ·rw[if_neg hl]at e
   cases e
 ·rw[if_neg hij]at e
  have hc:=h.c j v e
  simp[go_sem,hc,hij]
theorem Bk.far {w:World}{b:Nat}{vs:List Value}(h:Bk w b vs){p:Addr}(hp:b≠p.block)(u:Value):Bk (w.setCell p u) b vs:=by
 refine⟨fun i v e=>?_,fun o=>(World.frozen?_setCell _ _ _ _).trans (h.fz o),by simpa using h.lt⟩
 have:=h.c i v e
 have e2:=Below.heap_setCell w p u b hp
 simp only[World.cell?,e2]at this ⊢
 exact this
structure J2x (X:World) (vs:List Value) (Y:Option Value→World→Prop) (x:Option Value) (u:World):Prop where
 k:Kept X u
 v:Y x u
 n:VbB X u vs x
theorem x8 {T:TypeId}{vs:List Value}(hr:Alw T vs){ops:Array Oper}{Q:Exit→Act→World→Prop}{S:World→Prop}{i1:Nat}{d1:Tmp}{o1:Oper}{X:World}{Y:Option Value→World→Prop}(sY:∀w,Y none w→Y (some (.pointer (some ⟨w.heap.size,0,none⟩))) (w.alloc (.cells vs.toArray T)))(hS:∀u,Kept X u→S u)
  (h1:ops[i1]?=some o1) (e1:o1.op=.alloc T∧o1.dst=some d1∧o1.guard=none):qes Tryz.prog ops Q S i1 d1 (J2x X vs Y):=by
 refine⟨fun x w h=>hS w h.k,fun K a w hI h=>?_⟩
 refine wpOp_step h1 fun K' hK=>?_
 have hw:Region.wanted o1 (yielded ops a.tmps)=true:=by unfold Region.wanted;rw[e1.2.2]
 rw[if_pos hw]
 refine hr o1 e1.1 _ _ _ _ (hK _ _ ?_)
 rw[e1.2.1]
 have k:Kept w (w.alloc (.cells vs.toArray T)):=(qlv w).alloc _ _
 exact h _ _ ⟨hI.k.trans k,sY _ hI.v,fun v hv=>by cases hv;exact⟨_,rfl,hI.k.below.size,Bk.new w vs _⟩⟩
def nbx (x:Option Value)(b:Nat):Prop:=∀p,x=some (.pointer (some ⟨p,0,none⟩))→b≠p
theorem qB:Alw 78 [.bool false,.slice none 0 0,.int .i64 0]:=fun o ho a w K Q h=>Qy ho h
end Go.Proofs.YtelbefihigkhjaaGreatDoor

namespace Go.Proofs.YtelbefihigkhjaaGreatDoor
open Go.ChangeShapes Go.WideShapes Go.ChangeAt Go.RowKit
set_option maxHeartbeats 16000000
set_option maxRecDepth 100000
set_option linter.unusedVariables false
set_option linter.unusedSimpArgs false
abbrev rzW (w:World)(r c n:Int):World:=(w.alloc (.cells #[.int .i64 r,.int .i64 c,.int .i64 n] 76)).alloc (.cells #[.int .i64 0,.int .i64 0,.int .i64 0,.slice none 0 0] 28)
theorem qep (R C:Nat)(n:Int)(rc:Nat)(hrc:R*C=rc)(hRC:rc≤4096)(w:World):Calls Tryz.prog 31 #[.agg #[.int .i64 R,.int .i64 C,.int .i64 n]] w fun e w'=>∃g,e=.returned (.agg #[.int .i64 R,.int .i64 C,.int .i64 n,.slice (some ⟨g,0,none⟩) rc rc])∧w.heap.size≤g∧Own w' g rc (List.replicate rc 0)∧Kept w w':=by
 obtain⟨X,hX⟩:∃X,X=rzW w R C n:=⟨_,rfl⟩
 have hK:Kept w X:=by rw[hX];exact((qlv w).alloc _ _).alloc _ _
 have hXs:X.heap.size=w.heap.size+2:=by rw[hX];simp
 have hw:IntKind.i64.wrap ((R:Int)*(C:Int))=(rc:Int):=by
  have:(R:Int)*(C:Int)=((R*C:Nat):Int):=by simp
  rw[qc,this,hrc]
  omega
 have hmk:∀u:World,(Instr.makeSlice 26 (.int .i64 (rc:Int)) (.int .i64 (rc:Int))).run Tryz.prog u=.ok (.slice (some ⟨u.heap.size,0,none⟩) rc rc) (u.alloc (.cells (madeCells #[.int .i64 0] rc) 3)):=fun u=>qbc _ _ (qlj _) (by omega) u
 have hR:M4 X (w.heap.size+1) (.int .i64 0) (.int .i64 0) (.int .i64 0) (.slice none 0 0):=by rw[hX];exact⟨by simp[go_sem],by simp[go_sem],by simp[go_sem],by simp[go_sem]⟩
 have hS:M3 X w.heap.size (.int .i64 R) (.int .i64 C) (.int .i64 n):=by rw[hX];exact⟨by simp[go_sem],by simp[go_sem],by simp[go_sem]⟩
 have hF:∀o,X.frozen? ⟨w.heap.size+1,o,none⟩=false:=fun o=>by rw[hX];simp[go_sem]
 unfold rzW at hX
 clear hrc
 go_enter Tryz.func31,Tryz.ntmps31
 go_upto_region 1 with fail
 rw[←hX]
 clear hX
 obtain⟨s0,s1,s2⟩:=hS
 obtain⟨r0,r1,r2,r3⟩:=hR
 go_region
 all_goals go_wp2_with fail
 have hRX:M4 X (w.heap.size+1) (.int .i64 0) (.int .i64 0) (.int .i64 0) (.slice none 0 0):=M4.mk r0 r1 r2 r3
 have hPX:=qk8 X _ _ _ _ _ hRX (.int .i64 R) (.int .i64 C) (.int .i64 n) (.slice (some ⟨w.heap.size+2,0,none⟩) rc rc)
 have hKX:=((((hK.setCell (p:=⟨w.heap.size+1,0,none⟩) (by simp) (.int .i64 R)).setCell (p:=⟨w.heap.size+1,1,none⟩) (by simp) (.int .i64 C)).setCell (p:=⟨w.heap.size+1,2,none⟩) (by simp) (.int .i64 n)).setCell (p:=⟨w.heap.size+1,3,none⟩) (by simp) (.slice (some ⟨w.heap.size+2,0,none⟩) rc rc))
 obtain⟨Q,hQ⟩:∃Q,Q=((((X.setCell ⟨w.heap.size+1,0,none⟩ (.int .i64 R)).setCell ⟨w.heap.size+1,1,none⟩ (.int .i64 C)).setCell ⟨w.heap.size+1,2,none⟩ (.int .i64 n)).setCell ⟨w.heap.size+1,3,none⟩ (.slice (some ⟨w.heap.size+2,0,none⟩) rc rc)):=⟨_,rfl⟩
 have hQs:Q.heap.size=w.heap.size+2:=by rw[hQ];simp[hXs]
 rw[←hQ]at hPX hKX
 have ho:=(qbd rc rc (qlj _) (by omega) Q).kept (qlv _).drew
 rw[hQs]at ho
 have hP2:=hPX.bl ((Bl.refl Q).alloc (.cells (madeCells #[.int .i64 0] rc) 3)).drew
 obtain⟨p0,p1,p2,p3⟩:=hP2
 clear hmk hw s0 s1 s2 r0 r1 r2 r3 hRX
 rw[←hQ]
 exact qlu (v:=.agg #[.int .i64 R,.int .i64 C,.int .i64 n,.slice (some ⟨w.heap.size+2,0,none⟩) rc rc]) (by simp[results,Tryz.results31,go_sem,p0,p1,p2,p3]) rfl ⟨w.heap.size+2,rfl,by omega,ho,(hKX.alloc _ _).drew⟩
end Go.Proofs.YtelbefihigkhjaaGreatDoor

namespace Go.Proofs.YtelbefihigkhjaaGreatDoor
open Go.ChangeShapes Go.WideShapes Go.ChangeAt Go.RowKit
set_option maxHeartbeats 16000000
set_option maxRecDepth 100000
set_option linter.unusedVariables false
set_option linter.unusedSimpArgs false
theorem qhe (r c n:Int)(b off cap:Nat)(L:List Int)(hRg:Rgl L)(hlen:L.length≤4096)(w:World)(hb:b<w.heap.size)(hrd:Reads w b off L):Calls Tryz.prog 41 #[.agg #[.int .i64 r,.int .i64 c,.int .i64 n,.slice (some ⟨b,off,none⟩) L.length cap]] w fun e w'=>e=.returned (.tuple #[.int .i64 (stp n L 0).1,.int .i64 (stp n L 0).2])∧Kept w w':=by
 obtain⟨X,hX⟩:∃X,X=w.alloc (.cells #[.int .i64 r,.int .i64 c,.int .i64 n,.slice (some ⟨b,off,none⟩) L.length cap] 28):=⟨_,rfl⟩
 have hK:Kept w X:=by rw[hX];exact(qlv w).alloc _ _
 have hM:M4 X w.heap.size (.int .i64 r) (.int .i64 c) (.int .i64 n) (.slice (some ⟨b,off,none⟩) L.length cap):=by rw[hX];exact M4.new _ _ _ _ _ _
 have HR:Hid (∀u,Kept X u→∀i,i<L.length→u.cell? ⟨b,off+i,none⟩=some (.int .i64 (L.getD i 0))):=fun u k i hi=>(hrd.kept hb (hK.trans k)) i hi
 have KF:Hid (∀i,i<L.length→∀u,Kept X u→Calls Tryz.prog 93 #[.int .i64 (L.getD i 0),.int .i64 n] u fun e w'=>e=.returned (.bool (decide (cls (L.getD i 0) n<3)))∧Kept X w'):=fun i hi u k=>by
  refine(yX _ n (hRg i hi).1 (hRg i hi).2 u).mono ?_
  rintro e w' ⟨rfl,k'⟩
  exact⟨rfl,k.trans k'⟩
 have KN:Hid (∀i,i<L.length→∀u,Kept X u→Calls Tryz.prog 127 #[.int .i64 (L.getD i 0),.int .i64 n] u fun e w'=>e=.returned (.bool (cls (L.getD i 0) n==4))∧Kept X w'):=fun i hi u k=>by
  refine(XO _ n (hRg i hi).1 (hRg i hi).2 u).mono ?_
  rintro e w' ⟨rfl,k'⟩
  exact⟨rfl,k.trans k'⟩
 have HN:Hid (∀k,k<L.length→cls (L.getD k 0) n=4→stp n (L.drop k) k=((k:Int),30)):=fun k hk h=>qha n L k hk h
 have HI:Hid (∀k,k<L.length→cls (L.getD k 0) n=3→stp n (L.drop k) k=((k:Int),31)):=fun k hk h=>qhb n L k hk h
 have HF:Hid (∀k,k<L.length→cls (L.getD k 0) n<3→stp n (L.drop k) k=stp n (L.drop (k+1)) (k+1)):=fun k hk h=>qhc n L k hk h
 have HE:Hid (stp n (L.drop L.length) L.length=(0,0)):=qhd n L
 have HC4:Hid (∀k,cls (L.getD k 0) n≤4):=fun k=>qjn _ n
 obtain⟨P,hP⟩:∃P,stp n L 0=P:=⟨_,rfl⟩
 have H0:Hid (stp n (L.drop 0) 0=P):=hP
 rw[hP]
 clear hrd hP hRg
 generalize hl:L.length=l at *
 clear hl
 have HS:Hid (∀u,Kept X u→∀k,k<l→Kept X u∧u.cell? ⟨w.heap.size,2,none⟩=some (.int .i64 n)∧u.cell? ⟨w.heap.size,3,none⟩=some (.slice (some ⟨b,off,none⟩) l cap)∧u.cell? ⟨b,off+k,none⟩=some (.int .i64 (L.getD k 0))):=fun u ku k hk=>⟨ku,(hM.bl ku.bl).c2,(hM.bl ku.bl).c3,HR.out u ku k hk⟩
 go_enter Tryz.func41,Tryz.ntmps41
 go_upto_region 1 with fail
 rw[←hX]
 clear hX
 go_wp2_with fail
 go_loopw [4] (fun iv wr=>∃k:Nat,k≤l∧iv=.int .i64 k∧Hid (stp n (L.drop k) k=P)∧Kept X wr) (fun iv _=>l-(intOf iv).toNat)
 case atStart=>exact⟨0,Nat.zero_le _,rfl,H0,qlv _⟩
 case round=>
  clear H0
  obtain⟨k,hk,rfl,hst,kk⟩:=hrel
  have m3:=(hM.bl kk.bl).c3
  by_cases hkl:k<l
  ·have KF2:=KF.out k hkl
   have KN2:=KN.out k hkl
   have HSk:Hid (∀u,Kept X u→Kept X u∧u.cell? ⟨w.heap.size,2,none⟩=some (.int .i64 n)∧u.cell? ⟨w.heap.size,3,none⟩=some (.slice (some ⟨b,off,none⟩) l cap)∧u.cell? ⟨b,off+k,none⟩=some (.int .i64 (L.getD k 0))):=fun u ku=>HS.out u ku k hkl
   have h4:=HC4.out k
   have z1:IntKind.i64.wrap ((k:Int)+1)=(k:Int)+1:=by rw[qc];omega
   have kd:=kk.drew
   by_cases hc3:cls (L.getD k 0) n<3
   ·have hPk:Hid (stp n (L.drop (k+1)) (k+1)=P):=(HF.out k hkl hc3).symm.trans hst.out
    have KF3:Hid (∀u,Kept X u→Calls Tryz.prog 93 #[.int .i64 (L.getD k 0),.int .i64 n] u fun e w'=>e=.returned (.bool true)∧Kept X w'):=fun u ku=>by have:=KF2 u ku;rw[qln hc3]at this;exact this
    generalize L.getD k 0=d at *
    clear hc3 h4 hst HN HI HF HE HC4 KF KN KF2 KN2 HR HS
    go_upto_region 4 with fail
    go_region_held (fun u=>Kept X u∧u.cell? ⟨w.heap.size,2,none⟩=some (.int .i64 n)∧u.cell? ⟨w.heap.size,3,none⟩=some (.slice (some ⟨b,off,none⟩) l cap)∧u.cell? ⟨b,off+k,none⟩=some (.int .i64 d)) (first|assumption|exact HSk.out _ kd|exact HSk.out _ (by assumption)) (first|(go_at_call 93;refine(KF3.out _ (by first|exact kd|assumption)).mono ?_;rintro e w3 ⟨rfl,k3⟩))
    go_wp2_with fail
    go_roundw
    case rel=>exact⟨k+1,by omega,by go_num,hPk,k3⟩
    case measure=>simp[intOf];omega
   ·have KF3:Hid (∀u,Kept X u→Calls Tryz.prog 93 #[.int .i64 (L.getD k 0),.int .i64 n] u fun e w'=>e=.returned (.bool false)∧Kept X w'):=fun u ku=>by have:=KF2 u ku;rw[qlo hc3]at this;exact this
    rcases(show cls (L.getD k 0) n=4∨cls (L.getD k 0) n=3 by omega)with hc|hc
    ·have hPk:Hid (P=((k:Int),30)):=hst.out.symm.trans (HN.out k hkl hc)
     have KN3:Hid (∀u,Kept X u→Calls Tryz.prog 127 #[.int .i64 (L.getD k 0),.int .i64 n] u fun e w'=>e=.returned (.bool true)∧Kept X w'):=fun u ku=>by have:=KN2 u ku;rw[hc]at this;exact this
     generalize L.getD k 0=d at *
     clear hc3 hc h4 hst HN HI HF HE HC4 KF KN KF2 KN2 HR HS
     go_upto_region 4 with fail
     go_region_held (fun u=>Kept X u∧u.cell? ⟨w.heap.size,2,none⟩=some (.int .i64 n)∧u.cell? ⟨w.heap.size,3,none⟩=some (.slice (some ⟨b,off,none⟩) l cap)∧u.cell? ⟨b,off+k,none⟩=some (.int .i64 d)) (first|assumption|exact HSk.out _ kd|exact HSk.out _ (by assumption)) (first|(go_at_call 93;refine(KF3.out _ (by first|exact kd|assumption)).mono ?_;rintro e w3 ⟨rfl,k3⟩))
     have kd3:=k3.drew
     go_upto_region 6 with fail
     go_region_held (fun u=>Kept X u∧u.cell? ⟨w.heap.size,2,none⟩=some (.int .i64 n)∧u.cell? ⟨w.heap.size,3,none⟩=some (.slice (some ⟨b,off,none⟩) l cap)∧u.cell? ⟨b,off+k,none⟩=some (.int .i64 d)) (first|assumption|exact HSk.out _ kd3|exact HSk.out _ (by assumption)) (first|(go_at_call 127;refine(KN3.out _ (by first|exact kd3|assumption)).mono ?_;rintro e w4 ⟨rfl,k4⟩))
     go_wp2_with fail
     exact qlu (v:=.tuple #[.int .i64 k,.int .i64 30]) (by simp[results,Tryz.results41,go_sem]) rfl ⟨by rw[hPk.out],hK.trans k4⟩
    ·have hPk:Hid (P=((k:Int),31)):=hst.out.symm.trans (HI.out k hkl hc)
     have KN3:Hid (∀u,Kept X u→Calls Tryz.prog 127 #[.int .i64 (L.getD k 0),.int .i64 n] u fun e w'=>e=.returned (.bool false)∧Kept X w'):=fun u ku=>by have:=KN2 u ku;rw[hc]at this;exact this
     generalize L.getD k 0=d at *
     clear hc3 hc h4 hst HN HI HF HE HC4 KF KN KF2 KN2 HR HS
     go_upto_region 4 with fail
     go_region_held (fun u=>Kept X u∧u.cell? ⟨w.heap.size,2,none⟩=some (.int .i64 n)∧u.cell? ⟨w.heap.size,3,none⟩=some (.slice (some ⟨b,off,none⟩) l cap)∧u.cell? ⟨b,off+k,none⟩=some (.int .i64 d)) (first|assumption|exact HSk.out _ kd|exact HSk.out _ (by assumption)) (first|(go_at_call 93;refine(KF3.out _ (by first|exact kd|assumption)).mono ?_;rintro e w3 ⟨rfl,k3⟩))
     have kd3:=k3.drew
     go_upto_region 6 with fail
     go_region_held (fun u=>Kept X u∧u.cell? ⟨w.heap.size,2,none⟩=some (.int .i64 n)∧u.cell? ⟨w.heap.size,3,none⟩=some (.slice (some ⟨b,off,none⟩) l cap)∧u.cell? ⟨b,off+k,none⟩=some (.int .i64 d)) (first|assumption|exact HSk.out _ kd3|exact HSk.out _ (by assumption)) (first|(go_at_call 127;refine(KN3.out _ (by first|exact kd3|assumption)).mono ?_;rintro e w4 ⟨rfl,k4⟩))
     go_wp2_with fail
     exact qlu (v:=.tuple #[.int .i64 k,.int .i64 31]) (by simp[results,Tryz.results41,go_sem]) rfl ⟨by rw[hPk.out],hK.trans k4⟩
  ·obtain rfl:k=l:=by omega
   have hPk:Hid (P=(0,0)):=hst.out.symm.trans HE.out
   clear hst HN HI HF HE HC4 KF KN HR HS
   go_wp2_with fail
   exact qlu (v:=.tuple #[.int .i64 0,.int .i64 0]) (by simp[results,Tryz.results41,go_sem]) rfl ⟨by rw[hPk.out],hK.trans kk⟩
end Go.Proofs.YtelbefihigkhjaaGreatDoor
