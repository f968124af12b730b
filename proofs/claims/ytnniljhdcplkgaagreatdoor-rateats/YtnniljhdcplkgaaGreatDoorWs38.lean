/-  -/
import Derived.Test.YtnniljhdcplkgaaGreatDoorWs36
import Derived.Test.YtnniljhdcplkgaaGreatDoorWs37
import Derived.Test.YtnniljhdcplkgaaGreatDoorWs02
import Derived.MapKept
namespace Go.Proofs.YtnniljhdcplkgaaGreatDoor
open Go.ChangeShapes Go.WideShapes Go.ChangeAt Go.RowKit
set_option maxHeartbeats 16000000
set_option maxRecDepth 100000
set_option linter.unusedVariables false
set_option linter.unusedSimpArgs false
theorem smulq_walk (qe:Int)(n1:Bool)(a1:Option Addr)(l1 c1:Nat)(x1:Int)(n2:Bool)(a2:Option Addr)(l2 c2:Nat)(x2:Int)(r:Nm)(w:World)
  (KE:Hid (∀u,Kept w u→Calls Tryz.prog 72 #[.agg #[.bool n1,.slice a1 l1 c1,.int .i64 x1],.agg #[.bool n2,.slice a2 l2 c2,.int .i64 x2]] u fun e w'=>∃v,e=.returned (.tuple #[v,.int .i64 qe])∧New u w' v r∧Kept u w')):
  Calls Tryz.prog 41 #[.agg #[.bool n1,.slice a1 l1 c1,.int .i64 x1],.agg #[.bool n2,.slice a2 l2 c2,.int .i64 x2]] w fun e w'=>∃v,e=.returned v∧New w w' v r∧Kept w w':=by
 obtain⟨X,hX⟩:∃X,X=((w.alloc (.cells #[.bool n1,.slice a1 l1 c1,.int .i64 x1] 43)).alloc (.cells #[.bool n2,.slice a2 l2 c2,.int .i64 x2] 43)).alloc (.cells #[.bool false,.slice none 0 0,.int .i64 0] 43):=⟨_,rfl⟩
 have hK:Kept w X:=by rw[hX];exact(((Kept.refl w).alloc _ _).alloc _ _).alloc _ _
 have hXs:X.heap.size=w.heap.size+3:=by rw[hX];simp
 have hP0:N3 X (w.heap.size) (.bool n1) (.slice a1 l1 c1) (.int .i64 x1):=by
  rw[hX]
  have:=(((N3.new (w) (.bool n1) (.slice a1 l1 c1) (.int .i64 x1) 43).alloc #[.bool n2,.slice a2 l2 c2,.int .i64 x2] 43).alloc #[.bool false,.slice none 0 0,.int .i64 0] 43)
  simpa using this
 have hP1:N3 X (w.heap.size+1) (.bool n2) (.slice a2 l2 c2) (.int .i64 x2):=by
  rw[hX]
  have:=((N3.new (w.alloc (.cells #[.bool n1,.slice a1 l1 c1,.int .i64 x1] 43)) (.bool n2) (.slice a2 l2 c2) (.int .i64 x2) 43).alloc #[.bool false,.slice none 0 0,.int .i64 0] 43)
  simpa using this
 have hP2:N3 X (w.heap.size+1+1) (.bool false) (.slice none 0 0) (.int .i64 0):=by
  rw[hX]
  have:=(N3.new ((w.alloc (.cells #[.bool n1,.slice a1 l1 c1,.int .i64 x1] 43)).alloc (.cells #[.bool n2,.slice a2 l2 c2,.int .i64 x2] 43)) (.bool false) (.slice none 0 0) (.int .i64 0) 43)
  simpa using this
 obtain⟨B0,hB0⟩:∃B,B=w.heap.size:=⟨_,rfl⟩
 obtain⟨B1,hB1⟩:∃B,B=B0+1:=⟨_,rfl⟩
 obtain⟨B2,hB2⟩:∃B,B=B1+1:=⟨_,rfl⟩
 rw[←hB0]at hP0
 rw[←hB0,←hB1]at hP1
 rw[←hB0,←hB1,←hB2]at hP2
 have oB:Hid (w.heap.size≤B0∧B0<X.heap.size∧w.heap.size≤B1∧B1<X.heap.size∧w.heap.size≤B2∧B2<X.heap.size):=(show _∧_∧_∧_∧_∧_ from by omega)
 have HR:Hid (∀u,Kept X u→N3 u B2 (.bool false) (.slice none 0 0) (.int .i64 0)):=fun u k=>hP2.kept k
 go_enter Tryz.func41,Tryz.ntmps41
 go_upto_region 1 with fail
 rw[←hX,←hB0,←hB1,←hB2]
 clear hX hXs hB0 hB1 hB2
 obtain⟨p00,p01,p02,p0f⟩:=hP0
 obtain⟨p10,p11,p12,p1f⟩:=hP1
 obtain⟨p20,p21,p22,p2f⟩:=hP2
 go_wp2_with (first|(go_at_call 72;refine(KE.out _ hK).mono ?_;rintro e w2 ⟨v,rfl,hN,k2⟩;obtain⟨vn,va,vl,vc,vx,rfl⟩:=hN.shape;clear p00 p01 p02 p0f;clear p10 p11 p12 p1f;clear p20 p21 p22 p2f;obtain⟨f0,f1,f2,f3⟩:=HR.out _ k2;have hlt:B2<w2.heap.size:=(HR.out _ k2).lt;have hne:B2≠w2.heap.size:=Nat.ne_of_lt hlt))
 have:=res_done B2 oB.out.2.2.2.2.1 oB.out.2.2.2.2.2 hK hN k2 (.bool vn) (.slice va vl vc) (.int .i64 vx)
 exact bodyPost_ret (v:=.agg #[.bool vn,.slice va vl vc,.int .i64 vx]) (by simp[results,Tryz.results41,go_sem,f0,f1,f2,hlt]) rfl ⟨_,rfl,this.1.kept ((Kept.refl _).alloc _ _),this.2.alloc _ _⟩
theorem saddq_walk (qe:Int)(n1:Bool)(a1:Option Addr)(l1 c1:Nat)(x1:Int)(n2:Bool)(a2:Option Addr)(l2 c2:Nat)(x2:Int)(r:Nm)(w:World)
  (KE:Hid (∀u,Kept w u→Calls Tryz.prog 121 #[.agg #[.bool n1,.slice a1 l1 c1,.int .i64 x1],.agg #[.bool n2,.slice a2 l2 c2,.int .i64 x2]] u fun e w'=>∃v,e=.returned (.tuple #[v,.int .i64 qe])∧New u w' v r∧Kept u w')):
  Calls Tryz.prog 94 #[.agg #[.bool n1,.slice a1 l1 c1,.int .i64 x1],.agg #[.bool n2,.slice a2 l2 c2,.int .i64 x2]] w fun e w'=>∃v,e=.returned v∧New w w' v r∧Kept w w':=by
 obtain⟨X,hX⟩:∃X,X=((w.alloc (.cells #[.bool n1,.slice a1 l1 c1,.int .i64 x1] 43)).alloc (.cells #[.bool n2,.slice a2 l2 c2,.int .i64 x2] 43)).alloc (.cells #[.bool false,.slice none 0 0,.int .i64 0] 43):=⟨_,rfl⟩
 have hK:Kept w X:=by rw[hX];exact(((Kept.refl w).alloc _ _).alloc _ _).alloc _ _
 have hXs:X.heap.size=w.heap.size+3:=by rw[hX];simp
 have hP0:N3 X (w.heap.size) (.bool n1) (.slice a1 l1 c1) (.int .i64 x1):=by
  rw[hX]
  have:=(((N3.new (w) (.bool n1) (.slice a1 l1 c1) (.int .i64 x1) 43).alloc #[.bool n2,.slice a2 l2 c2,.int .i64 x2] 43).alloc #[.bool false,.slice none 0 0,.int .i64 0] 43)
  simpa using this
 have hP1:N3 X (w.heap.size+1) (.bool n2) (.slice a2 l2 c2) (.int .i64 x2):=by
  rw[hX]
  have:=((N3.new (w.alloc (.cells #[.bool n1,.slice a1 l1 c1,.int .i64 x1] 43)) (.bool n2) (.slice a2 l2 c2) (.int .i64 x2) 43).alloc #[.bool false,.slice none 0 0,.int .i64 0] 43)
  simpa using this
 have hP2:N3 X (w.heap.size+1+1) (.bool false) (.slice none 0 0) (.int .i64 0):=by
  rw[hX]
  have:=(N3.new ((w.alloc (.cells #[.bool n1,.slice a1 l1 c1,.int .i64 x1] 43)).alloc (.cells #[.bool n2,.slice a2 l2 c2,.int .i64 x2] 43)) (.bool false) (.slice none 0 0) (.int .i64 0) 43)
  simpa using this
 obtain⟨B0,hB0⟩:∃B,B=w.heap.size:=⟨_,rfl⟩
 obtain⟨B1,hB1⟩:∃B,B=B0+1:=⟨_,rfl⟩
 obtain⟨B2,hB2⟩:∃B,B=B1+1:=⟨_,rfl⟩
 rw[←hB0]at hP0
 rw[←hB0,←hB1]at hP1
 rw[←hB0,←hB1,←hB2]at hP2
 have oB:Hid (w.heap.size≤B0∧B0<X.heap.size∧w.heap.size≤B1∧B1<X.heap.size∧w.heap.size≤B2∧B2<X.heap.size):=(show _∧_∧_∧_∧_∧_ from by omega)
 have HR:Hid (∀u,Kept X u→N3 u B2 (.bool false) (.slice none 0 0) (.int .i64 0)):=fun u k=>hP2.kept k
 go_enter Tryz.func94,Tryz.ntmps94
 go_upto_region 1 with fail
 rw[←hX,←hB0,←hB1,←hB2]
 clear hX hXs hB0 hB1 hB2
 obtain⟨p00,p01,p02,p0f⟩:=hP0
 obtain⟨p10,p11,p12,p1f⟩:=hP1
 obtain⟨p20,p21,p22,p2f⟩:=hP2
 go_wp2_with (first|(go_at_call 121;refine(KE.out _ hK).mono ?_;rintro e w2 ⟨v,rfl,hN,k2⟩;obtain⟨vn,va,vl,vc,vx,rfl⟩:=hN.shape;clear p00 p01 p02 p0f;clear p10 p11 p12 p1f;clear p20 p21 p22 p2f;obtain⟨f0,f1,f2,f3⟩:=HR.out _ k2;have hlt:B2<w2.heap.size:=(HR.out _ k2).lt;have hne:B2≠w2.heap.size:=Nat.ne_of_lt hlt))
 have:=res_done B2 oB.out.2.2.2.2.1 oB.out.2.2.2.2.2 hK hN k2 (.bool vn) (.slice va vl vc) (.int .i64 vx)
 exact bodyPost_ret (v:=.agg #[.bool vn,.slice va vl vc,.int .i64 vx]) (by simp[results,Tryz.results94,go_sem,f0,f1,f2,hlt]) rfl ⟨_,rfl,this.1.kept ((Kept.refl _).alloc _ _),this.2.alloc _ _⟩
abbrev zN:Nm:=⟨false,[],0⟩
def mulT (x y:Nm):Nm:=(mulN x y).getD zN
def addT (x y:Nm):Nm:=(addZ x y).getD zN
theorem zN_vld:vld zN=true:=by decide
theorem mulT_vld (x y:Nm):vld (mulT x y)=true:=by
 unfold mulT
 cases h:mulN x y with
 |none=>exact zN_vld
 |some r=>
  unfold mulN at h
  split at h
  ·exact(frm_vld _ _ _ r h).1
  ·cases h
theorem smulT (x y:Nm)(hx:vld x=true)(hy:vld y=true)(v1 v2:Value)(w:World)(hT:Tab w)(h1:NumAt w v1 x)(h2:NumAt w v2 y):Calls Tryz.prog 41 #[v1,v2] w fun e w'=>∃v,e=.returned v∧New w w' v (mulT x y)∧Kept w w':=by
 obtain⟨a1,c1,rfl,s1⟩:=h1.form
 obtain⟨a2,c2,rfl,s2⟩:=h2.form
 unfold mulT
 cases h:mulN x y with
 |some r=>exact smulq_walk 0 _ _ _ _ _ _ _ _ _ _ r w (fun u k=>mulz_ok u (hT.kept k) _ _ _ hx _ _ _ _ _ hy _ _ (s1.kept k) (s2.kept k) r h)
 |none=>exact smulq_walk 2 _ _ _ _ _ _ _ _ _ _ zN w (fun u k=>(mulz_no u (hT.kept k) _ _ _ hx _ _ _ _ _ hy _ _ (s1.kept k) (s2.kept k) h).mono fun e w' ⟨h1,h2⟩=>⟨_,h1,.inl ⟨rfl,rfl⟩,h2⟩)
theorem saddT (x y:Nm)(hx:vld x=true)(hy:vld y=true)(v1 v2:Value)(w:World)(hT:Tab w)(h1:NumAt w v1 x)(h2:NumAt w v2 y):Calls Tryz.prog 94 #[v1,v2] w fun e w'=>∃v,e=.returned v∧New w w' v (addT x y)∧Kept w w':=by
 obtain⟨a1,c1,rfl,s1⟩:=h1.form
 obtain⟨a2,c2,rfl,s2⟩:=h2.form
 unfold addT
 cases h:addZ x y with
 |some r=>exact saddq_walk 0 _ _ _ _ _ _ _ _ _ _ r w (fun u k=>addz_ok u (hT.kept k) _ _ _ hx _ _ _ _ _ hy _ _ (s1.kept k) (s2.kept k) r h)
 |none=>exact saddq_walk 2 _ _ _ _ _ _ _ _ _ _ zN w (fun u k=>(addz_no u (hT.kept k) _ _ _ hx _ _ _ _ _ hy _ _ (s1.kept k) (s2.kept k) h).mono fun e w' ⟨h1,h2⟩=>⟨_,h1,.inl ⟨rfl,rfl⟩,h2⟩)
theorem squot_walk (n1:Bool)(a1:Option Addr)(l1 c1:Nat)(x1:Int)(n2:Bool)(a2:Option Addr)(l2 c2:Nat)(x2:Int)(n s:Int)(o:Bool)(w:World)
  (KE:Hid (∀u,Kept w u→Calls Tryz.prog 68 #[.agg #[.bool n1,.slice a1 l1 c1,.int .i64 x1],.agg #[.bool n2,.slice a2 l2 c2,.int .i64 x2],.int .i64 n,.int .i64 0] u fun e w'=>e=.returned (.tuple #[.int .i64 s,.bool o,.int .i64 0])∧Kept u w')):
  Calls Tryz.prog 40 #[.agg #[.bool n1,.slice a1 l1 c1,.int .i64 x1],.agg #[.bool n2,.slice a2 l2 c2,.int .i64 x2],.int .i64 n] w fun e w'=>e=.returned (.int .i64 s)∧Kept w w':=by
 obtain⟨X,hX⟩:∃X,X=(w.alloc (.cells #[.bool n1,.slice a1 l1 c1,.int .i64 x1] 43)).alloc (.cells #[.bool n2,.slice a2 l2 c2,.int .i64 x2] 43):=⟨_,rfl⟩
 have hK:Kept w X:=by rw[hX];exact((Kept.refl w).alloc _ _).alloc _ _
 have p00:X.cell? ⟨w.heap.size,0,none⟩=some (.bool n1):=by rw[hX];simp[go_sem]
 have p01:X.cell? ⟨w.heap.size,1,none⟩=some (.slice a1 l1 c1):=by rw[hX];simp[go_sem]
 have p02:X.cell? ⟨w.heap.size,2,none⟩=some (.int .i64 x1):=by rw[hX];simp[go_sem]
 have p10:X.cell? ⟨w.heap.size+1,0,none⟩=some (.bool n2):=by rw[hX];simp[go_sem]
 have p11:X.cell? ⟨w.heap.size+1,1,none⟩=some (.slice a2 l2 c2):=by rw[hX];simp[go_sem]
 have p12:X.cell? ⟨w.heap.size+1,2,none⟩=some (.int .i64 x2):=by rw[hX];simp[go_sem]
 have HP:=(show Hid (X.cell? ⟨w.heap.size,0,none⟩=some (.bool n1)∧X.cell? ⟨w.heap.size,1,none⟩=some (.slice a1 l1 c1)∧X.cell? ⟨w.heap.size,2,none⟩=some (.int .i64 x1)∧X.cell? ⟨w.heap.size+1,0,none⟩=some (.bool n2)∧X.cell? ⟨w.heap.size+1,1,none⟩=some (.slice a2 l2 c2)∧X.cell? ⟨w.heap.size+1,2,none⟩=some (.int .i64 x2))from⟨p00,p01,p02,p10,p11,p12⟩)
 clear p00 p01 p02 p10 p11 p12
 go_enter Tryz.func40,Tryz.ntmps40
 go_upto_region 1 with fail
 rw[←hX]
 clear hX
 obtain⟨p00,p01,p02,p10,p11,p12⟩:=HP.out
 go_wp2_with (first|(go_at_call 68;refine(KE.out _ hK).mono ?_;rintro e w2 ⟨rfl,k2⟩))
 go_ret
 exact⟨rfl,hK.trans k2⟩
theorem rootq_nil (n1:Bool)(a1:Option Addr)(c1:Nat)(x1:Int)(n2:Bool)(a2:Option Addr)(l2 c2:Nat)(x2:Int)(w:World):Calls Tryz.prog 143 #[.agg #[.bool n1,.slice a1 0 c1,.int .i64 x1],.agg #[.bool n2,.slice a2 l2 c2,.int .i64 x2]] w fun e w'=>e=.returned (.agg #[.bool false,.int .i64 0,.int .i64 0,.bool false])∧Kept w w':=by
 have hK:Kept w (((w.alloc (.cells #[.bool n1,.slice a1 0 c1,.int .i64 x1] 43)).alloc (.cells #[.bool n2,.slice a2 l2 c2,.int .i64 x2] 43)).alloc (.cells #[.bool false,.int .i64 0,.int .i64 0,.bool false] 117)):=(((Kept.refl w).alloc _ _).alloc _ _).alloc _ _
 go_enter Tryz.func143,Tryz.ntmps143
 go_wp2
 refine bodyPost_ret (v:=.agg #[.bool false,.int .i64 0,.int .i64 0,.bool false]) (by simp[results,Tryz.results143,go_sem]) rfl ⟨rfl,?_⟩
 exact hK
theorem vld_bounds (a:Nm)(ha:vld a=true):Rg a.mag∧a.mag.length≤2000∧-1048576≤a.exp∧a.exp≤1048576:=by
 obtain⟨h1,h2⟩:=vld_dg a.neg a.mag a.exp ha
 obtain⟨h3,h4⟩:=vld_exp a ha
 exact⟨fun d hd=>by have:=h2 d hd;omega,h1,h3,h4⟩
end Go.Proofs.YtnniljhdcplkgaaGreatDoor

namespace Go.Proofs.YtnniljhdcplkgaaGreatDoor
open Go.ChangeShapes Go.WideShapes Go.ChangeAt Go.RowKit
set_option maxHeartbeats 16000000
set_option maxRecDepth 100000
set_option linter.unusedVariables false
set_option linter.unusedSimpArgs false
theorem kept_map (w:World)(es:Array MapEntry)(c:Nat):Kept w (w.alloc (.map es c)):=by
 refine⟨(Below.refl _ _).alloc (Nat.le_refl _) _,fun x=>?_⟩
 by_cases h:x.block=w.heap.size
 ·have e1:(w.alloc (.map es c)).heap[x.block]?=some (.map es c):=by rw[h];exact(MapKept.heap_alloc w _).1
  have e2:w.heap[x.block]?=none:=by rw[h];simp
  simp[World.frozen?,e1,e2]
 ·have e1:(w.alloc (.map es c)).heap[x.block]?=w.heap[x.block]?:=by
   rcases Nat.lt_or_ge x.block w.heap.size with h1|h1
   ·exact(MapKept.heap_alloc w _).2 _ h1
   ·have:(w.alloc (.map es c)).heap.size≤x.block:=by simp;omega
    rw[Array.getElem?_eq_none this,Array.getElem?_eq_none h1]
  exact World.frozen?_of_block e1
theorem upd_new (w:World)(es:Array MapEntry)(c:Nat)(key:Int)(val:Value)(hf:Instr.findNow (.int .i64) (.int .i64 key) es.toList 0=some none):(Instr.mapUpdate 61 (.map (some w.heap.size)) (.int .i64 key) val).run Tryz.prog (w.alloc (.map es c))=.ok () (w.alloc (.map (es.push ⟨.int .i64 key,val,c⟩) (c+1))):=by
 have hb:=(MapKept.heap_alloc w (.map es c)).1
 have hs:({ w.alloc (.map es c)with heap:=(w.alloc (.map es c)).heap.setIfInBounds w.heap.size (.map (es.push ⟨.int .i64 key,val,c⟩) (c+1)) }:World)=w.alloc (.map (es.push ⟨.int .i64 key,val,c⟩) (c+1)):=by
  have e:∀a b:Obj,(w.heap.push a).setIfInBounds w.heap.size b=w.heap.push b:=fun a b=>by
   apply Array.ext'
   rw[Array.toList_setIfInBounds,Array.toList_push,Array.toList_push,List.set_append_right _ _ (by simp)]
   simp
  show({ w with heap:=(w.heap.push (.map es c)).setIfInBounds w.heap.size _ }:World)={ w with heap:=w.heap.push _ }
  rw[e]
 have h1:=MapKept.run_findKey (P:=Tryz.prog) (w:=w.alloc (.map es c)) Tryz.underlying3 hf
 have h2:=MapKept.run_checkKey (P:=Tryz.prog) (w:=w.alloc (.map es c)) (k:=.int .i64 key) Tryz.underlying3 rfl false 9999
 simp[Instr.mapUpdate,run_underlying Tryz.underlying61,MapKept.run_getObj_map hb,h1,h2,MapKept.run_setObj_map _ hb,Result.andThen]
 exact hs
def kEs:Array MapEntry:=#[⟨.int .i64 0,.func (.func 61) #[] #[],0⟩,⟨.int .i64 1,.func (.func 62) #[] #[],1⟩,⟨.int .i64 2,.func (.func 63) #[] #[],2⟩,⟨.int .i64 3,.func (.func 64) #[] #[],3⟩,⟨.int .i64 4,.func (.func 65) #[] #[],4⟩,⟨.int .i64 5,.func (.func 66) #[] #[],5⟩]
theorem allKinds_any (w:World):Calls Tryz.prog 38 #[] w fun e w'=>e=.returned (.map (some w.heap.size))∧w'=w.alloc (.map kEs 6):=by
 have hmm:=@run_makeMap Tryz.prog
 have u0:=upd_new w #[] 0 0 (.func (.func 61) #[] #[]) rfl
 have u1:=upd_new w #[⟨.int .i64 0,.func (.func 61) #[] #[],0⟩] 1 1 (.func (.func 62) #[] #[]) rfl
 have u2:=upd_new w #[⟨.int .i64 0,.func (.func 61) #[] #[],0⟩,⟨.int .i64 1,.func (.func 62) #[] #[],1⟩] 2 2 (.func (.func 63) #[] #[]) rfl
 have u3:=upd_new w #[⟨.int .i64 0,.func (.func 61) #[] #[],0⟩,⟨.int .i64 1,.func (.func 62) #[] #[],1⟩,⟨.int .i64 2,.func (.func 63) #[] #[],2⟩] 3 3 (.func (.func 64) #[] #[]) rfl
 have u4:=upd_new w #[⟨.int .i64 0,.func (.func 61) #[] #[],0⟩,⟨.int .i64 1,.func (.func 62) #[] #[],1⟩,⟨.int .i64 2,.func (.func 63) #[] #[],2⟩,⟨.int .i64 3,.func (.func 64) #[] #[],3⟩] 4 4 (.func (.func 65) #[] #[]) rfl
 have u5:=upd_new w #[⟨.int .i64 0,.func (.func 61) #[] #[],0⟩,⟨.int .i64 1,.func (.func 62) #[] #[],1⟩,⟨.int .i64 2,.func (.func 63) #[] #[],2⟩,⟨.int .i64 3,.func (.func 64) #[] #[],3⟩,⟨.int .i64 4,.func (.func 65) #[] #[],4⟩] 5 5 (.func (.func 66) #[] #[]) rfl
 simp only[List.push_toArray,List.nil_append,List.cons_append]at u0 u1 u2 u3 u4 u5
 go_enter Tryz.func38,Tryz.ntmps38
 go_wp2
 go_ret
 exact⟨rfl,rfl⟩
def kFn (x:Int):Value:=if x=0 then .func (.func 61) #[] #[]else if x=1 then .func (.func 62) #[] #[]else if x=2 then .func (.func 63) #[] #[]else if x=3 then .func (.func 64) #[] #[]else if x=4 then .func (.func 65) #[] #[]else if x=5 then .func (.func 66) #[] #[]else .nilFunc
theorem look_kinds (w:World)(x:Int):(Instr.lookup 61 (.map (some w.heap.size)) (.int .i64 x) true).run Tryz.prog (w.alloc (.map kEs 6))=.ok (.tuple #[kFn x,.bool (decide (0≤x∧x≤5))]) (w.alloc (.map kEs 6)):=by
 have hb:=(MapKept.heap_alloc w (.map kEs 6)).1
 have h2:=MapKept.run_checkKey (P:=Tryz.prog) (w:=w.alloc (.map kEs 6)) (k:=.int .i64 x) Tryz.underlying3 rfl kEs.isEmpty 9999
 have hz:(zeroValue 34).run Tryz.prog (w.alloc (.map kEs 6))=.ok .nilFunc (w.alloc (.map kEs 6)):=by kernel_rfl
 have key:∀(r:Option (Nat×Value)) (v:Value) (ok:Bool),Instr.findNow (.int .i64) (.int .i64 x) kEs.toList 0=some r→((∃i,r=some (i,v)∧ok=true)∨(r=none∧v=.nilFunc∧ok=false))→(Instr.lookup 61 (.map (some w.heap.size)) (.int .i64 x) true).run Tryz.prog (w.alloc (.map kEs 6))=.ok (.tuple #[v,.bool ok]) (w.alloc (.map kEs 6)):=fun r v ok hf hr=>by
  have h1:=MapKept.run_findKey (P:=Tryz.prog) (w:=w.alloc (.map kEs 6)) Tryz.underlying3 hf
  rcases hr with ⟨i,rfl,rfl⟩|⟨rfl,rfl,rfl⟩
  ·simp[Instr.lookup,run_underlying Tryz.underlying61,MapKept.run_getObj_map hb,h1,h2,Result.andThen]
  ·simp[Instr.lookup,run_underlying Tryz.underlying61,MapKept.run_getObj_map hb,h1,h2,hz,Result.andThen]
 by_cases h0:0≤x∧x≤5
 ·rw[decide_eq_true h0]
  rcases(show x=0∨x=1∨x=2∨x=3∨x=4∨x=5 by omega)with rfl|rfl|rfl|rfl|rfl|rfl
  ·exact key _ _ _ rfl (.inl ⟨0,rfl,rfl⟩)
  ·exact key _ _ _ rfl (.inl ⟨1,rfl,rfl⟩)
  ·exact key _ _ _ rfl (.inl ⟨2,rfl,rfl⟩)
  ·exact key _ _ _ rfl (.inl ⟨3,rfl,rfl⟩)
  ·exact key _ _ _ rfl (.inl ⟨4,rfl,rfl⟩)
  ·exact key _ _ _ rfl (.inl ⟨5,rfl,rfl⟩)
 ·rw[decide_eq_false h0]
  have e0:(x==0)=false:=by simp;omega
  have e1:(x==1)=false:=by simp;omega
  have e2:(x==2)=false:=by simp;omega
  have e3:(x==3)=false:=by simp;omega
  have e4:(x==4)=false:=by simp;omega
  have e5:(x==5)=false:=by simp;omega
  have ek:kFn x=.nilFunc:=by unfold kFn;rw[if_neg (by omega),if_neg (by omega),if_neg (by omega),if_neg (by omega),if_neg (by omega),if_neg (by omega)]
  rw[ek]
  exact key none _ _ (by simp[kEs,Instr.findNow,Instr.sameNow,e0,e1,e2,e3,e4,e5]) (.inr ⟨rfl,rfl,rfl⟩)
theorem kindOf_any (x:Int)(w:World):Calls Tryz.prog 19 #[.int .i64 x] w fun e w'=>e=.returned (.tuple #[kFn x,.bool (decide (0≤x∧x≤5))])∧Kept w w':=by
 have hl:=look_kinds w x
 obtain⟨fx,hfx⟩:∃f,kFn x=f:=⟨_,rfl⟩
 obtain⟨bx,hbx⟩:∃b,decide (0≤x∧x≤5)=b:=⟨_,rfl⟩
 rw[hfx,hbx]at hl ⊢
 have HK:Hid (Kept w (w.alloc (.map kEs 6))):=kept_map w _ _
 clear hfx hbx
 go_enter Tryz.func19,Tryz.ntmps19
 go_wp2_with fail
 refine(allKinds_any _).mono ?_
 rintro e w1 ⟨rfl,rfl⟩
 go_wp2_with fail
 exact bodyPost_ret (v:=.tuple #[fx,.bool bx]) (by simp[results,Tryz.results19,go_sem]) rfl ⟨rfl,HK.out⟩
end Go.Proofs.YtnniljhdcplkgaaGreatDoor

namespace Go.Proofs.YtnniljhdcplkgaaGreatDoor
open Go.ChangeShapes Go.WideShapes Go.ChangeAt Go.RowKit
set_option maxHeartbeats 16000000
set_option maxRecDepth 100000
set_option linter.unusedVariables false
set_option linter.unusedSimpArgs false
theorem share_walk (b:Int)(n1:Bool)(a1:Option Addr)(l1 c1:Nat)(x1:Int)(n2:Bool)(a2:Option Addr)(l2 c2:Nat)(x2:Int)(x y:Nm)(s:Int)(w:World)
  (KO:Hid (∀u,Kept w u→Calls Tryz.prog 42 #[.int .i64 b,.int .i64 64] u fun e w'=>∃v,e=.returned v∧New u w' v x∧Kept u w'))
  (KM:Hid (∀u v,Kept w u→NumAt u v x→Calls Tryz.prog 41 #[v,.agg #[.bool n1,.slice a1 l1 c1,.int .i64 x1]] u fun e w'=>∃v,e=.returned v∧New u w' v y∧Kept u w'))
  (KQ:Hid (∀u v,Kept w u→NumAt u v y→Calls Tryz.prog 40 #[v,.agg #[.bool n2,.slice a2 l2 c2,.int .i64 x2],.int .i64 64] u fun e w'=>e=.returned (.int .i64 s)∧Kept u w')):
  Calls Tryz.prog 22 #[.int .i64 b,.agg #[.bool n1,.slice a1 l1 c1,.int .i64 x1],.agg #[.bool n2,.slice a2 l2 c2,.int .i64 x2]] w fun e w'=>e=.returned (.int .i64 s)∧Kept w w':=by
 obtain⟨X,hX⟩:∃X,X=(w.alloc (.cells #[.bool n1,.slice a1 l1 c1,.int .i64 x1] 43)).alloc (.cells #[.bool n2,.slice a2 l2 c2,.int .i64 x2] 43):=⟨_,rfl⟩
 have hK:Kept w X:=by rw[hX];exact((Kept.refl w).alloc _ _).alloc _ _
 have HS0:Hid (∀u,Kept X u→(u.cell? ⟨w.heap.size,0,none⟩=some (.bool n1)∧u.cell? ⟨w.heap.size,1,none⟩=some (.slice a1 l1 c1)∧u.cell? ⟨w.heap.size,2,none⟩=some (.int .i64 x1))∧(u.cell? ⟨w.heap.size+1,0,none⟩=some (.bool n2)∧u.cell? ⟨w.heap.size+1,1,none⟩=some (.slice a2 l2 c2)∧u.cell? ⟨w.heap.size+1,2,none⟩=some (.int .i64 x2))):=fun u k=>by
  have hs:X.heap.size=w.heap.size+2:=by rw[hX];simp
  refine⟨⟨(k.below.cell (p:=⟨w.heap.size,0,none⟩) (by simp only;omega)).trans ?_,(k.below.cell (p:=⟨w.heap.size,1,none⟩) (by simp only;omega)).trans ?_,(k.below.cell (p:=⟨w.heap.size,2,none⟩) (by simp only;omega)).trans ?_⟩,⟨(k.below.cell (p:=⟨w.heap.size+1,0,none⟩) (by simp only;omega)).trans ?_,(k.below.cell (p:=⟨w.heap.size+1,1,none⟩) (by simp only;omega)).trans ?_,(k.below.cell (p:=⟨w.heap.size+1,2,none⟩) (by simp only;omega)).trans ?_⟩⟩<;>(rw[hX];simp[go_sem])
 obtain⟨B0,hB0⟩:∃B,B=w.heap.size:=⟨_,rfl⟩
 obtain⟨B1,hB1⟩:∃B,B=w.heap.size+1:=⟨_,rfl⟩
 rw[←hB1,←hB0]at HS0
 have HS:Hid (∀u,Kept X u→Kept X u∧(u.cell? ⟨B0,0,none⟩=some (.bool n1)∧u.cell? ⟨B0,1,none⟩=some (.slice a1 l1 c1)∧u.cell? ⟨B0,2,none⟩=some (.int .i64 x1))∧(u.cell? ⟨B1,0,none⟩=some (.bool n2)∧u.cell? ⟨B1,1,none⟩=some (.slice a2 l2 c2)∧u.cell? ⟨B1,2,none⟩=some (.int .i64 x2))):=fun u k=>⟨k,HS0.out u k⟩
 go_enter Tryz.func22,Tryz.ntmps22
 go_upto_region 1 with fail
 rw[←hX,←hB1,←hB0]
 clear hX hB0 hB1
 refine wp_region_held_drew (S:=fun u=>Kept X u∧(u.cell? ⟨B0,0,none⟩=some (.bool n1)∧u.cell? ⟨B0,1,none⟩=some (.slice a1 l1 c1)∧u.cell? ⟨B0,2,none⟩=some (.int .i64 x1))∧(u.cell? ⟨B1,0,none⟩=some (.bool n2)∧u.cell? ⟨B1,1,none⟩=some (.slice a2 l2 c2)∧u.cell? ⟨B1,2,none⟩=some (.int .i64 x2))) (by kernel_rfl) (HS.out _ (Kept.refl X).drew) (fun hHeld=>?_)
 refine tk (i:=0) (v:=?_) rfl ?_
 simp only[Act.put,zA,zB,zC,zD,zE,zF]
 refine tk (i:=2) (v:=?_) rfl ?_
 simp only[Act.put,zA,zB,zC,zD,zE,zF]
 refine tk (i:=4) (v:=?_) rfl ?_
 simp only[Act.put,zA,zB,zC,zD,zE,zF]
 refine wpAnyH_ready (rs:=[1]) (by kernel_rfl) (by simp) ?_
 refine AllReadyH.cons rfl (fun K hK9=>?_) AllReadyH.nil
 go_simp
 go_wp2_with fail
 refine(KO.out _ (hK.trans (Kept.refl X).drew)).mono ?_
 rintro e u1 ⟨v1,rfl,N1,k1⟩
 have q1:=(Kept.refl X).drew.trans k1
 have e1:=HS.out _ q1
 refine hK9.out _ _ e1 (fun hHeld1=>?_)
 clear hK9 K
 (try simp only[Act.put,zA,zB,zC,zD,zE,zF])
 refine wpAnyH_ready (rs:=[3]) (by kernel_rfl) (by simp) ?_
 refine AllReadyH.cons rfl (fun K hK9=>?_) AllReadyH.nil
 go_simp
 go_wp2_with fail
 refine(KM.out _ _ (hK.trans q1) N1.numAt).mono ?_
 rintro e u2 ⟨v2,rfl,N2,k2⟩
 have q2:=q1.trans k2
 have e2:=HS.out _ q2
 refine hK9.out _ _ e2 (fun hHeld2=>?_)
 clear hK9 K
 (try simp only[Act.put,zA,zB,zC,zD,zE,zF])
 refine wpAnyH_ready (rs:=[5]) (by kernel_rfl) (by simp) ?_
 refine AllReadyH.cons rfl (fun K hK9=>?_) AllReadyH.nil
 go_simp
 go_wp2_with fail
 refine(KQ.out _ _ (hK.trans q2) N2.numAt).mono ?_
 rintro e u3 ⟨rfl,k3⟩
 have q3:=q2.trans k3
 have e3:=HS.out _ q3
 refine hK9.out _ _ e3 (fun hHeld3=>?_)
 clear hK9 K
 (try simp only[Act.put,zA,zB,zC,zD,zE,zF])
 refine tk (i:=6) (v:=?_) rfl ?_
 simp only[Act.put,zA,zB,zC,zD,zE,zF]
 refine wpAnyH_done (by kernel_rfl) ?_ _
 go_wp2_with fail
 go_ret
 exact⟨rfl,hK.trans q3⟩
end Go.Proofs.YtnniljhdcplkgaaGreatDoor
