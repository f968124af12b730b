/-  -/
import Derived.Test.YtnniljhdcplkgaaGreatDoorWs50
namespace Go.Proofs.YtnniljhdcplkgaaGreatDoor
open Go.ChangeShapes Go.WideShapes Go.ChangeAt Go.RowKit Go.Joins
set_option maxHeartbeats 16000000
set_option maxRecDepth 100000
set_option linter.unusedVariables false
set_option linter.unusedSimpArgs false
theorem cells_sched:Tryz.prog.cellsOf 23=6:=by kernel_rfl
section
variable {H:Type} {enc:TypeId×Value→H} {W:World}
theorem array6k {cs:Array Value}(h:cs.size=6):∃c0 c1 c2 c3 c4 c5,cs=#[c0,c1,c2,c3,c4,c5]:=by
 obtain⟨l⟩:=cs
 match l,h with
 |[c0,c1,c2,c3,c4,c5],_=>exact⟨c0,c1,c2,c3,c4,c5,rfl⟩
theorem open_sched {b0:Nat}{v:Value}{d:DataW H}{p:List MemPlace}(hv:Value.okWide Tryz.prog W .any b0 23 v)(h:DataW.Trod enc Tryz.prog W 0 (fun _=>true) true 23 v d p):
  ∃(k r c n a b:Int),v=.agg #[.int .i64 k,.int .i64 r,.int .i64 c,.int .i64 n,.int .i64 a,.int .i64 b]∧(Lit.int .i64 r).wf=true∧(Lit.int .i64 c).wf=true:=by
 obtain⟨cs,rfl,hsz⟩:=okWide_struct Tryz.underlying23 hv
 obtain⟨c0,c1,c2,c3,c4,c5,rfl⟩:=array6k (hsz.trans cells_sched)
 obtain⟨fuel,hf⟩:=h
 obtain⟨xs,n,-,-,-,hlen,hg⟩:=DataW.trod_struct Tryz.underlying23 hf
 match xs,hlen with
 |[y0,y1,y2,y3,y4,y5],_=>
  have h0:=hg 0 { name:="Kind",type:=3,offset:=0,embedded:=false,tag:="",pkgPath:="",byteOffset:=0 } rfl
  have h1:=hg 1 { name:="Base",type:=3,offset:=1,embedded:=false,tag:="",pkgPath:="",byteOffset:=8 } rfl
  have h2:=hg 2 { name:="Factor",type:=3,offset:=2,embedded:=false,tag:="",pkgPath:="",byteOffset:=16 } rfl
  have h3:=hg 3 { name:="Warm",type:=3,offset:=3,embedded:=false,tag:="",pkgPath:="",byteOffset:=24 } rfl
  have h4:=hg 4 { name:="Every",type:=3,offset:=4,embedded:=false,tag:="",pkgPath:="",byteOffset:=32 } rfl
  have h5:=hg 5 { name:="Total",type:=3,offset:=5,embedded:=false,tag:="",pkgPath:="",byteOffset:=40 } rfl
  simp only[Value.cells,cells_int,List.drop_zero,List.drop_succ_cons,List.take_succ_cons,List.take_zero,List.getElem?_cons_zero,List.getElem?_cons_succ]at h0 h1 h2 h3 h4 h5
  obtain⟨x0,e0,-,w0⟩:=DataW.trod_int Tryz.underlying3 h0
  obtain⟨x1,e1,-,w1⟩:=DataW.trod_int Tryz.underlying3 h1
  obtain⟨x2,e2,-,w2⟩:=DataW.trod_int Tryz.underlying3 h2
  obtain⟨x3,e3,-,w3⟩:=DataW.trod_int Tryz.underlying3 h3
  obtain⟨x4,e4,-,w4⟩:=DataW.trod_int Tryz.underlying3 h4
  obtain⟨x5,e5,-,w5⟩:=DataW.trod_int Tryz.underlying3 h5
  simp only[Value.cells,cells_int,List.drop_zero,List.drop_succ_cons,List.take_succ_cons,List.take_zero,List.cons.injEq,and_true]at e0 e1 e2 e3 e4 e5
  subst e0 e1 e2 e3 e4 e5
  exact⟨x0,x1,x2,x3,x4,x5,rfl,w1,w2⟩
end
end Go.Proofs.YtnniljhdcplkgaaGreatDoor
