/-  -/
import Derived.Test.YtnniljhdcplkgaaGreatDoorWs10
import Derived.Test.YtnniljhdcplkgaaGreatDoorWs09
import Derived.BigRegion
namespace Go.Proofs.YtnniljhdcplkgaaGreatDoor
open Go.ChangeShapes Go.WideShapes Go.ChangeAt Go.RowKit
set_option maxHeartbeats 16000000
set_option maxRecDepth 100000
set_option linter.unusedVariables false
set_option linter.unusedSimpArgs false
abbrev pairC (n1:Bool)(s1:Value)(x1:Int)(n2:Bool)(s2:Value)(x2:Int):Array Value:=#[.bool n1,s1,.int .i64 x1,.bool n2,s2,.int .i64 x2]
theorem addz_in_ok (w:World)(hT:Tab w)(n1:Bool)(L1:List Int)(x1:Int)(hv1:vld ⟨n1,L1,x1⟩=true)(a1:Option Addr)(c1:Nat)(n2:Bool)(L2:List Int)(x2:Int)(hv2:vld ⟨n2,L2,x2⟩=true)(a2:Option Addr)(c2:Nat)(h1:Sl w (.slice a1 L1.length c1) L1)(h2:Sl w (.slice a2 L2.length c2) L2)(r:Nm)(hf:addZ ⟨n1,L1,x1⟩ ⟨n2,L2,x2⟩=some r)(p q:Nat)(hp:p<w.heap.size)(hq:q<w.heap.size)(cp0:w.cell? ⟨p,0,none⟩=some (.bool n1))(cp1:w.cell? ⟨p,1,none⟩=some (.slice a1 L1.length c1))(cp2:w.cell? ⟨p,2,none⟩=some (.int .i64 x1))(cq0:w.cell? ⟨q,0,none⟩=some (.bool n2))(cq1:w.cell? ⟨q,1,none⟩=some (.slice a2 L2.length c2))(cq2:w.cell? ⟨q,2,none⟩=some (.int .i64 x2)):Calls Tryz.prog 144 #[.pointer (some ⟨p,0,none⟩),.pointer (some ⟨q,0,none⟩)] w fun e w'=>(∃v,e=.returned v∧New w w' v r)∧Kept w w':=by
 have hK:Kept w (numW w):=(Kept.refl w).alloc _ _
 have hK2:Kept (numW w) ((numW w).alloc (.cells (pairC n1 (.slice a1 L1.length c1) x1 n2 (.slice a2 L2.length c2) x2) 43)):=(Kept.refl _).alloc _ _
 have KS:Hid (Calls Tryz.prog 145 #[.slice (some ⟨w.heap.size+1,0,none⟩) 2 2] ((numW w).alloc (.cells (pairC n1 (.slice a1 L1.length c1) x1 n2 (.slice a2 L2.length c2) x2) 43)) fun e w'=>ToldR (some r) ((numW w).alloc (.cells (pairC n1 (.slice a1 L1.length c1) x1 n2 (.slice a2 L2.length c2) x2) 43)) w' e∧Kept (numW w) w'):=by
  have:=sum_any ((numW w).alloc (.cells (pairC n1 (.slice a1 L1.length c1) x1 n2 (.slice a2 L2.length c2) x2) 43)) (w.heap.size+1) (by simp) (hT.kept (hK.trans hK2)) n1 L1 x1 (fun _=>hv1) (vld_zero n1 L1 x1 hv1) a1 c1 (h1.kept (hK.trans hK2)) n2 L2 x2 (fun _=>hv2) (vld_zero n2 L2 x2 hv2) a2 c2 (h2.kept (hK.trans hK2)) (by simp[go_sem]) (by simp[go_sem]) (by simp[go_sem]) (by simp[go_sem]) (by simp[go_sem]) (by simp[go_sem]) (some r) hf
  refine this.mono ?_
  rintro e w' ⟨hr,k⟩
  exact⟨hr,hK2.trans k⟩
 have ep0:(numW w).cell? ⟨p,0,none⟩=some (.bool n1):=(hK.below.cell (p:=⟨p,0,none⟩) hp).trans cp0
 have ep1:(numW w).cell? ⟨p,1,none⟩=some (.slice a1 L1.length c1):=(hK.below.cell (p:=⟨p,1,none⟩) hp).trans cp1
 have ep2:(numW w).cell? ⟨p,2,none⟩=some (.int .i64 x1):=(hK.below.cell (p:=⟨p,2,none⟩) hp).trans cp2
 have eq0:(numW w).cell? ⟨q,0,none⟩=some (.bool n2):=(hK.below.cell (p:=⟨q,0,none⟩) hq).trans cq0
 have eq1:(numW w).cell? ⟨q,1,none⟩=some (.slice a2 L2.length c2):=(hK.below.cell (p:=⟨q,1,none⟩) hq).trans cq1
 have eq2:(numW w).cell? ⟨q,2,none⟩=some (.int .i64 x2):=(hK.below.cell (p:=⟨q,2,none⟩) hq).trans cq2
 clear h1 h2 hT hf hv1 hv2 cp0 cp1 cp2 cq0 cq1 cq2
 generalize L1.length=l1 at *
 generalize L2.length=l2 at *
 go_enter Tryz.func144,Tryz.ntmps144
 go_wp2_with (first|(go_at_call 145;refine KS.out.mono ?_;rintro e w1 ⟨⟨v,rfl,hN⟩,hk1⟩;obtain⟨vn,va,vl,vc,vx,rfl⟩:=hN.shape;obtain⟨f0,f1,f2,f3⟩:=num_cells hk1))
 have:=num_done (hN.from hK2) hk1 (.bool vn) (.slice va vl vc) (.int .i64 vx)
 exact bodyPost_ret (v:=.agg #[.bool vn,.slice va vl vc,.int .i64 vx]) (by simp[results,Tryz.results144,go_sem,f0,f1,f2]) rfl ⟨⟨_,rfl,this.1⟩,this.2⟩
theorem addz_in_no (w:World)(hT:Tab w)(n1:Bool)(L1:List Int)(x1:Int)(hv1:vld ⟨n1,L1,x1⟩=true)(a1:Option Addr)(c1:Nat)(n2:Bool)(L2:List Int)(x2:Int)(hv2:vld ⟨n2,L2,x2⟩=true)(a2:Option Addr)(c2:Nat)(h1:Sl w (.slice a1 L1.length c1) L1)(h2:Sl w (.slice a2 L2.length c2) L2)(hf:addZ ⟨n1,L1,x1⟩ ⟨n2,L2,x2⟩=none)(p q:Nat)(hp:p<w.heap.size)(hq:q<w.heap.size)(cp0:w.cell? ⟨p,0,none⟩=some (.bool n1))(cp1:w.cell? ⟨p,1,none⟩=some (.slice a1 L1.length c1))(cp2:w.cell? ⟨p,2,none⟩=some (.int .i64 x1))(cq0:w.cell? ⟨q,0,none⟩=some (.bool n2))(cq1:w.cell? ⟨q,1,none⟩=some (.slice a2 L2.length c2))(cq2:w.cell? ⟨q,2,none⟩=some (.int .i64 x2)):Calls Tryz.prog 144 #[.pointer (some ⟨p,0,none⟩),.pointer (some ⟨q,0,none⟩)] w fun e w'=>e=.panicked gaveUp∧Kept w w':=by
 have hK:Kept w (numW w):=(Kept.refl w).alloc _ _
 have hK2:Kept (numW w) ((numW w).alloc (.cells (pairC n1 (.slice a1 L1.length c1) x1 n2 (.slice a2 L2.length c2) x2) 43)):=(Kept.refl _).alloc _ _
 have KS:Hid (Calls Tryz.prog 145 #[.slice (some ⟨w.heap.size+1,0,none⟩) 2 2] ((numW w).alloc (.cells (pairC n1 (.slice a1 L1.length c1) x1 n2 (.slice a2 L2.length c2) x2) 43)) fun e w'=>ToldR (none) ((numW w).alloc (.cells (pairC n1 (.slice a1 L1.length c1) x1 n2 (.slice a2 L2.length c2) x2) 43)) w' e∧Kept (numW w) w'):=by
  have:=sum_any ((numW w).alloc (.cells (pairC n1 (.slice a1 L1.length c1) x1 n2 (.slice a2 L2.length c2) x2) 43)) (w.heap.size+1) (by simp) (hT.kept (hK.trans hK2)) n1 L1 x1 (fun _=>hv1) (vld_zero n1 L1 x1 hv1) a1 c1 (h1.kept (hK.trans hK2)) n2 L2 x2 (fun _=>hv2) (vld_zero n2 L2 x2 hv2) a2 c2 (h2.kept (hK.trans hK2)) (by simp[go_sem]) (by simp[go_sem]) (by simp[go_sem]) (by simp[go_sem]) (by simp[go_sem]) (by simp[go_sem]) (none) hf
  refine this.mono ?_
  rintro e w' ⟨hr,k⟩
  exact⟨hr,hK2.trans k⟩
 have ep0:(numW w).cell? ⟨p,0,none⟩=some (.bool n1):=(hK.below.cell (p:=⟨p,0,none⟩) hp).trans cp0
 have ep1:(numW w).cell? ⟨p,1,none⟩=some (.slice a1 L1.length c1):=(hK.below.cell (p:=⟨p,1,none⟩) hp).trans cp1
 have ep2:(numW w).cell? ⟨p,2,none⟩=some (.int .i64 x1):=(hK.below.cell (p:=⟨p,2,none⟩) hp).trans cp2
 have eq0:(numW w).cell? ⟨q,0,none⟩=some (.bool n2):=(hK.below.cell (p:=⟨q,0,none⟩) hq).trans cq0
 have eq1:(numW w).cell? ⟨q,1,none⟩=some (.slice a2 L2.length c2):=(hK.below.cell (p:=⟨q,1,none⟩) hq).trans cq1
 have eq2:(numW w).cell? ⟨q,2,none⟩=some (.int .i64 x2):=(hK.below.cell (p:=⟨q,2,none⟩) hq).trans cq2
 clear h1 h2 hT hf hv1 hv2 cp0 cp1 cp2 cq0 cq1 cq2
 generalize L1.length=l1 at *
 generalize L2.length=l2 at *
 go_enter Tryz.func144,Tryz.ntmps144
 go_wp2_with (first|(go_at_call 145;refine KS.out.mono ?_;rintro e w1 ⟨hr,hk1⟩;obtain rfl:e=.panicked gaveUp:=hr))
 exact⟨rfl,rfl,hK.trans hk1⟩
abbrev addW (w:World)(v1 v2 c:Array Value):World:=(((w.alloc (.cells v1 43)).alloc (.cells v2 43)).alloc nilNum).alloc (.cells c 43)
theorem addW_kept (w:World)(v1 v2 c:Array Value):Kept w (addW w v1 v2 c):=((((Kept.refl w).alloc _ _).alloc _ _).alloc _ _).alloc _ _
theorem addz_ok (w:World)(hT:Tab w)(n1:Bool)(L1:List Int)(x1:Int)(hv1:vld ⟨n1,L1,x1⟩=true)(a1:Option Addr)(c1:Nat)(n2:Bool)(L2:List Int)(x2:Int)(hv2:vld ⟨n2,L2,x2⟩=true)(a2:Option Addr)(c2:Nat)(h1:Sl w (.slice a1 L1.length c1) L1)(h2:Sl w (.slice a2 L2.length c2) L2)(r:Nm)(hf:addZ ⟨n1,L1,x1⟩ ⟨n2,L2,x2⟩=some r):Calls Tryz.prog 121 #[.agg #[.bool n1,.slice a1 L1.length c1,.int .i64 x1],.agg #[.bool n2,.slice a2 L2.length c2,.int .i64 x2]] w fun e w'=>∃v,e=.returned (.tuple #[v,.int .i64 0])∧New w w' v r∧Kept w w':=by
 have hW:=addW_kept w #[.bool n1,.slice a1 L1.length c1,.int .i64 x1] #[.bool n2,.slice a2 L2.length c2,.int .i64 x2] (pairC n1 (.slice a1 L1.length c1) x1 n2 (.slice a2 L2.length c2) x2)
 have hd1:=vld_dg _ _ _ hv1
 have hd2:=vld_dg _ _ _ hv2
 have KV:Hid (∀w',Kept (addW w #[.bool n1,.slice a1 L1.length c1,.int .i64 x1] #[.bool n2,.slice a2 L2.length c2,.int .i64 x2] (pairC n1 (.slice a1 L1.length c1) x1 n2 (.slice a2 L2.length c2) x2)) w'→Calls Tryz.prog 124 #[.slice (some ⟨w.heap.size+3,0,none⟩) 2 2] w' fun e w''=>e=.returned (.bool true)∧Kept w' w''):=fun u k=>by
  have hb:w.heap.size+3<(addW w #[.bool n1,.slice a1 L1.length c1,.int .i64 x1] #[.bool n2,.slice a2 L2.length c2,.int .i64 x2] (pairC n1 (.slice a1 L1.length c1) x1 n2 (.slice a2 L2.length c2) x2)).heap.size:=by simp
  have:=allValid_2 u (w.heap.size+3) 2 n1 n2 a1 a2 L1.length c1 L2.length c2 x1 x2 true true (Nat.lt_of_lt_of_le hb k.below.size) ((k.below.cell (p:=⟨w.heap.size+3,0,none⟩) hb).trans (by simp[go_sem])) ((k.below.cell (p:=⟨w.heap.size+3,1,none⟩) hb).trans (by simp[go_sem])) ((k.below.cell (p:=⟨w.heap.size+3,2,none⟩) hb).trans (by simp[go_sem])) ((k.below.cell (p:=⟨w.heap.size+3,3,none⟩) hb).trans (by simp[go_sem])) ((k.below.cell (p:=⟨w.heap.size+3,4,none⟩) hb).trans (by simp[go_sem])) ((k.below.cell (p:=⟨w.heap.size+3,5,none⟩) hb).trans (by simp[go_sem])) (fun v kv=>?_) (fun v kv=>?_)
  ·exact this
  ·have:=xvalid_any ⟨n1,L1,x1⟩ hd1.2.rg (by dsimp only;omega) (.agg #[.bool n1,.slice a1 L1.length c1,.int .i64 x1]) v ⟨_,rfl,((h1.kept hW).kept k).kept kv⟩
   rw[hv1]at this
   exact this
  ·have:=xvalid_any ⟨n2,L2,x2⟩ hd2.2.rg (by dsimp only;omega) (.agg #[.bool n2,.slice a2 L2.length c2,.int .i64 x2]) v ⟨_,rfl,((h2.kept hW).kept k).kept kv⟩
   rw[hv2]at this
   exact this
 have KT:Hid (Calls Tryz.prog 106 #[.func (.func 144) #[] #[.pointer (some ⟨w.heap.size,0,none⟩),.pointer (some ⟨w.heap.size+1,0,none⟩)],.slice (some ⟨w.heap.size+3,0,none⟩) 2 2] (addW w #[.bool n1,.slice a1 L1.length c1,.int .i64 x1] #[.bool n2,.slice a2 L2.length c2,.int .i64 x2] (pairC n1 (.slice a1 L1.length c1) x1 n2 (.slice a2 L2.length c2) x2)) fun e w'=>∃v,e=.returned (.tuple #[v,.int .i64 0])∧New (addW w #[.bool n1,.slice a1 L1.length c1,.int .i64 x1] #[.bool n2,.slice a2 L2.length c2,.int .i64 x2] (pairC n1 (.slice a1 L1.length c1) x1 n2 (.slice a2 L2.length c2) x2)) w' v r∧Kept (addW w #[.bool n1,.slice a1 L1.length c1,.int .i64 x1] #[.bool n2,.slice a2 L2.length c2,.int .i64 x2] (pairC n1 (.slice a1 L1.length c1) x1 n2 (.slice a2 L2.length c2) x2)) w'):=by
  refine told_ok 144 _ (fun w=>call_of Tryz.func144 (by kernel_rfl) (by kernel_rfl) _ w) _ r _ KV (fun u k=>?_)
  have hs:=k.below.size
  simp only[addW,World.size_alloc]at hs
  exact addz_in_ok u ((hT.kept hW).kept k) n1 L1 x1 hv1 a1 c1 n2 L2 x2 hv2 a2 c2 ((h1.kept hW).kept k) ((h2.kept hW).kept k) r hf _ _ (by omega) (by omega) ((k.below.cell (p:=⟨w.heap.size,0,none⟩) (by simp<;>omega)).trans (by simp[go_sem])) ((k.below.cell (p:=⟨w.heap.size,1,none⟩) (by simp<;>omega)).trans (by simp[go_sem])) ((k.below.cell (p:=⟨w.heap.size,2,none⟩) (by simp<;>omega)).trans (by simp[go_sem])) ((k.below.cell (p:=⟨w.heap.size+1,0,none⟩) (by simp<;>omega)).trans (by simp[go_sem])) ((k.below.cell (p:=⟨w.heap.size+1,1,none⟩) (by simp<;>omega)).trans (by simp[go_sem])) ((k.below.cell (p:=⟨w.heap.size+1,2,none⟩) (by simp<;>omega)).trans (by simp[go_sem]))
 have hmf:∀(fn:Fn) (first cap:Array Value) (w:World),(Instr.makeFunc fn first cap).run Tryz.prog w=.ok (.func fn first cap) w:=fun _ _ _ _=>rfl
 clear h1 h2 hT hf hv1 hv2 KV hd1 hd2
 generalize L1.length=l1 at *
 generalize L2.length=l2 at *
 go_enter Tryz.func121,Tryz.ntmps121
 go_wp2_with (first|(go_at_call 106;refine KT.out.mono ?_;rintro e w1 ⟨v,rfl,hN,hk1⟩;obtain⟨vn,va,vl,vc,vx,rfl⟩:=hN.shape;obtain⟨f0,f1,f2,f3⟩:=res_cells (w.heap.size+2) (by simp<;>omega) hk1 (by simp[go_sem]) (by simp[go_sem]) (by simp[go_sem]) (fun o=>by simp[go_sem])))
 have:=res_done (w.heap.size+2) (by omega) (by simp<;>omega) hW hN hk1 (.bool vn) (.slice va vl vc) (.int .i64 vx)
 refine bodyPost_ret (v:=.tuple #[.agg #[.bool vn,.slice va vl vc,.int .i64 vx],.int .i64 0]) (by simp[results,Tryz.results121,go_sem,f0,f1,f2]) rfl ⟨_,rfl,this.1,this.2⟩
theorem addz_no (w:World)(hT:Tab w)(n1:Bool)(L1:List Int)(x1:Int)(hv1:vld ⟨n1,L1,x1⟩=true)(a1:Option Addr)(c1:Nat)(n2:Bool)(L2:List Int)(x2:Int)(hv2:vld ⟨n2,L2,x2⟩=true)(a2:Option Addr)(c2:Nat)(h1:Sl w (.slice a1 L1.length c1) L1)(h2:Sl w (.slice a2 L2.length c2) L2)(hf:addZ ⟨n1,L1,x1⟩ ⟨n2,L2,x2⟩=none):Calls Tryz.prog 121 #[.agg #[.bool n1,.slice a1 L1.length c1,.int .i64 x1],.agg #[.bool n2,.slice a2 L2.length c2,.int .i64 x2]] w fun e w'=>e=.returned (.tuple #[zeroNum,.int .i64 2])∧Kept w w':=by
 have hW:=addW_kept w #[.bool n1,.slice a1 L1.length c1,.int .i64 x1] #[.bool n2,.slice a2 L2.length c2,.int .i64 x2] (pairC n1 (.slice a1 L1.length c1) x1 n2 (.slice a2 L2.length c2) x2)
 have hd1:=vld_dg _ _ _ hv1
 have hd2:=vld_dg _ _ _ hv2
 have KV:Hid (∀w',Kept (addW w #[.bool n1,.slice a1 L1.length c1,.int .i64 x1] #[.bool n2,.slice a2 L2.length c2,.int .i64 x2] (pairC n1 (.slice a1 L1.length c1) x1 n2 (.slice a2 L2.length c2) x2)) w'→Calls Tryz.prog 124 #[.slice (some ⟨w.heap.size+3,0,none⟩) 2 2] w' fun e w''=>e=.returned (.bool true)∧Kept w' w''):=fun u k=>by
  have hb:w.heap.size+3<(addW w #[.bool n1,.slice a1 L1.length c1,.int .i64 x1] #[.bool n2,.slice a2 L2.length c2,.int .i64 x2] (pairC n1 (.slice a1 L1.length c1) x1 n2 (.slice a2 L2.length c2) x2)).heap.size:=by simp
  have:=allValid_2 u (w.heap.size+3) 2 n1 n2 a1 a2 L1.length c1 L2.length c2 x1 x2 true true (Nat.lt_of_lt_of_le hb k.below.size) ((k.below.cell (p:=⟨w.heap.size+3,0,none⟩) hb).trans (by simp[go_sem])) ((k.below.cell (p:=⟨w.heap.size+3,1,none⟩) hb).trans (by simp[go_sem])) ((k.below.cell (p:=⟨w.heap.size+3,2,none⟩) hb).trans (by simp[go_sem])) ((k.below.cell (p:=⟨w.heap.size+3,3,none⟩) hb).trans (by simp[go_sem])) ((k.below.cell (p:=⟨w.heap.size+3,4,none⟩) hb).trans (by simp[go_sem])) ((k.below.cell (p:=⟨w.heap.size+3,5,none⟩) hb).trans (by simp[go_sem])) (fun v kv=>?_) (fun v kv=>?_)
  ·exact this
  ·have:=xvalid_any ⟨n1,L1,x1⟩ hd1.2.rg (by dsimp only;omega) (.agg #[.bool n1,.slice a1 L1.length c1,.int .i64 x1]) v ⟨_,rfl,((h1.kept hW).kept k).kept kv⟩
   rw[hv1]at this
   exact this
  ·have:=xvalid_any ⟨n2,L2,x2⟩ hd2.2.rg (by dsimp only;omega) (.agg #[.bool n2,.slice a2 L2.length c2,.int .i64 x2]) v ⟨_,rfl,((h2.kept hW).kept k).kept kv⟩
   rw[hv2]at this
   exact this
 have KT:Hid (Calls Tryz.prog 106 #[.func (.func 144) #[] #[.pointer (some ⟨w.heap.size,0,none⟩),.pointer (some ⟨w.heap.size+1,0,none⟩)],.slice (some ⟨w.heap.size+3,0,none⟩) 2 2] (addW w #[.bool n1,.slice a1 L1.length c1,.int .i64 x1] #[.bool n2,.slice a2 L2.length c2,.int .i64 x2] (pairC n1 (.slice a1 L1.length c1) x1 n2 (.slice a2 L2.length c2) x2)) fun e w'=>e=.returned (.tuple #[zeroNum,.int .i64 2])∧Kept (addW w #[.bool n1,.slice a1 L1.length c1,.int .i64 x1] #[.bool n2,.slice a2 L2.length c2,.int .i64 x2] (pairC n1 (.slice a1 L1.length c1) x1 n2 (.slice a2 L2.length c2) x2)) w'):=by
  refine told_no 144 _ (fun w=>call_of Tryz.func144 (by kernel_rfl) (by kernel_rfl) _ w) _ _ KV (fun u k=>?_)
  have hs:=k.below.size
  simp only[addW,World.size_alloc]at hs
  exact addz_in_no u ((hT.kept hW).kept k) n1 L1 x1 hv1 a1 c1 n2 L2 x2 hv2 a2 c2 ((h1.kept hW).kept k) ((h2.kept hW).kept k) hf _ _ (by omega) (by omega) ((k.below.cell (p:=⟨w.heap.size,0,none⟩) (by simp<;>omega)).trans (by simp[go_sem])) ((k.below.cell (p:=⟨w.heap.size,1,none⟩) (by simp<;>omega)).trans (by simp[go_sem])) ((k.below.cell (p:=⟨w.heap.size,2,none⟩) (by simp<;>omega)).trans (by simp[go_sem])) ((k.below.cell (p:=⟨w.heap.size+1,0,none⟩) (by simp<;>omega)).trans (by simp[go_sem])) ((k.below.cell (p:=⟨w.heap.size+1,1,none⟩) (by simp<;>omega)).trans (by simp[go_sem])) ((k.below.cell (p:=⟨w.heap.size+1,2,none⟩) (by simp<;>omega)).trans (by simp[go_sem]))
 have hmf:∀(fn:Fn) (first cap:Array Value) (w:World),(Instr.makeFunc fn first cap).run Tryz.prog w=.ok (.func fn first cap) w:=fun _ _ _ _=>rfl
 clear h1 h2 hT hf hv1 hv2 KV hd1 hd2
 generalize L1.length=l1 at *
 generalize L2.length=l2 at *
 go_enter Tryz.func121,Tryz.ntmps121
 go_wp2_with (first|(go_at_call 106;refine KT.out.mono ?_;rintro e w1 ⟨rfl,hk1⟩;obtain⟨f0,f1,f2,f3⟩:=res_cells (w.heap.size+2) (by simp<;>omega) hk1 (by simp[go_sem]) (by simp[go_sem]) (by simp[go_sem]) (fun o=>by simp[go_sem])))
 refine bodyPost_ret (v:=.tuple #[zeroNum,.int .i64 2]) (by simp[results,Tryz.results121,go_sem,f0,f1,f2]) rfl ⟨rfl,res_kept (w.heap.size+2) (by omega) hW hk1 _ _ _⟩
theorem own_three (w:World)(a b c:Int):Own (w.alloc (.cells #[.int .i64 a,.int .i64 b,.int .i64 c] 3)) w.heap.size 3 [a,b,c]:=
 ⟨_,heap_alloc_new w _,Nat.le_refl _,by simp[maxLen],by simp,by simp⟩
theorem int_pos (n:Int)(h0:0≤n)(h1:n≤9223372036854775807)(r:Nm)(hf:frm (decide (n<0)) n.natAbs 0=some r)(w:World)(hT:Tab w):Calls Tryz.prog 43 #[.int .i64 n] w fun e w'=>(∃v,e=.returned v∧New w w' v r)∧Kept w w':=by
 have hK:Kept w (numW w):=(Kept.refl w).alloc _ _
 obtain⟨s,hs⟩:∃s:Int,s=(n.natAbs:Int):=⟨_,rfl⟩
 have hs1:0≤s∧s≤9223372036854775808:=by omega
 have hw1:IntKind.u64.wrap n=if n<0 then n+18446744073709551616 else n:=by rw[IntKind.wrap_u64];split<;>omega
 have KD:Hid (Calls Tryz.prog 75 #[.int .u64 s] (numW w) fun e w'=>e=.returned (.slice (some ⟨(numW w).heap.size,0,none⟩) 3 3)∧w'=(numW w).alloc (.cells #[.int .i64 (s%1073741824),.int .i64 (s/1073741824%1073741824),.int .i64 (s/1152921504606846976)] 3)):=digitsOf_any s hs1.1 (by omega) (numW w)
 have hO:=own_three (numW w) (s%1073741824) (s/1073741824%1073741824) (s/1152921504606846976)
 have hDg:Dg [s%1073741824,s/1073741824%1073741824,s/1152921504606846976]:=Dg.cons (by omega) (by omega) (Dg.cons (by omega) (by omega) (Dg.cons (by omega) (by omega) Dg.nil))
 have hnv:nv [s%1073741824,s/1073741824%1073741824,s/1152921504606846976]=n.natAbs:=by
  show(s%1073741824).toNat+1073741824*((s/1073741824%1073741824).toNat+1073741824*((s/1152921504606846976).toNat+1073741824*0))=n.natAbs
  omega
 have hK2:Kept (numW w) ((numW w).alloc (.cells #[.int .i64 (s%1073741824),.int .i64 (s/1073741824%1073741824),.int .i64 (s/1152921504606846976)] 3)):=(Kept.refl _).alloc _ _
 have KF:Hid (Calls Tryz.prog 74 #[.bool (decide (n<0)),.slice (some ⟨(numW w).heap.size,0,none⟩) 3 3,.int .i64 0] ((numW w).alloc (.cells #[.int .i64 (s%1073741824),.int .i64 (s/1073741824%1073741824),.int .i64 (s/1152921504606846976)] 3)) fun e w'=>(∃v,e=.returned v∧New (numW w) w' v r)∧Kept (numW w) w'):=form_ok _ _ hDg (by simp) _ 3 0 (numW w) _ hK2 (Nat.le_refl _) hO (hT.kept (hK.trans hK2)) r (by rw[hnv];exact hf)
 clear hO hDg hnv hf hT
 simp only[World.size_alloc]at KD KF
 have hneg:¬n<0:=by omega
 ·rw[if_neg hneg]at hw1
  have hsn:s=n:=by omega
  subst hsn
  rw[decide_eq_false hneg]at KF
  clear hs hs1 h1
  go_enter Tryz.func43,Tryz.ntmps43
  go_wp2_with (first|(go_at_call 75;refine KD.out.mono ?_;rintro e w1 ⟨rfl,rfl⟩)|(go_at_call 74;refine KF.out.mono ?_;rintro e w2 ⟨⟨v,rfl,hN⟩,hk1⟩;obtain⟨vn,va,vl,vc,vx,rfl⟩:=hN.shape;obtain⟨f0,f1,f2,f3⟩:=num_cells hk1))
  have:=num_done hN hk1 (.bool vn) (.slice va vl vc) (.int .i64 vx)
  exact bodyPost_ret (v:=.agg #[.bool vn,.slice va vl vc,.int .i64 vx]) (by simp[results,Tryz.results43,go_sem,f0,f1,f2]) rfl ⟨⟨_,rfl,this.1⟩,this.2⟩
end Go.Proofs.YtnniljhdcplkgaaGreatDoor

namespace Go.Proofs.YtnniljhdcplkgaaGreatDoor
open Go.ChangeShapes Go.WideShapes Go.ChangeAt Go.RowKit
set_option maxHeartbeats 16000000
set_option maxRecDepth 100000
set_option linter.unusedVariables false
set_option linter.unusedSimpArgs false
set_option linter.unnecessarySimpa false
end Go.Proofs.YtnniljhdcplkgaaGreatDoor

namespace Go.Proofs.YtnniljhdcplkgaaGreatDoor
open Go.ChangeShapes Go.WideShapes Go.ChangeAt Go.RowKit
set_option maxHeartbeats 16000000
set_option maxRecDepth 100000
set_option linter.unusedVariables false
set_option linter.unusedSimpArgs false
theorem product_far (n1 n2:Bool)(a1 a2:Option Addr)(l1 c1 l2 c2:Nat)(x1 x2:Int)(b1 b2:Nat)(hx1:-1048576≤x1∧x1≤1048576)(hx2:-1048576≤x2∧x2≤1048576)(hb1:b1≤60000)(hb2:b2≤60000)(hno:60000<(b1:Int)+b2-1∨x1+x2< -1048576∨1048576<x1+x2)(w:World)
  (K1:Hid (∀u,Kept w u→Calls Tryz.prog 112 #[.slice a1 l1 c1] u fun e w'=>e=.returned (.int .i64 (b1:Int))∧u=w')) (K2:Hid (∀u,Kept w u→Calls Tryz.prog 112 #[.slice a2 l2 c2] u fun e w'=>e=.returned (.int .i64 (b2:Int))∧u=w')):
  Calls Tryz.prog 108 #[.agg #[.bool n1,.slice a1 l1 c1,.int .i64 x1],.agg #[.bool n2,.slice a2 l2 c2,.int .i64 x2]] w fun e w'=>e=.panicked gaveUp∧Kept w w':=by
 have hK:Kept w (((w.alloc (.cells #[.bool n1,.slice a1 l1 c1,.int .i64 x1] 43)).alloc (.cells #[.bool n2,.slice a2 l2 c2,.int .i64 x2] 43)).alloc nilNum):=(((Kept.refl w).alloc _ _).alloc _ _).alloc _ _
 have z1:IntKind.i64.wrap ((b1:Int)+(b2:Int))=(b1:Int)+(b2:Int):=by rw[wrap_i64];omega
 have z2:IntKind.i64.wrap ((b1:Int)+(b2:Int)-1)=(b1:Int)+(b2:Int)-1:=by rw[wrap_i64];omega
 have z3:IntKind.i64.wrap (x1+x2)=x1+x2:=by rw[wrap_i64];omega
 have hS:∀u,Kept (((w.alloc (.cells #[.bool n1,.slice a1 l1 c1,.int .i64 x1] 43)).alloc (.cells #[.bool n2,.slice a2 l2 c2,.int .i64 x2] 43)).alloc nilNum) u→(u.cell? ⟨w.heap.size,1,none⟩=some (.slice a1 l1 c1)∧u.cell? ⟨w.heap.size,2,none⟩=some (.int .i64 x1))∧u.cell? ⟨w.heap.size+1,1,none⟩=some (.slice a2 l2 c2)∧u.cell? ⟨w.heap.size+1,2,none⟩=some (.int .i64 x2):=fun u k=>⟨⟨(k.below.cell (p:=⟨w.heap.size,1,none⟩) (by simp<;>omega)).trans (by simp[go_sem]),(k.below.cell (p:=⟨w.heap.size,2,none⟩) (by simp<;>omega)).trans (by simp[go_sem])⟩,(k.below.cell (p:=⟨w.heap.size+1,1,none⟩) (by simp<;>omega)).trans (by simp[go_sem]),(k.below.cell (p:=⟨w.heap.size+1,2,none⟩) (by simp<;>omega)).trans (by simp[go_sem])⟩
 have HS:=hS _ (Kept.refl _).drew
 have HSS:Hid (∀u,Kept (((w.alloc (.cells #[.bool n1,.slice a1 l1 c1,.int .i64 x1] 43)).alloc (.cells #[.bool n2,.slice a2 l2 c2,.int .i64 x2] 43)).alloc nilNum) u→(u.cell? ⟨w.heap.size,1,none⟩=some (.slice a1 l1 c1)∧u.cell? ⟨w.heap.size,2,none⟩=some (.int .i64 x1))∧u.cell? ⟨w.heap.size+1,1,none⟩=some (.slice a2 l2 c2)∧u.cell? ⟨w.heap.size+1,2,none⟩=some (.int .i64 x2)):=hS
 clear hS
 go_enter Tryz.func108,Tryz.ntmps108
 go_wp2_with fail
 refine wp_region_held_drew (S:=fun u=>(u.cell? ⟨w.heap.size,1,none⟩=some (.slice a1 l1 c1)∧u.cell? ⟨w.heap.size,2,none⟩=some (.int .i64 x1))∧u.cell? ⟨w.heap.size+1,1,none⟩=some (.slice a2 l2 c2)∧u.cell? ⟨w.heap.size+1,2,none⟩=some (.int .i64 x2)) (by kernel_rfl) HS (fun hHeld=>?_)
 refine tk (i:=0) (v:=?_) rfl ?_
 simp only[Act.put,zA,zB,zC,zD,zE,zF]
 refine tk (i:=1) (v:=?_) rfl ?_
 simp only[Act.put,zA,zB,zC,zD,zE,zF]
 refine tk (i:=3) (v:=?_) rfl ?_
 simp only[Act.put,zA,zB,zC,zD,zE,zF]
 refine tk (i:=4) (v:=?_) rfl ?_
 simp only[Act.put,zA,zB,zC,zD,zE,zF]
 refine tk (i:=8) (v:=?_) rfl ?_
 simp only[Act.put,zA,zB,zC,zD,zE,zF]
 refine tk (i:=9) (v:=?_) rfl ?_
 simp only[Act.put,zA,zB,zC,zD,zE,zF]
 refine tk (i:=10) (v:=?_) rfl ?_
 simp only[Act.put,zA,zB,zC,zD,zE,zF]
 refine tk (i:=11) (v:=?_) rfl ?_
 simp only[Act.put,zA,zB,zC,zD,zE,zF]
 refine tk (i:=12) (v:=?_) rfl ?_
 simp only[Act.put,zA,zB,zC,zD,zE,zF]
 refine wpAnyH_ready (rs:=[2]) (by kernel_rfl) (by simp) ?_
 refine AllReadyH.cons rfl (fun K hK9=>?_) AllReadyH.nil
 go_simp
 go_wp2_with fail
 refine(K1.out _ hK.drew).mono ?_
 rintro e u1 ⟨rfl,rfl⟩
 refine hK9.out _ _ HS (fun hHeld2=>?_)
 clear hK9 K
 refine wpAnyH_ready (rs:=[5]) (by kernel_rfl) (by simp) ?_
 refine AllReadyH.cons rfl (fun K hK9=>?_) AllReadyH.nil
 go_simp
 go_wp2_with fail
 refine(K2.out _ hK.drew).mono ?_
 rintro e u1 ⟨rfl,rfl⟩
 refine hK9.out _ _ HS (fun hHeld3=>?_)
 clear hK9 K
 refine tk (i:=6) (v:=?_) rfl ?_
 simp only[Act.put,zA,zB,zC,zD,zE,zF]
 refine tk (i:=7) (v:=?_) rfl ?_
 simp only[Act.put,zA,zB,zC,zD,zE,zF]
 refine wpAnyH_ready (rs:=[13]) (by kernel_rfl) (by simp) ?_
 refine AllReadyH.cons rfl (fun K hK9=>?_) AllReadyH.nil
 go_simp
 go_wp2_with fail
 refine(fit_no _ _ hno _).mono ?_
 rintro e u1 ⟨rfl,rfl⟩
 exact⟨rfl,rfl,hK.drew⟩
end Go.Proofs.YtnniljhdcplkgaaGreatDoor
