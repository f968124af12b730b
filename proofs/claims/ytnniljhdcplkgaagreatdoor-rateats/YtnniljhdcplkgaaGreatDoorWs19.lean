/-  -/
import Derived.Test.YtnniljhdcplkgaaGreatDoorWs18
import Derived.Test.YtnniljhdcplkgaaGreatDoorWs09
import Derived.Laws.EntriesVeiled
import Derived.Test.YtnniljhdcplkgaaGreatDoorWs17
import Derived.OwnWalk
import Derived.Laws.OwnMore
import Derived.Test.YtnniljhdcplkgaaGreatDoorWs04
import Derived.Test.YtnniljhdcplkgaaGreatDoorWs10
import Derived.Test.YtnniljhdcplkgaaGreatDoorWs07
import Derived.Deep.Cut
import Derived.Test.YtnniljhdcplkgaaGreatDoorWs11
import Derived.Test.YtnniljhdcplkgaaGreatDoorWs03
namespace Go.Proofs.YtnniljhdcplkgaaGreatDoor
open Go.ChangeShapes Go.WideShapes Go.ChangeAt Go.RowKit
set_option maxHeartbeats 16000000
set_option maxRecDepth 100000
set_option linter.unusedVariables false
set_option linter.unusedSimpArgs false
theorem Lies.mono {s:Int}{B C:Nat}{a:Nm}(h:Lies s B a)(hBC:B≤C):Lies s C a:=⟨h.ok,h.low,Nat.lt_of_lt_of_le h.lt (Nat.pow_le_pow_right (by decide) hBC)⟩
theorem vz_ng (s:Int)(a:Nm):vz s (ng a)=-vz s a:=by
 unfold vz ng
 dsimp only
 cases a.neg<;>simp[sg]
theorem sub_cfm (s:Int)(B:Nat)(hB:B≤60000)(a b:Nm)(ha:Lies s B a)(hb:Lies s B b):addZ a (ng b)=cfm (vz s a-vz s b) s:=by
 by_cases hne:b.mag=[]
 ·obtain⟨n2,L2,x2⟩:=b
  dsimp only at hne
  subst hne
  obtain⟨n1,L1,x1⟩:=a
  rw[vz_nil,Int.sub_zero,vz_cfm s n1 L1 x1 ha.ok ha.low]
  unfold addZ ng
  dsimp only
  by_cases h1:L1=[]
  ·subst h1
   obtain⟨rfl,rfl⟩:=vld_nil _ _ ha.ok
   simp
  ·simp[h1]
 ·have hb':Lies s B (ng b):=⟨vld_ng b.neg b.mag b.exp hb.ok hne,hb.low,by rw[vz_ng,Int.natAbs_neg];exact hb.lt⟩
  rw[add_cfm s B hB a (ng b) ha hb',vz_ng,Int.sub_eq_add_neg]
theorem frm_cfm (n:Bool)(v:Nat)(y:Int):frm n v y=cfm (sg n (v:Int)) y:=by
 by_cases h:v=0
 ·subst h
  rw[show sg n ((0:Nat):Int)=0 by cases n<;>rfl,cfm_zero]
  simp[frm]
 ·have hsg:=sg_neg n (v:Int) (by omega)
  unfold cfm
  rw[hsg.1,hsg.2,Int.toNat_natCast]
end Go.Proofs.YtnniljhdcplkgaaGreatDoor

namespace Go.Proofs.YtnniljhdcplkgaaGreatDoor
open Go.ChangeShapes Go.WideShapes Go.ChangeAt Go.RowKit
set_option maxHeartbeats 16000000
set_option maxRecDepth 100000
set_option linter.unusedVariables false
set_option linter.unusedSimpArgs false
theorem pieces_any (L:List Int)(hL:Dg L)(v:Value)(n:Nat)(hn:n<100000)(p:Int)(hp:-10000000<p∧p<10000000)(w:World)(h:Sl w v L):Calls Tryz.prog 152 #[v,.int .i64 (n:Int),.int .i64 p] w fun e w'=>e=.returned (.slice (some ⟨w.heap.size,0,none⟩) n n)∧Own w' w.heap.size n ((List.range n).map fun i:Nat=>pcz (nv L) (p+30*(i:Int)))∧Kept w w':=by
 have HM:=make_run n (by omega)
 have hO:=own_made n (by omega) w
 have hK0:Kept w (w.alloc (.cells (madeCells #[.int .i64 0] n) 3)):=(Kept.refl w).alloc _ _
 have HL:Hid (Sl w v L):=h
 have HO:Hid (Own (w.alloc (.cells (madeCells #[.int .i64 0] n) 3)) w.heap.size n (List.replicate n 0)):=hO
 have HK:Hid (Kept w (w.alloc (.cells (madeCells #[.int .i64 0] n) 3))):=hK0
 clear h hO hK0
 go_enter Tryz.func152,Tryz.ntmps152
 go_wp2
 go_loopw [12] (fun i wr=>∃(k:Nat),k≤n∧i=.int .i64 k∧Own wr w.heap.size n ((List.range k).map (fun i:Nat=>pcz (nv L) (p+30*(i:Int)))++List.replicate (n-k) 0)∧Kept w wr) (fun i _=>n-(intOf i).toNat)
 case atStart=>exact⟨0,Nat.zero_le _,rfl,by simpa using HO.out,HK.out⟩
 case round=>
  obtain⟨k,hk,rfl,hO,hG⟩:=hrel
  by_cases hkn:k<n
  ·have KP:Hid (Calls Tryz.prog 114 #[v,.int .i64 (p+(k:Int)*30)] wr fun e w'=>e=.returned (.int .i64 (pcz (nv L) (p+(k:Int)*30)))∧Kept wr w'):=piece_any L hL v _ (by omega) (by omega) wr (HL.out.kept hG)
   have HO2:Hid (Own wr w.heap.size n ((List.range k).map (fun i:Nat=>pcz (nv L) (p+30*(i:Int)))++List.replicate (n-k) 0)):=hO
   have HG:Hid (Kept w wr):=hG
   have hlen:((List.range k).map (fun i:Nat=>pcz (nv L) (p+30*(i:Int)))++List.replicate (n-k) 0).length=n:=by simp;omega
   have HLn:Hid (((List.range k).map (fun i:Nat=>pcz (nv L) (p+30*(i:Int)))++List.replicate (n-k) 0).length=n):=hlen
   clear hO hG hlen
   generalize hq:pcz (nv L) (p+(k:Int)*30)=pv at KP
   have HQ:Hid (pcz (nv L) (p+(k:Int)*30)=pv):=hq
   clear hq
   go_wp2_with (first|(go_at_call 114;refine KP.out.mono ?_;rintro e w2 ⟨rfl,hk2⟩;have hO2:=HO2.out.kept hk2;have hcc:=hO2.cell k (by rw[HLn.out];exact hkn);have hff:=hO2.free k))
   go_roundw
   case rel=>
    have hO2:=(HO2.out.kept hk2).set k pv
    refine⟨k+1,by omega,by go_num,?_,(HG.out.trans hk2).setCell (by simp) _⟩
    obtain⟨m,hm⟩:∃m,n-k=m+1:=⟨n-k-1,by omega⟩
    rw[hm,List.replicate_succ,set_app _ _ _ _ _ (by simp)]at hO2
    rw[show n-(k+1)=m by omega,List.range_succ,List.map_append]
    have:=HQ.out
    rw[Int.mul_comm]at this
    simpa [this] using hO2
   case measure=>simp[intOf];omega
  ·obtain rfl:k=n:=by omega
   rw[Nat.sub_self,List.replicate_zero,List.append_nil]at hO
   go_wp2
   go_ret
   exact⟨rfl,hO,hG⟩
end Go.Proofs.YtnniljhdcplkgaaGreatDoor
namespace Go.Proofs.YtnniljhdcplkgaaGreatDoor
open Go.ChangeShapes Go.WideShapes Go.ChangeAt Go.RowKit
set_option maxHeartbeats 16000000
set_option maxRecDepth 100000
set_option linter.unusedVariables false
set_option linter.unusedSimpArgs false
abbrev third:Value:=.agg #[.bool false,.int .i64 768614336404564650,.int .i64 (-61),.bool true]
end Go.Proofs.YtnniljhdcplkgaaGreatDoor

namespace Go.Proofs.YtnniljhdcplkgaaGreatDoor
open Go.ChangeShapes Go.WideShapes Go.ChangeAt Go.RowKit
set_option maxHeartbeats 16000000
set_option maxRecDepth 100000
set_option linter.unusedVariables false
set_option linter.unusedSimpArgs false
abbrev kind64:Value:=.agg #[.int .i64 64,.int .i64 53,.int .i64 (-1074),.int .i64 9218868437227405312]
theorem kindOf_64 (w:World):Calls Tryz.prog 109 #[.int .i64 64] w fun e w'=>e=.returned (.tuple #[kind64,.bool true])∧Kept w w':=by
 go_enter Tryz.func109,Tryz.ntmps109
 go_wp2
 exact bodyPost_ret (v:=.tuple #[kind64,.bool true]) (by simp[results,Tryz.results109,go_sem]) rfl ⟨rfl,(Kept.refl _).alloc _ _⟩
theorem ways_any (w:World):Calls Tryz.prog 125 #[] w fun e w'=>e=.returned (.agg #[.func (.func 146) #[] #[],.func (.func 147) #[] #[],.func (.func 148) #[] #[]])∧Kept w w':=by
 go_enter Tryz.func125,Tryz.ntmps125
 go_wp2
 refine bodyPost_ret (v:=.agg #[.func (.func 146) #[] #[],.func (.func 147) #[] #[],.func (.func 148) #[] #[]]) (by simp[results,Tryz.results125,go_sem]) rfl ⟨rfl,(Kept.refl _).alloc _ _⟩
theorem index_ways (a b c:Value)(w:World):(Instr.index 139 (.agg #[a,b,c]) (.int .i64 0)).run Tryz.prog w=.ok (.agg #[a]) w:=by
 kernel_rfl
theorem set5 (u:World)(b c o:Nat)(h:c≠b)(v0 v1 v2 v3 v4:Value):(((((u.setCell ⟨b,0,none⟩ v0).setCell ⟨b,1,none⟩ v1).setCell ⟨b,2,none⟩ v2).setCell ⟨b,3,none⟩ v3).setCell ⟨b,4,none⟩ v4).cell? ⟨c,o,none⟩=u.cell? ⟨c,o,none⟩:=
 World.cell?_of_block (a:=⟨c,o,none⟩) ((Below.heap_setCell _ _ _ c h).trans ((Below.heap_setCell _ _ _ c h).trans ((Below.heap_setCell _ _ _ c h).trans ((Below.heap_setCell _ _ _ c h).trans (Below.heap_setCell _ _ _ c h)))))
abbrev nilRound:Obj:=.cells #[.int .i64 0,.int .i64 0,.int .i64 0,.int .i64 0,.nilFunc] 112
end Go.Proofs.YtnniljhdcplkgaaGreatDoor

namespace Go.Proofs.YtnniljhdcplkgaaGreatDoor
open Go.ChangeShapes Go.WideShapes Go.ChangeAt Go.RowKit
set_option maxHeartbeats 16000000
set_option maxRecDepth 100000
set_option linter.unusedVariables false
set_option linter.unusedSimpArgs false
theorem set4 (u:World)(b c o:Nat)(h:c≠b)(v0 v1 v2 v3:Value):((((u.setCell ⟨b,0,none⟩ v0).setCell ⟨b,1,none⟩ v1).setCell ⟨b,2,none⟩ v2).setCell ⟨b,3,none⟩ v3).cell? ⟨c,o,none⟩=u.cell? ⟨c,o,none⟩:=
 World.cell?_of_block (a:=⟨c,o,none⟩) ((Below.heap_setCell _ _ _ c h).trans ((Below.heap_setCell _ _ _ c h).trans ((Below.heap_setCell _ _ _ c h).trans (Below.heap_setCell _ _ _ c h))))
end Go.Proofs.YtnniljhdcplkgaaGreatDoor
namespace Go.Proofs.YtnniljhdcplkgaaGreatDoor
open Go.ChangeShapes Go.WideShapes Go.ChangeAt Go.RowKit
set_option maxHeartbeats 16000000
set_option maxRecDepth 100000
set_option linter.unusedVariables false
set_option linter.unusedSimpArgs false
end Go.Proofs.YtnniljhdcplkgaaGreatDoor

namespace Go.Proofs.YtnniljhdcplkgaaGreatDoor
open Go.ChangeShapes Go.WideShapes Go.ChangeAt Go.RowKit
set_option maxHeartbeats 16000000
set_option maxRecDepth 100000
set_option linter.unusedVariables false
set_option linter.unusedSimpArgs false
end Go.Proofs.YtnniljhdcplkgaaGreatDoor
namespace Go.Proofs.YtnniljhdcplkgaaGreatDoor
open Go.RowKit
set_option maxHeartbeats 16000000
set_option maxRecDepth 100000
end Go.Proofs.YtnniljhdcplkgaaGreatDoor
namespace Go.Proofs.YtnniljhdcplkgaaGreatDoor
open Go.ChangeShapes Go.WideShapes Go.ChangeAt Go.RowKit
set_option maxHeartbeats 16000000
set_option maxRecDepth 100000
set_option linter.unusedVariables false
set_option linter.unusedSimpArgs false
theorem New.some {w0 w:World}{v:Value}{neg:Bool}{d:Int}{x:Int}(h:New w0 w v ⟨neg,[d],x⟩):∃g cap,v=.agg #[.bool neg,.slice (some ⟨g,0,none⟩) 1 cap,.int .i64 x]∧w0.heap.size≤g∧Own w g cap [d]:=by
 rcases h with ⟨h,-⟩|⟨g,cap,e,hg,ho,-⟩
 ·cases h
 ·exact⟨g,cap,e,hg,ho⟩
end Go.Proofs.YtnniljhdcplkgaaGreatDoor

namespace Go.Proofs.YtnniljhdcplkgaaGreatDoor
open Go.ChangeShapes Go.WideShapes Go.ChangeAt Go.RowKit
set_option maxHeartbeats 16000000
set_option maxRecDepth 100000
set_option linter.unusedVariables false
set_option linter.unusedSimpArgs false
end Go.Proofs.YtnniljhdcplkgaaGreatDoor
namespace Go.Proofs.YtnniljhdcplkgaaGreatDoor
open Go.ChangeShapes Go.WideShapes Go.ChangeAt Go.RowKit
set_option maxHeartbeats 16000000
set_option maxRecDepth 100000
set_option linter.unusedVariables false
set_option linter.unusedSimpArgs false
end Go.Proofs.YtnniljhdcplkgaaGreatDoor

namespace Go.Proofs.YtnniljhdcplkgaaGreatDoor
open Go.ChangeShapes Go.WideShapes Go.ChangeAt Go.RowKit
set_option maxHeartbeats 16000000
set_option maxRecDepth 100000
set_option linter.unusedVariables false
set_option linter.unusedSimpArgs false
theorem kindOf_32 (w:World):Calls Tryz.prog 109 #[.int .i64 32] w fun e w'=>e=.returned (.tuple #[.agg #[.int .i64 32,.int .i64 24,.int .i64 (-149),.int .i64 2139095040],.bool true])∧Kept w w':=by
 go_enter Tryz.func109,Tryz.ntmps109
 go_wp2
 exact bodyPost_ret (v:=.tuple #[.agg #[.int .i64 32,.int .i64 24,.int .i64 (-149),.int .i64 2139095040],.bool true]) (by simp[results,Tryz.results109,go_sem]) rfl ⟨rfl,(Kept.refl _).alloc _ _⟩
def kprec (n:Int):Int:=if n=64 then 53 else 24
def kleast (n:Int):Int:=if n=64 then -1074 else -149
def kinf (n:Int):Int:=if n=64 then 9218868437227405312 else 2139095040
theorem kindOf_ok (n:Int)(hn:n=64∨n=32)(w:World):Calls Tryz.prog 109 #[.int .i64 n] w fun e w'=>e=.returned (.tuple #[.agg #[.int .i64 n,.int .i64 (kprec n),.int .i64 (kleast n),.int .i64 (kinf n)],.bool true])∧Kept w w':=by
 rcases hn with rfl|rfl
 ·exact kindOf_64 w
 ·exact kindOf_32 w
theorem index_ways1 (a b c:Value)(w:World):(Instr.index 139 (.agg #[a,b,c]) (.int .i64 1)).run Tryz.prog w=.ok (.agg #[b]) w:=by
 kernel_rfl
theorem index_ways2 (a b c:Value)(w:World):(Instr.index 139 (.agg #[a,b,c]) (.int .i64 2)).run Tryz.prog w=.ok (.agg #[c]) w:=by
 kernel_rfl
theorem roundingOf_0 (n pr le fi:Int)(KK:Hid (∀u,Calls Tryz.prog 109 #[.int .i64 n] u fun e w'=>e=.returned (.tuple #[.agg #[.int .i64 n,.int .i64 pr,.int .i64 le,.int .i64 fi],.bool true])∧Kept u w'))(given:Value)(w:World)(KV:Hid (∀w',Kept w w'→Calls Tryz.prog 124 #[given] w' fun e w''=>e=.returned (.bool true)∧Kept w' w'')):Calls Tryz.prog 98 #[.int .i64 n,.int .i64 0,given] w fun e w'=>e=.returned (.tuple #[.agg #[.int .i64 n,.int .i64 pr,.int .i64 le,.int .i64 fi,.func (.func 146) #[] #[]],.int .i64 0])∧Kept w w':=by
 have hK:Kept w (w.alloc nilRound):=(Kept.refl w).alloc _ _
 have hidx:=index_ways (.func (.func 146) #[] #[]) (.func (.func 147) #[] #[]) (.func (.func 148) #[] #[])
 go_enter Tryz.func98,Tryz.ntmps98
 go_wp2_with (first|(go_at_call 109;refine(KK.out _).mono ?_;rintro e w1 ⟨rfl,hk1⟩)|(go_at_call 124;refine(KV.out _ (hK.trans (hk1.alloc _ _))).mono ?_;rintro e w2 ⟨rfl,hk2⟩))
 have hkk:=hk1.alloc #[.int .i64 n,.int .i64 pr,.int .i64 le,.int .i64 fi] 107
 have hsz:w.heap.size+1≤w1.heap.size:=by have:=hk1.below.size;simpa using this
 have hne:¬w1.heap.size=w.heap.size:=by omega
 have HS:Hid (∀u,Kept (w1.alloc (.cells #[.int .i64 n,.int .i64 pr,.int .i64 le,.int .i64 fi] 107)) u→u.cell? ⟨w1.heap.size,0,none⟩=some (.int .i64 n)∧u.cell? ⟨w1.heap.size,1,none⟩=some (.int .i64 pr)∧u.cell? ⟨w1.heap.size,2,none⟩=some (.int .i64 le)∧u.cell? ⟨w1.heap.size,3,none⟩=some (.int .i64 fi)):=fun u k=>⟨(laid_cell k 0).trans (by simp[go_sem]),(laid_cell k 1).trans (by simp[go_sem]),(laid_cell k 2).trans (by simp[go_sem]),(laid_cell k 3).trans (by simp[go_sem])⟩
 have HR:Hid (∀u,Kept (w.alloc nilRound) u→(u.cell? ⟨w.heap.size,0,none⟩=some (.int .i64 0)∧u.cell? ⟨w.heap.size,1,none⟩=some (.int .i64 0)∧u.cell? ⟨w.heap.size,2,none⟩=some (.int .i64 0)∧u.cell? ⟨w.heap.size,3,none⟩=some (.int .i64 0)∧u.cell? ⟨w.heap.size,4,none⟩=some .nilFunc)∧∀o,u.frozen? ⟨w.heap.size,o,none⟩=false):=fun u k=>⟨⟨(laid_cell k 0).trans (by simp[go_sem]),(laid_cell k 1).trans (by simp[go_sem]),(laid_cell k 2).trans (by simp[go_sem]),(laid_cell k 3).trans (by simp[go_sem]),(laid_cell k 4).trans (by simp[go_sem])⟩,fun o=>(k.frozen _).trans (by simp[go_sem])⟩
 refine wp_region_held_drew (S:=fun u=>u.cell? ⟨w1.heap.size,0,none⟩=some (.int .i64 n)∧u.cell? ⟨w1.heap.size,1,none⟩=some (.int .i64 pr)∧u.cell? ⟨w1.heap.size,2,none⟩=some (.int .i64 le)∧u.cell? ⟨w1.heap.size,3,none⟩=some (.int .i64 fi)) (by kernel_rfl) (HS.out _ hk2.drew) (fun hHeld=>?_)
 refine tk (i:=0) (v:=?_) rfl ?_
 try simp only[Act.put,zD,zE,zF]
 refine tk (i:=2) (v:=?_) rfl ?_
 try simp only[Act.put,zD,zE,zF]
 refine wpAnyH_ready (rs:=[1]) (by kernel_rfl) (by simp) ?_
 refine AllReadyH.cons rfl (fun K hK9=>?_) AllReadyH.nil
 go_simp
 go_wp2_with (first|(go_at_call 125;refine(ways_any _).mono ?_;rintro e w3 ⟨rfl,hk3⟩;have e0:=HS.out _ (hk2.drew.trans hk3)))
 refine hK9.out _ _ e0 (fun hHeld2=>?_)
 clear hK9 K hHeld
 refine tk (i:=3) (v:=?_) rfl ?_
 try simp only[Act.put,zD,zE,zF]
 refine tk (i:=4) (v:=?_) rfl ?_
 try simp only[Act.put,zD,zE,zF]
 obtain⟨⟨r0,r1,r2,r3,r4⟩,rf⟩:=HR.out _ (hkk.trans (hk2.drew.trans hk3))
 refine wpAnyH_ready (rs:=[5]) (by kernel_rfl) (by simp) ?_
 refine AllReadyH.cons rfl (fun K hK9=>?_) AllReadyH.nil
 go_simp
 refine hK9.out _ _ ⟨(set5 _ _ _ _ hne _ _ _ _ _).trans e0.1,(set5 _ _ _ _ hne _ _ _ _ _).trans e0.2.1,(set5 _ _ _ _ hne _ _ _ _ _).trans e0.2.2.1,(set5 _ _ _ _ hne _ _ _ _ _).trans e0.2.2.2⟩ (fun hHeld3=>?_)
 clear hK9 K hHeld2
 refine tk (i:=6) (v:=?_) rfl ?_
 try simp only[Act.put,zD,zE,zF]
 refine wpAnyH_done (by kernel_rfl) ?_ _
 clear hHeld3
 simp only[List.getElem_toArray,List.getElem_cons_succ,List.getElem_cons_zero,List.setIfInBounds_toArray,List.set_cons_zero,List.set_cons_succ]
 go_wp2
 refine bodyPost_ret (v:=.tuple #[.agg #[.int .i64 n,.int .i64 pr,.int .i64 le,.int .i64 fi,.func (.func 146) #[] #[]],.int .i64 0]) (by simp[results,Tryz.results98,go_sem,r0,r1,r2,r3,r4]) rfl ⟨rfl,?_⟩
 exact(hK.trans (hkk.trans (hk2.drew.trans hk3))).setCell (by simp) _|>.setCell (by simp) _|>.setCell (by simp) _|>.setCell (by simp) _|>.setCell (by simp) _
theorem roundingOf_1 (n pr le fi:Int)(KK:Hid (∀u,Calls Tryz.prog 109 #[.int .i64 n] u fun e w'=>e=.returned (.tuple #[.agg #[.int .i64 n,.int .i64 pr,.int .i64 le,.int .i64 fi],.bool true])∧Kept u w'))(given:Value)(w:World)(KV:Hid (∀w',Kept w w'→Calls Tryz.prog 124 #[given] w' fun e w''=>e=.returned (.bool true)∧Kept w' w'')):Calls Tryz.prog 98 #[.int .i64 n,.int .i64 1,given] w fun e w'=>e=.returned (.tuple #[.agg #[.int .i64 n,.int .i64 pr,.int .i64 le,.int .i64 fi,.func (.func 147) #[] #[]],.int .i64 0])∧Kept w w':=by
 have hK:Kept w (w.alloc nilRound):=(Kept.refl w).alloc _ _
 have hidx:=index_ways1 (.func (.func 146) #[] #[]) (.func (.func 147) #[] #[]) (.func (.func 148) #[] #[])
 go_enter Tryz.func98,Tryz.ntmps98
 go_wp2_with (first|(go_at_call 109;refine(KK.out _).mono ?_;rintro e w1 ⟨rfl,hk1⟩)|(go_at_call 124;refine(KV.out _ (hK.trans (hk1.alloc _ _))).mono ?_;rintro e w2 ⟨rfl,hk2⟩))
 have hkk:=hk1.alloc #[.int .i64 n,.int .i64 pr,.int .i64 le,.int .i64 fi] 107
 have hsz:w.heap.size+1≤w1.heap.size:=by have:=hk1.below.size;simpa using this
 have hne:¬w1.heap.size=w.heap.size:=by omega
 have HS:Hid (∀u,Kept (w1.alloc (.cells #[.int .i64 n,.int .i64 pr,.int .i64 le,.int .i64 fi] 107)) u→u.cell? ⟨w1.heap.size,0,none⟩=some (.int .i64 n)∧u.cell? ⟨w1.heap.size,1,none⟩=some (.int .i64 pr)∧u.cell? ⟨w1.heap.size,2,none⟩=some (.int .i64 le)∧u.cell? ⟨w1.heap.size,3,none⟩=some (.int .i64 fi)):=fun u k=>⟨(laid_cell k 0).trans (by simp[go_sem]),(laid_cell k 1).trans (by simp[go_sem]),(laid_cell k 2).trans (by simp[go_sem]),(laid_cell k 3).trans (by simp[go_sem])⟩
 have HR:Hid (∀u,Kept (w.alloc nilRound) u→(u.cell? ⟨w.heap.size,0,none⟩=some (.int .i64 0)∧u.cell? ⟨w.heap.size,1,none⟩=some (.int .i64 0)∧u.cell? ⟨w.heap.size,2,none⟩=some (.int .i64 0)∧u.cell? ⟨w.heap.size,3,none⟩=some (.int .i64 0)∧u.cell? ⟨w.heap.size,4,none⟩=some .nilFunc)∧∀o,u.frozen? ⟨w.heap.size,o,none⟩=false):=fun u k=>⟨⟨(laid_cell k 0).trans (by simp[go_sem]),(laid_cell k 1).trans (by simp[go_sem]),(laid_cell k 2).trans (by simp[go_sem]),(laid_cell k 3).trans (by simp[go_sem]),(laid_cell k 4).trans (by simp[go_sem])⟩,fun o=>(k.frozen _).trans (by simp[go_sem])⟩
 refine wp_region_held_drew (S:=fun u=>u.cell? ⟨w1.heap.size,0,none⟩=some (.int .i64 n)∧u.cell? ⟨w1.heap.size,1,none⟩=some (.int .i64 pr)∧u.cell? ⟨w1.heap.size,2,none⟩=some (.int .i64 le)∧u.cell? ⟨w1.heap.size,3,none⟩=some (.int .i64 fi)) (by kernel_rfl) (HS.out _ hk2.drew) (fun hHeld=>?_)
 refine tk (i:=0) (v:=?_) rfl ?_
 try simp only[Act.put,zD,zE,zF]
 refine tk (i:=2) (v:=?_) rfl ?_
 try simp only[Act.put,zD,zE,zF]
 refine wpAnyH_ready (rs:=[1]) (by kernel_rfl) (by simp) ?_
 refine AllReadyH.cons rfl (fun K hK9=>?_) AllReadyH.nil
 go_simp
 go_wp2_with (first|(go_at_call 125;refine(ways_any _).mono ?_;rintro e w3 ⟨rfl,hk3⟩;have e0:=HS.out _ (hk2.drew.trans hk3)))
 refine hK9.out _ _ e0 (fun hHeld2=>?_)
 clear hK9 K hHeld
 refine tk (i:=3) (v:=?_) rfl ?_
 try simp only[Act.put,zD,zE,zF]
 refine tk (i:=4) (v:=?_) rfl ?_
 try simp only[Act.put,zD,zE,zF]
 obtain⟨⟨r0,r1,r2,r3,r4⟩,rf⟩:=HR.out _ (hkk.trans (hk2.drew.trans hk3))
 refine wpAnyH_ready (rs:=[5]) (by kernel_rfl) (by simp) ?_
 refine AllReadyH.cons rfl (fun K hK9=>?_) AllReadyH.nil
 go_simp
 refine hK9.out _ _ ⟨(set5 _ _ _ _ hne _ _ _ _ _).trans e0.1,(set5 _ _ _ _ hne _ _ _ _ _).trans e0.2.1,(set5 _ _ _ _ hne _ _ _ _ _).trans e0.2.2.1,(set5 _ _ _ _ hne _ _ _ _ _).trans e0.2.2.2⟩ (fun hHeld3=>?_)
 clear hK9 K hHeld2
 refine tk (i:=6) (v:=?_) rfl ?_
 try simp only[Act.put,zD,zE,zF]
 refine wpAnyH_done (by kernel_rfl) ?_ _
 clear hHeld3
 simp only[List.getElem_toArray,List.getElem_cons_succ,List.getElem_cons_zero,List.setIfInBounds_toArray,List.set_cons_zero,List.set_cons_succ]
 go_wp2
 refine bodyPost_ret (v:=.tuple #[.agg #[.int .i64 n,.int .i64 pr,.int .i64 le,.int .i64 fi,.func (.func 147) #[] #[]],.int .i64 0]) (by simp[results,Tryz.results98,go_sem,r0,r1,r2,r3,r4]) rfl ⟨rfl,?_⟩
 exact(hK.trans (hkk.trans (hk2.drew.trans hk3))).setCell (by simp) _|>.setCell (by simp) _|>.setCell (by simp) _|>.setCell (by simp) _|>.setCell (by simp) _
theorem roundingOf_2 (n pr le fi:Int)(KK:Hid (∀u,Calls Tryz.prog 109 #[.int .i64 n] u fun e w'=>e=.returned (.tuple #[.agg #[.int .i64 n,.int .i64 pr,.int .i64 le,.int .i64 fi],.bool true])∧Kept u w'))(given:Value)(w:World)(KV:Hid (∀w',Kept w w'→Calls Tryz.prog 124 #[given] w' fun e w''=>e=.returned (.bool true)∧Kept w' w'')):Calls Tryz.prog 98 #[.int .i64 n,.int .i64 2,given] w fun e w'=>e=.returned (.tuple #[.agg #[.int .i64 n,.int .i64 pr,.int .i64 le,.int .i64 fi,.func (.func 148) #[] #[]],.int .i64 0])∧Kept w w':=by
 have hK:Kept w (w.alloc nilRound):=(Kept.refl w).alloc _ _
 have hidx:=index_ways2 (.func (.func 146) #[] #[]) (.func (.func 147) #[] #[]) (.func (.func 148) #[] #[])
 go_enter Tryz.func98,Tryz.ntmps98
 go_wp2_with (first|(go_at_call 109;refine(KK.out _).mono ?_;rintro e w1 ⟨rfl,hk1⟩)|(go_at_call 124;refine(KV.out _ (hK.trans (hk1.alloc _ _))).mono ?_;rintro e w2 ⟨rfl,hk2⟩))
 have hkk:=hk1.alloc #[.int .i64 n,.int .i64 pr,.int .i64 le,.int .i64 fi] 107
 have hsz:w.heap.size+1≤w1.heap.size:=by have:=hk1.below.size;simpa using this
 have hne:¬w1.heap.size=w.heap.size:=by omega
 have HS:Hid (∀u,Kept (w1.alloc (.cells #[.int .i64 n,.int .i64 pr,.int .i64 le,.int .i64 fi] 107)) u→u.cell? ⟨w1.heap.size,0,none⟩=some (.int .i64 n)∧u.cell? ⟨w1.heap.size,1,none⟩=some (.int .i64 pr)∧u.cell? ⟨w1.heap.size,2,none⟩=some (.int .i64 le)∧u.cell? ⟨w1.heap.size,3,none⟩=some (.int .i64 fi)):=fun u k=>⟨(laid_cell k 0).trans (by simp[go_sem]),(laid_cell k 1).trans (by simp[go_sem]),(laid_cell k 2).trans (by simp[go_sem]),(laid_cell k 3).trans (by simp[go_sem])⟩
 have HR:Hid (∀u,Kept (w.alloc nilRound) u→(u.cell? ⟨w.heap.size,0,none⟩=some (.int .i64 0)∧u.cell? ⟨w.heap.size,1,none⟩=some (.int .i64 0)∧u.cell? ⟨w.heap.size,2,none⟩=some (.int .i64 0)∧u.cell? ⟨w.heap.size,3,none⟩=some (.int .i64 0)∧u.cell? ⟨w.heap.size,4,none⟩=some .nilFunc)∧∀o,u.frozen? ⟨w.heap.size,o,none⟩=false):=fun u k=>⟨⟨(laid_cell k 0).trans (by simp[go_sem]),(laid_cell k 1).trans (by simp[go_sem]),(laid_cell k 2).trans (by simp[go_sem]),(laid_cell k 3).trans (by simp[go_sem]),(laid_cell k 4).trans (by simp[go_sem])⟩,fun o=>(k.frozen _).trans (by simp[go_sem])⟩
 refine wp_region_held_drew (S:=fun u=>u.cell? ⟨w1.heap.size,0,none⟩=some (.int .i64 n)∧u.cell? ⟨w1.heap.size,1,none⟩=some (.int .i64 pr)∧u.cell? ⟨w1.heap.size,2,none⟩=some (.int .i64 le)∧u.cell? ⟨w1.heap.size,3,none⟩=some (.int .i64 fi)) (by kernel_rfl) (HS.out _ hk2.drew) (fun hHeld=>?_)
 refine tk (i:=0) (v:=?_) rfl ?_
 try simp only[Act.put,zD,zE,zF]
 refine tk (i:=2) (v:=?_) rfl ?_
 try simp only[Act.put,zD,zE,zF]
 refine wpAnyH_ready (rs:=[1]) (by kernel_rfl) (by simp) ?_
 refine AllReadyH.cons rfl (fun K hK9=>?_) AllReadyH.nil
 go_simp
 go_wp2_with (first|(go_at_call 125;refine(ways_any _).mono ?_;rintro e w3 ⟨rfl,hk3⟩;have e0:=HS.out _ (hk2.drew.trans hk3)))
 refine hK9.out _ _ e0 (fun hHeld2=>?_)
 clear hK9 K hHeld
 refine tk (i:=3) (v:=?_) rfl ?_
 try simp only[Act.put,zD,zE,zF]
 refine tk (i:=4) (v:=?_) rfl ?_
 try simp only[Act.put,zD,zE,zF]
 obtain⟨⟨r0,r1,r2,r3,r4⟩,rf⟩:=HR.out _ (hkk.trans (hk2.drew.trans hk3))
 refine wpAnyH_ready (rs:=[5]) (by kernel_rfl) (by simp) ?_
 refine AllReadyH.cons rfl (fun K hK9=>?_) AllReadyH.nil
 go_simp
 refine hK9.out _ _ ⟨(set5 _ _ _ _ hne _ _ _ _ _).trans e0.1,(set5 _ _ _ _ hne _ _ _ _ _).trans e0.2.1,(set5 _ _ _ _ hne _ _ _ _ _).trans e0.2.2.1,(set5 _ _ _ _ hne _ _ _ _ _).trans e0.2.2.2⟩ (fun hHeld3=>?_)
 clear hK9 K hHeld2
 refine tk (i:=6) (v:=?_) rfl ?_
 try simp only[Act.put,zD,zE,zF]
 refine wpAnyH_done (by kernel_rfl) ?_ _
 clear hHeld3
 simp only[List.getElem_toArray,List.getElem_cons_succ,List.getElem_cons_zero,List.setIfInBounds_toArray,List.set_cons_zero,List.set_cons_succ]
 go_wp2
 refine bodyPost_ret (v:=.tuple #[.agg #[.int .i64 n,.int .i64 pr,.int .i64 le,.int .i64 fi,.func (.func 148) #[] #[]],.int .i64 0]) (by simp[results,Tryz.results98,go_sem,r0,r1,r2,r3,r4]) rfl ⟨rfl,?_⟩
 exact(hK.trans (hkk.trans (hk2.drew.trans hk3))).setCell (by simp) _|>.setCell (by simp) _|>.setCell (by simp) _|>.setCell (by simp) _|>.setCell (by simp) _
def wfv (way:Int):Nat:=if way=0 then 146 else if way=1 then 147 else 148
theorem roundingOf_ok (n way:Int)(hn:n=64∨n=32)(hw:way=0∨way=1∨way=2)(given:Value)(w:World)(KV:Hid (∀w',Kept w w'→Calls Tryz.prog 124 #[given] w' fun e w''=>e=.returned (.bool true)∧Kept w' w'')):Calls Tryz.prog 98 #[.int .i64 n,.int .i64 way,given] w fun e w'=>e=.returned (.tuple #[.agg #[.int .i64 n,.int .i64 (kprec n),.int .i64 (kleast n),.int .i64 (kinf n),.func (.func (wfv way)) #[] #[]],.int .i64 0])∧Kept w w':=by
 rcases hw with rfl|rfl|rfl
 ·exact roundingOf_0 n (kprec n) (kleast n) (kinf n) (fun u=>kindOf_ok n hn u) given w KV
 ·exact roundingOf_1 n (kprec n) (kleast n) (kinf n) (fun u=>kindOf_ok n hn u) given w KV
 ·exact roundingOf_2 n (kprec n) (kleast n) (kinf n) (fun u=>kindOf_ok n hn u) given w KV
theorem wfv_call (way:Int)(hw:way=0∨way=1∨way=2):∀a w,(callFunc (wfv way) #[a]).run Tryz.prog w=.ok (.enter (wfv way) #[a]) w:=by
 rcases hw with rfl|rfl|rfl
 ·intro a w;kernel_rfl
 ·intro a w;kernel_rfl
 ·intro a w;kernel_rfl
end Go.Proofs.YtnniljhdcplkgaaGreatDoor
