/-  -/
import Derived.Test.YtnniljhdcplkgaaGreatDoorWs08
import Derived.Laws.MakeOwn
namespace Go.Proofs.YtnniljhdcplkgaaGreatDoor
open Go.ChangeShapes Go.WideShapes Go.ChangeAt Go.RowKit
set_option maxHeartbeats 16000000
set_option maxRecDepth 100000
set_option linter.unusedVariables false
set_option linter.unusedSimpArgs false
theorem make_run (n:Nat)(hn:n<100000000)(w:World):(Instr.makeSlice 24 (.int .i64 (n:Int)) (.int .i64 (n:Int))).run Tryz.prog w=.ok (.slice (some ⟨w.heap.size,0,none⟩) n n) (w.alloc (.cells (madeCells #[.int .i64 0] n) 3)):=by
 obtain⟨i,hi,hz,hs,hby⟩:=info_parts (int_info)
 have:=run_make (P:=Tryz.prog) w 24 3 i (.int .i64 0) li_under hi hz .i64 .i64 (n:Int) (n:Int) (by omega) (Int.le_refl _) (by rw[hby];omega) (by omega)
 rw[hs,Int.toNat_natCast,Nat.mul_one]at this
 exact this
theorem own_made (n:Nat)(hn:n<100000000)(w:World):Own (w.alloc (.cells (madeCells #[.int .i64 0] n) 3)) w.heap.size n (List.replicate n 0):=by
 refine⟨_,heap_alloc_new w _,by simp,by simp[maxLen];omega,by simp[size_madeCells],?_⟩
 rw[List.length_replicate,toList_madeCells_one]
 simp
theorem getD_replicate (n j:Nat):(List.replicate n (0:Int)).getD j 0=0:=by
 rw[List.getD_eq_getElem?_getD,List.getElem?_replicate]
 split<;>rfl
theorem make_run2 (w:World):(Instr.makeSlice 24 (.int .i64 2) (.int .i64 2)).run Tryz.prog w=.ok (.slice (some ⟨w.heap.size,0,none⟩) 2 2) (w.alloc (.cells (madeCells #[.int .i64 0] 2) 3)):=make_run 2 (by decide) w
end Go.Proofs.YtnniljhdcplkgaaGreatDoor
namespace Go.Proofs.YtnniljhdcplkgaaGreatDoor
open Go.ChangeShapes Go.WideShapes Go.ChangeAt Go.RowKit
set_option maxHeartbeats 16000000
set_option maxRecDepth 100000
set_option linter.unusedVariables false
set_option linter.unusedSimpArgs false
theorem sum_NN (w:World)(T:Nat)(hTw:T<w.heap.size)
  (n1:Bool) (a1:Option Addr) (l1 c1:Nat) (x1 t1:Int) (hx1:-1048576≤x1∧x1≤1048576) (ht1:-1048576≤t1∧t1≤1200000)
  (hl1:0<l1) (hl1b:l1<1000000) (KT1:Hid (∀u,Kept w u→Calls Tryz.prog 159 #[.agg #[.bool n1,.slice a1 l1 c1,.int .i64 x1]] u fun e w'=>e=.returned (.int .i64 t1)∧Kept u w'))
  (n2:Bool) (a2:Option Addr) (l2 c2:Nat) (x2 t2:Int) (hx2:-1048576≤x2∧x2≤1048576) (ht2:-1048576≤t2∧t2≤1200000)
  (hl2:0<l2) (hl2b:l2<1000000) (KT2:Hid (∀u,Kept w u→Calls Tryz.prog 159 #[.agg #[.bool n2,.slice a2 l2 c2,.int .i64 x2]] u fun e w'=>e=.returned (.int .i64 t2)∧Kept u w'))
  (lo hi:Int) (hlo:min x1 x2=lo) (hhi:max t1 t2=hi)
  (R n:Nat) (hR:max 0 (hi-lo)=(R:Int)) (hR2:R≤60001) (hn:(R:Int)/30+2=(n:Int))
  (C1 C2:List Int)
  (KL1:Hid (∀u g,Kept w u→w.heap.size≤g→Own u g n (List.replicate n 0)→Calls Tryz.prog 160 #[.slice (some ⟨g,0,none⟩) n n,.agg #[.bool n1,.slice a1 l1 c1,.int .i64 x1],.int .i64 (x1-lo)] u fun e w'=>e=.returned (.tuple #[])∧Own w' g n (C1)∧Grw g u w'))
  (KL2:Hid (∀u g,Kept w u→w.heap.size≤g→Own u g n (C1)→Calls Tryz.prog 160 #[.slice (some ⟨g,0,none⟩) n n,.agg #[.bool n2,.slice a2 l2 c2,.int .i64 x2],.int .i64 (x2-lo)] u fun e w'=>e=.returned (.tuple #[])∧Own w' g n (C2)∧Grw g u w'))
  (Res:Option Nm) (KS:Hid (∀u0 u g,Kept w u0→Kept u0 u→u0.heap.size≤g→Own u g n C2→Calls Tryz.prog 161 #[.slice (some ⟨g,0,none⟩) n n,.int .i64 lo] u fun e w'=>ToldR Res u0 w' e∧Kept u0 w'))
  (d0:w.cell? ⟨T,0,none⟩=some (.bool n1)) (d1:w.cell? ⟨T,1,none⟩=some (.slice a1 l1 c1)) (d2:w.cell? ⟨T,2,none⟩=some (.int .i64 x1))
  (d3:w.cell? ⟨T,3,none⟩=some (.bool n2)) (d4:w.cell? ⟨T,4,none⟩=some (.slice a2 l2 c2)) (d5:w.cell? ⟨T,5,none⟩=some (.int .i64 x2))
  :Calls Tryz.prog 145 #[.slice (some ⟨T,0,none⟩) 2 2] w fun e w'=>ToldR Res w w' e∧Kept w w':=by
 have G1:Hid (∀u,Kept w u→u.cell? ⟨T,0,none⟩=some (.bool n1)∧u.cell? ⟨T,1,none⟩=some (.slice a1 l1 c1)∧u.cell? ⟨T,2,none⟩=some (.int .i64 x1)):=fun u k=>⟨(k.below.cell (p:=⟨T,0,none⟩) hTw).trans d0,(k.below.cell (p:=⟨T,1,none⟩) hTw).trans d1,(k.below.cell (p:=⟨T,2,none⟩) hTw).trans d2⟩
 have G2:Hid (∀u,Kept w u→u.cell? ⟨T,3,none⟩=some (.bool n2)∧u.cell? ⟨T,4,none⟩=some (.slice a2 l2 c2)∧u.cell? ⟨T,5,none⟩=some (.int .i64 x2)):=fun u k=>⟨(k.below.cell (p:=⟨T,3,none⟩) hTw).trans d3,(k.below.cell (p:=⟨T,4,none⟩) hTw).trans d4,(k.below.cell (p:=⟨T,5,none⟩) hTw).trans d5⟩
 clear d0 d1 d2 d3 d4 d5
 have hK0:Kept w (numW w):=(Kept.refl w).alloc _ _
 obtain⟨s0,s1,s2⟩:=G1.out _ hK0
 have hmn1:min 1048576 x1=x1:=by omega
 have hmx1:max (-1048576) t1=t1:=by omega
 have hn3:n<3000:=by omega
 have HW:=make_run n (by omega)
 go_enter Tryz.func145,Tryz.ntmps145
 go_wp2
 refine wp_loop_rounds 3 ?_
 rw[rounds_succ]
 have hM0:Kept (numW w) (numW w):=Kept.refl _
 go_wp2_with fail
 have kb1:Kept (numW w) ((numW w).alloc (.cells #[.bool n1,.slice a1 l1 c1,.int .i64 x1] 43)):=hM0.alloc _ _
 have HS1:Hid (∀u,Kept ((numW w).alloc (.cells #[.bool n1,.slice a1 l1 c1,.int .i64 x1] 43)) u→Kept (numW w) u∧u.cell? ⟨w.heap.size+1,0,none⟩=some (.bool n1)∧u.cell? ⟨w.heap.size+1,1,none⟩=some (.slice a1 l1 c1)∧u.cell? ⟨w.heap.size+1,2,none⟩=some (.int .i64 x1)):=fun u k=>⟨kb1.trans k,(by have h:=laid_cell k 0;(try simp only[World.size_alloc]at h);exact h.trans (by simp[go_sem])),(by have h:=laid_cell k 1;(try simp only[World.size_alloc]at h);exact h.trans (by simp[go_sem])),(by have h:=laid_cell k 2;(try simp only[World.size_alloc]at h);exact h.trans (by simp[go_sem]))⟩
 refine wp_region_held_drew (S:=fun u=>Kept (numW w) u∧u.cell? ⟨w.heap.size+1,0,none⟩=some (.bool n1)∧u.cell? ⟨w.heap.size+1,1,none⟩=some (.slice a1 l1 c1)∧u.cell? ⟨w.heap.size+1,2,none⟩=some (.int .i64 x1)) (by kernel_rfl) (HS1.out _ (Kept.refl _).drew) (fun hHeld=>?_)
 refine tk (i:=0) (v:=?_) rfl ?_
 try simp only[Act.put,zD,zE,zF]
 refine tk (i:=1) (v:=?_) rfl ?_
 try simp only[Act.put,zD,zE,zF]
 refine tk (i:=2) (v:=?_) rfl ?_
 try simp only[Act.put,zD,zE,zF]
 refine tk (i:=3) (v:=?_) rfl ?_
 try simp only[Act.put,zD,zE,zF]
 refine tk (i:=4) (v:=?_) rfl ?_
 try simp only[Act.put,zD,zE,zF]
 refine tk (i:=5) (v:=?_) rfl ?_
 try simp only[Act.put,zD,zE,zF]
 refine wpAnyH_ready (rs:=[6]) (by kernel_rfl) (by simp) ?_
 refine AllReadyH.cons rfl (fun K hK9=>?_) AllReadyH.nil
 go_simp
 go_wp2_with (first|(go_at_call 159;refine(KT1.out _ (hK0.trans kb1.drew)).mono ?_;rintro e u1 ⟨rfl,ku1⟩;have e0:=HS1.out _ ((Kept.refl _).drew.trans ku1)))
 refine hK9.out _ _ e0 (fun hHeld2=>?_)
 clear hK9 K hHeld
 refine tk (i:=7) (v:=?_) rfl ?_
 try simp only[Act.put,zD,zE,zF]
 refine tk (i:=8) (v:=?_) rfl ?_
 try simp only[Act.put,zD,zE,zF]
 refine tk (i:=9) (v:=?_) rfl ?_
 try simp only[Act.put,zD,zE,zF]
 refine wpAnyH_done (by kernel_rfl) ?_ _
 clear hHeld2 e0
 have m1:Kept (numW w) u1:=kb1.drew.trans ku1
 go_wp2_with fail
 obtain⟨r0,r1,r2⟩:=G2.out _ (hK0.trans m1)
 rw[rounds_succ]
 go_wp2_with fail
 have kb2:Kept (numW w) (u1.alloc (.cells #[.bool n2,.slice a2 l2 c2,.int .i64 x2] 43)):=m1.alloc _ _
 have HS2:Hid (∀u,Kept (u1.alloc (.cells #[.bool n2,.slice a2 l2 c2,.int .i64 x2] 43)) u→Kept (numW w) u∧u.cell? ⟨u1.heap.size,0,none⟩=some (.bool n2)∧u.cell? ⟨u1.heap.size,1,none⟩=some (.slice a2 l2 c2)∧u.cell? ⟨u1.heap.size,2,none⟩=some (.int .i64 x2)):=fun u k=>⟨kb2.trans k,(by have h:=laid_cell k 0;(try simp only[World.size_alloc]at h);exact h.trans (by simp[go_sem])),(by have h:=laid_cell k 1;(try simp only[World.size_alloc]at h);exact h.trans (by simp[go_sem])),(by have h:=laid_cell k 2;(try simp only[World.size_alloc]at h);exact h.trans (by simp[go_sem]))⟩
 refine wp_region_held_drew (S:=fun u=>Kept (numW w) u∧u.cell? ⟨u1.heap.size,0,none⟩=some (.bool n2)∧u.cell? ⟨u1.heap.size,1,none⟩=some (.slice a2 l2 c2)∧u.cell? ⟨u1.heap.size,2,none⟩=some (.int .i64 x2)) (by kernel_rfl) (HS2.out _ (Kept.refl _).drew) (fun hHeld=>?_)
 refine tk (i:=0) (v:=?_) rfl ?_
 try simp only[Act.put,zD,zE,zF]
 refine tk (i:=1) (v:=?_) rfl ?_
 try simp only[Act.put,zD,zE,zF]
 refine tk (i:=2) (v:=?_) rfl ?_
 try simp only[Act.put,zD,zE,zF]
 refine tk (i:=3) (v:=?_) rfl ?_
 try simp only[Act.put,zD,zE,zF]
 refine tk (i:=4) (v:=?_) rfl ?_
 try simp only[Act.put,zD,zE,zF]
 refine tk (i:=5) (v:=?_) rfl ?_
 try simp only[Act.put,zD,zE,zF]
 refine wpAnyH_ready (rs:=[6]) (by kernel_rfl) (by simp) ?_
 refine AllReadyH.cons rfl (fun K hK9=>?_) AllReadyH.nil
 go_simp
 go_wp2_with (first|(go_at_call 159;refine(KT2.out _ (hK0.trans kb2.drew)).mono ?_;rintro e u2 ⟨rfl,ku2⟩;have e0:=HS2.out _ ((Kept.refl _).drew.trans ku2)))
 refine hK9.out _ _ e0 (fun hHeld2=>?_)
 clear hK9 K hHeld
 refine tk (i:=7) (v:=?_) rfl ?_
 try simp only[Act.put,zD,zE,zF]
 refine tk (i:=8) (v:=?_) rfl ?_
 try simp only[Act.put,zD,zE,zF]
 refine tk (i:=9) (v:=?_) rfl ?_
 try simp only[Act.put,zD,zE,zF]
 refine wpAnyH_done (by kernel_rfl) ?_ _
 clear hHeld2 e0
 have m2:Kept (numW w) u2:=kb2.drew.trans ku2
 go_wp2_with fail
 have OM:=own_made n (by omega) u2
 have mV:Kept (numW w) (u2.alloc (.cells (madeCells #[.int .i64 0] n) 3)):=m2.alloc _ _
 have hgg:(numW w).heap.size≤u2.heap.size:=by have hq:=m2.below.size;simp only[World.size_alloc]at hq ⊢;omega
 obtain⟨v0,v1,v2⟩:=G1.out _ (hK0.trans mV)
 rw[rounds_succ]
 go_wp2
 refine wp_loop_rounds 3 ?_
 rw[rounds_succ]
 (try simp only[World.size_alloc]at OM)
 go_wp2_with fail
 refine(KL1.out _ _ (hK0.trans (mV.alloc _ _)) (by have hq:=hgg;simp only[World.size_alloc]at hq;omega) (OM.kept ((Kept.refl _).alloc _ _))).mono ?_
 rintro e z1 ⟨rfl,oz1,gz1⟩
 have mz1:Kept (numW w) z1:=(mV.alloc _ _).grw hgg gz1
 go_wp2_with fail
 clear v0 v1 v2
 obtain⟨v0,v1,v2⟩:=G2.out _ (hK0.trans mz1)
 rw[rounds_succ]
 go_wp2_with fail
 refine(KL2.out _ _ (hK0.trans (mz1.alloc _ _)) (by have hq:=hgg;simp only[World.size_alloc]at hq;omega) (oz1.kept ((Kept.refl _).alloc _ _))).mono ?_
 rintro e z2 ⟨rfl,oz2,gz2⟩
 have mz2:Kept (numW w) z2:=(mz1.alloc _ _).grw hgg gz2
 go_wp2_with fail
 rw[rounds_succ]
 go_wp2_with fail
 refine(KS.out (numW w) _ _ hK0 mz2 hgg oz2).mono ?_
 rintro e z5 ⟨hres,k5⟩
 cases Res with
 |none=>
  have hres2:e=.panicked gaveUp:=hres
  subst hres2
  go_wp2
  exact⟨rfl,rfl,hK0.trans k5⟩
 |some r=>
  obtain⟨v,rfl,hN⟩:=hres
  obtain⟨f0,f1,f2,f3⟩:=num_cells k5
  obtain⟨vn,va,vl,vc,vx,rfl⟩:=hN.shape
  go_wp2
  have:=num_done hN k5 (.bool vn) (.slice va vl vc) (.int .i64 vx)
  exact bodyPost_ret (v:=.agg #[.bool vn,.slice va vl vc,.int .i64 vx]) (by simp[results,Tryz.results145,go_sem,f0,f1,f2]) rfl ⟨⟨_,rfl,this.1⟩,this.2⟩
end Go.Proofs.YtnniljhdcplkgaaGreatDoor
namespace Go.Proofs.YtnniljhdcplkgaaGreatDoor
open Go.ChangeShapes Go.WideShapes Go.ChangeAt Go.RowKit
set_option maxHeartbeats 16000000
set_option maxRecDepth 100000
set_option linter.unusedVariables false
set_option linter.unusedSimpArgs false
theorem sum_NE (w:World)(T:Nat)(hTw:T<w.heap.size)
  (n1:Bool) (a1:Option Addr) (l1 c1:Nat) (x1 t1:Int) (hx1:-1048576≤x1∧x1≤1048576) (ht1:-1048576≤t1∧t1≤1200000)
  (hl1:0<l1) (hl1b:l1<1000000) (KT1:Hid (∀u,Kept w u→Calls Tryz.prog 159 #[.agg #[.bool n1,.slice a1 l1 c1,.int .i64 x1]] u fun e w'=>e=.returned (.int .i64 t1)∧Kept u w'))
  (n2:Bool) (a2:Option Addr) (l2 c2:Nat) (x2 t2:Int) (hx2:-1048576≤x2∧x2≤1048576) (ht2:-1048576≤t2∧t2≤1200000)
  (hl2:l2=0)
  (R n:Nat) (hR:max 0 (t1-x1)=(R:Int)) (hR2:R≤60001) (hn:(R:Int)/30+2=(n:Int))
  (C1 C2:List Int)
  (KL1:Hid (∀u g,Kept w u→w.heap.size≤g→Own u g n (List.replicate n 0)→Calls Tryz.prog 160 #[.slice (some ⟨g,0,none⟩) n n,.agg #[.bool n1,.slice a1 l1 c1,.int .i64 x1],.int .i64 0] u fun e w'=>e=.returned (.tuple #[])∧Own w' g n (C1)∧Grw g u w'))
  (hC2:C2=C1)
  (Res:Option Nm) (KS:Hid (∀u0 u g,Kept w u0→Kept u0 u→u0.heap.size≤g→Own u g n C2→Calls Tryz.prog 161 #[.slice (some ⟨g,0,none⟩) n n,.int .i64 x1] u fun e w'=>ToldR Res u0 w' e∧Kept u0 w'))
  (d0:w.cell? ⟨T,0,none⟩=some (.bool n1)) (d1:w.cell? ⟨T,1,none⟩=some (.slice a1 l1 c1)) (d2:w.cell? ⟨T,2,none⟩=some (.int .i64 x1))
  (d3:w.cell? ⟨T,3,none⟩=some (.bool n2)) (d4:w.cell? ⟨T,4,none⟩=some (.slice a2 l2 c2)) (d5:w.cell? ⟨T,5,none⟩=some (.int .i64 x2))
  :Calls Tryz.prog 145 #[.slice (some ⟨T,0,none⟩) 2 2] w fun e w'=>ToldR Res w w' e∧Kept w w':=by
 have G1:Hid (∀u,Kept w u→u.cell? ⟨T,0,none⟩=some (.bool n1)∧u.cell? ⟨T,1,none⟩=some (.slice a1 l1 c1)∧u.cell? ⟨T,2,none⟩=some (.int .i64 x1)):=fun u k=>⟨(k.below.cell (p:=⟨T,0,none⟩) hTw).trans d0,(k.below.cell (p:=⟨T,1,none⟩) hTw).trans d1,(k.below.cell (p:=⟨T,2,none⟩) hTw).trans d2⟩
 have G2:Hid (∀u,Kept w u→u.cell? ⟨T,3,none⟩=some (.bool n2)∧u.cell? ⟨T,4,none⟩=some (.slice a2 l2 c2)∧u.cell? ⟨T,5,none⟩=some (.int .i64 x2)):=fun u k=>⟨(k.below.cell (p:=⟨T,3,none⟩) hTw).trans d3,(k.below.cell (p:=⟨T,4,none⟩) hTw).trans d4,(k.below.cell (p:=⟨T,5,none⟩) hTw).trans d5⟩
 clear d0 d1 d2 d3 d4 d5
 subst hl2
 have hK0:Kept w (numW w):=(Kept.refl w).alloc _ _
 obtain⟨s0,s1,s2⟩:=G1.out _ hK0
 have hmn1:min 1048576 x1=x1:=by omega
 have hmx1:max (-1048576) t1=t1:=by omega
 have hn3:n<3000:=by omega
 have HW:=make_run n (by omega)
 go_enter Tryz.func145,Tryz.ntmps145
 go_wp2
 refine wp_loop_rounds 3 ?_
 rw[rounds_succ]
 have hM0:Kept (numW w) (numW w):=Kept.refl _
 go_wp2_with fail
 have kb1:Kept (numW w) ((numW w).alloc (.cells #[.bool n1,.slice a1 l1 c1,.int .i64 x1] 43)):=hM0.alloc _ _
 have HS1:Hid (∀u,Kept ((numW w).alloc (.cells #[.bool n1,.slice a1 l1 c1,.int .i64 x1] 43)) u→Kept (numW w) u∧u.cell? ⟨w.heap.size+1,0,none⟩=some (.bool n1)∧u.cell? ⟨w.heap.size+1,1,none⟩=some (.slice a1 l1 c1)∧u.cell? ⟨w.heap.size+1,2,none⟩=some (.int .i64 x1)):=fun u k=>⟨kb1.trans k,(by have h:=laid_cell k 0;(try simp only[World.size_alloc]at h);exact h.trans (by simp[go_sem])),(by have h:=laid_cell k 1;(try simp only[World.size_alloc]at h);exact h.trans (by simp[go_sem])),(by have h:=laid_cell k 2;(try simp only[World.size_alloc]at h);exact h.trans (by simp[go_sem]))⟩
 refine wp_region_held_drew (S:=fun u=>Kept (numW w) u∧u.cell? ⟨w.heap.size+1,0,none⟩=some (.bool n1)∧u.cell? ⟨w.heap.size+1,1,none⟩=some (.slice a1 l1 c1)∧u.cell? ⟨w.heap.size+1,2,none⟩=some (.int .i64 x1)) (by kernel_rfl) (HS1.out _ (Kept.refl _).drew) (fun hHeld=>?_)
 refine tk (i:=0) (v:=?_) rfl ?_
 try simp only[Act.put,zD,zE,zF]
 refine tk (i:=1) (v:=?_) rfl ?_
 try simp only[Act.put,zD,zE,zF]
 refine tk (i:=2) (v:=?_) rfl ?_
 try simp only[Act.put,zD,zE,zF]
 refine tk (i:=3) (v:=?_) rfl ?_
 try simp only[Act.put,zD,zE,zF]
 refine tk (i:=4) (v:=?_) rfl ?_
 try simp only[Act.put,zD,zE,zF]
 refine tk (i:=5) (v:=?_) rfl ?_
 try simp only[Act.put,zD,zE,zF]
 refine wpAnyH_ready (rs:=[6]) (by kernel_rfl) (by simp) ?_
 refine AllReadyH.cons rfl (fun K hK9=>?_) AllReadyH.nil
 go_simp
 go_wp2_with (first|(go_at_call 159;refine(KT1.out _ (hK0.trans kb1.drew)).mono ?_;rintro e u1 ⟨rfl,ku1⟩;have e0:=HS1.out _ ((Kept.refl _).drew.trans ku1)))
 refine hK9.out _ _ e0 (fun hHeld2=>?_)
 clear hK9 K hHeld
 refine tk (i:=7) (v:=?_) rfl ?_
 try simp only[Act.put,zD,zE,zF]
 refine tk (i:=8) (v:=?_) rfl ?_
 try simp only[Act.put,zD,zE,zF]
 refine tk (i:=9) (v:=?_) rfl ?_
 try simp only[Act.put,zD,zE,zF]
 refine wpAnyH_done (by kernel_rfl) ?_ _
 clear hHeld2 e0
 have m1:Kept (numW w) u1:=kb1.drew.trans ku1
 go_wp2_with fail
 obtain⟨r0,r1,r2⟩:=G2.out _ (hK0.trans m1)
 rw[rounds_succ]
 go_wp2_with fail
 have m2:Kept (numW w) (u1.alloc (.cells #[.bool n2,.slice a2 0 c2,.int .i64 x2] 43)):=m1.alloc _ _
 generalize hU2:u1.alloc (.cells #[.bool n2,.slice a2 0 c2,.int .i64 x2] 43)=u2 at *
 have OM:=own_made n (by omega) u2
 have mV:Kept (numW w) (u2.alloc (.cells (madeCells #[.int .i64 0] n) 3)):=m2.alloc _ _
 have hgg:(numW w).heap.size≤u2.heap.size:=by have hq:=m2.below.size;simp only[World.size_alloc]at hq ⊢;omega
 obtain⟨v0,v1,v2⟩:=G1.out _ (hK0.trans mV)
 rw[rounds_succ]
 go_wp2
 refine wp_loop_rounds 3 ?_
 rw[rounds_succ]
 (try simp only[World.size_alloc]at OM)
 go_wp2_with fail
 refine(KL1.out _ _ (hK0.trans (mV.alloc _ _)) (by have hq:=hgg;simp only[World.size_alloc]at hq;omega) (OM.kept ((Kept.refl _).alloc _ _))).mono ?_
 rintro e z1 ⟨rfl,oz1,gz1⟩
 have mz1:Kept (numW w) z1:=(mV.alloc _ _).grw hgg gz1
 go_wp2_with fail
 clear v0 v1 v2
 obtain⟨v0,v1,v2⟩:=G2.out _ (hK0.trans mz1)
 rw[rounds_succ]
 go_wp2_with fail
 refine(lay_nil _ _ _ _ _ _ _ _ _).mono ?_
 rintro e z2 ⟨rfl,gz2⟩
 have mz2:Kept (numW w) z2:=(mz1.alloc _ _).trans gz2
 have oz2:=(oz1.kept ((Kept.refl _).alloc _ _)).kept gz2
 rw[←hC2]at oz2
 go_wp2_with fail
 rw[rounds_succ]
 go_wp2_with fail
 refine(KS.out (numW w) _ _ hK0 mz2 hgg oz2).mono ?_
 rintro e z5 ⟨hres,k5⟩
 cases Res with
 |none=>
  have hres2:e=.panicked gaveUp:=hres
  subst hres2
  go_wp2
  exact⟨rfl,rfl,hK0.trans k5⟩
 |some r=>
  obtain⟨v,rfl,hN⟩:=hres
  obtain⟨f0,f1,f2,f3⟩:=num_cells k5
  obtain⟨vn,va,vl,vc,vx,rfl⟩:=hN.shape
  go_wp2
  have:=num_done hN k5 (.bool vn) (.slice va vl vc) (.int .i64 vx)
  exact bodyPost_ret (v:=.agg #[.bool vn,.slice va vl vc,.int .i64 vx]) (by simp[results,Tryz.results145,go_sem,f0,f1,f2]) rfl ⟨⟨_,rfl,this.1⟩,this.2⟩
end Go.Proofs.YtnniljhdcplkgaaGreatDoor
namespace Go.Proofs.YtnniljhdcplkgaaGreatDoor
open Go.ChangeShapes Go.WideShapes Go.ChangeAt Go.RowKit
set_option maxHeartbeats 16000000
set_option maxRecDepth 100000
set_option linter.unusedVariables false
set_option linter.unusedSimpArgs false
theorem sum_EN (w:World)(T:Nat)(hTw:T<w.heap.size)
  (n1:Bool) (a1:Option Addr) (l1 c1:Nat) (x1 t1:Int) (hx1:-1048576≤x1∧x1≤1048576) (ht1:-1048576≤t1∧t1≤1200000)
  (hl1:l1=0)
  (n2:Bool) (a2:Option Addr) (l2 c2:Nat) (x2 t2:Int) (hx2:-1048576≤x2∧x2≤1048576) (ht2:-1048576≤t2∧t2≤1200000)
  (hl2:0<l2) (hl2b:l2<1000000) (KT2:Hid (∀u,Kept w u→Calls Tryz.prog 159 #[.agg #[.bool n2,.slice a2 l2 c2,.int .i64 x2]] u fun e w'=>e=.returned (.int .i64 t2)∧Kept u w'))
  (R n:Nat) (hR:max 0 (t2-x2)=(R:Int)) (hR2:R≤60001) (hn:(R:Int)/30+2=(n:Int))
  (C1 C2:List Int)
  (hC1:C1=List.replicate n 0)
  (KL2:Hid (∀u g,Kept w u→w.heap.size≤g→Own u g n (C1)→Calls Tryz.prog 160 #[.slice (some ⟨g,0,none⟩) n n,.agg #[.bool n2,.slice a2 l2 c2,.int .i64 x2],.int .i64 0] u fun e w'=>e=.returned (.tuple #[])∧Own w' g n (C2)∧Grw g u w'))
  (Res:Option Nm) (KS:Hid (∀u0 u g,Kept w u0→Kept u0 u→u0.heap.size≤g→Own u g n C2→Calls Tryz.prog 161 #[.slice (some ⟨g,0,none⟩) n n,.int .i64 x2] u fun e w'=>ToldR Res u0 w' e∧Kept u0 w'))
  (d0:w.cell? ⟨T,0,none⟩=some (.bool n1)) (d1:w.cell? ⟨T,1,none⟩=some (.slice a1 l1 c1)) (d2:w.cell? ⟨T,2,none⟩=some (.int .i64 x1))
  (d3:w.cell? ⟨T,3,none⟩=some (.bool n2)) (d4:w.cell? ⟨T,4,none⟩=some (.slice a2 l2 c2)) (d5:w.cell? ⟨T,5,none⟩=some (.int .i64 x2))
  :Calls Tryz.prog 145 #[.slice (some ⟨T,0,none⟩) 2 2] w fun e w'=>ToldR Res w w' e∧Kept w w':=by
 have G1:Hid (∀u,Kept w u→u.cell? ⟨T,0,none⟩=some (.bool n1)∧u.cell? ⟨T,1,none⟩=some (.slice a1 l1 c1)∧u.cell? ⟨T,2,none⟩=some (.int .i64 x1)):=fun u k=>⟨(k.below.cell (p:=⟨T,0,none⟩) hTw).trans d0,(k.below.cell (p:=⟨T,1,none⟩) hTw).trans d1,(k.below.cell (p:=⟨T,2,none⟩) hTw).trans d2⟩
 have G2:Hid (∀u,Kept w u→u.cell? ⟨T,3,none⟩=some (.bool n2)∧u.cell? ⟨T,4,none⟩=some (.slice a2 l2 c2)∧u.cell? ⟨T,5,none⟩=some (.int .i64 x2)):=fun u k=>⟨(k.below.cell (p:=⟨T,3,none⟩) hTw).trans d3,(k.below.cell (p:=⟨T,4,none⟩) hTw).trans d4,(k.below.cell (p:=⟨T,5,none⟩) hTw).trans d5⟩
 clear d0 d1 d2 d3 d4 d5
 subst hl1
 have hK0:Kept w (numW w):=(Kept.refl w).alloc _ _
 obtain⟨s0,s1,s2⟩:=G1.out _ hK0
 have hmn2:min 1048576 x2=x2:=by omega
 have hmx2:max (-1048576) t2=t2:=by omega
 have hn3:n<3000:=by omega
 have HW:=make_run n (by omega)
 go_enter Tryz.func145,Tryz.ntmps145
 go_wp2
 refine wp_loop_rounds 3 ?_
 rw[rounds_succ]
 have hM0:Kept (numW w) (numW w):=Kept.refl _
 go_wp2_with fail
 have m1:Kept (numW w) ((numW w).alloc (.cells #[.bool n1,.slice a1 0 c1,.int .i64 x1] 43)):=hM0.alloc _ _
 generalize hU1:(numW w).alloc (.cells #[.bool n1,.slice a1 0 c1,.int .i64 x1] 43)=u1 at *
 obtain⟨r0,r1,r2⟩:=G2.out _ (hK0.trans m1)
 rw[rounds_succ]
 go_wp2_with fail
 have kb2:Kept (numW w) (u1.alloc (.cells #[.bool n2,.slice a2 l2 c2,.int .i64 x2] 43)):=m1.alloc _ _
 have HS2:Hid (∀u,Kept (u1.alloc (.cells #[.bool n2,.slice a2 l2 c2,.int .i64 x2] 43)) u→Kept (numW w) u∧u.cell? ⟨u1.heap.size,0,none⟩=some (.bool n2)∧u.cell? ⟨u1.heap.size,1,none⟩=some (.slice a2 l2 c2)∧u.cell? ⟨u1.heap.size,2,none⟩=some (.int .i64 x2)):=fun u k=>⟨kb2.trans k,(by have h:=laid_cell k 0;(try simp only[World.size_alloc]at h);exact h.trans (by simp[go_sem])),(by have h:=laid_cell k 1;(try simp only[World.size_alloc]at h);exact h.trans (by simp[go_sem])),(by have h:=laid_cell k 2;(try simp only[World.size_alloc]at h);exact h.trans (by simp[go_sem]))⟩
 refine wp_region_held_drew (S:=fun u=>Kept (numW w) u∧u.cell? ⟨u1.heap.size,0,none⟩=some (.bool n2)∧u.cell? ⟨u1.heap.size,1,none⟩=some (.slice a2 l2 c2)∧u.cell? ⟨u1.heap.size,2,none⟩=some (.int .i64 x2)) (by kernel_rfl) (HS2.out _ (Kept.refl _).drew) (fun hHeld=>?_)
 refine tk (i:=0) (v:=?_) rfl ?_
 try simp only[Act.put,zD,zE,zF]
 refine tk (i:=1) (v:=?_) rfl ?_
 try simp only[Act.put,zD,zE,zF]
 refine tk (i:=2) (v:=?_) rfl ?_
 try simp only[Act.put,zD,zE,zF]
 refine tk (i:=3) (v:=?_) rfl ?_
 try simp only[Act.put,zD,zE,zF]
 refine tk (i:=4) (v:=?_) rfl ?_
 try simp only[Act.put,zD,zE,zF]
 refine tk (i:=5) (v:=?_) rfl ?_
 try simp only[Act.put,zD,zE,zF]
 refine wpAnyH_ready (rs:=[6]) (by kernel_rfl) (by simp) ?_
 refine AllReadyH.cons rfl (fun K hK9=>?_) AllReadyH.nil
 go_simp
 go_wp2_with (first|(go_at_call 159;refine(KT2.out _ (hK0.trans kb2.drew)).mono ?_;rintro e u2 ⟨rfl,ku2⟩;have e0:=HS2.out _ ((Kept.refl _).drew.trans ku2)))
 refine hK9.out _ _ e0 (fun hHeld2=>?_)
 clear hK9 K hHeld
 refine tk (i:=7) (v:=?_) rfl ?_
 try simp only[Act.put,zD,zE,zF]
 refine tk (i:=8) (v:=?_) rfl ?_
 try simp only[Act.put,zD,zE,zF]
 refine tk (i:=9) (v:=?_) rfl ?_
 try simp only[Act.put,zD,zE,zF]
 refine wpAnyH_done (by kernel_rfl) ?_ _
 clear hHeld2 e0
 have m2:Kept (numW w) u2:=kb2.drew.trans ku2
 go_wp2_with fail
 have OM:=own_made n (by omega) u2
 have mV:Kept (numW w) (u2.alloc (.cells (madeCells #[.int .i64 0] n) 3)):=m2.alloc _ _
 have hgg:(numW w).heap.size≤u2.heap.size:=by have hq:=m2.below.size;simp only[World.size_alloc]at hq ⊢;omega
 obtain⟨v0,v1,v2⟩:=G1.out _ (hK0.trans mV)
 rw[rounds_succ]
 go_wp2
 refine wp_loop_rounds 3 ?_
 rw[rounds_succ]
 (try simp only[World.size_alloc]at OM)
 go_wp2_with fail
 refine(lay_nil _ _ _ _ _ _ _ _ _).mono ?_
 rintro e z1 ⟨rfl,gz1⟩
 have mz1:Kept (numW w) z1:=(mV.alloc _ _).trans gz1
 have oz1:=(OM.kept ((Kept.refl _).alloc _ _)).kept gz1
 rw[←hC1]at oz1
 go_wp2_with fail
 clear v0 v1 v2
 obtain⟨v0,v1,v2⟩:=G2.out _ (hK0.trans mz1)
 rw[rounds_succ]
 go_wp2_with fail
 refine(KL2.out _ _ (hK0.trans (mz1.alloc _ _)) (by have hq:=hgg;simp only[World.size_alloc]at hq;omega) (oz1.kept ((Kept.refl _).alloc _ _))).mono ?_
 rintro e z2 ⟨rfl,oz2,gz2⟩
 have mz2:Kept (numW w) z2:=(mz1.alloc _ _).grw hgg gz2
 go_wp2_with fail
 rw[rounds_succ]
 go_wp2_with fail
 refine(KS.out (numW w) _ _ hK0 mz2 hgg oz2).mono ?_
 rintro e z5 ⟨hres,k5⟩
 cases Res with
 |none=>
  have hres2:e=.panicked gaveUp:=hres
  subst hres2
  go_wp2
  exact⟨rfl,rfl,hK0.trans k5⟩
 |some r=>
  obtain⟨v,rfl,hN⟩:=hres
  obtain⟨f0,f1,f2,f3⟩:=num_cells k5
  obtain⟨vn,va,vl,vc,vx,rfl⟩:=hN.shape
  go_wp2
  have:=num_done hN k5 (.bool vn) (.slice va vl vc) (.int .i64 vx)
  exact bodyPost_ret (v:=.agg #[.bool vn,.slice va vl vc,.int .i64 vx]) (by simp[results,Tryz.results145,go_sem,f0,f1,f2]) rfl ⟨⟨_,rfl,this.1⟩,this.2⟩
end Go.Proofs.YtnniljhdcplkgaaGreatDoor
namespace Go.Proofs.YtnniljhdcplkgaaGreatDoor
open Go.ChangeShapes Go.WideShapes Go.ChangeAt Go.RowKit
set_option maxHeartbeats 16000000
set_option maxRecDepth 100000
set_option linter.unusedVariables false
set_option linter.unusedSimpArgs false
theorem sum_EE (w:World)(T:Nat)(hTw:T<w.heap.size)
  (n1:Bool) (a1:Option Addr) (l1 c1:Nat) (x1 t1:Int) (hx1:-1048576≤x1∧x1≤1048576) (ht1:-1048576≤t1∧t1≤1200000)
  (hl1:l1=0)
  (n2:Bool) (a2:Option Addr) (l2 c2:Nat) (x2 t2:Int) (hx2:-1048576≤x2∧x2≤1048576) (ht2:-1048576≤t2∧t2≤1200000)
  (hl2:l2=0)
  (C1 C2:List Int)
  (hC1:C1=List.replicate 2 0)
  (hC2:C2=C1)
  (Res:Option Nm) (KS:Hid (∀u0 u g,Kept w u0→Kept u0 u→u0.heap.size≤g→Own u g 2 C2→Calls Tryz.prog 161 #[.slice (some ⟨g,0,none⟩) 2 2,.int .i64 1048576] u fun e w'=>ToldR Res u0 w' e∧Kept u0 w'))
  (d0:w.cell? ⟨T,0,none⟩=some (.bool n1)) (d1:w.cell? ⟨T,1,none⟩=some (.slice a1 l1 c1)) (d2:w.cell? ⟨T,2,none⟩=some (.int .i64 x1))
  (d3:w.cell? ⟨T,3,none⟩=some (.bool n2)) (d4:w.cell? ⟨T,4,none⟩=some (.slice a2 l2 c2)) (d5:w.cell? ⟨T,5,none⟩=some (.int .i64 x2))
  :Calls Tryz.prog 145 #[.slice (some ⟨T,0,none⟩) 2 2] w fun e w'=>ToldR Res w w' e∧Kept w w':=by
 have G1:Hid (∀u,Kept w u→u.cell? ⟨T,0,none⟩=some (.bool n1)∧u.cell? ⟨T,1,none⟩=some (.slice a1 l1 c1)∧u.cell? ⟨T,2,none⟩=some (.int .i64 x1)):=fun u k=>⟨(k.below.cell (p:=⟨T,0,none⟩) hTw).trans d0,(k.below.cell (p:=⟨T,1,none⟩) hTw).trans d1,(k.below.cell (p:=⟨T,2,none⟩) hTw).trans d2⟩
 have G2:Hid (∀u,Kept w u→u.cell? ⟨T,3,none⟩=some (.bool n2)∧u.cell? ⟨T,4,none⟩=some (.slice a2 l2 c2)∧u.cell? ⟨T,5,none⟩=some (.int .i64 x2)):=fun u k=>⟨(k.below.cell (p:=⟨T,3,none⟩) hTw).trans d3,(k.below.cell (p:=⟨T,4,none⟩) hTw).trans d4,(k.below.cell (p:=⟨T,5,none⟩) hTw).trans d5⟩
 clear d0 d1 d2 d3 d4 d5
 subst hl1
 subst hl2
 have hK0:Kept w (numW w):=(Kept.refl w).alloc _ _
 obtain⟨s0,s1,s2⟩:=G1.out _ hK0
 have HW:=make_run2
 have hmx0:max 0 (-2097152:Int)=0:=by decide
 go_enter Tryz.func145,Tryz.ntmps145
 go_wp2
 refine wp_loop_rounds 3 ?_
 rw[rounds_succ]
 have hM0:Kept (numW w) (numW w):=Kept.refl _
 go_wp2_with fail
 have m1:Kept (numW w) ((numW w).alloc (.cells #[.bool n1,.slice a1 0 c1,.int .i64 x1] 43)):=hM0.alloc _ _
 generalize hU1:(numW w).alloc (.cells #[.bool n1,.slice a1 0 c1,.int .i64 x1] 43)=u1 at *
 obtain⟨r0,r1,r2⟩:=G2.out _ (hK0.trans m1)
 rw[rounds_succ]
 go_wp2_with fail
 have m2:Kept (numW w) (u1.alloc (.cells #[.bool n2,.slice a2 0 c2,.int .i64 x2] 43)):=m1.alloc _ _
 generalize hU2:u1.alloc (.cells #[.bool n2,.slice a2 0 c2,.int .i64 x2] 43)=u2 at *
 have OM:=own_made 2 (by omega) u2
 have mV:Kept (numW w) (u2.alloc (.cells (madeCells #[.int .i64 0] 2) 3)):=m2.alloc _ _
 have hgg:(numW w).heap.size≤u2.heap.size:=by have hq:=m2.below.size;simp only[World.size_alloc]at hq ⊢;omega
 obtain⟨v0,v1,v2⟩:=G1.out _ (hK0.trans mV)
 rw[rounds_succ]
 go_wp2
 refine wp_loop_rounds 3 ?_
 rw[rounds_succ]
 (try simp only[World.size_alloc]at OM)
 go_wp2_with fail
 refine(lay_nil _ _ _ _ _ _ _ _ _).mono ?_
 rintro e z1 ⟨rfl,gz1⟩
 have mz1:Kept (numW w) z1:=(mV.alloc _ _).trans gz1
 have oz1:=(OM.kept ((Kept.refl _).alloc _ _)).kept gz1
 rw[←hC1]at oz1
 go_wp2_with fail
 clear v0 v1 v2
 obtain⟨v0,v1,v2⟩:=G2.out _ (hK0.trans mz1)
 rw[rounds_succ]
 go_wp2_with fail
 refine(lay_nil _ _ _ _ _ _ _ _ _).mono ?_
 rintro e z2 ⟨rfl,gz2⟩
 have mz2:Kept (numW w) z2:=(mz1.alloc _ _).trans gz2
 have oz2:=(oz1.kept ((Kept.refl _).alloc _ _)).kept gz2
 rw[←hC2]at oz2
 go_wp2_with fail
 rw[rounds_succ]
 go_wp2_with fail
 refine(KS.out (numW w) _ _ hK0 mz2 hgg oz2).mono ?_
 rintro e z5 ⟨hres,k5⟩
 cases Res with
 |none=>
  have hres2:e=.panicked gaveUp:=hres
  subst hres2
  go_wp2
  exact⟨rfl,rfl,hK0.trans k5⟩
 |some r=>
  obtain⟨v,rfl,hN⟩:=hres
  obtain⟨f0,f1,f2,f3⟩:=num_cells k5
  obtain⟨vn,va,vl,vc,vx,rfl⟩:=hN.shape
  go_wp2
  have:=num_done hN k5 (.bool vn) (.slice va vl vc) (.int .i64 vx)
  exact bodyPost_ret (v:=.agg #[.bool vn,.slice va vl vc,.int .i64 vx]) (by simp[results,Tryz.results145,go_sem,f0,f1,f2]) rfl ⟨⟨_,rfl,this.1⟩,this.2⟩
end Go.Proofs.YtnniljhdcplkgaaGreatDoor
namespace Go.Proofs.YtnniljhdcplkgaaGreatDoor
open Go.ChangeShapes Go.WideShapes Go.ChangeAt Go.RowKit
set_option maxHeartbeats 16000000
set_option maxRecDepth 100000
set_option linter.unusedVariables false
set_option linter.unusedSimpArgs false
theorem sum_far (w:World)(T:Nat)(hTw:T<w.heap.size)
  (n1:Bool) (a1:Option Addr) (l1 c1:Nat) (x1 t1:Int) (hx1:-1048576≤x1∧x1≤1048576) (ht1:-1048576≤t1∧t1≤1200000)
  (hl1:0<l1) (hl1b:l1<1000000) (KT1:Hid (∀u,Kept w u→Calls Tryz.prog 159 #[.agg #[.bool n1,.slice a1 l1 c1,.int .i64 x1]] u fun e w'=>e=.returned (.int .i64 t1)∧Kept u w'))
  (n2:Bool) (a2:Option Addr) (l2 c2:Nat) (x2 t2:Int) (hx2:-1048576≤x2∧x2≤1048576) (ht2:-1048576≤t2∧t2≤1200000)
  (hl2:0<l2) (hl2b:l2<1000000) (KT2:Hid (∀u,Kept w u→Calls Tryz.prog 159 #[.agg #[.bool n2,.slice a2 l2 c2,.int .i64 x2]] u fun e w'=>e=.returned (.int .i64 t2)∧Kept u w'))
  (lo hi:Int) (hlo:min x1 x2=lo) (hhi:max t1 t2=hi)
  (R:Nat) (hR:max 0 (hi-lo)=(R:Int)) (hR2:60001<R)
  (d0:w.cell? ⟨T,0,none⟩=some (.bool n1)) (d1:w.cell? ⟨T,1,none⟩=some (.slice a1 l1 c1)) (d2:w.cell? ⟨T,2,none⟩=some (.int .i64 x1))
  (d3:w.cell? ⟨T,3,none⟩=some (.bool n2)) (d4:w.cell? ⟨T,4,none⟩=some (.slice a2 l2 c2)) (d5:w.cell? ⟨T,5,none⟩=some (.int .i64 x2))
  :Calls Tryz.prog 145 #[.slice (some ⟨T,0,none⟩) 2 2] w fun e w'=>e=.panicked gaveUp∧Kept w w':=by
 have G1:Hid (∀u,Kept w u→u.cell? ⟨T,0,none⟩=some (.bool n1)∧u.cell? ⟨T,1,none⟩=some (.slice a1 l1 c1)∧u.cell? ⟨T,2,none⟩=some (.int .i64 x1)):=fun u k=>⟨(k.below.cell (p:=⟨T,0,none⟩) hTw).trans d0,(k.below.cell (p:=⟨T,1,none⟩) hTw).trans d1,(k.below.cell (p:=⟨T,2,none⟩) hTw).trans d2⟩
 have G2:Hid (∀u,Kept w u→u.cell? ⟨T,3,none⟩=some (.bool n2)∧u.cell? ⟨T,4,none⟩=some (.slice a2 l2 c2)∧u.cell? ⟨T,5,none⟩=some (.int .i64 x2)):=fun u k=>⟨(k.below.cell (p:=⟨T,3,none⟩) hTw).trans d3,(k.below.cell (p:=⟨T,4,none⟩) hTw).trans d4,(k.below.cell (p:=⟨T,5,none⟩) hTw).trans d5⟩
 clear d0 d1 d2 d3 d4 d5
 have hK0:Kept w (numW w):=(Kept.refl w).alloc _ _
 obtain⟨s0,s1,s2⟩:=G1.out _ hK0
 have hmn1:min 1048576 x1=x1:=by omega
 have hmx1:max (-1048576) t1=t1:=by omega
 go_enter Tryz.func145,Tryz.ntmps145
 go_wp2
 refine wp_loop_rounds 3 ?_
 rw[rounds_succ]
 have hM0:Kept (numW w) (numW w):=Kept.refl _
 go_wp2_with fail
 have kb1:Kept (numW w) ((numW w).alloc (.cells #[.bool n1,.slice a1 l1 c1,.int .i64 x1] 43)):=hM0.alloc _ _
 have HS1:Hid (∀u,Kept ((numW w).alloc (.cells #[.bool n1,.slice a1 l1 c1,.int .i64 x1] 43)) u→Kept (numW w) u∧u.cell? ⟨w.heap.size+1,0,none⟩=some (.bool n1)∧u.cell? ⟨w.heap.size+1,1,none⟩=some (.slice a1 l1 c1)∧u.cell? ⟨w.heap.size+1,2,none⟩=some (.int .i64 x1)):=fun u k=>⟨kb1.trans k,(by have h:=laid_cell k 0;(try simp only[World.size_alloc]at h);exact h.trans (by simp[go_sem])),(by have h:=laid_cell k 1;(try simp only[World.size_alloc]at h);exact h.trans (by simp[go_sem])),(by have h:=laid_cell k 2;(try simp only[World.size_alloc]at h);exact h.trans (by simp[go_sem]))⟩
 refine wp_region_held_drew (S:=fun u=>Kept (numW w) u∧u.cell? ⟨w.heap.size+1,0,none⟩=some (.bool n1)∧u.cell? ⟨w.heap.size+1,1,none⟩=some (.slice a1 l1 c1)∧u.cell? ⟨w.heap.size+1,2,none⟩=some (.int .i64 x1)) (by kernel_rfl) (HS1.out _ (Kept.refl _).drew) (fun hHeld=>?_)
 refine tk (i:=0) (v:=?_) rfl ?_
 try simp only[Act.put,zD,zE,zF]
 refine tk (i:=1) (v:=?_) rfl ?_
 try simp only[Act.put,zD,zE,zF]
 refine tk (i:=2) (v:=?_) rfl ?_
 try simp only[Act.put,zD,zE,zF]
 refine tk (i:=3) (v:=?_) rfl ?_
 try simp only[Act.put,zD,zE,zF]
 refine tk (i:=4) (v:=?_) rfl ?_
 try simp only[Act.put,zD,zE,zF]
 refine tk (i:=5) (v:=?_) rfl ?_
 try simp only[Act.put,zD,zE,zF]
 refine wpAnyH_ready (rs:=[6]) (by kernel_rfl) (by simp) ?_
 refine AllReadyH.cons rfl (fun K hK9=>?_) AllReadyH.nil
 go_simp
 go_wp2_with (first|(go_at_call 159;refine(KT1.out _ (hK0.trans kb1.drew)).mono ?_;rintro e u1 ⟨rfl,ku1⟩;have e0:=HS1.out _ ((Kept.refl _).drew.trans ku1)))
 refine hK9.out _ _ e0 (fun hHeld2=>?_)
 clear hK9 K hHeld
 refine tk (i:=7) (v:=?_) rfl ?_
 try simp only[Act.put,zD,zE,zF]
 refine tk (i:=8) (v:=?_) rfl ?_
 try simp only[Act.put,zD,zE,zF]
 refine tk (i:=9) (v:=?_) rfl ?_
 try simp only[Act.put,zD,zE,zF]
 refine wpAnyH_done (by kernel_rfl) ?_ _
 clear hHeld2 e0
 have m1:Kept (numW w) u1:=kb1.drew.trans ku1
 go_wp2_with fail
 obtain⟨r0,r1,r2⟩:=G2.out _ (hK0.trans m1)
 rw[rounds_succ]
 go_wp2_with fail
 have kb2:Kept (numW w) (u1.alloc (.cells #[.bool n2,.slice a2 l2 c2,.int .i64 x2] 43)):=m1.alloc _ _
 have HS2:Hid (∀u,Kept (u1.alloc (.cells #[.bool n2,.slice a2 l2 c2,.int .i64 x2] 43)) u→Kept (numW w) u∧u.cell? ⟨u1.heap.size,0,none⟩=some (.bool n2)∧u.cell? ⟨u1.heap.size,1,none⟩=some (.slice a2 l2 c2)∧u.cell? ⟨u1.heap.size,2,none⟩=some (.int .i64 x2)):=fun u k=>⟨kb2.trans k,(by have h:=laid_cell k 0;(try simp only[World.size_alloc]at h);exact h.trans (by simp[go_sem])),(by have h:=laid_cell k 1;(try simp only[World.size_alloc]at h);exact h.trans (by simp[go_sem])),(by have h:=laid_cell k 2;(try simp only[World.size_alloc]at h);exact h.trans (by simp[go_sem]))⟩
 refine wp_region_held_drew (S:=fun u=>Kept (numW w) u∧u.cell? ⟨u1.heap.size,0,none⟩=some (.bool n2)∧u.cell? ⟨u1.heap.size,1,none⟩=some (.slice a2 l2 c2)∧u.cell? ⟨u1.heap.size,2,none⟩=some (.int .i64 x2)) (by kernel_rfl) (HS2.out _ (Kept.refl _).drew) (fun hHeld=>?_)
 refine tk (i:=0) (v:=?_) rfl ?_
 try simp only[Act.put,zD,zE,zF]
 refine tk (i:=1) (v:=?_) rfl ?_
 try simp only[Act.put,zD,zE,zF]
 refine tk (i:=2) (v:=?_) rfl ?_
 try simp only[Act.put,zD,zE,zF]
 refine tk (i:=3) (v:=?_) rfl ?_
 try simp only[Act.put,zD,zE,zF]
 refine tk (i:=4) (v:=?_) rfl ?_
 try simp only[Act.put,zD,zE,zF]
 refine tk (i:=5) (v:=?_) rfl ?_
 try simp only[Act.put,zD,zE,zF]
 refine wpAnyH_ready (rs:=[6]) (by kernel_rfl) (by simp) ?_
 refine AllReadyH.cons rfl (fun K hK9=>?_) AllReadyH.nil
 go_simp
 go_wp2_with (first|(go_at_call 159;refine(KT2.out _ (hK0.trans kb2.drew)).mono ?_;rintro e u2 ⟨rfl,ku2⟩;have e0:=HS2.out _ ((Kept.refl _).drew.trans ku2)))
 refine hK9.out _ _ e0 (fun hHeld2=>?_)
 clear hK9 K hHeld
 refine tk (i:=7) (v:=?_) rfl ?_
 try simp only[Act.put,zD,zE,zF]
 refine tk (i:=8) (v:=?_) rfl ?_
 try simp only[Act.put,zD,zE,zF]
 refine tk (i:=9) (v:=?_) rfl ?_
 try simp only[Act.put,zD,zE,zF]
 refine wpAnyH_done (by kernel_rfl) ?_ _
 clear hHeld2 e0
 have m2:Kept (numW w) u2:=kb2.drew.trans ku2
 go_wp2_with fail
 rw[rounds_succ]
 go_wp2
 exact⟨rfl,rfl,hK0.trans m2⟩
end Go.Proofs.YtnniljhdcplkgaaGreatDoor
