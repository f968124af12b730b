/-  -/
import Derived.Test.YtnniljhdcplkgaaGreatDoorWs21
import Derived.Test.YtnniljhdcplkgaaGreatDoorWs20
import Derived.Test.YtnniljhdcplkgaaGreatDoorWs13
import Derived.Test.YtnniljhdcplkgaaGreatDoorWs05
import Derived.Deep.RegionHeld
namespace Go.Proofs.YtnniljhdcplkgaaGreatDoor
open Go.ChangeShapes Go.WideShapes Go.ChangeAt Go.RowKit
set_option maxHeartbeats 16000000
set_option maxRecDepth 100000
set_option linter.unusedVariables false
set_option linter.unusedSimpArgs false
theorem cutz_same {c D V k Q H F k' Q' H' F':Nat}{od hf rt od' hf' rt':Bool}(h:Cutz c D V k Q H F od hf rt)(h':Cutz c D V k' Q' H' F' od' hf' rt')(hm:∀r s,r<s→rv c r<rv c s)(way:Int)(hw:way=0∨way=1∨way=2)(ng:Bool)(inf:Nat):mgz way ng inf F od hf rt=mgz way ng inf F' od' hf' rt'∧odz way ng inf F od hf rt=odz way ng inf F' od' hf' rt':=by
 have hF:F=F':=by
  obtain⟨a1,a2⟩:=h.floor
  obtain⟨b1,b2⟩:=h'.floor
  have mono:∀r s,r≤s→rv c r*D≤rv c s*D:=fun r s g=>by
   rcases Nat.lt_or_eq_of_le g with g|g
   ·exact Nat.mul_le_mul_right D (Nat.le_of_lt (hm r s g))
   ·rw[g];exact Nat.le_refl _
  rcases Nat.lt_trichotomy F F' with g|g|g
  ·have:=mono (F+1) F' g;omega
  ·exact g
  ·have:=mono (F'+1) F g;omega
 subst hF
 have e1:=h.cut.trans h'.cut.symm
 have e2:=h.near.trans h'.near.symm
 have ea:awz way ng od hf rt=awz way ng od' hf' rt':=by
  unfold awz
  rw[e1,e2]
 unfold mgz odz
 rw[ea,e1]
 exact⟨rfl,rfl⟩
end Go.Proofs.YtnniljhdcplkgaaGreatDoor

namespace Go.Proofs.YtnniljhdcplkgaaGreatDoor
open Go.ChangeShapes Go.WideShapes Go.ChangeAt Go.RowKit
set_option maxHeartbeats 16000000
set_option maxRecDepth 100000
set_option linter.unusedVariables false
set_option linter.unusedSimpArgs false
theorem splitg_false (ng:Bool)(h ex kept P Q1:Int)(L L1:Int)(hL:63≤L)(hL2:L≤9000000)(hsr:Op.shift .shr .i64 h .i64 L=pure (.int .i64 kept))(zL:IntKind.i64.wrap (L-1)=L1)(hsl:Op.shift .shl .i64 1 .i64 L1=pure (.int .i64 P))(od hf rt:Bool)(hQ:IntKind.i64.wrap (P-1)=Q1)(c1 c2 c3:Int)(hc1:bits .and .i64 kept 1=c1)(hc2:bits .and .i64 h P=c2)(hc3:bits .and .i64 h Q1=c3)(hod:(c1==1)=od)(hhf:(c2 != 0)=hf)(hrt:(c3 != 0)=rt)(w:World):Calls Tryz.prog 126 #[.agg #[.bool ng,.int .i64 h,.int .i64 ex,.bool false],.int .i64 L] w fun e w'=>e=.returned (.tuple #[.int .i64 kept,.agg #[.bool ng,.bool od,.bool hf,.bool rt]])∧Kept w w':=by
 have hK:Kept w ((w.alloc (.cells #[.bool ng,.int .i64 h,.int .i64 ex,.bool false] 117)).alloc (.cells #[.bool false,.bool false,.bool false,.bool false] 142)):=((Kept.refl w).alloc _ _).alloc _ _
 go_enter Tryz.func126,Tryz.ntmps126
 go_wp2
 go_quiet (fail)
 go_wp2
 obtain⟨W0,hW0⟩:∃W0,((w.alloc (.cells #[.bool ng,.int .i64 h,.int .i64 ex,.bool false] 117)).alloc (.cells #[.bool false,.bool false,.bool false,.bool false] 142)).drewN nq=W0:=⟨_,rfl⟩
 have q0:W0.cell? ⟨w.heap.size,0,none⟩=some (.bool ng):=by rw[←hW0];simp[go_sem]
 have q1:W0.cell? ⟨w.heap.size,1,none⟩=some (.int .i64 h):=by rw[←hW0];simp[go_sem]
 have q3:W0.cell? ⟨w.heap.size,3,none⟩=some (.bool false):=by rw[←hW0];simp[go_sem]
 have s0:W0.cell? ⟨w.heap.size+1,0,none⟩=some (.bool false):=by rw[←hW0];simp[go_sem]
 have s1:W0.cell? ⟨w.heap.size+1,1,none⟩=some (.bool false):=by rw[←hW0];simp[go_sem]
 have s2:W0.cell? ⟨w.heap.size+1,2,none⟩=some (.bool false):=by rw[←hW0];simp[go_sem]
 have s3:W0.cell? ⟨w.heap.size+1,3,none⟩=some (.bool false):=by rw[←hW0];simp[go_sem]
 have sf:∀o,W0.frozen? ⟨w.heap.size+1,o,none⟩=false:=fun o=>by rw[←hW0];simp[go_sem]
 have hK0:Kept w W0:=by rw[←hW0];exact hK.drewN nq
 rw[hW0]
 clear hW0 hK
 refine wp_region_held_drew (S:=fun u=>u.cell? ⟨w.heap.size,0,none⟩=some (.bool ng)∧u.cell? ⟨w.heap.size,1,none⟩=some (.int .i64 h)∧u.cell? ⟨w.heap.size,3,none⟩=some (.bool false)) (by kernel_rfl) ⟨q0,q1,q3⟩ (fun hHeld=>?_)
 refine tk (i:=0) (v:=?_) rfl ?_
 try simp only[Act.put,zA,zB,zC,zD,zE,zF]
 refine tk (i:=1) (v:=?_) rfl ?_
 try simp only[Act.put,zA,zB,zC,zD,zE,zF]
 refine tk (i:=2) (v:=?_) rfl ?_
 try simp only[Act.put,zA,zB,zC,zD,zE,zF]
 refine tk (i:=3) (v:=?_) rfl ?_
 try simp only[Act.put,zA,zB,zC,zD,zE,zF]
 refine tk (i:=4) (v:=?_) rfl ?_
 try simp only[Act.put,zA,zB,zC,zD,zE,zF]
 refine tk (i:=5) (v:=?_) rfl ?_
 try simp only[Act.put,zA,zB,zC,zD,zE,zF]
 refine tk (i:=6) (v:=?_) rfl ?_
 try simp only[Act.put,zA,zB,zC,zD,zE,zF]
 refine tk (i:=7) (v:=?_) rfl ?_
 try simp only[Act.put,zA,zB,zC,zD,zE,zF]
 refine tk (i:=8) (v:=?_) rfl ?_
 try simp only[Act.put,zA,zB,zC,zD,zE,zF]
 refine tk (i:=9) (v:=?_) rfl ?_
 try simp only[Act.put,zA,zB,zC,zD,zE,zF]
 refine tk (i:=10) (v:=?_) rfl ?_
 try simp only[Act.put,zA,zB,zC,zD,zE,zF]
 refine tk (i:=11) (v:=?_) rfl ?_
 try simp only[Act.put,zA,zB,zC,zD,zE,zF]
 refine tk (i:=12) (v:=?_) rfl ?_
 try simp only[Act.put,zA,zB,zC,zD,zE,zF]
 refine tk (i:=13) (v:=?_) rfl ?_
 try simp only[Act.put,zA,zB,zC,zD,zE,zF]
 refine tk (i:=14) (v:=?_) rfl ?_
 try simp only[Act.put,zA,zB,zC,zD,zE,zF]
 refine tk (i:=15) (v:=?_) rfl ?_
 try simp only[Act.put,zA,zB,zC,zD,zE,zF]
 refine tk (i:=16) (v:=?_) rfl ?_
 try simp only[Act.put,zA,zB,zC,zD,zE,zF]
 refine tk (i:=17) (v:=?_) rfl ?_
 try simp only[Act.put,zA,zB,zC,zD,zE,zF]
 refine tk (i:=18) (v:=?_) rfl ?_
 try simp only[Act.put,zA,zB,zC,zD,zE,zF]
 refine tk (i:=19) (v:=?_) rfl ?_
 try simp only[Act.put,zA,zB,zC,zD,zE,zF]
 refine tk (i:=20) (v:=?_) rfl ?_
 try simp only[Act.put,zA,zB,zC,zD,zE,zF]
 refine tk (i:=21) (v:=?_) rfl ?_
 try simp only[Act.put,zA,zB,zC,zD,zE,zF]
 refine tk (i:=22) (v:=?_) rfl ?_
 try simp only[Act.put,zA,zB,zC,zD,zE,zF]
 refine wpAnyH_ready (rs:=[23]) (by kernel_rfl) (by simp) ?_
 refine AllReadyH.cons rfl (fun K hK9=>?_) AllReadyH.nil
 go_simp
 refine hK9.out _ _ ⟨(set4 _ _ _ _ (by omega) _ _ _ _).trans q0,(set4 _ _ _ _ (by omega) _ _ _ _).trans q1,(set4 _ _ _ _ (by omega) _ _ _ _).trans q3⟩ (fun hHeld3=>?_)
 clear hK9 K hHeld
 refine wpAnyH_done (by kernel_rfl) ?_ _
 clear hHeld3
 go_wp2
 refine bodyPost_ret (v:=.tuple #[.int .i64 kept,.agg #[.bool ng,.bool od,.bool hf,.bool rt]]) (by simp[results,Tryz.results126,go_sem,s0,s1,s2,s3]) rfl ⟨rfl,?_⟩
 first
 |exact(hK0.drew.setCell (by simp) _|>.setCell (by simp) _|>.setCell (by simp) _|>.setCell (by simp) _)
 |exact(hK0.setCell (by simp) _|>.setCell (by simp) _|>.setCell (by simp) _|>.setCell (by simp) _).drew
theorem splitg_true (ng:Bool)(h ex kept P Q1:Int)(L L1:Int)(hL:63≤L)(hL2:L≤9000000)(hsr:Op.shift .shr .i64 h .i64 L=pure (.int .i64 kept))(zL:IntKind.i64.wrap (L-1)=L1)(hsl:Op.shift .shl .i64 1 .i64 L1=pure (.int .i64 P))(od hf rt:Bool)(hQ:IntKind.i64.wrap (P-1)=Q1)(c1 c2 c3:Int)(hc1:bits .and .i64 kept 1=c1)(hc2:bits .and .i64 h P=c2)(hc3:bits .and .i64 h Q1=c3)(hod:(c1==1)=od)(hhf:(c2 != 0)=hf)(hrt:rt=true)(w:World):Calls Tryz.prog 126 #[.agg #[.bool ng,.int .i64 h,.int .i64 ex,.bool true],.int .i64 L] w fun e w'=>e=.returned (.tuple #[.int .i64 kept,.agg #[.bool ng,.bool od,.bool hf,.bool rt]])∧Kept w w':=by
 have hK:Kept w ((w.alloc (.cells #[.bool ng,.int .i64 h,.int .i64 ex,.bool true] 117)).alloc (.cells #[.bool false,.bool false,.bool false,.bool false] 142)):=((Kept.refl w).alloc _ _).alloc _ _
 subst hrt
 go_enter Tryz.func126,Tryz.ntmps126
 go_wp2
 go_quiet (fail)
 go_wp2
 obtain⟨W0,hW0⟩:∃W0,((w.alloc (.cells #[.bool ng,.int .i64 h,.int .i64 ex,.bool true] 117)).alloc (.cells #[.bool false,.bool false,.bool false,.bool false] 142)).drewN nq=W0:=⟨_,rfl⟩
 have q0:W0.cell? ⟨w.heap.size,0,none⟩=some (.bool ng):=by rw[←hW0];simp[go_sem]
 have q1:W0.cell? ⟨w.heap.size,1,none⟩=some (.int .i64 h):=by rw[←hW0];simp[go_sem]
 have q3:W0.cell? ⟨w.heap.size,3,none⟩=some (.bool true):=by rw[←hW0];simp[go_sem]
 have s0:W0.cell? ⟨w.heap.size+1,0,none⟩=some (.bool false):=by rw[←hW0];simp[go_sem]
 have s1:W0.cell? ⟨w.heap.size+1,1,none⟩=some (.bool false):=by rw[←hW0];simp[go_sem]
 have s2:W0.cell? ⟨w.heap.size+1,2,none⟩=some (.bool false):=by rw[←hW0];simp[go_sem]
 have s3:W0.cell? ⟨w.heap.size+1,3,none⟩=some (.bool false):=by rw[←hW0];simp[go_sem]
 have sf:∀o,W0.frozen? ⟨w.heap.size+1,o,none⟩=false:=fun o=>by rw[←hW0];simp[go_sem]
 have hK0:Kept w W0:=by rw[←hW0];exact hK.drewN nq
 rw[hW0]
 clear hW0 hK
 refine wp_region_held_drew (S:=fun u=>u.cell? ⟨w.heap.size,0,none⟩=some (.bool ng)∧u.cell? ⟨w.heap.size,1,none⟩=some (.int .i64 h)∧u.cell? ⟨w.heap.size,3,none⟩=some (.bool true)) (by kernel_rfl) ⟨q0,q1,q3⟩ (fun hHeld=>?_)
 refine tk (i:=0) (v:=?_) rfl ?_
 try simp only[Act.put,zA,zB,zC,zD,zE,zF]
 refine tk (i:=1) (v:=?_) rfl ?_
 try simp only[Act.put,zA,zB,zC,zD,zE,zF]
 refine tk (i:=2) (v:=?_) rfl ?_
 try simp only[Act.put,zA,zB,zC,zD,zE,zF]
 refine tk (i:=3) (v:=?_) rfl ?_
 try simp only[Act.put,zA,zB,zC,zD,zE,zF]
 refine tk (i:=4) (v:=?_) rfl ?_
 try simp only[Act.put,zA,zB,zC,zD,zE,zF]
 refine tk (i:=5) (v:=?_) rfl ?_
 try simp only[Act.put,zA,zB,zC,zD,zE,zF]
 refine tk (i:=6) (v:=?_) rfl ?_
 try simp only[Act.put,zA,zB,zC,zD,zE,zF]
 refine tk (i:=7) (v:=?_) rfl ?_
 try simp only[Act.put,zA,zB,zC,zD,zE,zF]
 refine tk (i:=8) (v:=?_) rfl ?_
 try simp only[Act.put,zA,zB,zC,zD,zE,zF]
 refine tk (i:=9) (v:=?_) rfl ?_
 try simp only[Act.put,zA,zB,zC,zD,zE,zF]
 refine tk (i:=10) (v:=?_) rfl ?_
 try simp only[Act.put,zA,zB,zC,zD,zE,zF]
 refine tk (i:=11) (v:=?_) rfl ?_
 try simp only[Act.put,zA,zB,zC,zD,zE,zF]
 refine tk (i:=12) (v:=?_) rfl ?_
 try simp only[Act.put,zA,zB,zC,zD,zE,zF]
 refine tk (i:=13) (v:=?_) rfl ?_
 try simp only[Act.put,zA,zB,zC,zD,zE,zF]
 refine wpAnyH_take (i:=14) (v:=undef) rfl (by kernel_rfl) (by kernel_rfl) (by kernel_rfl) (fun _ _ _ h=>h) (Or.inr ⟨by rfl,rfl⟩) (by assumption) ?_
 try simp only[Act.put,zA,zB,zC,zD,zE,zF]
 refine wpAnyH_take (i:=15) (v:=undef) rfl (by kernel_rfl) (by kernel_rfl) (by kernel_rfl) (fun _ _ _ h=>h) (Or.inr ⟨by rfl,rfl⟩) (by assumption) ?_
 try simp only[Act.put,zA,zB,zC,zD,zE,zF]
 refine wpAnyH_take (i:=16) (v:=undef) rfl (by kernel_rfl) (by kernel_rfl) (by kernel_rfl) (fun _ _ _ h=>h) (Or.inr ⟨by rfl,rfl⟩) (by assumption) ?_
 try simp only[Act.put,zA,zB,zC,zD,zE,zF]
 refine wpAnyH_take (i:=17) (v:=undef) rfl (by kernel_rfl) (by kernel_rfl) (by kernel_rfl) (fun _ _ _ h=>h) (Or.inr ⟨by rfl,rfl⟩) (by assumption) ?_
 try simp only[Act.put,zA,zB,zC,zD,zE,zF]
 refine wpAnyH_take (i:=18) (v:=undef) rfl (by kernel_rfl) (by kernel_rfl) (by kernel_rfl) (fun _ _ _ h=>h) (Or.inr ⟨by rfl,rfl⟩) (by assumption) ?_
 try simp only[Act.put,zA,zB,zC,zD,zE,zF]
 refine wpAnyH_take (i:=19) (v:=undef) rfl (by kernel_rfl) (by kernel_rfl) (by kernel_rfl) (fun _ _ _ h=>h) (Or.inr ⟨by rfl,rfl⟩) (by assumption) ?_
 try simp only[Act.put,zA,zB,zC,zD,zE,zF]
 refine tk (i:=20) (v:=?_) rfl ?_
 try simp only[Act.put,zA,zB,zC,zD,zE,zF]
 refine tk (i:=21) (v:=?_) rfl ?_
 try simp only[Act.put,zA,zB,zC,zD,zE,zF]
 refine tk (i:=22) (v:=?_) rfl ?_
 try simp only[Act.put,zA,zB,zC,zD,zE,zF]
 refine wpAnyH_ready (rs:=[23]) (by kernel_rfl) (by simp) ?_
 refine AllReadyH.cons rfl (fun K hK9=>?_) AllReadyH.nil
 go_simp
 refine hK9.out _ _ ⟨(set4 _ _ _ _ (by omega) _ _ _ _).trans q0,(set4 _ _ _ _ (by omega) _ _ _ _).trans q1,(set4 _ _ _ _ (by omega) _ _ _ _).trans q3⟩ (fun hHeld3=>?_)
 clear hK9 K hHeld
 refine wpAnyH_done (by kernel_rfl) ?_ _
 clear hHeld3
 go_wp2
 refine bodyPost_ret (v:=.tuple #[.int .i64 kept,.agg #[.bool ng,.bool od,.bool hf,.bool true]]) (by simp[results,Tryz.results126,go_sem,s0,s1,s2,s3]) rfl ⟨rfl,?_⟩
 first
 |exact(hK0.drew.setCell (by simp) _|>.setCell (by simp) _|>.setCell (by simp) _|>.setCell (by simp) _)
 |exact(hK0.setCell (by simp) _|>.setCell (by simp) _|>.setCell (by simp) _|>.setCell (by simp) _).drew
theorem beyond_false_false (K:Nat)(hcall:∀a w,(callFunc K #[a]).run Tryz.prog w=.ok (.enter K #[a]) w)(n pr le fi p q:Int)(w:World)
  (KA:Hid (∀u,Calls Tryz.prog K #[.agg #[.bool false,.bool false,.bool true,.bool true]] u fun e w'=>e=.returned (.bool false)∧Kept u w'))
  (KP:Hid (∀u,Calls Tryz.prog 150 #[.int .i64 fi,.int .i64 n] u fun e w'=>e=.returned (.int .i64 p)∧Kept u w'))
  (KN:Hid (∀u,Calls Tryz.prog 151 #[.int .i64 p,.int .i64 n] u fun e w'=>e=.returned (.int .i64 q)∧Kept u w')):
  Calls Tryz.prog 128 #[.agg #[.int .i64 n,.int .i64 pr,.int .i64 le,.int .i64 fi,.func (.func K) #[] #[]],.bool false] w fun e w'=>e=.returned (.int .i64 p)∧Kept w w':=by
 have hK:Kept w (w.alloc (.cells #[.int .i64 n,.int .i64 pr,.int .i64 le,.int .i64 fi,.func (.func K) #[] #[]] 112)):=(Kept.refl w).alloc _ _
 have Q:Hid (∀u,Kept (w.alloc (.cells #[.int .i64 n,.int .i64 pr,.int .i64 le,.int .i64 fi,.func (.func K) #[] #[]] 112)) u→u.cell? ⟨w.heap.size,0,none⟩=some (.int .i64 n)∧u.cell? ⟨w.heap.size,3,none⟩=some (.int .i64 fi)∧u.cell? ⟨w.heap.size,4,none⟩=some (.func (.func K) #[] #[])):=fun u k=>⟨(laid_cell k 0).trans (by simp[go_sem]),(laid_cell k 3).trans (by simp[go_sem]),(laid_cell k 4).trans (by simp[go_sem])⟩
 go_enter Tryz.func128,Tryz.ntmps128
 go_wp2_with fail
 refine(KA.out _).mono ?_
 rintro e w1 ⟨rfl,k1⟩
 obtain⟨p0,p3,p4⟩:=Q.out _ k1
 go_wp2_with fail
 refine(KP.out _).mono ?_
 rintro e w2 ⟨rfl,k2⟩
 obtain⟨q0,q3,q4⟩:=Q.out _ (k1.trans k2)
 go_wp2
 go_ret
 exact⟨rfl,hK.trans (k1.trans k2)⟩
theorem beyond_false_true (K:Nat)(hcall:∀a w,(callFunc K #[a]).run Tryz.prog w=.ok (.enter K #[a]) w)(n pr le fi p q:Int)(w:World)
  (KA:Hid (∀u,Calls Tryz.prog K #[.agg #[.bool false,.bool false,.bool true,.bool true]] u fun e w'=>e=.returned (.bool true)∧Kept u w'))
  (KP:Hid (∀u,Calls Tryz.prog 150 #[.int .i64 fi,.int .i64 n] u fun e w'=>e=.returned (.int .i64 p)∧Kept u w'))
  (KN:Hid (∀u,Calls Tryz.prog 151 #[.int .i64 fi,.int .i64 n] u fun e w'=>e=.returned (.int .i64 q)∧Kept u w')):
  Calls Tryz.prog 128 #[.agg #[.int .i64 n,.int .i64 pr,.int .i64 le,.int .i64 fi,.func (.func K) #[] #[]],.bool false] w fun e w'=>e=.returned (.int .i64 fi)∧Kept w w':=by
 have hK:Kept w (w.alloc (.cells #[.int .i64 n,.int .i64 pr,.int .i64 le,.int .i64 fi,.func (.func K) #[] #[]] 112)):=(Kept.refl w).alloc _ _
 have Q:Hid (∀u,Kept (w.alloc (.cells #[.int .i64 n,.int .i64 pr,.int .i64 le,.int .i64 fi,.func (.func K) #[] #[]] 112)) u→u.cell? ⟨w.heap.size,0,none⟩=some (.int .i64 n)∧u.cell? ⟨w.heap.size,3,none⟩=some (.int .i64 fi)∧u.cell? ⟨w.heap.size,4,none⟩=some (.func (.func K) #[] #[])):=fun u k=>⟨(laid_cell k 0).trans (by simp[go_sem]),(laid_cell k 3).trans (by simp[go_sem]),(laid_cell k 4).trans (by simp[go_sem])⟩
 go_enter Tryz.func128,Tryz.ntmps128
 go_wp2_with fail
 refine(KA.out _).mono ?_
 rintro e w1 ⟨rfl,k1⟩
 obtain⟨p0,p3,p4⟩:=Q.out _ k1
 go_wp2
 go_ret
 exact⟨rfl,hK.trans k1⟩
theorem beyond_true_false (K:Nat)(hcall:∀a w,(callFunc K #[a]).run Tryz.prog w=.ok (.enter K #[a]) w)(n pr le fi p q:Int)(w:World)
  (KA:Hid (∀u,Calls Tryz.prog K #[.agg #[.bool true,.bool false,.bool true,.bool true]] u fun e w'=>e=.returned (.bool false)∧Kept u w'))
  (KP:Hid (∀u,Calls Tryz.prog 150 #[.int .i64 fi,.int .i64 n] u fun e w'=>e=.returned (.int .i64 p)∧Kept u w'))
  (KN:Hid (∀u,Calls Tryz.prog 151 #[.int .i64 p,.int .i64 n] u fun e w'=>e=.returned (.int .i64 q)∧Kept u w')):
  Calls Tryz.prog 128 #[.agg #[.int .i64 n,.int .i64 pr,.int .i64 le,.int .i64 fi,.func (.func K) #[] #[]],.bool true] w fun e w'=>e=.returned (.int .i64 q)∧Kept w w':=by
 have hK:Kept w (w.alloc (.cells #[.int .i64 n,.int .i64 pr,.int .i64 le,.int .i64 fi,.func (.func K) #[] #[]] 112)):=(Kept.refl w).alloc _ _
 have Q:Hid (∀u,Kept (w.alloc (.cells #[.int .i64 n,.int .i64 pr,.int .i64 le,.int .i64 fi,.func (.func K) #[] #[]] 112)) u→u.cell? ⟨w.heap.size,0,none⟩=some (.int .i64 n)∧u.cell? ⟨w.heap.size,3,none⟩=some (.int .i64 fi)∧u.cell? ⟨w.heap.size,4,none⟩=some (.func (.func K) #[] #[])):=fun u k=>⟨(laid_cell k 0).trans (by simp[go_sem]),(laid_cell k 3).trans (by simp[go_sem]),(laid_cell k 4).trans (by simp[go_sem])⟩
 go_enter Tryz.func128,Tryz.ntmps128
 go_wp2_with fail
 refine(KA.out _).mono ?_
 rintro e w1 ⟨rfl,k1⟩
 obtain⟨p0,p3,p4⟩:=Q.out _ k1
 go_wp2_with fail
 refine(KP.out _).mono ?_
 rintro e w2 ⟨rfl,k2⟩
 obtain⟨q0,q3,q4⟩:=Q.out _ (k1.trans k2)
 go_wp2_with fail
 refine(KN.out _).mono ?_
 rintro e w3 ⟨rfl,k3⟩
 go_wp2
 go_ret
 exact⟨rfl,hK.trans ((k1.trans k2).trans k3)⟩
theorem beyond_true_true (K:Nat)(hcall:∀a w,(callFunc K #[a]).run Tryz.prog w=.ok (.enter K #[a]) w)(n pr le fi p q:Int)(w:World)
  (KA:Hid (∀u,Calls Tryz.prog K #[.agg #[.bool true,.bool false,.bool true,.bool true]] u fun e w'=>e=.returned (.bool true)∧Kept u w'))
  (KP:Hid (∀u,Calls Tryz.prog 150 #[.int .i64 fi,.int .i64 n] u fun e w'=>e=.returned (.int .i64 p)∧Kept u w'))
  (KN:Hid (∀u,Calls Tryz.prog 151 #[.int .i64 fi,.int .i64 n] u fun e w'=>e=.returned (.int .i64 q)∧Kept u w')):
  Calls Tryz.prog 128 #[.agg #[.int .i64 n,.int .i64 pr,.int .i64 le,.int .i64 fi,.func (.func K) #[] #[]],.bool true] w fun e w'=>e=.returned (.int .i64 q)∧Kept w w':=by
 have hK:Kept w (w.alloc (.cells #[.int .i64 n,.int .i64 pr,.int .i64 le,.int .i64 fi,.func (.func K) #[] #[]] 112)):=(Kept.refl w).alloc _ _
 have Q:Hid (∀u,Kept (w.alloc (.cells #[.int .i64 n,.int .i64 pr,.int .i64 le,.int .i64 fi,.func (.func K) #[] #[]] 112)) u→u.cell? ⟨w.heap.size,0,none⟩=some (.int .i64 n)∧u.cell? ⟨w.heap.size,3,none⟩=some (.int .i64 fi)∧u.cell? ⟨w.heap.size,4,none⟩=some (.func (.func K) #[] #[])):=fun u k=>⟨(laid_cell k 0).trans (by simp[go_sem]),(laid_cell k 3).trans (by simp[go_sem]),(laid_cell k 4).trans (by simp[go_sem])⟩
 go_enter Tryz.func128,Tryz.ntmps128
 go_wp2_with fail
 refine(KA.out _).mono ?_
 rintro e w1 ⟨rfl,k1⟩
 obtain⟨p0,p3,p4⟩:=Q.out _ k1
 go_wp2_with fail
 refine(KN.out _).mono ?_
 rintro e w3 ⟨rfl,k3⟩
 go_wp2
 go_ret
 exact⟨rfl,hK.trans (k1.trans k3)⟩
end Go.Proofs.YtnniljhdcplkgaaGreatDoor

namespace Go.Proofs.YtnniljhdcplkgaaGreatDoor
open Go.ChangeShapes Go.WideShapes Go.ChangeAt Go.RowKit
set_option maxHeartbeats 16000000
set_option maxRecDepth 100000
set_option linter.unusedVariables false
set_option linter.unusedSimpArgs false
theorem laidn {w X u:World}(B:Nat)(vs:Array Value)(t:TypeId)(hB:B=w.heap.size)(hX:Kept (w.alloc (.cells vs t)) X)(k:Kept X u)(i:Nat):u.cell? ⟨B,i,none⟩=(w.alloc (.cells vs t)).cell? ⟨B,i,none⟩:=by
 subst hB
 exact(hX.trans k).below.cell (p:=⟨w.heap.size,i,none⟩) (by simp)
theorem roundg_all (K:Nat)(hcall:∀a w,(callFunc K #[a]).run Tryz.prog w=.ok (.enter K #[a]) w)(n pr le fi h ex Bh s1 s2 un kept kp1 k2 b:Int)(m:Nat)(ng od hf rt rs aw sb ok:Bool)(hh0:(h==0)=false)(hk0:0≤kept∧0<kp1)(hk1:IntKind.i64.wrap (kept+1)=kp1)(hk2:(if aw=true then kp1 else kept)=k2)(hsb:(ng&&decide (0<k2))=sb)(z0:IntKind.u64.wrap h=h)(z1:IntKind.i64.wrap (ex+Bh)=s1)(z2:IntKind.i64.wrap (s1-pr)=s2)(z3:max s2 le=un)(z4:IntKind.i64.wrap (un-ex)=(m:Int)+1)(w:World)
    (KL:Hid (∀u,Calls Tryz.prog 119 #[.int .u64 h] u fun e w'=>e=.returned (.int .i64 Bh)∧u=w'))
    (KS:Hid (∀u,Calls Tryz.prog 126 #[.agg #[.bool ng,.int .i64 h,.int .i64 ex,.bool rs],.int .i64 ((m:Int)+1)] u fun e w'=>e=.returned (.tuple #[.int .i64 kept,.agg #[.bool ng,.bool od,.bool hf,.bool rt]])∧Kept u w'))
    (KA:Hid (∀u,Calls Tryz.prog K #[.agg #[.bool ng,.bool od,.bool hf,.bool rt]] u fun e w'=>e=.returned (.bool aw)∧Kept u w'))
    (KJ:Hid (∀u,Kept w u→Calls Tryz.prog 127 #[.bool sb,.int .i64 k2,.int .i64 un,.int .i64 n] u fun e w'=>e=.returned (if ok=true then .tuple #[.int .i64 b,.bool true]else .tuple #[.int .i64 0,.bool false])∧Kept u w'))
    (KB:Hid (ok=false→∀u,Calls Tryz.prog 128 #[.agg #[.int .i64 n,.int .i64 pr,.int .i64 le,.int .i64 fi,.func (.func K) #[] #[]],.bool ng] u fun e w'=>e=.returned (.int .i64 b)∧Kept u w')):
    Calls Tryz.prog 100 #[.agg #[.int .i64 n,.int .i64 pr,.int .i64 le,.int .i64 fi,.func (.func K) #[] #[]],.agg #[.bool ng,.int .i64 h,.int .i64 ex,.bool rs]] w fun e w'=>e=.returned (.tuple #[.int .i64 b,.bool (if ok=true then (hf||rt)else true)])∧Kept w w':=by
  obtain⟨X,hX⟩:∃X,X=(w.alloc (.cells #[.int .i64 n,.int .i64 pr,.int .i64 le,.int .i64 fi,.func (.func K) #[] #[]] 112)).alloc (.cells #[.bool ng,.int .i64 h,.int .i64 ex,.bool rs] 117):=⟨_,rfl⟩
  have hK:Kept w X:=by rw[hX];exact((Kept.refl w).alloc _ _).alloc _ _
  have HS:Hid (∀u,Kept X u→Kept X u∧u.cell? ⟨w.heap.size,0,none⟩=some (.int .i64 n)∧u.cell? ⟨w.heap.size,1,none⟩=some (.int .i64 pr)∧u.cell? ⟨w.heap.size,2,none⟩=some (.int .i64 le)∧u.cell? ⟨w.heap.size,3,none⟩=some (.int .i64 fi)∧u.cell? ⟨w.heap.size,4,none⟩=some (.func (.func K) #[] #[])∧u.cell? ⟨w.heap.size+1,0,none⟩=some (.bool ng)∧u.cell? ⟨w.heap.size+1,1,none⟩=some (.int .i64 h)∧u.cell? ⟨w.heap.size+1,2,none⟩=some (.int .i64 ex)∧u.cell? ⟨w.heap.size+1,3,none⟩=some (.bool rs)):=fun u k=>by
    have h5:=laidn (w:=w) (X:=X) (u:=u) w.heap.size #[.int .i64 n,.int .i64 pr,.int .i64 le,.int .i64 fi,.func (.func K) #[] #[]] 112 rfl (by rw[hX];exact(Kept.refl _).alloc _ _) k
    have h4:=laidn (w:=w.alloc (.cells #[.int .i64 n,.int .i64 pr,.int .i64 le,.int .i64 fi,.func (.func K) #[] #[]] 112)) (X:=X) (u:=u) (w.heap.size+1) #[.bool ng,.int .i64 h,.int .i64 ex,.bool rs] 117 (by simp) (by rw[hX];exact Kept.refl _) k
    exact⟨k,(h5 0).trans (by simp[go_sem]),(h5 1).trans (by simp[go_sem]),(h5 2).trans (by simp[go_sem]),(h5 3).trans (by simp[go_sem]),(h5 4).trans (by simp[go_sem]),(h4 0).trans (by simp[go_sem]),(h4 1).trans (by simp[go_sem]),(h4 2).trans (by simp[go_sem]),(h4 3).trans (by simp[go_sem])⟩
  have HK2:Hid ((if aw=true then kp1 else kept)=k2):=hk2
  have HSB:Hid ((ng&&decide (0<k2))=sb):=hsb
  clear hk2 hsb hk0
  have kd:=Kept.refl X
  obtain⟨-,x0,x1,x2,x3,x4,y0,y1,y2,y3⟩:=HS.out _ kd
  go_enter Tryz.func100,Tryz.ntmps100
  go_upto_region 1 with fail
  rw[←hX]
  clear hX
  go_upto_region 3 with fail
  clear x0 x1 x2 x3 x4 y0 y1 y2 y3
  replace kd:=kd.drew
  go_region_held (fun u=>Kept X u∧u.cell? ⟨w.heap.size,0,none⟩=some (.int .i64 n)∧u.cell? ⟨w.heap.size,1,none⟩=some (.int .i64 pr)∧u.cell? ⟨w.heap.size,2,none⟩=some (.int .i64 le)∧u.cell? ⟨w.heap.size,3,none⟩=some (.int .i64 fi)∧u.cell? ⟨w.heap.size,4,none⟩=some (.func (.func K) #[] #[])∧u.cell? ⟨w.heap.size+1,0,none⟩=some (.bool ng)∧u.cell? ⟨w.heap.size+1,1,none⟩=some (.int .i64 h)∧u.cell? ⟨w.heap.size+1,2,none⟩=some (.int .i64 ex)∧u.cell? ⟨w.heap.size+1,3,none⟩=some (.bool rs)) (first|assumption|exact HS.out _ kd|exact HS.out _ (by assumption)) (first|(go_at_call 119;refine(KL.out _).mono ?_;rintro e w1 ⟨rfl,rfl⟩))
  obtain⟨-,x0,x1,x2,x3,x4,y0,y1,y2,y3⟩:=HS.out _ kd
  go_wp2_with fail
  refine(KS.out _).mono ?_
  rintro e w2 ⟨rfl,k2'⟩
  replace kd:=kd.trans k2'
  clear x0 x1 x2 x3 x4 y0 y1 y2 y3 k2' KS KL
  go_upto_region 5 with fail
  obtain⟨X2,hX2⟩:∃Y,Y=w2.alloc (.cells #[.bool ng,.bool od,.bool hf,.bool rt] 142):=⟨_,rfl⟩
  obtain⟨p8,hp8⟩:∃p,p=w2.heap.size:=⟨_,rfl⟩
  have k22:Kept w2 X2:=by rw[hX2];exact(Kept.refl _).alloc _ _
  have HC:Hid (∀u,Kept X2 u→Kept X2 u∧u.cell? ⟨p8,0,none⟩=some (.bool ng)∧u.cell? ⟨p8,1,none⟩=some (.bool od)∧u.cell? ⟨p8,2,none⟩=some (.bool hf)∧u.cell? ⟨p8,3,none⟩=some (.bool rt)):=fun u k=>by
    have h4:=laidn (w:=w2) (X:=X2) (u:=u) p8 #[.bool ng,.bool od,.bool hf,.bool rt] 142 hp8 (by rw[hX2];exact Kept.refl _) k
    subst hp8
    exact⟨k,(h4 0).trans (by simp[go_sem]),(h4 1).trans (by simp[go_sem]),(h4 2).trans (by simp[go_sem]),(h4 3).trans (by simp[go_sem])⟩
  rw[←hX2,←hp8]
  clear hX2 hp8
  replace kd:=kd.trans k22
  have kc:=Kept.refl X2
  clear k22
  obtain⟨-,x0,x1,x2,x3,x4,y0,y1,y2,y3⟩:=HS.out _ kd
  obtain⟨-,v0,v1,v2,v3⟩:=HC.out _ kc
  go_wp2_with fail
  refine(KA.out _).mono ?_
  rintro e w3 ⟨rfl,k3⟩
  replace kd:=kd.trans k3
  replace kc:=kc.trans k3
  clear x0 x1 x2 x3 x4 y0 y1 y2 y3 v0 v1 v2 v3 k3 KA
  obtain⟨-,x0,x1,x2,x3,x4,y0,y1,y2,y3⟩:=HS.out _ kd
  cases ok with
  | false=>
    (cases aw<;>cases ng)<;>
    (first|(obtain rfl:kp1=k2:=HK2.out)|(obtain rfl:kept=k2:=HK2.out)
     obtain rfl:=HSB.out
     simp only[Bool.false_and,Bool.true_and]at KJ
     go_wp2_with fail
     refine(KJ.out _ (hK.trans kd)).mono ?_
     rintro e w4 ⟨rfl,k4⟩
     replace kd:=kd.trans k4
     clear x0 x1 x2 x3 x4 y0 y1 y2 y3 k4
     obtain⟨-,x0,x1,x2,x3,x4,y0,y1,y2,y3⟩:=HS.out _ kd
     go_wp2_with fail
     refine(KB.out (by trivial) _).mono ?_
     rintro e w5 ⟨rfl,k5⟩
     go_wp2_with fail
     go_ret2
     exact⟨rfl,hK.trans (kd.trans k5)⟩)
  | true=>
    (cases aw<;>cases ng<;>cases hf)<;>
    (first|(obtain rfl:kp1=k2:=HK2.out)|(obtain rfl:kept=k2:=HK2.out)
     obtain rfl:=HSB.out
     simp only[Bool.false_and,Bool.true_and]at KJ
     go_wp2_with fail
     refine(KJ.out _ (hK.trans kd)).mono ?_
     rintro e w4 ⟨rfl,k4⟩
     replace kd:=kd.trans k4
     replace kc:=(kc.trans k4).drew
     clear x0 x1 x2 x3 x4 y0 y1 y2 y3 k4
     obtain⟨-,v0,v1,v2,v3⟩:=HC.out _ kc
     go_upto_region 10 with fail
     go_region
     go_wp2_with fail
     go_ret2
     exact⟨rfl,hK.trans kd.drew⟩)
end Go.Proofs.YtnniljhdcplkgaaGreatDoor
