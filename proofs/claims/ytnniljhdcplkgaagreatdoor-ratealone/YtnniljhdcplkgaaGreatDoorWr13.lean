/- The walks of exact's kindOf,roundingOf at both widths,in all three ways; of Of. -/
import Derived.Test.YtnniljhdcplkgaaGreatDoorWr12
import Derived.Test.YtnniljhdcplkgaaGreatDoorWr06
import Derived.Test.YtnniljhdcplkgaaGreatDoorWr05
import Derived.Test.YtnniljhdcplkgaaGreatDoorWr09
namespace Go.Proofs.YtnniljhdcplkgaaGreatDoor
open Go.ChangeShapes Go.WideShapes Go.ChangeAt Go.RowKit
set_option maxHeartbeats 16000000
set_option maxRecDepth 100000
set_option linter.unusedVariables false
set_option linter.unusedSimpArgs false
theorem kindOf_32 (w : World) : Calls Tryz.prog 109 #[.int .i64 32] w fun e w' => e = .returned (.tuple #[.agg #[.int .i64 32,.int .i64 24,.int .i64 (-149),.int .i64 2139095040],.bool true]) ∧ Kept w w':=by
 go_enter Tryz.func109,Tryz.ntmps109
 go_wp2
 exact bodyPost_ret (v:=.tuple #[.agg #[.int .i64 32,.int .i64 24,.int .i64 (-149),.int .i64 2139095040],.bool true]) (by simp [results,Tryz.results109,go_sem]) rfl ⟨rfl,(Kept.refl _).alloc _ _⟩
def kprec (n : Int) : Int:=if n = 64 then 53 else 24
def kleast (n : Int) : Int:=if n = 64 then -1074 else -149
def kinf (n : Int) : Int:=if n = 64 then 9218868437227405312 else 2139095040
theorem kindOf_ok (n : Int) (hn : n = 64 ∨ n = 32) (w : World) : Calls Tryz.prog 109 #[.int .i64 n] w fun e w' => e = .returned (.tuple #[.agg #[.int .i64 n,.int .i64 (kprec n),.int .i64 (kleast n),.int .i64 (kinf n)],.bool true]) ∧ Kept w w':=by
 rcases hn with rfl | rfl
 ·exact kindOf_64 w
 ·exact kindOf_32 w
theorem index_ways1 (a b c : Value) (w : World) : (Instr.index 139 (.agg #[a,b,c]) (.int .i64 1)).run Tryz.prog w = .ok (.agg #[b]) w:=by
 kernel_rfl
theorem index_ways2 (a b c : Value) (w : World) : (Instr.index 139 (.agg #[a,b,c]) (.int .i64 2)).run Tryz.prog w = .ok (.agg #[c]) w:=by
 kernel_rfl
theorem roundingOf_0 (n pr le fi : Int) (KK : Hid (∀ u,Calls Tryz.prog 109 #[.int .i64 n] u fun e w' => e = .returned (.tuple #[.agg #[.int .i64 n,.int .i64 pr,.int .i64 le,.int .i64 fi],.bool true]) ∧ Kept u w')) (given : Value) (w : World) (KV : Hid (∀ w',Kept w w' → Calls Tryz.prog 124 #[given] w' fun e w'' => e = .returned (.bool true) ∧ Kept w' w'')) : Calls Tryz.prog 98 #[.int .i64 n,.int .i64 0,given] w fun e w' => e = .returned (.tuple #[.agg #[.int .i64 n,.int .i64 pr,.int .i64 le,.int .i64 fi,.func (.func 146) #[] #[]],.int .i64 0]) ∧ Kept w w':=by
 have hK : Kept w (w.alloc nilRound):=(Kept.refl w).alloc _ _
 have hidx:=index_ways (.func (.func 146) #[] #[]) (.func (.func 147) #[] #[]) (.func (.func 148) #[] #[])
 go_enter Tryz.func98,Tryz.ntmps98
 go_wp2_with (first | (go_at_call 109; refine (KK.out _).mono ?_; rintro e w1 ⟨rfl,hk1⟩) | (go_at_call 124; refine (KV.out _ (hK.trans (hk1.alloc _ _))).mono ?_; rintro e w2 ⟨rfl,hk2⟩))
 have hkk:=hk1.alloc #[.int .i64 n,.int .i64 pr,.int .i64 le,.int .i64 fi] 107
 have hsz : w.heap.size + 1 ≤ w1.heap.size:=by have:=hk1.below.size; simpa using this
 have hne : ¬ w1.heap.size = w.heap.size:=by omega
 have HS : Hid (∀ u,Kept (w1.alloc (.cells #[.int .i64 n,.int .i64 pr,.int .i64 le,.int .i64 fi] 107)) u → u.cell? ⟨w1.heap.size,0,none⟩ = some (.int .i64 n) ∧ u.cell? ⟨w1.heap.size,1,none⟩ = some (.int .i64 pr) ∧ u.cell? ⟨w1.heap.size,2,none⟩ = some (.int .i64 le) ∧ u.cell? ⟨w1.heap.size,3,none⟩ = some (.int .i64 fi)):=fun u k => ⟨(laid_cell k 0).trans (by simp [go_sem]),(laid_cell k 1).trans (by simp [go_sem]),(laid_cell k 2).trans (by simp [go_sem]),(laid_cell k 3).trans (by simp [go_sem])⟩
 have HR : Hid (∀ u,Kept (w.alloc nilRound) u → (u.cell? ⟨w.heap.size,0,none⟩ = some (.int .i64 0) ∧ u.cell? ⟨w.heap.size,1,none⟩ = some (.int .i64 0) ∧ u.cell? ⟨w.heap.size,2,none⟩ = some (.int .i64 0) ∧ u.cell? ⟨w.heap.size,3,none⟩ = some (.int .i64 0) ∧ u.cell? ⟨w.heap.size,4,none⟩ = some .nilFunc) ∧ ∀ o,u.frozen? ⟨w.heap.size,o,none⟩ = false):=fun u k => ⟨⟨(laid_cell k 0).trans (by simp [go_sem]),(laid_cell k 1).trans (by simp [go_sem]),(laid_cell k 2).trans (by simp [go_sem]),(laid_cell k 3).trans (by simp [go_sem]),(laid_cell k 4).trans (by simp [go_sem])⟩,fun o => (k.frozen _).trans (by simp [go_sem])⟩
 refine wp_region_held_drew (S:=fun u => u.cell? ⟨w1.heap.size,0,none⟩ = some (.int .i64 n) ∧ u.cell? ⟨w1.heap.size,1,none⟩ = some (.int .i64 pr) ∧ u.cell? ⟨w1.heap.size,2,none⟩ = some (.int .i64 le) ∧ u.cell? ⟨w1.heap.size,3,none⟩ = some (.int .i64 fi)) (by kernel_rfl) (HS.out _ hk2.drew) (fun hHeld => ?_)
 refine tk (i:=0) (v:=?_) rfl ?_
 try simp only [Act.put,zD,zE,zF]
 refine tk (i:=2) (v:=?_) rfl ?_
 try simp only [Act.put,zD,zE,zF]
 refine wpAnyH_ready (rs:=[1]) (by kernel_rfl) (by simp) ?_
 refine AllReadyH.cons rfl (fun K hK9 => ?_) AllReadyH.nil
 go_simp
 go_wp2_with (first | (go_at_call 125; refine (ways_any _).mono ?_; rintro e w3 ⟨rfl,hk3⟩; have e0:=HS.out _ (hk2.drew.trans hk3)))
 refine hK9.out _ _ e0 (fun hHeld2 => ?_)
 clear hK9 K hHeld
 refine tk (i:=3) (v:=?_) rfl ?_
 try simp only [Act.put,zD,zE,zF]
 refine tk (i:=4) (v:=?_) rfl ?_
 try simp only [Act.put,zD,zE,zF]
 obtain ⟨⟨r0,r1,r2,r3,r4⟩,rf⟩:=HR.out _ (hkk.trans (hk2.drew.trans hk3))
 refine wpAnyH_ready (rs:=[5]) (by kernel_rfl) (by simp) ?_
 refine AllReadyH.cons rfl (fun K hK9 => ?_) AllReadyH.nil
 go_simp
 refine hK9.out _ _ ⟨(set5 _ _ _ _ hne _ _ _ _ _).trans e0.1,(set5 _ _ _ _ hne _ _ _ _ _).trans e0.2.1,(set5 _ _ _ _ hne _ _ _ _ _).trans e0.2.2.1,(set5 _ _ _ _ hne _ _ _ _ _).trans e0.2.2.2⟩ (fun hHeld3 => ?_)
 clear hK9 K hHeld2
 refine tk (i:=6) (v:=?_) rfl ?_
 try simp only [Act.put,zD,zE,zF]
 refine wpAnyH_done (by kernel_rfl) ?_ _
 clear hHeld3
 simp only [List.getElem_toArray,List.getElem_cons_succ,List.getElem_cons_zero,List.setIfInBounds_toArray,List.set_cons_zero,List.set_cons_succ]
 go_wp2
 refine bodyPost_ret (v:=.tuple #[.agg #[.int .i64 n,.int .i64 pr,.int .i64 le,.int .i64 fi,.func (.func 146) #[] #[]],.int .i64 0]) (by simp [results,Tryz.results98,go_sem,r0,r1,r2,r3,r4]) rfl ⟨rfl,?_⟩
 exact (hK.trans (hkk.trans (hk2.drew.trans hk3))).setCell (by simp) _ |>.setCell (by simp) _ |>.setCell (by simp) _ |>.setCell (by simp) _ |>.setCell (by simp) _
theorem roundingOf_1 (n pr le fi : Int) (KK : Hid (∀ u,Calls Tryz.prog 109 #[.int .i64 n] u fun e w' => e = .returned (.tuple #[.agg #[.int .i64 n,.int .i64 pr,.int .i64 le,.int .i64 fi],.bool true]) ∧ Kept u w')) (given : Value) (w : World) (KV : Hid (∀ w',Kept w w' → Calls Tryz.prog 124 #[given] w' fun e w'' => e = .returned (.bool true) ∧ Kept w' w'')) : Calls Tryz.prog 98 #[.int .i64 n,.int .i64 1,given] w fun e w' => e = .returned (.tuple #[.agg #[.int .i64 n,.int .i64 pr,.int .i64 le,.int .i64 fi,.func (.func 147) #[] #[]],.int .i64 0]) ∧ Kept w w':=by
 have hK : Kept w (w.alloc nilRound):=(Kept.refl w).alloc _ _
 have hidx:=index_ways1 (.func (.func 146) #[] #[]) (.func (.func 147) #[] #[]) (.func (.func 148) #[] #[])
 go_enter Tryz.func98,Tryz.ntmps98
 go_wp2_with (first | (go_at_call 109; refine (KK.out _).mono ?_; rintro e w1 ⟨rfl,hk1⟩) | (go_at_call 124; refine (KV.out _ (hK.trans (hk1.alloc _ _))).mono ?_; rintro e w2 ⟨rfl,hk2⟩))
 have hkk:=hk1.alloc #[.int .i64 n,.int .i64 pr,.int .i64 le,.int .i64 fi] 107
 have hsz : w.heap.size + 1 ≤ w1.heap.size:=by have:=hk1.below.size; simpa using this
 have hne : ¬ w1.heap.size = w.heap.size:=by omega
 have HS : Hid (∀ u,Kept (w1.alloc (.cells #[.int .i64 n,.int .i64 pr,.int .i64 le,.int .i64 fi] 107)) u → u.cell? ⟨w1.heap.size,0,none⟩ = some (.int .i64 n) ∧ u.cell? ⟨w1.heap.size,1,none⟩ = some (.int .i64 pr) ∧ u.cell? ⟨w1.heap.size,2,none⟩ = some (.int .i64 le) ∧ u.cell? ⟨w1.heap.size,3,none⟩ = some (.int .i64 fi)):=fun u k => ⟨(laid_cell k 0).trans (by simp [go_sem]),(laid_cell k 1).trans (by simp [go_sem]),(laid_cell k 2).trans (by simp [go_sem]),(laid_cell k 3).trans (by simp [go_sem])⟩
 have HR : Hid (∀ u,Kept (w.alloc nilRound) u → (u.cell? ⟨w.heap.size,0,none⟩ = some (.int .i64 0) ∧ u.cell? ⟨w.heap.size,1,none⟩ = some (.int .i64 0) ∧ u.cell? ⟨w.heap.size,2,none⟩ = some (.int .i64 0) ∧ u.cell? ⟨w.heap.size,3,none⟩ = some (.int .i64 0) ∧ u.cell? ⟨w.heap.size,4,none⟩ = some .nilFunc) ∧ ∀ o,u.frozen? ⟨w.heap.size,o,none⟩ = false):=fun u k => ⟨⟨(laid_cell k 0).trans (by simp [go_sem]),(laid_cell k 1).trans (by simp [go_sem]),(laid_cell k 2).trans (by simp [go_sem]),(laid_cell k 3).trans (by simp [go_sem]),(laid_cell k 4).trans (by simp [go_sem])⟩,fun o => (k.frozen _).trans (by simp [go_sem])⟩
 refine wp_region_held_drew (S:=fun u => u.cell? ⟨w1.heap.size,0,none⟩ = some (.int .i64 n) ∧ u.cell? ⟨w1.heap.size,1,none⟩ = some (.int .i64 pr) ∧ u.cell? ⟨w1.heap.size,2,none⟩ = some (.int .i64 le) ∧ u.cell? ⟨w1.heap.size,3,none⟩ = some (.int .i64 fi)) (by kernel_rfl) (HS.out _ hk2.drew) (fun hHeld => ?_)
 refine tk (i:=0) (v:=?_) rfl ?_
 try simp only [Act.put,zD,zE,zF]
 refine tk (i:=2) (v:=?_) rfl ?_
 try simp only [Act.put,zD,zE,zF]
 refine wpAnyH_ready (rs:=[1]) (by kernel_rfl) (by simp) ?_
 refine AllReadyH.cons rfl (fun K hK9 => ?_) AllReadyH.nil
 go_simp
 go_wp2_with (first | (go_at_call 125; refine (ways_any _).mono ?_; rintro e w3 ⟨rfl,hk3⟩; have e0:=HS.out _ (hk2.drew.trans hk3)))
 refine hK9.out _ _ e0 (fun hHeld2 => ?_)
 clear hK9 K hHeld
 refine tk (i:=3) (v:=?_) rfl ?_
 try simp only [Act.put,zD,zE,zF]
 refine tk (i:=4) (v:=?_) rfl ?_
 try simp only [Act.put,zD,zE,zF]
 obtain ⟨⟨r0,r1,r2,r3,r4⟩,rf⟩:=HR.out _ (hkk.trans (hk2.drew.trans hk3))
 refine wpAnyH_ready (rs:=[5]) (by kernel_rfl) (by simp) ?_
 refine AllReadyH.cons rfl (fun K hK9 => ?_) AllReadyH.nil
 go_simp
 refine hK9.out _ _ ⟨(set5 _ _ _ _ hne _ _ _ _ _).trans e0.1,(set5 _ _ _ _ hne _ _ _ _ _).trans e0.2.1,(set5 _ _ _ _ hne _ _ _ _ _).trans e0.2.2.1,(set5 _ _ _ _ hne _ _ _ _ _).trans e0.2.2.2⟩ (fun hHeld3 => ?_)
 clear hK9 K hHeld2
 refine tk (i:=6) (v:=?_) rfl ?_
 try simp only [Act.put,zD,zE,zF]
 refine wpAnyH_done (by kernel_rfl) ?_ _
 clear hHeld3
 simp only [List.getElem_toArray,List.getElem_cons_succ,List.getElem_cons_zero,List.setIfInBounds_toArray,List.set_cons_zero,List.set_cons_succ]
 go_wp2
 refine bodyPost_ret (v:=.tuple #[.agg #[.int .i64 n,.int .i64 pr,.int .i64 le,.int .i64 fi,.func (.func 147) #[] #[]],.int .i64 0]) (by simp [results,Tryz.results98,go_sem,r0,r1,r2,r3,r4]) rfl ⟨rfl,?_⟩
 exact (hK.trans (hkk.trans (hk2.drew.trans hk3))).setCell (by simp) _ |>.setCell (by simp) _ |>.setCell (by simp) _ |>.setCell (by simp) _ |>.setCell (by simp) _
theorem roundingOf_2 (n pr le fi : Int) (KK : Hid (∀ u,Calls Tryz.prog 109 #[.int .i64 n] u fun e w' => e = .returned (.tuple #[.agg #[.int .i64 n,.int .i64 pr,.int .i64 le,.int .i64 fi],.bool true]) ∧ Kept u w')) (given : Value) (w : World) (KV : Hid (∀ w',Kept w w' → Calls Tryz.prog 124 #[given] w' fun e w'' => e = .returned (.bool true) ∧ Kept w' w'')) : Calls Tryz.prog 98 #[.int .i64 n,.int .i64 2,given] w fun e w' => e = .returned (.tuple #[.agg #[.int .i64 n,.int .i64 pr,.int .i64 le,.int .i64 fi,.func (.func 148) #[] #[]],.int .i64 0]) ∧ Kept w w':=by
 have hK : Kept w (w.alloc nilRound):=(Kept.refl w).alloc _ _
 have hidx:=index_ways2 (.func (.func 146) #[] #[]) (.func (.func 147) #[] #[]) (.func (.func 148) #[] #[])
 go_enter Tryz.func98,Tryz.ntmps98
 go_wp2_with (first | (go_at_call 109; refine (KK.out _).mono ?_; rintro e w1 ⟨rfl,hk1⟩) | (go_at_call 124; refine (KV.out _ (hK.trans (hk1.alloc _ _))).mono ?_; rintro e w2 ⟨rfl,hk2⟩))
 have hkk:=hk1.alloc #[.int .i64 n,.int .i64 pr,.int .i64 le,.int .i64 fi] 107
 have hsz : w.heap.size + 1 ≤ w1.heap.size:=by have:=hk1.below.size; simpa using this
 have hne : ¬ w1.heap.size = w.heap.size:=by omega
 have HS : Hid (∀ u,Kept (w1.alloc (.cells #[.int .i64 n,.int .i64 pr,.int .i64 le,.int .i64 fi] 107)) u → u.cell? ⟨w1.heap.size,0,none⟩ = some (.int .i64 n) ∧ u.cell? ⟨w1.heap.size,1,none⟩ = some (.int .i64 pr) ∧ u.cell? ⟨w1.heap.size,2,none⟩ = some (.int .i64 le) ∧ u.cell? ⟨w1.heap.size,3,none⟩ = some (.int .i64 fi)):=fun u k => ⟨(laid_cell k 0).trans (by simp [go_sem]),(laid_cell k 1).trans (by simp [go_sem]),(laid_cell k 2).trans (by simp [go_sem]),(laid_cell k 3).trans (by simp [go_sem])⟩
 have HR : Hid (∀ u,Kept (w.alloc nilRound) u → (u.cell? ⟨w.heap.size,0,none⟩ = some (.int .i64 0) ∧ u.cell? ⟨w.heap.size,1,none⟩ = some (.int .i64 0) ∧ u.cell? ⟨w.heap.size,2,none⟩ = some (.int .i64 0) ∧ u.cell? ⟨w.heap.size,3,none⟩ = some (.int .i64 0) ∧ u.cell? ⟨w.heap.size,4,none⟩ = some .nilFunc) ∧ ∀ o,u.frozen? ⟨w.heap.size,o,none⟩ = false):=fun u k => ⟨⟨(laid_cell k 0).trans (by simp [go_sem]),(laid_cell k 1).trans (by simp [go_sem]),(laid_cell k 2).trans (by simp [go_sem]),(laid_cell k 3).trans (by simp [go_sem]),(laid_cell k 4).trans (by simp [go_sem])⟩,fun o => (k.frozen _).trans (by simp [go_sem])⟩
 refine wp_region_held_drew (S:=fun u => u.cell? ⟨w1.heap.size,0,none⟩ = some (.int .i64 n) ∧ u.cell? ⟨w1.heap.size,1,none⟩ = some (.int .i64 pr) ∧ u.cell? ⟨w1.heap.size,2,none⟩ = some (.int .i64 le) ∧ u.cell? ⟨w1.heap.size,3,none⟩ = some (.int .i64 fi)) (by kernel_rfl) (HS.out _ hk2.drew) (fun hHeld => ?_)
 refine tk (i:=0) (v:=?_) rfl ?_
 try simp only [Act.put,zD,zE,zF]
 refine tk (i:=2) (v:=?_) rfl ?_
 try simp only [Act.put,zD,zE,zF]
 refine wpAnyH_ready (rs:=[1]) (by kernel_rfl) (by simp) ?_
 refine AllReadyH.cons rfl (fun K hK9 => ?_) AllReadyH.nil
 go_simp
 go_wp2_with (first | (go_at_call 125; refine (ways_any _).mono ?_; rintro e w3 ⟨rfl,hk3⟩; have e0:=HS.out _ (hk2.drew.trans hk3)))
 refine hK9.out _ _ e0 (fun hHeld2 => ?_)
 clear hK9 K hHeld
 refine tk (i:=3) (v:=?_) rfl ?_
 try simp only [Act.put,zD,zE,zF]
 refine tk (i:=4) (v:=?_) rfl ?_
 try simp only [Act.put,zD,zE,zF]
 obtain ⟨⟨r0,r1,r2,r3,r4⟩,rf⟩:=HR.out _ (hkk.trans (hk2.drew.trans hk3))
 refine wpAnyH_ready (rs:=[5]) (by kernel_rfl) (by simp) ?_
 refine AllReadyH.cons rfl (fun K hK9 => ?_) AllReadyH.nil
 go_simp
 refine hK9.out _ _ ⟨(set5 _ _ _ _ hne _ _ _ _ _).trans e0.1,(set5 _ _ _ _ hne _ _ _ _ _).trans e0.2.1,(set5 _ _ _ _ hne _ _ _ _ _).trans e0.2.2.1,(set5 _ _ _ _ hne _ _ _ _ _).trans e0.2.2.2⟩ (fun hHeld3 => ?_)
 clear hK9 K hHeld2
 refine tk (i:=6) (v:=?_) rfl ?_
 try simp only [Act.put,zD,zE,zF]
 refine wpAnyH_done (by kernel_rfl) ?_ _
 clear hHeld3
 simp only [List.getElem_toArray,List.getElem_cons_succ,List.getElem_cons_zero,List.setIfInBounds_toArray,List.set_cons_zero,List.set_cons_succ]
 go_wp2
 refine bodyPost_ret (v:=.tuple #[.agg #[.int .i64 n,.int .i64 pr,.int .i64 le,.int .i64 fi,.func (.func 148) #[] #[]],.int .i64 0]) (by simp [results,Tryz.results98,go_sem,r0,r1,r2,r3,r4]) rfl ⟨rfl,?_⟩
 exact (hK.trans (hkk.trans (hk2.drew.trans hk3))).setCell (by simp) _ |>.setCell (by simp) _ |>.setCell (by simp) _ |>.setCell (by simp) _ |>.setCell (by simp) _
def wfv (way : Int) : Nat:=if way = 0 then 146 else if way = 1 then 147 else 148
theorem roundingOf_ok (n way : Int) (hn : n = 64 ∨ n = 32) (hw : way = 0 ∨ way = 1 ∨ way = 2) (given : Value) (w : World) (KV : Hid (∀ w',Kept w w' → Calls Tryz.prog 124 #[given] w' fun e w'' => e = .returned (.bool true) ∧ Kept w' w'')) : Calls Tryz.prog 98 #[.int .i64 n,.int .i64 way,given] w fun e w' => e = .returned (.tuple #[.agg #[.int .i64 n,.int .i64 (kprec n),.int .i64 (kleast n),.int .i64 (kinf n),.func (.func (wfv way)) #[] #[]],.int .i64 0]) ∧ Kept w w':=by
 rcases hw with rfl | rfl | rfl
 ·exact roundingOf_0 n (kprec n) (kleast n) (kinf n) (fun u => kindOf_ok n hn u) given w KV
 ·exact roundingOf_1 n (kprec n) (kleast n) (kinf n) (fun u => kindOf_ok n hn u) given w KV
 ·exact roundingOf_2 n (kprec n) (kleast n) (kinf n) (fun u => kindOf_ok n hn u) given w KV
theorem wfv_call (way : Int) (hw : way = 0 ∨ way = 1 ∨ way = 2) : ∀ a w,(callFunc (wfv way) #[a]).run Tryz.prog w = .ok (.enter (wfv way) #[a]) w:=by
 rcases hw with rfl | rfl | rfl
 ·intro a w; kernel_rfl
 ·intro a w; kernel_rfl
 ·intro a w; kernel_rfl
end Go.Proofs.YtnniljhdcplkgaaGreatDoor
