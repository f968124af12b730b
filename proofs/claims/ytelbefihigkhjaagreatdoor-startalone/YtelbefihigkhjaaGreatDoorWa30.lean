/- Package start: fill. -/
import Derived.Test.YtelbefihigkhjaaGreatDoorWa29
namespace Go.Proofs.YtelbefihigkhjaaGreatDoor
open Go.ChangeShapes Go.WideShapes Go.ChangeAt Go.RowKit
set_option maxHeartbeats 16000000
set_option maxRecDepth 100000
set_option linter.unusedVariables false
set_option linter.unusedSimpArgs false
/-- a list of N,of which the first k are made -/
def stl (N : Nat) (bt : Nat → Int) (k : Nat) : List Int:=(List.range N).map fun j => if j < k then bt j else 0
theorem stl_len (N : Nat) (bt : Nat → Int) (k : Nat) : (stl N bt k).length = N:=by simp [stl]
theorem stl_get (N : Nat) (bt : Nat → Int) (k j : Nat) (hj : j < N) : (stl N bt k).getD j 0 = if j < k then bt j else 0:=by
 unfold stl
 rw [List.getD_eq_getElem?_getD,List.getElem?_map,List.getElem?_range hj]
 rfl
theorem stl_set (N : Nat) (bt : Nat → Int) (k : Nat) (hk : k < N) : (stl N bt k).set k (bt k) = stl N bt (k + 1):=by
 apply List.ext_getElem
 ·simp [stl]
 ·intro j h1 h2
  have hj : j < N:=by simpa [stl] using h2
  simp only [stl,List.getElem_set,List.getElem_map,List.getElem_range]
  by_cases e : k = j
  ·subst e
   simp
  ·rw [if_neg e]
   by_cases h : j < k
   ·rw [if_pos h,if_pos (by omega)]
   ·rw [if_neg h,if_neg (by omega)]
theorem stl_zero (N : Nat) (bt : Nat → Int) : stl N bt 0 = List.replicate N 0:=by
 apply List.ext_getElem
 ·simp [stl]
 ·intro j h1 h2
  simp [stl]
structure Q4 (w : World) (b : Nat) (v0 v1 v2 v3 : Value) : Prop where
 c0 : w.cell? ⟨b,0,none⟩ = some v0
 c1 : w.cell? ⟨b,1,none⟩ = some v1
 c2 : w.cell? ⟨b,2,none⟩ = some v2
 c3 : w.cell? ⟨b,3,none⟩ = some v3
 fz : ∀ o,w.frozen? ⟨b,o,none⟩ = false
theorem Q4.new (w : World) (v0 v1 v2 v3 : Value) (t : TypeId) : Q4 (w.alloc (.cells #[v0,v1,v2,v3] t)) w.heap.size v0 v1 v2 v3:=⟨by simp [go_sem],by simp [go_sem],by simp [go_sem],by simp [go_sem],fun o => by simp [go_sem]⟩
theorem Q4.lt {w : World} {b : Nat} {v0 v1 v2 v3 : Value} (h : Q4 w b v0 v1 v2 v3) : b < w.heap.size:=World.block_lt_of_cell? _ _ h.c0
theorem Q4.gs {S : List Nat} {w w' : World} {b : Nat} {v0 v1 v2 v3 : Value} (h : Q4 w b v0 v1 v2 v3) (k : Gs S w w') (hn : b ∉ S) : Q4 w' b v0 v1 v2 v3 :=
 ⟨(k.cell b 0 h.lt hn).trans h.c0,(k.cell b 1 h.lt hn).trans h.c1,(k.cell b 2 h.lt hn).trans h.c2,(k.cell b 3 h.lt hn).trans h.c3,fun o => (k.frozen _).trans (h.fz o)⟩
theorem Q4.kept {w w' : World} {b : Nat} {v0 v1 v2 v3 : Value} (h : Q4 w b v0 v1 v2 v3) (k : Kept w w') : Q4 w' b v0 v1 v2 v3:=h.gs (k.gs []) (fun h => by cases h)
theorem fill_walk (K : Nat) (caps : Array Value) (hcall : ∀ w,(callFunc K caps).run Tryz.prog w = .ok (.enter K caps) w) (rows cols wd : Int) (g N cap D M : Nat) (bt cl : Nat → Int) (fe : Int) (nu : Nat → Nm) (J : Nat → World → Prop) (w : World)
  (hN : N ≤ 100000) (hO : Own w g cap (stl N bt 0)) (hJ : J 0 w) (hDw : D < w.heap.size) (hDg : D ≠ g) (hM : M ≤ N) (hcl : ∀ i,i < M → (cl i == 3) = false) (hend : M = N ∧ fe = 0 ∨ M < N ∧ (cl M == 3) = true ∧ fe = 31)
  (KE : Hid (∀ i u,i < N → Gs [D,g] w u → J i u → Calls Tryz.prog K caps u fun e w' => ∃ v,e = .returned v ∧ NumAt w' v (nu i) ∧ J (i + 1) w' ∧ Gs [D] u w'))
  (KR : Hid (∀ i u v,i < N → Gs [D,g] w u → NumAt u v (nu i) → Calls Tryz.prog 100 #[v,.int .i64 wd] u fun e w' => e = .returned (.int .i64 (bt i)) ∧ Kept u w'))
  (KC : Hid (∀ i u,Calls Tryz.prog 83 #[.int .i64 (bt i),.int .i64 wd] u fun e w' => e = .returned (.int .i64 (cl i)) ∧ Kept u w'))
  (sJ : Hid (∀ i u u',J i u → Kept u u' → J i u')) (jS : Hid (∀ i u o v,J i u → J i (u.setCell ⟨g,o,none⟩ v))) :
  Calls Tryz.prog 28 #[.agg #[.int .i64 rows,.int .i64 cols,.int .i64 wd,.slice (some ⟨g,0,none⟩) N cap],.func (.func K) #[] caps] w fun e w' => e = .returned (.int .i64 fe) ∧ (fe = 0 → Own w' g cap (stl N bt N)) ∧ Gs [D,g] w w':=by
 have hg:=hO.lt
 obtain ⟨X,hX⟩ : ∃ X,X = w.alloc (.cells #[.int .i64 rows,.int .i64 cols,.int .i64 wd,.slice (some ⟨g,0,none⟩) N cap] 28):=⟨_,rfl⟩
 obtain ⟨B0,hB0⟩ : ∃ B,B = w.heap.size:=⟨_,rfl⟩
 have hK : Kept w X:=by rw [hX]; exact (Kept.refl w).alloc _ _
 have hP : Q4 X B0 (.int .i64 rows) (.int .i64 cols) (.int .i64 wd) (.slice (some ⟨g,0,none⟩) N cap):=by rw [hX,hB0]; exact Q4.new w _ _ _ _ _
 have nB : Hid (B0 ∉ [D,g] ∧ w.heap.size ≤ B0):=(show _ ∧ _ from ⟨by simp; omega,by omega⟩)
 have HCL : Hid (∀ i,i < M → (cl i == 3) = false):=hcl
 have HE : Hid (M = N ∧ fe = 0 ∨ M < N ∧ (cl M == 3) = true ∧ fe = 31):=hend
 have hJX:=sJ.out _ _ _ hJ hK
 have hOX:=hO.kept hK
 clear hO hJ hDw hcl hend hg
 go_enter Tryz.func28,Tryz.ntmps28
 go_upto_region 1 with fail
 rw [← hX,← hB0]
 clear hX hB0
 have HP : Hid (Q4 X B0 (.int .i64 rows) (.int .i64 cols) (.int .i64 wd) (.slice (some ⟨g,0,none⟩) N cap)):=hP
 obtain ⟨p0,p1,p2,p3,pf⟩:=hP
 go_wp2_with fail
 clear p0 p1 p2 p3 pf
 go_loopw [9] (fun i wr => ∃ k : Nat,k ≤ M ∧ i = .int .i64 k ∧ Gs [D,g] X wr ∧ J k wr ∧ Own wr g cap (stl N bt k)) (fun i _ => N - (intOf i).toNat)
 case atStart => exact ⟨0,Nat.zero_le _,rfl,Gs.refl _ X,hJX,hOX⟩
 case round =>
  clear hJX hOX
  obtain ⟨k,hkM,rfl,hG,hJ,hO⟩:=hrel
  have gW : Hid (Gs [D,g] w wr):=(hK.gs _).trans hG
  by_cases hkN : k < N
  ·have hP:=HP.out.gs hG nB.out.1
   have HS : Hid (∀ u,Gs [D,g] wr u → Gs [D,g] wr u ∧ u.cell? ⟨B0,2,none⟩ = some (.int .i64 wd) ∧ u.cell? ⟨B0,3,none⟩ = some (.slice (some ⟨g,0,none⟩) N cap)):=fun u q => ⟨q,(hP.gs q nB.out.1).c2,(hP.gs q nB.out.1).c3⟩
   have KE2 : Hid (∀ u,Gs [D,g] w u → J k u → Calls Tryz.prog K caps u fun e w' => ∃ v,e = .returned v ∧ NumAt w' v (nu k) ∧ J (k + 1) w' ∧ Gs [D] u w'):=fun u => KE.out k u hkN
   have KR2 : Hid (∀ u v,Gs [D,g] w u → NumAt u v (nu k) → Calls Tryz.prog 100 #[v,.int .i64 wd] u fun e w' => e = .returned (.int .i64 (bt k)) ∧ Kept u w'):=fun u v => KR.out k u v hkN
   have KC2 : Hid (∀ u,Calls Tryz.prog 83 #[.int .i64 (bt k),.int .i64 wd] u fun e w' => e = .returned (.int .i64 (cl k)) ∧ Kept u w'):=fun u => KC.out k u
   have HO : Hid (Own wr g cap (stl N bt k)):=hO
   have HJ : Hid (J k wr.drew):=sJ.out _ _ _ hJ (Kept.refl wr).drew
   clear KE KR KC hO hP hJ
   go_upto_region 4 with fail
   refine wp_region_late [9] (fun u => Gs [D,g] wr u ∧ u.cell? ⟨B0,2,none⟩ = some (.int .i64 wd) ∧ u.cell? ⟨B0,3,none⟩ = some (.slice (some ⟨g,0,none⟩) N cap)) (by kernel_rfl) (HS.out _ ((Kept.refl wr).drew.gs _)) (fun hHeld => ?_)
   refine tkD (i:=0) (v:=?_) rfl hHeld ?_
   (try simp only [Act.put,zA,zB,zC,zD,zE,zF])
   refine tkD (i:=1) (v:=?_) rfl hHeld ?_
   (try simp only [Act.put,zA,zB,zC,zD,zE,zF])
   refine tkD (i:=2) (v:=?_) rfl hHeld ?_
   (try simp only [Act.put,zA,zB,zC,zD,zE,zF])
   refine tkD (i:=3) (v:=?_) rfl hHeld ?_
   (try simp only [Act.put,zA,zB,zC,zD,zE,zF])
   refine tkD (i:=5) (v:=?_) rfl hHeld ?_
   (try simp only [Act.put,zA,zB,zC,zD,zE,zF])
   refine tkD (i:=6) (v:=?_) rfl hHeld ?_
   (try simp only [Act.put,zA,zB,zC,zD,zE,zF])
   refine wpAnyD_step (i:=4) (by kernel_rfl) rfl (fun K hK9 => ?_)
   go_simp
   go_wp2_with fail
   refine (KE2.out _ (gW.out.trans hHeld.1) HJ.out).mono ?_
   rintro e u1 ⟨v1,rfl,q1,j1,g1⟩
   refine hK9.out _ _ (HS.out _ (hHeld.1.trans (g1.mono (by simp)))) (fun hH1 => ?_)
   clear hK9 K
   (try simp only [Act.put,zA,zB,zC,zD,zE,zF])
   refine wpAnyD_step (i:=7) (by kernel_rfl) rfl (fun K hK9 => ?_)
   go_simp
   go_wp2_with fail
   refine (KR2.out _ _ (gW.out.trans hH1.1) q1).mono ?_
   rintro e u2 ⟨rfl,k2⟩
   refine hK9.out _ _ (HS.out _ (hH1.1.kept k2)) (fun hH2 => ?_)
   clear hK9 K
   (try simp only [Act.put,zA,zB,zC,zD,zE,zF])
   refine tkD (i:=8) (v:=?_) rfl hH2 ?_
   (try simp only [Act.put,zA,zB,zC,zD,zE,zF])
   have o2 : Own u2 g cap (stl N bt k):=((HO.out.kept (Kept.refl wr).drew).gs g1 (by simpa using Ne.symm hDg)).kept k2
   have o3:=o2.set k (bt k)
   rw [stl_set N bt k hkN] at o3
   have cg:=o2.cell k (by rw [stl_len]; exact hkN)
   have fg:=o2.free k
   have j3:=jS.out _ _ k (.int .i64 (bt k)) (sJ.out _ _ _ j1 k2)
   have g3:=(hG.trans hH2.1).setCell (p:=⟨g,k,none⟩) (.inl (by simp)) (.int .i64 (bt k))
   refine wpAnyD_late (i:=9) (by kernel_rfl) rfl rfl (fun K hK9 => ?_)
   go_simp
   refine hK9.out _ _ ?_
   clear hK9 K
   (try simp only [Act.put,zA,zB,zC,zD,zE,zF])
   refine wpAnyD_done (by kernel_rfl) ?_ _
   (try simp only [Act.put,zA,zB,zC,zD,zE,zF])
   generalize u2.setCell ⟨g,k,none⟩ (.int .i64 (bt k)) = Y at *
   have hPY:=HP.out.gs g3 nB.out.1
   have HS5 : Hid (∀ u,Kept Y u → Kept Y u ∧ u.cell? ⟨B0,2,none⟩ = some (.int .i64 wd) ∧ u.cell? ⟨B0,3,none⟩ = some (.slice (some ⟨g,0,none⟩) N cap) ∧ u.cell? ⟨g,k,none⟩ = some (.int .i64 (bt k))):=fun u q => ⟨q,(hPY.kept q).c2,(hPY.kept q).c3,by
    have:=(o3.kept q).cell k (by rw [stl_len]; exact hkN)
    rw [stl_get N bt (k + 1) k hkN,if_pos (Nat.lt_succ_self k)] at this
    exact this⟩
   clear HS HO HJ KE2 KR2 o2 cg fg hH1 hH2 hHeld q1 g1 k2 j1
   go_upto_region 5 with fail
   refine wp_region_late [] (fun u => Kept Y u ∧ u.cell? ⟨B0,2,none⟩ = some (.int .i64 wd) ∧ u.cell? ⟨B0,3,none⟩ = some (.slice (some ⟨g,0,none⟩) N cap) ∧ u.cell? ⟨g,k,none⟩ = some (.int .i64 (bt k))) (by kernel_rfl) (HS5.out _ (Kept.refl Y).drew) (fun hHeld => ?_)
   refine tkD (i:=0) (v:=?_) rfl hHeld ?_
   (try simp only [Act.put,zA,zB,zC,zD,zE,zF])
   refine tkD (i:=1) (v:=?_) rfl hHeld ?_
   (try simp only [Act.put,zA,zB,zC,zD,zE,zF])
   refine tkD (i:=2) (v:=?_) rfl hHeld ?_
   (try simp only [Act.put,zA,zB,zC,zD,zE,zF])
   refine tkD (i:=3) (v:=?_) rfl hHeld ?_
   (try simp only [Act.put,zA,zB,zC,zD,zE,zF])
   refine tkD (i:=4) (v:=?_) rfl hHeld ?_
   (try simp only [Act.put,zA,zB,zC,zD,zE,zF])
   refine tkD (i:=5) (v:=?_) rfl hHeld ?_
   (try simp only [Act.put,zA,zB,zC,zD,zE,zF])
   refine tkD (i:=6) (v:=?_) rfl hHeld ?_
   (try simp only [Act.put,zA,zB,zC,zD,zE,zF])
   refine wpAnyD_step (i:=7) (by kernel_rfl) rfl (fun K hK9 => ?_)
   go_simp
   go_wp2_with fail
   refine (KC2.out _).mono ?_
   rintro e u5 ⟨rfl,k5⟩
   refine hK9.out _ _ (HS5.out _ (hHeld.1.trans k5)) (fun hH5 => ?_)
   clear hK9 K
   (try simp only [Act.put,zA,zB,zC,zD,zE,zF])
   refine tkD (i:=8) (v:=?_) rfl hH5 ?_
   (try simp only [Act.put,zA,zB,zC,zD,zE,zF])
   refine wpAnyD_done (by kernel_rfl) ?_ _
   (try simp only [Act.put,zA,zB,zC,zD,zE,zF])
   by_cases hk2 : k < M
   ·have hc:=HCL.out k hk2
    go_wp2_with fail
    go_roundw
    case rel => exact ⟨k + 1,by omega,by go_num,g3.kept hH5.1,sJ.out _ _ _ j3 hH5.1,o3.kept hH5.1⟩
    case measure => simp [intOf]; omega
   ·obtain rfl : k = M:=by omega
    rcases HE.out with ⟨e1,-⟩ | ⟨-,hc,rfl⟩
    ·omega
    ·go_wp2_with fail
     go_ret
     exact ⟨rfl,(hK.gs _).trans (g3.kept hH5.1)⟩
  ·obtain rfl : k = N:=by omega
   rcases HE.out with ⟨-,rfl⟩ | ⟨e1,-⟩
   ·go_wp2_with fail
    go_ret
    exact ⟨rfl,hO,gW.out⟩
   ·omega
end Go.Proofs.YtelbefihigkhjaaGreatDoor
