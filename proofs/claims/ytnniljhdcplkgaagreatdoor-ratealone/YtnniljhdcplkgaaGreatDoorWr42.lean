/- Package rate: the kinds over contracts. -/
import Derived.Test.YtnniljhdcplkgaaGreatDoorWr41
namespace Go.Proofs.YtnniljhdcplkgaaGreatDoor
open Go.ChangeShapes Go.WideShapes Go.ChangeAt Go.RowKit
set_option maxHeartbeats 16000000
set_option maxRecDepth 100000
set_option linter.unusedVariables false
set_option linter.unusedSimpArgs false
theorem hidr {p : Prop} (h : p) : Hid p:=h
theorem sch_cells (w : World) (kd ba fa wa ev tt : Int) (t : TypeId) (X : World) (hX : X = w.alloc (.cells #[.int .i64 kd,.int .i64 ba,.int .i64 fa,.int .i64 wa,.int .i64 ev,.int .i64 tt] t)) (u : World) (k : Kept X u) : u.cell? ⟨w.heap.size,0,none⟩ = some (.int .i64 kd) ∧ u.cell? ⟨w.heap.size,1,none⟩ = some (.int .i64 ba) ∧ u.cell? ⟨w.heap.size,2,none⟩ = some (.int .i64 fa) ∧ u.cell? ⟨w.heap.size,3,none⟩ = some (.int .i64 wa) ∧ u.cell? ⟨w.heap.size,4,none⟩ = some (.int .i64 ev) ∧ u.cell? ⟨w.heap.size,5,none⟩ = some (.int .i64 tt):=by
 have hs : w.heap.size < X.heap.size:=by rw [hX]; simp
 refine ⟨(k.below.cell (p:=⟨w.heap.size,0,none⟩) hs).trans ?_,(k.below.cell (p:=⟨w.heap.size,1,none⟩) hs).trans ?_,(k.below.cell (p:=⟨w.heap.size,2,none⟩) hs).trans ?_,(k.below.cell (p:=⟨w.heap.size,3,none⟩) hs).trans ?_,(k.below.cell (p:=⟨w.heap.size,4,none⟩) hs).trans ?_,(k.below.cell (p:=⟨w.heap.size,5,none⟩) hs).trans ?_⟩ <;> (rw [hX]; simp [go_sem])
theorem constant_walk (kd ba fa wa ev tt : Int) (k : Int) (x : Nm) (s : Int) (w : World)
  (KO : Hid (∀ u,Kept w u → Calls Tryz.prog 42 #[.int .i64 ba,.int .i64 64] u fun e w' => ∃ v,e = .returned v ∧ New u w' v x ∧ Kept u w'))
  (KR : Hid (∀ u v,Kept w u → NumAt u v x → Calls Tryz.prog 90 #[v,.int .i64 64] u fun e w' => e = .returned (.int .i64 s) ∧ Kept u w')) :
  Calls Tryz.prog 61 #[.agg #[.int .i64 kd,.int .i64 ba,.int .i64 fa,.int .i64 wa,.int .i64 ev,.int .i64 tt],.int .i64 k] w fun e w' => e = .returned (.int .i64 s) ∧ Kept w w':=by
 obtain ⟨X,hX⟩ : ∃ X,X = w.alloc (.cells #[.int .i64 kd,.int .i64 ba,.int .i64 fa,.int .i64 wa,.int .i64 ev,.int .i64 tt] 23):=⟨_,rfl⟩
 have hK : Kept w X:=by rw [hX]; exact (Kept.refl w).alloc _ _
 have HS0 : Hid (∀ u,Kept X u → u.cell? ⟨w.heap.size,0,none⟩ = some (.int .i64 kd) ∧ u.cell? ⟨w.heap.size,1,none⟩ = some (.int .i64 ba) ∧ u.cell? ⟨w.heap.size,2,none⟩ = some (.int .i64 fa) ∧ u.cell? ⟨w.heap.size,3,none⟩ = some (.int .i64 wa) ∧ u.cell? ⟨w.heap.size,4,none⟩ = some (.int .i64 ev) ∧ u.cell? ⟨w.heap.size,5,none⟩ = some (.int .i64 tt)):=fun u k => sch_cells w kd ba fa wa ev tt _ X hX u k
 obtain ⟨B0,hB0⟩ : ∃ B,B = w.heap.size:=⟨_,rfl⟩
 rw [← hB0] at HS0
 go_enter Tryz.func61,Tryz.ntmps61
 go_upto_region 1 with fail
 rw [← hX,← hB0]
 have hBX : B0 < X.heap.size:=by rw [hB0,hX]; simp
 clear hX hB0
 obtain ⟨c0,c1,c2,c3,c4,c5⟩:=HS0.out _ (Kept.refl X)
 go_wp2_with fail
 refine (KO.out _ hK).mono ?_
 rintro e w1 ⟨v1,rfl,N1,k1⟩
 clear c0 c1 c2 c3 c4 c5
 go_wp2_with fail
 refine (KR.out _ _ (hK.trans k1) N1.numAt).mono ?_
 rintro e w2 ⟨rfl,k2⟩
 go_wp2_with fail
 go_ret
 exact ⟨rfl,hK.trans (k1.trans k2)⟩
theorem linear_walk (kd ba fa wa ev tt : Int) (k : Int) (s : Int) (w : World)
  (KF : Hid (∀ u,Kept w u → Calls Tryz.prog 92 #[.agg #[.int .i64 kd,.int .i64 ba,.int .i64 fa,.int .i64 wa,.int .i64 ev,.int .i64 tt],.int .i64 k,.int .i64 1] u fun e w' => e = .returned (.int .i64 s) ∧ Kept u w')) :
  Calls Tryz.prog 63 #[.agg #[.int .i64 kd,.int .i64 ba,.int .i64 fa,.int .i64 wa,.int .i64 ev,.int .i64 tt],.int .i64 k] w fun e w' => e = .returned (.int .i64 s) ∧ Kept w w':=by
 obtain ⟨X,hX⟩ : ∃ X,X = w.alloc (.cells #[.int .i64 kd,.int .i64 ba,.int .i64 fa,.int .i64 wa,.int .i64 ev,.int .i64 tt] 23):=⟨_,rfl⟩
 have hK : Kept w X:=by rw [hX]; exact (Kept.refl w).alloc _ _
 have HS0 : Hid (∀ u,Kept X u → u.cell? ⟨w.heap.size,0,none⟩ = some (.int .i64 kd) ∧ u.cell? ⟨w.heap.size,1,none⟩ = some (.int .i64 ba) ∧ u.cell? ⟨w.heap.size,2,none⟩ = some (.int .i64 fa) ∧ u.cell? ⟨w.heap.size,3,none⟩ = some (.int .i64 wa) ∧ u.cell? ⟨w.heap.size,4,none⟩ = some (.int .i64 ev) ∧ u.cell? ⟨w.heap.size,5,none⟩ = some (.int .i64 tt)):=fun u k => sch_cells w kd ba fa wa ev tt _ X hX u k
 obtain ⟨B0,hB0⟩ : ∃ B,B = w.heap.size:=⟨_,rfl⟩
 rw [← hB0] at HS0
 go_enter Tryz.func63,Tryz.ntmps63
 go_upto_region 1 with fail
 rw [← hX,← hB0]
 have hBX : B0 < X.heap.size:=by rw [hB0,hX]; simp
 clear hX hB0
 obtain ⟨c0,c1,c2,c3,c4,c5⟩:=HS0.out _ (Kept.refl X)
 go_wp2_with fail
 refine (KF.out _ hK).mono ?_
 rintro e w1 ⟨rfl,k1⟩
 clear c0 c1 c2 c3 c4 c5
 go_wp2_with fail
 go_ret
 exact ⟨rfl,hK.trans k1⟩
theorem power_walk (kd ba fa wa ev tt : Int) (k : Int) (s : Int) (w : World)
  (KF : Hid (∀ u,Kept w u → Calls Tryz.prog 92 #[.agg #[.int .i64 kd,.int .i64 ba,.int .i64 fa,.int .i64 wa,.int .i64 ev,.int .i64 tt],.int .i64 k,.int .i64 ev] u fun e w' => e = .returned (.int .i64 s) ∧ Kept u w')) :
  Calls Tryz.prog 66 #[.agg #[.int .i64 kd,.int .i64 ba,.int .i64 fa,.int .i64 wa,.int .i64 ev,.int .i64 tt],.int .i64 k] w fun e w' => e = .returned (.int .i64 s) ∧ Kept w w':=by
 obtain ⟨X,hX⟩ : ∃ X,X = w.alloc (.cells #[.int .i64 kd,.int .i64 ba,.int .i64 fa,.int .i64 wa,.int .i64 ev,.int .i64 tt] 23):=⟨_,rfl⟩
 have hK : Kept w X:=by rw [hX]; exact (Kept.refl w).alloc _ _
 have HS0 : Hid (∀ u,Kept X u → u.cell? ⟨w.heap.size,0,none⟩ = some (.int .i64 kd) ∧ u.cell? ⟨w.heap.size,1,none⟩ = some (.int .i64 ba) ∧ u.cell? ⟨w.heap.size,2,none⟩ = some (.int .i64 fa) ∧ u.cell? ⟨w.heap.size,3,none⟩ = some (.int .i64 wa) ∧ u.cell? ⟨w.heap.size,4,none⟩ = some (.int .i64 ev) ∧ u.cell? ⟨w.heap.size,5,none⟩ = some (.int .i64 tt)):=fun u k => sch_cells w kd ba fa wa ev tt _ X hX u k
 obtain ⟨B0,hB0⟩ : ∃ B,B = w.heap.size:=⟨_,rfl⟩
 rw [← hB0] at HS0
 go_enter Tryz.func66,Tryz.ntmps66
 go_upto_region 1 with fail
 rw [← hX,← hB0]
 have hBX : B0 < X.heap.size:=by rw [hB0,hX]; simp
 clear hX hB0
 obtain ⟨c0,c1,c2,c3,c4,c5⟩:=HS0.out _ (Kept.refl X)
 go_wp2_with fail
 refine (KF.out _ hK).mono ?_
 rintro e w1 ⟨rfl,k1⟩
 clear c0 c1 c2 c3 c4 c5
 go_wp2_with fail
 go_ret
 exact ⟨rfl,hK.trans k1⟩
theorem rroot_walk (kd ba fa wa ev tt : Int) (k ek : Int) (hek : IntKind.i64.wrap (ev + k) = ek) (x y z1 z2 t : Nm) (s : Int) (w : World)
  (KO : Hid (∀ u,Kept w u → Calls Tryz.prog 42 #[.int .i64 ba,.int .i64 64] u fun e w' => ∃ v,e = .returned v ∧ New u w' v x ∧ Kept u w'))
  (KM1 : Hid (∀ u v,Kept w u → NumAt u v x → Calls Tryz.prog 41 #[v,v] u fun e w' => ∃ v,e = .returned v ∧ New u w' v y ∧ Kept u w'))
  (KI1 : Hid (∀ u,Kept w u → Calls Tryz.prog 23 #[.int .i64 ev] u fun e w' => ∃ v,e = .returned v ∧ New u w' v z1 ∧ Kept u w'))
  (KM2 : Hid (∀ u v v',Kept w u → NumAt u v y → NumAt u v' z1 → Calls Tryz.prog 41 #[v,v'] u fun e w' => ∃ v,e = .returned v ∧ New u w' v t ∧ Kept u w'))
  (KI2 : Hid (∀ u,Kept w u → Calls Tryz.prog 23 #[.int .i64 ek] u fun e w' => ∃ v,e = .returned v ∧ New u w' v z2 ∧ Kept u w'))
  (KR : Hid (∀ u v v',Kept w u → NumAt u v t → NumAt u v' z2 → Calls Tryz.prog 93 #[v,v',.int .i64 64] u fun e w' => e = .returned (.int .i64 s) ∧ Kept u w')) :
  Calls Tryz.prog 64 #[.agg #[.int .i64 kd,.int .i64 ba,.int .i64 fa,.int .i64 wa,.int .i64 ev,.int .i64 tt],.int .i64 k] w fun e w' => e = .returned (.int .i64 s) ∧ Kept w w':=by
 obtain ⟨X,hX⟩ : ∃ X,X = w.alloc (.cells #[.int .i64 kd,.int .i64 ba,.int .i64 fa,.int .i64 wa,.int .i64 ev,.int .i64 tt] 23):=⟨_,rfl⟩
 have hK : Kept w X:=by rw [hX]; exact (Kept.refl w).alloc _ _
 have HS0 : Hid (∀ u,Kept X u → u.cell? ⟨w.heap.size,0,none⟩ = some (.int .i64 kd) ∧ u.cell? ⟨w.heap.size,1,none⟩ = some (.int .i64 ba) ∧ u.cell? ⟨w.heap.size,2,none⟩ = some (.int .i64 fa) ∧ u.cell? ⟨w.heap.size,3,none⟩ = some (.int .i64 wa) ∧ u.cell? ⟨w.heap.size,4,none⟩ = some (.int .i64 ev) ∧ u.cell? ⟨w.heap.size,5,none⟩ = some (.int .i64 tt)):=fun u k => sch_cells w kd ba fa wa ev tt _ X hX u k
 obtain ⟨B0,hB0⟩ : ∃ B,B = w.heap.size:=⟨_,rfl⟩
 rw [← hB0] at HS0
 go_enter Tryz.func64,Tryz.ntmps64
 go_upto_region 1 with fail
 rw [← hX,← hB0]
 have hBX : B0 < X.heap.size:=by rw [hB0,hX]; simp
 clear hX hB0
 obtain ⟨c0,c1,c2,c3,c4,c5⟩:=HS0.out _ (Kept.refl X)
 go_upto_region 2 with (first | (go_at_call 42; refine (KO.out _ hK).mono ?_; rintro e w1 ⟨v1,rfl,N1,k1⟩; obtain ⟨n1,a1,l1,c1',x1,rfl⟩:=N1.shape))
 clear c0 c1 c2 c3 c4 c5
 obtain ⟨Y1,hY1⟩ : ∃ Y,Y = w1.alloc (.cells #[.bool n1,.slice a1 l1 c1',.int .i64 x1] 43):=⟨_,rfl⟩
 have kY1 : Kept w1 Y1:=by rw [hY1]; exact (Kept.refl w1).alloc _ _
 have d0 : Y1.cell? ⟨w1.heap.size,0,none⟩ = some (.bool n1):=by rw [hY1]; simp [go_sem]
 have d1 : Y1.cell? ⟨w1.heap.size,1,none⟩ = some (.slice a1 l1 c1'):=by rw [hY1]; simp [go_sem]
 have d2 : Y1.cell? ⟨w1.heap.size,2,none⟩ = some (.int .i64 x1):=by rw [hY1]; simp [go_sem]
 obtain ⟨B1,hB1⟩ : ∃ B,B = w1.heap.size:=⟨_,rfl⟩
 rw [← hB1] at d0 d1 d2
 rw [← hY1,← hB1]
 clear hY1 hB1
 have q1:=k1.trans kY1
 have A1:=hidr (N1.kept kY1).numAt
 clear N1 k1 kY1
 go_upto_region 3 with (first | (go_at_call 41; refine (KM1.out _ _ (hK.trans q1) A1.out).mono ?_; rintro e w2 ⟨v2,rfl,N2,k2⟩; obtain ⟨n2,a2,l2,c2,x2,rfl⟩:=N2.shape))
 clear d0 d1 d2
 obtain ⟨Y2,hY2⟩ : ∃ Y,Y = w2.alloc (.cells #[.bool n2,.slice a2 l2 c2,.int .i64 x2] 43):=⟨_,rfl⟩
 have kY2 : Kept w2 Y2:=by rw [hY2]; exact (Kept.refl w2).alloc _ _
 have d0 : Y2.cell? ⟨w2.heap.size,0,none⟩ = some (.bool n2):=by rw [hY2]; simp [go_sem]
 have d1 : Y2.cell? ⟨w2.heap.size,1,none⟩ = some (.slice a2 l2 c2):=by rw [hY2]; simp [go_sem]
 have d2 : Y2.cell? ⟨w2.heap.size,2,none⟩ = some (.int .i64 x2):=by rw [hY2]; simp [go_sem]
 have dl : w2.heap.size < Y2.heap.size:=by rw [hY2]; simp
 obtain ⟨B2,hB2⟩ : ∃ B,B = w2.heap.size:=⟨_,rfl⟩
 rw [← hB2] at d0 d1 d2 dl
 rw [← hY2,← hB2]
 clear hY2 hB2
 have q2:=q1.trans (k2.trans kY2)
 have A2:=hidr (N2.kept kY2).numAt
 have HS : Hid (∀ u,Kept Y2 u → Kept Y2 u ∧ (u.cell? ⟨B2,0,none⟩ = some (.bool n2) ∧ u.cell? ⟨B2,1,none⟩ = some (.slice a2 l2 c2) ∧ u.cell? ⟨B2,2,none⟩ = some (.int .i64 x2)) ∧ u.cell? ⟨B0,4,none⟩ = some (.int .i64 ev)):=fun u k => ⟨k,⟨(k.below.cell (p:=⟨B2,0,none⟩) dl).trans d0,(k.below.cell (p:=⟨B2,1,none⟩) dl).trans d1,(k.below.cell (p:=⟨B2,2,none⟩) dl).trans d2⟩,(HS0.out u (q2.trans k)).2.2.2.2.1⟩
 have HQ2:=hidr (hK.trans q2)
 clear N2 k2 kY2 d0 d1 d2 dl q1 q2 A1
 refine wp_region_held_drew (S:=fun u => Kept Y2 u ∧ (u.cell? ⟨B2,0,none⟩ = some (.bool n2) ∧ u.cell? ⟨B2,1,none⟩ = some (.slice a2 l2 c2) ∧ u.cell? ⟨B2,2,none⟩ = some (.int .i64 x2)) ∧ u.cell? ⟨B0,4,none⟩ = some (.int .i64 ev)) (by kernel_rfl) (HS.out _ (Kept.refl Y2).drew) (fun hHeld => ?_)
 refine tk (i:=0) (v:=?_) rfl ?_
 simp only [Act.put,zA,zB,zC,zD,zE,zF]
 refine tk (i:=1) (v:=?_) rfl ?_
 simp only [Act.put,zA,zB,zC,zD,zE,zF]
 refine tk (i:=2) (v:=?_) rfl ?_
 simp only [Act.put,zA,zB,zC,zD,zE,zF]
 refine tk (i:=5) (v:=?_) rfl ?_
 simp only [Act.put,zA,zB,zC,zD,zE,zF]
 refine tk (i:=6) (v:=?_) rfl ?_
 simp only [Act.put,zA,zB,zC,zD,zE,zF]
 refine tk (i:=7) (v:=?_) rfl ?_
 simp only [Act.put,zA,zB,zC,zD,zE,zF]
 refine tk (i:=8) (v:=?_) rfl ?_
 simp only [Act.put,zA,zB,zC,zD,zE,zF]
 refine wpAnyH_ready (rs:=[3]) (by kernel_rfl) (by simp) ?_
 refine AllReadyH.cons rfl (fun K hK9 => ?_) AllReadyH.nil
 go_simp
 go_wp2_with fail
 refine (KI1.out _ (HQ2.out.trans (Kept.refl Y2).drew)).mono ?_
 rintro e u3 ⟨v3,rfl,N3,k3⟩
 have r3:=(Kept.refl Y2).drew.trans k3
 have e3:=HS.out _ r3
 refine hK9.out _ _ e3 (fun hHeld3 => ?_)
 clear hK9 K
 (try simp only [Act.put,zA,zB,zC,zD,zE,zF])
 refine wpAnyH_ready (rs:=[4]) (by kernel_rfl) (by simp) ?_
 refine AllReadyH.cons rfl (fun K hK9 => ?_) AllReadyH.nil
 go_simp
 go_wp2_with fail
 refine (KM2.out _ _ _ (HQ2.out.trans r3) (A2.out.keptS r3) N3.numAt).mono ?_
 rintro e u4 ⟨v4,rfl,N4,k4⟩
 have r4:=r3.trans k4
 have e4:=HS.out _ r4
 refine hK9.out _ _ e4 (fun hHeld4 => ?_)
 clear hK9 K
 (try simp only [Act.put,zA,zB,zC,zD,zE,zF])
 refine wpAnyH_ready (rs:=[9]) (by kernel_rfl) (by simp) ?_
 refine AllReadyH.cons rfl (fun K hK9 => ?_) AllReadyH.nil
 go_simp
 go_wp2_with fail
 refine (KI2.out _ (HQ2.out.trans r4)).mono ?_
 rintro e u5 ⟨v5,rfl,N5,k5⟩
 have r5:=r4.trans k5
 have e5:=HS.out _ r5
 refine hK9.out _ _ e5 (fun hHeld5 => ?_)
 clear hK9 K
 (try simp only [Act.put,zA,zB,zC,zD,zE,zF])
 refine wpAnyH_ready (rs:=[10]) (by kernel_rfl) (by simp) ?_
 refine AllReadyH.cons rfl (fun K hK9 => ?_) AllReadyH.nil
 go_simp
 go_wp2_with fail
 refine (KR.out _ _ _ (HQ2.out.trans r5) (N4.kept k5).numAt N5.numAt).mono ?_
 rintro e u6 ⟨rfl,k6⟩
 have r6:=r5.trans k6
 have e6:=HS.out _ r6
 refine hK9.out _ _ e6 (fun hHeld6 => ?_)
 clear hK9 K
 (try simp only [Act.put,zA,zB,zC,zD,zE,zF])
 refine tk (i:=11) (v:=?_) rfl ?_
 simp only [Act.put,zA,zB,zC,zD,zE,zF]
 refine wpAnyH_done (by kernel_rfl) ?_ _
 go_wp2_with fail
 go_ret
 exact ⟨rfl,HQ2.out.trans r6⟩
end Go.Proofs.YtnniljhdcplkgaaGreatDoor
