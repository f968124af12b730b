/- Package sure: sums and products of any two valid numbers,quotients and roots of quotients: what is told hangs on the numbers alone. -/
import Derived.Test.YtnniljhdcplkgaaGreatDoorWr35
import Derived.Test.YtnniljhdcplkgaaGreatDoorWr39
namespace Go.Proofs.YtnniljhdcplkgaaGreatDoor
open Go.ChangeShapes Go.WideShapes Go.ChangeAt Go.RowKit
set_option maxHeartbeats 16000000
set_option maxRecDepth 100000
set_option linter.unusedVariables false
set_option linter.unusedSimpArgs false
theorem smulq_walk (qe : Int) (n1 : Bool) (a1 : Option Addr) (l1 c1 : Nat) (x1 : Int) (n2 : Bool) (a2 : Option Addr) (l2 c2 : Nat) (x2 : Int) (r : Nm) (w : World)
  (KE : Hid (∀ u,Kept w u → Calls Tryz.prog 72 #[.agg #[.bool n1,.slice a1 l1 c1,.int .i64 x1],.agg #[.bool n2,.slice a2 l2 c2,.int .i64 x2]] u fun e w' => ∃ v,e = .returned (.tuple #[v,.int .i64 qe]) ∧ New u w' v r ∧ Kept u w')) :
  Calls Tryz.prog 41 #[.agg #[.bool n1,.slice a1 l1 c1,.int .i64 x1],.agg #[.bool n2,.slice a2 l2 c2,.int .i64 x2]] w fun e w' => ∃ v,e = .returned v ∧ New w w' v r ∧ Kept w w':=by
 obtain ⟨X,hX⟩ : ∃ X,X = ((w.alloc (.cells #[.bool n1,.slice a1 l1 c1,.int .i64 x1] 43)).alloc (.cells #[.bool n2,.slice a2 l2 c2,.int .i64 x2] 43)).alloc (.cells #[.bool false,.slice none 0 0,.int .i64 0] 43):=⟨_,rfl⟩
 have hK : Kept w X:=by rw [hX]; exact (((Kept.refl w).alloc _ _).alloc _ _).alloc _ _
 have hXs : X.heap.size = w.heap.size + 3:=by rw [hX]; simp
 have hP0 : N3 X (w.heap.size) (.bool n1) (.slice a1 l1 c1) (.int .i64 x1):=by
  rw [hX]
  have:=(((N3.new (w) (.bool n1) (.slice a1 l1 c1) (.int .i64 x1) 43).alloc #[.bool n2,.slice a2 l2 c2,.int .i64 x2] 43).alloc #[.bool false,.slice none 0 0,.int .i64 0] 43)
  simpa using this
 have hP1 : N3 X (w.heap.size + 1) (.bool n2) (.slice a2 l2 c2) (.int .i64 x2):=by
  rw [hX]
  have:=((N3.new (w.alloc (.cells #[.bool n1,.slice a1 l1 c1,.int .i64 x1] 43)) (.bool n2) (.slice a2 l2 c2) (.int .i64 x2) 43).alloc #[.bool false,.slice none 0 0,.int .i64 0] 43)
  simpa using this
 have hP2 : N3 X (w.heap.size + 1 + 1) (.bool false) (.slice none 0 0) (.int .i64 0):=by
  rw [hX]
  have:=(N3.new ((w.alloc (.cells #[.bool n1,.slice a1 l1 c1,.int .i64 x1] 43)).alloc (.cells #[.bool n2,.slice a2 l2 c2,.int .i64 x2] 43)) (.bool false) (.slice none 0 0) (.int .i64 0) 43)
  simpa using this
 obtain ⟨B0,hB0⟩ : ∃ B,B = w.heap.size:=⟨_,rfl⟩
 obtain ⟨B1,hB1⟩ : ∃ B,B = B0 + 1:=⟨_,rfl⟩
 obtain ⟨B2,hB2⟩ : ∃ B,B = B1 + 1:=⟨_,rfl⟩
 rw [← hB0] at hP0
 rw [← hB0,← hB1] at hP1
 rw [← hB0,← hB1,← hB2] at hP2
 have oB : Hid (w.heap.size ≤ B0 ∧ B0 < X.heap.size ∧ w.heap.size ≤ B1 ∧ B1 < X.heap.size ∧ w.heap.size ≤ B2 ∧ B2 < X.heap.size):=(show _ ∧ _ ∧ _ ∧ _ ∧ _ ∧ _ from by omega)
 have HR : Hid (∀ u,Kept X u → N3 u B2 (.bool false) (.slice none 0 0) (.int .i64 0)):=fun u k => hP2.kept k
 go_enter Tryz.func41,Tryz.ntmps41
 go_upto_region 1 with fail
 rw [← hX,← hB0,← hB1,← hB2]
 clear hX hXs hB0 hB1 hB2
 obtain ⟨p00,p01,p02,p0f⟩:=hP0
 obtain ⟨p10,p11,p12,p1f⟩:=hP1
 obtain ⟨p20,p21,p22,p2f⟩:=hP2
 go_wp2_with (first | (go_at_call 72; refine (KE.out _ hK).mono ?_; rintro e w2 ⟨v,rfl,hN,k2⟩; obtain ⟨vn,va,vl,vc,vx,rfl⟩:=hN.shape; clear p00 p01 p02 p0f; clear p10 p11 p12 p1f; clear p20 p21 p22 p2f; obtain ⟨f0,f1,f2,f3⟩:=HR.out _ k2; have hlt : B2 < w2.heap.size:=(HR.out _ k2).lt; have hne : B2 ≠ w2.heap.size:=Nat.ne_of_lt hlt))
 have:=res_done B2 oB.out.2.2.2.2.1 oB.out.2.2.2.2.2 hK hN k2 (.bool vn) (.slice va vl vc) (.int .i64 vx)
 exact bodyPost_ret (v:=.agg #[.bool vn,.slice va vl vc,.int .i64 vx]) (by simp [results,Tryz.results41,go_sem,f0,f1,f2,hlt]) rfl ⟨_,rfl,this.1.kept ((Kept.refl _).alloc _ _),this.2.alloc _ _⟩
theorem saddq_walk (qe : Int) (n1 : Bool) (a1 : Option Addr) (l1 c1 : Nat) (x1 : Int) (n2 : Bool) (a2 : Option Addr) (l2 c2 : Nat) (x2 : Int) (r : Nm) (w : World)
  (KE : Hid (∀ u,Kept w u → Calls Tryz.prog 121 #[.agg #[.bool n1,.slice a1 l1 c1,.int .i64 x1],.agg #[.bool n2,.slice a2 l2 c2,.int .i64 x2]] u fun e w' => ∃ v,e = .returned (.tuple #[v,.int .i64 qe]) ∧ New u w' v r ∧ Kept u w')) :
  Calls Tryz.prog 94 #[.agg #[.bool n1,.slice a1 l1 c1,.int .i64 x1],.agg #[.bool n2,.slice a2 l2 c2,.int .i64 x2]] w fun e w' => ∃ v,e = .returned v ∧ New w w' v r ∧ Kept w w':=by
 obtain ⟨X,hX⟩ : ∃ X,X = ((w.alloc (.cells #[.bool n1,.slice a1 l1 c1,.int .i64 x1] 43)).alloc (.cells #[.bool n2,.slice a2 l2 c2,.int .i64 x2] 43)).alloc (.cells #[.bool false,.slice none 0 0,.int .i64 0] 43):=⟨_,rfl⟩
 have hK : Kept w X:=by rw [hX]; exact (((Kept.refl w).alloc _ _).alloc _ _).alloc _ _
 have hXs : X.heap.size = w.heap.size + 3:=by rw [hX]; simp
 have hP0 : N3 X (w.heap.size) (.bool n1) (.slice a1 l1 c1) (.int .i64 x1):=by
  rw [hX]
  have:=(((N3.new (w) (.bool n1) (.slice a1 l1 c1) (.int .i64 x1) 43).alloc #[.bool n2,.slice a2 l2 c2,.int .i64 x2] 43).alloc #[.bool false,.slice none 0 0,.int .i64 0] 43)
  simpa using this
 have hP1 : N3 X (w.heap.size + 1) (.bool n2) (.slice a2 l2 c2) (.int .i64 x2):=by
  rw [hX]
  have:=((N3.new (w.alloc (.cells #[.bool n1,.slice a1 l1 c1,.int .i64 x1] 43)) (.bool n2) (.slice a2 l2 c2) (.int .i64 x2) 43).alloc #[.bool false,.slice none 0 0,.int .i64 0] 43)
  simpa using this
 have hP2 : N3 X (w.heap.size + 1 + 1) (.bool false) (.slice none 0 0) (.int .i64 0):=by
  rw [hX]
  have:=(N3.new ((w.alloc (.cells #[.bool n1,.slice a1 l1 c1,.int .i64 x1] 43)).alloc (.cells #[.bool n2,.slice a2 l2 c2,.int .i64 x2] 43)) (.bool false) (.slice none 0 0) (.int .i64 0) 43)
  simpa using this
 obtain ⟨B0,hB0⟩ : ∃ B,B = w.heap.size:=⟨_,rfl⟩
 obtain ⟨B1,hB1⟩ : ∃ B,B = B0 + 1:=⟨_,rfl⟩
 obtain ⟨B2,hB2⟩ : ∃ B,B = B1 + 1:=⟨_,rfl⟩
 rw [← hB0] at hP0
 rw [← hB0,← hB1] at hP1
 rw [← hB0,← hB1,← hB2] at hP2
 have oB : Hid (w.heap.size ≤ B0 ∧ B0 < X.heap.size ∧ w.heap.size ≤ B1 ∧ B1 < X.heap.size ∧ w.heap.size ≤ B2 ∧ B2 < X.heap.size):=(show _ ∧ _ ∧ _ ∧ _ ∧ _ ∧ _ from by omega)
 have HR : Hid (∀ u,Kept X u → N3 u B2 (.bool false) (.slice none 0 0) (.int .i64 0)):=fun u k => hP2.kept k
 go_enter Tryz.func94,Tryz.ntmps94
 go_upto_region 1 with fail
 rw [← hX,← hB0,← hB1,← hB2]
 clear hX hXs hB0 hB1 hB2
 obtain ⟨p00,p01,p02,p0f⟩:=hP0
 obtain ⟨p10,p11,p12,p1f⟩:=hP1
 obtain ⟨p20,p21,p22,p2f⟩:=hP2
 go_wp2_with (first | (go_at_call 121; refine (KE.out _ hK).mono ?_; rintro e w2 ⟨v,rfl,hN,k2⟩; obtain ⟨vn,va,vl,vc,vx,rfl⟩:=hN.shape; clear p00 p01 p02 p0f; clear p10 p11 p12 p1f; clear p20 p21 p22 p2f; obtain ⟨f0,f1,f2,f3⟩:=HR.out _ k2; have hlt : B2 < w2.heap.size:=(HR.out _ k2).lt; have hne : B2 ≠ w2.heap.size:=Nat.ne_of_lt hlt))
 have:=res_done B2 oB.out.2.2.2.2.1 oB.out.2.2.2.2.2 hK hN k2 (.bool vn) (.slice va vl vc) (.int .i64 vx)
 exact bodyPost_ret (v:=.agg #[.bool vn,.slice va vl vc,.int .i64 vx]) (by simp [results,Tryz.results94,go_sem,f0,f1,f2,hlt]) rfl ⟨_,rfl,this.1.kept ((Kept.refl _).alloc _ _),this.2.alloc _ _⟩
abbrev zN : Nm:=⟨false,[],0⟩
def mulT (x y : Nm) : Nm:=(mulN x y).getD zN
def addT (x y : Nm) : Nm:=(addZ x y).getD zN
theorem zN_vld : vld zN = true:=by decide
theorem mulT_vld (x y : Nm) : vld (mulT x y) = true:=by
 unfold mulT
 cases h : mulN x y with
 | none => exact zN_vld
 | some r =>
  unfold mulN at h
  split at h
  ·exact (frm_vld _ _ _ r h).1
  ·cases h
theorem addT_vld (x y : Nm) (hx : vld x = true) (hy : vld y = true) : vld (addT x y) = true:=by
 unfold addT
 cases h : addZ x y with
 | none => exact zN_vld
 | some r =>
  unfold addZ at h
  split at h
  ·split at h
   ·cases h; exact zN_vld
   ·cases h; exact hy
  ·split at h
   ·cases h; exact hx
   ·unfold addN at h
    split at h
    ·exact (frm_vld _ _ _ r h).1
    ·cases h
theorem smulT (x y : Nm) (hx : vld x = true) (hy : vld y = true) (v1 v2 : Value) (w : World) (hT : Tab w) (h1 : NumAt w v1 x) (h2 : NumAt w v2 y) : Calls Tryz.prog 41 #[v1,v2] w fun e w' => ∃ v,e = .returned v ∧ New w w' v (mulT x y) ∧ Kept w w':=by
 obtain ⟨a1,c1,rfl,s1⟩:=h1.form
 obtain ⟨a2,c2,rfl,s2⟩:=h2.form
 unfold mulT
 cases h : mulN x y with
 | some r => exact smulq_walk 0 _ _ _ _ _ _ _ _ _ _ r w (fun u k => mulz_ok u (hT.kept k) _ _ _ hx _ _ _ _ _ hy _ _ (s1.kept k) (s2.kept k) r h)
 | none => exact smulq_walk 2 _ _ _ _ _ _ _ _ _ _ zN w (fun u k => (mulz_no u (hT.kept k) _ _ _ hx _ _ _ _ _ hy _ _ (s1.kept k) (s2.kept k) h).mono fun e w' ⟨h1,h2⟩ => ⟨_,h1,.inl ⟨rfl,rfl⟩,h2⟩)
theorem saddT (x y : Nm) (hx : vld x = true) (hy : vld y = true) (v1 v2 : Value) (w : World) (hT : Tab w) (h1 : NumAt w v1 x) (h2 : NumAt w v2 y) : Calls Tryz.prog 94 #[v1,v2] w fun e w' => ∃ v,e = .returned v ∧ New w w' v (addT x y) ∧ Kept w w':=by
 obtain ⟨a1,c1,rfl,s1⟩:=h1.form
 obtain ⟨a2,c2,rfl,s2⟩:=h2.form
 unfold addT
 cases h : addZ x y with
 | some r => exact saddq_walk 0 _ _ _ _ _ _ _ _ _ _ r w (fun u k => addz_ok u (hT.kept k) _ _ _ hx _ _ _ _ _ hy _ _ (s1.kept k) (s2.kept k) r h)
 | none => exact saddq_walk 2 _ _ _ _ _ _ _ _ _ _ zN w (fun u k => (addz_no u (hT.kept k) _ _ _ hx _ _ _ _ _ hy _ _ (s1.kept k) (s2.kept k) h).mono fun e w' ⟨h1,h2⟩ => ⟨_,h1,.inl ⟨rfl,rfl⟩,h2⟩)
theorem squot_walk (n1 : Bool) (a1 : Option Addr) (l1 c1 : Nat) (x1 : Int) (n2 : Bool) (a2 : Option Addr) (l2 c2 : Nat) (x2 : Int) (n s : Int) (o : Bool) (w : World)
  (KE : Hid (∀ u,Kept w u → Calls Tryz.prog 68 #[.agg #[.bool n1,.slice a1 l1 c1,.int .i64 x1],.agg #[.bool n2,.slice a2 l2 c2,.int .i64 x2],.int .i64 n,.int .i64 0] u fun e w' => e = .returned (.tuple #[.int .i64 s,.bool o,.int .i64 0]) ∧ Kept u w')) :
  Calls Tryz.prog 40 #[.agg #[.bool n1,.slice a1 l1 c1,.int .i64 x1],.agg #[.bool n2,.slice a2 l2 c2,.int .i64 x2],.int .i64 n] w fun e w' => e = .returned (.int .i64 s) ∧ Kept w w':=by
 obtain ⟨X,hX⟩ : ∃ X,X = (w.alloc (.cells #[.bool n1,.slice a1 l1 c1,.int .i64 x1] 43)).alloc (.cells #[.bool n2,.slice a2 l2 c2,.int .i64 x2] 43):=⟨_,rfl⟩
 have hK : Kept w X:=by rw [hX]; exact ((Kept.refl w).alloc _ _).alloc _ _
 have p00 : X.cell? ⟨w.heap.size,0,none⟩ = some (.bool n1):=by rw [hX]; simp [go_sem]
 have p01 : X.cell? ⟨w.heap.size,1,none⟩ = some (.slice a1 l1 c1):=by rw [hX]; simp [go_sem]
 have p02 : X.cell? ⟨w.heap.size,2,none⟩ = some (.int .i64 x1):=by rw [hX]; simp [go_sem]
 have p10 : X.cell? ⟨w.heap.size + 1,0,none⟩ = some (.bool n2):=by rw [hX]; simp [go_sem]
 have p11 : X.cell? ⟨w.heap.size + 1,1,none⟩ = some (.slice a2 l2 c2):=by rw [hX]; simp [go_sem]
 have p12 : X.cell? ⟨w.heap.size + 1,2,none⟩ = some (.int .i64 x2):=by rw [hX]; simp [go_sem]
 have HP:=(show Hid (X.cell? ⟨w.heap.size,0,none⟩ = some (.bool n1) ∧ X.cell? ⟨w.heap.size,1,none⟩ = some (.slice a1 l1 c1) ∧ X.cell? ⟨w.heap.size,2,none⟩ = some (.int .i64 x1) ∧ X.cell? ⟨w.heap.size + 1,0,none⟩ = some (.bool n2) ∧ X.cell? ⟨w.heap.size + 1,1,none⟩ = some (.slice a2 l2 c2) ∧ X.cell? ⟨w.heap.size + 1,2,none⟩ = some (.int .i64 x2)) from ⟨p00,p01,p02,p10,p11,p12⟩)
 clear p00 p01 p02 p10 p11 p12
 go_enter Tryz.func40,Tryz.ntmps40
 go_upto_region 1 with fail
 rw [← hX]
 clear hX
 obtain ⟨p00,p01,p02,p10,p11,p12⟩:=HP.out
 go_wp2_with (first | (go_at_call 68; refine (KE.out _ hK).mono ?_; rintro e w2 ⟨rfl,k2⟩))
 go_ret
 exact ⟨rfl,hK.trans k2⟩
theorem rootq_nil (n1 : Bool) (a1 : Option Addr) (c1 : Nat) (x1 : Int) (n2 : Bool) (a2 : Option Addr) (l2 c2 : Nat) (x2 : Int) (w : World) : Calls Tryz.prog 143 #[.agg #[.bool n1,.slice a1 0 c1,.int .i64 x1],.agg #[.bool n2,.slice a2 l2 c2,.int .i64 x2]] w fun e w' => e = .returned (.agg #[.bool false,.int .i64 0,.int .i64 0,.bool false]) ∧ Kept w w':=by
 have hK : Kept w (((w.alloc (.cells #[.bool n1,.slice a1 0 c1,.int .i64 x1] 43)).alloc (.cells #[.bool n2,.slice a2 l2 c2,.int .i64 x2] 43)).alloc (.cells #[.bool false,.int .i64 0,.int .i64 0,.bool false] 117)):=(((Kept.refl w).alloc _ _).alloc _ _).alloc _ _
 go_enter Tryz.func143,Tryz.ntmps143
 go_wp2
 refine bodyPost_ret (v:=.agg #[.bool false,.int .i64 0,.int .i64 0,.bool false]) (by simp [results,Tryz.results143,go_sem]) rfl ⟨rfl,?_⟩
 exact hK
theorem vld_bounds (a : Nm) (ha : vld a = true) : Rg a.mag ∧ a.mag.length ≤ 2000 ∧ -1048576 ≤ a.exp ∧ a.exp ≤ 1048576:=by
 obtain ⟨h1,h2⟩:=vld_dg a.neg a.mag a.exp ha
 obtain ⟨h3,h4⟩:=vld_exp a ha
 exact ⟨fun d hd => by have:=h2 d hd; omega,h1,h3,h4⟩
theorem squotT (x y : Nm) (hx : vld x = true) (hy : vld y = true) (hy0 : y.mag ≠ []) : ∃ s : Int,∀ v1 v2 w,Tab w → NumAt w v1 x → NumAt w v2 y → Calls Tryz.prog 40 #[v1,v2,.int .i64 64] w fun e w' => e = .returned (.int .i64 s) ∧ Kept w w':=by
 obtain ⟨rx,lx,ex1,ex2⟩:=vld_bounds x hx
 obtain ⟨ry,ly,ey1,ey2⟩:=vld_bounds y hy
 by_cases h0 : x.mag = []
 ·refine ⟨0,fun v1 v2 w hT h1 h2 => ?_⟩
  obtain ⟨a1,c1,rfl,s1⟩:=h1.form
  obtain ⟨a2,c2,rfl,s2⟩:=h2.form
  exact squot_walk _ _ _ _ _ _ _ _ _ _ 64 0 false w (fun u k => quot_nought 64 0 (.inl rfl) (.inl rfl) x y rx ry (by omega) (by omega) a1 a2 c1 c2 u (s1.kept k) (s2.kept k) hx hy (by rw [h0]; rfl) (fun h => hy0 (List.length_eq_zero_iff.1 h)))
 ·have hbl1:=bl_le _ _ (nv_lt x.mag (vld_dg x.neg x.mag x.exp hx).2)
  have hbl2:=bl_le _ _ (nv_lt y.mag (vld_dg y.neg y.mag y.exp hy).2)
  obtain ⟨k,Q,H,F,od,hf,rt,-,hA⟩:=quotz_all 64 (.inl rfl) x y hx hy h0 hy0 (-3000000) (by omega) (by omega) (by omega) (by unfold qex; omega) (by decide)
  refine ⟨pz 64 (kyz (x.neg != y.neg) (mgz 0 (x.neg != y.neg) (ifn 64) F od hf rt)),fun v1 v2 w hT h1 h2 => ?_⟩
  obtain ⟨a1,c1,rfl,s1⟩:=h1.form
  obtain ⟨a2,c2,rfl,s2⟩:=h2.form
  exact squot_walk _ _ _ _ _ _ _ _ _ _ 64 _ _ w (fun u k => hA 0 (.inl rfl) a1 a2 c1 c2 u (hT.kept k) (s1.kept k) (s2.kept k))
theorem srootT (x y : Nm) (hx : vld x = true) (hy : vld y = true) (hy0 : y.mag ≠ []) (hxn : x.neg = false) (hyn : y.neg = false) : ∃ s : Int,∀ v1 v2 w,Tab w → NumAt w v1 x → NumAt w v2 y → Calls Tryz.prog 93 #[v1,v2,.int .i64 64] w fun e w' => e = .returned (.int .i64 s) ∧ Kept w w':=by
 obtain ⟨rx,lx,ex1,ex2⟩:=vld_bounds x hx
 obtain ⟨ry,ly,ey1,ey2⟩:=vld_bounds y hy
 by_cases h0 : x.mag = []
 ·refine ⟨0,fun v1 v2 w hT h1 h2 => ?_⟩
  obtain ⟨a1,c1,rfl,s1⟩:=h1.form
  obtain ⟨a2,c2,rfl,s2⟩:=h2.form
  refine srootq_walk _ _ _ _ _ _ _ _ _ _ 64 0 0 false w (fun u k => ?_)
  have ham : x.mag.length = 0:=by rw [h0]; rfl
  have hbm : y.mag.length ≠ 0:=fun h => hy0 (List.length_eq_zero_iff.1 h)
  have hv:=av2 x y rx ry (by omega) (by omega) a1 a2 c1 c2 u (s1.kept k) (s2.kept k)
  rw [hx,hy] at hv
  have KG : ∀ u2,Kept u u2 → _:=fun u2 _ => signOf_any y.neg a2 y.mag.length c2 y.exp u2
  rw [if_neg hbm] at KG
  have KG1 : ∀ u2,Kept u u2 → _:=fun u2 _ => signOf_any x.neg a1 x.mag.length c1 x.exp u2
  rw [if_pos ham] at KG1
  have hsg : ((if y.neg = true then (-1 : Int) else 1) == 0) = false:=by cases y.neg <;> rfl
  have KQ : ∀ u2,Kept u u2 → _:=fun u2 _ => rootq_nil x.neg a1 c1 x.exp y.neg a2 y.mag.length c2 y.exp u2
  rw [← ham] at KQ
  exact xrootq 0 _ 64 _ _ _ x.neg y.neg a1 a2 x.mag.length c1 y.mag.length c2 x.exp y.exp 0 _ _ _ false hsg rfl (by cases y.neg <;> rfl) _ _ _ _ u (roundingOf_ok 64 0 (.inl rfl) (.inl rfl) _ _ hv) KG1 KG KQ (fun u _ => round_zero 64 _ _ _ _ 0 false false u)
 ·obtain ⟨r,h,l,rs,ex,un,m,k,F,-,-,-,-,-,-,-,-,hA⟩:=rootquot_any 64 (.inl rfl) x y hx hy h0 hy0 hxn hyn
  refine ⟨pz 64 (kyz false (mgz 0 false (ifn 64) F (decide (k % 2 = 1)) (decide (h / 2 ^ m % 2 = 1)) ((rs || drs 4 x y) || h % 2 ^ m != 0))),fun v1 v2 w hT h1 h2 => ?_⟩
  obtain ⟨a1,c1,rfl,s1⟩:=h1.form
  obtain ⟨a2,c2,rfl,s2⟩:=h2.form
  exact srootq_walk _ _ _ _ _ _ _ _ _ _ 64 _ _ _ w (fun u k => hA 0 (.inl rfl) a1 a2 c1 c2 u (hT.kept k) (s1.kept k) (s2.kept k))
end Go.Proofs.YtnniljhdcplkgaaGreatDoor
