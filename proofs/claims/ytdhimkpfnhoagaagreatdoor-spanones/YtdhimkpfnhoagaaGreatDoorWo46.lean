/- The document's intervals: Neg,Point,Around,Plus,Minus,Zero,Single,Has: the walks. -/
import Derived.Test.YtdhimkpfnhoagaaGreatDoorWo27
import Derived.Test.YtdhimkpfnhoagaaGreatDoorWo38
namespace Go.Proofs.YtdhimkpfnhoagaaGreatDoor
open Go.ChangeShapes Go.WideShapes Go.ChangeAt Go.RowKit
set_option linter.unusedVariables false
set_option linter.unusedSimpArgs false
set_option maxHeartbeats 16000000
set_option maxRecDepth 100000
theorem rneg_walk5 (lo hi n z1 z2 : Int) (E : Int → World → Value → Prop) (sE : Hid (∀ b u u' v,E b u v → Kept u u' → E b u' v)) (T : Int → World → Value → Prop) (sT : Hid (∀ b u u' v,T b u v → Kept u u' → T b u' v)) (w : World)
  (KO : Hid (∀ u b,(b = lo ∨ b = hi) → Kept w u → Calls Tryz.prog 88 #[.int .i64 b,.int .i64 n] u fun e w' => ∃ v,e = .returned v ∧ E b w' v ∧ Kept u w'))
  (KT : Hid (∀ u b v,(b = lo ∨ b = hi) → Kept w u → E b u v → Calls Tryz.prog 95 #[v] u fun e w' => ∃ r,e = .returned r ∧ T b w' r ∧ Kept u w'))
  (KM : Hid (∀ u v1 v2,Kept w u → T hi u v1 → T lo u v2 → Calls Tryz.prog 94 #[v1,v2,.int .i64 n] u fun e w' => e = .returned (.agg #[.int .i64 z1,.int .i64 z2]) ∧ Kept u w')) :
  Calls Tryz.prog 39 #[.agg #[.int .i64 lo,.int .i64 hi],.int .i64 n] w fun e w' => e = .returned (.agg #[.int .i64 z1,.int .i64 z2]) ∧ Kept w w':=by
 obtain ⟨X,hX⟩ : ∃ X,X = (w.alloc (.cells #[.int .i64 lo,.int .i64 hi] 23)).alloc (.cells #[.int .i64 0,.int .i64 0] 23):=⟨_,rfl⟩
 have hK : Kept w X:=by rw [hX]; exact ((Kept.refl w).alloc _ _).alloc _ _
 have hXs : X.heap.size = w.heap.size + 2:=by rw [hX]; simp
 have hP0 : P2 X (w.heap.size) (.int .i64 lo) (.int .i64 hi):=by
  rw [hX]
  have:=((P2.new (w) (.int .i64 lo) (.int .i64 hi) 23).alloc #[.int .i64 0,.int .i64 0] 23)
  simpa using this
 have hP1 : P2 X (w.heap.size + 1) (.int .i64 0) (.int .i64 0):=by
  rw [hX]
  have:=(P2.new (w.alloc (.cells #[.int .i64 lo,.int .i64 hi] 23)) (.int .i64 0) (.int .i64 0) 23)
  simpa using this
 obtain ⟨B0,hB0⟩ : ∃ B,B = w.heap.size:=⟨_,rfl⟩
 obtain ⟨B1,hB1⟩ : ∃ B,B = B0 + 1:=⟨_,rfl⟩
 rw [← hB0] at hP0
 rw [← hB0,← hB1] at hP1
 have oB : Hid (w.heap.size ≤ B0 ∧ B0 < X.heap.size ∧ w.heap.size ≤ B1 ∧ B1 < X.heap.size):=(show _ ∧ _ ∧ _ ∧ _ from by omega)
 have oX : Hid (w.heap.size ≤ X.heap.size):=hK.below.size
 have HS : Hid (∀ u,Kept X u → Kept X u ∧ u.cell? ⟨B0,0,none⟩ = some (.int .i64 lo) ∧ u.cell? ⟨B0,1,none⟩ = some (.int .i64 hi)):=fun u k => ⟨k,(hP0.kept k).c0,(hP0.kept k).c1⟩
 go_enter Tryz.func39,Tryz.ntmps39
 go_upto_region 1 with fail
 rw [← hX,← hB0,← hB1]
 clear hX hXs hB0 hB1
 refine wp_region_late [12] (fun u => Kept X u ∧ u.cell? ⟨B0,0,none⟩ = some (.int .i64 lo) ∧ u.cell? ⟨B0,1,none⟩ = some (.int .i64 hi)) (by kernel_rfl) (HS.out _ (Kept.refl X).drew) (fun hHeld => ?_)
 refine tkD (i:=0) (v:=?_) rfl hHeld ?_
 (try simp only [Act.put,zA,zB,zC,zD,zE,zF])
 refine tkD (i:=1) (v:=?_) rfl hHeld ?_
 (try simp only [Act.put,zA,zB,zC,zD,zE,zF])
 refine tkD (i:=2) (v:=?_) rfl hHeld ?_
 (try simp only [Act.put,zA,zB,zC,zD,zE,zF])
 refine tkD (i:=5) (v:=?_) rfl hHeld ?_
 (try simp only [Act.put,zA,zB,zC,zD,zE,zF])
 refine tkD (i:=6) (v:=?_) rfl hHeld ?_
 (try simp only [Act.put,zA,zB,zC,zD,zE,zF])
 refine tkD (i:=7) (v:=?_) rfl hHeld ?_
 (try simp only [Act.put,zA,zB,zC,zD,zE,zF])
 refine tkD (i:=10) (v:=?_) rfl hHeld ?_
 (try simp only [Act.put,zA,zB,zC,zD,zE,zF])
 refine wpAnyD_step (i:=3) (by kernel_rfl) rfl (fun K hK9 => ?_)
 go_simp
 go_wp2_with fail
 refine (KO.out _ _ (.inr rfl) (hK.trans hHeld.1)).mono ?_
 rintro e u1 ⟨v1,rfl,g1,k1⟩
 refine hK9.out _ _ (HS.out _ (hHeld.1.trans k1)) (fun hH1 => ?_)
 clear hK9 K
 (try simp only [Act.put,zA,zB,zC,zD,zE,zF])
 refine wpAnyD_step (i:=4) (by kernel_rfl) rfl (fun K hK9 => ?_)
 go_simp
 go_wp2_with fail
 refine (KT.out _ _ _ (.inr rfl) (hK.trans hH1.1) g1).mono ?_
 rintro e u2 ⟨v2,rfl,g2,k2⟩
 refine hK9.out _ _ (HS.out _ (hH1.1.trans k2)) (fun hH2 => ?_)
 clear hK9 K
 (try simp only [Act.put,zA,zB,zC,zD,zE,zF])
 refine wpAnyD_step (i:=8) (by kernel_rfl) rfl (fun K hK9 => ?_)
 go_simp
 go_wp2_with fail
 refine (KO.out _ _ (.inl rfl) (hK.trans hH2.1)).mono ?_
 rintro e u3 ⟨v3,rfl,g3,k3⟩
 refine hK9.out _ _ (HS.out _ (hH2.1.trans k3)) (fun hH3 => ?_)
 clear hK9 K
 (try simp only [Act.put,zA,zB,zC,zD,zE,zF])
 refine wpAnyD_step (i:=9) (by kernel_rfl) rfl (fun K hK9 => ?_)
 go_simp
 go_wp2_with fail
 refine (KT.out _ _ _ (.inl rfl) (hK.trans hH3.1) g3).mono ?_
 rintro e u4 ⟨v4,rfl,g4,k4⟩
 refine hK9.out _ _ (HS.out _ (hH3.1.trans k4)) (fun hH4 => ?_)
 clear hK9 K
 (try simp only [Act.put,zA,zB,zC,zD,zE,zF])
 refine wpAnyD_step (i:=11) (by kernel_rfl) rfl (fun K hK9 => ?_)
 go_simp
 go_wp2_with fail
 refine (KM.out _ _ _ (hK.trans hH4.1) (sT.out _ _ _ _ g2 (k3.trans k4)) g4).mono ?_
 rintro e u5 ⟨rfl,k5⟩
 refine hK9.out _ _ (HS.out _ (hH4.1.trans k5)) (fun hH5 => ?_)
 clear hK9 K
 (try simp only [Act.put,zA,zB,zC,zD,zE,zF])
 obtain ⟨p0,p1,pf⟩:=hP1.kept hH5.1
 refine wpAnyD_late (i:=12) (by kernel_rfl) rfl rfl (fun K hK9 => ?_)
 go_simp
 refine hK9.out _ _ ?_
 clear hK9 K
 (try simp only [Act.put,zA,zB,zC,zD,zE,zF])
 refine wpAnyD_done (by kernel_rfl) ?_ _
 (try simp only [Act.put,zA,zB,zC,zD,zE,zF])
 go_wp2_with fail
 exact bodyPost_ret (v:=.agg #[.int .i64 z1,.int .i64 z2]) (by simp [results,Tryz.results39,go_sem,p0,p1]) rfl ⟨rfl,((hK.trans hH5.1).setCell (p:=⟨B1,0,none⟩) oB.out.2.2.1 _).setCell (p:=⟨B1,1,none⟩) oB.out.2.2.1 _⟩
theorem rpoint_walk5 (b n z1 z2 : Int) (E : Int → World → Value → Prop) (sE : Hid (∀ b u u' v,E b u v → Kept u u' → E b u' v)) (w : World)
  (KO : Hid (∀ u,Kept w u → Calls Tryz.prog 88 #[.int .i64 b,.int .i64 n] u fun e w' => ∃ v,e = .returned v ∧ E b w' v ∧ Kept u w'))
  (KM : Hid (∀ u v1 v2,Kept w u → E b u v1 → E b u v2 → Calls Tryz.prog 94 #[v1,v2,.int .i64 n] u fun e w' => e = .returned (.agg #[.int .i64 z1,.int .i64 z2]) ∧ Kept u w')) :
  Calls Tryz.prog 40 #[.int .i64 b,.int .i64 n] w fun e w' => e = .returned (.agg #[.int .i64 z1,.int .i64 z2]) ∧ Kept w w':=by
 obtain ⟨X,hX⟩ : ∃ X,X = w.alloc (.cells #[.int .i64 0,.int .i64 0] 23):=⟨_,rfl⟩
 have hK : Kept w X:=by rw [hX]; exact (Kept.refl w).alloc _ _
 have hXs : X.heap.size = w.heap.size + 1:=by rw [hX]; simp
 have hP0 : P2 X (w.heap.size) (.int .i64 0) (.int .i64 0):=by
  rw [hX]
  have:=(P2.new (w) (.int .i64 0) (.int .i64 0) 23)
  simpa using this
 obtain ⟨B0,hB0⟩ : ∃ B,B = w.heap.size:=⟨_,rfl⟩
 rw [← hB0] at hP0
 have oB : Hid (w.heap.size ≤ B0 ∧ B0 < X.heap.size):=(show _ ∧ _ from by omega)
 have oX : Hid (w.heap.size ≤ X.heap.size):=hK.below.size
 go_enter Tryz.func40,Tryz.ntmps40
 go_upto_region 1 with fail
 rw [← hX,← hB0]
 clear hX hXs hB0
 go_wp2_with fail
 refine (KO.out _ hK).mono ?_
 rintro e w1 ⟨v1,rfl,g1,k1⟩
 go_wp2_with fail
 refine (KO.out _ (hK.trans k1)).mono ?_
 rintro e w2 ⟨v2,rfl,g2,k2⟩
 go_wp2_with fail
 refine (KM.out _ _ _ (hK.trans (k1.trans k2)) (sE.out _ _ _ _ g1 k2) g2).mono ?_
 rintro e w3 ⟨rfl,k3⟩
 obtain ⟨p0,p1,pf⟩:=hP0.kept (k1.trans (k2.trans k3))
 go_wp2_with fail
 exact bodyPost_ret (v:=.agg #[.int .i64 z1,.int .i64 z2]) (by simp [results,Tryz.results40,go_sem,p0,p1]) rfl ⟨rfl,((hK.trans (k1.trans (k2.trans k3))).setCell (p:=⟨B0,0,none⟩) oB.out.1 _).setCell (p:=⟨B0,1,none⟩) oB.out.1 _⟩
theorem raround_walk5 (n z1 z2 : Int) (n1 : Bool) (a1 : Option Addr) (l1 c1 : Nat) (x1 : Int) (E : World → Value → Prop) (sE : Hid (∀ u u' v,E u v → Kept u u' → E u' v)) (w : World)
  (KW : Hid (∀ u,Kept w u → Calls Tryz.prog 96 #[.agg #[.bool n1,.slice a1 l1 c1,.int .i64 x1]] u fun e w' => ∃ v,e = .returned v ∧ E w' v ∧ Kept u w'))
  (KM : Hid (∀ u v1 v2,Kept w u → E u v1 → E u v2 → Calls Tryz.prog 94 #[v1,v2,.int .i64 n] u fun e w' => e = .returned (.agg #[.int .i64 z1,.int .i64 z2]) ∧ Kept u w')) :
  Calls Tryz.prog 41 #[.agg #[.bool n1,.slice a1 l1 c1,.int .i64 x1],.int .i64 n] w fun e w' => e = .returned (.agg #[.int .i64 z1,.int .i64 z2]) ∧ Kept w w':=by
 obtain ⟨X,hX⟩ : ∃ X,X = (w.alloc (.cells #[.bool n1,.slice a1 l1 c1,.int .i64 x1] 26)).alloc (.cells #[.int .i64 0,.int .i64 0] 23):=⟨_,rfl⟩
 have hK : Kept w X:=by rw [hX]; exact ((Kept.refl w).alloc _ _).alloc _ _
 have hXs : X.heap.size = w.heap.size + 2:=by rw [hX]; simp
 have hP0 : P3 X (w.heap.size) (.bool n1) (.slice a1 l1 c1) (.int .i64 x1):=by
  rw [hX]
  have:=((P3.new (w) (.bool n1) (.slice a1 l1 c1) (.int .i64 x1) 26).alloc #[.int .i64 0,.int .i64 0] 23)
  simpa using this
 have hP1 : P2 X (w.heap.size + 1) (.int .i64 0) (.int .i64 0):=by
  rw [hX]
  have:=(P2.new (w.alloc (.cells #[.bool n1,.slice a1 l1 c1,.int .i64 x1] 26)) (.int .i64 0) (.int .i64 0) 23)
  simpa using this
 obtain ⟨B0,hB0⟩ : ∃ B,B = w.heap.size:=⟨_,rfl⟩
 obtain ⟨B1,hB1⟩ : ∃ B,B = B0 + 1:=⟨_,rfl⟩
 rw [← hB0] at hP0
 rw [← hB0,← hB1] at hP1
 have oB : Hid (w.heap.size ≤ B0 ∧ B0 < X.heap.size ∧ w.heap.size ≤ B1 ∧ B1 < X.heap.size):=(show _ ∧ _ ∧ _ ∧ _ from by omega)
 have oX : Hid (w.heap.size ≤ X.heap.size):=hK.below.size
 have HS : Hid (∀ u,Kept X u → Kept X u ∧ u.cell? ⟨B0,0,none⟩ = some (.bool n1) ∧ u.cell? ⟨B0,1,none⟩ = some (.slice a1 l1 c1) ∧ u.cell? ⟨B0,2,none⟩ = some (.int .i64 x1)):=fun u k => ⟨k,(hP0.kept k).c0,(hP0.kept k).c1,(hP0.kept k).c2⟩
 go_enter Tryz.func41,Tryz.ntmps41
 go_upto_region 1 with fail
 rw [← hX,← hB0,← hB1]
 clear hX hXs hB0 hB1
 refine wp_region_late [6] (fun u => Kept X u ∧ u.cell? ⟨B0,0,none⟩ = some (.bool n1) ∧ u.cell? ⟨B0,1,none⟩ = some (.slice a1 l1 c1) ∧ u.cell? ⟨B0,2,none⟩ = some (.int .i64 x1)) (by kernel_rfl) (HS.out _ (Kept.refl X).drew) (fun hHeld => ?_)
 refine tkD (i:=0) (v:=?_) rfl hHeld ?_
 (try simp only [Act.put,zA,zB,zC,zD,zE,zF])
 refine tkD (i:=2) (v:=?_) rfl hHeld ?_
 (try simp only [Act.put,zA,zB,zC,zD,zE,zF])
 refine tkD (i:=4) (v:=?_) rfl hHeld ?_
 (try simp only [Act.put,zA,zB,zC,zD,zE,zF])
 refine wpAnyD_step (i:=1) (by kernel_rfl) rfl (fun K hK9 => ?_)
 go_simp
 go_wp2_with fail
 refine (KW.out _ (hK.trans hHeld.1)).mono ?_
 rintro e u1 ⟨v1,rfl,g1,k1⟩
 refine hK9.out _ _ (HS.out _ (hHeld.1.trans k1)) (fun hH1 => ?_)
 clear hK9 K
 (try simp only [Act.put,zA,zB,zC,zD,zE,zF])
 refine wpAnyD_step (i:=3) (by kernel_rfl) rfl (fun K hK9 => ?_)
 go_simp
 go_wp2_with fail
 refine (KW.out _ (hK.trans hH1.1)).mono ?_
 rintro e u2 ⟨v2,rfl,g2,k2⟩
 refine hK9.out _ _ (HS.out _ (hH1.1.trans k2)) (fun hH2 => ?_)
 clear hK9 K
 (try simp only [Act.put,zA,zB,zC,zD,zE,zF])
 refine wpAnyD_step (i:=5) (by kernel_rfl) rfl (fun K hK9 => ?_)
 go_simp
 go_wp2_with fail
 refine (KM.out _ _ _ (hK.trans hH2.1) (sE.out _ _ _ g1 k2) g2).mono ?_
 rintro e u3 ⟨rfl,k3⟩
 refine hK9.out _ _ (HS.out _ (hH2.1.trans k3)) (fun hH3 => ?_)
 clear hK9 K
 (try simp only [Act.put,zA,zB,zC,zD,zE,zF])
 obtain ⟨p0,p1,pf⟩:=hP1.kept hH3.1
 refine wpAnyD_late (i:=6) (by kernel_rfl) rfl rfl (fun K hK9 => ?_)
 go_simp
 refine hK9.out _ _ ?_
 clear hK9 K
 (try simp only [Act.put,zA,zB,zC,zD,zE,zF])
 refine wpAnyD_done (by kernel_rfl) ?_ _
 (try simp only [Act.put,zA,zB,zC,zD,zE,zF])
 go_wp2_with fail
 exact bodyPost_ret (v:=.agg #[.int .i64 z1,.int .i64 z2]) (by simp [results,Tryz.results41,go_sem,p0,p1]) rfl ⟨rfl,((hK.trans hH3.1).setCell (p:=⟨B1,0,none⟩) oB.out.2.2.1 _).setCell (p:=⟨B1,1,none⟩) oB.out.2.2.1 _⟩
theorem rsingle_walk5 (lo hi n g : Int) (E : Int → World → Value → Prop) (sE : Hid (∀ b u u' v,E b u v → Kept u u' → E b u' v)) (w : World)
  (KO : Hid (∀ u b,(b = lo ∨ b = hi) → Kept w u → Calls Tryz.prog 88 #[.int .i64 b,.int .i64 n] u fun e w' => ∃ v,e = .returned v ∧ E b w' v ∧ Kept u w'))
  (KR : Hid (∀ u v1 v2,Kept w u → E lo u v1 → E hi u v2 → Calls Tryz.prog 89 #[v1,v2] u fun e w' => e = .returned (.int .i64 g) ∧ Kept u w')) :
  Calls Tryz.prog 45 #[.agg #[.int .i64 lo,.int .i64 hi],.int .i64 n] w fun e w' => e = .returned (.bool (g == 0)) ∧ Kept w w':=by
 obtain ⟨X,hX⟩ : ∃ X,X = w.alloc (.cells #[.int .i64 lo,.int .i64 hi] 23):=⟨_,rfl⟩
 have hK : Kept w X:=by rw [hX]; exact (Kept.refl w).alloc _ _
 have hXs : X.heap.size = w.heap.size + 1:=by rw [hX]; simp
 have hP0 : P2 X (w.heap.size) (.int .i64 lo) (.int .i64 hi):=by
  rw [hX]
  have:=(P2.new (w) (.int .i64 lo) (.int .i64 hi) 23)
  simpa using this
 obtain ⟨B0,hB0⟩ : ∃ B,B = w.heap.size:=⟨_,rfl⟩
 rw [← hB0] at hP0
 have oB : Hid (w.heap.size ≤ B0 ∧ B0 < X.heap.size):=(show _ ∧ _ from by omega)
 have oX : Hid (w.heap.size ≤ X.heap.size):=hK.below.size
 have HS : Hid (∀ u,Kept X u → Kept X u ∧ u.cell? ⟨B0,0,none⟩ = some (.int .i64 lo) ∧ u.cell? ⟨B0,1,none⟩ = some (.int .i64 hi)):=fun u k => ⟨k,(hP0.kept k).c0,(hP0.kept k).c1⟩
 go_enter Tryz.func45,Tryz.ntmps45
 go_upto_region 1 with fail
 rw [← hX,← hB0]
 clear hX hXs hB0
 refine wp_region_late [] (fun u => Kept X u ∧ u.cell? ⟨B0,0,none⟩ = some (.int .i64 lo) ∧ u.cell? ⟨B0,1,none⟩ = some (.int .i64 hi)) (by kernel_rfl) (HS.out _ (Kept.refl X).drew) (fun hHeld => ?_)
 refine tkD (i:=0) (v:=?_) rfl hHeld ?_
 (try simp only [Act.put,zA,zB,zC,zD,zE,zF])
 refine tkD (i:=1) (v:=?_) rfl hHeld ?_
 (try simp only [Act.put,zA,zB,zC,zD,zE,zF])
 refine tkD (i:=2) (v:=?_) rfl hHeld ?_
 (try simp only [Act.put,zA,zB,zC,zD,zE,zF])
 refine tkD (i:=4) (v:=?_) rfl hHeld ?_
 (try simp only [Act.put,zA,zB,zC,zD,zE,zF])
 refine tkD (i:=5) (v:=?_) rfl hHeld ?_
 (try simp only [Act.put,zA,zB,zC,zD,zE,zF])
 refine tkD (i:=6) (v:=?_) rfl hHeld ?_
 (try simp only [Act.put,zA,zB,zC,zD,zE,zF])
 refine wpAnyD_step (i:=3) (by kernel_rfl) rfl (fun K hK9 => ?_)
 go_simp
 go_wp2_with fail
 refine (KO.out _ _ (.inl rfl) (hK.trans hHeld.1)).mono ?_
 rintro e u1 ⟨v1,rfl,g1,k1⟩
 refine hK9.out _ _ (HS.out _ (hHeld.1.trans k1)) (fun hH1 => ?_)
 clear hK9 K
 (try simp only [Act.put,zA,zB,zC,zD,zE,zF])
 refine wpAnyD_step (i:=7) (by kernel_rfl) rfl (fun K hK9 => ?_)
 go_simp
 go_wp2_with fail
 refine (KO.out _ _ (.inr rfl) (hK.trans hH1.1)).mono ?_
 rintro e u2 ⟨v2,rfl,g2,k2⟩
 refine hK9.out _ _ (HS.out _ (hH1.1.trans k2)) (fun hH2 => ?_)
 clear hK9 K
 (try simp only [Act.put,zA,zB,zC,zD,zE,zF])
 refine wpAnyD_step (i:=8) (by kernel_rfl) rfl (fun K hK9 => ?_)
 go_simp
 go_wp2_with fail
 refine (KR.out _ _ _ (hK.trans hH2.1) (sE.out _ _ _ _ g1 k2) g2).mono ?_
 rintro e u3 ⟨rfl,k3⟩
 refine hK9.out _ _ (HS.out _ (hH2.1.trans k3)) (fun hH3 => ?_)
 clear hK9 K
 (try simp only [Act.put,zA,zB,zC,zD,zE,zF])
 refine tkD (i:=9) (v:=?_) rfl hH3 ?_
 (try simp only [Act.put,zA,zB,zC,zD,zE,zF])
 refine tkD (i:=10) (v:=?_) rfl hH3 ?_
 (try simp only [Act.put,zA,zB,zC,zD,zE,zF])
 refine wpAnyD_done (by kernel_rfl) ?_ _
 (try simp only [Act.put,zA,zB,zC,zD,zE,zF])
 go_wp2_with fail
 go_ret
 exact ⟨rfl,hK.trans hH3.1⟩
end Go.Proofs.YtdhimkpfnhoagaaGreatDoor
