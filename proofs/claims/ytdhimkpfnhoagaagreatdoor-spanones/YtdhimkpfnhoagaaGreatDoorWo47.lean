/- The document's intervals: Valid,Has: the walks. Package span: the other sign; Neg. -/
import Derived.Test.YtdhimkpfnhoagaaGreatDoorWo46
import Derived.Test.YtdhimkpfnhoagaaGreatDoorWo37
namespace Go.Proofs.YtdhimkpfnhoagaaGreatDoor
open Go.ChangeShapes Go.WideShapes Go.ChangeAt Go.RowKit
set_option linter.unusedVariables false
set_option linter.unusedSimpArgs false
set_option maxHeartbeats 16000000
set_option maxRecDepth 100000
theorem rhas_walk5_true (lo hi n g1 g2 : Int) (n1 : Bool) (a1 : Option Addr) (l1 c1 : Nat) (x1 : Int) (hg : decide (g1 ≤ 0) = true) (E : Int → World → Value → Prop) (sE : Hid (∀ b u u' v,E b u v → Kept u u' → E b u' v)) (W : World → Value → Prop) (sW : Hid (∀ u u' v,W u v → Kept u u' → W u' v)) (w : World)
  (KO : Hid (∀ u b,(b = lo ∨ b = hi) → Kept w u → Calls Tryz.prog 88 #[.int .i64 b,.int .i64 n] u fun e w' => ∃ v,e = .returned v ∧ E b w' v ∧ Kept u w'))
  (KW : Hid (∀ u,Kept w u → Calls Tryz.prog 96 #[.agg #[.bool n1,.slice a1 l1 c1,.int .i64 x1]] u fun e w' => ∃ v,e = .returned v ∧ W w' v ∧ Kept u w'))
  (K1 : Hid (∀ u v1 v2,Kept w u → E lo u v1 → W u v2 → Calls Tryz.prog 89 #[v1,v2] u fun e w' => e = .returned (.int .i64 g1) ∧ Kept u w'))
  (K2 : Hid (∀ u v1 v2,Kept w u → W u v1 → E hi u v2 → Calls Tryz.prog 89 #[v1,v2] u fun e w' => e = .returned (.int .i64 g2) ∧ Kept u w')) :
  Calls Tryz.prog 43 #[.agg #[.int .i64 lo,.int .i64 hi],.agg #[.bool n1,.slice a1 l1 c1,.int .i64 x1],.int .i64 n] w fun e w' => e = .returned (.bool (decide (g2 ≤ 0))) ∧ Kept w w':=by
 obtain ⟨X,hX⟩ : ∃ X,X = (w.alloc (.cells #[.int .i64 lo,.int .i64 hi] 23)).alloc (.cells #[.bool n1,.slice a1 l1 c1,.int .i64 x1] 26):=⟨_,rfl⟩
 have hK : Kept w X:=by rw [hX]; exact ((Kept.refl w).alloc _ _).alloc _ _
 have hXs : X.heap.size = w.heap.size + 2:=by rw [hX]; simp
 have hP0 : P2 X (w.heap.size) (.int .i64 lo) (.int .i64 hi):=by
  rw [hX]
  have:=((P2.new (w) (.int .i64 lo) (.int .i64 hi) 23).alloc #[.bool n1,.slice a1 l1 c1,.int .i64 x1] 26)
  simpa using this
 have hP1 : P3 X (w.heap.size + 1) (.bool n1) (.slice a1 l1 c1) (.int .i64 x1):=by
  rw [hX]
  have:=(P3.new (w.alloc (.cells #[.int .i64 lo,.int .i64 hi] 23)) (.bool n1) (.slice a1 l1 c1) (.int .i64 x1) 26)
  simpa using this
 obtain ⟨B0,hB0⟩ : ∃ B,B = w.heap.size:=⟨_,rfl⟩
 obtain ⟨B1,hB1⟩ : ∃ B,B = B0 + 1:=⟨_,rfl⟩
 rw [← hB0] at hP0
 rw [← hB0,← hB1] at hP1
 have oB : Hid (w.heap.size ≤ B0 ∧ B0 < X.heap.size ∧ w.heap.size ≤ B1 ∧ B1 < X.heap.size):=(show _ ∧ _ ∧ _ ∧ _ from by omega)
 have oX : Hid (w.heap.size ≤ X.heap.size):=hK.below.size
 have HS : Hid (∀ u,Kept X u → Kept X u ∧ u.cell? ⟨B0,0,none⟩ = some (.int .i64 lo) ∧ u.cell? ⟨B0,1,none⟩ = some (.int .i64 hi) ∧ u.cell? ⟨B1,0,none⟩ = some (.bool n1) ∧ u.cell? ⟨B1,1,none⟩ = some (.slice a1 l1 c1) ∧ u.cell? ⟨B1,2,none⟩ = some (.int .i64 x1)):=fun u k => ⟨k,(hP0.kept k).c0,(hP0.kept k).c1,(hP1.kept k).c0,(hP1.kept k).c1,(hP1.kept k).c2⟩
 go_enter Tryz.func43,Tryz.ntmps43
 go_upto_region 1 with fail
 rw [← hX,← hB0,← hB1]
 clear hX hXs hB0 hB1
 refine wp_region_late [] (fun u => Kept X u ∧ u.cell? ⟨B0,0,none⟩ = some (.int .i64 lo) ∧ u.cell? ⟨B0,1,none⟩ = some (.int .i64 hi) ∧ u.cell? ⟨B1,0,none⟩ = some (.bool n1) ∧ u.cell? ⟨B1,1,none⟩ = some (.slice a1 l1 c1) ∧ u.cell? ⟨B1,2,none⟩ = some (.int .i64 x1)) (by kernel_rfl) (HS.out _ (Kept.refl X).drew) (fun hHeld => ?_)
 refine tkD (i:=0) (v:=?_) rfl hHeld ?_
 (try simp only [Act.put,zA,zB,zC,zD,zE,zF])
 refine tkD (i:=1) (v:=?_) rfl hHeld ?_
 (try simp only [Act.put,zA,zB,zC,zD,zE,zF])
 refine tkD (i:=2) (v:=?_) rfl hHeld ?_
 (try simp only [Act.put,zA,zB,zC,zD,zE,zF])
 refine tkD (i:=4) (v:=?_) rfl hHeld ?_
 (try simp only [Act.put,zA,zB,zC,zD,zE,zF])
 refine wpAnyD_step (i:=3) (by kernel_rfl) rfl (fun K hK9 => ?_)
 go_simp
 go_wp2_with fail
 refine (KO.out _ _ (.inl rfl) (hK.trans hHeld.1)).mono ?_
 rintro e u1 ⟨v1,rfl,q1,k1⟩
 refine hK9.out _ _ (HS.out _ (hHeld.1.trans k1)) (fun hH1 => ?_)
 clear hK9 K
 (try simp only [Act.put,zA,zB,zC,zD,zE,zF])
 refine wpAnyD_step (i:=5) (by kernel_rfl) rfl (fun K hK9 => ?_)
 go_simp
 go_wp2_with fail
 refine (KW.out _ (hK.trans hH1.1)).mono ?_
 rintro e u2 ⟨v2,rfl,q2,k2⟩
 refine hK9.out _ _ (HS.out _ (hH1.1.trans k2)) (fun hH2 => ?_)
 clear hK9 K
 (try simp only [Act.put,zA,zB,zC,zD,zE,zF])
 refine wpAnyD_step (i:=6) (by kernel_rfl) rfl (fun K hK9 => ?_)
 go_simp
 go_wp2_with fail
 refine (K1.out _ _ _ (hK.trans hH2.1) (sE.out _ _ _ _ q1 k2) q2).mono ?_
 rintro e u3 ⟨rfl,k3⟩
 refine hK9.out _ _ (HS.out _ (hH2.1.trans k3)) (fun hH3 => ?_)
 clear hK9 K
 (try simp only [Act.put,zA,zB,zC,zD,zE,zF])
 refine tkD (i:=7) (v:=?_) rfl hH3 ?_
 (try simp only [Act.put,zA,zB,zC,zD,zE,zF])
 refine tkD (i:=8) (v:=?_) rfl hH3 ?_
 (try simp only [Act.put,zA,zB,zC,zD,zE,zF])
 (try simp only [hg])
 refine tkD (i:=9) (v:=?_) rfl hH3 ?_
 (try simp only [Act.put,zA,zB,zC,zD,zE,zF])
 refine tkD (i:=11) (v:=?_) rfl hH3 ?_
 (try simp only [Act.put,zA,zB,zC,zD,zE,zF])
 refine tkD (i:=12) (v:=?_) rfl hH3 ?_
 (try simp only [Act.put,zA,zB,zC,zD,zE,zF])
 refine tkD (i:=13) (v:=?_) rfl hH3 ?_
 (try simp only [Act.put,zA,zB,zC,zD,zE,zF])
 refine wpAnyD_step (i:=10) (by kernel_rfl) rfl (fun K hK9 => ?_)
 go_simp
 go_wp2_with fail
 refine (KW.out _ (hK.trans hH3.1)).mono ?_
 rintro e u4 ⟨v4,rfl,q4,k4⟩
 refine hK9.out _ _ (HS.out _ (hH3.1.trans k4)) (fun hH4 => ?_)
 clear hK9 K
 (try simp only [Act.put,zA,zB,zC,zD,zE,zF])
 refine wpAnyD_step (i:=14) (by kernel_rfl) rfl (fun K hK9 => ?_)
 go_simp
 go_wp2_with fail
 refine (KO.out _ _ (.inr rfl) (hK.trans hH4.1)).mono ?_
 rintro e u5 ⟨v5,rfl,q5,k5⟩
 refine hK9.out _ _ (HS.out _ (hH4.1.trans k5)) (fun hH5 => ?_)
 clear hK9 K
 (try simp only [Act.put,zA,zB,zC,zD,zE,zF])
 refine wpAnyD_step (i:=15) (by kernel_rfl) rfl (fun K hK9 => ?_)
 go_simp
 go_wp2_with fail
 refine (K2.out _ _ _ (hK.trans hH5.1) (sW.out _ _ _ q4 k5) q5).mono ?_
 rintro e u6 ⟨rfl,k6⟩
 refine hK9.out _ _ (HS.out _ (hH5.1.trans k6)) (fun hH6 => ?_)
 clear hK9 K
 (try simp only [Act.put,zA,zB,zC,zD,zE,zF])
 refine tkD (i:=16) (v:=?_) rfl hH6 ?_
 (try simp only [Act.put,zA,zB,zC,zD,zE,zF])
 refine tkD (i:=17) (v:=?_) rfl hH6 ?_
 (try simp only [Act.put,zA,zB,zC,zD,zE,zF])
 refine tkD (i:=18) (v:=?_) rfl hH6 ?_
 (try simp only [Act.put,zA,zB,zC,zD,zE,zF])
 refine wpAnyD_done (by kernel_rfl) ?_ _
 (try simp only [Act.put,zA,zB,zC,zD,zE,zF])
 go_wp2_with fail
 go_ret
 exact ⟨rfl,hK.trans hH6.1⟩
theorem rhas_walk5_false (lo hi n g1 g2 : Int) (n1 : Bool) (a1 : Option Addr) (l1 c1 : Nat) (x1 : Int) (hg : decide (g1 ≤ 0) = false) (E : Int → World → Value → Prop) (sE : Hid (∀ b u u' v,E b u v → Kept u u' → E b u' v)) (W : World → Value → Prop) (sW : Hid (∀ u u' v,W u v → Kept u u' → W u' v)) (w : World)
  (KO : Hid (∀ u b,(b = lo ∨ b = hi) → Kept w u → Calls Tryz.prog 88 #[.int .i64 b,.int .i64 n] u fun e w' => ∃ v,e = .returned v ∧ E b w' v ∧ Kept u w'))
  (KW : Hid (∀ u,Kept w u → Calls Tryz.prog 96 #[.agg #[.bool n1,.slice a1 l1 c1,.int .i64 x1]] u fun e w' => ∃ v,e = .returned v ∧ W w' v ∧ Kept u w'))
  (K1 : Hid (∀ u v1 v2,Kept w u → E lo u v1 → W u v2 → Calls Tryz.prog 89 #[v1,v2] u fun e w' => e = .returned (.int .i64 g1) ∧ Kept u w'))
  (K2 : Hid (∀ u v1 v2,Kept w u → W u v1 → E hi u v2 → Calls Tryz.prog 89 #[v1,v2] u fun e w' => e = .returned (.int .i64 g2) ∧ Kept u w')) :
  Calls Tryz.prog 43 #[.agg #[.int .i64 lo,.int .i64 hi],.agg #[.bool n1,.slice a1 l1 c1,.int .i64 x1],.int .i64 n] w fun e w' => e = .returned (.bool false) ∧ Kept w w':=by
 obtain ⟨X,hX⟩ : ∃ X,X = (w.alloc (.cells #[.int .i64 lo,.int .i64 hi] 23)).alloc (.cells #[.bool n1,.slice a1 l1 c1,.int .i64 x1] 26):=⟨_,rfl⟩
 have hK : Kept w X:=by rw [hX]; exact ((Kept.refl w).alloc _ _).alloc _ _
 have hXs : X.heap.size = w.heap.size + 2:=by rw [hX]; simp
 have hP0 : P2 X (w.heap.size) (.int .i64 lo) (.int .i64 hi):=by
  rw [hX]
  have:=((P2.new (w) (.int .i64 lo) (.int .i64 hi) 23).alloc #[.bool n1,.slice a1 l1 c1,.int .i64 x1] 26)
  simpa using this
 have hP1 : P3 X (w.heap.size + 1) (.bool n1) (.slice a1 l1 c1) (.int .i64 x1):=by
  rw [hX]
  have:=(P3.new (w.alloc (.cells #[.int .i64 lo,.int .i64 hi] 23)) (.bool n1) (.slice a1 l1 c1) (.int .i64 x1) 26)
  simpa using this
 obtain ⟨B0,hB0⟩ : ∃ B,B = w.heap.size:=⟨_,rfl⟩
 obtain ⟨B1,hB1⟩ : ∃ B,B = B0 + 1:=⟨_,rfl⟩
 rw [← hB0] at hP0
 rw [← hB0,← hB1] at hP1
 have oB : Hid (w.heap.size ≤ B0 ∧ B0 < X.heap.size ∧ w.heap.size ≤ B1 ∧ B1 < X.heap.size):=(show _ ∧ _ ∧ _ ∧ _ from by omega)
 have oX : Hid (w.heap.size ≤ X.heap.size):=hK.below.size
 have HS : Hid (∀ u,Kept X u → Kept X u ∧ u.cell? ⟨B0,0,none⟩ = some (.int .i64 lo) ∧ u.cell? ⟨B0,1,none⟩ = some (.int .i64 hi) ∧ u.cell? ⟨B1,0,none⟩ = some (.bool n1) ∧ u.cell? ⟨B1,1,none⟩ = some (.slice a1 l1 c1) ∧ u.cell? ⟨B1,2,none⟩ = some (.int .i64 x1)):=fun u k => ⟨k,(hP0.kept k).c0,(hP0.kept k).c1,(hP1.kept k).c0,(hP1.kept k).c1,(hP1.kept k).c2⟩
 go_enter Tryz.func43,Tryz.ntmps43
 go_upto_region 1 with fail
 rw [← hX,← hB0,← hB1]
 clear hX hXs hB0 hB1
 refine wp_region_late [] (fun u => Kept X u ∧ u.cell? ⟨B0,0,none⟩ = some (.int .i64 lo) ∧ u.cell? ⟨B0,1,none⟩ = some (.int .i64 hi) ∧ u.cell? ⟨B1,0,none⟩ = some (.bool n1) ∧ u.cell? ⟨B1,1,none⟩ = some (.slice a1 l1 c1) ∧ u.cell? ⟨B1,2,none⟩ = some (.int .i64 x1)) (by kernel_rfl) (HS.out _ (Kept.refl X).drew) (fun hHeld => ?_)
 refine tkD (i:=0) (v:=?_) rfl hHeld ?_
 (try simp only [Act.put,zA,zB,zC,zD,zE,zF])
 refine tkD (i:=1) (v:=?_) rfl hHeld ?_
 (try simp only [Act.put,zA,zB,zC,zD,zE,zF])
 refine tkD (i:=2) (v:=?_) rfl hHeld ?_
 (try simp only [Act.put,zA,zB,zC,zD,zE,zF])
 refine tkD (i:=4) (v:=?_) rfl hHeld ?_
 (try simp only [Act.put,zA,zB,zC,zD,zE,zF])
 refine wpAnyD_step (i:=3) (by kernel_rfl) rfl (fun K hK9 => ?_)
 go_simp
 go_wp2_with fail
 refine (KO.out _ _ (.inl rfl) (hK.trans hHeld.1)).mono ?_
 rintro e u1 ⟨v1,rfl,q1,k1⟩
 refine hK9.out _ _ (HS.out _ (hHeld.1.trans k1)) (fun hH1 => ?_)
 clear hK9 K
 (try simp only [Act.put,zA,zB,zC,zD,zE,zF])
 refine wpAnyD_step (i:=5) (by kernel_rfl) rfl (fun K hK9 => ?_)
 go_simp
 go_wp2_with fail
 refine (KW.out _ (hK.trans hH1.1)).mono ?_
 rintro e u2 ⟨v2,rfl,q2,k2⟩
 refine hK9.out _ _ (HS.out _ (hH1.1.trans k2)) (fun hH2 => ?_)
 clear hK9 K
 (try simp only [Act.put,zA,zB,zC,zD,zE,zF])
 refine wpAnyD_step (i:=6) (by kernel_rfl) rfl (fun K hK9 => ?_)
 go_simp
 go_wp2_with fail
 refine (K1.out _ _ _ (hK.trans hH2.1) (sE.out _ _ _ _ q1 k2) q2).mono ?_
 rintro e u3 ⟨rfl,k3⟩
 refine hK9.out _ _ (HS.out _ (hH2.1.trans k3)) (fun hH3 => ?_)
 clear hK9 K
 (try simp only [Act.put,zA,zB,zC,zD,zE,zF])
 refine tkD (i:=7) (v:=?_) rfl hH3 ?_
 (try simp only [Act.put,zA,zB,zC,zD,zE,zF])
 refine tkD (i:=8) (v:=?_) rfl hH3 ?_
 (try simp only [Act.put,zA,zB,zC,zD,zE,zF])
 (try simp only [hg])
 refine wpAnyD_take (i:=9) (v:=undef) rfl (by kernel_rfl) (by kernel_rfl) (by kernel_rfl) (by kernel_rfl) (fun _ _ _ h => h) (Or.inr ⟨by rfl,rfl⟩) hH3 ?_
 (try simp only [Act.put,zA,zB,zC,zD,zE,zF])
 refine wpAnyD_take (i:=10) (v:=undef) rfl (by kernel_rfl) (by kernel_rfl) (by kernel_rfl) (by kernel_rfl) (fun _ _ _ h => h) (Or.inr ⟨by rfl,rfl⟩) hH3 ?_
 (try simp only [Act.put,zA,zB,zC,zD,zE,zF])
 refine wpAnyD_take (i:=11) (v:=undef) rfl (by kernel_rfl) (by kernel_rfl) (by kernel_rfl) (by kernel_rfl) (fun _ _ _ h => h) (Or.inr ⟨by rfl,rfl⟩) hH3 ?_
 (try simp only [Act.put,zA,zB,zC,zD,zE,zF])
 refine wpAnyD_take (i:=12) (v:=undef) rfl (by kernel_rfl) (by kernel_rfl) (by kernel_rfl) (by kernel_rfl) (fun _ _ _ h => h) (Or.inr ⟨by rfl,rfl⟩) hH3 ?_
 (try simp only [Act.put,zA,zB,zC,zD,zE,zF])
 refine wpAnyD_take (i:=13) (v:=undef) rfl (by kernel_rfl) (by kernel_rfl) (by kernel_rfl) (by kernel_rfl) (fun _ _ _ h => h) (Or.inr ⟨by rfl,rfl⟩) hH3 ?_
 (try simp only [Act.put,zA,zB,zC,zD,zE,zF])
 refine wpAnyD_take (i:=14) (v:=undef) rfl (by kernel_rfl) (by kernel_rfl) (by kernel_rfl) (by kernel_rfl) (fun _ _ _ h => h) (Or.inr ⟨by rfl,rfl⟩) hH3 ?_
 (try simp only [Act.put,zA,zB,zC,zD,zE,zF])
 refine wpAnyD_take (i:=15) (v:=undef) rfl (by kernel_rfl) (by kernel_rfl) (by kernel_rfl) (by kernel_rfl) (fun _ _ _ h => h) (Or.inr ⟨by rfl,rfl⟩) hH3 ?_
 (try simp only [Act.put,zA,zB,zC,zD,zE,zF])
 refine wpAnyD_take (i:=16) (v:=undef) rfl (by kernel_rfl) (by kernel_rfl) (by kernel_rfl) (by kernel_rfl) (fun _ _ _ h => h) (Or.inr ⟨by rfl,rfl⟩) hH3 ?_
 (try simp only [Act.put,zA,zB,zC,zD,zE,zF])
 refine tkD (i:=17) (v:=?_) rfl hH3 ?_
 (try simp only [Act.put,zA,zB,zC,zD,zE,zF])
 refine tkD (i:=18) (v:=?_) rfl hH3 ?_
 (try simp only [Act.put,zA,zB,zC,zD,zE,zF])
 refine wpAnyD_done (by kernel_rfl) ?_ _
 (try simp only [Act.put,zA,zB,zC,zD,zE,zF])
 go_wp2_with fail
 go_ret
 exact ⟨rfl,hK.trans hH3.1⟩
theorem rvalid_no5 (lo hi n : Int) (q1 q2 m1 m2 : Bool) (hq : (!q1 || (!q2 || (m1 || m2))) = true) (w : World)
  (KV : Hid (∀ u b q,(b = lo ∧ q = q1 ∨ b = hi ∧ q = q2) → Calls Tryz.prog 86 #[.int .i64 b,.int .i64 n] u fun e w' => e = .returned (.bool q) ∧ Kept u w'))
  (KN : Hid (∀ u b q,(b = lo ∧ q = m1 ∨ b = hi ∧ q = m2) → Calls Tryz.prog 87 #[.int .i64 b,.int .i64 n] u fun e w' => e = .returned (.bool q) ∧ Kept u w')) :
  Calls Tryz.prog 30 #[.agg #[.int .i64 lo,.int .i64 hi],.int .i64 n] w fun e w' => e = .returned (.bool false) ∧ Kept w w':=by
 obtain ⟨X,hX⟩ : ∃ X,X = w.alloc (.cells #[.int .i64 lo,.int .i64 hi] 23):=⟨_,rfl⟩
 have hK : Kept w X:=by rw [hX]; exact (Kept.refl w).alloc _ _
 have hXs : X.heap.size = w.heap.size + 1:=by rw [hX]; simp
 have hP0 : P2 X (w.heap.size) (.int .i64 lo) (.int .i64 hi):=by
  rw [hX]
  have:=(P2.new (w) (.int .i64 lo) (.int .i64 hi) 23)
  simpa using this
 obtain ⟨B0,hB0⟩ : ∃ B,B = w.heap.size:=⟨_,rfl⟩
 rw [← hB0] at hP0
 have oB : Hid (w.heap.size ≤ B0 ∧ B0 < X.heap.size):=(show _ ∧ _ from by omega)
 have oX : Hid (w.heap.size ≤ X.heap.size):=hK.below.size
 go_enter Tryz.func30,Tryz.ntmps30
 go_upto_region 1 with fail
 rw [← hX,← hB0]
 clear hX hXs hB0
 obtain ⟨p0,p1,pf⟩:=hP0.kept (Kept.refl X)
 go_wp2_with fail
 refine (KV.out _ _ _ (.inl ⟨rfl,rfl⟩)).mono ?_
 rintro e w1 ⟨rfl,k1⟩
 have kk:=k1
 clear p0 p1 pf
 obtain ⟨p0,p1,pf⟩:=hP0.kept kk
 cases q1
 ·go_wp2_with fail
  go_ret
  exact ⟨rfl,hK.trans kk⟩
 ·skip
  go_wp2_with fail
  refine (KV.out _ _ _ (.inr ⟨rfl,rfl⟩)).mono ?_
  rintro e w2 ⟨rfl,k2⟩
  have kk:=kk.trans k2
  clear p0 p1 pf
  obtain ⟨p0,p1,pf⟩:=hP0.kept kk
  cases q2
  ·go_wp2_with fail
   go_ret
   exact ⟨rfl,hK.trans kk⟩
  ·skip
   go_wp2_with fail
   refine (KN.out _ _ _ (.inl ⟨rfl,rfl⟩)).mono ?_
   rintro e w3 ⟨rfl,k3⟩
   have kk:=kk.trans k3
   clear p0 p1 pf
   obtain ⟨p0,p1,pf⟩:=hP0.kept kk
   cases m1
   ·have hm : m2 = true:=by simpa using hq
    subst hm
    go_wp2_with fail
    refine (KN.out _ _ _ (.inr ⟨rfl,rfl⟩)).mono ?_
    rintro e w4 ⟨rfl,k4⟩
    go_wp2_with fail
    go_ret
    exact ⟨rfl,hK.trans (kk.trans k4)⟩
   ·go_wp2_with fail
    go_ret
    exact ⟨rfl,hK.trans kk⟩
theorem rvalid_yes5 (lo hi n i1 i2 g : Int) (t1 t2 t3 : Bool) (ht1 : (i1 != 1) = t1) (ht2 : (i2 != -1) = t2) (ht3 : decide (g ≤ 0) = t3) (q1 q2 m1 m2 : Bool) (hq1 : q1 = true) (hq2 : q2 = true) (hm1 : m1 = false) (hm2 : m2 = false) (E : Int → World → Value → Prop) (sE : Hid (∀ b u u' v,E b u v → Kept u u' → E b u' v)) (w : World)
  (KV : Hid (∀ u b q,(b = lo ∧ q = q1 ∨ b = hi ∧ q = q2) → Calls Tryz.prog 86 #[.int .i64 b,.int .i64 n] u fun e w' => e = .returned (.bool q) ∧ Kept u w'))
  (KN : Hid (∀ u b q,(b = lo ∧ q = m1 ∨ b = hi ∧ q = m2) → Calls Tryz.prog 87 #[.int .i64 b,.int .i64 n] u fun e w' => e = .returned (.bool q) ∧ Kept u w'))
  (KO : Hid (∀ u b i,(b = lo ∧ i = i1 ∨ b = hi ∧ i = i2) → Kept w u → Calls Tryz.prog 88 #[.int .i64 b,.int .i64 n] u fun e w' => ∃ (n1 : Bool) (a1 : Option Addr) (l1 c1 : Nat) (x1 : Int) (m1 : Bool) (b1 : Option Addr) (k1 d1 : Nat) (y1 : Int),e = .returned (env i n1 a1 l1 c1 x1 m1 b1 k1 d1 y1) ∧ E b w' (env i n1 a1 l1 c1 x1 m1 b1 k1 d1 y1) ∧ Kept u w'))
  (KR : Hid (∀ u v1 v2,Kept w u → E lo u v1 → E hi u v2 → Calls Tryz.prog 89 #[v1,v2] u fun e w' => e = .returned (.int .i64 g) ∧ Kept u w')) :
  Calls Tryz.prog 30 #[.agg #[.int .i64 lo,.int .i64 hi],.int .i64 n] w fun e w' => e = .returned (.bool (t1 && t2 && t3)) ∧ Kept w w':=by
 subst hq1 hq2 hm1 hm2
 obtain ⟨X,hX⟩ : ∃ X,X = w.alloc (.cells #[.int .i64 lo,.int .i64 hi] 23):=⟨_,rfl⟩
 have hK : Kept w X:=by rw [hX]; exact (Kept.refl w).alloc _ _
 have hXs : X.heap.size = w.heap.size + 1:=by rw [hX]; simp
 have hP0 : P2 X (w.heap.size) (.int .i64 lo) (.int .i64 hi):=by
  rw [hX]
  have:=(P2.new (w) (.int .i64 lo) (.int .i64 hi) 23)
  simpa using this
 obtain ⟨B0,hB0⟩ : ∃ B,B = w.heap.size:=⟨_,rfl⟩
 rw [← hB0] at hP0
 have oB : Hid (w.heap.size ≤ B0 ∧ B0 < X.heap.size):=(show _ ∧ _ from by omega)
 have oX : Hid (w.heap.size ≤ X.heap.size):=hK.below.size
 go_enter Tryz.func30,Tryz.ntmps30
 go_upto_region 1 with fail
 rw [← hX,← hB0]
 clear hX hXs hB0
 obtain ⟨p0,p1,pf⟩:=hP0.kept (Kept.refl X)
 go_wp2_with fail
 refine (KV.out _ _ _ (.inl ⟨rfl,rfl⟩)).mono ?_
 rintro e w1 ⟨rfl,k1⟩
 have kk:=k1
 clear p0 p1 pf
 obtain ⟨p0,p1,pf⟩:=hP0.kept kk
 go_wp2_with fail
 refine (KV.out _ _ _ (.inr ⟨rfl,rfl⟩)).mono ?_
 rintro e w2 ⟨rfl,k2⟩
 have kk:=kk.trans k2
 clear p0 p1 pf
 obtain ⟨p0,p1,pf⟩:=hP0.kept kk
 go_wp2_with fail
 refine (KN.out _ _ _ (.inl ⟨rfl,rfl⟩)).mono ?_
 rintro e w3 ⟨rfl,k3⟩
 have kk:=kk.trans k3
 clear p0 p1 pf
 obtain ⟨p0,p1,pf⟩:=hP0.kept kk
 go_wp2_with fail
 refine (KN.out _ _ _ (.inr ⟨rfl,rfl⟩)).mono ?_
 rintro e w4 ⟨rfl,k4⟩
 have kk:=kk.trans k4
 clear p0 p1 pf
 obtain ⟨p0,p1,pf⟩:=hP0.kept kk
 go_upto_region 3 with fail
 go_wp2_with fail
 refine (KO.out _ _ _ (.inl ⟨rfl,rfl⟩) (hK.trans kk)).mono ?_
 rintro e w5 ⟨n1,a1,l1,c1,x1,m1,b1,k1n,d1,y1,rfl,g1,k5⟩
 go_upto_region 4 with fail
 have k5':=k5.alloc #[.int .i64 i1,.bool n1,.slice a1 l1 c1,.int .i64 x1,.bool m1,.slice b1 k1n d1,.int .i64 y1] 120
 have hL:=P7.new w5 (.int .i64 i1) (.bool n1) (.slice a1 l1 c1) (.int .i64 x1) (.bool m1) (.slice b1 k1n d1) (.int .i64 y1) 120
 obtain ⟨Y5,hY5⟩ : ∃ Y,Y = w5.alloc (.cells #[.int .i64 i1,.bool n1,.slice a1 l1 c1,.int .i64 x1,.bool m1,.slice b1 k1n d1,.int .i64 y1] 120):=⟨_,rfl⟩
 obtain ⟨B5,hB5⟩ : ∃ B,B = w5.heap.size:=⟨_,rfl⟩
 rw [← hY5] at k5' hL
 rw [← hB5] at hL
 rw [← hY5,← hB5]
 have g1:=sE.out _ _ _ _ g1 (show Kept w5 Y5 by rw [hY5]; exact (Kept.refl w5).alloc _ _)
 have kk:=kk.trans k5'
 clear hY5 hB5 k5 k5' p0 p1 pf
 obtain ⟨p0,p1,pf⟩:=hP0.kept kk
 go_wp2_with fail
 refine (KO.out _ _ _ (.inr ⟨rfl,rfl⟩) (hK.trans kk)).mono ?_
 rintro e w6 ⟨n2,a2,l2,c2,x2,m2,b2,k2n,d2,y2,rfl,g2,k6⟩
 go_upto_region 5 with fail
 have k6':=k6.alloc #[.int .i64 i2,.bool n2,.slice a2 l2 c2,.int .i64 x2,.bool m2,.slice b2 k2n d2,.int .i64 y2] 120
 have hH:=P7.new w6 (.int .i64 i2) (.bool n2) (.slice a2 l2 c2) (.int .i64 x2) (.bool m2) (.slice b2 k2n d2) (.int .i64 y2) 120
 obtain ⟨Y6,hY6⟩ : ∃ Y,Y = w6.alloc (.cells #[.int .i64 i2,.bool n2,.slice a2 l2 c2,.int .i64 x2,.bool m2,.slice b2 k2n d2,.int .i64 y2] 120):=⟨_,rfl⟩
 obtain ⟨B6,hB6⟩ : ∃ B,B = w6.heap.size:=⟨_,rfl⟩
 rw [← hY6] at k6' hH
 rw [← hB6] at hH
 rw [← hY6,← hB6]
 have g2:=sE.out _ _ _ _ g2 (show Kept w6 Y6 by rw [hY6]; exact (Kept.refl w6).alloc _ _)
 have g1:=sE.out _ _ _ _ g1 k6'
 have hL:=hL.kept k6'
 have kk:=kk.trans k6'
 clear hY6 hB6 k6 k6' p0 p1 pf
 obtain ⟨e0,e1,e2,e3,e4,e5,e6,ef⟩:=hL
 obtain ⟨f0,f1,f2,f3,f4,f5,f6,ff⟩:=hH
 cases t1
 ·go_wp2_with fail
  go_ret
  exact ⟨rfl,hK.trans kk⟩
 ·cases t2
  ·go_wp2_with fail
   go_ret
   exact ⟨rfl,hK.trans kk⟩
  ·go_wp2_with fail
   refine (KR.out _ _ _ (hK.trans kk) g1 g2).mono ?_
   rintro e w7 ⟨rfl,k7⟩
   go_wp2_with fail
   go_ret
   exact ⟨by simp [ht3],hK.trans (kk.trans k7)⟩
end Go.Proofs.YtdhimkpfnhoagaaGreatDoor
namespace Go.Proofs.YtdhimkpfnhoagaaGreatDoor
open Go.ChangeShapes Go.WideShapes Go.ChangeAt Go.RowKit Ieee
set_option linter.unusedVariables false
set_option linter.unusedSimpArgs false
set_option maxHeartbeats 16000000
set_option maxRecDepth 100000
theorem sturned_any (x y : Nat) (w : World) : Calls Tryz.prog 70 #[fv2 x y] w fun e w' => e = .returned (fv2 (Op.negFloat .f64 y) (Op.negFloat .f64 x)) ∧ Kept w w':=by
 have hSF:=sto_f
 have hun : ∀ (b : Nat) (wx : World),(Op.unary .neg (.float .f64 b)).run Tryz.prog wx = .ok (.float .f64 (Op.negFloat .f64 b)) wx:=fun _ _ => rfl
 go_enter Tryz.func70,Tryz.ntmps70
 go_wp2_with fail
 refine bodyPost_ret (v:=fv2 (Op.negFloat .f64 y) (Op.negFloat .f64 x)) (by simp [results,Tryz.results70,go_sem]) rfl ⟨rfl,?_⟩
 (repeat' first | exact Kept.refl _ | refine Kept.setCell ?_ ?_ _ | refine Kept.alloc ?_ _ _ | (simp; done) | (simp <;> omega))
theorem neg_walk5 (a1 b1 n : Int) (x1 y1 x3 y3 : Nat) (q p1 p2 : Int) (w : World)
  (KO : Hid (∀ u,Calls Tryz.prog 73 #[sp2 a1 b1,.int .i64 n] u fun e w' => e = .returned (.tuple #[fv2 x1 y1,.int .i64 q]) ∧ Kept u w'))
  (KN : Hid (∀ u,Calls Tryz.prog 70 #[fv2 x1 y1] u fun e w' => e = .returned (fv2 x3 y3) ∧ Kept u w'))
  (KT : Hid (∀ u,Calls Tryz.prog 68 #[fv2 x3 y3,.int .i64 n,.int .i64 q] u fun e w' => e = .returned (.tuple #[sp2 p1 p2,.int .i64 q]) ∧ Kept u w')) :
  Calls Tryz.prog 20 #[sp2 a1 b1,.int .i64 n] w fun e w' => e = .returned (.tuple #[sp2 p1 p2,.int .i64 q]) ∧ Kept w w':=by
 have hSF:=sto_f
 obtain ⟨X,hX⟩ : ∃ X,X = (w.alloc (.cells #[.int .i64 a1,.int .i64 b1] 23)).alloc (.cells #[.int .i64 0,.int .i64 0] 23):=⟨_,rfl⟩
 have hK : Kept w X:=by
  rw [hX]
  exact ((Kept.refl w).alloc _ _).alloc _ _
 have hN : P2 X w.heap.size (.int .i64 a1) (.int .i64 b1):=by
  rw [hX]
  exact (P2.new w _ _ _).alloc _ _
 have hR : P2 X (w.heap.size + 1) (.int .i64 0) (.int .i64 0):=by
  rw [hX]
  have:=P2.new (w.alloc (.cells #[.int .i64 a1,.int .i64 b1] 23)) (.int .i64 0) (.int .i64 0) 23
  simpa using this
 obtain ⟨H0,hH0⟩ : ∃ H,H = w.heap.size:=⟨_,rfl⟩
 obtain ⟨H1,hH1⟩ : ∃ H,H = H0 + 1:=⟨_,rfl⟩
 rw [← hH0] at hN hR
 rw [← hH1] at hR
 have o1' : w.heap.size ≤ H1:=by omega
 go_enter Tryz.func20,Tryz.ntmps20
 go_upto_region 1 with fail
 rw [← hX,← hH0,← hH1]
 clear hX hH0 hH1
 obtain ⟨c0,c1,cf⟩:=hN
 go_upto_region 2 with (first | (go_at_call 73; refine (KO.out _).mono ?_; rintro e w1 ⟨rfl,k1⟩))
 clear c0 c1 cf
 have hI:=P2.new w1 (.float .f64 x1) (.float .f64 y1) 87
 have j1:=k1.alloc #[.float .f64 x1,.float .f64 y1] 87
 obtain ⟨Y,hY⟩ : ∃ Y,Y = w1.alloc (.cells #[.float .f64 x1,.float .f64 y1] 87):=⟨_,rfl⟩
 rw [← hY] at hI j1
 rw [← hY]
 clear hY
 obtain ⟨b0,b1',bf⟩:=hI
 go_wp2_with (first | (go_at_call 70; refine (KN.out _).mono ?_; rintro e wt ⟨rfl,kt⟩) | (go_at_call 68; refine (KT.out _).mono ?_; rintro e w2 ⟨rfl,k2⟩; have j2:=(j1.trans kt).trans k2; have hz:=(hR.kept j2).put (.int .i64 p1) (.int .i64 p2); obtain ⟨d0,d1,df⟩:=hR.kept j2; obtain ⟨e0,e1,ef⟩:=hz))
 exact bodyPost_ret (v:=.tuple #[sp2 p1 p2,.int .i64 q]) (by simp [results,Tryz.results20,go_sem,e0,e1]) rfl ⟨rfl,((hK.trans j2).setCell o1' _).setCell o1' _⟩
theorem opened_ok (a1 b1 n : Int) (s1 : RB a1) (s2 : RB b1) (hv : vsp a1 b1 n = true) : Fl n (flv a1 n) (keyOf a1 n) ∧ Fl n (flv b1 n) (keyOf b1 n) ∧ ∀ u,Calls Tryz.prog 73 #[sp2 a1 b1,.int .i64 n] u fun e w' => e = .returned (.tuple #[fv2 (flv a1 n) (flv b1 n),.int .i64 0]) ∧ Kept u w':=by
 obtain ⟨i1,i2,-⟩:=vsp_num _ _ _ hv
 refine ⟨Fl.flv i1 s1.1 s1.2,Fl.flv i2 s2.1 s2.2,fun u => ?_⟩
 have:=opened_any a1 b1 n s1 s2 u
 unfold opV opE at this
 rw [if_pos hv,if_pos (isnum_wid _ _ i1),if_pos hv] at this
 exact this
theorem neg5_ok (a1 b1 n : Int) (s1 : RB a1) (s2 : RB b1) (hv : vsp a1 b1 n = true) (w : World) : Calls Tryz.prog 20 #[sp2 a1 b1,.int .i64 n] w fun e w' => e = .returned (.tuple #[sp2 (pz n (-keyOf b1 n)) (pz n (-keyOf a1 n)),.int .i64 0]) ∧ Kept w w':=by
 obtain ⟨f1,f2,KO⟩:=opened_ok a1 b1 n s1 s2 hv
 exact neg_walk5 a1 b1 n _ _ _ _ 0 _ _ w KO (fun u => sturned_any _ _ u) (fun u => told_ok5 f2.neg f1.neg u)
end Go.Proofs.YtdhimkpfnhoagaaGreatDoor
