/- For AccAdds: the document's Times. For AccAdds: the document's Times with what is infinite,and with a number. -/
import Derived.Test.YtoflafgbbjinpaaGreatDoorX44
namespace Go.Proofs.YtoflafgbbjinpaaGreatDoor
open Go.ChangeShapes Go.WideShapes Go.ChangeAt Go.RowKit
set_option linter.unusedVariables false
set_option linter.unusedSimpArgs false
set_option maxHeartbeats 16000000
set_option maxRecDepth 100000
theorem rtimes_nan (n b : Int) (n1 : Bool) (a1 : Option Addr) (l1 c1 : Nat) (x1 : Int) (p m z : Bool) (s0 : Int) (w : World)
  (KC : Hid (∀ u,Calls Tryz.prog 91 #[.int .i64 b,.int .i64 n] u fun e w' => e = .returned (.int .i64 4) ∧ Kept u w'))
  (KS : Hid (∀ u,Calls Tryz.prog 96 #[.agg #[.bool n1,.slice a1 l1 c1,.int .i64 x1]] u fun e w' => e = .returned (.int .i64 s0) ∧ Kept u w')) :
  Calls Tryz.prog 45 #[accV n1 (.slice a1 l1 c1) x1 p m z,.int .i64 b,.int .i64 n] w fun e w' => e = .returned (accV false (.slice none 0 0) 0 false false true) ∧ Kept w w':=by
 obtain ⟨Y,hY⟩ : ∃ X,X = w.alloc (.cells #[.bool n1,.slice a1 l1 c1,.int .i64 x1,.bool p,.bool m,.bool z] 26):=⟨_,rfl⟩
 obtain ⟨X,hX⟩ : ∃ X,X = (w.alloc (.cells #[.bool n1,.slice a1 l1 c1,.int .i64 x1,.bool p,.bool m,.bool z] 26)).alloc (.cells #[.bool false,.slice none 0 0,.int .i64 0,.bool false,.bool false,.bool false] 26):=⟨_,rfl⟩
 have k0 : Kept w X:=by rw [hX]; exact ((Kept.refl w).alloc _ _).alloc _ _
 obtain ⟨B,hB⟩ : ∃ B,B = w.heap.size:=⟨_,rfl⟩
 obtain ⟨R,hR⟩ : ∃ B,B = w.heap.size + 1:=⟨_,rfl⟩
 have HXs : Hid (X.heap.size = w.heap.size + 2 ∧ B = w.heap.size ∧ R = w.heap.size + 1):=⟨by rw [hX]; simp,hB,hR⟩
 have VR : Hid (∀ u,Kept X u → VB u R (.bool false) (.slice none 0 0) (.int .i64 0) (.bool false) (.bool false) (.bool false)):=fun u k => by
  obtain ⟨r0,r1,r2,r3,r4,r5,r6⟩:=acc_res1 (w:=Y) 26 R (by rw [hY,hR]; simp) (by rw [hX,hY]; exact Kept.refl _) u k
  exact ⟨r0,r1,r2,r3,r4,r5,r6,by have:=k.below.size; have:=HXs.out; omega⟩
 have HA : Hid (∀ u,Kept X u → u.cell? ⟨B,0,none⟩ = some (.bool n1) ∧ u.cell? ⟨B,1,none⟩ = some (.slice a1 l1 c1) ∧ u.cell? ⟨B,2,none⟩ = some (.int .i64 x1) ∧ u.cell? ⟨B,3,none⟩ = some (.bool p) ∧ u.cell? ⟨B,4,none⟩ = some (.bool m) ∧ u.cell? ⟨B,5,none⟩ = some (.bool z)):=fun u k => acc_cells1 n1 (.slice a1 l1 c1) x1 p m z 26 B hB (X:=X) (by rw [hX]; exact (Kept.refl _).alloc _ _) u k
 have HD : Hid (∀ w2,Kept X w2 → ∃ D C,D = w2.alloc (.cells #[.bool n1,.slice a1 l1 c1,.int .i64 x1,.bool p,.bool m,.bool z] 26) ∧ C = w2.heap.size ∧ Kept X D ∧ (X.heap.size ≤ C ∧ C < D.heap.size) ∧ ∀ u,Kept D u → VB u C (.bool n1) (.slice a1 l1 c1) (.int .i64 x1) (.bool p) (.bool m) (.bool z)):=fun w2 k2 => ⟨_,_,rfl,rfl,k2.alloc _ _,⟨k2.below.size,by simp⟩,fun u k => by
  obtain ⟨r0,r1,r2,r3,r4,r5⟩:=acc_cells1 n1 (.slice a1 l1 c1) x1 p m z 26 w2.heap.size rfl (X:=w2.alloc (.cells #[.bool n1,.slice a1 l1 c1,.int .i64 x1,.bool p,.bool m,.bool z] 26)) (Kept.refl _) u k
  exact ⟨r0,r1,r2,r3,r4,r5,fun o => (k.frozen _).trans (by simp [go_sem]),Nat.lt_of_lt_of_le (by simp) k.below.size⟩⟩
 go_enter Tryz.func45,Tryz.ntmps45
 go_upto_region 1 with fail
 rw [← hX,← hR,← hB]
 clear hX hR hY hB
 go_wp2_with fail
 refine (KC.out _).mono ?_
 rintro e w1 ⟨rfl,k1⟩
 cases p
 all_goals
  obtain ⟨c0,c1',c2,c3,c4,c5⟩:=HA.out _ k1
  go_wp2_with fail
  refine (KS.out _).mono ?_
  rintro e w2 ⟨rfl,k2'⟩
  have k2 : Kept X w2:=k1.trans k2'
  clear c0 c1' c2 c3 c4 c5 k1 k2'
  obtain ⟨c0,c1',c2,c3,c4,c5⟩:=HA.out _ k2
  obtain ⟨D,C,hD,hC,kD,hCs',VC'⟩:=HD.out _ k2
  have hCs : Hid (X.heap.size ≤ C ∧ C < D.heap.size):=hCs'
  have VC : Hid (∀ u,Kept D u → _):=VC'
  go_upto_region 5 with fail
  rw [← hD,← hC]
  clear hD hC c0 c1' c2 c3 c4 c5 k2 HD VC' hCs'
  have nRC : R ≠ C:=by have:=HXs.out; have:=hCs.out; omega
  have nCR : C ≠ R:=Ne.symm nRC
  have hRs : w.heap.size ≤ R:=by have:=HXs.out; omega
  have hCw : w.heap.size ≤ C:=by have:=HXs.out; have:=hCs.out; omega
  obtain ⟨r0,r1,r2,r3,r4,r5,r6,r7⟩:=VR.out _ kD
  go_wp2_with fail
  exact bodyPost_ret (v:=accV false (.slice none 0 0) 0 false false true) (by simp [results,Tryz.results45,go_sem,r0,r1,r2,r3,r4,r5,nRC,nCR]) rfl ⟨rfl,kept_six1 R hRs (k0.trans kD) _ _ _ _ _ _⟩
theorem rtimes_zero (n b : Int) (n1 : Bool) (a1 : Option Addr) (l1 c1 : Nat) (x1 : Int) (p m z : Bool) (s0 : Int) (w : World) (sg : Bool)
  (KC : Hid (∀ u,Calls Tryz.prog 91 #[.int .i64 b,.int .i64 n] u fun e w' => e = .returned (.int .i64 0) ∧ Kept u w'))
  (KS : Hid (∀ u,Calls Tryz.prog 96 #[.agg #[.bool n1,.slice a1 l1 c1,.int .i64 x1]] u fun e w' => e = .returned (.int .i64 s0) ∧ Kept u w'))
  (KN : Hid (∀ u,Calls Tryz.prog 93 #[.int .i64 b,.int .i64 n] u fun e w' => e = .returned (.bool sg) ∧ Kept u w')) :
  Calls Tryz.prog 45 #[accV n1 (.slice a1 l1 c1) x1 p m z,.int .i64 b,.int .i64 n] w fun e w' => e = .returned (accV false (.slice none 0 0) 0 false false (p || m || z)) ∧ Kept w w':=by
 obtain ⟨Y,hY⟩ : ∃ X,X = w.alloc (.cells #[.bool n1,.slice a1 l1 c1,.int .i64 x1,.bool p,.bool m,.bool z] 26):=⟨_,rfl⟩
 obtain ⟨X,hX⟩ : ∃ X,X = (w.alloc (.cells #[.bool n1,.slice a1 l1 c1,.int .i64 x1,.bool p,.bool m,.bool z] 26)).alloc (.cells #[.bool false,.slice none 0 0,.int .i64 0,.bool false,.bool false,.bool false] 26):=⟨_,rfl⟩
 have k0 : Kept w X:=by rw [hX]; exact ((Kept.refl w).alloc _ _).alloc _ _
 obtain ⟨B,hB⟩ : ∃ B,B = w.heap.size:=⟨_,rfl⟩
 obtain ⟨R,hR⟩ : ∃ B,B = w.heap.size + 1:=⟨_,rfl⟩
 have HXs : Hid (X.heap.size = w.heap.size + 2 ∧ B = w.heap.size ∧ R = w.heap.size + 1):=⟨by rw [hX]; simp,hB,hR⟩
 have VR : Hid (∀ u,Kept X u → VB u R (.bool false) (.slice none 0 0) (.int .i64 0) (.bool false) (.bool false) (.bool false)):=fun u k => by
  obtain ⟨r0,r1,r2,r3,r4,r5,r6⟩:=acc_res1 (w:=Y) 26 R (by rw [hY,hR]; simp) (by rw [hX,hY]; exact Kept.refl _) u k
  exact ⟨r0,r1,r2,r3,r4,r5,r6,by have:=k.below.size; have:=HXs.out; omega⟩
 have HA : Hid (∀ u,Kept X u → u.cell? ⟨B,0,none⟩ = some (.bool n1) ∧ u.cell? ⟨B,1,none⟩ = some (.slice a1 l1 c1) ∧ u.cell? ⟨B,2,none⟩ = some (.int .i64 x1) ∧ u.cell? ⟨B,3,none⟩ = some (.bool p) ∧ u.cell? ⟨B,4,none⟩ = some (.bool m) ∧ u.cell? ⟨B,5,none⟩ = some (.bool z)):=fun u k => acc_cells1 n1 (.slice a1 l1 c1) x1 p m z 26 B hB (X:=X) (by rw [hX]; exact (Kept.refl _).alloc _ _) u k
 have HD : Hid (∀ w2,Kept X w2 → ∃ D C,D = w2.alloc (.cells #[.bool n1,.slice a1 l1 c1,.int .i64 x1,.bool p,.bool m,.bool z] 26) ∧ C = w2.heap.size ∧ Kept X D ∧ (X.heap.size ≤ C ∧ C < D.heap.size) ∧ ∀ u,Kept D u → VB u C (.bool n1) (.slice a1 l1 c1) (.int .i64 x1) (.bool p) (.bool m) (.bool z)):=fun w2 k2 => ⟨_,_,rfl,rfl,k2.alloc _ _,⟨k2.below.size,by simp⟩,fun u k => by
  obtain ⟨r0,r1,r2,r3,r4,r5⟩:=acc_cells1 n1 (.slice a1 l1 c1) x1 p m z 26 w2.heap.size rfl (X:=w2.alloc (.cells #[.bool n1,.slice a1 l1 c1,.int .i64 x1,.bool p,.bool m,.bool z] 26)) (Kept.refl _) u k
  exact ⟨r0,r1,r2,r3,r4,r5,fun o => (k.frozen _).trans (by simp [go_sem]),Nat.lt_of_lt_of_le (by simp) k.below.size⟩⟩
 go_enter Tryz.func45,Tryz.ntmps45
 go_upto_region 1 with fail
 rw [← hX,← hR,← hB]
 clear hX hR hY hB
 go_wp2_with fail
 refine (KC.out _).mono ?_
 rintro e w1 ⟨rfl,k1⟩
 cases p <;> cases m <;> cases z <;> cases sg
 all_goals
  obtain ⟨c0,c1',c2,c3,c4,c5⟩:=HA.out _ k1
  go_wp2_with fail
  refine (KS.out _).mono ?_
  rintro e w2 ⟨rfl,k2'⟩
  have k2 : Kept X w2:=k1.trans k2'
  clear c0 c1' c2 c3 c4 c5 k1 k2'
  obtain ⟨c0,c1',c2,c3,c4,c5⟩:=HA.out _ k2
  obtain ⟨D,C,hD,hC,kD,hCs',VC'⟩:=HD.out _ k2
  have hCs : Hid (X.heap.size ≤ C ∧ C < D.heap.size):=hCs'
  have VC : Hid (∀ u,Kept D u → _):=VC'
  go_upto_region 5 with fail
  rw [← hD,← hC]
  clear hD hC c0 c1' c2 c3 c4 c5 k2 HD VC' hCs'
  have nRC : R ≠ C:=by have:=HXs.out; have:=hCs.out; omega
  have nCR : C ≠ R:=Ne.symm nRC
  have hRs : w.heap.size ≤ R:=by have:=HXs.out; omega
  have hCw : w.heap.size ≤ C:=by have:=HXs.out; have:=hCs.out; omega
  go_wp2_with fail
  refine (KN.out _).mono ?_
  rintro e w3 ⟨rfl,k3⟩
  have kw3 : Kept X w3:=kD.trans k3
  obtain ⟨r0,r1,r2,r3,r4,r5,r6,r7⟩:=VR.out _ kw3
  obtain ⟨c0,c1',c2,c3,c4,c5⟩:=HA.out _ kw3
  go_wp2_with fail
  exact bodyPost_ret (v:=accV false (.slice none 0 0) 0 false false _) (by simp [results,Tryz.results45,go_sem,r0,r1,r2,r3,r4,r5,nRC,nCR]) rfl ⟨rfl,kept_six1 R hRs (k0.trans kw3) _ _ _ _ _ _⟩
theorem rtimes_inf (n b : Int) (n1 : Bool) (a1 : Option Addr) (l1 c1 : Nat) (x1 : Int) (p m z : Bool) (s0 : Int) (w : World) (sg : Bool) (hs0 : s0 = 0 ∨ s0 = 1 ∨ s0 = -1)
    (KC : Hid (∀ u, Calls Tryz.prog 91 #[.int .i64 b, .int .i64 n] u fun e w' => e = .returned (.int .i64 3) ∧ Kept u w'))
    (KS : Hid (∀ u, Calls Tryz.prog 96 #[.agg #[.bool n1, .slice a1 l1 c1, .int .i64 x1]] u fun e w' => e = .returned (.int .i64 s0) ∧ Kept u w'))
    (KN : Hid (∀ u, Calls Tryz.prog 93 #[.int .i64 b, .int .i64 n] u fun e w' => e = .returned (.bool sg) ∧ Kept u w')) :
    Calls Tryz.prog 45 #[accV n1 (.slice a1 l1 c1) x1 p m z, .int .i64 b, .int .i64 n] w fun e w' => e = .returned (accV false (.slice none 0 0) 0 (!(z || (p && m) || ((if (p != m) = true then (if m = true then -1 else 1) else s0) == 0)) && !(decide ((if (p != m) = true then (if m = true then -1 else 1) else s0) < 0) != sg)) (!(z || (p && m) || ((if (p != m) = true then (if m = true then -1 else 1) else s0) == 0)) && (decide ((if (p != m) = true then (if m = true then -1 else 1) else s0) < 0) != sg)) (z || (p && m) || ((if (p != m) = true then (if m = true then -1 else 1) else s0) == 0))) ∧ Kept w w' := by
  obtain ⟨Y, hY⟩ : ∃ X, X = w.alloc (.cells #[.bool n1, .slice a1 l1 c1, .int .i64 x1, .bool p, .bool m, .bool z] 26) := ⟨_, rfl⟩
  obtain ⟨X, hX⟩ : ∃ X, X = (w.alloc (.cells #[.bool n1, .slice a1 l1 c1, .int .i64 x1, .bool p, .bool m, .bool z] 26)).alloc (.cells #[.bool false, .slice none 0 0, .int .i64 0, .bool false, .bool false, .bool false] 26) := ⟨_, rfl⟩
  have k0 : Kept w X := by rw [hX]; exact ((Kept.refl w).alloc _ _).alloc _ _
  obtain ⟨B, hB⟩ : ∃ B, B = w.heap.size := ⟨_, rfl⟩
  obtain ⟨R, hR⟩ : ∃ B, B = w.heap.size + 1 := ⟨_, rfl⟩
  have HXs : Hid (X.heap.size = w.heap.size + 2 ∧ B = w.heap.size ∧ R = w.heap.size + 1) := ⟨by rw [hX]; simp, hB, hR⟩
  have VR : Hid (∀ u, Kept X u → VB u R (.bool false) (.slice none 0 0) (.int .i64 0) (.bool false) (.bool false) (.bool false)) := fun u k => by
    obtain ⟨r0, r1, r2, r3, r4, r5, r6⟩ := acc_res1 (w := Y) 26 R (by rw [hY, hR]; simp) (by rw [hX, hY]; exact Kept.refl _) u k
    exact ⟨r0, r1, r2, r3, r4, r5, r6, by have := k.below.size; have := HXs.out; omega⟩
  have HA : Hid (∀ u, Kept X u → u.cell? ⟨B, 0, none⟩ = some (.bool n1) ∧ u.cell? ⟨B, 1, none⟩ = some (.slice a1 l1 c1) ∧ u.cell? ⟨B, 2, none⟩ = some (.int .i64 x1) ∧ u.cell? ⟨B, 3, none⟩ = some (.bool p) ∧ u.cell? ⟨B, 4, none⟩ = some (.bool m) ∧ u.cell? ⟨B, 5, none⟩ = some (.bool z)) := fun u k => acc_cells1 n1 (.slice a1 l1 c1) x1 p m z 26 B hB (X := X) (by rw [hX]; exact (Kept.refl _).alloc _ _) u k
  have HD : Hid (∀ w2, Kept X w2 → ∃ D C, D = w2.alloc (.cells #[.bool n1, .slice a1 l1 c1, .int .i64 x1, .bool p, .bool m, .bool z] 26) ∧ C = w2.heap.size ∧ Kept X D ∧ (X.heap.size ≤ C ∧ C < D.heap.size) ∧ ∀ u, Kept D u → VB u C (.bool n1) (.slice a1 l1 c1) (.int .i64 x1) (.bool p) (.bool m) (.bool z)) := fun w2 k2 => ⟨_, _, rfl, rfl, k2.alloc _ _, ⟨k2.below.size, by simp⟩, fun u k => by
    obtain ⟨r0, r1, r2, r3, r4, r5⟩ := acc_cells1 n1 (.slice a1 l1 c1) x1 p m z 26 w2.heap.size rfl (X := w2.alloc (.cells #[.bool n1, .slice a1 l1 c1, .int .i64 x1, .bool p, .bool m, .bool z] 26)) (Kept.refl _) u k
    exact ⟨r0, r1, r2, r3, r4, r5, fun o => (k.frozen _).trans (by simp [go_sem]), Nat.lt_of_lt_of_le (by simp) k.below.size⟩⟩
  go_enter Tryz.func45, Tryz.ntmps45
  go_upto_region 1 with fail
  rw [← hX, ← hR, ← hB]
  clear hX hR hY hB
  go_wp2_with fail
  refine (KC.out _).mono ?_
  rintro e w1 ⟨rfl, k1⟩
  obtain ⟨pv, hpv⟩ : ∃ v, v = Value.bool p := ⟨_, rfl⟩
  obtain ⟨mv, hmv⟩ : ∃ v, v = Value.bool m := ⟨_, rfl⟩
  have HPV : Hid (pv = Value.bool p ∧ mv = Value.bool m) := ⟨hpv, hmv⟩
  clear hpv hmv
  by_cases hflg : (p || m || z) = true
  · clear hs0
    cases p <;> cases m <;> cases z <;> first | (exact absurd hflg (by decide)) | cases sg
    all_goals (try clear hflg)
    all_goals
      obtain ⟨c0, c1', c2, c3, c4, c5⟩ := HA.out _ k1
      go_wp2_with fail
      refine (KS.out _).mono ?_
      rintro e w2 ⟨rfl, k2'⟩
      have k2 : Kept X w2 := k1.trans k2'
      clear c0 c1' c2 c3 c4 c5 k1 k2'
      obtain ⟨c0, c1', c2, c3, c4, c5⟩ := HA.out _ k2
      obtain ⟨D, C, hD, hC, kD, hCs', VC'⟩ := HD.out _ k2
      have hCs : Hid (X.heap.size ≤ C ∧ C < D.heap.size) := hCs'
      have VC : Hid (∀ u, Kept D u → _) := VC'
      go_upto_region 5 with fail
      rw [← hD, ← hC]
      clear hD hC c0 c1' c2 c3 c4 c5 k2 HD VC' hCs'
      have nRC : R ≠ C := by have := HXs.out; have := hCs.out; omega
      have nCR : C ≠ R := Ne.symm nRC
      have hRs : w.heap.size ≤ R := by have := HXs.out; omega
      have hCw : w.heap.size ≤ C := by have := HXs.out; have := hCs.out; omega
      go_wp2_with fail
      refine (KN.out _).mono ?_
      rintro e w3 ⟨rfl, k3⟩
      have kw3 : Kept X w3 := kD.trans k3
      first
        | (have kE : Kept X w3 := kw3
           obtain ⟨c0, c1', c2, c3, c4, c5⟩ := HA.out _ kE
           obtain ⟨r0, r1, r2, r3, r4, r5, r6, r7⟩ := VR.out _ kE
           go_wp2_with fail
           first
             | exact bodyPost_ret (v := accV false (.slice none 0 0) 0 _ _ _) (by simp [results, Tryz.results45, go_sem, r0, r1, r2, r3, r4, r5, nRC, nCR]) rfl ⟨rfl, kept_six1 R hRs (k0.trans kE) _ _ _ _ _ _⟩
             | (refine (KN.out _).mono ?_
                rintro e w4 ⟨rfl, k4⟩
                clear r0 r1 r2 r3 r4 r5 r6 r7
                go_wp2_with fail
                refine (rinf _ false none 0 0 0 false false false _).mono ?_
                rintro e w5 ⟨rfl, k5⟩
                have k6 : Kept X w5 := (kE.trans k4).trans k5
                obtain ⟨r0, r1, r2, r3, r4, r5, r6, r7⟩ := VR.out _ k6
                go_wp2_with fail
                exact bodyPost_ret (v := accV false (.slice none 0 0) 0 _ _ _) (by simp [results, Tryz.results45, go_sem, r0, r1, r2, r3, r4, r5, nRC, nCR]) rfl ⟨rfl, kept_six1 R hRs (k0.trans k6) _ _ _ _ _ _⟩))
        | (obtain ⟨c0, c1', c2, c3, c4, c5⟩ := HA.out _ kw3
           obtain ⟨g0, g1, g2, g3, g4, g5, g6, g7⟩ := VC.out _ k3
           have nBC : B ≠ C := by have := HXs.out; have := hCs.out; omega
           go_upto_region 8 with fail
           obtain ⟨E, hE⟩ : ∃ E, E = (w3.setCell ⟨C, 3, none⟩ mv).setCell ⟨C, 4, none⟩ pv := ⟨_, rfl⟩
           have hE9 := hE
           rw [HPV.out.1, HPV.out.2] at hE9
           rw [← hE9]
           have kE : Kept X E := by rw [hE]; exact (kw3.setCell (p := ⟨C, 3, none⟩) hCs.out.1 _).setCell (p := ⟨C, 4, none⟩) hCs.out.1 _
           clear hE hE9 c0 c1' c2 c3 c4 c5 g0 g1 g2 g3 g4 g5 g6 g7
           obtain ⟨c0, c1', c2, c3, c4, c5⟩ := HA.out _ kE
           obtain ⟨r0, r1, r2, r3, r4, r5, r6, r7⟩ := VR.out _ kE
           go_wp2_with fail
           first
             | exact bodyPost_ret (v := accV false (.slice none 0 0) 0 _ _ _) (by simp [results, Tryz.results45, go_sem, r0, r1, r2, r3, r4, r5, nRC, nCR]) rfl ⟨rfl, kept_six1 R hRs (k0.trans kE) _ _ _ _ _ _⟩
             | (refine (KN.out _).mono ?_
                rintro e w4 ⟨rfl, k4⟩
                clear r0 r1 r2 r3 r4 r5 r6 r7
                go_wp2_with fail
                refine (rinf _ false none 0 0 0 false false false _).mono ?_
                rintro e w5 ⟨rfl, k5⟩
                have k6 : Kept X w5 := (kE.trans k4).trans k5
                obtain ⟨r0, r1, r2, r3, r4, r5, r6, r7⟩ := VR.out _ k6
                go_wp2_with fail
                exact bodyPost_ret (v := accV false (.slice none 0 0) 0 _ _ _) (by simp [results, Tryz.results45, go_sem, r0, r1, r2, r3, r4, r5, nRC, nCR]) rfl ⟨rfl, kept_six1 R hRs (k0.trans k6) _ _ _ _ _ _⟩))
  · obtain ⟨rfl, rfl, rfl⟩ : p = false ∧ m = false ∧ z = false := by cases p <;> cases m <;> cases z <;> simp at hflg ⊢
    clear hflg
    rcases hs0 with rfl | rfl | rfl <;> cases sg
    all_goals
      obtain ⟨c0, c1', c2, c3, c4, c5⟩ := HA.out _ k1
      go_wp2_with fail
      refine (KS.out _).mono ?_
      rintro e w2 ⟨rfl, k2'⟩
      have k2 : Kept X w2 := k1.trans k2'
      clear c0 c1' c2 c3 c4 c5 k1 k2'
      obtain ⟨c0, c1', c2, c3, c4, c5⟩ := HA.out _ k2
      obtain ⟨D, C, hD, hC, kD, hCs', VC'⟩ := HD.out _ k2
      have hCs : Hid (X.heap.size ≤ C ∧ C < D.heap.size) := hCs'
      have VC : Hid (∀ u, Kept D u → _) := VC'
      go_upto_region 5 with fail
      rw [← hD, ← hC]
      clear hD hC c0 c1' c2 c3 c4 c5 k2 HD VC' hCs'
      have nRC : R ≠ C := by have := HXs.out; have := hCs.out; omega
      have nCR : C ≠ R := Ne.symm nRC
      have hRs : w.heap.size ≤ R := by have := HXs.out; omega
      have hCw : w.heap.size ≤ C := by have := HXs.out; have := hCs.out; omega
      go_wp2_with fail
      refine (KN.out _).mono ?_
      rintro e w3 ⟨rfl, k3⟩
      have kw3 : Kept X w3 := kD.trans k3
      first
        | (have kE : Kept X w3 := kw3
           obtain ⟨c0, c1', c2, c3, c4, c5⟩ := HA.out _ kE
           obtain ⟨r0, r1, r2, r3, r4, r5, r6, r7⟩ := VR.out _ kE
           go_wp2_with fail
           first
             | exact bodyPost_ret (v := accV false (.slice none 0 0) 0 _ _ _) (by simp [results, Tryz.results45, go_sem, r0, r1, r2, r3, r4, r5, nRC, nCR]) rfl ⟨rfl, kept_six1 R hRs (k0.trans kE) _ _ _ _ _ _⟩
             | (refine (KN.out _).mono ?_
                rintro e w4 ⟨rfl, k4⟩
                clear r0 r1 r2 r3 r4 r5 r6 r7
                go_wp2_with fail
                refine (rinf _ false none 0 0 0 false false false _).mono ?_
                rintro e w5 ⟨rfl, k5⟩
                have k6 : Kept X w5 := (kE.trans k4).trans k5
                obtain ⟨r0, r1, r2, r3, r4, r5, r6, r7⟩ := VR.out _ k6
                go_wp2_with fail
                exact bodyPost_ret (v := accV false (.slice none 0 0) 0 _ _ _) (by simp [results, Tryz.results45, go_sem, r0, r1, r2, r3, r4, r5, nRC, nCR]) rfl ⟨rfl, kept_six1 R hRs (k0.trans k6) _ _ _ _ _ _⟩))
        | (obtain ⟨c0, c1', c2, c3, c4, c5⟩ := HA.out _ kw3
           obtain ⟨g0, g1, g2, g3, g4, g5, g6, g7⟩ := VC.out _ k3
           have nBC : B ≠ C := by have := HXs.out; have := hCs.out; omega
           go_upto_region 8 with fail
           obtain ⟨E, hE⟩ : ∃ E, E = (w3.setCell ⟨C, 3, none⟩ mv).setCell ⟨C, 4, none⟩ pv := ⟨_, rfl⟩
           have hE9 := hE
           rw [HPV.out.1, HPV.out.2] at hE9
           rw [← hE9]
           have kE : Kept X E := by rw [hE]; exact (kw3.setCell (p := ⟨C, 3, none⟩) hCs.out.1 _).setCell (p := ⟨C, 4, none⟩) hCs.out.1 _
           clear hE hE9 c0 c1' c2 c3 c4 c5 g0 g1 g2 g3 g4 g5 g6 g7
           obtain ⟨c0, c1', c2, c3, c4, c5⟩ := HA.out _ kE
           obtain ⟨r0, r1, r2, r3, r4, r5, r6, r7⟩ := VR.out _ kE
           go_wp2_with fail
           first
             | exact bodyPost_ret (v := accV false (.slice none 0 0) 0 _ _ _) (by simp [results, Tryz.results45, go_sem, r0, r1, r2, r3, r4, r5, nRC, nCR]) rfl ⟨rfl, kept_six1 R hRs (k0.trans kE) _ _ _ _ _ _⟩
             | (refine (KN.out _).mono ?_
                rintro e w4 ⟨rfl, k4⟩
                clear r0 r1 r2 r3 r4 r5 r6 r7
                go_wp2_with fail
                refine (rinf _ false none 0 0 0 false false false _).mono ?_
                rintro e w5 ⟨rfl, k5⟩
                have k6 : Kept X w5 := (kE.trans k4).trans k5
                obtain ⟨r0, r1, r2, r3, r4, r5, r6, r7⟩ := VR.out _ k6
                go_wp2_with fail
                exact bodyPost_ret (v := accV false (.slice none 0 0) 0 _ _ _) (by simp [results, Tryz.results45, go_sem, r0, r1, r2, r3, r4, r5, nRC, nCR]) rfl ⟨rfl, kept_six1 R hRs (k0.trans k6) _ _ _ _ _ _⟩))
theorem rtimes_fin (Pin : Nat → Prop) (q : Nm) (n b : Int) (n1 : Bool) (a1 : Option Addr) (l1 c1 : Nat) (x1 : Int) (p m z : Bool) (s0 : Int) (w : World) (sg : Bool) (c : Int) (hc : c = 1 ∨ c = 2) (hPin : ∀ c,Pin c → c < w.heap.size)
  (KC : Hid (∀ u,Calls Tryz.prog 91 #[.int .i64 b,.int .i64 n] u fun e w' => e = .returned (.int .i64 c) ∧ Kept u w'))
  (KS : Hid (∀ u,Calls Tryz.prog 96 #[.agg #[.bool n1,.slice a1 l1 c1,.int .i64 x1]] u fun e w' => e = .returned (.int .i64 s0) ∧ Kept u w'))
  (KN : Hid (∀ u,Calls Tryz.prog 93 #[.int .i64 b,.int .i64 n] u fun e w' => e = .returned (.bool sg) ∧ Kept u w'))
  (KE : Hid (∀ u,Kept w u → Calls Tryz.prog 95 #[.int .i64 b,.int .i64 n] u fun e w' => ∃ v,e = .returned v ∧ Hid (RNp (Fresh u.heap.size) w' v (ofN b n)) ∧ Kept u w'))
  (KT : Hid (∀ u0 u v,Kept w u0 → Kept u0 u → Hid (RNp (Fresh u0.heap.size) u v (ofN b n)) → Calls Tryz.prog 97 #[.agg #[.bool n1,.slice a1 l1 c1,.int .i64 x1],v] u fun e w' => ∃ ua uc,e = .returned (.agg #[.bool q.neg,.slice ua q.mag.length uc,.int .i64 q.exp]) ∧ Hid (RLp (fun c => Pin c ∨ u0.heap.size ≤ c) w' (.slice ua q.mag.length uc) q.mag) ∧ Kept u w')) :
  Calls Tryz.prog 45 #[accV n1 (.slice a1 l1 c1) x1 p m z,.int .i64 b,.int .i64 n] w fun e w' => ∃ ua uc,e = .returned (accV (q).neg (.slice ua (q).mag.length uc) (q).exp (bif sg then m else p) (bif sg then p else m) z) ∧ Hid (RLp (fun c => Pin c ∨ w.heap.size ≤ c) w' (.slice ua (q).mag.length uc) (q).mag) ∧ Kept w w':=by
 have e4 : (c != 4) = true:=by rcases hc with rfl | rfl <;> decide
 have e4' : (c == 4) = false:=by rcases hc with rfl | rfl <;> decide
 have e0 : (c == 0) = false:=by rcases hc with rfl | rfl <;> decide
 have e3 : (c == 3) = false:=by rcases hc with rfl | rfl <;> decide
 have eg : 0 < c:=by omega
 clear hc
 obtain ⟨Y,hY⟩ : ∃ X,X = w.alloc (.cells #[.bool n1,.slice a1 l1 c1,.int .i64 x1,.bool p,.bool m,.bool z] 26):=⟨_,rfl⟩
 obtain ⟨X,hX⟩ : ∃ X,X = (w.alloc (.cells #[.bool n1,.slice a1 l1 c1,.int .i64 x1,.bool p,.bool m,.bool z] 26)).alloc (.cells #[.bool false,.slice none 0 0,.int .i64 0,.bool false,.bool false,.bool false] 26):=⟨_,rfl⟩
 have k0 : Kept w X:=by rw [hX]; exact ((Kept.refl w).alloc _ _).alloc _ _
 obtain ⟨B,hB⟩ : ∃ B,B = w.heap.size:=⟨_,rfl⟩
 obtain ⟨R,hR⟩ : ∃ B,B = w.heap.size + 1:=⟨_,rfl⟩
 have HXs : Hid (X.heap.size = w.heap.size + 2 ∧ B = w.heap.size ∧ R = w.heap.size + 1):=⟨by rw [hX]; simp,hB,hR⟩
 have VR : Hid (∀ u,Kept X u → VB u R (.bool false) (.slice none 0 0) (.int .i64 0) (.bool false) (.bool false) (.bool false)):=fun u k => by
  obtain ⟨r0,r1,r2,r3,r4,r5,r6⟩:=acc_res1 (w:=Y) 26 R (by rw [hY,hR]; simp) (by rw [hX,hY]; exact Kept.refl _) u k
  exact ⟨r0,r1,r2,r3,r4,r5,r6,by have:=k.below.size; have:=HXs.out; omega⟩
 have HA : Hid (∀ u,Kept X u → u.cell? ⟨B,0,none⟩ = some (.bool n1) ∧ u.cell? ⟨B,1,none⟩ = some (.slice a1 l1 c1) ∧ u.cell? ⟨B,2,none⟩ = some (.int .i64 x1) ∧ u.cell? ⟨B,3,none⟩ = some (.bool p) ∧ u.cell? ⟨B,4,none⟩ = some (.bool m) ∧ u.cell? ⟨B,5,none⟩ = some (.bool z)):=fun u k => acc_cells1 n1 (.slice a1 l1 c1) x1 p m z 26 B hB (X:=X) (by rw [hX]; exact (Kept.refl _).alloc _ _) u k
 have HD : Hid (∀ w2,Kept X w2 → ∃ D C,D = w2.alloc (.cells #[.bool n1,.slice a1 l1 c1,.int .i64 x1,.bool p,.bool m,.bool z] 26) ∧ C = w2.heap.size ∧ Kept X D ∧ (X.heap.size ≤ C ∧ C < D.heap.size) ∧ ∀ u,Kept D u → VB u C (.bool n1) (.slice a1 l1 c1) (.int .i64 x1) (.bool p) (.bool m) (.bool z)):=fun w2 k2 => ⟨_,_,rfl,rfl,k2.alloc _ _,⟨k2.below.size,by simp⟩,fun u k => by
  obtain ⟨r0,r1,r2,r3,r4,r5⟩:=acc_cells1 n1 (.slice a1 l1 c1) x1 p m z 26 w2.heap.size rfl (X:=w2.alloc (.cells #[.bool n1,.slice a1 l1 c1,.int .i64 x1,.bool p,.bool m,.bool z] 26)) (Kept.refl _) u k
  exact ⟨r0,r1,r2,r3,r4,r5,fun o => (k.frozen _).trans (by simp [go_sem]),Nat.lt_of_lt_of_le (by simp) k.below.size⟩⟩
 go_enter Tryz.func45,Tryz.ntmps45
 go_upto_region 1 with fail
 rw [← hX,← hR,← hB]
 clear hX hR hY hB
 go_wp2_with fail
 refine (KC.out _).mono ?_
 rintro e w1 ⟨rfl,k1⟩
 obtain ⟨pv,hpv⟩ : ∃ v,v = Value.bool p:=⟨_,rfl⟩
 have HPV : Hid (pv = Value.bool p):=hpv
 clear hpv
 cases sg
 ·cases p
  all_goals
   obtain ⟨c0,c1',c2,c3,c4,c5⟩:=HA.out _ k1
   go_wp2_with fail
   refine (KS.out _).mono ?_
   rintro e w2 ⟨rfl,k2'⟩
   have k2 : Kept X w2:=k1.trans k2'
   clear c0 c1' c2 c3 c4 c5 k1 k2'
   obtain ⟨c0,c1',c2,c3,c4,c5⟩:=HA.out _ k2
   obtain ⟨D,C,hD,hC,kD,hCs',VC'⟩:=HD.out _ k2
   have hCs : Hid (X.heap.size ≤ C ∧ C < D.heap.size):=hCs'
   have VC : Hid (∀ u,Kept D u → _):=VC'
   go_upto_region 5 with fail
   rw [← hD,← hC]
   clear hD hC c0 c1' c2 c3 c4 c5 k2 HD VC' hCs'
   have nRC : R ≠ C:=by have:=HXs.out; have:=hCs.out; omega
   have nCR : C ≠ R:=Ne.symm nRC
   have hRs : w.heap.size ≤ R:=by have:=HXs.out; omega
   have hCw : w.heap.size ≤ C:=by have:=HXs.out; have:=hCs.out; omega
   go_wp2_with fail
   refine (KN.out _).mono ?_
   rintro e w3 ⟨rfl,k3⟩
   have kw3 : Kept X w3:=kD.trans k3
   have kE : Kept X w3:=kw3
   have VE : Hid _:=VC.out _ k3
   have HS : Hid (∀ u,Kept X u → Kept X u ∧ u.cell? ⟨B,0,none⟩ = some (.bool n1) ∧ u.cell? ⟨B,1,none⟩ = some (.slice a1 l1 c1) ∧ u.cell? ⟨B,2,none⟩ = some (.int .i64 x1)):=fun u ku => ⟨ku,(HA.out u ku).1,(HA.out u ku).2.1,(HA.out u ku).2.2.1⟩
   go_upto_region 21 with fail
   have HS2 : Hid (∀ u,Kept w3 u → (Kept X u ∧ Kept w3 u) ∧ u.cell? ⟨B,0,none⟩ = some (.bool n1) ∧ u.cell? ⟨B,1,none⟩ = some (.slice a1 l1 c1) ∧ u.cell? ⟨B,2,none⟩ = some (.int .i64 x1)):=fun u ku => ⟨⟨kE.trans ku,ku⟩,(HS.out u (kE.trans ku)).2⟩
   refine wp_region_late [7] (fun u => (Kept X u ∧ Kept w3 u) ∧ u.cell? ⟨B,0,none⟩ = some (.bool n1) ∧ u.cell? ⟨B,1,none⟩ = some (.slice a1 l1 c1) ∧ u.cell? ⟨B,2,none⟩ = some (.int .i64 x1)) (by kernel_rfl) (HS2.out _ (Kept.refl _).drew) (fun hHeld => ?_)
   refine tkD (i:=0) (v:=?_) rfl hHeld ?_
   (try simp only [Act.put,zA,zB,zC,zD,zE,zF])
   refine tkD (i:=1) (v:=?_) rfl hHeld ?_
   (try simp only [Act.put,zA,zB,zC,zD,zE,zF])
   refine tkD (i:=2) (v:=?_) rfl hHeld ?_
   (try simp only [Act.put,zA,zB,zC,zD,zE,zF])
   refine tkD (i:=3) (v:=?_) rfl hHeld ?_
   (try simp only [Act.put,zA,zB,zC,zD,zE,zF])
   refine wpAnyD_step (i:=4) (by kernel_rfl) rfl (fun K hK9 => ?_)
   go_simp
   go_wp2_with fail
   refine (KE.out _ (k0.trans hHeld.1.1)).mono ?_
   rintro e u2 ⟨ve,rfl,he,k4⟩
   refine hK9.out _ _ (HS2.out _ (hHeld.1.2.trans k4)) (fun hH2 => ?_)
   clear hK9 K
   (try simp only [Act.put,zA,zB,zC,zD,zE,zF])
   refine wpAnyD_step (i:=5) (by kernel_rfl) rfl (fun K hK9 => ?_)
   go_simp
   go_wp2_with fail
   refine (KT.out _ _ ve (k0.trans hHeld.1.1) k4 he).mono ?_
   rintro e u3 ⟨ua,uc,rfl,hs,k5⟩
   refine hK9.out _ _ (HS2.out _ (hH2.1.2.trans k5)) (fun hH3 => ?_)
   clear hK9 K
   (try simp only [Act.put,zA,zB,zC,zD,zE,zF])
   refine tkD (i:=6) (v:=?_) rfl hH3 ?_
   (try simp only [Act.put,zA,zB,zC,zD,zE,zF])
   have kX3 : Kept X u3:=hH3.1.1
   have VE3:=VE.out.kept hH3.1.2
   obtain ⟨g0,g1,g2,g3,g4,g5,g6,g7⟩:=VE3
   obtain ⟨r0,r1,r2,r3,r4,r5,r6,r7⟩:=VR.out _ kX3
   have hz0 : C < w3.drew.heap.size ∧ R < w3.drew.heap.size:=by
    have:=VE.out.lt
    have:=(VR.out _ kE).lt
    exact ⟨by assumption,by assumption⟩
   refine wpAnyD_late (i:=7) (by kernel_rfl) rfl rfl (fun K hK9 => ?_)
   go_simp
   refine hK9.out _ _ ?_
   clear hK9 K
   (try simp only [Act.put,zA,zB,zC,zD,zE,zF])
   refine wpAnyD_done (by kernel_rfl) ?_ _
   (try simp only [Act.put,zA,zB,zC,zD,zE,zF])
   go_wp2_with fail
   have hq : ∀ c,(Pin c ∨ w3.drew.heap.size ≤ c) → c ≠ C ∧ c ≠ R:=fun c h => by
    rcases h with h | h
    ·have:=hPin c h
     omega
    ·omega
   refine bodyPost_ret (v:=accV q.neg (.slice ua q.mag.length uc) q.exp _ m z) (by simp [results,Tryz.results45,go_sem,r0,r1,r2,r3,r4,r5,g0,g1,g2,g3,g4,g5,nRC,nCR]) rfl ⟨ua,uc,rfl,?_,?_⟩
   ·exact (rlp_six (rlp_tri hs.out C (fun c h => (hq c h).1) _ _ _) R (fun c h => (hq c h).2) _ _ _ _ _ _).imp (fun c h => h.elim .inl (fun h => .inr (by have:=hz0; omega)))
   ·exact kept_six1 R hRs ((((k0.trans kX3).setCell (p:=⟨C,0,none⟩) hCw _).setCell (p:=⟨C,1,none⟩) hCw _).setCell (p:=⟨C,2,none⟩) hCw _) _ _ _ _ _ _
 ·cases p
  all_goals
   obtain ⟨c0,c1',c2,c3,c4,c5⟩:=HA.out _ k1
   go_wp2_with fail
   refine (KS.out _).mono ?_
   rintro e w2 ⟨rfl,k2'⟩
   have k2 : Kept X w2:=k1.trans k2'
   clear c0 c1' c2 c3 c4 c5 k1 k2'
   obtain ⟨c0,c1',c2,c3,c4,c5⟩:=HA.out _ k2
   obtain ⟨D,C,hD,hC,kD,hCs',VC'⟩:=HD.out _ k2
   have hCs : Hid (X.heap.size ≤ C ∧ C < D.heap.size):=hCs'
   have VC : Hid (∀ u,Kept D u → _):=VC'
   go_upto_region 5 with fail
   rw [← hD,← hC]
   clear hD hC c0 c1' c2 c3 c4 c5 k2 HD VC' hCs'
   have nRC : R ≠ C:=by have:=HXs.out; have:=hCs.out; omega
   have nCR : C ≠ R:=Ne.symm nRC
   have hRs : w.heap.size ≤ R:=by have:=HXs.out; omega
   have hCw : w.heap.size ≤ C:=by have:=HXs.out; have:=hCs.out; omega
   go_wp2_with fail
   refine (KN.out _).mono ?_
   rintro e w3 ⟨rfl,k3⟩
   have kw3 : Kept X w3:=kD.trans k3
   obtain ⟨c0,c1',c2,c3,c4,c5⟩:=HA.out _ kw3
   obtain ⟨g0,g1,g2,g3,g4,g5,g6,g7⟩:=VC.out _ k3
   have nBC : B ≠ C:=by have:=HXs.out; have:=hCs.out; omega
   go_upto_region 8 with fail
   obtain ⟨E,hE⟩ : ∃ E,E = (w3.setCell ⟨C,3,none⟩ (.bool m)).setCell ⟨C,4,none⟩ pv:=⟨_,rfl⟩
   have hE9:=hE
   rw [HPV.out] at hE9
   rw [← hE9]
   clear hE9
   have kE : Kept X E:=by rw [hE]; exact (kw3.setCell (p:=⟨C,3,none⟩) hCs.out.1 _).setCell (p:=⟨C,4,none⟩) hCs.out.1 _
   clear c0 c1' c2 c3 c4 c5
   have VE : Hid (VB E C (.bool n1) (.slice a1 l1 c1) (.int .i64 x1) (.bool m) pv (.bool z)):=by
    rw [hE]
    refine ⟨?_,?_,?_,?_,?_,?_,fun o => by simpa using g6 o,by simpa using g7⟩
    all_goals simp [go_sem,g0,g1,g2,g3,g4,g5]
   clear hE g0 g1 g2 g3 g4 g5 g6 g7
   have HS : Hid (∀ u,Kept X u → Kept X u ∧ u.cell? ⟨B,0,none⟩ = some (.bool n1) ∧ u.cell? ⟨B,1,none⟩ = some (.slice a1 l1 c1) ∧ u.cell? ⟨B,2,none⟩ = some (.int .i64 x1)):=fun u ku => ⟨ku,(HA.out u ku).1,(HA.out u ku).2.1,(HA.out u ku).2.2.1⟩
   go_upto_region 21 with fail
   have HS2 : Hid (∀ u,Kept E u → (Kept X u ∧ Kept E u) ∧ u.cell? ⟨B,0,none⟩ = some (.bool n1) ∧ u.cell? ⟨B,1,none⟩ = some (.slice a1 l1 c1) ∧ u.cell? ⟨B,2,none⟩ = some (.int .i64 x1)):=fun u ku => ⟨⟨kE.trans ku,ku⟩,(HS.out u (kE.trans ku)).2⟩
   refine wp_region_late [7] (fun u => (Kept X u ∧ Kept E u) ∧ u.cell? ⟨B,0,none⟩ = some (.bool n1) ∧ u.cell? ⟨B,1,none⟩ = some (.slice a1 l1 c1) ∧ u.cell? ⟨B,2,none⟩ = some (.int .i64 x1)) (by kernel_rfl) (HS2.out _ (Kept.refl _).drew) (fun hHeld => ?_)
   refine tkD (i:=0) (v:=?_) rfl hHeld ?_
   (try simp only [Act.put,zA,zB,zC,zD,zE,zF])
   refine tkD (i:=1) (v:=?_) rfl hHeld ?_
   (try simp only [Act.put,zA,zB,zC,zD,zE,zF])
   refine tkD (i:=2) (v:=?_) rfl hHeld ?_
   (try simp only [Act.put,zA,zB,zC,zD,zE,zF])
   refine tkD (i:=3) (v:=?_) rfl hHeld ?_
   (try simp only [Act.put,zA,zB,zC,zD,zE,zF])
   refine wpAnyD_step (i:=4) (by kernel_rfl) rfl (fun K hK9 => ?_)
   go_simp
   go_wp2_with fail
   refine (KE.out _ (k0.trans hHeld.1.1)).mono ?_
   rintro e u2 ⟨ve,rfl,he,k4⟩
   refine hK9.out _ _ (HS2.out _ (hHeld.1.2.trans k4)) (fun hH2 => ?_)
   clear hK9 K
   (try simp only [Act.put,zA,zB,zC,zD,zE,zF])
   refine wpAnyD_step (i:=5) (by kernel_rfl) rfl (fun K hK9 => ?_)
   go_simp
   go_wp2_with fail
   refine (KT.out _ _ ve (k0.trans hHeld.1.1) k4 he).mono ?_
   rintro e u3 ⟨ua,uc,rfl,hs,k5⟩
   refine hK9.out _ _ (HS2.out _ (hH2.1.2.trans k5)) (fun hH3 => ?_)
   clear hK9 K
   (try simp only [Act.put,zA,zB,zC,zD,zE,zF])
   refine tkD (i:=6) (v:=?_) rfl hH3 ?_
   (try simp only [Act.put,zA,zB,zC,zD,zE,zF])
   have kX3 : Kept X u3:=hH3.1.1
   have VE3:=VE.out.kept hH3.1.2
   obtain ⟨g0,g1,g2,g3,g4,g5,g6,g7⟩:=VE3
   rw [HPV.out] at g4
   obtain ⟨r0,r1,r2,r3,r4,r5,r6,r7⟩:=VR.out _ kX3
   have hz0 : C < E.drew.heap.size ∧ R < E.drew.heap.size:=by
    have:=VE.out.lt
    have:=(VR.out _ kE).lt
    exact ⟨by assumption,by assumption⟩
   refine wpAnyD_late (i:=7) (by kernel_rfl) rfl rfl (fun K hK9 => ?_)
   go_simp
   refine hK9.out _ _ ?_
   clear hK9 K
   (try simp only [Act.put,zA,zB,zC,zD,zE,zF])
   refine wpAnyD_done (by kernel_rfl) ?_ _
   (try simp only [Act.put,zA,zB,zC,zD,zE,zF])
   go_wp2_with fail
   have hq : ∀ c,(Pin c ∨ E.drew.heap.size ≤ c) → c ≠ C ∧ c ≠ R:=fun c h => by
    rcases h with h | h
    ·have:=hPin c h
     omega
    ·omega
   refine bodyPost_ret (v:=accV q.neg (.slice ua q.mag.length uc) q.exp m _ z) (by simp [results,Tryz.results45,go_sem,r0,r1,r2,r3,r4,r5,g0,g1,g2,g3,g4,g5,nRC,nCR]) rfl ⟨ua,uc,rfl,?_,?_⟩
   ·exact (rlp_six (rlp_tri hs.out C (fun c h => (hq c h).1) _ _ _) R (fun c h => (hq c h).2) _ _ _ _ _ _).imp (fun c h => h.elim .inl (fun h => .inr (by have:=hz0; omega)))
   ·exact kept_six1 R hRs ((((k0.trans kX3).setCell (p:=⟨C,0,none⟩) hCw _).setCell (p:=⟨C,1,none⟩) hCw _).setCell (p:=⟨C,2,none⟩) hCw _) _ _ _ _ _ _
end Go.Proofs.YtoflafgbbjinpaaGreatDoor
