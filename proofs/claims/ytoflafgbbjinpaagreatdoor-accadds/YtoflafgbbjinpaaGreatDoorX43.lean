/- acc's Times and AddNum,by what they ask. The document's Sum and Dot,by values. Sums and products of a list of ones; a list that is too long; sums that are too long,or none. Sum and Dot of any lists of patterns: what the program tells and that the document tells it. Sum and Dot of any lists,with the errors in their order: what the program tells and what the document tells; the laws' own first. -/
import Derived.Test.YtoflafgbbjinpaaGreatDoorX38
import Derived.Test.YtoflafgbbjinpaaGreatDoorX42
import Derived.Test.YtoflafgbbjinpaaGreatDoorX35
import Derived.Test.YtoflafgbbjinpaaGreatDoorX36
namespace Go.Proofs.YtoflafgbbjinpaaGreatDoor
open Go.ChangeShapes Go.WideShapes Go.ChangeAt Go.RowKit
set_option linter.unusedVariables false
set_option linter.unusedSimpArgs false
set_option maxHeartbeats 16000000
set_option maxRecDepth 100000
theorem times_err (n b : Int) (ng : Bool) (ao : Option Addr) (l cap : Nat) (xx : Int) (p m z : Bool) (w : World) (f : Int) (hf : f ≠ 0)
  (KL : Hid (∀ q u,Kept w u → q < u.heap.size → u.cell? ⟨q,0,none⟩ = some (.int .i64 b) → Calls Tryz.prog 67 #[.int .i64 n,accV ng (.slice ao l cap) xx p m z,.slice (some ⟨q,0,none⟩) 1 1] u fun e w' => e = .returned (.int .i64 f) ∧ Kept u w')) :
  Calls Tryz.prog 31 #[accV ng (.slice ao l cap) xx p m z,.int .i64 b,.int .i64 n] w fun e w' => e = .returned (.tuple #[accZ,.int .i64 f]) ∧ Kept w w':=by
 have he2 : (f != 0) = true:=by simpa using hf
 obtain ⟨X0,hX0⟩ : ∃ X,X = w.alloc (.cells #[.bool ng,.slice ao l cap,.int .i64 xx,.bool p,.bool m,.bool z] 26):=⟨_,rfl⟩
 obtain ⟨X,hX⟩ : ∃ X,X = (w.alloc (.cells #[.bool ng,.slice ao l cap,.int .i64 xx,.bool p,.bool m,.bool z] 26)).alloc (.cells #[.bool false,.slice none 0 0,.int .i64 0,.bool false,.bool false,.bool false] 26):=⟨_,rfl⟩
 have k0 : Kept w X:=by rw [hX]; exact ((Kept.refl w).alloc _ _).alloc _ _
 have k00 : Kept X0 X:=by rw [hX,hX0]; exact (Kept.refl _).alloc _ _
 obtain ⟨R,hR⟩ : ∃ R,R = w.heap.size + 1:=⟨_,rfl⟩
 obtain ⟨B,hB⟩ : ∃ R,R = w.heap.size:=⟨_,rfl⟩
 have HXs : Hid (X.heap.size = w.heap.size + 2 ∧ R = w.heap.size + 1 ∧ B = w.heap.size):=⟨by rw [hX]; simp,hR,hB⟩
 have HA0 : Hid (∀ u,Kept X0 u → _):=acc_cells1 ng (.slice ao l cap) xx p m z 26 B hB (X:=X0) (by rw [hX0]; exact Kept.refl _)
 have HA : Hid (∀ u,Kept X u → _):=fun u k => HA0.out u (k00.trans k)
 have HR : Hid (∀ u,Kept X u → _):=acc_res1 (w:=w.alloc (.cells #[.bool ng,.slice ao l cap,.int .i64 xx,.bool p,.bool m,.bool z] 26)) 26 R (by rw [hR]; simp) (by rw [hX]; exact Kept.refl _)
 clear HA0 k00
 go_enter Tryz.func31,Tryz.ntmps31
 go_upto_region 1 with fail
 rw [← hX,← hR,← hB]
 clear hX hX0 hR hB
 obtain ⟨c0,c1,c2,c3,c4,c5⟩:=HA.out _ (Kept.refl _)
 go_wp2_with fail
 refine (KL.out _ _ (k0.alloc _ _) (by simp) (by simp [go_sem])).mono ?_
 rintro e w1 ⟨rfl,k1⟩
 have kB1 : Kept X w1:=((Kept.refl X).alloc _ _).trans k1
 clear k1 KL c0 c1 c2 c3 c4 c5
 obtain ⟨r0,r1,r2,r3,r4,r5,r6⟩:=HR.out _ kB1
 go_wp2_with fail
 exact bodyPost_ret (v:=.tuple #[accZ,.int .i64 f]) (by simp [results,Tryz.results31,go_sem,r0,r1,r2,r3,r4,r5]) rfl ⟨rfl,kept_six1 R (by have:=HXs.out; omega) (k0.trans kB1) _ _ _ _ _ _⟩
theorem times_zero (n b : Int) (ng : Bool) (ao : Option Addr) (l cap : Nat) (xx : Int) (p m z : Bool) (w : World)
  (KL : Hid (∀ q u,Kept w u → q < u.heap.size → u.cell? ⟨q,0,none⟩ = some (.int .i64 b) → Calls Tryz.prog 67 #[.int .i64 n,accV ng (.slice ao l cap) xx p m z,.slice (some ⟨q,0,none⟩) 1 1] u fun e w' => e = .returned (.int .i64 0) ∧ Kept u w'))
  (KC : Hid (∀ u,Calls Tryz.prog 26 #[.int .i64 b,.int .i64 n] u fun e w' => e = .returned (.int .i64 0) ∧ Kept u w')) :
  Calls Tryz.prog 31 #[accV ng (.slice ao l cap) xx p m z,.int .i64 b,.int .i64 n] w fun e w' => e = .returned (.tuple #[accV false (.slice none 0 0) 0 false false (p || m || z),.int .i64 0]) ∧ Kept w w':=by
 obtain ⟨X0,hX0⟩ : ∃ X,X = w.alloc (.cells #[.bool ng,.slice ao l cap,.int .i64 xx,.bool p,.bool m,.bool z] 26):=⟨_,rfl⟩
 obtain ⟨X,hX⟩ : ∃ X,X = (w.alloc (.cells #[.bool ng,.slice ao l cap,.int .i64 xx,.bool p,.bool m,.bool z] 26)).alloc (.cells #[.bool false,.slice none 0 0,.int .i64 0,.bool false,.bool false,.bool false] 26):=⟨_,rfl⟩
 have k0 : Kept w X:=by rw [hX]; exact ((Kept.refl w).alloc _ _).alloc _ _
 have k00 : Kept X0 X:=by rw [hX,hX0]; exact (Kept.refl _).alloc _ _
 obtain ⟨R,hR⟩ : ∃ R,R = w.heap.size + 1:=⟨_,rfl⟩
 obtain ⟨B,hB⟩ : ∃ R,R = w.heap.size:=⟨_,rfl⟩
 have HXs : Hid (X.heap.size = w.heap.size + 2 ∧ R = w.heap.size + 1 ∧ B = w.heap.size):=⟨by rw [hX]; simp,hR,hB⟩
 have HA0 : Hid (∀ u,Kept X0 u → _):=acc_cells1 ng (.slice ao l cap) xx p m z 26 B hB (X:=X0) (by rw [hX0]; exact Kept.refl _)
 have HA : Hid (∀ u,Kept X u → _):=fun u k => HA0.out u (k00.trans k)
 have HR : Hid (∀ u,Kept X u → _):=acc_res1 (w:=w.alloc (.cells #[.bool ng,.slice ao l cap,.int .i64 xx,.bool p,.bool m,.bool z] 26)) 26 R (by rw [hR]; simp) (by rw [hX]; exact Kept.refl _)
 clear HA0 k00
 go_enter Tryz.func31,Tryz.ntmps31
 go_upto_region 1 with fail
 rw [← hX,← hR,← hB]
 clear hX hX0 hR hB
 obtain ⟨c0,c1,c2,c3,c4,c5⟩:=HA.out _ (Kept.refl _)
 go_wp2_with fail
 refine (KL.out _ _ (k0.alloc _ _) (by simp) (by simp [go_sem])).mono ?_
 rintro e w1 ⟨rfl,k1⟩
 have kB1 : Kept X w1:=((Kept.refl X).alloc _ _).trans k1
 clear k1 KL c0 c1 c2 c3 c4 c5
 go_wp2_with fail
 refine (KC.out _).mono ?_
 rintro e w2 ⟨rfl,k2⟩
 have kB2 : Kept X w2:=kB1.trans k2
 clear kB1 k2 KC
 obtain ⟨c0,c1,c2,c3,c4,c5⟩:=HA.out _ kB2
 obtain ⟨r0,r1,r2,r3,r4,r5,r6⟩:=HR.out _ kB2
 cases p <;> cases m <;> cases z
 all_goals
  go_wp2_with fail
  exact bodyPost_ret (v:=.tuple #[accV false (.slice none 0 0) 0 false false _,.int .i64 0]) (by simp [results,Tryz.results31,go_sem,r0,r1,r2,r3,r4,r5]) rfl ⟨rfl,kept_six1 R (by have:=HXs.out; omega) (k0.trans kB2) _ _ _ _ _ _⟩
theorem times_inf (n b : Int) (ng : Bool) (ao : Option Addr) (l cap : Nat) (xx : Int) (p m z : Bool) (w : World) (c sv mv : Int) (hc : c = 3 ∨ c = 4) (P M Z : Bool)
  (KL : Hid (∀ q u,Kept w u → q < u.heap.size → u.cell? ⟨q,0,none⟩ = some (.int .i64 b) → Calls Tryz.prog 67 #[.int .i64 n,accV ng (.slice ao l cap) xx p m z,.slice (some ⟨q,0,none⟩) 1 1] u fun e w' => e = .returned (.int .i64 0) ∧ Kept u w'))
  (KC : Hid (∀ u,Calls Tryz.prog 26 #[.int .i64 b,.int .i64 n] u fun e w' => e = .returned (.int .i64 c) ∧ Kept u w'))
  (KS : Hid (∀ u,Kept w u → Calls Tryz.prog 82 #[accV ng (.slice ao l cap) xx p m z,.int .i64 n] u fun e w' => e = .returned (.int .i64 sv) ∧ Kept u w'))
  (KM : Hid (∀ u,Calls Tryz.prog 81 #[.int .i64 sv,.int .i64 b,.int .i64 n] u fun e w' => e = .returned (.int .i64 mv) ∧ Kept u w'))
  (KF : Hid (∀ u,Calls Tryz.prog 80 #[.int .i64 mv,.int .i64 n] u fun e w' => e = .returned (accV false (.slice none 0 0) 0 P M Z) ∧ Kept u w')) :
  Calls Tryz.prog 31 #[accV ng (.slice ao l cap) xx p m z,.int .i64 b,.int .i64 n] w fun e w' => e = .returned (.tuple #[accV false (.slice none 0 0) 0 P M Z,.int .i64 0]) ∧ Kept w w':=by
 obtain ⟨X0,hX0⟩ : ∃ X,X = w.alloc (.cells #[.bool ng,.slice ao l cap,.int .i64 xx,.bool p,.bool m,.bool z] 26):=⟨_,rfl⟩
 obtain ⟨X,hX⟩ : ∃ X,X = (w.alloc (.cells #[.bool ng,.slice ao l cap,.int .i64 xx,.bool p,.bool m,.bool z] 26)).alloc (.cells #[.bool false,.slice none 0 0,.int .i64 0,.bool false,.bool false,.bool false] 26):=⟨_,rfl⟩
 have k0 : Kept w X:=by rw [hX]; exact ((Kept.refl w).alloc _ _).alloc _ _
 have k00 : Kept X0 X:=by rw [hX,hX0]; exact (Kept.refl _).alloc _ _
 obtain ⟨R,hR⟩ : ∃ R,R = w.heap.size + 1:=⟨_,rfl⟩
 obtain ⟨B,hB⟩ : ∃ R,R = w.heap.size:=⟨_,rfl⟩
 have HXs : Hid (X.heap.size = w.heap.size + 2 ∧ R = w.heap.size + 1 ∧ B = w.heap.size):=⟨by rw [hX]; simp,hR,hB⟩
 have HA0 : Hid (∀ u,Kept X0 u → _):=acc_cells1 ng (.slice ao l cap) xx p m z 26 B hB (X:=X0) (by rw [hX0]; exact Kept.refl _)
 have HA : Hid (∀ u,Kept X u → _):=fun u k => HA0.out u (k00.trans k)
 have HR : Hid (∀ u,Kept X u → _):=acc_res1 (w:=w.alloc (.cells #[.bool ng,.slice ao l cap,.int .i64 xx,.bool p,.bool m,.bool z] 26)) 26 R (by rw [hR]; simp) (by rw [hX]; exact Kept.refl _)
 clear HA0 k00
 go_enter Tryz.func31,Tryz.ntmps31
 go_upto_region 1 with fail
 rw [← hX,← hR,← hB]
 clear hX hX0 hR hB
 obtain ⟨c0,c1,c2,c3,c4,c5⟩:=HA.out _ (Kept.refl _)
 go_wp2_with fail
 refine (KL.out _ _ (k0.alloc _ _) (by simp) (by simp [go_sem])).mono ?_
 rintro e w1 ⟨rfl,k1⟩
 have kB1 : Kept X w1:=((Kept.refl X).alloc _ _).trans k1
 clear k1 KL c0 c1 c2 c3 c4 c5
 go_wp2_with fail
 refine (KC.out _).mono ?_
 rintro e w2 ⟨rfl,k2⟩
 have kB2 : Kept X w2:=kB1.trans k2
 clear kB1 k2 KC
 obtain ⟨c0,c1,c2,c3,c4,c5⟩:=HA.out _ kB2
 rcases hc with rfl | rfl
 all_goals
  go_wp2_with fail
  refine (KS.out _ (k0.trans kB2)).mono ?_
  rintro e w3 ⟨rfl,k3⟩
  go_wp2_with fail
  refine (KM.out _).mono ?_
  rintro e w4 ⟨rfl,k4⟩
  go_wp2_with fail
  refine (KF.out _).mono ?_
  rintro e w5 ⟨rfl,k5⟩
  have kB5 : Kept X w5:=((kB2.trans k3).trans k4).trans k5
  obtain ⟨r0,r1,r2,r3,r4,r5,r6⟩:=HR.out _ kB5
  go_wp2_with fail
  exact bodyPost_ret (v:=.tuple #[accV false (.slice none 0 0) 0 P M Z,.int .i64 0]) (by simp [results,Tryz.results31,go_sem,r0,r1,r2,r3,r4,r5]) rfl ⟨rfl,kept_six1 R (by have:=HXs.out; omega) (k0.trans kB5) _ _ _ _ _ _⟩
theorem times_no (n b : Int) (ng : Bool) (ao : Option Addr) (l cap : Nat) (xx : Int) (p m z : Bool) (w : World) (c f : Int) (hc : c = 1 ∨ c = 2) (hf : f ≠ 0) (y : Nm)
  (KL : Hid (∀ q u,Kept w u → q < u.heap.size → u.cell? ⟨q,0,none⟩ = some (.int .i64 b) → Calls Tryz.prog 67 #[.int .i64 n,accV ng (.slice ao l cap) xx p m z,.slice (some ⟨q,0,none⟩) 1 1] u fun e w' => e = .returned (.int .i64 0) ∧ Kept u w'))
  (KC : Hid (∀ u,Calls Tryz.prog 26 #[.int .i64 b,.int .i64 n] u fun e w' => e = .returned (.int .i64 c) ∧ Kept u w'))
  (KO : Hid (∀ u,Kept w u → Calls Tryz.prog 16 #[.int .i64 b,.int .i64 n] u fun e w' => ∃ ya yc,e = .returned (.tuple #[.agg #[.bool y.neg,.slice ya y.mag.length yc,.int .i64 y.exp],.int .i64 0]) ∧ Hid (Sl w' (.slice ya y.mag.length yc) y.mag) ∧ Kept u w'))
  (KM : Hid (∀ u ya yc,Kept w u → Sl u (.slice ya y.mag.length yc) y.mag → Calls Tryz.prog 17 #[.agg #[.bool ng,.slice ao l cap,.int .i64 xx],.agg #[.bool y.neg,.slice ya y.mag.length yc,.int .i64 y.exp]] u fun e w' => e = .returned (.tuple #[zeroNum,.int .i64 f]) ∧ Kept u w')) :
  Calls Tryz.prog 31 #[accV ng (.slice ao l cap) xx p m z,.int .i64 b,.int .i64 n] w fun e w' => e = .returned (.tuple #[accZ,.int .i64 f]) ∧ Kept w w':=by
 have he2 : (f != 0) = true:=by simpa using hf
 have hc1 : (c == 0) = false ∧ (c == 3) = false ∧ (c == 4) = false:=by rcases hc with rfl | rfl <;> decide
 obtain ⟨hc1,hc3,hc4⟩:=hc1
 obtain ⟨X0,hX0⟩ : ∃ X,X = w.alloc (.cells #[.bool ng,.slice ao l cap,.int .i64 xx,.bool p,.bool m,.bool z] 26):=⟨_,rfl⟩
 obtain ⟨X,hX⟩ : ∃ X,X = (w.alloc (.cells #[.bool ng,.slice ao l cap,.int .i64 xx,.bool p,.bool m,.bool z] 26)).alloc (.cells #[.bool false,.slice none 0 0,.int .i64 0,.bool false,.bool false,.bool false] 26):=⟨_,rfl⟩
 have k0 : Kept w X:=by rw [hX]; exact ((Kept.refl w).alloc _ _).alloc _ _
 have k00 : Kept X0 X:=by rw [hX,hX0]; exact (Kept.refl _).alloc _ _
 obtain ⟨R,hR⟩ : ∃ R,R = w.heap.size + 1:=⟨_,rfl⟩
 obtain ⟨B,hB⟩ : ∃ R,R = w.heap.size:=⟨_,rfl⟩
 have HXs : Hid (X.heap.size = w.heap.size + 2 ∧ R = w.heap.size + 1 ∧ B = w.heap.size):=⟨by rw [hX]; simp,hR,hB⟩
 have HA0 : Hid (∀ u,Kept X0 u → _):=acc_cells1 ng (.slice ao l cap) xx p m z 26 B hB (X:=X0) (by rw [hX0]; exact Kept.refl _)
 have HA : Hid (∀ u,Kept X u → _):=fun u k => HA0.out u (k00.trans k)
 have HR : Hid (∀ u,Kept X u → _):=acc_res1 (w:=w.alloc (.cells #[.bool ng,.slice ao l cap,.int .i64 xx,.bool p,.bool m,.bool z] 26)) 26 R (by rw [hR]; simp) (by rw [hX]; exact Kept.refl _)
 clear HA0 k00
 go_enter Tryz.func31,Tryz.ntmps31
 go_upto_region 1 with fail
 rw [← hX,← hR,← hB]
 clear hX hX0 hR hB
 obtain ⟨c0,c1,c2,c3,c4,c5⟩:=HA.out _ (Kept.refl _)
 go_wp2_with fail
 refine (KL.out _ _ (k0.alloc _ _) (by simp) (by simp [go_sem])).mono ?_
 rintro e w1 ⟨rfl,k1⟩
 have kB1 : Kept X w1:=((Kept.refl X).alloc _ _).trans k1
 clear k1 KL c0 c1 c2 c3 c4 c5
 go_wp2_with fail
 refine (KC.out _).mono ?_
 rintro e w2 ⟨rfl,k2⟩
 have kB2 : Kept X w2:=kB1.trans k2
 clear kB1 k2 KC
 go_wp2_with fail
 refine (KO.out _ (k0.trans kB2)).mono ?_
 rintro e w3 ⟨ya,yc,rfl,sy,k3⟩
 obtain ⟨C,hC⟩ : ∃ B,B = w3.heap.size:=⟨_,rfl⟩
 obtain ⟨E1,hE1⟩ : ∃ D,D = w3.alloc (.cells #[.bool y.neg,.slice ya y.mag.length yc,.int .i64 y.exp] 24):=⟨_,rfl⟩
 have kE : Kept w2 E1:=by rw [hE1]; exact k3.alloc _ _
 have kE1 : Kept X E1:=kB2.trans kE
 have hCs : Hid (X.heap.size ≤ C ∧ C < E1.heap.size):=⟨by rw [hC]; exact (kB2.trans k3).below.size,by rw [hC,hE1]; simp⟩
 have HY : Hid (∀ u,Kept E1 u → u.cell? ⟨C,0,none⟩ = some (.bool y.neg) ∧ u.cell? ⟨C,1,none⟩ = some (.slice ya y.mag.length yc) ∧ u.cell? ⟨C,2,none⟩ = some (.int .i64 y.exp)):=fun u k => by
  subst hC
  rw [hE1] at k
  refine ⟨?_,?_,?_⟩
  all_goals exact (k.below.cell (by simp)).trans (by simp [go_sem])
 have sy1 : Hid (Sl E1 (.slice ya y.mag.length yc) y.mag):=sy.out.kept (by rw [hE1]; exact (Kept.refl _).alloc _ _)
 go_upto_region 11 with fail
 rw [← hC,← hE1]
 clear hC hE1 sy k3 kE kB2 KO
 obtain ⟨c0,c1,c2,c3,c4,c5⟩:=HA.out _ kE1
 obtain ⟨y0,y1,y2⟩:=HY.out _ (Kept.refl _)
 go_wp2_with fail
 refine (KM.out _ _ _ (k0.trans kE1) sy1.out).mono ?_
 rintro e w4 ⟨rfl,k4⟩
 clear c0 c1 c2 c3 c4 c5 y0 y1 y2 HY sy1 KM
 obtain ⟨r0,r1,r2,r3,r4,r5,r6⟩:=HR.out _ (kE1.trans k4)
 obtain ⟨s0,s1,s2,s3,s4,s5,s6⟩:=HR.out _ ((kE1.trans k4).alloc #[.bool false,.slice none 0 0,.int .i64 0] 24)
 have nn2 : R ≠ w4.heap.size:=by have:=(kE1.trans k4).below.size; have:=HXs.out; omega
 go_wp2_with fail
 exact bodyPost_ret (v:=.tuple #[accZ,.int .i64 f]) (by simp [results,Tryz.results31,go_sem,r0,r1,r2,r3,r4,r5,s0,s1,s2,s3,s4,s5,nn2]) rfl ⟨rfl,kept_six1 R (by have:=HXs.out; omega) ((k0.trans (kE1.trans k4)).alloc _ _) _ _ _ _ _ _⟩
theorem new_set {u w5 : World} {v : Value} {r : Nm} (hN : New u w5 v r) (B o : Nat) (hB : B < u.heap.size) (x : Value) : New u (w5.setCell ⟨B,o,none⟩ x) v r:=by
 rcases hN with h | ⟨g,cap,e,hg,ho,hne⟩
 ·exact .inl h
 ·have hgw : g ≠ B:=by omega
  exact .inr ⟨g,cap,e,hg,ho.setOther (by simpa using hgw) _,hne⟩
theorem times_fin (n b : Int) (ng : Bool) (ao : Option Addr) (l cap : Nat) (xx : Int) (p m z : Bool) (w : World) (c : Int) (hc : c = 1 ∨ c = 2) (y r : Nm)
  (KL : Hid (∀ q u,Kept w u → q < u.heap.size → u.cell? ⟨q,0,none⟩ = some (.int .i64 b) → Calls Tryz.prog 67 #[.int .i64 n,accV ng (.slice ao l cap) xx p m z,.slice (some ⟨q,0,none⟩) 1 1] u fun e w' => e = .returned (.int .i64 0) ∧ Kept u w'))
  (KC : Hid (∀ u,Calls Tryz.prog 26 #[.int .i64 b,.int .i64 n] u fun e w' => e = .returned (.int .i64 c) ∧ Kept u w'))
  (KO : Hid (∀ u,Kept w u → Calls Tryz.prog 16 #[.int .i64 b,.int .i64 n] u fun e w' => ∃ ya yc,e = .returned (.tuple #[.agg #[.bool y.neg,.slice ya y.mag.length yc,.int .i64 y.exp],.int .i64 0]) ∧ Hid (Sl w' (.slice ya y.mag.length yc) y.mag) ∧ Kept u w'))
  (KM : Hid (∀ u ya yc,Kept w u → Sl u (.slice ya y.mag.length yc) y.mag → Calls Tryz.prog 17 #[.agg #[.bool ng,.slice ao l cap,.int .i64 xx],.agg #[.bool y.neg,.slice ya y.mag.length yc,.int .i64 y.exp]] u fun e w' => ∃ un ua ul uc ux,e = .returned (.tuple #[.agg #[.bool un,.slice ua ul uc,.int .i64 ux],.int .i64 0]) ∧ New u w' (.agg #[.bool un,.slice ua ul uc,.int .i64 ux]) r ∧ Kept u w')) :
  Calls Tryz.prog 31 #[accV ng (.slice ao l cap) xx p m z,.int .i64 b,.int .i64 n] w fun e w' => ∃ un ua ul uc ux,e = .returned (.tuple #[accV un (.slice ua ul uc) ux (bif y.neg then m else p) (bif y.neg then p else m) z,.int .i64 0]) ∧ New w w' (.agg #[.bool un,.slice ua ul uc,.int .i64 ux]) r ∧ Kept w w':=by
 have hc1 : (c == 0) = false ∧ (c == 3) = false ∧ (c == 4) = false:=by rcases hc with rfl | rfl <;> decide
 obtain ⟨hc1,hc3,hc4⟩:=hc1
 obtain ⟨X0,hX0⟩ : ∃ X,X = w.alloc (.cells #[.bool ng,.slice ao l cap,.int .i64 xx,.bool p,.bool m,.bool z] 26):=⟨_,rfl⟩
 obtain ⟨X,hX⟩ : ∃ X,X = (w.alloc (.cells #[.bool ng,.slice ao l cap,.int .i64 xx,.bool p,.bool m,.bool z] 26)).alloc (.cells #[.bool false,.slice none 0 0,.int .i64 0,.bool false,.bool false,.bool false] 26):=⟨_,rfl⟩
 have k0 : Kept w X:=by rw [hX]; exact ((Kept.refl w).alloc _ _).alloc _ _
 have k00 : Kept X0 X:=by rw [hX,hX0]; exact (Kept.refl _).alloc _ _
 obtain ⟨R,hR⟩ : ∃ R,R = w.heap.size + 1:=⟨_,rfl⟩
 obtain ⟨B,hB⟩ : ∃ R,R = w.heap.size:=⟨_,rfl⟩
 have HXs : Hid (X.heap.size = w.heap.size + 2 ∧ R = w.heap.size + 1 ∧ B = w.heap.size):=⟨by rw [hX]; simp,hR,hB⟩
 have HA0 : Hid (∀ u,Kept X0 u → _):=acc_cells1 ng (.slice ao l cap) xx p m z 26 B hB (X:=X0) (by rw [hX0]; exact Kept.refl _)
 have HA : Hid (∀ u,Kept X u → _):=fun u k => HA0.out u (k00.trans k)
 have HR : Hid (∀ u,Kept X u → _):=acc_res1 (w:=w.alloc (.cells #[.bool ng,.slice ao l cap,.int .i64 xx,.bool p,.bool m,.bool z] 26)) 26 R (by rw [hR]; simp) (by rw [hX]; exact Kept.refl _)
 have HFz : Hid (∀ o,X.frozen? ⟨B,o,none⟩ = false):=fun o => by rw [hX,hB]; simp [go_sem]
 clear HA0 k00
 go_enter Tryz.func31,Tryz.ntmps31
 go_upto_region 1 with fail
 rw [← hX,← hR,← hB]
 clear hX hX0 hR hB
 obtain ⟨c0,c1,c2,c3,c4,c5⟩:=HA.out _ (Kept.refl _)
 go_wp2_with fail
 refine (KL.out _ _ (k0.alloc _ _) (by simp) (by simp [go_sem])).mono ?_
 rintro e w1 ⟨rfl,k1⟩
 have kB1 : Kept X w1:=((Kept.refl X).alloc _ _).trans k1
 clear k1 KL c0 c1 c2 c3 c4 c5
 go_wp2_with fail
 refine (KC.out _).mono ?_
 rintro e w2 ⟨rfl,k2⟩
 have kB2 : Kept X w2:=kB1.trans k2
 clear kB1 k2 KC
 go_wp2_with fail
 refine (KO.out _ (k0.trans kB2)).mono ?_
 rintro e w3 ⟨ya,yc,rfl,sy,k3⟩
 obtain ⟨C,hC⟩ : ∃ B,B = w3.heap.size:=⟨_,rfl⟩
 obtain ⟨E1,hE1⟩ : ∃ D,D = w3.alloc (.cells #[.bool y.neg,.slice ya y.mag.length yc,.int .i64 y.exp] 24):=⟨_,rfl⟩
 have kE : Kept w2 E1:=by rw [hE1]; exact k3.alloc _ _
 have kE1 : Kept X E1:=kB2.trans kE
 have hCs : Hid (X.heap.size ≤ C ∧ C < E1.heap.size):=⟨by rw [hC]; exact (kB2.trans k3).below.size,by rw [hC,hE1]; simp⟩
 have HY : Hid (∀ u,Kept E1 u → u.cell? ⟨C,0,none⟩ = some (.bool y.neg) ∧ u.cell? ⟨C,1,none⟩ = some (.slice ya y.mag.length yc) ∧ u.cell? ⟨C,2,none⟩ = some (.int .i64 y.exp)):=fun u k => by
  subst hC
  rw [hE1] at k
  refine ⟨?_,?_,?_⟩
  all_goals exact (k.below.cell (by simp)).trans (by simp [go_sem])
 have sy1 : Hid (Sl E1 (.slice ya y.mag.length yc) y.mag):=sy.out.kept (by rw [hE1]; exact (Kept.refl _).alloc _ _)
 go_upto_region 11 with fail
 rw [← hC,← hE1]
 clear hC hE1 sy k3 kE kB2 KO
 obtain ⟨c0,c1,c2,c3,c4,c5⟩:=HA.out _ kE1
 obtain ⟨y0,y1,y2⟩:=HY.out _ (Kept.refl _)
 go_wp2_with fail
 refine (KM.out _ _ _ (k0.trans kE1) sy1.out).mono ?_
 rintro e w4 ⟨un,ua,ul,uc,ux,rfl,hN,k4⟩
 clear c0 c1 c2 c3 c4 c5 y0 y1 y2 sy1 KM
 obtain ⟨F,hF⟩ : ∃ B,B = w4.heap.size:=⟨_,rfl⟩
 obtain ⟨E2,hE2⟩ : ∃ D,D = w4.alloc (.cells #[.bool un,.slice ua ul uc,.int .i64 ux] 24):=⟨_,rfl⟩
 have kE2 : Kept E1 E2:=by rw [hE2]; exact k4.alloc _ _
 have hN2 : Hid (New E1 E2 (.agg #[.bool un,.slice ua ul uc,.int .i64 ux]) r):=by rw [hE2]; exact hN.kept ((Kept.refl _).alloc _ _)
 have hFs : Hid (E1.heap.size ≤ F ∧ F < E2.heap.size):=⟨by rw [hF]; exact k4.below.size,by rw [hF,hE2]; simp⟩
 have HF : Hid (E2.cell? ⟨F,0,none⟩ = some (.bool un) ∧ E2.cell? ⟨F,1,none⟩ = some (.slice ua ul uc) ∧ E2.cell? ⟨F,2,none⟩ = some (.int .i64 ux)):=by
  rw [hE2,hF]
  refine ⟨?_,?_,?_⟩ <;> simp [go_sem]
 go_upto_region 12 with fail
 rw [← hF,← hE2]
 clear hF hE2 hN k4
 obtain ⟨c0,c1,c2,c3,c4,c5⟩:=HA.out _ (kE1.trans kE2)
 obtain ⟨r0,r1,r2,r3,r4,r5,r6⟩:=HR.out _ (kE1.trans kE2)
 obtain ⟨y0,-,-⟩:=HY.out _ kE2
 obtain ⟨f0,f1,f2⟩:=HF.out
 have fzB : ∀ o,E2.frozen? ⟨B,o,none⟩ = false:=fun o => ((kE1.trans kE2).frozen _).trans (HFz.out o)
 have n1 : R ≠ B:=by have:=HXs.out; omega
 have n2 : F ≠ B:=by have:=HXs.out; have:=hCs.out; have:=hFs.out; omega
 have n3 : F ≠ R:=by have:=HXs.out; have:=hCs.out; have:=hFs.out; omega
 have n4 : B ≠ R:=Ne.symm n1
 have n5 : B ≠ F:=Ne.symm n2
 have n6 : R ≠ F:=Ne.symm n3
 have kw2 : Kept w E2:=k0.trans (kE1.trans kE2)
 have hRs : w.heap.size ≤ R ∧ w.heap.size ≤ B ∧ R < E1.heap.size ∧ B < E1.heap.size:=by have:=HXs.out; have:=kE1.below.size; omega
 have kwE : Kept w E1:=k0.trans kE1
 obtain ⟨yn,hyn⟩ : ∃ b,b = y.neg:=⟨_,rfl⟩
 rw [← hyn] at y0
 have HYN : Hid (yn = y.neg):=hyn
 clear HA HR HY HF hyn
 cases yn
 ·go_wp2_with fail
  refine bodyPost_ret (v:=.tuple #[accV un (.slice ua ul uc) ux p m z,.int .i64 0]) (by simp [results,Tryz.results31,go_sem,r0,r1,r2,r3,r4,r5]) rfl ⟨un,ua,ul,uc,ux,by rw [← HYN.out]; rfl,?_,?_⟩
  ·exact new_six1 R hRs.1 hN2.out hRs.2.2.1 _ _ _ _ _ _
  ·exact kept_six1 R hRs.1 kw2 _ _ _ _ _ _
 ·go_wp2_with fail
  refine bodyPost_ret (v:=.tuple #[accV un (.slice ua ul uc) ux m p z,.int .i64 0]) (by simp [results,Tryz.results31,go_sem,r0,r1,r2,r3,r4,r5,n1,n4]) rfl ⟨un,ua,ul,uc,ux,by rw [← HYN.out]; rfl,?_,?_⟩
  ·exact new_six1 R hRs.1 (new_set (new_set hN2.out B 3 hRs.2.2.2 _) B 4 hRs.2.2.2 _) hRs.2.2.1 _ _ _ _ _ _
  ·exact kept_six1 R hRs.1 ((kw2.setCell (p:=⟨B,3,none⟩) hRs.2.1 _).setCell (p:=⟨B,4,none⟩) hRs.2.1 _) _ _ _ _ _ _
theorem fromZero_64 (w : World) : Calls Tryz.prog 32 #[.int .i64 0,.int .i64 64] w fun e w' => e = .returned (.int .i64 0) ∧ w = w':=by
 have h1 : floatOfInt .f64 0 = 0:=by decide +kernel
 have HO : Hid (∀ u,Calls Tryz.prog 84 #[.float .f64 0] u fun e w' => e = .returned (.int .i64 0) ∧ u = w'):=fun u => by
  have:=of64_any 0 u
  rw [show of64 0 = 0 by decide +kernel] at this
  exact this
 go_enter Tryz.func32,Tryz.ntmps32
 go_wp2_with (first | (go_at_call 84; refine (HO.out _).mono ?_; rintro e w1 ⟨rfl,rfl⟩))
 go_ret
 exact ⟨rfl,rfl⟩
theorem fromZero_32 (w : World) : Calls Tryz.prog 32 #[.int .i64 0,.int .i64 32] w fun e w' => e = .returned (.int .i64 0) ∧ w = w':=by
 have h1 : floatOfInt .f32 0 = 0:=by decide +kernel
 have HO : Hid (∀ u,Calls Tryz.prog 83 #[.float .f32 0] u fun e w' => e = .returned (.int .i64 0) ∧ u = w'):=fun u => by
  have:=of32_any 0 u
  rw [show of32 0 = 0 by decide +kernel] at this
  exact this
 go_enter Tryz.func32,Tryz.ntmps32
 go_wp2_with (first | (go_at_call 83; refine (HO.out _).mono ?_; rintro e w1 ⟨rfl,rfl⟩))
 go_ret
 exact ⟨rfl,rfl⟩
theorem fromLess_64 (w : World) : Calls Tryz.prog 32 #[.int .i64 (-1),.int .i64 64] w fun e w' => e = .returned (.int .i64 (-4616189618054758400)) ∧ w = w':=by
 have h1 : floatOfInt .f64 (-1) = 13830554455654793216:=by decide +kernel
 have HO : Hid (∀ u,Calls Tryz.prog 84 #[.float .f64 13830554455654793216] u fun e w' => e = .returned (.int .i64 (-4616189618054758400)) ∧ u = w'):=fun u => by
  have:=of64_any 13830554455654793216 u
  rw [show of64 13830554455654793216 = (-4616189618054758400) by decide +kernel] at this
  exact this
 go_enter Tryz.func32,Tryz.ntmps32
 go_wp2_with (first | (go_at_call 84; refine (HO.out _).mono ?_; rintro e w1 ⟨rfl,rfl⟩))
 go_ret
 exact ⟨rfl,rfl⟩
theorem fromLess_32 (w : World) : Calls Tryz.prog 32 #[.int .i64 (-1),.int .i64 32] w fun e w' => e = .returned (.int .i64 3212836864) ∧ w = w':=by
 have h1 : floatOfInt .f32 (-1) = 3212836864:=by decide +kernel
 have HO : Hid (∀ u,Calls Tryz.prog 83 #[.float .f32 3212836864] u fun e w' => e = .returned (.int .i64 3212836864) ∧ u = w'):=fun u => by
  have:=of32_any 3212836864 u
  rw [show of32 3212836864 = 3212836864 by decide +kernel] at this
  exact this
 go_enter Tryz.func32,Tryz.ntmps32
 go_wp2_with (first | (go_at_call 83; refine (HO.out _).mono ?_; rintro e w1 ⟨rfl,rfl⟩))
 go_ret
 exact ⟨rfl,rfl⟩
theorem Box.rlp {u : World} {lo B : Nat} {r : Nm} {p m z : Bool} {ao : Option Addr} {c : Nat} (h : Box u lo B r p m z ao c) : RLp (Fresh lo) u (.slice ao r.mag.length c) r.mag :=
 ⟨ao,c,rfl,h.hc,h.sl,fun b off hne e => h.hi b off e hne⟩
theorem rzero3 (w : World) : Calls Tryz.prog 44 #[] w fun e w' => e = .returned (accV false (.slice none 0 0) 0 false false false) ∧ Kept w w':=by
 go_enter Tryz.func44,Tryz.ntmps44
 go_wp2_with fail
 exact bodyPost_ret (v:=accV false (.slice none 0 0) 0 false false false) (by simp [results,Tryz.results44,go_sem,accV]) rfl ⟨rfl,(Kept.refl w).alloc _ _⟩
/- an element of a list -/
def ElAt (u : World) (ar : Option Addr) (i : Nat) (x : Int) : Prop:=∃ b off,ar = some ⟨b,off,none⟩ ∧ u.cell? ⟨b,off + i,none⟩ = some (.int .i64 x)
theorem getD_rg {X : List Int} (hR : Rg X) (j : Nat) : -9223372036854775808 ≤ X.getD j 0 ∧ X.getD j 0 ≤ 9223372036854775807:=by
 by_cases h : j < X.length
 ·rw [show X.getD j 0 = X[j] by simp [List.getD,h]]
  exact hR _ (List.getElem_mem h)
 ·rw [show X.getD j 0 = 0 by simp [List.getD]; rw [List.getElem?_eq_none (by omega)]; rfl]
  omega
theorem getD_val {X : List Int} {n : Int} (hL : X.all (val · n) = true) (j : Nat) (h : j < X.length) : val (X.getD j 0) n = true:=by
 rw [show X.getD j 0 = X[j] by simp [List.getD,h]]
 exact List.all_eq_true.1 hL _ (List.getElem_mem h)
theorem sl_el {w : World} {ao : Option Addr} {c : Nat} {X : List Int} (h : Sl w (.slice ao X.length c) X) (u : World) (k : Kept w u) (i : Nat) (hi : i < X.length) : ElAt u ao i (X.getD i 0):=sl_cell h u k i hi
theorem first3_walk (n : Int) (hn : n = 64 ∨ n = 32) (ar : Option Addr) (N cap : Nat) (hN : N < 100000000) (g : Nat → Int) (w : World) (hg1 : ∀ j,-9223372036854775808 ≤ g j) (hg2 : ∀ j,g j ≤ 9223372036854775807) (HG0 : ∀ u,Kept w u → ∀ i,i < N → ElAt u ar i (g i)) (R : Int) (h6 : ∀ j,j < N → val (g j) n = false → R = 6) (h0 : (∀ j,j < N → val (g j) n = true) → R = 0) :
  Calls Tryz.prog 42 #[.int .i64 n,.bool true,.slice ar N cap] w fun e w' => e = .returned (.int .i64 R) ∧ Kept w w':=by
 have HG : Hid (∀ u,Kept w u → ∀ i,i < N → ElAt u ar i (g i)):=HG0
 have H6 : Hid (∀ j,j < N → val (g j) n = false → R = 6):=h6
 have H0 : Hid ((∀ j,j < N → val (g j) n = true) → R = 0):=h0
 have KV : Hid (∀ u i,Calls Tryz.prog 90 #[.int .i64 (g i),.int .i64 n] u fun e w' => e = .returned (.bool (val (g i) n)) ∧ Kept u w'):=fun u i => rbvalid_any (g i) n (hg1 i) (hg2 i) u
 clear HG0 h6 h0 hg1 hg2
 have hw : ((n != 32) = false) ∨ ((n != 32) = true ∧ (n != 64) = false):=by rcases hn with rfl | rfl <;> decide
 clear hn
 rcases hw with e1 | ⟨e1,e2⟩
 all_goals
  go_enter Tryz.func42,Tryz.ntmps42
  go_wp2_with fail
  go_loopw [7] (fun ti wr => ∃ (k : Nat),k ≤ N ∧ ti = .int .i64 k ∧ Kept w wr ∧ Hid (∀ j,j < k → val (g j) n = true)) (fun i _ => N - (intOf i).toNat)
  case atStart => exact ⟨0,Nat.zero_le _,rfl,Kept.refl _,fun j hj => absurd hj (Nat.not_lt_zero j)⟩
  case round =>
   obtain ⟨k,hk,rfl,kr,ha⟩:=hrel
   by_cases hkn : k < N
   ·obtain ⟨eb,eo,rfl,hcell⟩:=HG.out _ kr k hkn
    have H6k : Hid (val (g k) n = false → R = 6):=fun h => H6.out k hkn h
    have KVk : Hid (∀ u,Calls Tryz.prog 90 #[.int .i64 (g k),.int .i64 n] u fun e w' => e = .returned (.bool (val (g k) n)) ∧ Kept u w'):=fun u => KV.out u k
    have Hnext : Hid (val (g k) n = true → ∀ j,j < k + 1 → val (g j) n = true):=fun h j hj => by
     rcases Nat.lt_succ_iff_lt_or_eq.1 hj with h1 | rfl
     ·exact ha.out j h1
     ·exact h
    clear HG H6 KV H0 ha
    generalize val (g k) n = vv at *
    go_wp2_with fail
    refine (KVk.out _).mono ?_
    rintro e w1 ⟨rfl,k1⟩
    cases vv
    ·obtain rfl:=H6k.out rfl
     go_wp2_with fail
     go_ret
     exact ⟨rfl,kr.trans k1⟩
    ·go_wp2_with fail
     go_roundw
     case rel => exact ⟨k + 1,hkn,by go_num,kr.trans k1,Hnext.out (by trivial)⟩
     case measure => simp [intOf]; omega
   ·obtain rfl : k = N:=by omega
    obtain rfl:=H0.out ha.out
    go_wp2_with fail
    go_ret
    exact ⟨rfl,kr⟩
theorem first3_any (n : Int) (X : List Int) (hR : Rg X) (hl : X.length < 100000000) (ao : Option Addr) (c : Nat) (w : World) (h : Sl w (.slice ao X.length c) X) :
  Calls Tryz.prog 42 #[.int .i64 n,.bool true,.slice ao X.length c] w fun e w' => e = .returned (.int .i64 (lkE n true X)) ∧ Kept w w':=by
 by_cases hn : n = 64 ∨ n = 32
 ·refine first3_walk n hn ao X.length c hl (fun j => X.getD j 0) w (fun j => (getD_rg hR j).1) (fun j => (getD_rg hR j).2) (fun u k i hi => sl_el h u k i hi) _ (fun j hj hv => ?_) (fun ha => ?_)
  ·unfold lkE
   have : ¬ X.all (val · n) = true:=fun hL => by
    have h1:=getD_val hL j hj
    rw [hv] at h1
    cases h1
   rw [if_neg (by rcases hn with rfl | rfl <;> decide),if_neg (by decide),if_neg this]
  ·unfold lkE
   have : X.all (val · n) = true:=List.all_eq_true.2 (fun x hx => by
    obtain ⟨j,hj,rfl⟩:=List.getElem_of_mem hx
    have h1:=ha j hj
    (try dsimp only at h1)
    rw [show X.getD j 0 = X[j] by simp [List.getD,hj]] at h1
    exact h1)
   rw [if_neg (by rcases hn with rfl | rfl <;> decide),if_neg (by decide),if_pos this]
 ·have e : lkE n true X = 3:=by
   unfold lkE
   rw [if_pos (by simp [val]; omega)]
  rw [e]
  have h1 : (n != 32) = true:=by simp; omega
  have h2 : (n != 64) = true:=by simp; omega
  go_enter Tryz.func42,Tryz.ntmps42
  go_wp2_with fail
  go_ret
  exact ⟨rfl,Kept.refl _⟩
/- Sum of any list -/
/- Dot of any two lists -/
end Go.Proofs.YtoflafgbbjinpaaGreatDoor
