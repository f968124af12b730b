/- The float nearest to the root of 6 by n,width 64: what the program guesses,and how far it climbs from there: reckoned for each n. The float nearest to the root of 6 by n,width 32: what the program guesses,and how far it climbs from there: reckoned for each n. Package start: whether a root lies above the middle between a float and the next one. -/
import Derived.Test.YtcfcbabbgcckhaaGreatDoorWa01
import Derived.Laws.FloatArith
import Derived.Test.YtcfcbabbgcckhaaGreatDoorWa17
import Derived.Test.YtcfcbabbgcckhaaGreatDoorWa30
namespace Go.Proofs.YtcfcbabbgcckhaaGreatDoor
set_option maxHeartbeats 16000000
set_option maxRecDepth 100000
open Ieee
set_option linter.unusedVariables false
/-- the value of a normal float,in 2^1074th parts -/
def vn64 (p : Nat) : Nat:=(p % 4503599627370496 + 4503599627370496) * 2 ^ (p / 4503599627370496 - 1 + 0)
def sq24_64 : Nat:=2148
def cnd64 (n p : Nat) : Bool:=decide ((vn64 p + vn64 (p + 1)) * (vn64 p + vn64 (p + 1)) * n < 24 * 2 ^ sq24_64)
def climb64 (n : Nat) : Nat → Nat → Nat
 | 0,p => p
 | k + 1,p => if cnd64 n p = true then climb64 n k (p + 1) else p
def guess64 (n : Nat) : Option (Nat × Nat × Nat) :=
 let d:=FloatKind.f64.format.nearest false n 0
 match FloatKind.f64.format.div (FloatKind.f64.format.nearest false 6 0) d with
 | none => none
 | some q => match FloatKind.f64.format.sqrt q with
  | none => none
  | some g => some (d,q,g)
def chk64 (n : Nat) : Bool:=match guess64 n with
 | none => false
 | some (d,q,g) => decide (d < 9218868437227405312) && decide (q < 9218868437227405312) && decide (g < 9218868437227405312 - 10) && decide (4503599627370496 + 10 < g) && !cnd64 n (climb64 n 4 (g - 1)) && cnd64 n (g - 2)
def upto64 (a : Nat) : Nat → Bool
 | 0 => true
 | k + 1 => chk64 (a + k) && upto64 a k
theorem upto64_at (a k i : Nat) (h : upto64 a k = true) (h1 : a ≤ i) (h2 : i < a + k) : chk64 i = true:=by
 induction k with
 | zero => omega
 | succ k ih =>
  unfold upto64 at h
  rw [Bool.and_eq_true] at h
  by_cases e : i = a + k
  ·rw [e]; exact h.1
  ·exact ih h.2 (by omega)
theorem up64_0 : upto64 1 512 = true:=by decide +kernel
theorem up64_1 : upto64 513 512 = true:=by decide +kernel
theorem up64_2 : upto64 1025 512 = true:=by decide +kernel
theorem up64_3 : upto64 1537 512 = true:=by decide +kernel
theorem up64_4 : upto64 2049 512 = true:=by decide +kernel
theorem up64_5 : upto64 2561 512 = true:=by decide +kernel
theorem up64_6 : upto64 3073 512 = true:=by decide +kernel
theorem up64_7 : upto64 3585 512 = true:=by decide +kernel
theorem up64_8 : upto64 4097 1 = true:=by decide +kernel
theorem chk64_all (i : Nat) (h1 : 1 ≤ i) (h2 : i ≤ 4097) : chk64 i = true:=by
 by_cases h10 : i < 513
 ·exact upto64_at 1 512 i up64_0 (by omega) (by omega)
 by_cases h11 : i < 1025
 ·exact upto64_at 513 512 i up64_1 (by omega) (by omega)
 by_cases h12 : i < 1537
 ·exact upto64_at 1025 512 i up64_2 (by omega) (by omega)
 by_cases h13 : i < 2049
 ·exact upto64_at 1537 512 i up64_3 (by omega) (by omega)
 by_cases h14 : i < 2561
 ·exact upto64_at 2049 512 i up64_4 (by omega) (by omega)
 by_cases h15 : i < 3073
 ·exact upto64_at 2561 512 i up64_5 (by omega) (by omega)
 by_cases h16 : i < 3585
 ·exact upto64_at 3073 512 i up64_6 (by omega) (by omega)
 by_cases h17 : i < 4097
 ·exact upto64_at 3585 512 i up64_7 (by omega) (by omega)
 by_cases h18 : i < 4098
 ·exact upto64_at 4097 1 i up64_8 (by omega) (by omega)
 omega
end Go.Proofs.YtcfcbabbgcckhaaGreatDoor

namespace Go.Proofs.YtcfcbabbgcckhaaGreatDoor
set_option maxHeartbeats 16000000
set_option maxRecDepth 100000
open Ieee
set_option linter.unusedVariables false
/-- the value of a normal float,in 2^1074th parts -/
def vn32 (p : Nat) : Nat:=(p % 8388608 + 8388608) * 2 ^ (p / 8388608 - 1 + 925)
def sq24_32 : Nat:=2148
def cnd32 (n p : Nat) : Bool:=decide ((vn32 p + vn32 (p + 1)) * (vn32 p + vn32 (p + 1)) * n < 24 * 2 ^ sq24_32)
def climb32 (n : Nat) : Nat → Nat → Nat
 | 0,p => p
 | k + 1,p => if cnd32 n p = true then climb32 n k (p + 1) else p
def guess32 (n : Nat) : Option (Nat × Nat × Nat × Nat × Nat) :=
 let d:=FloatKind.f32.format.nearest false n 0
 match FloatKind.f32.format.div (FloatKind.f32.format.nearest false 6 0) d with
 | none => none
 | some q => match floatToFloatBits .f32 q .f64 with
  | none => none
  | some x => match FloatKind.f64.format.sqrt x with
   | none => none
   | some r => match floatToFloatBits .f64 r .f32 with
    | none => none
    | some g => some (d,q,x,r,g)
def chk32 (n : Nat) : Bool:=match guess32 n with
 | none => false
 | some (d,q,x,r,g) => decide (d < 2139095040) && decide (q < 2139095040) && decide (g < 2139095040 - 10) && decide (8388608 + 10 < g) && !cnd32 n (climb32 n 4 (g - 1)) && cnd32 n (g - 2)
def upto32 (a : Nat) : Nat → Bool
 | 0 => true
 | k + 1 => chk32 (a + k) && upto32 a k
theorem upto32_at (a k i : Nat) (h : upto32 a k = true) (h1 : a ≤ i) (h2 : i < a + k) : chk32 i = true:=by
 induction k with
 | zero => omega
 | succ k ih =>
  unfold upto32 at h
  rw [Bool.and_eq_true] at h
  by_cases e : i = a + k
  ·rw [e]; exact h.1
  ·exact ih h.2 (by omega)
theorem up32_0 : upto32 1 512 = true:=by decide +kernel
theorem up32_1 : upto32 513 512 = true:=by decide +kernel
theorem up32_2 : upto32 1025 512 = true:=by decide +kernel
theorem up32_3 : upto32 1537 512 = true:=by decide +kernel
theorem up32_4 : upto32 2049 512 = true:=by decide +kernel
theorem up32_5 : upto32 2561 512 = true:=by decide +kernel
theorem up32_6 : upto32 3073 512 = true:=by decide +kernel
theorem up32_7 : upto32 3585 512 = true:=by decide +kernel
theorem up32_8 : upto32 4097 1 = true:=by decide +kernel
theorem chk32_all (i : Nat) (h1 : 1 ≤ i) (h2 : i ≤ 4097) : chk32 i = true:=by
 by_cases h10 : i < 513
 ·exact upto32_at 1 512 i up32_0 (by omega) (by omega)
 by_cases h11 : i < 1025
 ·exact upto32_at 513 512 i up32_1 (by omega) (by omega)
 by_cases h12 : i < 1537
 ·exact upto32_at 1025 512 i up32_2 (by omega) (by omega)
 by_cases h13 : i < 2049
 ·exact upto32_at 1537 512 i up32_3 (by omega) (by omega)
 by_cases h14 : i < 2561
 ·exact upto32_at 2049 512 i up32_4 (by omega) (by omega)
 by_cases h15 : i < 3073
 ·exact upto32_at 2561 512 i up32_5 (by omega) (by omega)
 by_cases h16 : i < 3585
 ·exact upto32_at 3073 512 i up32_6 (by omega) (by omega)
 by_cases h17 : i < 4097
 ·exact upto32_at 3585 512 i up32_7 (by omega) (by omega)
 by_cases h18 : i < 4098
 ·exact upto32_at 4097 1 i up32_8 (by omega) (by omega)
 omega
end Go.Proofs.YtcfcbabbgcckhaaGreatDoor

namespace Go.Proofs.YtcfcbabbgcckhaaGreatDoor
open Go.ChangeShapes Go.WideShapes Go.ChangeAt Go.RowKit
set_option maxHeartbeats 16000000
set_option maxRecDepth 100000
set_option linter.unusedVariables false
set_option linter.unusedSimpArgs false
theorem NumAt.keptT {w w' : World} {v : Value} {x : Nm} (h : NumAt w v x) (k : Kept w w') : NumAt w' v x:=by
 obtain ⟨s,e,hs⟩:=h
 exact ⟨s,e,hs.kept k⟩
theorem nearer_walk (b b' n m : Int) (x0 x1 tw sq nn sn cc df : Nm) (g : Int) (w : World)
  (KO : Hid (∀ u c x,(c = b ∧ x = x0 ∨ c = b' ∧ x = x1) → Kept w u → Calls Tryz.prog 89 #[.int .i64 c,.int .i64 m] u fun e w' => ∃ v,e = .returned v ∧ New u w' v x ∧ Kept u w'))
  (KN : Hid (∀ u,Calls Tryz.prog 21 #[.int .i64 b,.int .i64 m] u fun e w' => e = .returned (.int .i64 b') ∧ Kept u w'))
  (KA : Hid (∀ u v1 v2,Kept w u → NumAt u v1 x0 → NumAt u v2 x1 → Calls Tryz.prog 92 #[v1,v2] u fun e w' => ∃ v,e = .returned v ∧ New u w' v tw ∧ Kept u w'))
  (KM : Hid (∀ u v1 v2 y1 y2 y3,(y1 = tw ∧ y2 = tw ∧ y3 = sq ∨ y1 = sq ∧ y2 = nn ∧ y3 = sn) → Kept w u → NumAt u v1 y1 → NumAt u v2 y2 → Calls Tryz.prog 152 #[v1,v2] u fun e w' => ∃ v,e = .returned v ∧ New u w' v y3 ∧ Kept u w'))
  (KI : Hid (∀ u c x,(c = n ∧ x = nn ∨ c = 24 ∧ x = cc) → Kept w u → Calls Tryz.prog 153 #[.int .i64 c] u fun e w' => ∃ v,e = .returned v ∧ New u w' v x ∧ Kept u w'))
  (KS : Hid (∀ u v1 v2,Kept w u → NumAt u v1 sn → NumAt u v2 cc → Calls Tryz.prog 90 #[v1,v2] u fun e w' => ∃ v,e = .returned v ∧ New u w' v df ∧ Kept u w'))
  (KG : Hid (∀ u v1,Kept w u → NumAt u v1 df → Calls Tryz.prog 197 #[v1] u fun e w' => e = .returned (.int .i64 g) ∧ Kept u w')) :
  Calls Tryz.prog 155 #[.int .i64 b,.int .i64 n,.int .i64 m] w fun e w' => e = .returned (.bool (decide (g < 0))) ∧ Kept w w':=by
 go_enter Tryz.func155,Tryz.ntmps155
 go_wp2_with fail
 refine (KO.out _ _ _ (.inl ⟨rfl,rfl⟩) (Kept.refl w)).mono ?_
 rintro e w1 ⟨v1,rfl,g1,k1⟩
 go_wp2_with fail
 refine (KN.out _).mono ?_
 rintro e w2 ⟨rfl,k2⟩
 go_wp2_with fail
 refine (KO.out _ _ _ (.inr ⟨rfl,rfl⟩) (k1.trans k2)).mono ?_
 rintro e w3 ⟨v3,rfl,g3,k3⟩
 have q3:=(k1.trans k2).trans k3
 go_wp2_with fail
 refine (KA.out _ _ _ q3 (g1.kept (k2.trans k3)).numAt g3.numAt).mono ?_
 rintro e w4 ⟨v4,rfl,g4,k4⟩
 obtain ⟨n4,a4,l4,c4,x4,rfl⟩:=g4.shape
 have q4:=q3.trans k4
 clear g1 g3 q3 k1 k2 k3 k4 KO KN KA
 go_upto_region 2 with fail
 obtain ⟨Y,hY⟩ : ∃ Y,Y = w4.alloc (.cells #[.bool n4,.slice a4 l4 c4,.int .i64 x4] 74):=⟨_,rfl⟩
 obtain ⟨D,hD⟩ : ∃ D,D = w4.heap.size:=⟨_,rfl⟩
 have kY : Kept w4 Y:=by rw [hY]; exact (Kept.refl w4).alloc _ _
 have hP : N3 Y D (.bool n4) (.slice a4 l4 c4) (.int .i64 x4):=by rw [hY,hD]; exact N3.new w4 _ _ _ _
 rw [← hY,← hD]
 clear hY hD
 have q5:=q4.trans kY
 have g5:=(g4.kept kY).numAt
 clear g4 q4 kY
 have HY : Hid (∀ u,Kept Y u → N3 u D (.bool n4) (.slice a4 l4 c4) (.int .i64 x4)):=fun u k => hP.kept k
 obtain ⟨p0,p1,p2,pf⟩:=hP
 go_wp2_with fail
 refine (KM.out _ _ _ _ _ _ (.inl ⟨rfl,rfl,rfl⟩) q5 g5 g5).mono ?_
 rintro e w6 ⟨v6,rfl,g6,k6⟩
 clear p0 p1 p2 pf
 go_wp2_with fail
 refine (KI.out _ _ _ (.inl ⟨rfl,rfl⟩) (q5.trans k6)).mono ?_
 rintro e w7 ⟨v7,rfl,g7,k7⟩
 go_wp2_with fail
 refine (KM.out _ _ _ _ _ _ (.inr ⟨rfl,rfl,rfl⟩) ((q5.trans k6).trans k7) (g6.kept k7).numAt g7.numAt).mono ?_
 rintro e w8 ⟨v8,rfl,g8,k8⟩
 obtain ⟨n8,a8,l8,c8,x8,rfl⟩:=g8.shape
 have q8:=((q5.trans k6).trans k7).trans k8
 clear g5 g6 g7 q5 k6 k7 k8 KM HY
 go_upto_region 3 with fail
 obtain ⟨Z,hZ⟩ : ∃ Z,Z = w8.alloc (.cells #[.bool n8,.slice a8 l8 c8,.int .i64 x8] 74):=⟨_,rfl⟩
 obtain ⟨E,hE⟩ : ∃ E,E = w8.heap.size:=⟨_,rfl⟩
 have kZ : Kept w8 Z:=by rw [hZ]; exact (Kept.refl w8).alloc _ _
 have hP : N3 Z E (.bool n8) (.slice a8 l8 c8) (.int .i64 x8):=by rw [hZ,hE]; exact N3.new w8 _ _ _ _
 rw [← hZ,← hE]
 clear hZ hE
 have q9:=q8.trans kZ
 have g9:=(g8.kept kZ).numAt
 clear g8 q8 kZ
 have HS : Hid (∀ u,Kept Z u → Kept Z u ∧ u.cell? ⟨E,0,none⟩ = some (.bool n8) ∧ u.cell? ⟨E,1,none⟩ = some (.slice a8 l8 c8) ∧ u.cell? ⟨E,2,none⟩ = some (.int .i64 x8)):=fun u k => ⟨k,(hP.kept k).c0,(hP.kept k).c1,(hP.kept k).c2⟩
 refine wp_region_late [] (fun u => Kept Z u ∧ u.cell? ⟨E,0,none⟩ = some (.bool n8) ∧ u.cell? ⟨E,1,none⟩ = some (.slice a8 l8 c8) ∧ u.cell? ⟨E,2,none⟩ = some (.int .i64 x8)) (by kernel_rfl) (HS.out _ (Kept.refl Z).drew) (fun hHeld => ?_)
 refine tkD (i:=0) (v:=?_) rfl hHeld ?_
 (try simp only [Act.put,zA,zB,zC,zD,zE,zF])
 refine wpAnyD_step (i:=1) (by kernel_rfl) rfl (fun K hK9 => ?_)
 go_simp
 go_wp2_with fail
 refine (KI.out _ _ _ (.inr ⟨rfl,rfl⟩) (q9.trans hHeld.1)).mono ?_
 rintro e u1 ⟨v1,rfl,h1,j1⟩
 refine hK9.out _ _ (HS.out _ (hHeld.1.trans j1)) (fun hH1 => ?_)
 clear hK9 K
 (try simp only [Act.put,zA,zB,zC,zD,zE,zF])
 refine wpAnyD_step (i:=2) (by kernel_rfl) rfl (fun K hK9 => ?_)
 go_simp
 go_wp2_with fail
 refine (KS.out _ _ _ (q9.trans hH1.1) (NumAt.keptT g9 hH1.1) h1.numAt).mono ?_
 rintro e u2 ⟨v2,rfl,h2,j2⟩
 refine hK9.out _ _ (HS.out _ (hH1.1.trans j2)) (fun hH2 => ?_)
 clear hK9 K
 (try simp only [Act.put,zA,zB,zC,zD,zE,zF])
 refine wpAnyD_step (i:=3) (by kernel_rfl) rfl (fun K hK9 => ?_)
 go_simp
 go_wp2_with fail
 refine (KG.out _ _ (q9.trans hH2.1) h2.numAt).mono ?_
 rintro e u3 ⟨rfl,j3⟩
 refine hK9.out _ _ (HS.out _ (hH2.1.trans j3)) (fun hH3 => ?_)
 clear hK9 K
 (try simp only [Act.put,zA,zB,zC,zD,zE,zF])
 refine tkD (i:=4) (v:=?_) rfl hH3 ?_
 (try simp only [Act.put,zA,zB,zC,zD,zE,zF])
 refine tkD (i:=5) (v:=?_) rfl hH3 ?_
 (try simp only [Act.put,zA,zB,zC,zD,zE,zF])
 refine wpAnyD_done (by kernel_rfl) ?_ _
 (try simp only [Act.put,zA,zB,zC,zD,zE,zF])
 go_wp2_with fail
 go_ret
 exact ⟨rfl,q9.trans hH3.1⟩
end Go.Proofs.YtcfcbabbgcckhaaGreatDoor
