/- For AccMerges: the document's Same, AddNum, Join, Neg, Answer, and what the law asks of an answer. -/
import Derived.Test.YtoflafgbbjinpaaGreatDoorZn42
import Derived.Test.YtoflafgbbjinpaaGreatDoorZn43
namespace Go.Proofs.YtoflafgbbjinpaaGreatDoor
open Go.ChangeShapes Go.WideShapes Go.ChangeAt Go.RowKit
set_option linter.unusedVariables false
set_option linter.unusedSimpArgs false
set_option maxHeartbeats 16000000
set_option maxRecDepth 100000
theorem rlp_six {P : Nat → Prop} {u : World} {s : Value} {L : List Int} (h : RLp P u s L) (B : Nat) (hq : ∀ c, P c → c ≠ B) (v0 v1 v2 v3 v4 v5 : Value) : RLp P (six u B v0 v1 v2 v3 v4 v5) s L :=
 rlp_other (rlp_other (rlp_other (rlp_other (rlp_other (rlp_other h B 0 hq v0) B 1 hq v1) B 2 hq v2) B 3 hq v3) B 4 hq v4) B 5 hq v5
theorem rlp_tri {P : Nat → Prop} {u : World} {s : Value} {L : List Int} (h : RLp P u s L) (B : Nat) (hq : ∀ c, P c → c ≠ B) (v0 v1 v2 : Value) : RLp P (((u.setCell ⟨B, 0, none⟩ v0).setCell ⟨B, 1, none⟩ v1).setCell ⟨B, 2, none⟩ v2) s L :=
 rlp_other (rlp_other (rlp_other h B 0 hq v0) B 1 hq v1) B 2 hq v2
/- the document's Plus of two valid ones -/
theorem rplus_vld (P : Nat → Prop) (w : World) (a b : Nm) (hva : vld a = true) (hvb : vld b = true) (a1 a2 : Option Addr) (c1 c2 : Nat) (ha : RLp P w (.slice a1 a.mag.length c1) a.mag) (hb : RLp P w (.slice a2 b.mag.length c2) b.mag) :
  Calls Tryz.prog 94 #[.agg #[.bool a.neg, .slice a1 a.mag.length c1, .int .i64 a.exp], .agg #[.bool b.neg, .slice a2 b.mag.length c2, .int .i64 b.exp]] w fun e w' => ∃ ua uc, e = .returned (.agg #[.bool (pls a b).neg, .slice ua (pls a b).mag.length uc, .int .i64 (pls a b).exp]) ∧ Hid (RLp (fun c => P c ∨ w.heap.size ≤ c) w' (.slice ua (pls a b).mag.length uc) (pls a b).mag) ∧ Kept w w' := by
 have q1 := vld_cn a hva
 have q2 := vld_cn b hvb
 refine (plus_any P w a b _ _ ⟨_, rfl, ha⟩ ⟨_, rfl, hb⟩ q1.1 q2.1 (by omega) (by omega) (by omega) (by omega)).mono ?_
 rintro e w' ⟨⟨v, rfl, hv⟩, k⟩
 obtain ⟨s', rfl, hs⟩ := hv
 have hs' := hs
 obtain ⟨ao, c, rfl, -, -, -⟩ := hs
 exact ⟨ao, c, rfl, hs', k⟩
theorem rsame3 (a b : Nm) (la : a.mag.length < 100000000) (lb : b.mag.length < 100000000) (p1 m1 z1 p2 m2 z2 : Bool) (a1 a2 : Option Addr) (c1 c2 : Nat) (w : World) (h : Sl w (.slice a1 a.mag.length c1) a.mag) (h' : Sl w (.slice a2 b.mag.length c2) b.mag) :
  Calls Tryz.prog 54 #[accV a.neg (.slice a1 a.mag.length c1) a.exp p1 m1 z1, accV b.neg (.slice a2 b.mag.length c2) b.exp p2 m2 z2] w fun e w' => e = .returned (.bool (smA a b p1 m1 z1 p2 m2 z2)) ∧ Kept w w' := by
 obtain ⟨R, hR⟩ : ∃ R, R = smA a b p1 m1 z1 p2 m2 z2 := ⟨_, rfl⟩
 rw [← hR]
 have HR : Hid (R = ((p1 == p2) && ((m1 == m2) && ((z1 == z2) && nsA a b)))) := hR
 clear hR
 have KE : Hid (∀ u, Kept w u → Calls Tryz.prog 103 #[.agg #[.bool a.neg, .slice a1 a.mag.length c1, .int .i64 a.exp], .agg #[.bool b.neg, .slice a2 b.mag.length c2, .int .i64 b.exp]] u fun e w' => e = .returned (.bool (nsA a b)) ∧ Kept u w') := fun u k => numSame_any a b la lb a1 a2 c1 c2 u (h.kept k) (h'.kept k)
 generalize nsA a b = dq at *
 generalize a.mag.length = l1 at *
 generalize b.mag.length = l2 at *
 generalize a.neg = n1 at *
 generalize b.neg = n2 at *
 generalize a.exp = x1 at *
 generalize b.exp = x2 at *
 clear h h' la lb
 obtain ⟨X, hX⟩ : ∃ X, X = (w.alloc (.cells #[.bool n1, .slice a1 l1 c1, .int .i64 x1, .bool p1, .bool m1, .bool z1] 26)).alloc (.cells #[.bool n2, .slice a2 l2 c2, .int .i64 x2, .bool p2, .bool m2, .bool z2] 26) := ⟨_, rfl⟩
 have k0 : Kept w X := by rw [hX]; exact ((Kept.refl w).alloc _ _).alloc _ _
 obtain ⟨B, hB⟩ : ∃ B, B = w.heap.size := ⟨_, rfl⟩
 obtain ⟨B1, hB1⟩ : ∃ B, B = w.heap.size + 1 := ⟨_, rfl⟩
 have HA : Hid ((X.cell? ⟨B, 0, none⟩ = some (.bool n1) ∧ X.cell? ⟨B, 1, none⟩ = some (.slice a1 l1 c1) ∧ X.cell? ⟨B, 2, none⟩ = some (.int .i64 x1) ∧ X.cell? ⟨B, 3, none⟩ = some (.bool p1) ∧ X.cell? ⟨B, 4, none⟩ = some (.bool m1) ∧ X.cell? ⟨B, 5, none⟩ = some (.bool z1)) ∧ X.cell? ⟨B1, 0, none⟩ = some (.bool n2) ∧ X.cell? ⟨B1, 1, none⟩ = some (.slice a2 l2 c2) ∧ X.cell? ⟨B1, 2, none⟩ = some (.int .i64 x2) ∧ X.cell? ⟨B1, 3, none⟩ = some (.bool p2) ∧ X.cell? ⟨B1, 4, none⟩ = some (.bool m2) ∧ X.cell? ⟨B1, 5, none⟩ = some (.bool z2)) := by
  rw [hX, hB1, hB]
  refine ⟨⟨?_, ?_, ?_, ?_, ?_, ?_⟩, ?_, ?_, ?_, ?_, ?_, ?_⟩ <;> simp [go_sem]
 go_enter Tryz.func54, Tryz.ntmps54
 go_upto_region 1 with fail
 rw [← hX, ← hB1, ← hB]
 clear hX hB1 hB
 obtain ⟨⟨c0, c1', c2', c3, c4, c5⟩, d0, d1, d2, d3, d4, d5⟩ := HA.out
 clear HA
 cases q0 : (p1 == p2)
 ·go_wp2_with fail
  go_ret
  obtain rfl : R = false := by rw [HR.out, q0]; rfl
  exact ⟨rfl, k0⟩
 cases q1 : (m1 == m2)
 ·go_wp2_with fail
  go_ret
  obtain rfl : R = false := by rw [HR.out, q0, q1]; rfl
  exact ⟨rfl, k0⟩
 cases q2 : (z1 == z2)
 ·go_wp2_with fail
  go_ret
  obtain rfl : R = false := by rw [HR.out, q0, q1, q2]; rfl
  exact ⟨rfl, k0⟩
 go_wp2_with fail
 refine (KE.out _ k0).mono ?_
 rintro e w1 ⟨rfl, k1⟩
 go_wp2_with fail
 go_ret
 obtain rfl : R = dq := by rw [HR.out, q0, q1, q2]; rfl
 exact ⟨rfl, k0.trans k1⟩
theorem radd3 (P : Nat → Prop) (w : World) (q : Nm) (n1 : Bool) (a1 : Option Addr) (l1 c1 : Nat) (x1 : Int) (p m z : Bool) (n2 : Bool) (a2 : Option Addr) (l2 c2 : Nat) (x2 : Int) (hP : ∀ c, P c → c < w.heap.size)
  (KP : Hid (∀ u, Kept w u → Calls Tryz.prog 94 #[.agg #[.bool n1, .slice a1 l1 c1, .int .i64 x1], .agg #[.bool n2, .slice a2 l2 c2, .int .i64 x2]] u fun e w' => ∃ ua uc, e = .returned (.agg #[.bool q.neg, .slice ua q.mag.length uc, .int .i64 q.exp]) ∧ Hid (RLp (fun c => P c ∨ u.heap.size ≤ c) w' (.slice ua q.mag.length uc) q.mag) ∧ Kept u w')) :
  Calls Tryz.prog 51 #[accV n1 (.slice a1 l1 c1) x1 p m z, .agg #[.bool n2, .slice a2 l2 c2, .int .i64 x2]] w fun e w' => ∃ va vc, e = .returned (accV q.neg (.slice va q.mag.length vc) q.exp p m z) ∧ Hid (RLp (fun c => P c ∨ w.heap.size ≤ c) w' (.slice va q.mag.length vc) q.mag) ∧ Kept w w' := by
 obtain ⟨Y, hY⟩ : ∃ X, X = (w.alloc (.cells #[.bool n1, .slice a1 l1 c1, .int .i64 x1, .bool p, .bool m, .bool z] 26)).alloc (.cells #[.bool n2, .slice a2 l2 c2, .int .i64 x2] 24) := ⟨_, rfl⟩
 obtain ⟨X, hX⟩ : ∃ X, X = ((w.alloc (.cells #[.bool n1, .slice a1 l1 c1, .int .i64 x1, .bool p, .bool m, .bool z] 26)).alloc (.cells #[.bool n2, .slice a2 l2 c2, .int .i64 x2] 24)).alloc (.cells #[.bool false, .slice none 0 0, .int .i64 0, .bool false, .bool false, .bool false] 26) := ⟨_, rfl⟩
 have k0 : Kept w X := by rw [hX]; exact (((Kept.refl w).alloc _ _).alloc _ _).alloc _ _
 obtain ⟨B, hB⟩ : ∃ B, B = w.heap.size := ⟨_, rfl⟩
 obtain ⟨B1, hB1⟩ : ∃ B, B = w.heap.size + 1 := ⟨_, rfl⟩
 obtain ⟨B2, hB2⟩ : ∃ B, B = w.heap.size + 1 + 1 := ⟨_, rfl⟩
 have HXs : Hid (X.heap.size = w.heap.size + 3 ∧ B = w.heap.size ∧ B2 = w.heap.size + 2) := ⟨by rw [hX]; simp, hB, by omega⟩
 have HR : Hid (∀ u, Kept X u → _) := acc_res1 (w := Y) 26 B2 (by rw [hY, hB2]; simp) (by rw [hX, hY]; exact Kept.refl _)
 have HA : Hid (∀ u, Kept X u → _) := acc_cells1 n1 (.slice a1 l1 c1) x1 p m z 26 B hB (X := X) (by rw [hX]; exact ((Kept.refl _).alloc _ _).alloc _ _)
 have HF : Hid (∀ o, X.frozen? ⟨B, o, none⟩ = false) := fun o => by rw [hX, hB]; simp [go_sem]
 have HN : Hid (X.cell? ⟨B1, 0, none⟩ = some (.bool n2) ∧ X.cell? ⟨B1, 1, none⟩ = some (.slice a2 l2 c2) ∧ X.cell? ⟨B1, 2, none⟩ = some (.int .i64 x2)) := by
  rw [hX, hB1]
  refine ⟨?_, ?_, ?_⟩ <;> simp [go_sem]
 go_enter Tryz.func51, Tryz.ntmps51
 go_upto_region 1 with fail
 rw [← hX, ← hB2, ← hB1, ← hB]
 clear hX hB1 hB2 hY hB
 obtain ⟨c0, c1', c2', c3, c4, c5⟩ := HA.out _ (Kept.refl _)
 obtain ⟨d0, d1, d2⟩ := HN.out
 go_wp2_with fail
 refine (KP.out _ k0).mono ?_
 rintro e w1 ⟨va, vc, rfl, hs, k1⟩
 clear c0 c1' c2' c3 c4 c5 d0 d1 d2 HN KP
 obtain ⟨c0, c1', c2', c3, c4, c5⟩ := HA.out _ k1
 obtain ⟨r0, r1, r2, r3, r4, r5, r6⟩ := HR.out _ k1
 have fzB : ∀ o, w1.frozen? ⟨B, o, none⟩ = false := fun o => (k1.frozen _).trans (HF.out o)
 have n1' : B2 ≠ B := by have := HXs.out; omega
 have n2' : B ≠ B2 := Ne.symm n1'
 go_wp2_with fail
 refine bodyPost_ret (v := accV q.neg (.slice va q.mag.length vc) q.exp p m z) (by simp [results, Tryz.results51, go_sem, r0, r1, r2, r3, r4, r5, n1', n2']) rfl ⟨va, vc, rfl, ?_, ?_⟩
 ·have hs2 : RLp (fun c => P c ∨ X.heap.size ≤ c) w1 (.slice va q.mag.length vc) q.mag := hs.out
  have hq1 : ∀ c, (P c ∨ X.heap.size ≤ c) → c ≠ B := fun c h => by have := HXs.out; rcases h with h | h; (have := hP c h; omega); omega
  have hq2 : ∀ c, (P c ∨ X.heap.size ≤ c) → c ≠ B2 := fun c h => by have := HXs.out; rcases h with h | h; (have := hP c h; omega); omega
  exact (rlp_six (rlp_tri hs2 B hq1 _ _ _) B2 hq2 _ _ _ _ _ _).imp (fun c h => h.elim .inl (fun h => .inr (by have := HXs.out; omega)))
 ·have hB0 : w.heap.size ≤ B := by have := HXs.out; omega
  exact kept_six1 B2 (by have := HXs.out; omega) ((((k0.trans k1).setCell (p := ⟨B, 0, none⟩) hB0 _).setCell (p := ⟨B, 1, none⟩) hB0 _).setCell (p := ⟨B, 2, none⟩) hB0 _) _ _ _ _ _ _
theorem rneg3 (w : World) (n1 : Bool) (a1 : Option Addr) (l1 c1 : Nat) (x1 : Int) (p m z : Bool) :
  Calls Tryz.prog 53 #[accV n1 (.slice a1 l1 c1) x1 p m z] w fun e w' => e = .returned (accV (if l1 = 0 then n1 else !n1) (.slice a1 l1 c1) x1 m p z) ∧ Kept w w' := by
 have KT : Hid (∀ u, Calls Tryz.prog 102 #[.agg #[.bool n1, .slice a1 l1 c1, .int .i64 x1]] u fun e w' => e = .returned (.agg #[.bool (if l1 = 0 then n1 else !n1), .slice a1 l1 c1, .int .i64 x1]) ∧ Kept u w') := fun u => turned_any n1 a1 l1 c1 x1 u
 generalize (if l1 = 0 then n1 else !n1) = n3 at *
 obtain ⟨Y, hY⟩ : ∃ X, X = w.alloc (.cells #[.bool n1, .slice a1 l1 c1, .int .i64 x1, .bool p, .bool m, .bool z] 26) := ⟨_, rfl⟩
 obtain ⟨X, hX⟩ : ∃ X, X = (w.alloc (.cells #[.bool n1, .slice a1 l1 c1, .int .i64 x1, .bool p, .bool m, .bool z] 26)).alloc (.cells #[.bool false, .slice none 0 0, .int .i64 0, .bool false, .bool false, .bool false] 26) := ⟨_, rfl⟩
 have k0 : Kept w X := by rw [hX]; exact ((Kept.refl w).alloc _ _).alloc _ _
 obtain ⟨B, hB⟩ : ∃ B, B = w.heap.size := ⟨_, rfl⟩
 obtain ⟨B2, hB2⟩ : ∃ B, B = w.heap.size + 1 := ⟨_, rfl⟩
 have HXs : Hid (X.heap.size = w.heap.size + 2 ∧ B = w.heap.size ∧ B2 = w.heap.size + 1) := ⟨by rw [hX]; simp, hB, hB2⟩
 have HR : Hid (∀ u, Kept X u → _) := acc_res1 (w := Y) 26 B2 (by rw [hY, hB2]; simp) (by rw [hX, hY]; exact Kept.refl _)
 have HA0 : Hid (∀ u, Kept X u → _) := acc_cells1 n1 (.slice a1 l1 c1) x1 p m z 26 B hB (X := X) (by rw [hX]; exact (Kept.refl _).alloc _ _)
 have HA : Hid (∀ u, Kept X u → Kept X u ∧ u.cell? ⟨B, 0, none⟩ = some (.bool n1) ∧ u.cell? ⟨B, 1, none⟩ = some (.slice a1 l1 c1) ∧ u.cell? ⟨B, 2, none⟩ = some (.int .i64 x1) ∧ u.cell? ⟨B, 3, none⟩ = some (.bool p) ∧ u.cell? ⟨B, 4, none⟩ = some (.bool m) ∧ u.cell? ⟨B, 5, none⟩ = some (.bool z)) := fun u k => ⟨k, HA0.out u k⟩
 go_enter Tryz.func53, Tryz.ntmps53
 go_upto_region 1 with fail
 rw [← hX, ← hB2, ← hB]
 clear hX hB2 hY hB HA0
 refine wp_region_late [10] (fun u => Kept X u ∧ u.cell? ⟨B, 0, none⟩ = some (.bool n1) ∧ u.cell? ⟨B, 1, none⟩ = some (.slice a1 l1 c1) ∧ u.cell? ⟨B, 2, none⟩ = some (.int .i64 x1) ∧ u.cell? ⟨B, 3, none⟩ = some (.bool p) ∧ u.cell? ⟨B, 4, none⟩ = some (.bool m) ∧ u.cell? ⟨B, 5, none⟩ = some (.bool z)) (by kernel_rfl) (HA.out _ (Kept.refl _).drew) (fun hHeld => ?_)
 refine wpAnyD_take (i := 0) (v := ?_) rfl (by kernel_rfl) (by kernel_rfl) (by kernel_rfl) (by kernel_rfl) (fun _ _ _ h => h) (Or.inl ⟨by rfl, ?hya0⟩) hHeld ?_
 case hya0 => (intro w hSw; (try dsimp only at hSw); go_simp; try (with_reducible rfl))
 (try simp only [Act.put, zA, zB, zC, zD, zE, zF])
 refine wpAnyD_take (i := 1) (v := ?_) rfl (by kernel_rfl) (by kernel_rfl) (by kernel_rfl) (by kernel_rfl) (fun _ _ _ h => h) (Or.inl ⟨by rfl, ?hya1⟩) hHeld ?_
 case hya1 => (intro w hSw; (try dsimp only at hSw); go_simp; try (with_reducible rfl))
 (try simp only [Act.put, zA, zB, zC, zD, zE, zF])
 refine wpAnyD_take (i := 3) (v := ?_) rfl (by kernel_rfl) (by kernel_rfl) (by kernel_rfl) (by kernel_rfl) (fun _ _ _ h => h) (Or.inl ⟨by rfl, ?hya3⟩) hHeld ?_
 case hya3 => (intro w hSw; (try dsimp only at hSw); go_simp; try (with_reducible rfl))
 (try simp only [Act.put, zA, zB, zC, zD, zE, zF])
 refine wpAnyD_take (i := 4) (v := ?_) rfl (by kernel_rfl) (by kernel_rfl) (by kernel_rfl) (by kernel_rfl) (fun _ _ _ h => h) (Or.inl ⟨by rfl, ?hya4⟩) hHeld ?_
 case hya4 => (intro w hSw; (try dsimp only at hSw); go_simp; try (with_reducible rfl))
 (try simp only [Act.put, zA, zB, zC, zD, zE, zF])
 refine wpAnyD_take (i := 5) (v := ?_) rfl (by kernel_rfl) (by kernel_rfl) (by kernel_rfl) (by kernel_rfl) (fun _ _ _ h => h) (Or.inl ⟨by rfl, ?hya5⟩) hHeld ?_
 case hya5 => (intro w hSw; (try dsimp only at hSw); go_simp; try (with_reducible rfl))
 (try simp only [Act.put, zA, zB, zC, zD, zE, zF])
 refine wpAnyD_take (i := 6) (v := ?_) rfl (by kernel_rfl) (by kernel_rfl) (by kernel_rfl) (by kernel_rfl) (fun _ _ _ h => h) (Or.inl ⟨by rfl, ?hya6⟩) hHeld ?_
 case hya6 => (intro w hSw; (try dsimp only at hSw); go_simp; try (with_reducible rfl))
 (try simp only [Act.put, zA, zB, zC, zD, zE, zF])
 refine wpAnyD_take (i := 7) (v := ?_) rfl (by kernel_rfl) (by kernel_rfl) (by kernel_rfl) (by kernel_rfl) (fun _ _ _ h => h) (Or.inl ⟨by rfl, ?hya7⟩) hHeld ?_
 case hya7 => (intro w hSw; (try dsimp only at hSw); go_simp; try (with_reducible rfl))
 (try simp only [Act.put, zA, zB, zC, zD, zE, zF])
 refine wpAnyD_take (i := 8) (v := ?_) rfl (by kernel_rfl) (by kernel_rfl) (by kernel_rfl) (by kernel_rfl) (fun _ _ _ h => h) (Or.inl ⟨by rfl, ?hya8⟩) hHeld ?_
 case hya8 => (intro w hSw; (try dsimp only at hSw); go_simp; try (with_reducible rfl))
 (try simp only [Act.put, zA, zB, zC, zD, zE, zF])
 refine wpAnyD_step (i := 2) (by kernel_rfl) rfl (fun K hK9 => ?_)
 go_simp
 go_wp2_with fail
 refine (KT.out _).mono ?_
 rintro e u1 ⟨rfl, k1⟩
 refine hK9.out _ _ (HA.out _ (hHeld.1.trans k1)) (fun hH1 => ?_)
 clear hK9 K
 refine wpAnyD_take (i := 9) (v := ?_) rfl (by kernel_rfl) (by kernel_rfl) (by kernel_rfl) (by kernel_rfl) (fun _ _ _ h => h) (Or.inl ⟨by rfl, ?hyb9⟩) hH1 ?_
 case hyb9 => (intro w hSw; (try dsimp only at hSw); go_simp; try (with_reducible rfl))
 (try simp only [Act.put, zA, zB, zC, zD, zE, zF])
 have kX1 : Kept X u1 := hH1.1
 obtain ⟨r0, r1, r2, r3, r4, r5, r6⟩ := HR.out _ kX1
 refine wpAnyD_late (i := 10) (by kernel_rfl) rfl rfl (fun K hK9 => ?_)
 go_simp
 refine hK9.out _ _ ?_
 clear hK9 K
 (try simp only [Act.put, zA, zB, zC, zD, zE, zF])
 refine wpAnyD_done (by kernel_rfl) ?_ _
 (try simp only [Act.put, zA, zB, zC, zD, zE, zF])
 go_wp2_with fail
 exact bodyPost_ret (v := accV n3 (.slice a1 l1 c1) x1 m p z) (by simp [results, Tryz.results53, go_sem, r0, r1, r2, r3, r4, r5]) rfl ⟨rfl, kept_six1 B2 (by have := HXs.out; omega) (k0.trans kX1) _ _ _ _ _ _⟩
theorem ranswer3 (x : Nm) (hR : Rg x.mag) (hlen : x.mag.length < 100000000) (p m z : Bool) (ao : Option Addr) (c : Nat) (w : World) (h : Sl w (.slice ao x.mag.length c) x.mag) :
  Calls Tryz.prog 98 #[accV x.neg (.slice ao x.mag.length c) x.exp p m z] w fun e w' => e = .returned (.tuple #[(if vld x = true then accV x.neg (.slice ao x.mag.length c) x.exp p m z else accZ), .int .i64 (if vld x = true then 0 else 2)]) ∧ Kept w w' := by
 have KV : Hid (∀ u, Kept w u → Calls Tryz.prog 39 #[accV x.neg (.slice ao x.mag.length c) x.exp p m z] u fun e w' => e = .returned (.bool (vld x)) ∧ Kept u w') := fun u k => rvalid3 x.neg ao x.mag.length c x.exp p m z (vld x) u (fun t kt => rvalid2_any x hR hlen _ t ⟨_, rfl, (h.kept k).kept kt⟩)
 clear hR hlen h
 generalize vld x = v at *
 generalize x.mag.length = l at *
 generalize x.neg = ng at *
 generalize x.exp = xx at *
 obtain ⟨Y, hY⟩ : ∃ X, X = w.alloc (.cells #[.bool ng, .slice ao l c, .int .i64 xx, .bool p, .bool m, .bool z] 26) := ⟨_, rfl⟩
 obtain ⟨X, hX⟩ : ∃ X, X = (w.alloc (.cells #[.bool ng, .slice ao l c, .int .i64 xx, .bool p, .bool m, .bool z] 26)).alloc (.cells #[.bool false, .slice none 0 0, .int .i64 0, .bool false, .bool false, .bool false] 26) := ⟨_, rfl⟩
 have k0 : Kept w X := by rw [hX]; exact ((Kept.refl w).alloc _ _).alloc _ _
 obtain ⟨B, hB⟩ : ∃ B, B = w.heap.size := ⟨_, rfl⟩
 obtain ⟨B2, hB2⟩ : ∃ B, B = w.heap.size + 1 := ⟨_, rfl⟩
 have HXs : Hid (w.heap.size ≤ B2) := by rw [hB2]; exact Nat.le_succ _
 have HR : Hid (∀ u, Kept X u → _) := acc_res1 (w := Y) 26 B2 (by rw [hY, hB2]; simp) (by rw [hX, hY]; exact Kept.refl _)
 have HA : Hid (∀ u, Kept X u → _) := acc_cells1 ng (.slice ao l c) xx p m z 26 B hB (X := X) (by rw [hX]; exact (Kept.refl _).alloc _ _)
 go_enter Tryz.func98, Tryz.ntmps98
 go_upto_region 1 with fail
 rw [← hX, ← hB2, ← hB]
 clear hX hB2 hY hB
 obtain ⟨c0, c1, c2, c3, c4, c5⟩ := HA.out _ (Kept.refl _)
 go_wp2_with fail
 refine (KV.out _ k0).mono ?_
 rintro e w1 ⟨rfl, k1⟩
 clear c0 c1 c2 c3 c4 c5
 obtain ⟨c0, c1, c2, c3, c4, c5⟩ := HA.out _ k1
 obtain ⟨r0, r1, r2, r3, r4, r5, r6⟩ := HR.out _ k1
 cases v
 ·go_wp2_with fail
  exact bodyPost_ret (v := .tuple #[accZ, .int .i64 2]) (by simp [results, Tryz.results98, go_sem, r0, r1, r2, r3, r4, r5]) rfl ⟨rfl, kept_six1 B2 HXs.out (k0.trans k1) _ _ _ _ _ _⟩
 ·go_wp2_with fail
  exact bodyPost_ret (v := .tuple #[accV ng (.slice ao l c) xx p m z, .int .i64 0]) (by simp [results, Tryz.results98, go_sem, r0, r1, r2, r3, r4, r5]) rfl ⟨rfl, kept_six1 B2 HXs.out (k0.trans k1) _ _ _ _ _ _⟩
theorem is3_ok (kp : Value) (n1 : Bool) (a1 : Option Addr) (l1 c1 : Nat) (x1 : Int) (p m z : Bool) (f : Int) (n2 : Bool) (a2 : Option Addr) (l2 c2 : Nat) (x2 : Int) (p2 m2 z2 : Bool) (n3 : Bool) (a3 : Option Addr) (l3 c3' : Nat) (x3 : Int) (w : World) (Post : World → Prop)
  (KA : Hid (∀ u, Kept w u → Calls Tryz.prog 98 #[accV n2 (.slice a2 l2 c2) x2 p2 m2 z2] u fun e w' => e = .returned (.tuple #[accV n3 (.slice a3 l3 c3') x3 p m z, .int .i64 f]) ∧ Kept u w'))
  (KS : Hid (∀ u, Kept w u → Calls Tryz.prog 99 #[.agg #[.bool n1, .slice a1 l1 c1, .int .i64 x1], .agg #[.bool n3, .slice a3 l3 c3', .int .i64 x3]] u fun e w' => e = .returned (.bool true) ∧ Kept u w'))
  (KK : Hid (∀ u, Kept w u → Calls Tryz.prog 100 #[kp, .slice a1 l1 c1, .slice a3 l3 c3'] u fun e w' => e = .returned (.bool true) ∧ Post w')) :
  Calls Tryz.prog 47 #[kp, accV n1 (.slice a1 l1 c1) x1 p m z, .int .i64 f, .int .i64 0, accV n2 (.slice a2 l2 c2) x2 p2 m2 z2] w fun e w' => e = .returned (.bool true) ∧ Post w' := by
 obtain ⟨Y, hY⟩ : ∃ X, X = w.alloc (.cells #[.bool n1, .slice a1 l1 c1, .int .i64 x1, .bool p, .bool m, .bool z] 26) := ⟨_, rfl⟩
 obtain ⟨X, hX⟩ : ∃ X, X = (w.alloc (.cells #[.bool n1, .slice a1 l1 c1, .int .i64 x1, .bool p, .bool m, .bool z] 26)).alloc (.cells #[.bool n2, .slice a2 l2 c2, .int .i64 x2, .bool p2, .bool m2, .bool z2] 26) := ⟨_, rfl⟩
 have k0 : Kept w X := by rw [hX]; exact ((Kept.refl w).alloc _ _).alloc _ _
 obtain ⟨B, hB⟩ : ∃ B, B = w.heap.size := ⟨_, rfl⟩
 obtain ⟨B2, hB2⟩ : ∃ B, B = w.heap.size + 1 := ⟨_, rfl⟩
 have HXs : Hid (X.heap.size = w.heap.size + 2 ∧ B = w.heap.size ∧ B2 = w.heap.size + 1) := ⟨by rw [hX]; simp, hB, hB2⟩
 have HA : Hid (∀ u, Kept X u → _) := acc_cells1 n1 (.slice a1 l1 c1) x1 p m z 26 B hB (X := X) (by rw [hX]; exact (Kept.refl _).alloc _ _)
 have HW : Hid (∀ u, Kept X u → _) := acc_cells1 n2 (.slice a2 l2 c2) x2 p2 m2 z2 26 (w := Y) B2 (by rw [hY, hB2]; simp) (X := X) (by rw [hX, hY]; exact Kept.refl _)
 have HF : Hid (∀ o, X.frozen? ⟨B2, o, none⟩ = false) := fun o => by rw [hX, hB2]; simp [go_sem]
 go_enter Tryz.func47, Tryz.ntmps47
 go_upto_region 1 with fail
 rw [← hX, ← hB2, ← hB]
 clear hX hB2 hY hB
 obtain ⟨d0, d1, d2, d3, d4, d5⟩ := HW.out _ (Kept.refl _)
 go_wp2_with fail
 refine (KA.out _ k0).mono ?_
 rintro e u1 ⟨rfl, k1⟩
 clear d0 d1 d2 d3 d4 d5
 obtain ⟨d0, d1, d2, d3, d4, d5⟩ := HW.out _ k1
 have dz : ∀ o, u1.frozen? ⟨B2, o, none⟩ = false := fun o => (k1.frozen _).trans (HF.out o)
 obtain ⟨E, hE⟩ : ∃ D, D = Go.Proofs.YtoflafgbbjinpaaGreatDoor.six u1 B2 (.bool n3) (.slice a3 l3 c3') (.int .i64 x3) (.bool p) (.bool m) (.bool z) := ⟨_, rfl⟩
 have kE : Kept w E := by rw [hE]; exact kept_six1 B2 (by have := HXs.out; omega) (k0.trans k1) _ _ _ _ _ _
 have hne : B ≠ B2 := by have := HXs.out; omega
 have HE : Hid (∀ u, Kept E u → (u.cell? ⟨B, 0, none⟩ = some (.bool n1) ∧ u.cell? ⟨B, 1, none⟩ = some (.slice a1 l1 c1) ∧ u.cell? ⟨B, 2, none⟩ = some (.int .i64 x1) ∧ u.cell? ⟨B, 3, none⟩ = some (.bool p) ∧ u.cell? ⟨B, 4, none⟩ = some (.bool m) ∧ u.cell? ⟨B, 5, none⟩ = some (.bool z)) ∧ u.cell? ⟨B2, 0, none⟩ = some (.bool n3) ∧ u.cell? ⟨B2, 1, none⟩ = some (.slice a3 l3 c3') ∧ u.cell? ⟨B2, 2, none⟩ = some (.int .i64 x3) ∧ u.cell? ⟨B2, 3, none⟩ = some (.bool p) ∧ u.cell? ⟨B2, 4, none⟩ = some (.bool m) ∧ u.cell? ⟨B2, 5, none⟩ = some (.bool z)) := fun u ku => by
  have hs1 : B < u1.heap.size := by have := k1.below.size; have := HXs.out; omega
  have hs2 : B2 < u1.heap.size := by have := k1.below.size; have := HXs.out; omega
  obtain ⟨g0, g1, g2, g3, g4, g5⟩ := HA.out _ k1
  obtain ⟨d0, d1, d2, d3, d4, d5⟩ := HW.out _ k1
  rw [hE] at ku
  refine ⟨⟨?_, ?_, ?_, ?_, ?_, ?_⟩, ?_, ?_, ?_, ?_, ?_, ?_⟩
  all_goals first
   | exact (ku.below.cell (by simpa using hs1)).trans (by simp [go_sem, g0, g1, g2, g3, g4, g5, d0, d1, d2, d3, d4, d5, hne])
   | exact (ku.below.cell (by simpa using hs2)).trans (by simp [go_sem, g0, g1, g2, g3, g4, g5, d0, d1, d2, d3, d4, d5, hne])
 go_upto_region 4 with fail
 have e4 := hE
 unfold Go.Proofs.YtoflafgbbjinpaaGreatDoor.six at e4
 rw [← e4]
 clear hE e4 HA HW HF d0 d1 d2 d3 d4 d5 dz
 obtain ⟨⟨c0, c1', c2', c3, c4, c5⟩, d0, d1, d2, d3, d4, d5⟩ := HE.out _ (Kept.refl _)
 have ep : (p == p) = true := by cases p <;> rfl
 have em : (m == m) = true := by cases m <;> rfl
 have ez : (z == z) = true := by cases z <;> rfl
 have ef : (f == f) = true := by simp
 go_wp2_with fail
 refine (KS.out _ kE).mono ?_
 rintro e u2 ⟨rfl, k2⟩
 clear c0 c1' c2' c3 c4 c5 d0 d1 d2 d3 d4 d5
 obtain ⟨⟨c0, c1', c2', c3, c4, c5⟩, d0, d1, d2, d3, d4, d5⟩ := HE.out _ k2
 go_wp2_with fail
 refine (KK.out _ (kE.trans k2)).mono ?_
 rintro e u3 ⟨rfl, hp⟩
 go_wp2_with fail
 go_ret
 exact ⟨rfl, hp⟩
theorem is3_bad (kp : Value) (f : Int) (hf : f ≠ 0) (n2 : Bool) (a2 : Option Addr) (l2 c2 : Nat) (x2 : Int) (p2 m2 z2 : Bool) (w : World) (Post : World → Prop) (n1 : Bool) (a1 : Option Addr) (l1 c1 : Nat) (x1 : Int) (p m z : Bool) (hp : p = false) (hm : m = false) (hz : z = false)
  (KS : Hid (∀ u, Kept w u → Calls Tryz.prog 99 #[.agg #[.bool n1, .slice a1 l1 c1, .int .i64 x1], .agg #[.bool false, .slice none 0 0, .int .i64 0]] u fun e w' => e = .returned (.bool true) ∧ Kept u w'))
  (KK : Hid (∀ u, Kept w u → Calls Tryz.prog 100 #[kp, .slice a1 l1 c1, .slice none 0 0] u fun e w' => e = .returned (.bool true) ∧ Post w')) :
  Calls Tryz.prog 47 #[kp, accV n1 (.slice a1 l1 c1) x1 p m z, .int .i64 f, .int .i64 f, accV n2 (.slice a2 l2 c2) x2 p2 m2 z2] w fun e w' => e = .returned (.bool true) ∧ Post w' := by
 subst hp hm hz
 have hf2 : (f == 0) = false := by simpa using hf
 obtain ⟨Y, hY⟩ : ∃ X, X = w.alloc (.cells #[.bool n1, .slice a1 l1 c1, .int .i64 x1, .bool false, .bool false, .bool false] 26) := ⟨_, rfl⟩
 obtain ⟨X, hX⟩ : ∃ X, X = (w.alloc (.cells #[.bool n1, .slice a1 l1 c1, .int .i64 x1, .bool false, .bool false, .bool false] 26)).alloc (.cells #[.bool n2, .slice a2 l2 c2, .int .i64 x2, .bool p2, .bool m2, .bool z2] 26) := ⟨_, rfl⟩
 have k0 : Kept w X := by rw [hX]; exact ((Kept.refl w).alloc _ _).alloc _ _
 obtain ⟨B, hB⟩ : ∃ B, B = w.heap.size := ⟨_, rfl⟩
 obtain ⟨B2, hB2⟩ : ∃ B, B = w.heap.size + 1 := ⟨_, rfl⟩
 have HXs : Hid (X.heap.size = w.heap.size + 2 ∧ B = w.heap.size ∧ B2 = w.heap.size + 1) := ⟨by rw [hX]; simp, hB, hB2⟩
 have HA : Hid (∀ u, Kept X u → _) := acc_cells1 n1 (.slice a1 l1 c1) x1 false false false 26 B hB (X := X) (by rw [hX]; exact (Kept.refl _).alloc _ _)
 have HW : Hid (∀ u, Kept X u → _) := acc_cells1 n2 (.slice a2 l2 c2) x2 p2 m2 z2 26 (w := Y) B2 (by rw [hY, hB2]; simp) (X := X) (by rw [hX, hY]; exact Kept.refl _)
 have HF : Hid (∀ o, X.frozen? ⟨B2, o, none⟩ = false) := fun o => by rw [hX, hB2]; simp [go_sem]
 go_enter Tryz.func47, Tryz.ntmps47
 go_upto_region 1 with fail
 rw [← hX, ← hB2, ← hB]
 clear hX hB2 hY hB
 have k1 : Kept X X := Kept.refl _
 obtain ⟨d0, d1, d2, d3, d4, d5⟩ := HW.out _ k1
 have dz : ∀ o, X.frozen? ⟨B2, o, none⟩ = false := HF.out
 obtain ⟨E, hE⟩ : ∃ D, D = Go.Proofs.YtoflafgbbjinpaaGreatDoor.six X B2 (.bool false) (.slice none 0 0) (.int .i64 0) (.bool false) (.bool false) (.bool false) := ⟨_, rfl⟩
 have kE : Kept w E := by rw [hE]; exact kept_six1 B2 (by have := HXs.out; omega) (k0.trans k1) _ _ _ _ _ _
 have hne : B ≠ B2 := by have := HXs.out; omega
 have HE : Hid (∀ u, Kept E u → (u.cell? ⟨B, 0, none⟩ = some (.bool n1) ∧ u.cell? ⟨B, 1, none⟩ = some (.slice a1 l1 c1) ∧ u.cell? ⟨B, 2, none⟩ = some (.int .i64 x1) ∧ u.cell? ⟨B, 3, none⟩ = some (.bool false) ∧ u.cell? ⟨B, 4, none⟩ = some (.bool false) ∧ u.cell? ⟨B, 5, none⟩ = some (.bool false)) ∧ u.cell? ⟨B2, 0, none⟩ = some (.bool false) ∧ u.cell? ⟨B2, 1, none⟩ = some (.slice none 0 0) ∧ u.cell? ⟨B2, 2, none⟩ = some (.int .i64 0) ∧ u.cell? ⟨B2, 3, none⟩ = some (.bool false) ∧ u.cell? ⟨B2, 4, none⟩ = some (.bool false) ∧ u.cell? ⟨B2, 5, none⟩ = some (.bool false)) := fun u ku => by
  have hs1 : B < X.heap.size := by have := k1.below.size; have := HXs.out; omega
  have hs2 : B2 < X.heap.size := by have := k1.below.size; have := HXs.out; omega
  obtain ⟨g0, g1, g2, g3, g4, g5⟩ := HA.out _ k1
  obtain ⟨d0, d1, d2, d3, d4, d5⟩ := HW.out _ k1
  rw [hE] at ku
  refine ⟨⟨?_, ?_, ?_, ?_, ?_, ?_⟩, ?_, ?_, ?_, ?_, ?_, ?_⟩
  all_goals first
   | exact (ku.below.cell (by simpa using hs1)).trans (by simp [go_sem, g0, g1, g2, g3, g4, g5, d0, d1, d2, d3, d4, d5, hne])
   | exact (ku.below.cell (by simpa using hs2)).trans (by simp [go_sem, g0, g1, g2, g3, g4, g5, d0, d1, d2, d3, d4, d5, hne])
 go_upto_region 4 with fail
 have e4 := hE
 unfold Go.Proofs.YtoflafgbbjinpaaGreatDoor.six at e4
 rw [← e4]
 clear hE e4 HA HW HF d0 d1 d2 d3 d4 d5 dz
 obtain ⟨⟨c0, c1', c2', c3, c4, c5⟩, d0, d1, d2, d3, d4, d5⟩ := HE.out _ (Kept.refl _)
 have ef : (f == f) = true := by simp
 go_wp2_with fail
 refine (KS.out _ kE).mono ?_
 rintro e u2 ⟨rfl, k2⟩
 clear c0 c1' c2' c3 c4 c5 d0 d1 d2 d3 d4 d5
 obtain ⟨⟨c0, c1', c2', c3, c4, c5⟩, d0, d1, d2, d3, d4, d5⟩ := HE.out _ k2
 go_wp2_with fail
 refine (KK.out _ (kE.trans k2)).mono ?_
 rintro e u3 ⟨rfl, hp⟩
 go_wp2_with fail
 go_ret
 exact ⟨rfl, hp⟩
end Go.Proofs.YtoflafgbbjinpaaGreatDoor
