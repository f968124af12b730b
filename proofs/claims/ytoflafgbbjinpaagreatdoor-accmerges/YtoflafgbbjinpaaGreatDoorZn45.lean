/- For AccMerges: the document's Join. -/
import Derived.Test.YtoflafgbbjinpaaGreatDoorZn44
namespace Go.Proofs.YtoflafgbbjinpaaGreatDoor
open Go.ChangeShapes Go.WideShapes Go.ChangeAt Go.RowKit
set_option linter.unusedVariables false
set_option linter.unusedSimpArgs false
set_option maxHeartbeats 16000000
set_option maxRecDepth 100000
theorem rjoin3 (P : Nat → Prop) (w : World) (q : Nm) (n1 : Bool) (a1 : Option Addr) (l1 c1 : Nat) (x1 : Int) (p1 m1 z1 : Bool) (n2 : Bool) (a2 : Option Addr) (l2 c2 : Nat) (x2 : Int) (p2 m2 z2 : Bool) (hP : ∀ c, P c → c < w.heap.size)
  (KP : Hid (∀ u, Kept w u → Calls Tryz.prog 94 #[.agg #[.bool n1, .slice a1 l1 c1, .int .i64 x1], .agg #[.bool n2, .slice a2 l2 c2, .int .i64 x2]] u fun e w' => ∃ ua uc, e = .returned (.agg #[.bool q.neg, .slice ua q.mag.length uc, .int .i64 q.exp]) ∧ Hid (RLp (fun c => P c ∨ u.heap.size ≤ c) w' (.slice ua q.mag.length uc) q.mag) ∧ Kept u w')) :
  Calls Tryz.prog 52 #[accV n1 (.slice a1 l1 c1) x1 p1 m1 z1, accV n2 (.slice a2 l2 c2) x2 p2 m2 z2] w fun e w' => ∃ va vc, e = .returned (accV q.neg (.slice va q.mag.length vc) q.exp (p1 || p2) (m1 || m2) (z1 || z2)) ∧ Hid (RLp (fun c => P c ∨ w.heap.size ≤ c) w' (.slice va q.mag.length vc) q.mag) ∧ Kept w w' := by
 obtain ⟨Y, hY⟩ : ∃ X, X = (w.alloc (.cells #[.bool n1, .slice a1 l1 c1, .int .i64 x1, .bool p1, .bool m1, .bool z1] 26)).alloc (.cells #[.bool n2, .slice a2 l2 c2, .int .i64 x2, .bool p2, .bool m2, .bool z2] 26) := ⟨_, rfl⟩
 obtain ⟨Y1, hY1⟩ : ∃ X, X = w.alloc (.cells #[.bool n1, .slice a1 l1 c1, .int .i64 x1, .bool p1, .bool m1, .bool z1] 26) := ⟨_, rfl⟩
 obtain ⟨X, hX⟩ : ∃ X, X = ((w.alloc (.cells #[.bool n1, .slice a1 l1 c1, .int .i64 x1, .bool p1, .bool m1, .bool z1] 26)).alloc (.cells #[.bool n2, .slice a2 l2 c2, .int .i64 x2, .bool p2, .bool m2, .bool z2] 26)).alloc (.cells #[.bool false, .slice none 0 0, .int .i64 0, .bool false, .bool false, .bool false] 26) := ⟨_, rfl⟩
 have k0 : Kept w X := by rw [hX]; exact (((Kept.refl w).alloc _ _).alloc _ _).alloc _ _
 obtain ⟨B, hB⟩ : ∃ B, B = w.heap.size := ⟨_, rfl⟩
 obtain ⟨B1, hB1⟩ : ∃ B, B = w.heap.size + 1 := ⟨_, rfl⟩
 obtain ⟨B2, hB2⟩ : ∃ B, B = w.heap.size + 1 + 1 := ⟨_, rfl⟩
 have HXs : Hid (X.heap.size = w.heap.size + 3 ∧ B = w.heap.size ∧ B2 = w.heap.size + 2) := ⟨by rw [hX]; simp, hB, by omega⟩
 have HR : Hid (∀ u, Kept X u → _) := acc_res1 (w := Y) 26 B2 (by rw [hY, hB2]; simp) (by rw [hX, hY]; exact Kept.refl _)
 have HA0 : Hid (∀ u, Kept X u → _) := acc_cells1 n1 (.slice a1 l1 c1) x1 p1 m1 z1 26 B hB (X := X) (by rw [hX]; exact ((Kept.refl _).alloc _ _).alloc _ _)
 have HB0 : Hid (∀ u, Kept X u → _) := acc_cells1 n2 (.slice a2 l2 c2) x2 p2 m2 z2 26 (w := Y1) B1 (by rw [hY1, hB1]; simp) (X := X) (by rw [hX, hY1]; exact (Kept.refl _).alloc _ _)
 have HA : Hid (∀ u, Kept X u → Kept X u ∧ (u.cell? ⟨B, 0, none⟩ = some (.bool n1) ∧ u.cell? ⟨B, 1, none⟩ = some (.slice a1 l1 c1) ∧ u.cell? ⟨B, 2, none⟩ = some (.int .i64 x1) ∧ u.cell? ⟨B, 3, none⟩ = some (.bool p1) ∧ u.cell? ⟨B, 4, none⟩ = some (.bool m1) ∧ u.cell? ⟨B, 5, none⟩ = some (.bool z1)) ∧ u.cell? ⟨B1, 0, none⟩ = some (.bool n2) ∧ u.cell? ⟨B1, 1, none⟩ = some (.slice a2 l2 c2) ∧ u.cell? ⟨B1, 2, none⟩ = some (.int .i64 x2) ∧ u.cell? ⟨B1, 3, none⟩ = some (.bool p2) ∧ u.cell? ⟨B1, 4, none⟩ = some (.bool m2) ∧ u.cell? ⟨B1, 5, none⟩ = some (.bool z2)) := fun u k => ⟨k, HA0.out u k, HB0.out u k⟩
 obtain ⟨FP, hFP⟩ : ∃ f, f = (p1 || p2) := ⟨_, rfl⟩
 obtain ⟨FM, hFM⟩ : ∃ f, f = (m1 || m2) := ⟨_, rfl⟩
 obtain ⟨FZ, hFZ⟩ : ∃ f, f = (z1 || z2) := ⟨_, rfl⟩
 have HFl : Hid (FP = (p1 || p2) ∧ FM = (m1 || m2) ∧ FZ = (z1 || z2)) := ⟨hFP, hFM, hFZ⟩
 rw [← hFP, ← hFM, ← hFZ]
 have HEnd : Hid (∀ (u1 : World) (va : Option Addr) (vc : Nat) (v0 v1 v2 v3 v4 v5 : Value), Kept X u1 → ∀ (hX0 : World), Kept X hX0 → RLp (fun c => P c ∨ hX0.heap.size ≤ c) u1 (.slice va q.mag.length vc) q.mag → RLp (fun c => P c ∨ w.heap.size ≤ c) (Go.Proofs.YtoflafgbbjinpaaGreatDoor.six u1 B2 v0 v1 v2 v3 v4 v5) (.slice va q.mag.length vc) q.mag ∧ Kept w (Go.Proofs.YtoflafgbbjinpaaGreatDoor.six u1 B2 v0 v1 v2 v3 v4 v5)) := fun u1 va vc v0 v1 v2 v3 v4 v5 k1 X0 kX hs => by
  have hsz := kX.below.size
  have hq2 : ∀ c, (P c ∨ X0.heap.size ≤ c) → c ≠ B2 := fun c h => by have := HXs.out; rcases h with h | h; (have := hP c h; omega); omega
  exact ⟨(rlp_six hs B2 hq2 _ _ _ _ _ _).imp (fun c h => h.elim .inl (fun h => .inr (by have := HXs.out; omega))), kept_six1 B2 (by have := HXs.out; omega) (k0.trans k1) _ _ _ _ _ _⟩
 clear hFP hFM hFZ
 cases p1 <;> cases m1 <;> cases z1
 ·skip
  go_enter Tryz.func52, Tryz.ntmps52
  go_upto_region 1 with fail
  rw [← hX, ← hB2, ← hB1, ← hB]
  clear hX hB2 hY hY1 hB hB1 HA0 HB0
  refine wp_region_late [24] (fun u => Kept X u ∧ (u.cell? ⟨B, 0, none⟩ = some (.bool n1) ∧ u.cell? ⟨B, 1, none⟩ = some (.slice a1 l1 c1) ∧ u.cell? ⟨B, 2, none⟩ = some (.int .i64 x1) ∧ u.cell? ⟨B, 3, none⟩ = some (.bool false) ∧ u.cell? ⟨B, 4, none⟩ = some (.bool false) ∧ u.cell? ⟨B, 5, none⟩ = some (.bool false)) ∧ u.cell? ⟨B1, 0, none⟩ = some (.bool n2) ∧ u.cell? ⟨B1, 1, none⟩ = some (.slice a2 l2 c2) ∧ u.cell? ⟨B1, 2, none⟩ = some (.int .i64 x2) ∧ u.cell? ⟨B1, 3, none⟩ = some (.bool p2) ∧ u.cell? ⟨B1, 4, none⟩ = some (.bool m2) ∧ u.cell? ⟨B1, 5, none⟩ = some (.bool z2)) (by kernel_rfl) (HA.out _ (Kept.refl _).drew) (fun hHeld => ?_)
  refine wpAnyD_take (i := 0) (v := ?_) rfl (by kernel_rfl) (by kernel_rfl) (by kernel_rfl) (by kernel_rfl) (fun _ _ _ h => h) (Or.inl ⟨by rfl, ?hya0000⟩) hHeld ?_
  case hya0000 => (intro w hSw; (try dsimp only at hSw); go_simp; try (with_reducible rfl))
  (try simp only [Act.put, zA, zB, zC, zD, zE, zF])
  refine wpAnyD_take (i := 1) (v := ?_) rfl (by kernel_rfl) (by kernel_rfl) (by kernel_rfl) (by kernel_rfl) (fun _ _ _ h => h) (Or.inl ⟨by rfl, ?hya0001⟩) hHeld ?_
  case hya0001 => (intro w hSw; (try dsimp only at hSw); go_simp; try (with_reducible rfl))
  (try simp only [Act.put, zA, zB, zC, zD, zE, zF])
  refine wpAnyD_take (i := 2) (v := ?_) rfl (by kernel_rfl) (by kernel_rfl) (by kernel_rfl) (by kernel_rfl) (fun _ _ _ h => h) (Or.inl ⟨by rfl, ?hya0002⟩) hHeld ?_
  case hya0002 => (intro w hSw; (try dsimp only at hSw); go_simp; try (with_reducible rfl))
  (try simp only [Act.put, zA, zB, zC, zD, zE, zF])
  refine wpAnyD_take (i := 3) (v := ?_) rfl (by kernel_rfl) (by kernel_rfl) (by kernel_rfl) (by kernel_rfl) (fun _ _ _ h => h) (Or.inl ⟨by rfl, ?hya0003⟩) hHeld ?_
  case hya0003 => (intro w hSw; (try dsimp only at hSw); go_simp; try (with_reducible rfl))
  (try simp only [Act.put, zA, zB, zC, zD, zE, zF])
  refine wpAnyD_take (i := 5) (v := ?_) rfl (by kernel_rfl) (by kernel_rfl) (by kernel_rfl) (by kernel_rfl) (fun _ _ _ h => h) (Or.inl ⟨by rfl, ?hya0005⟩) hHeld ?_
  case hya0005 => (intro w hSw; (try dsimp only at hSw); go_simp; try (with_reducible rfl))
  (try simp only [Act.put, zA, zB, zC, zD, zE, zF])
  refine wpAnyD_take (i := 6) (v := ?_) rfl (by kernel_rfl) (by kernel_rfl) (by kernel_rfl) (by kernel_rfl) (fun _ _ _ h => h) (Or.inl ⟨by rfl, ?hya0006⟩) hHeld ?_
  case hya0006 => (intro w hSw; (try dsimp only at hSw); go_simp; try (with_reducible rfl))
  (try simp only [Act.put, zA, zB, zC, zD, zE, zF])
  refine wpAnyD_take (i := 11) (v := ?_) rfl (by kernel_rfl) (by kernel_rfl) (by kernel_rfl) (by kernel_rfl) (fun _ _ _ h => h) (Or.inl ⟨by rfl, ?hya00011⟩) hHeld ?_
  case hya00011 => (intro w hSw; (try dsimp only at hSw); go_simp; try (with_reducible rfl))
  (try simp only [Act.put, zA, zB, zC, zD, zE, zF])
  refine wpAnyD_take (i := 12) (v := ?_) rfl (by kernel_rfl) (by kernel_rfl) (by kernel_rfl) (by kernel_rfl) (fun _ _ _ h => h) (Or.inl ⟨by rfl, ?hya00012⟩) hHeld ?_
  case hya00012 => (intro w hSw; (try dsimp only at hSw); go_simp; try (with_reducible rfl))
  (try simp only [Act.put, zA, zB, zC, zD, zE, zF])
  refine wpAnyD_take (i := 17) (v := ?_) rfl (by kernel_rfl) (by kernel_rfl) (by kernel_rfl) (by kernel_rfl) (fun _ _ _ h => h) (Or.inl ⟨by rfl, ?hya00017⟩) hHeld ?_
  case hya00017 => (intro w hSw; (try dsimp only at hSw); go_simp; try (with_reducible rfl))
  (try simp only [Act.put, zA, zB, zC, zD, zE, zF])
  refine wpAnyD_take (i := 18) (v := ?_) rfl (by kernel_rfl) (by kernel_rfl) (by kernel_rfl) (by kernel_rfl) (fun _ _ _ h => h) (Or.inl ⟨by rfl, ?hya00018⟩) hHeld ?_
  case hya00018 => (intro w hSw; (try dsimp only at hSw); go_simp; try (with_reducible rfl))
  (try simp only [Act.put, zA, zB, zC, zD, zE, zF])
  have kD0 : Kept X _ := hHeld.1
  refine wpAnyD_step (i := 4) (by kernel_rfl) rfl (fun K hK9 => ?_)
  go_simp
  go_wp2_with fail
  refine (KP.out _ (k0.trans hHeld.1)).mono ?_
  rintro e u1 ⟨va, vc, rfl, hs, k1⟩
  refine hK9.out _ _ (HA.out _ (hHeld.1.trans k1)) (fun hH1 => ?_)
  clear hK9 K
  refine wpAnyD_take (i := 7) (v := ?_) rfl (by kernel_rfl) (by kernel_rfl) (by kernel_rfl) (by kernel_rfl) (fun _ _ _ h => h) (Or.inl ⟨by rfl, ?hyi0007⟩) hH1 ?_
  case hyi0007 => (intro w hSw; (try dsimp only at hSw); go_simp; try (with_reducible rfl))
  (try simp only [Act.put, zA, zB, zC, zD, zE, zF])
  refine wpAnyD_take (i := 8) (v := ?_) rfl (by kernel_rfl) (by kernel_rfl) (by kernel_rfl) (by kernel_rfl) (fun _ _ _ h => h) (Or.inl ⟨by rfl, ?hyb0008⟩) hH1 ?_
  case hyb0008 => (intro w hSw; (try dsimp only at hSw); go_simp; try (with_reducible rfl))
  (try simp only [Act.put, zA, zB, zC, zD, zE, zF])
  refine wpAnyD_take (i := 9) (v := ?_) rfl (by kernel_rfl) (by kernel_rfl) (by kernel_rfl) (by kernel_rfl) (fun _ _ _ h => h) (Or.inl ⟨by rfl, ?hyb0009⟩) hH1 ?_
  case hyb0009 => (intro w hSw; (try dsimp only at hSw); go_simp; try (with_reducible rfl))
  (try simp only [Act.put, zA, zB, zC, zD, zE, zF])
  refine wpAnyD_take (i := 10) (v := ?_) rfl (by kernel_rfl) (by kernel_rfl) (by kernel_rfl) (by kernel_rfl) (fun _ _ _ h => h) (Or.inl ⟨by rfl, ?hyc00010⟩) hH1 ?_
  case hyc00010 => (intro w hSw; (try dsimp only at hSw); go_simp; try (with_reducible rfl))
  (try simp only [Act.put, zA, zB, zC, zD, zE, zF])
  refine wpAnyD_take (i := 13) (v := ?_) rfl (by kernel_rfl) (by kernel_rfl) (by kernel_rfl) (by kernel_rfl) (fun _ _ _ h => h) (Or.inl ⟨by rfl, ?hyc00013⟩) hH1 ?_
  case hyc00013 => (intro w hSw; (try dsimp only at hSw); go_simp; try (with_reducible rfl))
  (try simp only [Act.put, zA, zB, zC, zD, zE, zF])
  refine wpAnyD_take (i := 14) (v := ?_) rfl (by kernel_rfl) (by kernel_rfl) (by kernel_rfl) (by kernel_rfl) (fun _ _ _ h => h) (Or.inl ⟨by rfl, ?hyd00014⟩) hH1 ?_
  case hyd00014 => (intro w hSw; (try dsimp only at hSw); go_simp; try (with_reducible rfl))
  (try simp only [Act.put, zA, zB, zC, zD, zE, zF])
  refine wpAnyD_take (i := 15) (v := ?_) rfl (by kernel_rfl) (by kernel_rfl) (by kernel_rfl) (by kernel_rfl) (fun _ _ _ h => h) (Or.inl ⟨by rfl, ?hyd00015⟩) hH1 ?_
  case hyd00015 => (intro w hSw; (try dsimp only at hSw); go_simp; try (with_reducible rfl))
  (try simp only [Act.put, zA, zB, zC, zD, zE, zF])
  refine wpAnyD_take (i := 16) (v := ?_) rfl (by kernel_rfl) (by kernel_rfl) (by kernel_rfl) (by kernel_rfl) (fun _ _ _ h => h) (Or.inl ⟨by rfl, ?hye00016⟩) hH1 ?_
  case hye00016 => (intro w hSw; (try dsimp only at hSw); go_simp; try (with_reducible rfl))
  (try simp only [Act.put, zA, zB, zC, zD, zE, zF])
  refine wpAnyD_take (i := 19) (v := ?_) rfl (by kernel_rfl) (by kernel_rfl) (by kernel_rfl) (by kernel_rfl) (fun _ _ _ h => h) (Or.inl ⟨by rfl, ?hye00019⟩) hH1 ?_
  case hye00019 => (intro w hSw; (try dsimp only at hSw); go_simp; try (with_reducible rfl))
  (try simp only [Act.put, zA, zB, zC, zD, zE, zF])
  refine wpAnyD_take (i := 20) (v := ?_) rfl (by kernel_rfl) (by kernel_rfl) (by kernel_rfl) (by kernel_rfl) (fun _ _ _ h => h) (Or.inl ⟨by rfl, ?hyf00020⟩) hH1 ?_
  case hyf00020 => (intro w hSw; (try dsimp only at hSw); go_simp; try (with_reducible rfl))
  (try simp only [Act.put, zA, zB, zC, zD, zE, zF])
  refine wpAnyD_take (i := 21) (v := ?_) rfl (by kernel_rfl) (by kernel_rfl) (by kernel_rfl) (by kernel_rfl) (fun _ _ _ h => h) (Or.inl ⟨by rfl, ?hyf00021⟩) hH1 ?_
  case hyf00021 => (intro w hSw; (try dsimp only at hSw); go_simp; try (with_reducible rfl))
  (try simp only [Act.put, zA, zB, zC, zD, zE, zF])
  refine wpAnyD_take (i := 22) (v := ?_) rfl (by kernel_rfl) (by kernel_rfl) (by kernel_rfl) (by kernel_rfl) (fun _ _ _ h => h) (Or.inl ⟨by rfl, ?hyg00022⟩) hH1 ?_
  case hyg00022 => (intro w hSw; (try dsimp only at hSw); go_simp; try (with_reducible rfl))
  (try simp only [Act.put, zA, zB, zC, zD, zE, zF])
  refine wpAnyD_take (i := 23) (v := ?_) rfl (by kernel_rfl) (by kernel_rfl) (by kernel_rfl) (by kernel_rfl) (fun _ _ _ h => h) (Or.inl ⟨by rfl, ?hyh00023⟩) hH1 ?_
  case hyh00023 => (intro w hSw; (try dsimp only at hSw); go_simp; try (with_reducible rfl))
  (try simp only [Act.put, zA, zB, zC, zD, zE, zF])
  have kX1 : Kept X u1 := hH1.1
  obtain ⟨r0, r1, r2, r3, r4, r5, r6⟩ := HR.out _ kX1
  refine wpAnyD_late (i := 24) (by kernel_rfl) rfl rfl (fun K hK9 => ?_)
  go_simp
  refine hK9.out _ _ ?_
  clear hK9 K
  (try simp only [Act.put, zA, zB, zC, zD, zE, zF])
  refine wpAnyD_done (by kernel_rfl) ?_ _
  (try simp only [Act.put, zA, zB, zC, zD, zE, zF])
  go_wp2_with fail
  obtain ⟨e1, e2, e3⟩ := HFl.out
  obtain ⟨h9, h8⟩ := HEnd.out u1 va vc (.bool q.neg) (.slice va q.mag.length vc) (.int .i64 q.exp) (.bool p2) (.bool m2) (.bool z2) kX1 _ kD0 hs.out
  refine bodyPost_ret (v := accV q.neg (.slice va q.mag.length vc) q.exp p2 m2 z2) (by simp [results, Tryz.results52, go_sem, r0, r1, r2, r3, r4, r5]) rfl ⟨va, vc, by rw [e1, e2, e3]; rfl, h9, h8⟩
 ·skip
  go_enter Tryz.func52, Tryz.ntmps52
  go_upto_region 1 with fail
  rw [← hX, ← hB2, ← hB1, ← hB]
  clear hX hB2 hY hY1 hB hB1 HA0 HB0
  refine wp_region_late [24] (fun u => Kept X u ∧ (u.cell? ⟨B, 0, none⟩ = some (.bool n1) ∧ u.cell? ⟨B, 1, none⟩ = some (.slice a1 l1 c1) ∧ u.cell? ⟨B, 2, none⟩ = some (.int .i64 x1) ∧ u.cell? ⟨B, 3, none⟩ = some (.bool false) ∧ u.cell? ⟨B, 4, none⟩ = some (.bool false) ∧ u.cell? ⟨B, 5, none⟩ = some (.bool true)) ∧ u.cell? ⟨B1, 0, none⟩ = some (.bool n2) ∧ u.cell? ⟨B1, 1, none⟩ = some (.slice a2 l2 c2) ∧ u.cell? ⟨B1, 2, none⟩ = some (.int .i64 x2) ∧ u.cell? ⟨B1, 3, none⟩ = some (.bool p2) ∧ u.cell? ⟨B1, 4, none⟩ = some (.bool m2) ∧ u.cell? ⟨B1, 5, none⟩ = some (.bool z2)) (by kernel_rfl) (HA.out _ (Kept.refl _).drew) (fun hHeld => ?_)
  refine wpAnyD_take (i := 0) (v := ?_) rfl (by kernel_rfl) (by kernel_rfl) (by kernel_rfl) (by kernel_rfl) (fun _ _ _ h => h) (Or.inl ⟨by rfl, ?hya0010⟩) hHeld ?_
  case hya0010 => (intro w hSw; (try dsimp only at hSw); go_simp; try (with_reducible rfl))
  (try simp only [Act.put, zA, zB, zC, zD, zE, zF])
  refine wpAnyD_take (i := 1) (v := ?_) rfl (by kernel_rfl) (by kernel_rfl) (by kernel_rfl) (by kernel_rfl) (fun _ _ _ h => h) (Or.inl ⟨by rfl, ?hya0011⟩) hHeld ?_
  case hya0011 => (intro w hSw; (try dsimp only at hSw); go_simp; try (with_reducible rfl))
  (try simp only [Act.put, zA, zB, zC, zD, zE, zF])
  refine wpAnyD_take (i := 2) (v := ?_) rfl (by kernel_rfl) (by kernel_rfl) (by kernel_rfl) (by kernel_rfl) (fun _ _ _ h => h) (Or.inl ⟨by rfl, ?hya0012⟩) hHeld ?_
  case hya0012 => (intro w hSw; (try dsimp only at hSw); go_simp; try (with_reducible rfl))
  (try simp only [Act.put, zA, zB, zC, zD, zE, zF])
  refine wpAnyD_take (i := 3) (v := ?_) rfl (by kernel_rfl) (by kernel_rfl) (by kernel_rfl) (by kernel_rfl) (fun _ _ _ h => h) (Or.inl ⟨by rfl, ?hya0013⟩) hHeld ?_
  case hya0013 => (intro w hSw; (try dsimp only at hSw); go_simp; try (with_reducible rfl))
  (try simp only [Act.put, zA, zB, zC, zD, zE, zF])
  refine wpAnyD_take (i := 5) (v := ?_) rfl (by kernel_rfl) (by kernel_rfl) (by kernel_rfl) (by kernel_rfl) (fun _ _ _ h => h) (Or.inl ⟨by rfl, ?hya0015⟩) hHeld ?_
  case hya0015 => (intro w hSw; (try dsimp only at hSw); go_simp; try (with_reducible rfl))
  (try simp only [Act.put, zA, zB, zC, zD, zE, zF])
  refine wpAnyD_take (i := 6) (v := ?_) rfl (by kernel_rfl) (by kernel_rfl) (by kernel_rfl) (by kernel_rfl) (fun _ _ _ h => h) (Or.inl ⟨by rfl, ?hya0016⟩) hHeld ?_
  case hya0016 => (intro w hSw; (try dsimp only at hSw); go_simp; try (with_reducible rfl))
  (try simp only [Act.put, zA, zB, zC, zD, zE, zF])
  refine wpAnyD_take (i := 11) (v := ?_) rfl (by kernel_rfl) (by kernel_rfl) (by kernel_rfl) (by kernel_rfl) (fun _ _ _ h => h) (Or.inl ⟨by rfl, ?hya00111⟩) hHeld ?_
  case hya00111 => (intro w hSw; (try dsimp only at hSw); go_simp; try (with_reducible rfl))
  (try simp only [Act.put, zA, zB, zC, zD, zE, zF])
  refine wpAnyD_take (i := 12) (v := ?_) rfl (by kernel_rfl) (by kernel_rfl) (by kernel_rfl) (by kernel_rfl) (fun _ _ _ h => h) (Or.inl ⟨by rfl, ?hya00112⟩) hHeld ?_
  case hya00112 => (intro w hSw; (try dsimp only at hSw); go_simp; try (with_reducible rfl))
  (try simp only [Act.put, zA, zB, zC, zD, zE, zF])
  refine wpAnyD_take (i := 17) (v := ?_) rfl (by kernel_rfl) (by kernel_rfl) (by kernel_rfl) (by kernel_rfl) (fun _ _ _ h => h) (Or.inl ⟨by rfl, ?hya00117⟩) hHeld ?_
  case hya00117 => (intro w hSw; (try dsimp only at hSw); go_simp; try (with_reducible rfl))
  (try simp only [Act.put, zA, zB, zC, zD, zE, zF])
  refine wpAnyD_take (i := 18) (v := ?_) rfl (by kernel_rfl) (by kernel_rfl) (by kernel_rfl) (by kernel_rfl) (fun _ _ _ h => h) (Or.inl ⟨by rfl, ?hya00118⟩) hHeld ?_
  case hya00118 => (intro w hSw; (try dsimp only at hSw); go_simp; try (with_reducible rfl))
  (try simp only [Act.put, zA, zB, zC, zD, zE, zF])
  have kD0 : Kept X _ := hHeld.1
  refine wpAnyD_step (i := 4) (by kernel_rfl) rfl (fun K hK9 => ?_)
  go_simp
  go_wp2_with fail
  refine (KP.out _ (k0.trans hHeld.1)).mono ?_
  rintro e u1 ⟨va, vc, rfl, hs, k1⟩
  refine hK9.out _ _ (HA.out _ (hHeld.1.trans k1)) (fun hH1 => ?_)
  clear hK9 K
  refine wpAnyD_take (i := 7) (v := ?_) rfl (by kernel_rfl) (by kernel_rfl) (by kernel_rfl) (by kernel_rfl) (fun _ _ _ h => h) (Or.inl ⟨by rfl, ?hyi0017⟩) hH1 ?_
  case hyi0017 => (intro w hSw; (try dsimp only at hSw); go_simp; try (with_reducible rfl))
  (try simp only [Act.put, zA, zB, zC, zD, zE, zF])
  refine wpAnyD_take (i := 8) (v := ?_) rfl (by kernel_rfl) (by kernel_rfl) (by kernel_rfl) (by kernel_rfl) (fun _ _ _ h => h) (Or.inl ⟨by rfl, ?hyb0018⟩) hH1 ?_
  case hyb0018 => (intro w hSw; (try dsimp only at hSw); go_simp; try (with_reducible rfl))
  (try simp only [Act.put, zA, zB, zC, zD, zE, zF])
  refine wpAnyD_take (i := 9) (v := ?_) rfl (by kernel_rfl) (by kernel_rfl) (by kernel_rfl) (by kernel_rfl) (fun _ _ _ h => h) (Or.inl ⟨by rfl, ?hyb0019⟩) hH1 ?_
  case hyb0019 => (intro w hSw; (try dsimp only at hSw); go_simp; try (with_reducible rfl))
  (try simp only [Act.put, zA, zB, zC, zD, zE, zF])
  refine wpAnyD_take (i := 10) (v := ?_) rfl (by kernel_rfl) (by kernel_rfl) (by kernel_rfl) (by kernel_rfl) (fun _ _ _ h => h) (Or.inl ⟨by rfl, ?hyc00110⟩) hH1 ?_
  case hyc00110 => (intro w hSw; (try dsimp only at hSw); go_simp; try (with_reducible rfl))
  (try simp only [Act.put, zA, zB, zC, zD, zE, zF])
  refine wpAnyD_take (i := 13) (v := ?_) rfl (by kernel_rfl) (by kernel_rfl) (by kernel_rfl) (by kernel_rfl) (fun _ _ _ h => h) (Or.inl ⟨by rfl, ?hyc00113⟩) hH1 ?_
  case hyc00113 => (intro w hSw; (try dsimp only at hSw); go_simp; try (with_reducible rfl))
  (try simp only [Act.put, zA, zB, zC, zD, zE, zF])
  refine wpAnyD_take (i := 14) (v := ?_) rfl (by kernel_rfl) (by kernel_rfl) (by kernel_rfl) (by kernel_rfl) (fun _ _ _ h => h) (Or.inl ⟨by rfl, ?hyd00114⟩) hH1 ?_
  case hyd00114 => (intro w hSw; (try dsimp only at hSw); go_simp; try (with_reducible rfl))
  (try simp only [Act.put, zA, zB, zC, zD, zE, zF])
  refine wpAnyD_take (i := 15) (v := ?_) rfl (by kernel_rfl) (by kernel_rfl) (by kernel_rfl) (by kernel_rfl) (fun _ _ _ h => h) (Or.inl ⟨by rfl, ?hyd00115⟩) hH1 ?_
  case hyd00115 => (intro w hSw; (try dsimp only at hSw); go_simp; try (with_reducible rfl))
  (try simp only [Act.put, zA, zB, zC, zD, zE, zF])
  refine wpAnyD_take (i := 16) (v := ?_) rfl (by kernel_rfl) (by kernel_rfl) (by kernel_rfl) (by kernel_rfl) (fun _ _ _ h => h) (Or.inl ⟨by rfl, ?hye00116⟩) hH1 ?_
  case hye00116 => (intro w hSw; (try dsimp only at hSw); go_simp; try (with_reducible rfl))
  (try simp only [Act.put, zA, zB, zC, zD, zE, zF])
  refine wpAnyD_take (i := 19) (v := ?_) rfl (by kernel_rfl) (by kernel_rfl) (by kernel_rfl) (by kernel_rfl) (fun _ _ _ h => h) (Or.inl ⟨by rfl, ?hye00119⟩) hH1 ?_
  case hye00119 => (intro w hSw; (try dsimp only at hSw); go_simp; try (with_reducible rfl))
  (try simp only [Act.put, zA, zB, zC, zD, zE, zF])
  refine wpAnyD_take (i := 20) (v := undef) rfl (by kernel_rfl) (by kernel_rfl) (by kernel_rfl) (by kernel_rfl) (fun _ _ _ h => h) (Or.inr ⟨by rfl, rfl⟩) hH1 ?_
  (try simp only [Act.put, zA, zB, zC, zD, zE, zF])
  refine wpAnyD_take (i := 21) (v := undef) rfl (by kernel_rfl) (by kernel_rfl) (by kernel_rfl) (by kernel_rfl) (fun _ _ _ h => h) (Or.inr ⟨by rfl, rfl⟩) hH1 ?_
  (try simp only [Act.put, zA, zB, zC, zD, zE, zF])
  refine wpAnyD_take (i := 22) (v := ?_) rfl (by kernel_rfl) (by kernel_rfl) (by kernel_rfl) (by kernel_rfl) (fun _ _ _ h => h) (Or.inl ⟨by rfl, ?hyg00122⟩) hH1 ?_
  case hyg00122 => (intro w hSw; (try dsimp only at hSw); go_simp; try (with_reducible rfl))
  (try simp only [Act.put, zA, zB, zC, zD, zE, zF])
  refine wpAnyD_take (i := 23) (v := ?_) rfl (by kernel_rfl) (by kernel_rfl) (by kernel_rfl) (by kernel_rfl) (fun _ _ _ h => h) (Or.inl ⟨by rfl, ?hyh00123⟩) hH1 ?_
  case hyh00123 => (intro w hSw; (try dsimp only at hSw); go_simp; try (with_reducible rfl))
  (try simp only [Act.put, zA, zB, zC, zD, zE, zF])
  have kX1 : Kept X u1 := hH1.1
  obtain ⟨r0, r1, r2, r3, r4, r5, r6⟩ := HR.out _ kX1
  refine wpAnyD_late (i := 24) (by kernel_rfl) rfl rfl (fun K hK9 => ?_)
  go_simp
  refine hK9.out _ _ ?_
  clear hK9 K
  (try simp only [Act.put, zA, zB, zC, zD, zE, zF])
  refine wpAnyD_done (by kernel_rfl) ?_ _
  (try simp only [Act.put, zA, zB, zC, zD, zE, zF])
  go_wp2_with fail
  obtain ⟨e1, e2, e3⟩ := HFl.out
  obtain ⟨h9, h8⟩ := HEnd.out u1 va vc (.bool q.neg) (.slice va q.mag.length vc) (.int .i64 q.exp) (.bool p2) (.bool m2) (.bool true) kX1 _ kD0 hs.out
  refine bodyPost_ret (v := accV q.neg (.slice va q.mag.length vc) q.exp p2 m2 true) (by simp [results, Tryz.results52, go_sem, r0, r1, r2, r3, r4, r5]) rfl ⟨va, vc, by rw [e1, e2, e3]; rfl, h9, h8⟩
 ·skip
  go_enter Tryz.func52, Tryz.ntmps52
  go_upto_region 1 with fail
  rw [← hX, ← hB2, ← hB1, ← hB]
  clear hX hB2 hY hY1 hB hB1 HA0 HB0
  refine wp_region_late [24] (fun u => Kept X u ∧ (u.cell? ⟨B, 0, none⟩ = some (.bool n1) ∧ u.cell? ⟨B, 1, none⟩ = some (.slice a1 l1 c1) ∧ u.cell? ⟨B, 2, none⟩ = some (.int .i64 x1) ∧ u.cell? ⟨B, 3, none⟩ = some (.bool false) ∧ u.cell? ⟨B, 4, none⟩ = some (.bool true) ∧ u.cell? ⟨B, 5, none⟩ = some (.bool false)) ∧ u.cell? ⟨B1, 0, none⟩ = some (.bool n2) ∧ u.cell? ⟨B1, 1, none⟩ = some (.slice a2 l2 c2) ∧ u.cell? ⟨B1, 2, none⟩ = some (.int .i64 x2) ∧ u.cell? ⟨B1, 3, none⟩ = some (.bool p2) ∧ u.cell? ⟨B1, 4, none⟩ = some (.bool m2) ∧ u.cell? ⟨B1, 5, none⟩ = some (.bool z2)) (by kernel_rfl) (HA.out _ (Kept.refl _).drew) (fun hHeld => ?_)
  refine wpAnyD_take (i := 0) (v := ?_) rfl (by kernel_rfl) (by kernel_rfl) (by kernel_rfl) (by kernel_rfl) (fun _ _ _ h => h) (Or.inl ⟨by rfl, ?hya0100⟩) hHeld ?_
  case hya0100 => (intro w hSw; (try dsimp only at hSw); go_simp; try (with_reducible rfl))
  (try simp only [Act.put, zA, zB, zC, zD, zE, zF])
  refine wpAnyD_take (i := 1) (v := ?_) rfl (by kernel_rfl) (by kernel_rfl) (by kernel_rfl) (by kernel_rfl) (fun _ _ _ h => h) (Or.inl ⟨by rfl, ?hya0101⟩) hHeld ?_
  case hya0101 => (intro w hSw; (try dsimp only at hSw); go_simp; try (with_reducible rfl))
  (try simp only [Act.put, zA, zB, zC, zD, zE, zF])
  refine wpAnyD_take (i := 2) (v := ?_) rfl (by kernel_rfl) (by kernel_rfl) (by kernel_rfl) (by kernel_rfl) (fun _ _ _ h => h) (Or.inl ⟨by rfl, ?hya0102⟩) hHeld ?_
  case hya0102 => (intro w hSw; (try dsimp only at hSw); go_simp; try (with_reducible rfl))
  (try simp only [Act.put, zA, zB, zC, zD, zE, zF])
  refine wpAnyD_take (i := 3) (v := ?_) rfl (by kernel_rfl) (by kernel_rfl) (by kernel_rfl) (by kernel_rfl) (fun _ _ _ h => h) (Or.inl ⟨by rfl, ?hya0103⟩) hHeld ?_
  case hya0103 => (intro w hSw; (try dsimp only at hSw); go_simp; try (with_reducible rfl))
  (try simp only [Act.put, zA, zB, zC, zD, zE, zF])
  refine wpAnyD_take (i := 5) (v := ?_) rfl (by kernel_rfl) (by kernel_rfl) (by kernel_rfl) (by kernel_rfl) (fun _ _ _ h => h) (Or.inl ⟨by rfl, ?hya0105⟩) hHeld ?_
  case hya0105 => (intro w hSw; (try dsimp only at hSw); go_simp; try (with_reducible rfl))
  (try simp only [Act.put, zA, zB, zC, zD, zE, zF])
  refine wpAnyD_take (i := 6) (v := ?_) rfl (by kernel_rfl) (by kernel_rfl) (by kernel_rfl) (by kernel_rfl) (fun _ _ _ h => h) (Or.inl ⟨by rfl, ?hya0106⟩) hHeld ?_
  case hya0106 => (intro w hSw; (try dsimp only at hSw); go_simp; try (with_reducible rfl))
  (try simp only [Act.put, zA, zB, zC, zD, zE, zF])
  refine wpAnyD_take (i := 11) (v := ?_) rfl (by kernel_rfl) (by kernel_rfl) (by kernel_rfl) (by kernel_rfl) (fun _ _ _ h => h) (Or.inl ⟨by rfl, ?hya01011⟩) hHeld ?_
  case hya01011 => (intro w hSw; (try dsimp only at hSw); go_simp; try (with_reducible rfl))
  (try simp only [Act.put, zA, zB, zC, zD, zE, zF])
  refine wpAnyD_take (i := 12) (v := ?_) rfl (by kernel_rfl) (by kernel_rfl) (by kernel_rfl) (by kernel_rfl) (fun _ _ _ h => h) (Or.inl ⟨by rfl, ?hya01012⟩) hHeld ?_
  case hya01012 => (intro w hSw; (try dsimp only at hSw); go_simp; try (with_reducible rfl))
  (try simp only [Act.put, zA, zB, zC, zD, zE, zF])
  refine wpAnyD_take (i := 17) (v := ?_) rfl (by kernel_rfl) (by kernel_rfl) (by kernel_rfl) (by kernel_rfl) (fun _ _ _ h => h) (Or.inl ⟨by rfl, ?hya01017⟩) hHeld ?_
  case hya01017 => (intro w hSw; (try dsimp only at hSw); go_simp; try (with_reducible rfl))
  (try simp only [Act.put, zA, zB, zC, zD, zE, zF])
  refine wpAnyD_take (i := 18) (v := ?_) rfl (by kernel_rfl) (by kernel_rfl) (by kernel_rfl) (by kernel_rfl) (fun _ _ _ h => h) (Or.inl ⟨by rfl, ?hya01018⟩) hHeld ?_
  case hya01018 => (intro w hSw; (try dsimp only at hSw); go_simp; try (with_reducible rfl))
  (try simp only [Act.put, zA, zB, zC, zD, zE, zF])
  have kD0 : Kept X _ := hHeld.1
  refine wpAnyD_step (i := 4) (by kernel_rfl) rfl (fun K hK9 => ?_)
  go_simp
  go_wp2_with fail
  refine (KP.out _ (k0.trans hHeld.1)).mono ?_
  rintro e u1 ⟨va, vc, rfl, hs, k1⟩
  refine hK9.out _ _ (HA.out _ (hHeld.1.trans k1)) (fun hH1 => ?_)
  clear hK9 K
  refine wpAnyD_take (i := 7) (v := ?_) rfl (by kernel_rfl) (by kernel_rfl) (by kernel_rfl) (by kernel_rfl) (fun _ _ _ h => h) (Or.inl ⟨by rfl, ?hyi0107⟩) hH1 ?_
  case hyi0107 => (intro w hSw; (try dsimp only at hSw); go_simp; try (with_reducible rfl))
  (try simp only [Act.put, zA, zB, zC, zD, zE, zF])
  refine wpAnyD_take (i := 8) (v := ?_) rfl (by kernel_rfl) (by kernel_rfl) (by kernel_rfl) (by kernel_rfl) (fun _ _ _ h => h) (Or.inl ⟨by rfl, ?hyb0108⟩) hH1 ?_
  case hyb0108 => (intro w hSw; (try dsimp only at hSw); go_simp; try (with_reducible rfl))
  (try simp only [Act.put, zA, zB, zC, zD, zE, zF])
  refine wpAnyD_take (i := 9) (v := ?_) rfl (by kernel_rfl) (by kernel_rfl) (by kernel_rfl) (by kernel_rfl) (fun _ _ _ h => h) (Or.inl ⟨by rfl, ?hyb0109⟩) hH1 ?_
  case hyb0109 => (intro w hSw; (try dsimp only at hSw); go_simp; try (with_reducible rfl))
  (try simp only [Act.put, zA, zB, zC, zD, zE, zF])
  refine wpAnyD_take (i := 10) (v := ?_) rfl (by kernel_rfl) (by kernel_rfl) (by kernel_rfl) (by kernel_rfl) (fun _ _ _ h => h) (Or.inl ⟨by rfl, ?hyc01010⟩) hH1 ?_
  case hyc01010 => (intro w hSw; (try dsimp only at hSw); go_simp; try (with_reducible rfl))
  (try simp only [Act.put, zA, zB, zC, zD, zE, zF])
  refine wpAnyD_take (i := 13) (v := ?_) rfl (by kernel_rfl) (by kernel_rfl) (by kernel_rfl) (by kernel_rfl) (fun _ _ _ h => h) (Or.inl ⟨by rfl, ?hyc01013⟩) hH1 ?_
  case hyc01013 => (intro w hSw; (try dsimp only at hSw); go_simp; try (with_reducible rfl))
  (try simp only [Act.put, zA, zB, zC, zD, zE, zF])
  refine wpAnyD_take (i := 14) (v := undef) rfl (by kernel_rfl) (by kernel_rfl) (by kernel_rfl) (by kernel_rfl) (fun _ _ _ h => h) (Or.inr ⟨by rfl, rfl⟩) hH1 ?_
  (try simp only [Act.put, zA, zB, zC, zD, zE, zF])
  refine wpAnyD_take (i := 15) (v := undef) rfl (by kernel_rfl) (by kernel_rfl) (by kernel_rfl) (by kernel_rfl) (fun _ _ _ h => h) (Or.inr ⟨by rfl, rfl⟩) hH1 ?_
  (try simp only [Act.put, zA, zB, zC, zD, zE, zF])
  refine wpAnyD_take (i := 16) (v := ?_) rfl (by kernel_rfl) (by kernel_rfl) (by kernel_rfl) (by kernel_rfl) (fun _ _ _ h => h) (Or.inl ⟨by rfl, ?hye01016⟩) hH1 ?_
  case hye01016 => (intro w hSw; (try dsimp only at hSw); go_simp; try (with_reducible rfl))
  (try simp only [Act.put, zA, zB, zC, zD, zE, zF])
  refine wpAnyD_take (i := 19) (v := ?_) rfl (by kernel_rfl) (by kernel_rfl) (by kernel_rfl) (by kernel_rfl) (fun _ _ _ h => h) (Or.inl ⟨by rfl, ?hye01019⟩) hH1 ?_
  case hye01019 => (intro w hSw; (try dsimp only at hSw); go_simp; try (with_reducible rfl))
  (try simp only [Act.put, zA, zB, zC, zD, zE, zF])
  refine wpAnyD_take (i := 20) (v := ?_) rfl (by kernel_rfl) (by kernel_rfl) (by kernel_rfl) (by kernel_rfl) (fun _ _ _ h => h) (Or.inl ⟨by rfl, ?hyf01020⟩) hH1 ?_
  case hyf01020 => (intro w hSw; (try dsimp only at hSw); go_simp; try (with_reducible rfl))
  (try simp only [Act.put, zA, zB, zC, zD, zE, zF])
  refine wpAnyD_take (i := 21) (v := ?_) rfl (by kernel_rfl) (by kernel_rfl) (by kernel_rfl) (by kernel_rfl) (fun _ _ _ h => h) (Or.inl ⟨by rfl, ?hyf01021⟩) hH1 ?_
  case hyf01021 => (intro w hSw; (try dsimp only at hSw); go_simp; try (with_reducible rfl))
  (try simp only [Act.put, zA, zB, zC, zD, zE, zF])
  refine wpAnyD_take (i := 22) (v := ?_) rfl (by kernel_rfl) (by kernel_rfl) (by kernel_rfl) (by kernel_rfl) (fun _ _ _ h => h) (Or.inl ⟨by rfl, ?hyg01022⟩) hH1 ?_
  case hyg01022 => (intro w hSw; (try dsimp only at hSw); go_simp; try (with_reducible rfl))
  (try simp only [Act.put, zA, zB, zC, zD, zE, zF])
  refine wpAnyD_take (i := 23) (v := ?_) rfl (by kernel_rfl) (by kernel_rfl) (by kernel_rfl) (by kernel_rfl) (fun _ _ _ h => h) (Or.inl ⟨by rfl, ?hyh01023⟩) hH1 ?_
  case hyh01023 => (intro w hSw; (try dsimp only at hSw); go_simp; try (with_reducible rfl))
  (try simp only [Act.put, zA, zB, zC, zD, zE, zF])
  have kX1 : Kept X u1 := hH1.1
  obtain ⟨r0, r1, r2, r3, r4, r5, r6⟩ := HR.out _ kX1
  refine wpAnyD_late (i := 24) (by kernel_rfl) rfl rfl (fun K hK9 => ?_)
  go_simp
  refine hK9.out _ _ ?_
  clear hK9 K
  (try simp only [Act.put, zA, zB, zC, zD, zE, zF])
  refine wpAnyD_done (by kernel_rfl) ?_ _
  (try simp only [Act.put, zA, zB, zC, zD, zE, zF])
  go_wp2_with fail
  obtain ⟨e1, e2, e3⟩ := HFl.out
  obtain ⟨h9, h8⟩ := HEnd.out u1 va vc (.bool q.neg) (.slice va q.mag.length vc) (.int .i64 q.exp) (.bool p2) (.bool true) (.bool z2) kX1 _ kD0 hs.out
  refine bodyPost_ret (v := accV q.neg (.slice va q.mag.length vc) q.exp p2 true z2) (by simp [results, Tryz.results52, go_sem, r0, r1, r2, r3, r4, r5]) rfl ⟨va, vc, by rw [e1, e2, e3]; rfl, h9, h8⟩
 ·skip
  go_enter Tryz.func52, Tryz.ntmps52
  go_upto_region 1 with fail
  rw [← hX, ← hB2, ← hB1, ← hB]
  clear hX hB2 hY hY1 hB hB1 HA0 HB0
  refine wp_region_late [24] (fun u => Kept X u ∧ (u.cell? ⟨B, 0, none⟩ = some (.bool n1) ∧ u.cell? ⟨B, 1, none⟩ = some (.slice a1 l1 c1) ∧ u.cell? ⟨B, 2, none⟩ = some (.int .i64 x1) ∧ u.cell? ⟨B, 3, none⟩ = some (.bool false) ∧ u.cell? ⟨B, 4, none⟩ = some (.bool true) ∧ u.cell? ⟨B, 5, none⟩ = some (.bool true)) ∧ u.cell? ⟨B1, 0, none⟩ = some (.bool n2) ∧ u.cell? ⟨B1, 1, none⟩ = some (.slice a2 l2 c2) ∧ u.cell? ⟨B1, 2, none⟩ = some (.int .i64 x2) ∧ u.cell? ⟨B1, 3, none⟩ = some (.bool p2) ∧ u.cell? ⟨B1, 4, none⟩ = some (.bool m2) ∧ u.cell? ⟨B1, 5, none⟩ = some (.bool z2)) (by kernel_rfl) (HA.out _ (Kept.refl _).drew) (fun hHeld => ?_)
  refine wpAnyD_take (i := 0) (v := ?_) rfl (by kernel_rfl) (by kernel_rfl) (by kernel_rfl) (by kernel_rfl) (fun _ _ _ h => h) (Or.inl ⟨by rfl, ?hya0110⟩) hHeld ?_
  case hya0110 => (intro w hSw; (try dsimp only at hSw); go_simp; try (with_reducible rfl))
  (try simp only [Act.put, zA, zB, zC, zD, zE, zF])
  refine wpAnyD_take (i := 1) (v := ?_) rfl (by kernel_rfl) (by kernel_rfl) (by kernel_rfl) (by kernel_rfl) (fun _ _ _ h => h) (Or.inl ⟨by rfl, ?hya0111⟩) hHeld ?_
  case hya0111 => (intro w hSw; (try dsimp only at hSw); go_simp; try (with_reducible rfl))
  (try simp only [Act.put, zA, zB, zC, zD, zE, zF])
  refine wpAnyD_take (i := 2) (v := ?_) rfl (by kernel_rfl) (by kernel_rfl) (by kernel_rfl) (by kernel_rfl) (fun _ _ _ h => h) (Or.inl ⟨by rfl, ?hya0112⟩) hHeld ?_
  case hya0112 => (intro w hSw; (try dsimp only at hSw); go_simp; try (with_reducible rfl))
  (try simp only [Act.put, zA, zB, zC, zD, zE, zF])
  refine wpAnyD_take (i := 3) (v := ?_) rfl (by kernel_rfl) (by kernel_rfl) (by kernel_rfl) (by kernel_rfl) (fun _ _ _ h => h) (Or.inl ⟨by rfl, ?hya0113⟩) hHeld ?_
  case hya0113 => (intro w hSw; (try dsimp only at hSw); go_simp; try (with_reducible rfl))
  (try simp only [Act.put, zA, zB, zC, zD, zE, zF])
  refine wpAnyD_take (i := 5) (v := ?_) rfl (by kernel_rfl) (by kernel_rfl) (by kernel_rfl) (by kernel_rfl) (fun _ _ _ h => h) (Or.inl ⟨by rfl, ?hya0115⟩) hHeld ?_
  case hya0115 => (intro w hSw; (try dsimp only at hSw); go_simp; try (with_reducible rfl))
  (try simp only [Act.put, zA, zB, zC, zD, zE, zF])
  refine wpAnyD_take (i := 6) (v := ?_) rfl (by kernel_rfl) (by kernel_rfl) (by kernel_rfl) (by kernel_rfl) (fun _ _ _ h => h) (Or.inl ⟨by rfl, ?hya0116⟩) hHeld ?_
  case hya0116 => (intro w hSw; (try dsimp only at hSw); go_simp; try (with_reducible rfl))
  (try simp only [Act.put, zA, zB, zC, zD, zE, zF])
  refine wpAnyD_take (i := 11) (v := ?_) rfl (by kernel_rfl) (by kernel_rfl) (by kernel_rfl) (by kernel_rfl) (fun _ _ _ h => h) (Or.inl ⟨by rfl, ?hya01111⟩) hHeld ?_
  case hya01111 => (intro w hSw; (try dsimp only at hSw); go_simp; try (with_reducible rfl))
  (try simp only [Act.put, zA, zB, zC, zD, zE, zF])
  refine wpAnyD_take (i := 12) (v := ?_) rfl (by kernel_rfl) (by kernel_rfl) (by kernel_rfl) (by kernel_rfl) (fun _ _ _ h => h) (Or.inl ⟨by rfl, ?hya01112⟩) hHeld ?_
  case hya01112 => (intro w hSw; (try dsimp only at hSw); go_simp; try (with_reducible rfl))
  (try simp only [Act.put, zA, zB, zC, zD, zE, zF])
  refine wpAnyD_take (i := 17) (v := ?_) rfl (by kernel_rfl) (by kernel_rfl) (by kernel_rfl) (by kernel_rfl) (fun _ _ _ h => h) (Or.inl ⟨by rfl, ?hya01117⟩) hHeld ?_
  case hya01117 => (intro w hSw; (try dsimp only at hSw); go_simp; try (with_reducible rfl))
  (try simp only [Act.put, zA, zB, zC, zD, zE, zF])
  refine wpAnyD_take (i := 18) (v := ?_) rfl (by kernel_rfl) (by kernel_rfl) (by kernel_rfl) (by kernel_rfl) (fun _ _ _ h => h) (Or.inl ⟨by rfl, ?hya01118⟩) hHeld ?_
  case hya01118 => (intro w hSw; (try dsimp only at hSw); go_simp; try (with_reducible rfl))
  (try simp only [Act.put, zA, zB, zC, zD, zE, zF])
  have kD0 : Kept X _ := hHeld.1
  refine wpAnyD_step (i := 4) (by kernel_rfl) rfl (fun K hK9 => ?_)
  go_simp
  go_wp2_with fail
  refine (KP.out _ (k0.trans hHeld.1)).mono ?_
  rintro e u1 ⟨va, vc, rfl, hs, k1⟩
  refine hK9.out _ _ (HA.out _ (hHeld.1.trans k1)) (fun hH1 => ?_)
  clear hK9 K
  refine wpAnyD_take (i := 7) (v := ?_) rfl (by kernel_rfl) (by kernel_rfl) (by kernel_rfl) (by kernel_rfl) (fun _ _ _ h => h) (Or.inl ⟨by rfl, ?hyi0117⟩) hH1 ?_
  case hyi0117 => (intro w hSw; (try dsimp only at hSw); go_simp; try (with_reducible rfl))
  (try simp only [Act.put, zA, zB, zC, zD, zE, zF])
  refine wpAnyD_take (i := 8) (v := ?_) rfl (by kernel_rfl) (by kernel_rfl) (by kernel_rfl) (by kernel_rfl) (fun _ _ _ h => h) (Or.inl ⟨by rfl, ?hyb0118⟩) hH1 ?_
  case hyb0118 => (intro w hSw; (try dsimp only at hSw); go_simp; try (with_reducible rfl))
  (try simp only [Act.put, zA, zB, zC, zD, zE, zF])
  refine wpAnyD_take (i := 9) (v := ?_) rfl (by kernel_rfl) (by kernel_rfl) (by kernel_rfl) (by kernel_rfl) (fun _ _ _ h => h) (Or.inl ⟨by rfl, ?hyb0119⟩) hH1 ?_
  case hyb0119 => (intro w hSw; (try dsimp only at hSw); go_simp; try (with_reducible rfl))
  (try simp only [Act.put, zA, zB, zC, zD, zE, zF])
  refine wpAnyD_take (i := 10) (v := ?_) rfl (by kernel_rfl) (by kernel_rfl) (by kernel_rfl) (by kernel_rfl) (fun _ _ _ h => h) (Or.inl ⟨by rfl, ?hyc01110⟩) hH1 ?_
  case hyc01110 => (intro w hSw; (try dsimp only at hSw); go_simp; try (with_reducible rfl))
  (try simp only [Act.put, zA, zB, zC, zD, zE, zF])
  refine wpAnyD_take (i := 13) (v := ?_) rfl (by kernel_rfl) (by kernel_rfl) (by kernel_rfl) (by kernel_rfl) (fun _ _ _ h => h) (Or.inl ⟨by rfl, ?hyc01113⟩) hH1 ?_
  case hyc01113 => (intro w hSw; (try dsimp only at hSw); go_simp; try (with_reducible rfl))
  (try simp only [Act.put, zA, zB, zC, zD, zE, zF])
  refine wpAnyD_take (i := 14) (v := undef) rfl (by kernel_rfl) (by kernel_rfl) (by kernel_rfl) (by kernel_rfl) (fun _ _ _ h => h) (Or.inr ⟨by rfl, rfl⟩) hH1 ?_
  (try simp only [Act.put, zA, zB, zC, zD, zE, zF])
  refine wpAnyD_take (i := 15) (v := undef) rfl (by kernel_rfl) (by kernel_rfl) (by kernel_rfl) (by kernel_rfl) (fun _ _ _ h => h) (Or.inr ⟨by rfl, rfl⟩) hH1 ?_
  (try simp only [Act.put, zA, zB, zC, zD, zE, zF])
  refine wpAnyD_take (i := 16) (v := ?_) rfl (by kernel_rfl) (by kernel_rfl) (by kernel_rfl) (by kernel_rfl) (fun _ _ _ h => h) (Or.inl ⟨by rfl, ?hye01116⟩) hH1 ?_
  case hye01116 => (intro w hSw; (try dsimp only at hSw); go_simp; try (with_reducible rfl))
  (try simp only [Act.put, zA, zB, zC, zD, zE, zF])
  refine wpAnyD_take (i := 19) (v := ?_) rfl (by kernel_rfl) (by kernel_rfl) (by kernel_rfl) (by kernel_rfl) (fun _ _ _ h => h) (Or.inl ⟨by rfl, ?hye01119⟩) hH1 ?_
  case hye01119 => (intro w hSw; (try dsimp only at hSw); go_simp; try (with_reducible rfl))
  (try simp only [Act.put, zA, zB, zC, zD, zE, zF])
  refine wpAnyD_take (i := 20) (v := undef) rfl (by kernel_rfl) (by kernel_rfl) (by kernel_rfl) (by kernel_rfl) (fun _ _ _ h => h) (Or.inr ⟨by rfl, rfl⟩) hH1 ?_
  (try simp only [Act.put, zA, zB, zC, zD, zE, zF])
  refine wpAnyD_take (i := 21) (v := undef) rfl (by kernel_rfl) (by kernel_rfl) (by kernel_rfl) (by kernel_rfl) (fun _ _ _ h => h) (Or.inr ⟨by rfl, rfl⟩) hH1 ?_
  (try simp only [Act.put, zA, zB, zC, zD, zE, zF])
  refine wpAnyD_take (i := 22) (v := ?_) rfl (by kernel_rfl) (by kernel_rfl) (by kernel_rfl) (by kernel_rfl) (fun _ _ _ h => h) (Or.inl ⟨by rfl, ?hyg01122⟩) hH1 ?_
  case hyg01122 => (intro w hSw; (try dsimp only at hSw); go_simp; try (with_reducible rfl))
  (try simp only [Act.put, zA, zB, zC, zD, zE, zF])
  refine wpAnyD_take (i := 23) (v := ?_) rfl (by kernel_rfl) (by kernel_rfl) (by kernel_rfl) (by kernel_rfl) (fun _ _ _ h => h) (Or.inl ⟨by rfl, ?hyh01123⟩) hH1 ?_
  case hyh01123 => (intro w hSw; (try dsimp only at hSw); go_simp; try (with_reducible rfl))
  (try simp only [Act.put, zA, zB, zC, zD, zE, zF])
  have kX1 : Kept X u1 := hH1.1
  obtain ⟨r0, r1, r2, r3, r4, r5, r6⟩ := HR.out _ kX1
  refine wpAnyD_late (i := 24) (by kernel_rfl) rfl rfl (fun K hK9 => ?_)
  go_simp
  refine hK9.out _ _ ?_
  clear hK9 K
  (try simp only [Act.put, zA, zB, zC, zD, zE, zF])
  refine wpAnyD_done (by kernel_rfl) ?_ _
  (try simp only [Act.put, zA, zB, zC, zD, zE, zF])
  go_wp2_with fail
  obtain ⟨e1, e2, e3⟩ := HFl.out
  obtain ⟨h9, h8⟩ := HEnd.out u1 va vc (.bool q.neg) (.slice va q.mag.length vc) (.int .i64 q.exp) (.bool p2) (.bool true) (.bool true) kX1 _ kD0 hs.out
  refine bodyPost_ret (v := accV q.neg (.slice va q.mag.length vc) q.exp p2 true true) (by simp [results, Tryz.results52, go_sem, r0, r1, r2, r3, r4, r5]) rfl ⟨va, vc, by rw [e1, e2, e3]; rfl, h9, h8⟩
 ·skip
  go_enter Tryz.func52, Tryz.ntmps52
  go_upto_region 1 with fail
  rw [← hX, ← hB2, ← hB1, ← hB]
  clear hX hB2 hY hY1 hB hB1 HA0 HB0
  refine wp_region_late [24] (fun u => Kept X u ∧ (u.cell? ⟨B, 0, none⟩ = some (.bool n1) ∧ u.cell? ⟨B, 1, none⟩ = some (.slice a1 l1 c1) ∧ u.cell? ⟨B, 2, none⟩ = some (.int .i64 x1) ∧ u.cell? ⟨B, 3, none⟩ = some (.bool true) ∧ u.cell? ⟨B, 4, none⟩ = some (.bool false) ∧ u.cell? ⟨B, 5, none⟩ = some (.bool false)) ∧ u.cell? ⟨B1, 0, none⟩ = some (.bool n2) ∧ u.cell? ⟨B1, 1, none⟩ = some (.slice a2 l2 c2) ∧ u.cell? ⟨B1, 2, none⟩ = some (.int .i64 x2) ∧ u.cell? ⟨B1, 3, none⟩ = some (.bool p2) ∧ u.cell? ⟨B1, 4, none⟩ = some (.bool m2) ∧ u.cell? ⟨B1, 5, none⟩ = some (.bool z2)) (by kernel_rfl) (HA.out _ (Kept.refl _).drew) (fun hHeld => ?_)
  refine wpAnyD_take (i := 0) (v := ?_) rfl (by kernel_rfl) (by kernel_rfl) (by kernel_rfl) (by kernel_rfl) (fun _ _ _ h => h) (Or.inl ⟨by rfl, ?hya1000⟩) hHeld ?_
  case hya1000 => (intro w hSw; (try dsimp only at hSw); go_simp; try (with_reducible rfl))
  (try simp only [Act.put, zA, zB, zC, zD, zE, zF])
  refine wpAnyD_take (i := 1) (v := ?_) rfl (by kernel_rfl) (by kernel_rfl) (by kernel_rfl) (by kernel_rfl) (fun _ _ _ h => h) (Or.inl ⟨by rfl, ?hya1001⟩) hHeld ?_
  case hya1001 => (intro w hSw; (try dsimp only at hSw); go_simp; try (with_reducible rfl))
  (try simp only [Act.put, zA, zB, zC, zD, zE, zF])
  refine wpAnyD_take (i := 2) (v := ?_) rfl (by kernel_rfl) (by kernel_rfl) (by kernel_rfl) (by kernel_rfl) (fun _ _ _ h => h) (Or.inl ⟨by rfl, ?hya1002⟩) hHeld ?_
  case hya1002 => (intro w hSw; (try dsimp only at hSw); go_simp; try (with_reducible rfl))
  (try simp only [Act.put, zA, zB, zC, zD, zE, zF])
  refine wpAnyD_take (i := 3) (v := ?_) rfl (by kernel_rfl) (by kernel_rfl) (by kernel_rfl) (by kernel_rfl) (fun _ _ _ h => h) (Or.inl ⟨by rfl, ?hya1003⟩) hHeld ?_
  case hya1003 => (intro w hSw; (try dsimp only at hSw); go_simp; try (with_reducible rfl))
  (try simp only [Act.put, zA, zB, zC, zD, zE, zF])
  refine wpAnyD_take (i := 5) (v := ?_) rfl (by kernel_rfl) (by kernel_rfl) (by kernel_rfl) (by kernel_rfl) (fun _ _ _ h => h) (Or.inl ⟨by rfl, ?hya1005⟩) hHeld ?_
  case hya1005 => (intro w hSw; (try dsimp only at hSw); go_simp; try (with_reducible rfl))
  (try simp only [Act.put, zA, zB, zC, zD, zE, zF])
  refine wpAnyD_take (i := 6) (v := ?_) rfl (by kernel_rfl) (by kernel_rfl) (by kernel_rfl) (by kernel_rfl) (fun _ _ _ h => h) (Or.inl ⟨by rfl, ?hya1006⟩) hHeld ?_
  case hya1006 => (intro w hSw; (try dsimp only at hSw); go_simp; try (with_reducible rfl))
  (try simp only [Act.put, zA, zB, zC, zD, zE, zF])
  refine wpAnyD_take (i := 11) (v := ?_) rfl (by kernel_rfl) (by kernel_rfl) (by kernel_rfl) (by kernel_rfl) (fun _ _ _ h => h) (Or.inl ⟨by rfl, ?hya10011⟩) hHeld ?_
  case hya10011 => (intro w hSw; (try dsimp only at hSw); go_simp; try (with_reducible rfl))
  (try simp only [Act.put, zA, zB, zC, zD, zE, zF])
  refine wpAnyD_take (i := 12) (v := ?_) rfl (by kernel_rfl) (by kernel_rfl) (by kernel_rfl) (by kernel_rfl) (fun _ _ _ h => h) (Or.inl ⟨by rfl, ?hya10012⟩) hHeld ?_
  case hya10012 => (intro w hSw; (try dsimp only at hSw); go_simp; try (with_reducible rfl))
  (try simp only [Act.put, zA, zB, zC, zD, zE, zF])
  refine wpAnyD_take (i := 17) (v := ?_) rfl (by kernel_rfl) (by kernel_rfl) (by kernel_rfl) (by kernel_rfl) (fun _ _ _ h => h) (Or.inl ⟨by rfl, ?hya10017⟩) hHeld ?_
  case hya10017 => (intro w hSw; (try dsimp only at hSw); go_simp; try (with_reducible rfl))
  (try simp only [Act.put, zA, zB, zC, zD, zE, zF])
  refine wpAnyD_take (i := 18) (v := ?_) rfl (by kernel_rfl) (by kernel_rfl) (by kernel_rfl) (by kernel_rfl) (fun _ _ _ h => h) (Or.inl ⟨by rfl, ?hya10018⟩) hHeld ?_
  case hya10018 => (intro w hSw; (try dsimp only at hSw); go_simp; try (with_reducible rfl))
  (try simp only [Act.put, zA, zB, zC, zD, zE, zF])
  have kD0 : Kept X _ := hHeld.1
  refine wpAnyD_step (i := 4) (by kernel_rfl) rfl (fun K hK9 => ?_)
  go_simp
  go_wp2_with fail
  refine (KP.out _ (k0.trans hHeld.1)).mono ?_
  rintro e u1 ⟨va, vc, rfl, hs, k1⟩
  refine hK9.out _ _ (HA.out _ (hHeld.1.trans k1)) (fun hH1 => ?_)
  clear hK9 K
  refine wpAnyD_take (i := 7) (v := ?_) rfl (by kernel_rfl) (by kernel_rfl) (by kernel_rfl) (by kernel_rfl) (fun _ _ _ h => h) (Or.inl ⟨by rfl, ?hyi1007⟩) hH1 ?_
  case hyi1007 => (intro w hSw; (try dsimp only at hSw); go_simp; try (with_reducible rfl))
  (try simp only [Act.put, zA, zB, zC, zD, zE, zF])
  refine wpAnyD_take (i := 8) (v := undef) rfl (by kernel_rfl) (by kernel_rfl) (by kernel_rfl) (by kernel_rfl) (fun _ _ _ h => h) (Or.inr ⟨by rfl, rfl⟩) hH1 ?_
  (try simp only [Act.put, zA, zB, zC, zD, zE, zF])
  refine wpAnyD_take (i := 9) (v := undef) rfl (by kernel_rfl) (by kernel_rfl) (by kernel_rfl) (by kernel_rfl) (fun _ _ _ h => h) (Or.inr ⟨by rfl, rfl⟩) hH1 ?_
  (try simp only [Act.put, zA, zB, zC, zD, zE, zF])
  refine wpAnyD_take (i := 10) (v := ?_) rfl (by kernel_rfl) (by kernel_rfl) (by kernel_rfl) (by kernel_rfl) (fun _ _ _ h => h) (Or.inl ⟨by rfl, ?hyc10010⟩) hH1 ?_
  case hyc10010 => (intro w hSw; (try dsimp only at hSw); go_simp; try (with_reducible rfl))
  (try simp only [Act.put, zA, zB, zC, zD, zE, zF])
  refine wpAnyD_take (i := 13) (v := ?_) rfl (by kernel_rfl) (by kernel_rfl) (by kernel_rfl) (by kernel_rfl) (fun _ _ _ h => h) (Or.inl ⟨by rfl, ?hyc10013⟩) hH1 ?_
  case hyc10013 => (intro w hSw; (try dsimp only at hSw); go_simp; try (with_reducible rfl))
  (try simp only [Act.put, zA, zB, zC, zD, zE, zF])
  refine wpAnyD_take (i := 14) (v := ?_) rfl (by kernel_rfl) (by kernel_rfl) (by kernel_rfl) (by kernel_rfl) (fun _ _ _ h => h) (Or.inl ⟨by rfl, ?hyd10014⟩) hH1 ?_
  case hyd10014 => (intro w hSw; (try dsimp only at hSw); go_simp; try (with_reducible rfl))
  (try simp only [Act.put, zA, zB, zC, zD, zE, zF])
  refine wpAnyD_take (i := 15) (v := ?_) rfl (by kernel_rfl) (by kernel_rfl) (by kernel_rfl) (by kernel_rfl) (fun _ _ _ h => h) (Or.inl ⟨by rfl, ?hyd10015⟩) hH1 ?_
  case hyd10015 => (intro w hSw; (try dsimp only at hSw); go_simp; try (with_reducible rfl))
  (try simp only [Act.put, zA, zB, zC, zD, zE, zF])
  refine wpAnyD_take (i := 16) (v := ?_) rfl (by kernel_rfl) (by kernel_rfl) (by kernel_rfl) (by kernel_rfl) (fun _ _ _ h => h) (Or.inl ⟨by rfl, ?hye10016⟩) hH1 ?_
  case hye10016 => (intro w hSw; (try dsimp only at hSw); go_simp; try (with_reducible rfl))
  (try simp only [Act.put, zA, zB, zC, zD, zE, zF])
  refine wpAnyD_take (i := 19) (v := ?_) rfl (by kernel_rfl) (by kernel_rfl) (by kernel_rfl) (by kernel_rfl) (fun _ _ _ h => h) (Or.inl ⟨by rfl, ?hye10019⟩) hH1 ?_
  case hye10019 => (intro w hSw; (try dsimp only at hSw); go_simp; try (with_reducible rfl))
  (try simp only [Act.put, zA, zB, zC, zD, zE, zF])
  refine wpAnyD_take (i := 20) (v := ?_) rfl (by kernel_rfl) (by kernel_rfl) (by kernel_rfl) (by kernel_rfl) (fun _ _ _ h => h) (Or.inl ⟨by rfl, ?hyf10020⟩) hH1 ?_
  case hyf10020 => (intro w hSw; (try dsimp only at hSw); go_simp; try (with_reducible rfl))
  (try simp only [Act.put, zA, zB, zC, zD, zE, zF])
  refine wpAnyD_take (i := 21) (v := ?_) rfl (by kernel_rfl) (by kernel_rfl) (by kernel_rfl) (by kernel_rfl) (fun _ _ _ h => h) (Or.inl ⟨by rfl, ?hyf10021⟩) hH1 ?_
  case hyf10021 => (intro w hSw; (try dsimp only at hSw); go_simp; try (with_reducible rfl))
  (try simp only [Act.put, zA, zB, zC, zD, zE, zF])
  refine wpAnyD_take (i := 22) (v := ?_) rfl (by kernel_rfl) (by kernel_rfl) (by kernel_rfl) (by kernel_rfl) (fun _ _ _ h => h) (Or.inl ⟨by rfl, ?hyg10022⟩) hH1 ?_
  case hyg10022 => (intro w hSw; (try dsimp only at hSw); go_simp; try (with_reducible rfl))
  (try simp only [Act.put, zA, zB, zC, zD, zE, zF])
  refine wpAnyD_take (i := 23) (v := ?_) rfl (by kernel_rfl) (by kernel_rfl) (by kernel_rfl) (by kernel_rfl) (fun _ _ _ h => h) (Or.inl ⟨by rfl, ?hyh10023⟩) hH1 ?_
  case hyh10023 => (intro w hSw; (try dsimp only at hSw); go_simp; try (with_reducible rfl))
  (try simp only [Act.put, zA, zB, zC, zD, zE, zF])
  have kX1 : Kept X u1 := hH1.1
  obtain ⟨r0, r1, r2, r3, r4, r5, r6⟩ := HR.out _ kX1
  refine wpAnyD_late (i := 24) (by kernel_rfl) rfl rfl (fun K hK9 => ?_)
  go_simp
  refine hK9.out _ _ ?_
  clear hK9 K
  (try simp only [Act.put, zA, zB, zC, zD, zE, zF])
  refine wpAnyD_done (by kernel_rfl) ?_ _
  (try simp only [Act.put, zA, zB, zC, zD, zE, zF])
  go_wp2_with fail
  obtain ⟨e1, e2, e3⟩ := HFl.out
  obtain ⟨h9, h8⟩ := HEnd.out u1 va vc (.bool q.neg) (.slice va q.mag.length vc) (.int .i64 q.exp) (.bool true) (.bool m2) (.bool z2) kX1 _ kD0 hs.out
  refine bodyPost_ret (v := accV q.neg (.slice va q.mag.length vc) q.exp true m2 z2) (by simp [results, Tryz.results52, go_sem, r0, r1, r2, r3, r4, r5]) rfl ⟨va, vc, by rw [e1, e2, e3]; rfl, h9, h8⟩
 ·skip
  go_enter Tryz.func52, Tryz.ntmps52
  go_upto_region 1 with fail
  rw [← hX, ← hB2, ← hB1, ← hB]
  clear hX hB2 hY hY1 hB hB1 HA0 HB0
  refine wp_region_late [24] (fun u => Kept X u ∧ (u.cell? ⟨B, 0, none⟩ = some (.bool n1) ∧ u.cell? ⟨B, 1, none⟩ = some (.slice a1 l1 c1) ∧ u.cell? ⟨B, 2, none⟩ = some (.int .i64 x1) ∧ u.cell? ⟨B, 3, none⟩ = some (.bool true) ∧ u.cell? ⟨B, 4, none⟩ = some (.bool false) ∧ u.cell? ⟨B, 5, none⟩ = some (.bool true)) ∧ u.cell? ⟨B1, 0, none⟩ = some (.bool n2) ∧ u.cell? ⟨B1, 1, none⟩ = some (.slice a2 l2 c2) ∧ u.cell? ⟨B1, 2, none⟩ = some (.int .i64 x2) ∧ u.cell? ⟨B1, 3, none⟩ = some (.bool p2) ∧ u.cell? ⟨B1, 4, none⟩ = some (.bool m2) ∧ u.cell? ⟨B1, 5, none⟩ = some (.bool z2)) (by kernel_rfl) (HA.out _ (Kept.refl _).drew) (fun hHeld => ?_)
  refine wpAnyD_take (i := 0) (v := ?_) rfl (by kernel_rfl) (by kernel_rfl) (by kernel_rfl) (by kernel_rfl) (fun _ _ _ h => h) (Or.inl ⟨by rfl, ?hya1010⟩) hHeld ?_
  case hya1010 => (intro w hSw; (try dsimp only at hSw); go_simp; try (with_reducible rfl))
  (try simp only [Act.put, zA, zB, zC, zD, zE, zF])
  refine wpAnyD_take (i := 1) (v := ?_) rfl (by kernel_rfl) (by kernel_rfl) (by kernel_rfl) (by kernel_rfl) (fun _ _ _ h => h) (Or.inl ⟨by rfl, ?hya1011⟩) hHeld ?_
  case hya1011 => (intro w hSw; (try dsimp only at hSw); go_simp; try (with_reducible rfl))
  (try simp only [Act.put, zA, zB, zC, zD, zE, zF])
  refine wpAnyD_take (i := 2) (v := ?_) rfl (by kernel_rfl) (by kernel_rfl) (by kernel_rfl) (by kernel_rfl) (fun _ _ _ h => h) (Or.inl ⟨by rfl, ?hya1012⟩) hHeld ?_
  case hya1012 => (intro w hSw; (try dsimp only at hSw); go_simp; try (with_reducible rfl))
  (try simp only [Act.put, zA, zB, zC, zD, zE, zF])
  refine wpAnyD_take (i := 3) (v := ?_) rfl (by kernel_rfl) (by kernel_rfl) (by kernel_rfl) (by kernel_rfl) (fun _ _ _ h => h) (Or.inl ⟨by rfl, ?hya1013⟩) hHeld ?_
  case hya1013 => (intro w hSw; (try dsimp only at hSw); go_simp; try (with_reducible rfl))
  (try simp only [Act.put, zA, zB, zC, zD, zE, zF])
  refine wpAnyD_take (i := 5) (v := ?_) rfl (by kernel_rfl) (by kernel_rfl) (by kernel_rfl) (by kernel_rfl) (fun _ _ _ h => h) (Or.inl ⟨by rfl, ?hya1015⟩) hHeld ?_
  case hya1015 => (intro w hSw; (try dsimp only at hSw); go_simp; try (with_reducible rfl))
  (try simp only [Act.put, zA, zB, zC, zD, zE, zF])
  refine wpAnyD_take (i := 6) (v := ?_) rfl (by kernel_rfl) (by kernel_rfl) (by kernel_rfl) (by kernel_rfl) (fun _ _ _ h => h) (Or.inl ⟨by rfl, ?hya1016⟩) hHeld ?_
  case hya1016 => (intro w hSw; (try dsimp only at hSw); go_simp; try (with_reducible rfl))
  (try simp only [Act.put, zA, zB, zC, zD, zE, zF])
  refine wpAnyD_take (i := 11) (v := ?_) rfl (by kernel_rfl) (by kernel_rfl) (by kernel_rfl) (by kernel_rfl) (fun _ _ _ h => h) (Or.inl ⟨by rfl, ?hya10111⟩) hHeld ?_
  case hya10111 => (intro w hSw; (try dsimp only at hSw); go_simp; try (with_reducible rfl))
  (try simp only [Act.put, zA, zB, zC, zD, zE, zF])
  refine wpAnyD_take (i := 12) (v := ?_) rfl (by kernel_rfl) (by kernel_rfl) (by kernel_rfl) (by kernel_rfl) (fun _ _ _ h => h) (Or.inl ⟨by rfl, ?hya10112⟩) hHeld ?_
  case hya10112 => (intro w hSw; (try dsimp only at hSw); go_simp; try (with_reducible rfl))
  (try simp only [Act.put, zA, zB, zC, zD, zE, zF])
  refine wpAnyD_take (i := 17) (v := ?_) rfl (by kernel_rfl) (by kernel_rfl) (by kernel_rfl) (by kernel_rfl) (fun _ _ _ h => h) (Or.inl ⟨by rfl, ?hya10117⟩) hHeld ?_
  case hya10117 => (intro w hSw; (try dsimp only at hSw); go_simp; try (with_reducible rfl))
  (try simp only [Act.put, zA, zB, zC, zD, zE, zF])
  refine wpAnyD_take (i := 18) (v := ?_) rfl (by kernel_rfl) (by kernel_rfl) (by kernel_rfl) (by kernel_rfl) (fun _ _ _ h => h) (Or.inl ⟨by rfl, ?hya10118⟩) hHeld ?_
  case hya10118 => (intro w hSw; (try dsimp only at hSw); go_simp; try (with_reducible rfl))
  (try simp only [Act.put, zA, zB, zC, zD, zE, zF])
  have kD0 : Kept X _ := hHeld.1
  refine wpAnyD_step (i := 4) (by kernel_rfl) rfl (fun K hK9 => ?_)
  go_simp
  go_wp2_with fail
  refine (KP.out _ (k0.trans hHeld.1)).mono ?_
  rintro e u1 ⟨va, vc, rfl, hs, k1⟩
  refine hK9.out _ _ (HA.out _ (hHeld.1.trans k1)) (fun hH1 => ?_)
  clear hK9 K
  refine wpAnyD_take (i := 7) (v := ?_) rfl (by kernel_rfl) (by kernel_rfl) (by kernel_rfl) (by kernel_rfl) (fun _ _ _ h => h) (Or.inl ⟨by rfl, ?hyi1017⟩) hH1 ?_
  case hyi1017 => (intro w hSw; (try dsimp only at hSw); go_simp; try (with_reducible rfl))
  (try simp only [Act.put, zA, zB, zC, zD, zE, zF])
  refine wpAnyD_take (i := 8) (v := undef) rfl (by kernel_rfl) (by kernel_rfl) (by kernel_rfl) (by kernel_rfl) (fun _ _ _ h => h) (Or.inr ⟨by rfl, rfl⟩) hH1 ?_
  (try simp only [Act.put, zA, zB, zC, zD, zE, zF])
  refine wpAnyD_take (i := 9) (v := undef) rfl (by kernel_rfl) (by kernel_rfl) (by kernel_rfl) (by kernel_rfl) (fun _ _ _ h => h) (Or.inr ⟨by rfl, rfl⟩) hH1 ?_
  (try simp only [Act.put, zA, zB, zC, zD, zE, zF])
  refine wpAnyD_take (i := 10) (v := ?_) rfl (by kernel_rfl) (by kernel_rfl) (by kernel_rfl) (by kernel_rfl) (fun _ _ _ h => h) (Or.inl ⟨by rfl, ?hyc10110⟩) hH1 ?_
  case hyc10110 => (intro w hSw; (try dsimp only at hSw); go_simp; try (with_reducible rfl))
  (try simp only [Act.put, zA, zB, zC, zD, zE, zF])
  refine wpAnyD_take (i := 13) (v := ?_) rfl (by kernel_rfl) (by kernel_rfl) (by kernel_rfl) (by kernel_rfl) (fun _ _ _ h => h) (Or.inl ⟨by rfl, ?hyc10113⟩) hH1 ?_
  case hyc10113 => (intro w hSw; (try dsimp only at hSw); go_simp; try (with_reducible rfl))
  (try simp only [Act.put, zA, zB, zC, zD, zE, zF])
  refine wpAnyD_take (i := 14) (v := ?_) rfl (by kernel_rfl) (by kernel_rfl) (by kernel_rfl) (by kernel_rfl) (fun _ _ _ h => h) (Or.inl ⟨by rfl, ?hyd10114⟩) hH1 ?_
  case hyd10114 => (intro w hSw; (try dsimp only at hSw); go_simp; try (with_reducible rfl))
  (try simp only [Act.put, zA, zB, zC, zD, zE, zF])
  refine wpAnyD_take (i := 15) (v := ?_) rfl (by kernel_rfl) (by kernel_rfl) (by kernel_rfl) (by kernel_rfl) (fun _ _ _ h => h) (Or.inl ⟨by rfl, ?hyd10115⟩) hH1 ?_
  case hyd10115 => (intro w hSw; (try dsimp only at hSw); go_simp; try (with_reducible rfl))
  (try simp only [Act.put, zA, zB, zC, zD, zE, zF])
  refine wpAnyD_take (i := 16) (v := ?_) rfl (by kernel_rfl) (by kernel_rfl) (by kernel_rfl) (by kernel_rfl) (fun _ _ _ h => h) (Or.inl ⟨by rfl, ?hye10116⟩) hH1 ?_
  case hye10116 => (intro w hSw; (try dsimp only at hSw); go_simp; try (with_reducible rfl))
  (try simp only [Act.put, zA, zB, zC, zD, zE, zF])
  refine wpAnyD_take (i := 19) (v := ?_) rfl (by kernel_rfl) (by kernel_rfl) (by kernel_rfl) (by kernel_rfl) (fun _ _ _ h => h) (Or.inl ⟨by rfl, ?hye10119⟩) hH1 ?_
  case hye10119 => (intro w hSw; (try dsimp only at hSw); go_simp; try (with_reducible rfl))
  (try simp only [Act.put, zA, zB, zC, zD, zE, zF])
  refine wpAnyD_take (i := 20) (v := undef) rfl (by kernel_rfl) (by kernel_rfl) (by kernel_rfl) (by kernel_rfl) (fun _ _ _ h => h) (Or.inr ⟨by rfl, rfl⟩) hH1 ?_
  (try simp only [Act.put, zA, zB, zC, zD, zE, zF])
  refine wpAnyD_take (i := 21) (v := undef) rfl (by kernel_rfl) (by kernel_rfl) (by kernel_rfl) (by kernel_rfl) (fun _ _ _ h => h) (Or.inr ⟨by rfl, rfl⟩) hH1 ?_
  (try simp only [Act.put, zA, zB, zC, zD, zE, zF])
  refine wpAnyD_take (i := 22) (v := ?_) rfl (by kernel_rfl) (by kernel_rfl) (by kernel_rfl) (by kernel_rfl) (fun _ _ _ h => h) (Or.inl ⟨by rfl, ?hyg10122⟩) hH1 ?_
  case hyg10122 => (intro w hSw; (try dsimp only at hSw); go_simp; try (with_reducible rfl))
  (try simp only [Act.put, zA, zB, zC, zD, zE, zF])
  refine wpAnyD_take (i := 23) (v := ?_) rfl (by kernel_rfl) (by kernel_rfl) (by kernel_rfl) (by kernel_rfl) (fun _ _ _ h => h) (Or.inl ⟨by rfl, ?hyh10123⟩) hH1 ?_
  case hyh10123 => (intro w hSw; (try dsimp only at hSw); go_simp; try (with_reducible rfl))
  (try simp only [Act.put, zA, zB, zC, zD, zE, zF])
  have kX1 : Kept X u1 := hH1.1
  obtain ⟨r0, r1, r2, r3, r4, r5, r6⟩ := HR.out _ kX1
  refine wpAnyD_late (i := 24) (by kernel_rfl) rfl rfl (fun K hK9 => ?_)
  go_simp
  refine hK9.out _ _ ?_
  clear hK9 K
  (try simp only [Act.put, zA, zB, zC, zD, zE, zF])
  refine wpAnyD_done (by kernel_rfl) ?_ _
  (try simp only [Act.put, zA, zB, zC, zD, zE, zF])
  go_wp2_with fail
  obtain ⟨e1, e2, e3⟩ := HFl.out
  obtain ⟨h9, h8⟩ := HEnd.out u1 va vc (.bool q.neg) (.slice va q.mag.length vc) (.int .i64 q.exp) (.bool true) (.bool m2) (.bool true) kX1 _ kD0 hs.out
  refine bodyPost_ret (v := accV q.neg (.slice va q.mag.length vc) q.exp true m2 true) (by simp [results, Tryz.results52, go_sem, r0, r1, r2, r3, r4, r5]) rfl ⟨va, vc, by rw [e1, e2, e3]; rfl, h9, h8⟩
 ·skip
  go_enter Tryz.func52, Tryz.ntmps52
  go_upto_region 1 with fail
  rw [← hX, ← hB2, ← hB1, ← hB]
  clear hX hB2 hY hY1 hB hB1 HA0 HB0
  refine wp_region_late [24] (fun u => Kept X u ∧ (u.cell? ⟨B, 0, none⟩ = some (.bool n1) ∧ u.cell? ⟨B, 1, none⟩ = some (.slice a1 l1 c1) ∧ u.cell? ⟨B, 2, none⟩ = some (.int .i64 x1) ∧ u.cell? ⟨B, 3, none⟩ = some (.bool true) ∧ u.cell? ⟨B, 4, none⟩ = some (.bool true) ∧ u.cell? ⟨B, 5, none⟩ = some (.bool false)) ∧ u.cell? ⟨B1, 0, none⟩ = some (.bool n2) ∧ u.cell? ⟨B1, 1, none⟩ = some (.slice a2 l2 c2) ∧ u.cell? ⟨B1, 2, none⟩ = some (.int .i64 x2) ∧ u.cell? ⟨B1, 3, none⟩ = some (.bool p2) ∧ u.cell? ⟨B1, 4, none⟩ = some (.bool m2) ∧ u.cell? ⟨B1, 5, none⟩ = some (.bool z2)) (by kernel_rfl) (HA.out _ (Kept.refl _).drew) (fun hHeld => ?_)
  refine wpAnyD_take (i := 0) (v := ?_) rfl (by kernel_rfl) (by kernel_rfl) (by kernel_rfl) (by kernel_rfl) (fun _ _ _ h => h) (Or.inl ⟨by rfl, ?hya1100⟩) hHeld ?_
  case hya1100 => (intro w hSw; (try dsimp only at hSw); go_simp; try (with_reducible rfl))
  (try simp only [Act.put, zA, zB, zC, zD, zE, zF])
  refine wpAnyD_take (i := 1) (v := ?_) rfl (by kernel_rfl) (by kernel_rfl) (by kernel_rfl) (by kernel_rfl) (fun _ _ _ h => h) (Or.inl ⟨by rfl, ?hya1101⟩) hHeld ?_
  case hya1101 => (intro w hSw; (try dsimp only at hSw); go_simp; try (with_reducible rfl))
  (try simp only [Act.put, zA, zB, zC, zD, zE, zF])
  refine wpAnyD_take (i := 2) (v := ?_) rfl (by kernel_rfl) (by kernel_rfl) (by kernel_rfl) (by kernel_rfl) (fun _ _ _ h => h) (Or.inl ⟨by rfl, ?hya1102⟩) hHeld ?_
  case hya1102 => (intro w hSw; (try dsimp only at hSw); go_simp; try (with_reducible rfl))
  (try simp only [Act.put, zA, zB, zC, zD, zE, zF])
  refine wpAnyD_take (i := 3) (v := ?_) rfl (by kernel_rfl) (by kernel_rfl) (by kernel_rfl) (by kernel_rfl) (fun _ _ _ h => h) (Or.inl ⟨by rfl, ?hya1103⟩) hHeld ?_
  case hya1103 => (intro w hSw; (try dsimp only at hSw); go_simp; try (with_reducible rfl))
  (try simp only [Act.put, zA, zB, zC, zD, zE, zF])
  refine wpAnyD_take (i := 5) (v := ?_) rfl (by kernel_rfl) (by kernel_rfl) (by kernel_rfl) (by kernel_rfl) (fun _ _ _ h => h) (Or.inl ⟨by rfl, ?hya1105⟩) hHeld ?_
  case hya1105 => (intro w hSw; (try dsimp only at hSw); go_simp; try (with_reducible rfl))
  (try simp only [Act.put, zA, zB, zC, zD, zE, zF])
  refine wpAnyD_take (i := 6) (v := ?_) rfl (by kernel_rfl) (by kernel_rfl) (by kernel_rfl) (by kernel_rfl) (fun _ _ _ h => h) (Or.inl ⟨by rfl, ?hya1106⟩) hHeld ?_
  case hya1106 => (intro w hSw; (try dsimp only at hSw); go_simp; try (with_reducible rfl))
  (try simp only [Act.put, zA, zB, zC, zD, zE, zF])
  refine wpAnyD_take (i := 11) (v := ?_) rfl (by kernel_rfl) (by kernel_rfl) (by kernel_rfl) (by kernel_rfl) (fun _ _ _ h => h) (Or.inl ⟨by rfl, ?hya11011⟩) hHeld ?_
  case hya11011 => (intro w hSw; (try dsimp only at hSw); go_simp; try (with_reducible rfl))
  (try simp only [Act.put, zA, zB, zC, zD, zE, zF])
  refine wpAnyD_take (i := 12) (v := ?_) rfl (by kernel_rfl) (by kernel_rfl) (by kernel_rfl) (by kernel_rfl) (fun _ _ _ h => h) (Or.inl ⟨by rfl, ?hya11012⟩) hHeld ?_
  case hya11012 => (intro w hSw; (try dsimp only at hSw); go_simp; try (with_reducible rfl))
  (try simp only [Act.put, zA, zB, zC, zD, zE, zF])
  refine wpAnyD_take (i := 17) (v := ?_) rfl (by kernel_rfl) (by kernel_rfl) (by kernel_rfl) (by kernel_rfl) (fun _ _ _ h => h) (Or.inl ⟨by rfl, ?hya11017⟩) hHeld ?_
  case hya11017 => (intro w hSw; (try dsimp only at hSw); go_simp; try (with_reducible rfl))
  (try simp only [Act.put, zA, zB, zC, zD, zE, zF])
  refine wpAnyD_take (i := 18) (v := ?_) rfl (by kernel_rfl) (by kernel_rfl) (by kernel_rfl) (by kernel_rfl) (fun _ _ _ h => h) (Or.inl ⟨by rfl, ?hya11018⟩) hHeld ?_
  case hya11018 => (intro w hSw; (try dsimp only at hSw); go_simp; try (with_reducible rfl))
  (try simp only [Act.put, zA, zB, zC, zD, zE, zF])
  have kD0 : Kept X _ := hHeld.1
  refine wpAnyD_step (i := 4) (by kernel_rfl) rfl (fun K hK9 => ?_)
  go_simp
  go_wp2_with fail
  refine (KP.out _ (k0.trans hHeld.1)).mono ?_
  rintro e u1 ⟨va, vc, rfl, hs, k1⟩
  refine hK9.out _ _ (HA.out _ (hHeld.1.trans k1)) (fun hH1 => ?_)
  clear hK9 K
  refine wpAnyD_take (i := 7) (v := ?_) rfl (by kernel_rfl) (by kernel_rfl) (by kernel_rfl) (by kernel_rfl) (fun _ _ _ h => h) (Or.inl ⟨by rfl, ?hyi1107⟩) hH1 ?_
  case hyi1107 => (intro w hSw; (try dsimp only at hSw); go_simp; try (with_reducible rfl))
  (try simp only [Act.put, zA, zB, zC, zD, zE, zF])
  refine wpAnyD_take (i := 8) (v := undef) rfl (by kernel_rfl) (by kernel_rfl) (by kernel_rfl) (by kernel_rfl) (fun _ _ _ h => h) (Or.inr ⟨by rfl, rfl⟩) hH1 ?_
  (try simp only [Act.put, zA, zB, zC, zD, zE, zF])
  refine wpAnyD_take (i := 9) (v := undef) rfl (by kernel_rfl) (by kernel_rfl) (by kernel_rfl) (by kernel_rfl) (fun _ _ _ h => h) (Or.inr ⟨by rfl, rfl⟩) hH1 ?_
  (try simp only [Act.put, zA, zB, zC, zD, zE, zF])
  refine wpAnyD_take (i := 10) (v := ?_) rfl (by kernel_rfl) (by kernel_rfl) (by kernel_rfl) (by kernel_rfl) (fun _ _ _ h => h) (Or.inl ⟨by rfl, ?hyc11010⟩) hH1 ?_
  case hyc11010 => (intro w hSw; (try dsimp only at hSw); go_simp; try (with_reducible rfl))
  (try simp only [Act.put, zA, zB, zC, zD, zE, zF])
  refine wpAnyD_take (i := 13) (v := ?_) rfl (by kernel_rfl) (by kernel_rfl) (by kernel_rfl) (by kernel_rfl) (fun _ _ _ h => h) (Or.inl ⟨by rfl, ?hyc11013⟩) hH1 ?_
  case hyc11013 => (intro w hSw; (try dsimp only at hSw); go_simp; try (with_reducible rfl))
  (try simp only [Act.put, zA, zB, zC, zD, zE, zF])
  refine wpAnyD_take (i := 14) (v := undef) rfl (by kernel_rfl) (by kernel_rfl) (by kernel_rfl) (by kernel_rfl) (fun _ _ _ h => h) (Or.inr ⟨by rfl, rfl⟩) hH1 ?_
  (try simp only [Act.put, zA, zB, zC, zD, zE, zF])
  refine wpAnyD_take (i := 15) (v := undef) rfl (by kernel_rfl) (by kernel_rfl) (by kernel_rfl) (by kernel_rfl) (fun _ _ _ h => h) (Or.inr ⟨by rfl, rfl⟩) hH1 ?_
  (try simp only [Act.put, zA, zB, zC, zD, zE, zF])
  refine wpAnyD_take (i := 16) (v := ?_) rfl (by kernel_rfl) (by kernel_rfl) (by kernel_rfl) (by kernel_rfl) (fun _ _ _ h => h) (Or.inl ⟨by rfl, ?hye11016⟩) hH1 ?_
  case hye11016 => (intro w hSw; (try dsimp only at hSw); go_simp; try (with_reducible rfl))
  (try simp only [Act.put, zA, zB, zC, zD, zE, zF])
  refine wpAnyD_take (i := 19) (v := ?_) rfl (by kernel_rfl) (by kernel_rfl) (by kernel_rfl) (by kernel_rfl) (fun _ _ _ h => h) (Or.inl ⟨by rfl, ?hye11019⟩) hH1 ?_
  case hye11019 => (intro w hSw; (try dsimp only at hSw); go_simp; try (with_reducible rfl))
  (try simp only [Act.put, zA, zB, zC, zD, zE, zF])
  refine wpAnyD_take (i := 20) (v := ?_) rfl (by kernel_rfl) (by kernel_rfl) (by kernel_rfl) (by kernel_rfl) (fun _ _ _ h => h) (Or.inl ⟨by rfl, ?hyf11020⟩) hH1 ?_
  case hyf11020 => (intro w hSw; (try dsimp only at hSw); go_simp; try (with_reducible rfl))
  (try simp only [Act.put, zA, zB, zC, zD, zE, zF])
  refine wpAnyD_take (i := 21) (v := ?_) rfl (by kernel_rfl) (by kernel_rfl) (by kernel_rfl) (by kernel_rfl) (fun _ _ _ h => h) (Or.inl ⟨by rfl, ?hyf11021⟩) hH1 ?_
  case hyf11021 => (intro w hSw; (try dsimp only at hSw); go_simp; try (with_reducible rfl))
  (try simp only [Act.put, zA, zB, zC, zD, zE, zF])
  refine wpAnyD_take (i := 22) (v := ?_) rfl (by kernel_rfl) (by kernel_rfl) (by kernel_rfl) (by kernel_rfl) (fun _ _ _ h => h) (Or.inl ⟨by rfl, ?hyg11022⟩) hH1 ?_
  case hyg11022 => (intro w hSw; (try dsimp only at hSw); go_simp; try (with_reducible rfl))
  (try simp only [Act.put, zA, zB, zC, zD, zE, zF])
  refine wpAnyD_take (i := 23) (v := ?_) rfl (by kernel_rfl) (by kernel_rfl) (by kernel_rfl) (by kernel_rfl) (fun _ _ _ h => h) (Or.inl ⟨by rfl, ?hyh11023⟩) hH1 ?_
  case hyh11023 => (intro w hSw; (try dsimp only at hSw); go_simp; try (with_reducible rfl))
  (try simp only [Act.put, zA, zB, zC, zD, zE, zF])
  have kX1 : Kept X u1 := hH1.1
  obtain ⟨r0, r1, r2, r3, r4, r5, r6⟩ := HR.out _ kX1
  refine wpAnyD_late (i := 24) (by kernel_rfl) rfl rfl (fun K hK9 => ?_)
  go_simp
  refine hK9.out _ _ ?_
  clear hK9 K
  (try simp only [Act.put, zA, zB, zC, zD, zE, zF])
  refine wpAnyD_done (by kernel_rfl) ?_ _
  (try simp only [Act.put, zA, zB, zC, zD, zE, zF])
  go_wp2_with fail
  obtain ⟨e1, e2, e3⟩ := HFl.out
  obtain ⟨h9, h8⟩ := HEnd.out u1 va vc (.bool q.neg) (.slice va q.mag.length vc) (.int .i64 q.exp) (.bool true) (.bool true) (.bool z2) kX1 _ kD0 hs.out
  refine bodyPost_ret (v := accV q.neg (.slice va q.mag.length vc) q.exp true true z2) (by simp [results, Tryz.results52, go_sem, r0, r1, r2, r3, r4, r5]) rfl ⟨va, vc, by rw [e1, e2, e3]; rfl, h9, h8⟩
 ·skip
  go_enter Tryz.func52, Tryz.ntmps52
  go_upto_region 1 with fail
  rw [← hX, ← hB2, ← hB1, ← hB]
  clear hX hB2 hY hY1 hB hB1 HA0 HB0
  refine wp_region_late [24] (fun u => Kept X u ∧ (u.cell? ⟨B, 0, none⟩ = some (.bool n1) ∧ u.cell? ⟨B, 1, none⟩ = some (.slice a1 l1 c1) ∧ u.cell? ⟨B, 2, none⟩ = some (.int .i64 x1) ∧ u.cell? ⟨B, 3, none⟩ = some (.bool true) ∧ u.cell? ⟨B, 4, none⟩ = some (.bool true) ∧ u.cell? ⟨B, 5, none⟩ = some (.bool true)) ∧ u.cell? ⟨B1, 0, none⟩ = some (.bool n2) ∧ u.cell? ⟨B1, 1, none⟩ = some (.slice a2 l2 c2) ∧ u.cell? ⟨B1, 2, none⟩ = some (.int .i64 x2) ∧ u.cell? ⟨B1, 3, none⟩ = some (.bool p2) ∧ u.cell? ⟨B1, 4, none⟩ = some (.bool m2) ∧ u.cell? ⟨B1, 5, none⟩ = some (.bool z2)) (by kernel_rfl) (HA.out _ (Kept.refl _).drew) (fun hHeld => ?_)
  refine wpAnyD_take (i := 0) (v := ?_) rfl (by kernel_rfl) (by kernel_rfl) (by kernel_rfl) (by kernel_rfl) (fun _ _ _ h => h) (Or.inl ⟨by rfl, ?hya1110⟩) hHeld ?_
  case hya1110 => (intro w hSw; (try dsimp only at hSw); go_simp; try (with_reducible rfl))
  (try simp only [Act.put, zA, zB, zC, zD, zE, zF])
  refine wpAnyD_take (i := 1) (v := ?_) rfl (by kernel_rfl) (by kernel_rfl) (by kernel_rfl) (by kernel_rfl) (fun _ _ _ h => h) (Or.inl ⟨by rfl, ?hya1111⟩) hHeld ?_
  case hya1111 => (intro w hSw; (try dsimp only at hSw); go_simp; try (with_reducible rfl))
  (try simp only [Act.put, zA, zB, zC, zD, zE, zF])
  refine wpAnyD_take (i := 2) (v := ?_) rfl (by kernel_rfl) (by kernel_rfl) (by kernel_rfl) (by kernel_rfl) (fun _ _ _ h => h) (Or.inl ⟨by rfl, ?hya1112⟩) hHeld ?_
  case hya1112 => (intro w hSw; (try dsimp only at hSw); go_simp; try (with_reducible rfl))
  (try simp only [Act.put, zA, zB, zC, zD, zE, zF])
  refine wpAnyD_take (i := 3) (v := ?_) rfl (by kernel_rfl) (by kernel_rfl) (by kernel_rfl) (by kernel_rfl) (fun _ _ _ h => h) (Or.inl ⟨by rfl, ?hya1113⟩) hHeld ?_
  case hya1113 => (intro w hSw; (try dsimp only at hSw); go_simp; try (with_reducible rfl))
  (try simp only [Act.put, zA, zB, zC, zD, zE, zF])
  refine wpAnyD_take (i := 5) (v := ?_) rfl (by kernel_rfl) (by kernel_rfl) (by kernel_rfl) (by kernel_rfl) (fun _ _ _ h => h) (Or.inl ⟨by rfl, ?hya1115⟩) hHeld ?_
  case hya1115 => (intro w hSw; (try dsimp only at hSw); go_simp; try (with_reducible rfl))
  (try simp only [Act.put, zA, zB, zC, zD, zE, zF])
  refine wpAnyD_take (i := 6) (v := ?_) rfl (by kernel_rfl) (by kernel_rfl) (by kernel_rfl) (by kernel_rfl) (fun _ _ _ h => h) (Or.inl ⟨by rfl, ?hya1116⟩) hHeld ?_
  case hya1116 => (intro w hSw; (try dsimp only at hSw); go_simp; try (with_reducible rfl))
  (try simp only [Act.put, zA, zB, zC, zD, zE, zF])
  refine wpAnyD_take (i := 11) (v := ?_) rfl (by kernel_rfl) (by kernel_rfl) (by kernel_rfl) (by kernel_rfl) (fun _ _ _ h => h) (Or.inl ⟨by rfl, ?hya11111⟩) hHeld ?_
  case hya11111 => (intro w hSw; (try dsimp only at hSw); go_simp; try (with_reducible rfl))
  (try simp only [Act.put, zA, zB, zC, zD, zE, zF])
  refine wpAnyD_take (i := 12) (v := ?_) rfl (by kernel_rfl) (by kernel_rfl) (by kernel_rfl) (by kernel_rfl) (fun _ _ _ h => h) (Or.inl ⟨by rfl, ?hya11112⟩) hHeld ?_
  case hya11112 => (intro w hSw; (try dsimp only at hSw); go_simp; try (with_reducible rfl))
  (try simp only [Act.put, zA, zB, zC, zD, zE, zF])
  refine wpAnyD_take (i := 17) (v := ?_) rfl (by kernel_rfl) (by kernel_rfl) (by kernel_rfl) (by kernel_rfl) (fun _ _ _ h => h) (Or.inl ⟨by rfl, ?hya11117⟩) hHeld ?_
  case hya11117 => (intro w hSw; (try dsimp only at hSw); go_simp; try (with_reducible rfl))
  (try simp only [Act.put, zA, zB, zC, zD, zE, zF])
  refine wpAnyD_take (i := 18) (v := ?_) rfl (by kernel_rfl) (by kernel_rfl) (by kernel_rfl) (by kernel_rfl) (fun _ _ _ h => h) (Or.inl ⟨by rfl, ?hya11118⟩) hHeld ?_
  case hya11118 => (intro w hSw; (try dsimp only at hSw); go_simp; try (with_reducible rfl))
  (try simp only [Act.put, zA, zB, zC, zD, zE, zF])
  have kD0 : Kept X _ := hHeld.1
  refine wpAnyD_step (i := 4) (by kernel_rfl) rfl (fun K hK9 => ?_)
  go_simp
  go_wp2_with fail
  refine (KP.out _ (k0.trans hHeld.1)).mono ?_
  rintro e u1 ⟨va, vc, rfl, hs, k1⟩
  refine hK9.out _ _ (HA.out _ (hHeld.1.trans k1)) (fun hH1 => ?_)
  clear hK9 K
  refine wpAnyD_take (i := 7) (v := ?_) rfl (by kernel_rfl) (by kernel_rfl) (by kernel_rfl) (by kernel_rfl) (fun _ _ _ h => h) (Or.inl ⟨by rfl, ?hyi1117⟩) hH1 ?_
  case hyi1117 => (intro w hSw; (try dsimp only at hSw); go_simp; try (with_reducible rfl))
  (try simp only [Act.put, zA, zB, zC, zD, zE, zF])
  refine wpAnyD_take (i := 8) (v := undef) rfl (by kernel_rfl) (by kernel_rfl) (by kernel_rfl) (by kernel_rfl) (fun _ _ _ h => h) (Or.inr ⟨by rfl, rfl⟩) hH1 ?_
  (try simp only [Act.put, zA, zB, zC, zD, zE, zF])
  refine wpAnyD_take (i := 9) (v := undef) rfl (by kernel_rfl) (by kernel_rfl) (by kernel_rfl) (by kernel_rfl) (fun _ _ _ h => h) (Or.inr ⟨by rfl, rfl⟩) hH1 ?_
  (try simp only [Act.put, zA, zB, zC, zD, zE, zF])
  refine wpAnyD_take (i := 10) (v := ?_) rfl (by kernel_rfl) (by kernel_rfl) (by kernel_rfl) (by kernel_rfl) (fun _ _ _ h => h) (Or.inl ⟨by rfl, ?hyc11110⟩) hH1 ?_
  case hyc11110 => (intro w hSw; (try dsimp only at hSw); go_simp; try (with_reducible rfl))
  (try simp only [Act.put, zA, zB, zC, zD, zE, zF])
  refine wpAnyD_take (i := 13) (v := ?_) rfl (by kernel_rfl) (by kernel_rfl) (by kernel_rfl) (by kernel_rfl) (fun _ _ _ h => h) (Or.inl ⟨by rfl, ?hyc11113⟩) hH1 ?_
  case hyc11113 => (intro w hSw; (try dsimp only at hSw); go_simp; try (with_reducible rfl))
  (try simp only [Act.put, zA, zB, zC, zD, zE, zF])
  refine wpAnyD_take (i := 14) (v := undef) rfl (by kernel_rfl) (by kernel_rfl) (by kernel_rfl) (by kernel_rfl) (fun _ _ _ h => h) (Or.inr ⟨by rfl, rfl⟩) hH1 ?_
  (try simp only [Act.put, zA, zB, zC, zD, zE, zF])
  refine wpAnyD_take (i := 15) (v := undef) rfl (by kernel_rfl) (by kernel_rfl) (by kernel_rfl) (by kernel_rfl) (fun _ _ _ h => h) (Or.inr ⟨by rfl, rfl⟩) hH1 ?_
  (try simp only [Act.put, zA, zB, zC, zD, zE, zF])
  refine wpAnyD_take (i := 16) (v := ?_) rfl (by kernel_rfl) (by kernel_rfl) (by kernel_rfl) (by kernel_rfl) (fun _ _ _ h => h) (Or.inl ⟨by rfl, ?hye11116⟩) hH1 ?_
  case hye11116 => (intro w hSw; (try dsimp only at hSw); go_simp; try (with_reducible rfl))
  (try simp only [Act.put, zA, zB, zC, zD, zE, zF])
  refine wpAnyD_take (i := 19) (v := ?_) rfl (by kernel_rfl) (by kernel_rfl) (by kernel_rfl) (by kernel_rfl) (fun _ _ _ h => h) (Or.inl ⟨by rfl, ?hye11119⟩) hH1 ?_
  case hye11119 => (intro w hSw; (try dsimp only at hSw); go_simp; try (with_reducible rfl))
  (try simp only [Act.put, zA, zB, zC, zD, zE, zF])
  refine wpAnyD_take (i := 20) (v := undef) rfl (by kernel_rfl) (by kernel_rfl) (by kernel_rfl) (by kernel_rfl) (fun _ _ _ h => h) (Or.inr ⟨by rfl, rfl⟩) hH1 ?_
  (try simp only [Act.put, zA, zB, zC, zD, zE, zF])
  refine wpAnyD_take (i := 21) (v := undef) rfl (by kernel_rfl) (by kernel_rfl) (by kernel_rfl) (by kernel_rfl) (fun _ _ _ h => h) (Or.inr ⟨by rfl, rfl⟩) hH1 ?_
  (try simp only [Act.put, zA, zB, zC, zD, zE, zF])
  refine wpAnyD_take (i := 22) (v := ?_) rfl (by kernel_rfl) (by kernel_rfl) (by kernel_rfl) (by kernel_rfl) (fun _ _ _ h => h) (Or.inl ⟨by rfl, ?hyg11122⟩) hH1 ?_
  case hyg11122 => (intro w hSw; (try dsimp only at hSw); go_simp; try (with_reducible rfl))
  (try simp only [Act.put, zA, zB, zC, zD, zE, zF])
  refine wpAnyD_take (i := 23) (v := ?_) rfl (by kernel_rfl) (by kernel_rfl) (by kernel_rfl) (by kernel_rfl) (fun _ _ _ h => h) (Or.inl ⟨by rfl, ?hyh11123⟩) hH1 ?_
  case hyh11123 => (intro w hSw; (try dsimp only at hSw); go_simp; try (with_reducible rfl))
  (try simp only [Act.put, zA, zB, zC, zD, zE, zF])
  have kX1 : Kept X u1 := hH1.1
  obtain ⟨r0, r1, r2, r3, r4, r5, r6⟩ := HR.out _ kX1
  refine wpAnyD_late (i := 24) (by kernel_rfl) rfl rfl (fun K hK9 => ?_)
  go_simp
  refine hK9.out _ _ ?_
  clear hK9 K
  (try simp only [Act.put, zA, zB, zC, zD, zE, zF])
  refine wpAnyD_done (by kernel_rfl) ?_ _
  (try simp only [Act.put, zA, zB, zC, zD, zE, zF])
  go_wp2_with fail
  obtain ⟨e1, e2, e3⟩ := HFl.out
  obtain ⟨h9, h8⟩ := HEnd.out u1 va vc (.bool q.neg) (.slice va q.mag.length vc) (.int .i64 q.exp) (.bool true) (.bool true) (.bool true) kX1 _ kD0 hs.out
  refine bodyPost_ret (v := accV q.neg (.slice va q.mag.length vc) q.exp true true true) (by simp [results, Tryz.results52, go_sem, r0, r1, r2, r3, r4, r5]) rfl ⟨va, vc, by rw [e1, e2, e3]; rfl, h9, h8⟩
end Go.Proofs.YtoflafgbbjinpaaGreatDoor
