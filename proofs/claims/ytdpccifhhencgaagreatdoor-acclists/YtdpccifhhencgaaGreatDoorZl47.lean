/- The laws' own lists, case by case. -/
import Derived.Test.YtdpccifhhencgaaGreatDoorZl46
import Derived.Test.YtdpccifhhencgaaGreatDoorZl11
namespace Go.Proofs.YtdpccifhhencgaaGreatDoor
open Go.ChangeShapes Go.WideShapes Go.ChangeAt Go.RowKit
set_option linter.unusedVariables false
set_option linter.unusedSimpArgs false
set_option maxHeartbeats 16000000
set_option maxRecDepth 100000
theorem lists_z1 (n g0     : Int) (ao bo : Option Addr) (N c M d : Nat) (MX MY : List Int) (w : World) (h0 : (g0 == 0) = false) (hb : (65536 : Int) < (N : Int))
  (KL1 : Hid (∀ u, Kept w u → Calls Tryz.prog 48 #[.slice ao N c] u fun e w' => (∃ g cap, e = .returned (.slice (some ⟨g, 0, none⟩) (N + 3) cap) ∧ u.heap.size ≤ g ∧ N ≤ cap ∧ Own w' g cap MX) ∧ Kept u w'))
  (KL2 : Hid (∀ u, Kept w u → Calls Tryz.prog 48 #[.slice bo M d] u fun e w' => (∃ g cap, e = .returned (.slice (some ⟨g, 0, none⟩) (M + 3) cap) ∧ u.heap.size ≤ g ∧ M ≤ cap ∧ Own w' g cap MY) ∧ Kept u w'))
  (KS : Hid (∀ (u : World) (b cap : Nat), Kept w u → Own u b cap MX → Calls Tryz.prog 20 #[.slice (some ⟨b, 0, none⟩) N cap, .int .i64 n] u fun e w' => e = .returned (.tuple #[.int .i64 0, .int .i64 g0]) ∧ Kept u w'))
  (KD : Hid (∀ (u : World) (b cap b' cap' : Nat), Kept w u → Own u b cap MX → Own u b' cap' MY → Calls Tryz.prog 21 #[.slice (some ⟨b, 0, none⟩) N cap, .slice (some ⟨b', 0, none⟩) M cap', .int .i64 n] u fun e w' => e = .returned (.tuple #[.int .i64 0, .int .i64 g0]) ∧ Kept u w'))
  (KB1 : Hid (∀ (u : World) (b cap : Nat), Kept w u → Own u b cap MX → Calls Tryz.prog 29 #[.slice (some ⟨b, 0, none⟩) (N + 3) cap, .slice ao N c] u fun e w' => e = .returned (.bool true) ∧ Grw b u w'))
  (KB2 : Hid (∀ (u : World) (b cap : Nat), Kept w u → Own u b cap MY → Calls Tryz.prog 29 #[.slice (some ⟨b, 0, none⟩) (M + 3) cap, .slice bo M d] u fun e w' => e = .returned (.bool true) ∧ Grw b u w'))
  (KF0 : Hid (∀ u, Calls Tryz.prog 30 #[.int .i64 n, .bool true, .slice none 0 0] u fun e w' => e = .returned (.int .i64 g0) ∧ Kept u w')) :
  Calls Tryz.prog 15 #[.slice ao N c, .slice bo M d, .int .i64 n] w fun e w' => e = .returned (.bool true) ∧ Kept w w' := by
 go_enter Tryz.func15, Tryz.ntmps15
 go_wp2_with fail
 refine (KL1.out _ (Kept.refl _)).mono ?_
 rintro e w1 ⟨⟨ga, ca, rfl, hga, hca, hOa⟩, k1⟩
 go_wp2_with fail
 refine (KL2.out _ k1).mono ?_
 rintro e w2 ⟨⟨gb, cb, rfl, hgb, hcb, hOb⟩, k2⟩
 have hab : Hid (gb ≠ ga) := (show gb ≠ ga from by have := own_lt hOa; omega)
 have hgb2 : w.heap.size ≤ gb := Nat.le_trans k1.below.size hgb
 have kw2 := k1.trans k2
 have hOa2 := hOa.kept k2
 clear hOa KL1 KL2 k1 k2 hgb
 go_wp2_with fail
 refine (KS.out _ ga ca kw2 hOa2).mono ?_
 rintro e w3 ⟨rfl, k3⟩
 clear KS
 go_wp2_with fail
 refine wp_region_late [] (fun u => Kept w3 u) (by kernel_rfl) ((Kept.refl _).drew) (fun hHeld => ?_)
 refine wpAnyD_take (i := 0) (v := ?_) rfl (by kernel_rfl) (by kernel_rfl) (by kernel_rfl) (by kernel_rfl) (fun _ _ _ h => h) (Or.inl ⟨by rfl, ?hya0⟩) hHeld ?_
 case hya0 => (intro w hSw; (try dsimp only at hSw); go_simp; try (with_reducible rfl))
 (try simp only [Act.put, zA, zB, zC, zD, zE, zF])
 refine wpAnyD_take (i := 1) (v := ?_) rfl (by kernel_rfl) (by kernel_rfl) (by kernel_rfl) (by kernel_rfl) (fun _ _ _ h => h) (Or.inl ⟨by rfl, ?hya1⟩) hHeld ?_
 case hya1 => (intro w hSw; (try dsimp only at hSw); go_simp; try (with_reducible rfl))
 (try simp only [Act.put, zA, zB, zC, zD, zE, zF])
 refine wpAnyD_take (i := 2) (v := ?_) rfl (by kernel_rfl) (by kernel_rfl) (by kernel_rfl) (by kernel_rfl) (fun _ _ _ h => h) (Or.inl ⟨by rfl, ?hya2⟩) hHeld ?_
 case hya2 => (intro w hSw; (try dsimp only at hSw); go_simp; try (with_reducible rfl))
 (try simp only [Act.put, zA, zB, zC, zD, zE, zF])
 refine wpAnyD_take (i := 3) (v := ?_) rfl (by kernel_rfl) (by kernel_rfl) (by kernel_rfl) (by kernel_rfl) (fun _ _ _ h => h) (Or.inl ⟨by rfl, ?hya3⟩) hHeld ?_
 case hya3 => (intro w hSw; (try dsimp only at hSw); go_simp; try (with_reducible rfl))
 (try simp only [Act.put, zA, zB, zC, zD, zE, zF])
 refine wpAnyD_take (i := 4) (v := ?_) rfl (by kernel_rfl) (by kernel_rfl) (by kernel_rfl) (by kernel_rfl) (fun _ _ _ h => h) (Or.inl ⟨by rfl, ?hya4⟩) hHeld ?_
 case hya4 => (intro w hSw; (try dsimp only at hSw); go_simp; try (with_reducible rfl))
 (try simp only [Act.put, zA, zB, zC, zD, zE, zF])
 refine wpAnyD_take (i := 5) (v := ?_) rfl (by kernel_rfl) (by kernel_rfl) (by kernel_rfl) (by kernel_rfl) (fun _ _ _ h => h) (Or.inl ⟨by rfl, ?hya5⟩) hHeld ?_
 case hya5 => (intro w hSw; (try dsimp only at hSw); go_simp; try (with_reducible rfl))
 (try simp only [Act.put, zA, zB, zC, zD, zE, zF])
 refine wpAnyD_take (i := 6) (v := ?_) rfl (by kernel_rfl) (by kernel_rfl) (by kernel_rfl) (by kernel_rfl) (fun _ _ _ h => h) (Or.inl ⟨by rfl, ?hya6⟩) hHeld ?_
 case hya6 => (intro w hSw; (try dsimp only at hSw); go_simp; try (with_reducible rfl))
 (try simp only [Act.put, zA, zB, zC, zD, zE, zF])
 refine wpAnyD_take (i := 7) (v := ?_) rfl (by kernel_rfl) (by kernel_rfl) (by kernel_rfl) (by kernel_rfl) (fun _ _ _ h => h) (Or.inl ⟨by rfl, ?hya7⟩) hHeld ?_
 case hya7 => (intro w hSw; (try dsimp only at hSw); go_simp; try (with_reducible rfl))
 (try simp only [Act.put, zA, zB, zC, zD, zE, zF])
 refine wpAnyD_take (i := 8) (v := ?_) rfl (by kernel_rfl) (by kernel_rfl) (by kernel_rfl) (by kernel_rfl) (fun _ _ _ h => h) (Or.inl ⟨by rfl, ?hya8⟩) hHeld ?_
 case hya8 => (intro w hSw; (try dsimp only at hSw); go_simp; try (with_reducible rfl))
 (try simp only [Act.put, zA, zB, zC, zD, zE, zF])
 refine wpAnyD_step (i := 9) (by kernel_rfl) rfl (fun K hK9 => ?_)
 go_simp
 go_wp2_with fail
 refine (KD.out _ ga ca gb cb (kw2.trans (k3.trans hHeld)) (hOa2.kept (k3.trans hHeld)) (hOb.kept (k3.trans hHeld))).mono ?_
 rintro e u4 ⟨rfl, k4⟩
 refine hK9.out _ _ (hHeld.trans k4) (fun hH4 => ?_)
 clear hK9 K
 (try simp only [Act.put, zA, zB, zC, zD, zE, zF])
 refine wpAnyD_take (i := 10) (v := ?_) rfl (by kernel_rfl) (by kernel_rfl) (by kernel_rfl) (by kernel_rfl) (fun _ _ _ h => h) (Or.inl ⟨by rfl, ?hyb10⟩) hH4 ?_
 case hyb10 => (intro w hSw; (try dsimp only at hSw); go_simp; try (with_reducible rfl))
 (try simp only [Act.put, zA, zB, zC, zD, zE, zF])
 refine wpAnyD_take (i := 11) (v := ?_) rfl (by kernel_rfl) (by kernel_rfl) (by kernel_rfl) (by kernel_rfl) (fun _ _ _ h => h) (Or.inl ⟨by rfl, ?hyb11⟩) hH4 ?_
 case hyb11 => (intro w hSw; (try dsimp only at hSw); go_simp; try (with_reducible rfl))
 (try simp only [Act.put, zA, zB, zC, zD, zE, zF])
 refine wpAnyD_take (i := 12) (v := ?_) rfl (by kernel_rfl) (by kernel_rfl) (by kernel_rfl) (by kernel_rfl) (fun _ _ _ h => h) (Or.inl ⟨by rfl, ?hyb12⟩) hH4 ?_
 case hyb12 => (intro w hSw; (try dsimp only at hSw); go_simp; try (with_reducible rfl))
 (try simp only [Act.put, zA, zB, zC, zD, zE, zF])
 refine wpAnyD_take (i := 13) (v := ?_) rfl (by kernel_rfl) (by kernel_rfl) (by kernel_rfl) (by kernel_rfl) (fun _ _ _ h => h) (Or.inl ⟨by rfl, ?hyb13⟩) hH4 ?_
 case hyb13 => (intro w hSw; (try dsimp only at hSw); go_simp; try (with_reducible rfl))
 (try simp only [Act.put, zA, zB, zC, zD, zE, zF])
 refine wpAnyD_take (i := 14) (v := ?_) rfl (by kernel_rfl) (by kernel_rfl) (by kernel_rfl) (by kernel_rfl) (fun _ _ _ h => h) (Or.inl ⟨by rfl, ?hyb14⟩) hH4 ?_
 case hyb14 => (intro w hSw; (try dsimp only at hSw); go_simp; try (with_reducible rfl))
 (try simp only [Act.put, zA, zB, zC, zD, zE, zF])
 refine wpAnyD_done (by kernel_rfl) ?_ _
 (try simp only [Act.put, zA, zB, zC, zD, zE, zF])
 have k5 := k3.trans hH4
 clear KD hHeld hH4 k4 k3
 go_wp2_with fail
 refine (KB1.out _ ga ca (kw2.trans k5) (hOa2.kept k5)).mono ?_
 rintro e u5 ⟨rfl, g5⟩
 have kw5 : Kept w u5 := (kw2.trans k5).grw hga g5
 have hOb5 := (hOb.kept k5).grw g5 hab.out
 clear KB1 hOa2 hOb g5 k5 kw2 hga
 go_wp2_with fail
 refine (KB2.out _ gb cb kw5 hOb5).mono ?_
 rintro e u6 ⟨rfl, g6⟩
 have kw6 : Kept w u6 := kw5.grw hgb2 g6
 clear KB2 hOb5 g6 kw5 hgb2 hab hca hcb
 go_wp2_with fail
 refine (KF0.out _).mono ?_
 rintro e u7 ⟨rfl, k7⟩
 replace k7 := kw6.trans k7
 clear kw6 KF0
 go_wp2_with fail
 go_ret
 exact ⟨by simp, k7⟩
theorem lists_z2 (n g0     : Int) (ao bo : Option Addr) (N c M d : Nat) (MX MY : List Int) (w : World) (h0 : (g0 == 0) = false) (hb : ¬ (65536 : Int) < (N : Int))
  (KL1 : Hid (∀ u, Kept w u → Calls Tryz.prog 48 #[.slice ao N c] u fun e w' => (∃ g cap, e = .returned (.slice (some ⟨g, 0, none⟩) (N + 3) cap) ∧ u.heap.size ≤ g ∧ N ≤ cap ∧ Own w' g cap MX) ∧ Kept u w'))
  (KL2 : Hid (∀ u, Kept w u → Calls Tryz.prog 48 #[.slice bo M d] u fun e w' => (∃ g cap, e = .returned (.slice (some ⟨g, 0, none⟩) (M + 3) cap) ∧ u.heap.size ≤ g ∧ M ≤ cap ∧ Own w' g cap MY) ∧ Kept u w'))
  (KS : Hid (∀ (u : World) (b cap : Nat), Kept w u → Own u b cap MX → Calls Tryz.prog 20 #[.slice (some ⟨b, 0, none⟩) N cap, .int .i64 n] u fun e w' => e = .returned (.tuple #[.int .i64 0, .int .i64 g0]) ∧ Kept u w'))
  (KD : Hid (∀ (u : World) (b cap b' cap' : Nat), Kept w u → Own u b cap MX → Own u b' cap' MY → Calls Tryz.prog 21 #[.slice (some ⟨b, 0, none⟩) N cap, .slice (some ⟨b', 0, none⟩) M cap', .int .i64 n] u fun e w' => e = .returned (.tuple #[.int .i64 0, .int .i64 g0]) ∧ Kept u w'))
  (KB1 : Hid (∀ (u : World) (b cap : Nat), Kept w u → Own u b cap MX → Calls Tryz.prog 29 #[.slice (some ⟨b, 0, none⟩) (N + 3) cap, .slice ao N c] u fun e w' => e = .returned (.bool true) ∧ Grw b u w'))
  (KB2 : Hid (∀ (u : World) (b cap : Nat), Kept w u → Own u b cap MY → Calls Tryz.prog 29 #[.slice (some ⟨b, 0, none⟩) (M + 3) cap, .slice bo M d] u fun e w' => e = .returned (.bool true) ∧ Grw b u w'))
  (KF0 : Hid (∀ u, Calls Tryz.prog 30 #[.int .i64 n, .bool true, .slice none 0 0] u fun e w' => e = .returned (.int .i64 g0) ∧ Kept u w')) :
  Calls Tryz.prog 15 #[.slice ao N c, .slice bo M d, .int .i64 n] w fun e w' => e = .returned (.bool true) ∧ Kept w w' := by
 go_enter Tryz.func15, Tryz.ntmps15
 go_wp2_with fail
 refine (KL1.out _ (Kept.refl _)).mono ?_
 rintro e w1 ⟨⟨ga, ca, rfl, hga, hca, hOa⟩, k1⟩
 go_wp2_with fail
 refine (KL2.out _ k1).mono ?_
 rintro e w2 ⟨⟨gb, cb, rfl, hgb, hcb, hOb⟩, k2⟩
 have hab : Hid (gb ≠ ga) := (show gb ≠ ga from by have := own_lt hOa; omega)
 have hgb2 : w.heap.size ≤ gb := Nat.le_trans k1.below.size hgb
 have kw2 := k1.trans k2
 have hOa2 := hOa.kept k2
 clear hOa KL1 KL2 k1 k2 hgb
 go_wp2_with fail
 refine (KS.out _ ga ca kw2 hOa2).mono ?_
 rintro e w3 ⟨rfl, k3⟩
 clear KS
 go_wp2_with fail
 refine wp_region_late [] (fun u => Kept w3 u) (by kernel_rfl) ((Kept.refl _).drew) (fun hHeld => ?_)
 refine wpAnyD_take (i := 0) (v := ?_) rfl (by kernel_rfl) (by kernel_rfl) (by kernel_rfl) (by kernel_rfl) (fun _ _ _ h => h) (Or.inl ⟨by rfl, ?hya0⟩) hHeld ?_
 case hya0 => (intro w hSw; (try dsimp only at hSw); go_simp; try (with_reducible rfl))
 (try simp only [Act.put, zA, zB, zC, zD, zE, zF])
 refine wpAnyD_take (i := 1) (v := ?_) rfl (by kernel_rfl) (by kernel_rfl) (by kernel_rfl) (by kernel_rfl) (fun _ _ _ h => h) (Or.inl ⟨by rfl, ?hya1⟩) hHeld ?_
 case hya1 => (intro w hSw; (try dsimp only at hSw); go_simp; try (with_reducible rfl))
 (try simp only [Act.put, zA, zB, zC, zD, zE, zF])
 refine wpAnyD_take (i := 2) (v := ?_) rfl (by kernel_rfl) (by kernel_rfl) (by kernel_rfl) (by kernel_rfl) (fun _ _ _ h => h) (Or.inl ⟨by rfl, ?hya2⟩) hHeld ?_
 case hya2 => (intro w hSw; (try dsimp only at hSw); go_simp; try (with_reducible rfl))
 (try simp only [Act.put, zA, zB, zC, zD, zE, zF])
 refine wpAnyD_take (i := 3) (v := ?_) rfl (by kernel_rfl) (by kernel_rfl) (by kernel_rfl) (by kernel_rfl) (fun _ _ _ h => h) (Or.inl ⟨by rfl, ?hya3⟩) hHeld ?_
 case hya3 => (intro w hSw; (try dsimp only at hSw); go_simp; try (with_reducible rfl))
 (try simp only [Act.put, zA, zB, zC, zD, zE, zF])
 refine wpAnyD_take (i := 4) (v := ?_) rfl (by kernel_rfl) (by kernel_rfl) (by kernel_rfl) (by kernel_rfl) (fun _ _ _ h => h) (Or.inl ⟨by rfl, ?hya4⟩) hHeld ?_
 case hya4 => (intro w hSw; (try dsimp only at hSw); go_simp; try (with_reducible rfl))
 (try simp only [Act.put, zA, zB, zC, zD, zE, zF])
 refine wpAnyD_take (i := 5) (v := ?_) rfl (by kernel_rfl) (by kernel_rfl) (by kernel_rfl) (by kernel_rfl) (fun _ _ _ h => h) (Or.inl ⟨by rfl, ?hya5⟩) hHeld ?_
 case hya5 => (intro w hSw; (try dsimp only at hSw); go_simp; try (with_reducible rfl))
 (try simp only [Act.put, zA, zB, zC, zD, zE, zF])
 refine wpAnyD_take (i := 6) (v := ?_) rfl (by kernel_rfl) (by kernel_rfl) (by kernel_rfl) (by kernel_rfl) (fun _ _ _ h => h) (Or.inl ⟨by rfl, ?hya6⟩) hHeld ?_
 case hya6 => (intro w hSw; (try dsimp only at hSw); go_simp; try (with_reducible rfl))
 (try simp only [Act.put, zA, zB, zC, zD, zE, zF])
 refine wpAnyD_take (i := 7) (v := ?_) rfl (by kernel_rfl) (by kernel_rfl) (by kernel_rfl) (by kernel_rfl) (fun _ _ _ h => h) (Or.inl ⟨by rfl, ?hya7⟩) hHeld ?_
 case hya7 => (intro w hSw; (try dsimp only at hSw); go_simp; try (with_reducible rfl))
 (try simp only [Act.put, zA, zB, zC, zD, zE, zF])
 refine wpAnyD_take (i := 8) (v := ?_) rfl (by kernel_rfl) (by kernel_rfl) (by kernel_rfl) (by kernel_rfl) (fun _ _ _ h => h) (Or.inl ⟨by rfl, ?hya8⟩) hHeld ?_
 case hya8 => (intro w hSw; (try dsimp only at hSw); go_simp; try (with_reducible rfl))
 (try simp only [Act.put, zA, zB, zC, zD, zE, zF])
 refine wpAnyD_step (i := 9) (by kernel_rfl) rfl (fun K hK9 => ?_)
 go_simp
 go_wp2_with fail
 refine (KD.out _ ga ca gb cb (kw2.trans (k3.trans hHeld)) (hOa2.kept (k3.trans hHeld)) (hOb.kept (k3.trans hHeld))).mono ?_
 rintro e u4 ⟨rfl, k4⟩
 refine hK9.out _ _ (hHeld.trans k4) (fun hH4 => ?_)
 clear hK9 K
 (try simp only [Act.put, zA, zB, zC, zD, zE, zF])
 refine wpAnyD_take (i := 10) (v := ?_) rfl (by kernel_rfl) (by kernel_rfl) (by kernel_rfl) (by kernel_rfl) (fun _ _ _ h => h) (Or.inl ⟨by rfl, ?hyb10⟩) hH4 ?_
 case hyb10 => (intro w hSw; (try dsimp only at hSw); go_simp; try (with_reducible rfl))
 (try simp only [Act.put, zA, zB, zC, zD, zE, zF])
 refine wpAnyD_take (i := 11) (v := ?_) rfl (by kernel_rfl) (by kernel_rfl) (by kernel_rfl) (by kernel_rfl) (fun _ _ _ h => h) (Or.inl ⟨by rfl, ?hyb11⟩) hH4 ?_
 case hyb11 => (intro w hSw; (try dsimp only at hSw); go_simp; try (with_reducible rfl))
 (try simp only [Act.put, zA, zB, zC, zD, zE, zF])
 refine wpAnyD_take (i := 12) (v := ?_) rfl (by kernel_rfl) (by kernel_rfl) (by kernel_rfl) (by kernel_rfl) (fun _ _ _ h => h) (Or.inl ⟨by rfl, ?hyb12⟩) hH4 ?_
 case hyb12 => (intro w hSw; (try dsimp only at hSw); go_simp; try (with_reducible rfl))
 (try simp only [Act.put, zA, zB, zC, zD, zE, zF])
 refine wpAnyD_take (i := 13) (v := ?_) rfl (by kernel_rfl) (by kernel_rfl) (by kernel_rfl) (by kernel_rfl) (fun _ _ _ h => h) (Or.inl ⟨by rfl, ?hyb13⟩) hH4 ?_
 case hyb13 => (intro w hSw; (try dsimp only at hSw); go_simp; try (with_reducible rfl))
 (try simp only [Act.put, zA, zB, zC, zD, zE, zF])
 refine wpAnyD_take (i := 14) (v := ?_) rfl (by kernel_rfl) (by kernel_rfl) (by kernel_rfl) (by kernel_rfl) (fun _ _ _ h => h) (Or.inl ⟨by rfl, ?hyb14⟩) hH4 ?_
 case hyb14 => (intro w hSw; (try dsimp only at hSw); go_simp; try (with_reducible rfl))
 (try simp only [Act.put, zA, zB, zC, zD, zE, zF])
 refine wpAnyD_done (by kernel_rfl) ?_ _
 (try simp only [Act.put, zA, zB, zC, zD, zE, zF])
 have k5 := k3.trans hH4
 clear KD hHeld hH4 k4 k3
 go_wp2_with fail
 refine (KB1.out _ ga ca (kw2.trans k5) (hOa2.kept k5)).mono ?_
 rintro e u5 ⟨rfl, g5⟩
 have kw5 : Kept w u5 := (kw2.trans k5).grw hga g5
 have hOb5 := (hOb.kept k5).grw g5 hab.out
 clear KB1 hOa2 hOb g5 k5 kw2 hga
 go_wp2_with fail
 refine (KB2.out _ gb cb kw5 hOb5).mono ?_
 rintro e u6 ⟨rfl, g6⟩
 have kw6 : Kept w u6 := kw5.grw hgb2 g6
 clear KB2 hOb5 g6 kw5 hgb2 hab hca hcb
 go_wp2_with fail
 refine (KF0.out _).mono ?_
 rintro e u7 ⟨rfl, k7⟩
 replace k7 := kw6.trans k7
 clear kw6 KF0
 go_wp2_with fail
 go_ret
 exact ⟨by simp, k7⟩
theorem lists_n1 (n      : Int) (ao bo : Option Addr) (N c M d : Nat) (MX MY : List Int) (w : World) (hNM : ((N : Int) != (M : Int)) = true) (hb : (65536 : Int) < (N : Int))
  (KL1 : Hid (∀ u, Kept w u → Calls Tryz.prog 48 #[.slice ao N c] u fun e w' => (∃ g cap, e = .returned (.slice (some ⟨g, 0, none⟩) (N + 3) cap) ∧ u.heap.size ≤ g ∧ N ≤ cap ∧ Own w' g cap MX) ∧ Kept u w'))
  (KL2 : Hid (∀ u, Kept w u → Calls Tryz.prog 48 #[.slice bo M d] u fun e w' => (∃ g cap, e = .returned (.slice (some ⟨g, 0, none⟩) (M + 3) cap) ∧ u.heap.size ≤ g ∧ M ≤ cap ∧ Own w' g cap MY) ∧ Kept u w'))
  (KS : Hid (∀ (u : World) (b cap : Nat), Kept w u → Own u b cap MX → Calls Tryz.prog 20 #[.slice (some ⟨b, 0, none⟩) N cap, .int .i64 n] u fun e w' => e = .returned (.tuple #[.int .i64 0, .int .i64 2]) ∧ Kept u w'))
  (KD : Hid (∀ (u : World) (b cap b' cap' : Nat), Kept w u → Own u b cap MX → Own u b' cap' MY → Calls Tryz.prog 21 #[.slice (some ⟨b, 0, none⟩) N cap, .slice (some ⟨b', 0, none⟩) M cap', .int .i64 n] u fun e w' => e = .returned (.tuple #[.int .i64 0, .int .i64 1]) ∧ Kept u w'))
  (KB1 : Hid (∀ (u : World) (b cap : Nat), Kept w u → Own u b cap MX → Calls Tryz.prog 29 #[.slice (some ⟨b, 0, none⟩) (N + 3) cap, .slice ao N c] u fun e w' => e = .returned (.bool true) ∧ Grw b u w'))
  (KB2 : Hid (∀ (u : World) (b cap : Nat), Kept w u → Own u b cap MY → Calls Tryz.prog 29 #[.slice (some ⟨b, 0, none⟩) (M + 3) cap, .slice bo M d] u fun e w' => e = .returned (.bool true) ∧ Grw b u w'))
  (KF0 : Hid (∀ u, Calls Tryz.prog 30 #[.int .i64 n, .bool true, .slice none 0 0] u fun e w' => e = .returned (.int .i64 0) ∧ Kept u w')) :
  Calls Tryz.prog 15 #[.slice ao N c, .slice bo M d, .int .i64 n] w fun e w' => e = .returned (.bool true) ∧ Kept w w' := by
 go_enter Tryz.func15, Tryz.ntmps15
 go_wp2_with fail
 refine (KL1.out _ (Kept.refl _)).mono ?_
 rintro e w1 ⟨⟨ga, ca, rfl, hga, hca, hOa⟩, k1⟩
 go_wp2_with fail
 refine (KL2.out _ k1).mono ?_
 rintro e w2 ⟨⟨gb, cb, rfl, hgb, hcb, hOb⟩, k2⟩
 have hab : Hid (gb ≠ ga) := (show gb ≠ ga from by have := own_lt hOa; omega)
 have hgb2 : w.heap.size ≤ gb := Nat.le_trans k1.below.size hgb
 have kw2 := k1.trans k2
 have hOa2 := hOa.kept k2
 clear hOa KL1 KL2 k1 k2 hgb
 go_wp2_with fail
 refine (KS.out _ ga ca kw2 hOa2).mono ?_
 rintro e w3 ⟨rfl, k3⟩
 clear KS
 go_wp2_with fail
 refine wp_region_late [] (fun u => Kept w3 u) (by kernel_rfl) ((Kept.refl _).drew) (fun hHeld => ?_)
 refine wpAnyD_take (i := 0) (v := ?_) rfl (by kernel_rfl) (by kernel_rfl) (by kernel_rfl) (by kernel_rfl) (fun _ _ _ h => h) (Or.inl ⟨by rfl, ?hya0⟩) hHeld ?_
 case hya0 => (intro w hSw; (try dsimp only at hSw); go_simp; try (with_reducible rfl))
 (try simp only [Act.put, zA, zB, zC, zD, zE, zF])
 refine wpAnyD_take (i := 1) (v := ?_) rfl (by kernel_rfl) (by kernel_rfl) (by kernel_rfl) (by kernel_rfl) (fun _ _ _ h => h) (Or.inl ⟨by rfl, ?hya1⟩) hHeld ?_
 case hya1 => (intro w hSw; (try dsimp only at hSw); go_simp; try (with_reducible rfl))
 (try simp only [Act.put, zA, zB, zC, zD, zE, zF])
 refine wpAnyD_take (i := 2) (v := ?_) rfl (by kernel_rfl) (by kernel_rfl) (by kernel_rfl) (by kernel_rfl) (fun _ _ _ h => h) (Or.inl ⟨by rfl, ?hya2⟩) hHeld ?_
 case hya2 => (intro w hSw; (try dsimp only at hSw); go_simp; try (with_reducible rfl))
 (try simp only [Act.put, zA, zB, zC, zD, zE, zF])
 refine wpAnyD_take (i := 3) (v := ?_) rfl (by kernel_rfl) (by kernel_rfl) (by kernel_rfl) (by kernel_rfl) (fun _ _ _ h => h) (Or.inl ⟨by rfl, ?hya3⟩) hHeld ?_
 case hya3 => (intro w hSw; (try dsimp only at hSw); go_simp; try (with_reducible rfl))
 (try simp only [Act.put, zA, zB, zC, zD, zE, zF])
 refine wpAnyD_take (i := 4) (v := ?_) rfl (by kernel_rfl) (by kernel_rfl) (by kernel_rfl) (by kernel_rfl) (fun _ _ _ h => h) (Or.inl ⟨by rfl, ?hya4⟩) hHeld ?_
 case hya4 => (intro w hSw; (try dsimp only at hSw); go_simp; try (with_reducible rfl))
 (try simp only [Act.put, zA, zB, zC, zD, zE, zF])
 refine wpAnyD_take (i := 5) (v := ?_) rfl (by kernel_rfl) (by kernel_rfl) (by kernel_rfl) (by kernel_rfl) (fun _ _ _ h => h) (Or.inl ⟨by rfl, ?hya5⟩) hHeld ?_
 case hya5 => (intro w hSw; (try dsimp only at hSw); go_simp; try (with_reducible rfl))
 (try simp only [Act.put, zA, zB, zC, zD, zE, zF])
 refine wpAnyD_take (i := 6) (v := ?_) rfl (by kernel_rfl) (by kernel_rfl) (by kernel_rfl) (by kernel_rfl) (fun _ _ _ h => h) (Or.inl ⟨by rfl, ?hya6⟩) hHeld ?_
 case hya6 => (intro w hSw; (try dsimp only at hSw); go_simp; try (with_reducible rfl))
 (try simp only [Act.put, zA, zB, zC, zD, zE, zF])
 refine wpAnyD_take (i := 7) (v := ?_) rfl (by kernel_rfl) (by kernel_rfl) (by kernel_rfl) (by kernel_rfl) (fun _ _ _ h => h) (Or.inl ⟨by rfl, ?hya7⟩) hHeld ?_
 case hya7 => (intro w hSw; (try dsimp only at hSw); go_simp; try (with_reducible rfl))
 (try simp only [Act.put, zA, zB, zC, zD, zE, zF])
 refine wpAnyD_take (i := 8) (v := ?_) rfl (by kernel_rfl) (by kernel_rfl) (by kernel_rfl) (by kernel_rfl) (fun _ _ _ h => h) (Or.inl ⟨by rfl, ?hya8⟩) hHeld ?_
 case hya8 => (intro w hSw; (try dsimp only at hSw); go_simp; try (with_reducible rfl))
 (try simp only [Act.put, zA, zB, zC, zD, zE, zF])
 refine wpAnyD_step (i := 9) (by kernel_rfl) rfl (fun K hK9 => ?_)
 go_simp
 go_wp2_with fail
 refine (KD.out _ ga ca gb cb (kw2.trans (k3.trans hHeld)) (hOa2.kept (k3.trans hHeld)) (hOb.kept (k3.trans hHeld))).mono ?_
 rintro e u4 ⟨rfl, k4⟩
 refine hK9.out _ _ (hHeld.trans k4) (fun hH4 => ?_)
 clear hK9 K
 (try simp only [Act.put, zA, zB, zC, zD, zE, zF])
 refine wpAnyD_take (i := 10) (v := ?_) rfl (by kernel_rfl) (by kernel_rfl) (by kernel_rfl) (by kernel_rfl) (fun _ _ _ h => h) (Or.inl ⟨by rfl, ?hyb10⟩) hH4 ?_
 case hyb10 => (intro w hSw; (try dsimp only at hSw); go_simp; try (with_reducible rfl))
 (try simp only [Act.put, zA, zB, zC, zD, zE, zF])
 refine wpAnyD_take (i := 11) (v := ?_) rfl (by kernel_rfl) (by kernel_rfl) (by kernel_rfl) (by kernel_rfl) (fun _ _ _ h => h) (Or.inl ⟨by rfl, ?hyb11⟩) hH4 ?_
 case hyb11 => (intro w hSw; (try dsimp only at hSw); go_simp; try (with_reducible rfl))
 (try simp only [Act.put, zA, zB, zC, zD, zE, zF])
 refine wpAnyD_take (i := 12) (v := ?_) rfl (by kernel_rfl) (by kernel_rfl) (by kernel_rfl) (by kernel_rfl) (fun _ _ _ h => h) (Or.inl ⟨by rfl, ?hyb12⟩) hH4 ?_
 case hyb12 => (intro w hSw; (try dsimp only at hSw); go_simp; try (with_reducible rfl))
 (try simp only [Act.put, zA, zB, zC, zD, zE, zF])
 refine wpAnyD_take (i := 13) (v := ?_) rfl (by kernel_rfl) (by kernel_rfl) (by kernel_rfl) (by kernel_rfl) (fun _ _ _ h => h) (Or.inl ⟨by rfl, ?hyb13⟩) hH4 ?_
 case hyb13 => (intro w hSw; (try dsimp only at hSw); go_simp; try (with_reducible rfl))
 (try simp only [Act.put, zA, zB, zC, zD, zE, zF])
 refine wpAnyD_take (i := 14) (v := ?_) rfl (by kernel_rfl) (by kernel_rfl) (by kernel_rfl) (by kernel_rfl) (fun _ _ _ h => h) (Or.inl ⟨by rfl, ?hyb14⟩) hH4 ?_
 case hyb14 => (intro w hSw; (try dsimp only at hSw); go_simp; try (with_reducible rfl))
 (try simp only [Act.put, zA, zB, zC, zD, zE, zF])
 refine wpAnyD_done (by kernel_rfl) ?_ _
 (try simp only [Act.put, zA, zB, zC, zD, zE, zF])
 have k5 := k3.trans hH4
 clear KD hHeld hH4 k4 k3
 go_wp2_with fail
 refine (KB1.out _ ga ca (kw2.trans k5) (hOa2.kept k5)).mono ?_
 rintro e u5 ⟨rfl, g5⟩
 have kw5 : Kept w u5 := (kw2.trans k5).grw hga g5
 have hOb5 := (hOb.kept k5).grw g5 hab.out
 clear KB1 hOa2 hOb g5 k5 kw2 hga
 go_wp2_with fail
 refine (KB2.out _ gb cb kw5 hOb5).mono ?_
 rintro e u6 ⟨rfl, g6⟩
 have kw6 : Kept w u6 := kw5.grw hgb2 g6
 clear KB2 hOb5 g6 kw5 hgb2 hab hca hcb
 go_wp2_with fail
 refine (KF0.out _).mono ?_
 rintro e u7 ⟨rfl, k7⟩
 replace k7 := kw6.trans k7
 clear kw6 KF0
 go_wp2_with fail
 go_ret
 exact ⟨by simp, k7⟩
theorem lists_n2 (n  s  f1  : Int) (ao bo : Option Addr) (N c M d : Nat) (MX MY : List Int) (w : World) (hNM : ((N : Int) != (M : Int)) = true) (hb : ¬ (65536 : Int) < (N : Int)) (h1 : f1 = 0)
  (KL1 : Hid (∀ u, Kept w u → Calls Tryz.prog 48 #[.slice ao N c] u fun e w' => (∃ g cap, e = .returned (.slice (some ⟨g, 0, none⟩) (N + 3) cap) ∧ u.heap.size ≤ g ∧ N ≤ cap ∧ Own w' g cap MX) ∧ Kept u w'))
  (KL2 : Hid (∀ u, Kept w u → Calls Tryz.prog 48 #[.slice bo M d] u fun e w' => (∃ g cap, e = .returned (.slice (some ⟨g, 0, none⟩) (M + 3) cap) ∧ u.heap.size ≤ g ∧ M ≤ cap ∧ Own w' g cap MY) ∧ Kept u w'))
  (KS : Hid (∀ (u : World) (b cap : Nat), Kept w u → Own u b cap MX → Calls Tryz.prog 20 #[.slice (some ⟨b, 0, none⟩) N cap, .int .i64 n] u fun e w' => e = .returned (.tuple #[.int .i64 s, .int .i64 f1]) ∧ Kept u w'))
  (KD : Hid (∀ (u : World) (b cap b' cap' : Nat), Kept w u → Own u b cap MX → Own u b' cap' MY → Calls Tryz.prog 21 #[.slice (some ⟨b, 0, none⟩) N cap, .slice (some ⟨b', 0, none⟩) M cap', .int .i64 n] u fun e w' => e = .returned (.tuple #[.int .i64 0, .int .i64 1]) ∧ Kept u w'))
  (KB1 : Hid (∀ (u : World) (b cap : Nat), Kept w u → Own u b cap MX → Calls Tryz.prog 29 #[.slice (some ⟨b, 0, none⟩) (N + 3) cap, .slice ao N c] u fun e w' => e = .returned (.bool true) ∧ Grw b u w'))
  (KB2 : Hid (∀ (u : World) (b cap : Nat), Kept w u → Own u b cap MY → Calls Tryz.prog 29 #[.slice (some ⟨b, 0, none⟩) (M + 3) cap, .slice bo M d] u fun e w' => e = .returned (.bool true) ∧ Grw b u w'))
  (KF0 : Hid (∀ u, Calls Tryz.prog 30 #[.int .i64 n, .bool true, .slice none 0 0] u fun e w' => e = .returned (.int .i64 0) ∧ Kept u w'))
  (KF1 : Hid (∀ u, Kept w u → Calls Tryz.prog 30 #[.int .i64 n, .bool true, .slice ao N c] u fun e w' => e = .returned (.int .i64 f1) ∧ Kept u w'))
  (KR1 : Hid (∀ u, Kept w u → Calls Tryz.prog 49 #[.slice ao N c, .int .i64 n] u fun e w' => e = .returned (.int .i64 s) ∧ Kept u w')) :
  Calls Tryz.prog 15 #[.slice ao N c, .slice bo M d, .int .i64 n] w fun e w' => e = .returned (.bool true) ∧ Kept w w' := by
 go_enter Tryz.func15, Tryz.ntmps15
 go_wp2_with fail
 refine (KL1.out _ (Kept.refl _)).mono ?_
 rintro e w1 ⟨⟨ga, ca, rfl, hga, hca, hOa⟩, k1⟩
 go_wp2_with fail
 refine (KL2.out _ k1).mono ?_
 rintro e w2 ⟨⟨gb, cb, rfl, hgb, hcb, hOb⟩, k2⟩
 have hab : Hid (gb ≠ ga) := (show gb ≠ ga from by have := own_lt hOa; omega)
 have hgb2 : w.heap.size ≤ gb := Nat.le_trans k1.below.size hgb
 have kw2 := k1.trans k2
 have hOa2 := hOa.kept k2
 clear hOa KL1 KL2 k1 k2 hgb
 go_wp2_with fail
 refine (KS.out _ ga ca kw2 hOa2).mono ?_
 rintro e w3 ⟨rfl, k3⟩
 clear KS
 go_wp2_with fail
 refine wp_region_late [] (fun u => Kept w3 u) (by kernel_rfl) ((Kept.refl _).drew) (fun hHeld => ?_)
 refine wpAnyD_take (i := 0) (v := ?_) rfl (by kernel_rfl) (by kernel_rfl) (by kernel_rfl) (by kernel_rfl) (fun _ _ _ h => h) (Or.inl ⟨by rfl, ?hya0⟩) hHeld ?_
 case hya0 => (intro w hSw; (try dsimp only at hSw); go_simp; try (with_reducible rfl))
 (try simp only [Act.put, zA, zB, zC, zD, zE, zF])
 refine wpAnyD_take (i := 1) (v := ?_) rfl (by kernel_rfl) (by kernel_rfl) (by kernel_rfl) (by kernel_rfl) (fun _ _ _ h => h) (Or.inl ⟨by rfl, ?hya1⟩) hHeld ?_
 case hya1 => (intro w hSw; (try dsimp only at hSw); go_simp; try (with_reducible rfl))
 (try simp only [Act.put, zA, zB, zC, zD, zE, zF])
 refine wpAnyD_take (i := 2) (v := ?_) rfl (by kernel_rfl) (by kernel_rfl) (by kernel_rfl) (by kernel_rfl) (fun _ _ _ h => h) (Or.inl ⟨by rfl, ?hya2⟩) hHeld ?_
 case hya2 => (intro w hSw; (try dsimp only at hSw); go_simp; try (with_reducible rfl))
 (try simp only [Act.put, zA, zB, zC, zD, zE, zF])
 refine wpAnyD_take (i := 3) (v := ?_) rfl (by kernel_rfl) (by kernel_rfl) (by kernel_rfl) (by kernel_rfl) (fun _ _ _ h => h) (Or.inl ⟨by rfl, ?hya3⟩) hHeld ?_
 case hya3 => (intro w hSw; (try dsimp only at hSw); go_simp; try (with_reducible rfl))
 (try simp only [Act.put, zA, zB, zC, zD, zE, zF])
 refine wpAnyD_take (i := 4) (v := ?_) rfl (by kernel_rfl) (by kernel_rfl) (by kernel_rfl) (by kernel_rfl) (fun _ _ _ h => h) (Or.inl ⟨by rfl, ?hya4⟩) hHeld ?_
 case hya4 => (intro w hSw; (try dsimp only at hSw); go_simp; try (with_reducible rfl))
 (try simp only [Act.put, zA, zB, zC, zD, zE, zF])
 refine wpAnyD_take (i := 5) (v := ?_) rfl (by kernel_rfl) (by kernel_rfl) (by kernel_rfl) (by kernel_rfl) (fun _ _ _ h => h) (Or.inl ⟨by rfl, ?hya5⟩) hHeld ?_
 case hya5 => (intro w hSw; (try dsimp only at hSw); go_simp; try (with_reducible rfl))
 (try simp only [Act.put, zA, zB, zC, zD, zE, zF])
 refine wpAnyD_take (i := 6) (v := ?_) rfl (by kernel_rfl) (by kernel_rfl) (by kernel_rfl) (by kernel_rfl) (fun _ _ _ h => h) (Or.inl ⟨by rfl, ?hya6⟩) hHeld ?_
 case hya6 => (intro w hSw; (try dsimp only at hSw); go_simp; try (with_reducible rfl))
 (try simp only [Act.put, zA, zB, zC, zD, zE, zF])
 refine wpAnyD_take (i := 7) (v := ?_) rfl (by kernel_rfl) (by kernel_rfl) (by kernel_rfl) (by kernel_rfl) (fun _ _ _ h => h) (Or.inl ⟨by rfl, ?hya7⟩) hHeld ?_
 case hya7 => (intro w hSw; (try dsimp only at hSw); go_simp; try (with_reducible rfl))
 (try simp only [Act.put, zA, zB, zC, zD, zE, zF])
 refine wpAnyD_take (i := 8) (v := ?_) rfl (by kernel_rfl) (by kernel_rfl) (by kernel_rfl) (by kernel_rfl) (fun _ _ _ h => h) (Or.inl ⟨by rfl, ?hya8⟩) hHeld ?_
 case hya8 => (intro w hSw; (try dsimp only at hSw); go_simp; try (with_reducible rfl))
 (try simp only [Act.put, zA, zB, zC, zD, zE, zF])
 refine wpAnyD_step (i := 9) (by kernel_rfl) rfl (fun K hK9 => ?_)
 go_simp
 go_wp2_with fail
 refine (KD.out _ ga ca gb cb (kw2.trans (k3.trans hHeld)) (hOa2.kept (k3.trans hHeld)) (hOb.kept (k3.trans hHeld))).mono ?_
 rintro e u4 ⟨rfl, k4⟩
 refine hK9.out _ _ (hHeld.trans k4) (fun hH4 => ?_)
 clear hK9 K
 (try simp only [Act.put, zA, zB, zC, zD, zE, zF])
 refine wpAnyD_take (i := 10) (v := ?_) rfl (by kernel_rfl) (by kernel_rfl) (by kernel_rfl) (by kernel_rfl) (fun _ _ _ h => h) (Or.inl ⟨by rfl, ?hyb10⟩) hH4 ?_
 case hyb10 => (intro w hSw; (try dsimp only at hSw); go_simp; try (with_reducible rfl))
 (try simp only [Act.put, zA, zB, zC, zD, zE, zF])
 refine wpAnyD_take (i := 11) (v := ?_) rfl (by kernel_rfl) (by kernel_rfl) (by kernel_rfl) (by kernel_rfl) (fun _ _ _ h => h) (Or.inl ⟨by rfl, ?hyb11⟩) hH4 ?_
 case hyb11 => (intro w hSw; (try dsimp only at hSw); go_simp; try (with_reducible rfl))
 (try simp only [Act.put, zA, zB, zC, zD, zE, zF])
 refine wpAnyD_take (i := 12) (v := ?_) rfl (by kernel_rfl) (by kernel_rfl) (by kernel_rfl) (by kernel_rfl) (fun _ _ _ h => h) (Or.inl ⟨by rfl, ?hyb12⟩) hH4 ?_
 case hyb12 => (intro w hSw; (try dsimp only at hSw); go_simp; try (with_reducible rfl))
 (try simp only [Act.put, zA, zB, zC, zD, zE, zF])
 refine wpAnyD_take (i := 13) (v := ?_) rfl (by kernel_rfl) (by kernel_rfl) (by kernel_rfl) (by kernel_rfl) (fun _ _ _ h => h) (Or.inl ⟨by rfl, ?hyb13⟩) hH4 ?_
 case hyb13 => (intro w hSw; (try dsimp only at hSw); go_simp; try (with_reducible rfl))
 (try simp only [Act.put, zA, zB, zC, zD, zE, zF])
 refine wpAnyD_take (i := 14) (v := ?_) rfl (by kernel_rfl) (by kernel_rfl) (by kernel_rfl) (by kernel_rfl) (fun _ _ _ h => h) (Or.inl ⟨by rfl, ?hyb14⟩) hH4 ?_
 case hyb14 => (intro w hSw; (try dsimp only at hSw); go_simp; try (with_reducible rfl))
 (try simp only [Act.put, zA, zB, zC, zD, zE, zF])
 refine wpAnyD_done (by kernel_rfl) ?_ _
 (try simp only [Act.put, zA, zB, zC, zD, zE, zF])
 have k5 := k3.trans hH4
 clear KD hHeld hH4 k4 k3
 go_wp2_with fail
 refine (KB1.out _ ga ca (kw2.trans k5) (hOa2.kept k5)).mono ?_
 rintro e u5 ⟨rfl, g5⟩
 have kw5 : Kept w u5 := (kw2.trans k5).grw hga g5
 have hOb5 := (hOb.kept k5).grw g5 hab.out
 clear KB1 hOa2 hOb g5 k5 kw2 hga
 go_wp2_with fail
 refine (KB2.out _ gb cb kw5 hOb5).mono ?_
 rintro e u6 ⟨rfl, g6⟩
 have kw6 : Kept w u6 := kw5.grw hgb2 g6
 clear KB2 hOb5 g6 kw5 hgb2 hab hca hcb
 go_wp2_with fail
 refine (KF0.out _).mono ?_
 rintro e u7 ⟨rfl, k7⟩
 replace k7 := kw6.trans k7
 clear kw6 KF0
 go_wp2_with fail
 refine (KF1.out _ k7).mono ?_
 rintro e u8 ⟨rfl, k8⟩
 replace k7 := k7.trans k8
 clear k8 KF1
 go_wp2_with fail
 refine (KR1.out _ k7).mono ?_
 rintro e u10 ⟨rfl, k8⟩
 replace k7 := k7.trans k8
 clear k8 KR1
 go_wp2_with fail
 go_ret
 exact ⟨by simp, k7⟩
theorem lists_n3 (n    f1  : Int) (ao bo : Option Addr) (N c M d : Nat) (MX MY : List Int) (w : World) (hNM : ((N : Int) != (M : Int)) = true) (hb : ¬ (65536 : Int) < (N : Int)) (h1 : (f1 == 0) = false)
  (KL1 : Hid (∀ u, Kept w u → Calls Tryz.prog 48 #[.slice ao N c] u fun e w' => (∃ g cap, e = .returned (.slice (some ⟨g, 0, none⟩) (N + 3) cap) ∧ u.heap.size ≤ g ∧ N ≤ cap ∧ Own w' g cap MX) ∧ Kept u w'))
  (KL2 : Hid (∀ u, Kept w u → Calls Tryz.prog 48 #[.slice bo M d] u fun e w' => (∃ g cap, e = .returned (.slice (some ⟨g, 0, none⟩) (M + 3) cap) ∧ u.heap.size ≤ g ∧ M ≤ cap ∧ Own w' g cap MY) ∧ Kept u w'))
  (KS : Hid (∀ (u : World) (b cap : Nat), Kept w u → Own u b cap MX → Calls Tryz.prog 20 #[.slice (some ⟨b, 0, none⟩) N cap, .int .i64 n] u fun e w' => e = .returned (.tuple #[.int .i64 0, .int .i64 f1]) ∧ Kept u w'))
  (KD : Hid (∀ (u : World) (b cap b' cap' : Nat), Kept w u → Own u b cap MX → Own u b' cap' MY → Calls Tryz.prog 21 #[.slice (some ⟨b, 0, none⟩) N cap, .slice (some ⟨b', 0, none⟩) M cap', .int .i64 n] u fun e w' => e = .returned (.tuple #[.int .i64 0, .int .i64 1]) ∧ Kept u w'))
  (KB1 : Hid (∀ (u : World) (b cap : Nat), Kept w u → Own u b cap MX → Calls Tryz.prog 29 #[.slice (some ⟨b, 0, none⟩) (N + 3) cap, .slice ao N c] u fun e w' => e = .returned (.bool true) ∧ Grw b u w'))
  (KB2 : Hid (∀ (u : World) (b cap : Nat), Kept w u → Own u b cap MY → Calls Tryz.prog 29 #[.slice (some ⟨b, 0, none⟩) (M + 3) cap, .slice bo M d] u fun e w' => e = .returned (.bool true) ∧ Grw b u w'))
  (KF0 : Hid (∀ u, Calls Tryz.prog 30 #[.int .i64 n, .bool true, .slice none 0 0] u fun e w' => e = .returned (.int .i64 0) ∧ Kept u w'))
  (KF1 : Hid (∀ u, Kept w u → Calls Tryz.prog 30 #[.int .i64 n, .bool true, .slice ao N c] u fun e w' => e = .returned (.int .i64 f1) ∧ Kept u w')) :
  Calls Tryz.prog 15 #[.slice ao N c, .slice bo M d, .int .i64 n] w fun e w' => e = .returned (.bool true) ∧ Kept w w' := by
 go_enter Tryz.func15, Tryz.ntmps15
 go_wp2_with fail
 refine (KL1.out _ (Kept.refl _)).mono ?_
 rintro e w1 ⟨⟨ga, ca, rfl, hga, hca, hOa⟩, k1⟩
 go_wp2_with fail
 refine (KL2.out _ k1).mono ?_
 rintro e w2 ⟨⟨gb, cb, rfl, hgb, hcb, hOb⟩, k2⟩
 have hab : Hid (gb ≠ ga) := (show gb ≠ ga from by have := own_lt hOa; omega)
 have hgb2 : w.heap.size ≤ gb := Nat.le_trans k1.below.size hgb
 have kw2 := k1.trans k2
 have hOa2 := hOa.kept k2
 clear hOa KL1 KL2 k1 k2 hgb
 go_wp2_with fail
 refine (KS.out _ ga ca kw2 hOa2).mono ?_
 rintro e w3 ⟨rfl, k3⟩
 clear KS
 go_wp2_with fail
 refine wp_region_late [] (fun u => Kept w3 u) (by kernel_rfl) ((Kept.refl _).drew) (fun hHeld => ?_)
 refine wpAnyD_take (i := 0) (v := ?_) rfl (by kernel_rfl) (by kernel_rfl) (by kernel_rfl) (by kernel_rfl) (fun _ _ _ h => h) (Or.inl ⟨by rfl, ?hya0⟩) hHeld ?_
 case hya0 => (intro w hSw; (try dsimp only at hSw); go_simp; try (with_reducible rfl))
 (try simp only [Act.put, zA, zB, zC, zD, zE, zF])
 refine wpAnyD_take (i := 1) (v := ?_) rfl (by kernel_rfl) (by kernel_rfl) (by kernel_rfl) (by kernel_rfl) (fun _ _ _ h => h) (Or.inl ⟨by rfl, ?hya1⟩) hHeld ?_
 case hya1 => (intro w hSw; (try dsimp only at hSw); go_simp; try (with_reducible rfl))
 (try simp only [Act.put, zA, zB, zC, zD, zE, zF])
 refine wpAnyD_take (i := 2) (v := ?_) rfl (by kernel_rfl) (by kernel_rfl) (by kernel_rfl) (by kernel_rfl) (fun _ _ _ h => h) (Or.inl ⟨by rfl, ?hya2⟩) hHeld ?_
 case hya2 => (intro w hSw; (try dsimp only at hSw); go_simp; try (with_reducible rfl))
 (try simp only [Act.put, zA, zB, zC, zD, zE, zF])
 refine wpAnyD_take (i := 3) (v := ?_) rfl (by kernel_rfl) (by kernel_rfl) (by kernel_rfl) (by kernel_rfl) (fun _ _ _ h => h) (Or.inl ⟨by rfl, ?hya3⟩) hHeld ?_
 case hya3 => (intro w hSw; (try dsimp only at hSw); go_simp; try (with_reducible rfl))
 (try simp only [Act.put, zA, zB, zC, zD, zE, zF])
 refine wpAnyD_take (i := 4) (v := ?_) rfl (by kernel_rfl) (by kernel_rfl) (by kernel_rfl) (by kernel_rfl) (fun _ _ _ h => h) (Or.inl ⟨by rfl, ?hya4⟩) hHeld ?_
 case hya4 => (intro w hSw; (try dsimp only at hSw); go_simp; try (with_reducible rfl))
 (try simp only [Act.put, zA, zB, zC, zD, zE, zF])
 refine wpAnyD_take (i := 5) (v := ?_) rfl (by kernel_rfl) (by kernel_rfl) (by kernel_rfl) (by kernel_rfl) (fun _ _ _ h => h) (Or.inl ⟨by rfl, ?hya5⟩) hHeld ?_
 case hya5 => (intro w hSw; (try dsimp only at hSw); go_simp; try (with_reducible rfl))
 (try simp only [Act.put, zA, zB, zC, zD, zE, zF])
 refine wpAnyD_take (i := 6) (v := ?_) rfl (by kernel_rfl) (by kernel_rfl) (by kernel_rfl) (by kernel_rfl) (fun _ _ _ h => h) (Or.inl ⟨by rfl, ?hya6⟩) hHeld ?_
 case hya6 => (intro w hSw; (try dsimp only at hSw); go_simp; try (with_reducible rfl))
 (try simp only [Act.put, zA, zB, zC, zD, zE, zF])
 refine wpAnyD_take (i := 7) (v := ?_) rfl (by kernel_rfl) (by kernel_rfl) (by kernel_rfl) (by kernel_rfl) (fun _ _ _ h => h) (Or.inl ⟨by rfl, ?hya7⟩) hHeld ?_
 case hya7 => (intro w hSw; (try dsimp only at hSw); go_simp; try (with_reducible rfl))
 (try simp only [Act.put, zA, zB, zC, zD, zE, zF])
 refine wpAnyD_take (i := 8) (v := ?_) rfl (by kernel_rfl) (by kernel_rfl) (by kernel_rfl) (by kernel_rfl) (fun _ _ _ h => h) (Or.inl ⟨by rfl, ?hya8⟩) hHeld ?_
 case hya8 => (intro w hSw; (try dsimp only at hSw); go_simp; try (with_reducible rfl))
 (try simp only [Act.put, zA, zB, zC, zD, zE, zF])
 refine wpAnyD_step (i := 9) (by kernel_rfl) rfl (fun K hK9 => ?_)
 go_simp
 go_wp2_with fail
 refine (KD.out _ ga ca gb cb (kw2.trans (k3.trans hHeld)) (hOa2.kept (k3.trans hHeld)) (hOb.kept (k3.trans hHeld))).mono ?_
 rintro e u4 ⟨rfl, k4⟩
 refine hK9.out _ _ (hHeld.trans k4) (fun hH4 => ?_)
 clear hK9 K
 (try simp only [Act.put, zA, zB, zC, zD, zE, zF])
 refine wpAnyD_take (i := 10) (v := ?_) rfl (by kernel_rfl) (by kernel_rfl) (by kernel_rfl) (by kernel_rfl) (fun _ _ _ h => h) (Or.inl ⟨by rfl, ?hyb10⟩) hH4 ?_
 case hyb10 => (intro w hSw; (try dsimp only at hSw); go_simp; try (with_reducible rfl))
 (try simp only [Act.put, zA, zB, zC, zD, zE, zF])
 refine wpAnyD_take (i := 11) (v := ?_) rfl (by kernel_rfl) (by kernel_rfl) (by kernel_rfl) (by kernel_rfl) (fun _ _ _ h => h) (Or.inl ⟨by rfl, ?hyb11⟩) hH4 ?_
 case hyb11 => (intro w hSw; (try dsimp only at hSw); go_simp; try (with_reducible rfl))
 (try simp only [Act.put, zA, zB, zC, zD, zE, zF])
 refine wpAnyD_take (i := 12) (v := ?_) rfl (by kernel_rfl) (by kernel_rfl) (by kernel_rfl) (by kernel_rfl) (fun _ _ _ h => h) (Or.inl ⟨by rfl, ?hyb12⟩) hH4 ?_
 case hyb12 => (intro w hSw; (try dsimp only at hSw); go_simp; try (with_reducible rfl))
 (try simp only [Act.put, zA, zB, zC, zD, zE, zF])
 refine wpAnyD_take (i := 13) (v := ?_) rfl (by kernel_rfl) (by kernel_rfl) (by kernel_rfl) (by kernel_rfl) (fun _ _ _ h => h) (Or.inl ⟨by rfl, ?hyb13⟩) hH4 ?_
 case hyb13 => (intro w hSw; (try dsimp only at hSw); go_simp; try (with_reducible rfl))
 (try simp only [Act.put, zA, zB, zC, zD, zE, zF])
 refine wpAnyD_take (i := 14) (v := ?_) rfl (by kernel_rfl) (by kernel_rfl) (by kernel_rfl) (by kernel_rfl) (fun _ _ _ h => h) (Or.inl ⟨by rfl, ?hyb14⟩) hH4 ?_
 case hyb14 => (intro w hSw; (try dsimp only at hSw); go_simp; try (with_reducible rfl))
 (try simp only [Act.put, zA, zB, zC, zD, zE, zF])
 refine wpAnyD_done (by kernel_rfl) ?_ _
 (try simp only [Act.put, zA, zB, zC, zD, zE, zF])
 have k5 := k3.trans hH4
 clear KD hHeld hH4 k4 k3
 go_wp2_with fail
 refine (KB1.out _ ga ca (kw2.trans k5) (hOa2.kept k5)).mono ?_
 rintro e u5 ⟨rfl, g5⟩
 have kw5 : Kept w u5 := (kw2.trans k5).grw hga g5
 have hOb5 := (hOb.kept k5).grw g5 hab.out
 clear KB1 hOa2 hOb g5 k5 kw2 hga
 go_wp2_with fail
 refine (KB2.out _ gb cb kw5 hOb5).mono ?_
 rintro e u6 ⟨rfl, g6⟩
 have kw6 : Kept w u6 := kw5.grw hgb2 g6
 clear KB2 hOb5 g6 kw5 hgb2 hab hca hcb
 go_wp2_with fail
 refine (KF0.out _).mono ?_
 rintro e u7 ⟨rfl, k7⟩
 replace k7 := kw6.trans k7
 clear kw6 KF0
 go_wp2_with fail
 refine (KF1.out _ k7).mono ?_
 rintro e u8 ⟨rfl, k8⟩
 replace k7 := k7.trans k8
 clear k8 KF1
 go_wp2_with fail
 go_ret
 exact ⟨by simp, k7⟩
theorem lists_e1 (n      : Int) (ao bo : Option Addr) (N c M d : Nat) (MX MY : List Int) (w : World) (hNM : ((N : Int) != (M : Int)) = false) (hb : (65536 : Int) < (N : Int))
  (KL1 : Hid (∀ u, Kept w u → Calls Tryz.prog 48 #[.slice ao N c] u fun e w' => (∃ g cap, e = .returned (.slice (some ⟨g, 0, none⟩) (N + 3) cap) ∧ u.heap.size ≤ g ∧ N ≤ cap ∧ Own w' g cap MX) ∧ Kept u w'))
  (KL2 : Hid (∀ u, Kept w u → Calls Tryz.prog 48 #[.slice bo M d] u fun e w' => (∃ g cap, e = .returned (.slice (some ⟨g, 0, none⟩) (M + 3) cap) ∧ u.heap.size ≤ g ∧ M ≤ cap ∧ Own w' g cap MY) ∧ Kept u w'))
  (KS : Hid (∀ (u : World) (b cap : Nat), Kept w u → Own u b cap MX → Calls Tryz.prog 20 #[.slice (some ⟨b, 0, none⟩) N cap, .int .i64 n] u fun e w' => e = .returned (.tuple #[.int .i64 0, .int .i64 2]) ∧ Kept u w'))
  (KD : Hid (∀ (u : World) (b cap b' cap' : Nat), Kept w u → Own u b cap MX → Own u b' cap' MY → Calls Tryz.prog 21 #[.slice (some ⟨b, 0, none⟩) N cap, .slice (some ⟨b', 0, none⟩) M cap', .int .i64 n] u fun e w' => e = .returned (.tuple #[.int .i64 0, .int .i64 2]) ∧ Kept u w'))
  (KB1 : Hid (∀ (u : World) (b cap : Nat), Kept w u → Own u b cap MX → Calls Tryz.prog 29 #[.slice (some ⟨b, 0, none⟩) (N + 3) cap, .slice ao N c] u fun e w' => e = .returned (.bool true) ∧ Grw b u w'))
  (KB2 : Hid (∀ (u : World) (b cap : Nat), Kept w u → Own u b cap MY → Calls Tryz.prog 29 #[.slice (some ⟨b, 0, none⟩) (M + 3) cap, .slice bo M d] u fun e w' => e = .returned (.bool true) ∧ Grw b u w'))
  (KF0 : Hid (∀ u, Calls Tryz.prog 30 #[.int .i64 n, .bool true, .slice none 0 0] u fun e w' => e = .returned (.int .i64 0) ∧ Kept u w')) :
  Calls Tryz.prog 15 #[.slice ao N c, .slice bo M d, .int .i64 n] w fun e w' => e = .returned (.bool true) ∧ Kept w w' := by
 go_enter Tryz.func15, Tryz.ntmps15
 go_wp2_with fail
 refine (KL1.out _ (Kept.refl _)).mono ?_
 rintro e w1 ⟨⟨ga, ca, rfl, hga, hca, hOa⟩, k1⟩
 go_wp2_with fail
 refine (KL2.out _ k1).mono ?_
 rintro e w2 ⟨⟨gb, cb, rfl, hgb, hcb, hOb⟩, k2⟩
 have hab : Hid (gb ≠ ga) := (show gb ≠ ga from by have := own_lt hOa; omega)
 have hgb2 : w.heap.size ≤ gb := Nat.le_trans k1.below.size hgb
 have kw2 := k1.trans k2
 have hOa2 := hOa.kept k2
 clear hOa KL1 KL2 k1 k2 hgb
 go_wp2_with fail
 refine (KS.out _ ga ca kw2 hOa2).mono ?_
 rintro e w3 ⟨rfl, k3⟩
 clear KS
 go_wp2_with fail
 refine wp_region_late [] (fun u => Kept w3 u) (by kernel_rfl) ((Kept.refl _).drew) (fun hHeld => ?_)
 refine wpAnyD_take (i := 0) (v := ?_) rfl (by kernel_rfl) (by kernel_rfl) (by kernel_rfl) (by kernel_rfl) (fun _ _ _ h => h) (Or.inl ⟨by rfl, ?hya0⟩) hHeld ?_
 case hya0 => (intro w hSw; (try dsimp only at hSw); go_simp; try (with_reducible rfl))
 (try simp only [Act.put, zA, zB, zC, zD, zE, zF])
 refine wpAnyD_take (i := 1) (v := ?_) rfl (by kernel_rfl) (by kernel_rfl) (by kernel_rfl) (by kernel_rfl) (fun _ _ _ h => h) (Or.inl ⟨by rfl, ?hya1⟩) hHeld ?_
 case hya1 => (intro w hSw; (try dsimp only at hSw); go_simp; try (with_reducible rfl))
 (try simp only [Act.put, zA, zB, zC, zD, zE, zF])
 refine wpAnyD_take (i := 2) (v := ?_) rfl (by kernel_rfl) (by kernel_rfl) (by kernel_rfl) (by kernel_rfl) (fun _ _ _ h => h) (Or.inl ⟨by rfl, ?hya2⟩) hHeld ?_
 case hya2 => (intro w hSw; (try dsimp only at hSw); go_simp; try (with_reducible rfl))
 (try simp only [Act.put, zA, zB, zC, zD, zE, zF])
 refine wpAnyD_take (i := 3) (v := ?_) rfl (by kernel_rfl) (by kernel_rfl) (by kernel_rfl) (by kernel_rfl) (fun _ _ _ h => h) (Or.inl ⟨by rfl, ?hya3⟩) hHeld ?_
 case hya3 => (intro w hSw; (try dsimp only at hSw); go_simp; try (with_reducible rfl))
 (try simp only [Act.put, zA, zB, zC, zD, zE, zF])
 refine wpAnyD_take (i := 4) (v := ?_) rfl (by kernel_rfl) (by kernel_rfl) (by kernel_rfl) (by kernel_rfl) (fun _ _ _ h => h) (Or.inl ⟨by rfl, ?hya4⟩) hHeld ?_
 case hya4 => (intro w hSw; (try dsimp only at hSw); go_simp; try (with_reducible rfl))
 (try simp only [Act.put, zA, zB, zC, zD, zE, zF])
 refine wpAnyD_take (i := 5) (v := ?_) rfl (by kernel_rfl) (by kernel_rfl) (by kernel_rfl) (by kernel_rfl) (fun _ _ _ h => h) (Or.inl ⟨by rfl, ?hya5⟩) hHeld ?_
 case hya5 => (intro w hSw; (try dsimp only at hSw); go_simp; try (with_reducible rfl))
 (try simp only [Act.put, zA, zB, zC, zD, zE, zF])
 refine wpAnyD_take (i := 6) (v := ?_) rfl (by kernel_rfl) (by kernel_rfl) (by kernel_rfl) (by kernel_rfl) (fun _ _ _ h => h) (Or.inl ⟨by rfl, ?hya6⟩) hHeld ?_
 case hya6 => (intro w hSw; (try dsimp only at hSw); go_simp; try (with_reducible rfl))
 (try simp only [Act.put, zA, zB, zC, zD, zE, zF])
 refine wpAnyD_take (i := 7) (v := ?_) rfl (by kernel_rfl) (by kernel_rfl) (by kernel_rfl) (by kernel_rfl) (fun _ _ _ h => h) (Or.inl ⟨by rfl, ?hya7⟩) hHeld ?_
 case hya7 => (intro w hSw; (try dsimp only at hSw); go_simp; try (with_reducible rfl))
 (try simp only [Act.put, zA, zB, zC, zD, zE, zF])
 refine wpAnyD_take (i := 8) (v := ?_) rfl (by kernel_rfl) (by kernel_rfl) (by kernel_rfl) (by kernel_rfl) (fun _ _ _ h => h) (Or.inl ⟨by rfl, ?hya8⟩) hHeld ?_
 case hya8 => (intro w hSw; (try dsimp only at hSw); go_simp; try (with_reducible rfl))
 (try simp only [Act.put, zA, zB, zC, zD, zE, zF])
 refine wpAnyD_step (i := 9) (by kernel_rfl) rfl (fun K hK9 => ?_)
 go_simp
 go_wp2_with fail
 refine (KD.out _ ga ca gb cb (kw2.trans (k3.trans hHeld)) (hOa2.kept (k3.trans hHeld)) (hOb.kept (k3.trans hHeld))).mono ?_
 rintro e u4 ⟨rfl, k4⟩
 refine hK9.out _ _ (hHeld.trans k4) (fun hH4 => ?_)
 clear hK9 K
 (try simp only [Act.put, zA, zB, zC, zD, zE, zF])
 refine wpAnyD_take (i := 10) (v := ?_) rfl (by kernel_rfl) (by kernel_rfl) (by kernel_rfl) (by kernel_rfl) (fun _ _ _ h => h) (Or.inl ⟨by rfl, ?hyb10⟩) hH4 ?_
 case hyb10 => (intro w hSw; (try dsimp only at hSw); go_simp; try (with_reducible rfl))
 (try simp only [Act.put, zA, zB, zC, zD, zE, zF])
 refine wpAnyD_take (i := 11) (v := ?_) rfl (by kernel_rfl) (by kernel_rfl) (by kernel_rfl) (by kernel_rfl) (fun _ _ _ h => h) (Or.inl ⟨by rfl, ?hyb11⟩) hH4 ?_
 case hyb11 => (intro w hSw; (try dsimp only at hSw); go_simp; try (with_reducible rfl))
 (try simp only [Act.put, zA, zB, zC, zD, zE, zF])
 refine wpAnyD_take (i := 12) (v := ?_) rfl (by kernel_rfl) (by kernel_rfl) (by kernel_rfl) (by kernel_rfl) (fun _ _ _ h => h) (Or.inl ⟨by rfl, ?hyb12⟩) hH4 ?_
 case hyb12 => (intro w hSw; (try dsimp only at hSw); go_simp; try (with_reducible rfl))
 (try simp only [Act.put, zA, zB, zC, zD, zE, zF])
 refine wpAnyD_take (i := 13) (v := ?_) rfl (by kernel_rfl) (by kernel_rfl) (by kernel_rfl) (by kernel_rfl) (fun _ _ _ h => h) (Or.inl ⟨by rfl, ?hyb13⟩) hH4 ?_
 case hyb13 => (intro w hSw; (try dsimp only at hSw); go_simp; try (with_reducible rfl))
 (try simp only [Act.put, zA, zB, zC, zD, zE, zF])
 refine wpAnyD_take (i := 14) (v := ?_) rfl (by kernel_rfl) (by kernel_rfl) (by kernel_rfl) (by kernel_rfl) (fun _ _ _ h => h) (Or.inl ⟨by rfl, ?hyb14⟩) hH4 ?_
 case hyb14 => (intro w hSw; (try dsimp only at hSw); go_simp; try (with_reducible rfl))
 (try simp only [Act.put, zA, zB, zC, zD, zE, zF])
 refine wpAnyD_done (by kernel_rfl) ?_ _
 (try simp only [Act.put, zA, zB, zC, zD, zE, zF])
 have k5 := k3.trans hH4
 clear KD hHeld hH4 k4 k3
 go_wp2_with fail
 refine (KB1.out _ ga ca (kw2.trans k5) (hOa2.kept k5)).mono ?_
 rintro e u5 ⟨rfl, g5⟩
 have kw5 : Kept w u5 := (kw2.trans k5).grw hga g5
 have hOb5 := (hOb.kept k5).grw g5 hab.out
 clear KB1 hOa2 hOb g5 k5 kw2 hga
 go_wp2_with fail
 refine (KB2.out _ gb cb kw5 hOb5).mono ?_
 rintro e u6 ⟨rfl, g6⟩
 have kw6 : Kept w u6 := kw5.grw hgb2 g6
 clear KB2 hOb5 g6 kw5 hgb2 hab hca hcb
 go_wp2_with fail
 refine (KF0.out _).mono ?_
 rintro e u7 ⟨rfl, k7⟩
 replace k7 := kw6.trans k7
 clear kw6 KF0
 go_wp2_with fail
 go_ret
 exact ⟨by simp, k7⟩
theorem lists_e2 (n  s t f1 f12 : Int) (ao bo : Option Addr) (N c M d : Nat) (MX MY : List Int) (w : World) (hNM : ((N : Int) != (M : Int)) = false) (hb : ¬ (65536 : Int) < (N : Int)) (h1 : f1 = 0) (h2 : f12 = 0)
  (KL1 : Hid (∀ u, Kept w u → Calls Tryz.prog 48 #[.slice ao N c] u fun e w' => (∃ g cap, e = .returned (.slice (some ⟨g, 0, none⟩) (N + 3) cap) ∧ u.heap.size ≤ g ∧ N ≤ cap ∧ Own w' g cap MX) ∧ Kept u w'))
  (KL2 : Hid (∀ u, Kept w u → Calls Tryz.prog 48 #[.slice bo M d] u fun e w' => (∃ g cap, e = .returned (.slice (some ⟨g, 0, none⟩) (M + 3) cap) ∧ u.heap.size ≤ g ∧ M ≤ cap ∧ Own w' g cap MY) ∧ Kept u w'))
  (KS : Hid (∀ (u : World) (b cap : Nat), Kept w u → Own u b cap MX → Calls Tryz.prog 20 #[.slice (some ⟨b, 0, none⟩) N cap, .int .i64 n] u fun e w' => e = .returned (.tuple #[.int .i64 s, .int .i64 f1]) ∧ Kept u w'))
  (KD : Hid (∀ (u : World) (b cap b' cap' : Nat), Kept w u → Own u b cap MX → Own u b' cap' MY → Calls Tryz.prog 21 #[.slice (some ⟨b, 0, none⟩) N cap, .slice (some ⟨b', 0, none⟩) M cap', .int .i64 n] u fun e w' => e = .returned (.tuple #[.int .i64 t, .int .i64 f12]) ∧ Kept u w'))
  (KB1 : Hid (∀ (u : World) (b cap : Nat), Kept w u → Own u b cap MX → Calls Tryz.prog 29 #[.slice (some ⟨b, 0, none⟩) (N + 3) cap, .slice ao N c] u fun e w' => e = .returned (.bool true) ∧ Grw b u w'))
  (KB2 : Hid (∀ (u : World) (b cap : Nat), Kept w u → Own u b cap MY → Calls Tryz.prog 29 #[.slice (some ⟨b, 0, none⟩) (M + 3) cap, .slice bo M d] u fun e w' => e = .returned (.bool true) ∧ Grw b u w'))
  (KF0 : Hid (∀ u, Calls Tryz.prog 30 #[.int .i64 n, .bool true, .slice none 0 0] u fun e w' => e = .returned (.int .i64 0) ∧ Kept u w'))
  (KF1 : Hid (∀ u, Kept w u → Calls Tryz.prog 30 #[.int .i64 n, .bool true, .slice ao N c] u fun e w' => e = .returned (.int .i64 f1) ∧ Kept u w'))
  (KAP : Hid (∀ u, Kept w u → ∃ v1 u1 v2 u2, Hid (∀ ty, (Builtin.append_ #[22, 22] ty #[.slice none 0 0, .slice ao N c]).run Tryz.prog u = .ok v1 u1) ∧ Hid (∀ ty, (Builtin.append_ #[22, 22] ty #[v1, .slice bo M d]).run Tryz.prog u1 = .ok v2 u2) ∧ Kept u u2 ∧ Hid (Calls Tryz.prog 30 #[.int .i64 n, .bool true, v2] u2 fun e w' => e = .returned (.int .i64 f12) ∧ Kept u2 w')))
  (KR1 : Hid (∀ u, Kept w u → Calls Tryz.prog 49 #[.slice ao N c, .int .i64 n] u fun e w' => e = .returned (.int .i64 s) ∧ Kept u w'))
  (KR2 : Hid (∀ u, Kept w u → Calls Tryz.prog 50 #[.slice ao N c, .slice bo M d, .int .i64 n] u fun e w' => e = .returned (.int .i64 t) ∧ Kept u w')) :
  Calls Tryz.prog 15 #[.slice ao N c, .slice bo M d, .int .i64 n] w fun e w' => e = .returned (.bool true) ∧ Kept w w' := by
 go_enter Tryz.func15, Tryz.ntmps15
 go_wp2_with fail
 refine (KL1.out _ (Kept.refl _)).mono ?_
 rintro e w1 ⟨⟨ga, ca, rfl, hga, hca, hOa⟩, k1⟩
 go_wp2_with fail
 refine (KL2.out _ k1).mono ?_
 rintro e w2 ⟨⟨gb, cb, rfl, hgb, hcb, hOb⟩, k2⟩
 have hab : Hid (gb ≠ ga) := (show gb ≠ ga from by have := own_lt hOa; omega)
 have hgb2 : w.heap.size ≤ gb := Nat.le_trans k1.below.size hgb
 have kw2 := k1.trans k2
 have hOa2 := hOa.kept k2
 clear hOa KL1 KL2 k1 k2 hgb
 go_wp2_with fail
 refine (KS.out _ ga ca kw2 hOa2).mono ?_
 rintro e w3 ⟨rfl, k3⟩
 clear KS
 go_wp2_with fail
 refine wp_region_late [] (fun u => Kept w3 u) (by kernel_rfl) ((Kept.refl _).drew) (fun hHeld => ?_)
 refine wpAnyD_take (i := 0) (v := ?_) rfl (by kernel_rfl) (by kernel_rfl) (by kernel_rfl) (by kernel_rfl) (fun _ _ _ h => h) (Or.inl ⟨by rfl, ?hya0⟩) hHeld ?_
 case hya0 => (intro w hSw; (try dsimp only at hSw); go_simp; try (with_reducible rfl))
 (try simp only [Act.put, zA, zB, zC, zD, zE, zF])
 refine wpAnyD_take (i := 1) (v := ?_) rfl (by kernel_rfl) (by kernel_rfl) (by kernel_rfl) (by kernel_rfl) (fun _ _ _ h => h) (Or.inl ⟨by rfl, ?hya1⟩) hHeld ?_
 case hya1 => (intro w hSw; (try dsimp only at hSw); go_simp; try (with_reducible rfl))
 (try simp only [Act.put, zA, zB, zC, zD, zE, zF])
 refine wpAnyD_take (i := 2) (v := ?_) rfl (by kernel_rfl) (by kernel_rfl) (by kernel_rfl) (by kernel_rfl) (fun _ _ _ h => h) (Or.inl ⟨by rfl, ?hya2⟩) hHeld ?_
 case hya2 => (intro w hSw; (try dsimp only at hSw); go_simp; try (with_reducible rfl))
 (try simp only [Act.put, zA, zB, zC, zD, zE, zF])
 refine wpAnyD_take (i := 3) (v := ?_) rfl (by kernel_rfl) (by kernel_rfl) (by kernel_rfl) (by kernel_rfl) (fun _ _ _ h => h) (Or.inl ⟨by rfl, ?hya3⟩) hHeld ?_
 case hya3 => (intro w hSw; (try dsimp only at hSw); go_simp; try (with_reducible rfl))
 (try simp only [Act.put, zA, zB, zC, zD, zE, zF])
 refine wpAnyD_take (i := 4) (v := ?_) rfl (by kernel_rfl) (by kernel_rfl) (by kernel_rfl) (by kernel_rfl) (fun _ _ _ h => h) (Or.inl ⟨by rfl, ?hya4⟩) hHeld ?_
 case hya4 => (intro w hSw; (try dsimp only at hSw); go_simp; try (with_reducible rfl))
 (try simp only [Act.put, zA, zB, zC, zD, zE, zF])
 refine wpAnyD_take (i := 5) (v := ?_) rfl (by kernel_rfl) (by kernel_rfl) (by kernel_rfl) (by kernel_rfl) (fun _ _ _ h => h) (Or.inl ⟨by rfl, ?hya5⟩) hHeld ?_
 case hya5 => (intro w hSw; (try dsimp only at hSw); go_simp; try (with_reducible rfl))
 (try simp only [Act.put, zA, zB, zC, zD, zE, zF])
 refine wpAnyD_take (i := 6) (v := ?_) rfl (by kernel_rfl) (by kernel_rfl) (by kernel_rfl) (by kernel_rfl) (fun _ _ _ h => h) (Or.inl ⟨by rfl, ?hya6⟩) hHeld ?_
 case hya6 => (intro w hSw; (try dsimp only at hSw); go_simp; try (with_reducible rfl))
 (try simp only [Act.put, zA, zB, zC, zD, zE, zF])
 refine wpAnyD_take (i := 7) (v := ?_) rfl (by kernel_rfl) (by kernel_rfl) (by kernel_rfl) (by kernel_rfl) (fun _ _ _ h => h) (Or.inl ⟨by rfl, ?hya7⟩) hHeld ?_
 case hya7 => (intro w hSw; (try dsimp only at hSw); go_simp; try (with_reducible rfl))
 (try simp only [Act.put, zA, zB, zC, zD, zE, zF])
 refine wpAnyD_take (i := 8) (v := ?_) rfl (by kernel_rfl) (by kernel_rfl) (by kernel_rfl) (by kernel_rfl) (fun _ _ _ h => h) (Or.inl ⟨by rfl, ?hya8⟩) hHeld ?_
 case hya8 => (intro w hSw; (try dsimp only at hSw); go_simp; try (with_reducible rfl))
 (try simp only [Act.put, zA, zB, zC, zD, zE, zF])
 refine wpAnyD_step (i := 9) (by kernel_rfl) rfl (fun K hK9 => ?_)
 go_simp
 go_wp2_with fail
 refine (KD.out _ ga ca gb cb (kw2.trans (k3.trans hHeld)) (hOa2.kept (k3.trans hHeld)) (hOb.kept (k3.trans hHeld))).mono ?_
 rintro e u4 ⟨rfl, k4⟩
 refine hK9.out _ _ (hHeld.trans k4) (fun hH4 => ?_)
 clear hK9 K
 (try simp only [Act.put, zA, zB, zC, zD, zE, zF])
 refine wpAnyD_take (i := 10) (v := ?_) rfl (by kernel_rfl) (by kernel_rfl) (by kernel_rfl) (by kernel_rfl) (fun _ _ _ h => h) (Or.inl ⟨by rfl, ?hyb10⟩) hH4 ?_
 case hyb10 => (intro w hSw; (try dsimp only at hSw); go_simp; try (with_reducible rfl))
 (try simp only [Act.put, zA, zB, zC, zD, zE, zF])
 refine wpAnyD_take (i := 11) (v := ?_) rfl (by kernel_rfl) (by kernel_rfl) (by kernel_rfl) (by kernel_rfl) (fun _ _ _ h => h) (Or.inl ⟨by rfl, ?hyb11⟩) hH4 ?_
 case hyb11 => (intro w hSw; (try dsimp only at hSw); go_simp; try (with_reducible rfl))
 (try simp only [Act.put, zA, zB, zC, zD, zE, zF])
 refine wpAnyD_take (i := 12) (v := ?_) rfl (by kernel_rfl) (by kernel_rfl) (by kernel_rfl) (by kernel_rfl) (fun _ _ _ h => h) (Or.inl ⟨by rfl, ?hyb12⟩) hH4 ?_
 case hyb12 => (intro w hSw; (try dsimp only at hSw); go_simp; try (with_reducible rfl))
 (try simp only [Act.put, zA, zB, zC, zD, zE, zF])
 refine wpAnyD_take (i := 13) (v := ?_) rfl (by kernel_rfl) (by kernel_rfl) (by kernel_rfl) (by kernel_rfl) (fun _ _ _ h => h) (Or.inl ⟨by rfl, ?hyb13⟩) hH4 ?_
 case hyb13 => (intro w hSw; (try dsimp only at hSw); go_simp; try (with_reducible rfl))
 (try simp only [Act.put, zA, zB, zC, zD, zE, zF])
 refine wpAnyD_take (i := 14) (v := ?_) rfl (by kernel_rfl) (by kernel_rfl) (by kernel_rfl) (by kernel_rfl) (fun _ _ _ h => h) (Or.inl ⟨by rfl, ?hyb14⟩) hH4 ?_
 case hyb14 => (intro w hSw; (try dsimp only at hSw); go_simp; try (with_reducible rfl))
 (try simp only [Act.put, zA, zB, zC, zD, zE, zF])
 refine wpAnyD_done (by kernel_rfl) ?_ _
 (try simp only [Act.put, zA, zB, zC, zD, zE, zF])
 have k5 := k3.trans hH4
 clear KD hHeld hH4 k4 k3
 go_wp2_with fail
 refine (KB1.out _ ga ca (kw2.trans k5) (hOa2.kept k5)).mono ?_
 rintro e u5 ⟨rfl, g5⟩
 have kw5 : Kept w u5 := (kw2.trans k5).grw hga g5
 have hOb5 := (hOb.kept k5).grw g5 hab.out
 clear KB1 hOa2 hOb g5 k5 kw2 hga
 go_wp2_with fail
 refine (KB2.out _ gb cb kw5 hOb5).mono ?_
 rintro e u6 ⟨rfl, g6⟩
 have kw6 : Kept w u6 := kw5.grw hgb2 g6
 clear KB2 hOb5 g6 kw5 hgb2 hab hca hcb
 go_wp2_with fail
 refine (KF0.out _).mono ?_
 rintro e u7 ⟨rfl, k7⟩
 replace k7 := kw6.trans k7
 clear kw6 KF0
 go_wp2_with fail
 refine (KF1.out _ k7).mono ?_
 rintro e u8 ⟨rfl, k8⟩
 replace k7 := k7.trans k8
 clear k8 KF1
 obtain ⟨v1, u1, v2, u2, H1, H2, k8, KF2⟩ := KAP.out _ k7
 clear KAP
 go_wp2_with (first | (at_builtin; refine wpList_append_run rfl _ _ _ rfl _ _ rfl rfl _ _ (H1.out _) ?_) | (at_builtin; refine wpList_append_run rfl _ _ _ rfl _ _ rfl rfl _ _ (H2.out _) ?_))
 refine KF2.out.mono ?_
 rintro e u9 ⟨rfl, k9⟩
 replace k7 := k7.trans (k8.trans k9)
 clear k8 k9 KF2 H1 H2
 go_wp2_with fail
 refine (KR1.out _ k7).mono ?_
 rintro e u10 ⟨rfl, k8⟩
 replace k7 := k7.trans k8
 clear k8 KR1
 go_wp2_with fail
 refine (KR2.out _ k7).mono ?_
 rintro e u11 ⟨rfl, k8⟩
 replace k7 := k7.trans k8
 clear k8 KR2
 go_wp2_with fail
 go_ret
 exact ⟨by simp, k7⟩
theorem lists_e3 (n  s  f1 f12 : Int) (ao bo : Option Addr) (N c M d : Nat) (MX MY : List Int) (w : World) (hNM : ((N : Int) != (M : Int)) = false) (hb : ¬ (65536 : Int) < (N : Int)) (h1 : f1 = 0) (h2 : (f12 == 0) = false)
  (KL1 : Hid (∀ u, Kept w u → Calls Tryz.prog 48 #[.slice ao N c] u fun e w' => (∃ g cap, e = .returned (.slice (some ⟨g, 0, none⟩) (N + 3) cap) ∧ u.heap.size ≤ g ∧ N ≤ cap ∧ Own w' g cap MX) ∧ Kept u w'))
  (KL2 : Hid (∀ u, Kept w u → Calls Tryz.prog 48 #[.slice bo M d] u fun e w' => (∃ g cap, e = .returned (.slice (some ⟨g, 0, none⟩) (M + 3) cap) ∧ u.heap.size ≤ g ∧ M ≤ cap ∧ Own w' g cap MY) ∧ Kept u w'))
  (KS : Hid (∀ (u : World) (b cap : Nat), Kept w u → Own u b cap MX → Calls Tryz.prog 20 #[.slice (some ⟨b, 0, none⟩) N cap, .int .i64 n] u fun e w' => e = .returned (.tuple #[.int .i64 s, .int .i64 f1]) ∧ Kept u w'))
  (KD : Hid (∀ (u : World) (b cap b' cap' : Nat), Kept w u → Own u b cap MX → Own u b' cap' MY → Calls Tryz.prog 21 #[.slice (some ⟨b, 0, none⟩) N cap, .slice (some ⟨b', 0, none⟩) M cap', .int .i64 n] u fun e w' => e = .returned (.tuple #[.int .i64 0, .int .i64 f12]) ∧ Kept u w'))
  (KB1 : Hid (∀ (u : World) (b cap : Nat), Kept w u → Own u b cap MX → Calls Tryz.prog 29 #[.slice (some ⟨b, 0, none⟩) (N + 3) cap, .slice ao N c] u fun e w' => e = .returned (.bool true) ∧ Grw b u w'))
  (KB2 : Hid (∀ (u : World) (b cap : Nat), Kept w u → Own u b cap MY → Calls Tryz.prog 29 #[.slice (some ⟨b, 0, none⟩) (M + 3) cap, .slice bo M d] u fun e w' => e = .returned (.bool true) ∧ Grw b u w'))
  (KF0 : Hid (∀ u, Calls Tryz.prog 30 #[.int .i64 n, .bool true, .slice none 0 0] u fun e w' => e = .returned (.int .i64 0) ∧ Kept u w'))
  (KF1 : Hid (∀ u, Kept w u → Calls Tryz.prog 30 #[.int .i64 n, .bool true, .slice ao N c] u fun e w' => e = .returned (.int .i64 f1) ∧ Kept u w'))
  (KAP : Hid (∀ u, Kept w u → ∃ v1 u1 v2 u2, Hid (∀ ty, (Builtin.append_ #[22, 22] ty #[.slice none 0 0, .slice ao N c]).run Tryz.prog u = .ok v1 u1) ∧ Hid (∀ ty, (Builtin.append_ #[22, 22] ty #[v1, .slice bo M d]).run Tryz.prog u1 = .ok v2 u2) ∧ Kept u u2 ∧ Hid (Calls Tryz.prog 30 #[.int .i64 n, .bool true, v2] u2 fun e w' => e = .returned (.int .i64 f12) ∧ Kept u2 w')))
  (KR1 : Hid (∀ u, Kept w u → Calls Tryz.prog 49 #[.slice ao N c, .int .i64 n] u fun e w' => e = .returned (.int .i64 s) ∧ Kept u w')) :
  Calls Tryz.prog 15 #[.slice ao N c, .slice bo M d, .int .i64 n] w fun e w' => e = .returned (.bool true) ∧ Kept w w' := by
 go_enter Tryz.func15, Tryz.ntmps15
 go_wp2_with fail
 refine (KL1.out _ (Kept.refl _)).mono ?_
 rintro e w1 ⟨⟨ga, ca, rfl, hga, hca, hOa⟩, k1⟩
 go_wp2_with fail
 refine (KL2.out _ k1).mono ?_
 rintro e w2 ⟨⟨gb, cb, rfl, hgb, hcb, hOb⟩, k2⟩
 have hab : Hid (gb ≠ ga) := (show gb ≠ ga from by have := own_lt hOa; omega)
 have hgb2 : w.heap.size ≤ gb := Nat.le_trans k1.below.size hgb
 have kw2 := k1.trans k2
 have hOa2 := hOa.kept k2
 clear hOa KL1 KL2 k1 k2 hgb
 go_wp2_with fail
 refine (KS.out _ ga ca kw2 hOa2).mono ?_
 rintro e w3 ⟨rfl, k3⟩
 clear KS
 go_wp2_with fail
 refine wp_region_late [] (fun u => Kept w3 u) (by kernel_rfl) ((Kept.refl _).drew) (fun hHeld => ?_)
 refine wpAnyD_take (i := 0) (v := ?_) rfl (by kernel_rfl) (by kernel_rfl) (by kernel_rfl) (by kernel_rfl) (fun _ _ _ h => h) (Or.inl ⟨by rfl, ?hya0⟩) hHeld ?_
 case hya0 => (intro w hSw; (try dsimp only at hSw); go_simp; try (with_reducible rfl))
 (try simp only [Act.put, zA, zB, zC, zD, zE, zF])
 refine wpAnyD_take (i := 1) (v := ?_) rfl (by kernel_rfl) (by kernel_rfl) (by kernel_rfl) (by kernel_rfl) (fun _ _ _ h => h) (Or.inl ⟨by rfl, ?hya1⟩) hHeld ?_
 case hya1 => (intro w hSw; (try dsimp only at hSw); go_simp; try (with_reducible rfl))
 (try simp only [Act.put, zA, zB, zC, zD, zE, zF])
 refine wpAnyD_take (i := 2) (v := ?_) rfl (by kernel_rfl) (by kernel_rfl) (by kernel_rfl) (by kernel_rfl) (fun _ _ _ h => h) (Or.inl ⟨by rfl, ?hya2⟩) hHeld ?_
 case hya2 => (intro w hSw; (try dsimp only at hSw); go_simp; try (with_reducible rfl))
 (try simp only [Act.put, zA, zB, zC, zD, zE, zF])
 refine wpAnyD_take (i := 3) (v := ?_) rfl (by kernel_rfl) (by kernel_rfl) (by kernel_rfl) (by kernel_rfl) (fun _ _ _ h => h) (Or.inl ⟨by rfl, ?hya3⟩) hHeld ?_
 case hya3 => (intro w hSw; (try dsimp only at hSw); go_simp; try (with_reducible rfl))
 (try simp only [Act.put, zA, zB, zC, zD, zE, zF])
 refine wpAnyD_take (i := 4) (v := ?_) rfl (by kernel_rfl) (by kernel_rfl) (by kernel_rfl) (by kernel_rfl) (fun _ _ _ h => h) (Or.inl ⟨by rfl, ?hya4⟩) hHeld ?_
 case hya4 => (intro w hSw; (try dsimp only at hSw); go_simp; try (with_reducible rfl))
 (try simp only [Act.put, zA, zB, zC, zD, zE, zF])
 refine wpAnyD_take (i := 5) (v := ?_) rfl (by kernel_rfl) (by kernel_rfl) (by kernel_rfl) (by kernel_rfl) (fun _ _ _ h => h) (Or.inl ⟨by rfl, ?hya5⟩) hHeld ?_
 case hya5 => (intro w hSw; (try dsimp only at hSw); go_simp; try (with_reducible rfl))
 (try simp only [Act.put, zA, zB, zC, zD, zE, zF])
 refine wpAnyD_take (i := 6) (v := ?_) rfl (by kernel_rfl) (by kernel_rfl) (by kernel_rfl) (by kernel_rfl) (fun _ _ _ h => h) (Or.inl ⟨by rfl, ?hya6⟩) hHeld ?_
 case hya6 => (intro w hSw; (try dsimp only at hSw); go_simp; try (with_reducible rfl))
 (try simp only [Act.put, zA, zB, zC, zD, zE, zF])
 refine wpAnyD_take (i := 7) (v := ?_) rfl (by kernel_rfl) (by kernel_rfl) (by kernel_rfl) (by kernel_rfl) (fun _ _ _ h => h) (Or.inl ⟨by rfl, ?hya7⟩) hHeld ?_
 case hya7 => (intro w hSw; (try dsimp only at hSw); go_simp; try (with_reducible rfl))
 (try simp only [Act.put, zA, zB, zC, zD, zE, zF])
 refine wpAnyD_take (i := 8) (v := ?_) rfl (by kernel_rfl) (by kernel_rfl) (by kernel_rfl) (by kernel_rfl) (fun _ _ _ h => h) (Or.inl ⟨by rfl, ?hya8⟩) hHeld ?_
 case hya8 => (intro w hSw; (try dsimp only at hSw); go_simp; try (with_reducible rfl))
 (try simp only [Act.put, zA, zB, zC, zD, zE, zF])
 refine wpAnyD_step (i := 9) (by kernel_rfl) rfl (fun K hK9 => ?_)
 go_simp
 go_wp2_with fail
 refine (KD.out _ ga ca gb cb (kw2.trans (k3.trans hHeld)) (hOa2.kept (k3.trans hHeld)) (hOb.kept (k3.trans hHeld))).mono ?_
 rintro e u4 ⟨rfl, k4⟩
 refine hK9.out _ _ (hHeld.trans k4) (fun hH4 => ?_)
 clear hK9 K
 (try simp only [Act.put, zA, zB, zC, zD, zE, zF])
 refine wpAnyD_take (i := 10) (v := ?_) rfl (by kernel_rfl) (by kernel_rfl) (by kernel_rfl) (by kernel_rfl) (fun _ _ _ h => h) (Or.inl ⟨by rfl, ?hyb10⟩) hH4 ?_
 case hyb10 => (intro w hSw; (try dsimp only at hSw); go_simp; try (with_reducible rfl))
 (try simp only [Act.put, zA, zB, zC, zD, zE, zF])
 refine wpAnyD_take (i := 11) (v := ?_) rfl (by kernel_rfl) (by kernel_rfl) (by kernel_rfl) (by kernel_rfl) (fun _ _ _ h => h) (Or.inl ⟨by rfl, ?hyb11⟩) hH4 ?_
 case hyb11 => (intro w hSw; (try dsimp only at hSw); go_simp; try (with_reducible rfl))
 (try simp only [Act.put, zA, zB, zC, zD, zE, zF])
 refine wpAnyD_take (i := 12) (v := ?_) rfl (by kernel_rfl) (by kernel_rfl) (by kernel_rfl) (by kernel_rfl) (fun _ _ _ h => h) (Or.inl ⟨by rfl, ?hyb12⟩) hH4 ?_
 case hyb12 => (intro w hSw; (try dsimp only at hSw); go_simp; try (with_reducible rfl))
 (try simp only [Act.put, zA, zB, zC, zD, zE, zF])
 refine wpAnyD_take (i := 13) (v := ?_) rfl (by kernel_rfl) (by kernel_rfl) (by kernel_rfl) (by kernel_rfl) (fun _ _ _ h => h) (Or.inl ⟨by rfl, ?hyb13⟩) hH4 ?_
 case hyb13 => (intro w hSw; (try dsimp only at hSw); go_simp; try (with_reducible rfl))
 (try simp only [Act.put, zA, zB, zC, zD, zE, zF])
 refine wpAnyD_take (i := 14) (v := ?_) rfl (by kernel_rfl) (by kernel_rfl) (by kernel_rfl) (by kernel_rfl) (fun _ _ _ h => h) (Or.inl ⟨by rfl, ?hyb14⟩) hH4 ?_
 case hyb14 => (intro w hSw; (try dsimp only at hSw); go_simp; try (with_reducible rfl))
 (try simp only [Act.put, zA, zB, zC, zD, zE, zF])
 refine wpAnyD_done (by kernel_rfl) ?_ _
 (try simp only [Act.put, zA, zB, zC, zD, zE, zF])
 have k5 := k3.trans hH4
 clear KD hHeld hH4 k4 k3
 go_wp2_with fail
 refine (KB1.out _ ga ca (kw2.trans k5) (hOa2.kept k5)).mono ?_
 rintro e u5 ⟨rfl, g5⟩
 have kw5 : Kept w u5 := (kw2.trans k5).grw hga g5
 have hOb5 := (hOb.kept k5).grw g5 hab.out
 clear KB1 hOa2 hOb g5 k5 kw2 hga
 go_wp2_with fail
 refine (KB2.out _ gb cb kw5 hOb5).mono ?_
 rintro e u6 ⟨rfl, g6⟩
 have kw6 : Kept w u6 := kw5.grw hgb2 g6
 clear KB2 hOb5 g6 kw5 hgb2 hab hca hcb
 go_wp2_with fail
 refine (KF0.out _).mono ?_
 rintro e u7 ⟨rfl, k7⟩
 replace k7 := kw6.trans k7
 clear kw6 KF0
 go_wp2_with fail
 refine (KF1.out _ k7).mono ?_
 rintro e u8 ⟨rfl, k8⟩
 replace k7 := k7.trans k8
 clear k8 KF1
 obtain ⟨v1, u1, v2, u2, H1, H2, k8, KF2⟩ := KAP.out _ k7
 clear KAP
 go_wp2_with (first | (at_builtin; refine wpList_append_run rfl _ _ _ rfl _ _ rfl rfl _ _ (H1.out _) ?_) | (at_builtin; refine wpList_append_run rfl _ _ _ rfl _ _ rfl rfl _ _ (H2.out _) ?_))
 refine KF2.out.mono ?_
 rintro e u9 ⟨rfl, k9⟩
 replace k7 := k7.trans (k8.trans k9)
 clear k8 k9 KF2 H1 H2
 go_wp2_with fail
 refine (KR1.out _ k7).mono ?_
 rintro e u10 ⟨rfl, k8⟩
 replace k7 := k7.trans k8
 clear k8 KR1
 go_wp2_with fail
 go_ret
 exact ⟨by simp, k7⟩
theorem lists_e4 (n    f1 f12 : Int) (ao bo : Option Addr) (N c M d : Nat) (MX MY : List Int) (w : World) (hNM : ((N : Int) != (M : Int)) = false) (hb : ¬ (65536 : Int) < (N : Int)) (h1 : (f1 == 0) = false) (h2 : (f12 == 0) = false)
  (KL1 : Hid (∀ u, Kept w u → Calls Tryz.prog 48 #[.slice ao N c] u fun e w' => (∃ g cap, e = .returned (.slice (some ⟨g, 0, none⟩) (N + 3) cap) ∧ u.heap.size ≤ g ∧ N ≤ cap ∧ Own w' g cap MX) ∧ Kept u w'))
  (KL2 : Hid (∀ u, Kept w u → Calls Tryz.prog 48 #[.slice bo M d] u fun e w' => (∃ g cap, e = .returned (.slice (some ⟨g, 0, none⟩) (M + 3) cap) ∧ u.heap.size ≤ g ∧ M ≤ cap ∧ Own w' g cap MY) ∧ Kept u w'))
  (KS : Hid (∀ (u : World) (b cap : Nat), Kept w u → Own u b cap MX → Calls Tryz.prog 20 #[.slice (some ⟨b, 0, none⟩) N cap, .int .i64 n] u fun e w' => e = .returned (.tuple #[.int .i64 0, .int .i64 f1]) ∧ Kept u w'))
  (KD : Hid (∀ (u : World) (b cap b' cap' : Nat), Kept w u → Own u b cap MX → Own u b' cap' MY → Calls Tryz.prog 21 #[.slice (some ⟨b, 0, none⟩) N cap, .slice (some ⟨b', 0, none⟩) M cap', .int .i64 n] u fun e w' => e = .returned (.tuple #[.int .i64 0, .int .i64 f12]) ∧ Kept u w'))
  (KB1 : Hid (∀ (u : World) (b cap : Nat), Kept w u → Own u b cap MX → Calls Tryz.prog 29 #[.slice (some ⟨b, 0, none⟩) (N + 3) cap, .slice ao N c] u fun e w' => e = .returned (.bool true) ∧ Grw b u w'))
  (KB2 : Hid (∀ (u : World) (b cap : Nat), Kept w u → Own u b cap MY → Calls Tryz.prog 29 #[.slice (some ⟨b, 0, none⟩) (M + 3) cap, .slice bo M d] u fun e w' => e = .returned (.bool true) ∧ Grw b u w'))
  (KF0 : Hid (∀ u, Calls Tryz.prog 30 #[.int .i64 n, .bool true, .slice none 0 0] u fun e w' => e = .returned (.int .i64 0) ∧ Kept u w'))
  (KF1 : Hid (∀ u, Kept w u → Calls Tryz.prog 30 #[.int .i64 n, .bool true, .slice ao N c] u fun e w' => e = .returned (.int .i64 f1) ∧ Kept u w'))
  (KAP : Hid (∀ u, Kept w u → ∃ v1 u1 v2 u2, Hid (∀ ty, (Builtin.append_ #[22, 22] ty #[.slice none 0 0, .slice ao N c]).run Tryz.prog u = .ok v1 u1) ∧ Hid (∀ ty, (Builtin.append_ #[22, 22] ty #[v1, .slice bo M d]).run Tryz.prog u1 = .ok v2 u2) ∧ Kept u u2 ∧ Hid (Calls Tryz.prog 30 #[.int .i64 n, .bool true, v2] u2 fun e w' => e = .returned (.int .i64 f12) ∧ Kept u2 w'))) :
  Calls Tryz.prog 15 #[.slice ao N c, .slice bo M d, .int .i64 n] w fun e w' => e = .returned (.bool true) ∧ Kept w w' := by
 go_enter Tryz.func15, Tryz.ntmps15
 go_wp2_with fail
 refine (KL1.out _ (Kept.refl _)).mono ?_
 rintro e w1 ⟨⟨ga, ca, rfl, hga, hca, hOa⟩, k1⟩
 go_wp2_with fail
 refine (KL2.out _ k1).mono ?_
 rintro e w2 ⟨⟨gb, cb, rfl, hgb, hcb, hOb⟩, k2⟩
 have hab : Hid (gb ≠ ga) := (show gb ≠ ga from by have := own_lt hOa; omega)
 have hgb2 : w.heap.size ≤ gb := Nat.le_trans k1.below.size hgb
 have kw2 := k1.trans k2
 have hOa2 := hOa.kept k2
 clear hOa KL1 KL2 k1 k2 hgb
 go_wp2_with fail
 refine (KS.out _ ga ca kw2 hOa2).mono ?_
 rintro e w3 ⟨rfl, k3⟩
 clear KS
 go_wp2_with fail
 refine wp_region_late [] (fun u => Kept w3 u) (by kernel_rfl) ((Kept.refl _).drew) (fun hHeld => ?_)
 refine wpAnyD_take (i := 0) (v := ?_) rfl (by kernel_rfl) (by kernel_rfl) (by kernel_rfl) (by kernel_rfl) (fun _ _ _ h => h) (Or.inl ⟨by rfl, ?hya0⟩) hHeld ?_
 case hya0 => (intro w hSw; (try dsimp only at hSw); go_simp; try (with_reducible rfl))
 (try simp only [Act.put, zA, zB, zC, zD, zE, zF])
 refine wpAnyD_take (i := 1) (v := ?_) rfl (by kernel_rfl) (by kernel_rfl) (by kernel_rfl) (by kernel_rfl) (fun _ _ _ h => h) (Or.inl ⟨by rfl, ?hya1⟩) hHeld ?_
 case hya1 => (intro w hSw; (try dsimp only at hSw); go_simp; try (with_reducible rfl))
 (try simp only [Act.put, zA, zB, zC, zD, zE, zF])
 refine wpAnyD_take (i := 2) (v := ?_) rfl (by kernel_rfl) (by kernel_rfl) (by kernel_rfl) (by kernel_rfl) (fun _ _ _ h => h) (Or.inl ⟨by rfl, ?hya2⟩) hHeld ?_
 case hya2 => (intro w hSw; (try dsimp only at hSw); go_simp; try (with_reducible rfl))
 (try simp only [Act.put, zA, zB, zC, zD, zE, zF])
 refine wpAnyD_take (i := 3) (v := ?_) rfl (by kernel_rfl) (by kernel_rfl) (by kernel_rfl) (by kernel_rfl) (fun _ _ _ h => h) (Or.inl ⟨by rfl, ?hya3⟩) hHeld ?_
 case hya3 => (intro w hSw; (try dsimp only at hSw); go_simp; try (with_reducible rfl))
 (try simp only [Act.put, zA, zB, zC, zD, zE, zF])
 refine wpAnyD_take (i := 4) (v := ?_) rfl (by kernel_rfl) (by kernel_rfl) (by kernel_rfl) (by kernel_rfl) (fun _ _ _ h => h) (Or.inl ⟨by rfl, ?hya4⟩) hHeld ?_
 case hya4 => (intro w hSw; (try dsimp only at hSw); go_simp; try (with_reducible rfl))
 (try simp only [Act.put, zA, zB, zC, zD, zE, zF])
 refine wpAnyD_take (i := 5) (v := ?_) rfl (by kernel_rfl) (by kernel_rfl) (by kernel_rfl) (by kernel_rfl) (fun _ _ _ h => h) (Or.inl ⟨by rfl, ?hya5⟩) hHeld ?_
 case hya5 => (intro w hSw; (try dsimp only at hSw); go_simp; try (with_reducible rfl))
 (try simp only [Act.put, zA, zB, zC, zD, zE, zF])
 refine wpAnyD_take (i := 6) (v := ?_) rfl (by kernel_rfl) (by kernel_rfl) (by kernel_rfl) (by kernel_rfl) (fun _ _ _ h => h) (Or.inl ⟨by rfl, ?hya6⟩) hHeld ?_
 case hya6 => (intro w hSw; (try dsimp only at hSw); go_simp; try (with_reducible rfl))
 (try simp only [Act.put, zA, zB, zC, zD, zE, zF])
 refine wpAnyD_take (i := 7) (v := ?_) rfl (by kernel_rfl) (by kernel_rfl) (by kernel_rfl) (by kernel_rfl) (fun _ _ _ h => h) (Or.inl ⟨by rfl, ?hya7⟩) hHeld ?_
 case hya7 => (intro w hSw; (try dsimp only at hSw); go_simp; try (with_reducible rfl))
 (try simp only [Act.put, zA, zB, zC, zD, zE, zF])
 refine wpAnyD_take (i := 8) (v := ?_) rfl (by kernel_rfl) (by kernel_rfl) (by kernel_rfl) (by kernel_rfl) (fun _ _ _ h => h) (Or.inl ⟨by rfl, ?hya8⟩) hHeld ?_
 case hya8 => (intro w hSw; (try dsimp only at hSw); go_simp; try (with_reducible rfl))
 (try simp only [Act.put, zA, zB, zC, zD, zE, zF])
 refine wpAnyD_step (i := 9) (by kernel_rfl) rfl (fun K hK9 => ?_)
 go_simp
 go_wp2_with fail
 refine (KD.out _ ga ca gb cb (kw2.trans (k3.trans hHeld)) (hOa2.kept (k3.trans hHeld)) (hOb.kept (k3.trans hHeld))).mono ?_
 rintro e u4 ⟨rfl, k4⟩
 refine hK9.out _ _ (hHeld.trans k4) (fun hH4 => ?_)
 clear hK9 K
 (try simp only [Act.put, zA, zB, zC, zD, zE, zF])
 refine wpAnyD_take (i := 10) (v := ?_) rfl (by kernel_rfl) (by kernel_rfl) (by kernel_rfl) (by kernel_rfl) (fun _ _ _ h => h) (Or.inl ⟨by rfl, ?hyb10⟩) hH4 ?_
 case hyb10 => (intro w hSw; (try dsimp only at hSw); go_simp; try (with_reducible rfl))
 (try simp only [Act.put, zA, zB, zC, zD, zE, zF])
 refine wpAnyD_take (i := 11) (v := ?_) rfl (by kernel_rfl) (by kernel_rfl) (by kernel_rfl) (by kernel_rfl) (fun _ _ _ h => h) (Or.inl ⟨by rfl, ?hyb11⟩) hH4 ?_
 case hyb11 => (intro w hSw; (try dsimp only at hSw); go_simp; try (with_reducible rfl))
 (try simp only [Act.put, zA, zB, zC, zD, zE, zF])
 refine wpAnyD_take (i := 12) (v := ?_) rfl (by kernel_rfl) (by kernel_rfl) (by kernel_rfl) (by kernel_rfl) (fun _ _ _ h => h) (Or.inl ⟨by rfl, ?hyb12⟩) hH4 ?_
 case hyb12 => (intro w hSw; (try dsimp only at hSw); go_simp; try (with_reducible rfl))
 (try simp only [Act.put, zA, zB, zC, zD, zE, zF])
 refine wpAnyD_take (i := 13) (v := ?_) rfl (by kernel_rfl) (by kernel_rfl) (by kernel_rfl) (by kernel_rfl) (fun _ _ _ h => h) (Or.inl ⟨by rfl, ?hyb13⟩) hH4 ?_
 case hyb13 => (intro w hSw; (try dsimp only at hSw); go_simp; try (with_reducible rfl))
 (try simp only [Act.put, zA, zB, zC, zD, zE, zF])
 refine wpAnyD_take (i := 14) (v := ?_) rfl (by kernel_rfl) (by kernel_rfl) (by kernel_rfl) (by kernel_rfl) (fun _ _ _ h => h) (Or.inl ⟨by rfl, ?hyb14⟩) hH4 ?_
 case hyb14 => (intro w hSw; (try dsimp only at hSw); go_simp; try (with_reducible rfl))
 (try simp only [Act.put, zA, zB, zC, zD, zE, zF])
 refine wpAnyD_done (by kernel_rfl) ?_ _
 (try simp only [Act.put, zA, zB, zC, zD, zE, zF])
 have k5 := k3.trans hH4
 clear KD hHeld hH4 k4 k3
 go_wp2_with fail
 refine (KB1.out _ ga ca (kw2.trans k5) (hOa2.kept k5)).mono ?_
 rintro e u5 ⟨rfl, g5⟩
 have kw5 : Kept w u5 := (kw2.trans k5).grw hga g5
 have hOb5 := (hOb.kept k5).grw g5 hab.out
 clear KB1 hOa2 hOb g5 k5 kw2 hga
 go_wp2_with fail
 refine (KB2.out _ gb cb kw5 hOb5).mono ?_
 rintro e u6 ⟨rfl, g6⟩
 have kw6 : Kept w u6 := kw5.grw hgb2 g6
 clear KB2 hOb5 g6 kw5 hgb2 hab hca hcb
 go_wp2_with fail
 refine (KF0.out _).mono ?_
 rintro e u7 ⟨rfl, k7⟩
 replace k7 := kw6.trans k7
 clear kw6 KF0
 go_wp2_with fail
 refine (KF1.out _ k7).mono ?_
 rintro e u8 ⟨rfl, k8⟩
 replace k7 := k7.trans k8
 clear k8 KF1
 obtain ⟨v1, u1, v2, u2, H1, H2, k8, KF2⟩ := KAP.out _ k7
 clear KAP
 go_wp2_with (first | (at_builtin; refine wpList_append_run rfl _ _ _ rfl _ _ rfl rfl _ _ (H1.out _) ?_) | (at_builtin; refine wpList_append_run rfl _ _ _ rfl _ _ rfl rfl _ _ (H2.out _) ?_))
 refine KF2.out.mono ?_
 rintro e u9 ⟨rfl, k9⟩
 replace k7 := k7.trans (k8.trans k9)
 clear k8 k9 KF2 H1 H2
 go_wp2_with fail
 go_ret
 exact ⟨by simp, k7⟩
end Go.Proofs.YtdpccifhhencgaaGreatDoor
