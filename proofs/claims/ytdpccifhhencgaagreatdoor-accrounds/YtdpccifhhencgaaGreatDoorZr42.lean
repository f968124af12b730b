/- acc's Round and Mean of any sum, and that the document says so. The walks of the document's own Class and Parts. The walks of the laws' own Lent, LentNum, Back. -/
import Derived.Test.YtdpccifhhencgaaGreatDoorZr23
import Derived.Test.YtdpccifhhencgaaGreatDoorZr41
import Derived.Test.YtdpccifhhencgaaGreatDoorZr32
import Derived.Test.YtdpccifhhencgaaGreatDoorZr11
namespace Go.Proofs.YtdpccifhhencgaaGreatDoor
open Go.ChangeShapes Go.WideShapes Go.ChangeAt Go.RowKit
set_option linter.unusedVariables false
set_option linter.unusedSimpArgs false
set_option maxHeartbeats 16000000
set_option maxRecDepth 100000
theorem lk_fe (n : Int) (v : Bool) : lkE n v [] = FE n 0 v := by
 unfold lkE FE
 by_cases hn : n = 64 ∨ n = 32
 ·rcases hn with rfl | rfl <;> cases v <;> rfl
 ·rw [if_neg hn, if_pos (by simp [val]; omega)]
theorem rspecial (n : Int) (hn : n = 64 ∨ n = 32) (ng : Bool) (ao : Option Addr) (l cap : Nat) (x : Int) (p m z : Bool) (w : World) :
  Calls Tryz.prog 87 #[accV ng (.slice ao l cap) x p m z, .int .i64 n] w fun e w' => e = .returned (.tuple #[.int .i64 (nfE (ivn n) (nvn n) (gvn n) p m z).1, .bool (nfE (ivn n) (nvn n) (gvn n) p m z).2]) ∧ Kept w w' := by
 obtain ⟨X, hX⟩ : ∃ X, X = w.alloc (.cells #[.bool ng, .slice ao l cap, .int .i64 x, .bool p, .bool m, .bool z] 26) := ⟨_, rfl⟩
 have hK : Kept w X := by rw [hX]; exact (Kept.refl w).alloc _ _
 have HC : Hid (∀ u, Kept X u → _) := acc_cells ng (.slice ao l cap) x p m z hX
 obtain ⟨k0, k1, k2, k3, k4, k5, k6, k7, k8, hk, e6, e8, e7⟩ : ∃ k0 k1 k2 k3 k4 k5 k6 k7 k8 : Int, knd n = .agg #[.int .i64 k0, .int .i64 k1, .int .i64 k2, .int .i64 k3, .int .i64 k4, .int .i64 k5, .int .i64 k6, .int .i64 k7, .int .i64 k8] ∧ k6 = ivn n ∧ k8 = nvn n ∧ IntKind.i64.wrap (k6 + k7) = gvn n := by
  rcases hn with rfl | rfl
  ·exact ⟨_, _, _, _, _, _, _, _, _, rfl, rfl, rfl, by decide +kernel⟩
  ·exact ⟨_, _, _, _, _, _, _, _, _, rfl, rfl, rfl, by decide +kernel⟩
 have KO : Hid (∀ u, Calls Tryz.prog 118 #[.int .i64 n] u fun e w' => e = .returned (.tuple #[.agg #[.int .i64 k0, .int .i64 k1, .int .i64 k2, .int .i64 k3, .int .i64 k4, .int .i64 k5, .int .i64 k6, .int .i64 k7, .int .i64 k8], .bool true]) ∧ Kept u w') := fun u => by
  have := of_knd n hn u
  rw [hk] at this
  exact this
 rw [← e6, ← e8, ← e7]
 clear hk e6 e8 e7 hn
 obtain ⟨R1, hR1⟩ : ∃ R, R = (nfE k6 k8 (IntKind.i64.wrap (k6 + k7)) p m z).1 := ⟨_, rfl⟩
 obtain ⟨R2, hR2⟩ : ∃ R, R = (nfE k6 k8 (IntKind.i64.wrap (k6 + k7)) p m z).2 := ⟨_, rfl⟩
 have HA : Hid (R1 = (nfE k6 k8 (IntKind.i64.wrap (k6 + k7)) p m z).1 ∧ R2 = (nfE k6 k8 (IntKind.i64.wrap (k6 + k7)) p m z).2) := ⟨hR1, hR2⟩
 rw [← hR1, ← hR2]
 clear hR1 hR2
 cases p <;> cases m <;> cases z
 all_goals
  go_enter Tryz.func87, Tryz.ntmps87
  go_wp2_with fail
  rw [← hX]
  refine (KO.out _).mono ?_
  rintro e w1 ⟨rfl, hk1⟩
  obtain ⟨c0, c1, c2, c3, c4, c5⟩ := HC.out _ (hk1.alloc #[.int .i64 k0, .int .i64 k1, .int .i64 k2, .int .i64 k3, .int .i64 k4, .int .i64 k5, .int .i64 k6, .int .i64 k7, .int .i64 k8] 154)
  go_wp2_with fail
  obtain ⟨e1, e2⟩ := HA.out
  exact bodyPost_ret (v := .tuple #[.int .i64 R1, .bool R2]) (by rw [e1, e2]; simp [results, Tryz.results87, go_sem, nfE] <;> (rw [wrap_i64]; unfold wrap64; omega)) rfl ⟨rfl, hK.trans (hk1.alloc _ _)⟩
theorem rnear (n : Int) (ng : Bool) (ao : Option Addr) (l c : Nat) (x q : Int) (o : Bool) (w : World)
  (K : Hid (∀ u, Kept w u → Calls Tryz.prog 133 #[.agg #[.bool ng, .slice ao l c, .int .i64 x], .int .i64 n, .int .i64 0] u fun e w' => e = .returned (.tuple #[.int .i64 q, .bool o]) ∧ Kept u w')) :
  Calls Tryz.prog 88 #[.agg #[.bool ng, .slice ao l c, .int .i64 x], .int .i64 n] w fun e w' => e = .returned (.int .i64 q) ∧ Kept w w' := by
 obtain ⟨X, hX⟩ : ∃ X, X = w.alloc (.cells #[.bool ng, .slice ao l c, .int .i64 x] 24) := ⟨_, rfl⟩
 have hK : Kept w X := by rw [hX]; exact (Kept.refl w).alloc _ _
 go_enter Tryz.func88, Tryz.ntmps88
 go_wp2_with fail
 rw [← hX]
 refine (K.out _ hK).mono ?_
 rintro e w1 ⟨rfl, k1⟩
 go_wp2_with fail
 go_ret
 exact ⟨rfl, hK.trans k1⟩
theorem rquot2 (n : Int) (ng : Bool) (ao : Option Addr) (l c : Nat) (x : Int) (mg : Bool) (bo : Option Addr) (l2 c2 : Nat) (x2 q : Int) (o : Bool) (w : World)
  (K : Hid (∀ u, Kept w u → Calls Tryz.prog 134 #[.agg #[.bool ng, .slice ao l c, .int .i64 x], .agg #[.bool mg, .slice bo l2 c2, .int .i64 x2], .int .i64 n, .int .i64 0] u fun e w' => e = .returned (.tuple #[.int .i64 q, .bool o]) ∧ Kept u w')) :
  Calls Tryz.prog 89 #[.agg #[.bool ng, .slice ao l c, .int .i64 x], .agg #[.bool mg, .slice bo l2 c2, .int .i64 x2], .int .i64 n, .int .i64 0] w fun e w' => e = .returned (.int .i64 q) ∧ Kept w w' := by
 obtain ⟨X, hX⟩ : ∃ X, X = (w.alloc (.cells #[.bool ng, .slice ao l c, .int .i64 x] 24)).alloc (.cells #[.bool mg, .slice bo l2 c2, .int .i64 x2] 24) := ⟨_, rfl⟩
 have hK : Kept w X := by rw [hX]; exact ((Kept.refl w).alloc _ _).alloc _ _
 go_enter Tryz.func89, Tryz.ntmps89
 go_wp2_with fail
 rw [← hX]
 refine (K.out _ hK).mono ?_
 rintro e w1 ⟨rfl, k1⟩
 go_wp2_with fail
 go_ret
 exact ⟨rfl, hK.trans k1⟩
theorem rround3 (n : Int) (ng : Bool) (ao : Option Addr) (l cap : Nat) (x : Int) (p m z : Bool) (w : World) (bv : Int) (ok : Bool) (q : Int)
  (KS : Hid (∀ u, Calls Tryz.prog 87 #[accV ng (.slice ao l cap) x p m z, .int .i64 n] u fun e w' => e = .returned (.tuple #[.int .i64 bv, .bool ok]) ∧ Kept u w'))
  (KN : Hid (∀ u, Kept w u → Calls Tryz.prog 88 #[.agg #[.bool ng, .slice ao l cap, .int .i64 x], .int .i64 n] u fun e w' => e = .returned (.int .i64 q) ∧ Kept u w')) :
  Calls Tryz.prog 46 #[accV ng (.slice ao l cap) x p m z, .int .i64 n] w fun e w' => e = .returned (.int .i64 (bif ok then bv else q)) ∧ Kept w w' := by
 obtain ⟨X, hX⟩ : ∃ X, X = w.alloc (.cells #[.bool ng, .slice ao l cap, .int .i64 x, .bool p, .bool m, .bool z] 26) := ⟨_, rfl⟩
 have hK : Kept w X := by rw [hX]; exact (Kept.refl w).alloc _ _
 have HC : Hid (∀ u, Kept X u → _) := acc_cells ng (.slice ao l cap) x p m z hX
 cases ok
 all_goals
  go_enter Tryz.func46, Tryz.ntmps46
  go_wp2_with fail
  rw [← hX]
  refine (KS.out _).mono ?_
  rintro e w1 ⟨rfl, k1⟩
  obtain ⟨c0, c1, c2, c3, c4, c5⟩ := HC.out _ k1
  go_wp2_with (first | (go_at_call 88; refine (KN.out _ (hK.trans k1)).mono ?_; rintro e w2 ⟨rfl, k2⟩))
  go_ret
  first
   | exact ⟨rfl, (hK.trans k1).trans k2⟩
   | exact ⟨rfl, hK.trans k1⟩
theorem rmean3 (n c : Int) (ng : Bool) (ao : Option Addr) (l cap : Nat) (x : Int) (p m z : Bool) (w : World) (bv : Int) (ok : Bool) (q : Int) (PN : World → Bool → Option Addr → Nat → Nat → Int → Prop)
  (KS : Hid (∀ u, Calls Tryz.prog 87 #[accV ng (.slice ao l cap) x p m z, .int .i64 n] u fun e w' => e = .returned (.tuple #[.int .i64 bv, .bool ok]) ∧ Kept u w'))
  (KW : Hid (∀ u, Kept w u → Calls Tryz.prog 90 #[.int .i64 c] u fun e w' => ∃ vn va vl vc vx, e = .returned (.agg #[.bool vn, .slice va vl vc, .int .i64 vx]) ∧ PN w' vn va vl vc vx ∧ Kept u w'))
  (KQ : Hid (∀ u vn va vl vc vx, Kept w u → PN u vn va vl vc vx → Calls Tryz.prog 89 #[.agg #[.bool ng, .slice ao l cap, .int .i64 x], .agg #[.bool vn, .slice va vl vc, .int .i64 vx], .int .i64 n, .int .i64 0] u fun e w' => e = .returned (.int .i64 q) ∧ Kept u w')) :
  Calls Tryz.prog 47 #[accV ng (.slice ao l cap) x p m z, .int .i64 c, .int .i64 n] w fun e w' => e = .returned (.int .i64 (bif ok then bv else q)) ∧ Kept w w' := by
 obtain ⟨X, hX⟩ : ∃ X, X = w.alloc (.cells #[.bool ng, .slice ao l cap, .int .i64 x, .bool p, .bool m, .bool z] 26) := ⟨_, rfl⟩
 have hK : Kept w X := by rw [hX]; exact (Kept.refl w).alloc _ _
 have HC : Hid (∀ u, Kept X u → _) := acc_cells ng (.slice ao l cap) x p m z hX
 cases ok
 ·go_enter Tryz.func47, Tryz.ntmps47
  go_wp2_with fail
  rw [← hX]
  refine (KS.out _).mono ?_
  rintro e w1 ⟨rfl, k1⟩
  go_wp2_with fail
  have HS : Hid (∀ u, Kept w1 u → u.cell? ⟨w.heap.size, 0, none⟩ = some (.bool ng) ∧ u.cell? ⟨w.heap.size, 1, none⟩ = some (.slice ao l cap) ∧ u.cell? ⟨w.heap.size, 2, none⟩ = some (.int .i64 x)) := fun u k => ⟨(HC.out u (k1.trans k)).1, (HC.out u (k1.trans k)).2.1, (HC.out u (k1.trans k)).2.2.1⟩
  have kd : Kept w1 w1.drew := (Kept.refl w1).drew
  have kw := hK.trans k1
  clear HC KS k1 hX hK
  go_region_held (fun u => u.cell? ⟨w.heap.size, 0, none⟩ = some (.bool ng) ∧ u.cell? ⟨w.heap.size, 1, none⟩ = some (.slice ao l cap) ∧ u.cell? ⟨w.heap.size, 2, none⟩ = some (.int .i64 x)) (first | assumption | exact HS.out _ kd | exact HS.out _ (kd.trans (by assumption)) | exact HS.out _ ((kd.trans k3).trans k4)) (first | (go_at_call 90; refine (KW.out _ (kw.trans kd)).mono ?_; rintro e w3 ⟨vn, va, vl, vc, vx, rfl, hp, k3⟩) | (go_at_call 89; refine (KQ.out _ _ _ _ _ _ ((kw.trans kd).trans k3) hp).mono ?_; rintro e w4 ⟨rfl, k4⟩))
  go_wp2_with fail
  go_ret
  exact ⟨rfl, ((kw.trans kd).trans k3).trans k4⟩
 ·go_enter Tryz.func47, Tryz.ntmps47
  go_wp2_with fail
  rw [← hX]
  refine (KS.out _).mono ?_
  rintro e w1 ⟨rfl, k1⟩
  go_wp2_with fail
  go_ret
  exact ⟨rfl, hK.trans k1⟩
theorem getD_apr (A B : List Int) (k j : Nat) (h : A.length + j = k) : (A ++ B).getD k 0 = B.getD j 0 := by
 rw [List.getD_eq_getElem?_getD, List.getElem?_append_right (by omega), show k - A.length = j by omega, List.getD_eq_getElem?_getD]
theorem lent_any (L : List Int) (hlen : L.length < 10000000) (ao : Option Addr) (c : Nat) (w : World) (h : Sl w (.slice ao L.length c) L) : Calls Tryz.prog 48 #[.slice ao L.length c] w fun e w' => (∃ g cap, e = .returned (.slice (some ⟨g, 0, none⟩) (L.length + 3) cap) ∧ w.heap.size ≤ g ∧ Own w' g cap (L ++ [-71, -72, -73])) ∧ Kept w w' := by
 obtain ⟨v1, w1, hr1, k1, hrow⟩ := app_nil L (by omega) _ w h
 have k2 : Kept w1 (w1.alloc (.cells #[.int .i64 (-71), .int .i64 (-72), .int .i64 (-73)] 3)) := (Kept.refl w1).alloc _ _
 have hR : Rw (w1.alloc (.cells #[.int .i64 (-71), .int .i64 (-72), .int .i64 (-73)] 3)) v1 3 (L.map (Value.int .i64)) := by
  rcases hrow with ⟨rfl, rfl⟩ | ⟨g, cap, rfl, hg, hO⟩
  ·exact .inl ⟨rfl, rfl⟩
  ·exact .inr ⟨g, cap, by rw [List.length_map], own_v.1 (hO.kept k2)⟩
 obtain ⟨g, cap, w2, hr2, hO2, hk2⟩ := app_gen 22 3 li_under (.int .i64 0) 8 int_info (by simp [Value.cells]) (by omega) _ v1 (L.map (Value.int .i64)) [.int .i64 (-71), .int .i64 (-72), .int .i64 (-73)] hR ⟨w1.heap.size, 0, none⟩ 3 3 rfl (fun j u hj => by
  rw [Addr.add_lit, Nat.zero_add]
  rcases j with _ | _ | _ | j
  ·cases hj; simp [go_sem]
  ·cases hj; simp [go_sem]
  ·cases hj; simp [go_sem]
  ·simp at hj) (fun u hu => by simp at hu; rcases hu with rfl | rfl | rfl <;> rfl) (by omega) (by rw [List.length_map]; omega)
 rw [List.length_map] at hr2 hk2
 have hfin : (w.heap.size ≤ g ∧ Own w2 g cap (L ++ [-71, -72, -73])) ∧ Kept w w2 := by
  have hs1 := k1.below.size
  refine ⟨⟨?_, own_v.2 (by simpa using hO2)⟩, ?_⟩
  ·rcases hk2 with ⟨rfl, -⟩ | ⟨e, -⟩
   ·simp; omega
   ·rcases hrow with ⟨-, rfl⟩ | ⟨g', cap', rfl, hg, -⟩
    ·cases e
    ·cases e; exact hg
  ·rcases hk2 with ⟨-, k⟩ | ⟨e, k⟩
   ·exact (k1.trans k2).trans k
   ·rcases hrow with ⟨-, rfl⟩ | ⟨g', cap', rfl, hg, -⟩
    ·cases e
    ·cases e; exact (k1.trans k2).grw hg k
 have H1 : Hid (∀ ty, (Builtin.append_ #[22, 22] ty #[.slice none 0 0, .slice ao L.length c]).run Tryz.prog w = .ok v1 w1) := hr1
 have H2 : Hid (∀ ty, (Builtin.append_ #[22, 22] ty #[v1, .slice (some ⟨w1.heap.size, 0, none⟩) 3 3]).run Tryz.prog (w1.alloc (.cells #[.int .i64 (-71), .int .i64 (-72), .int .i64 (-73)] 3)) = .ok (.slice (some ⟨g, 0, none⟩) (L.length + 3) cap) w2) := hr2
 clear hr1 hr2 hrow hR hO2 hk2 h
 generalize L.length = n at *
 go_enter Tryz.func48, Tryz.ntmps48
 go_wp2_with (first | (at_builtin; refine wpList_append_run rfl _ _ _ rfl _ _ rfl rfl _ _ (H1.out _) ?_) | (at_builtin; refine wpList_append_run rfl _ _ _ rfl _ _ rfl rfl _ _ (H2.out _) ?_))
 go_ret
 exact ⟨⟨_, _, rfl, hfin.1⟩, hfin.2⟩
theorem lentNum_any (neg : Bool) (x : Int) (L : List Int) (hlen : L.length < 10000000) (ao : Option Addr) (c : Nat) (w : World) (h : Sl w (.slice ao L.length c) L) : Calls Tryz.prog 37 #[.agg #[.bool neg, .slice ao L.length c, .int .i64 x]] w fun e w' => (∃ g cap, e = .returned (.tuple #[.slice (some ⟨g, 0, none⟩) (L.length + 3) cap, .agg #[.bool neg, .slice (some ⟨g, 0, none⟩) L.length cap, .int .i64 x]]) ∧ w.heap.size ≤ g ∧ Own w' g cap (L ++ [-71, -72, -73])) ∧ Kept w w' := by
 have hW : Kept w ((w.alloc (.cells #[.bool neg, .slice ao L.length c, .int .i64 x] 24)).alloc nilNum) := ((Kept.refl w).alloc _ _).alloc _ _
 have KL : Hid (Calls Tryz.prog 48 #[.slice ao L.length c] ((w.alloc (.cells #[.bool neg, .slice ao L.length c, .int .i64 x] 24)).alloc nilNum) fun e w' => (∃ g cap, e = .returned (.slice (some ⟨g, 0, none⟩) (L.length + 3) cap) ∧ ((w.alloc (.cells #[.bool neg, .slice ao L.length c, .int .i64 x] 24)).alloc nilNum).heap.size ≤ g ∧ L.length ≤ cap ∧ Own w' g cap (L ++ [-71, -72, -73])) ∧ Kept ((w.alloc (.cells #[.bool neg, .slice ao L.length c, .int .i64 x] 24)).alloc nilNum) w') := by
  refine (lent_any L hlen ao c _ (h.kept hW)).mono ?_
  rintro e w1 ⟨⟨g, cap, rfl, hg, hO⟩, k1⟩
  exact ⟨⟨g, cap, rfl, hg, (by obtain ⟨_, _, h1, _⟩ := hO; simp at h1; omega), hO⟩, k1⟩
 generalize hM : L ++ [-71, -72, -73] = M at *
 generalize L.length = n at *
 go_enter Tryz.func37, Tryz.ntmps37
 go_wp2_with (first | (go_at_call 48; refine KL.out.mono ?_; rintro e w1 ⟨⟨g, cap, rfl, hg, hcap, hO⟩, hk1⟩; simp only [World.size_alloc] at hg; obtain ⟨f0, f1, f2, f3⟩ := res_cells (w.heap.size + 1) (by simp <;> omega) hk1 (by simp [go_sem]) (by simp [go_sem]) (by simp [go_sem]) (fun o => by simp [go_sem]); have b0 := (hk1.below.cell (p := ⟨w.heap.size, 0, none⟩) (by simp; omega)).trans (show _ = some (Value.bool neg) by simp [go_sem]); have b1 := (hk1.below.cell (p := ⟨w.heap.size, 1, none⟩) (by simp; omega)).trans (show _ = some (Value.slice ao n c) by simp [go_sem]); have b2 := (hk1.below.cell (p := ⟨w.heap.size, 2, none⟩) (by simp; omega)).trans (show _ = some (Value.int .i64 x) by simp [go_sem])))
 have kB0 : Kept (w.alloc (.cells #[.bool neg, .slice ao n c, .int .i64 x] 24)) ((w.alloc (.cells #[.bool neg, .slice ao n c, .int .i64 x] 24)).alloc nilNum) := (Kept.refl _).alloc _ _
 have HS : Hid (∀ u, Kept (w.alloc (.cells #[.bool neg, .slice ao n c, .int .i64 x] 24)) u → Kept w u ∧ u.cell? ⟨w.heap.size, 0, none⟩ = some (.bool neg) ∧ u.cell? ⟨w.heap.size, 1, none⟩ = some (.slice ao n c) ∧ u.cell? ⟨w.heap.size, 2, none⟩ = some (.int .i64 x)) := fun u k => ⟨((Kept.refl w).alloc _ _).trans k, (laid_cell k 0).trans (by simp [go_sem]), (laid_cell k 1).trans (by simp [go_sem]), (laid_cell k 2).trans (by simp [go_sem])⟩
 clear b0 b1 b2
 go_region_held (fun u => Kept w u ∧ u.cell? ⟨w.heap.size, 0, none⟩ = some (.bool neg) ∧ u.cell? ⟨w.heap.size, 1, none⟩ = some (.slice ao n c) ∧ u.cell? ⟨w.heap.size, 2, none⟩ = some (.int .i64 x)) (first | exact HS.out _ (kB0.trans hk1.drew) | assumption | exact HS.out _ (res_kept (w.heap.size + 1) (by simp) kB0 hk1.drew _ _ _)) (fail)
 all_goals
  go_wp2
  exact bodyPost_ret (v := .tuple #[.slice (some ⟨g, 0, none⟩) (n + 3) cap, .agg #[.bool neg, .slice (some ⟨g, 0, none⟩) n cap, .int .i64 x]]) (by simp [results, Tryz.results37, go_sem, f0, f1, f2]) rfl ⟨⟨g, cap, rfl, by omega, (((hO.kept (Kept.refl _).drew).setOther (by simp; omega) _).setOther (by simp; omega) _).setOther (by simp; omega) _⟩, res_kept (w.heap.size + 1) (by omega) hW hk1.drew _ _ _⟩
theorem back_any (L : List Int) (hlen : L.length < 10000000) (v : Value) (g cap : Nat) (w : World) (h : Sl w v L) (ho : Own w g cap (L ++ [-71, -72, -73])) : Calls Tryz.prog 29 #[.slice (some ⟨g, 0, none⟩) (L.length + 3) cap, v] w fun e w' => e = .returned (.bool true) ∧ Grw g w w' := by
 have hcap : L.length + 3 ≤ cap := by obtain ⟨_, _, h1, _⟩ := ho; simpa using h1
 have KS : Hid (Calls Tryz.prog 36 #[.slice (some ⟨g, 0, none⟩) L.length cap, v] w fun e w' => e = .returned (.bool true) ∧ Kept w w') := by
  have := ho.slTake L.length (by simp)
  rw [List.take_left'  rfl] at this
  exact same_true L (by omega) _ _ w this h
 have HO : Hid (∀ u, Kept w u → Own u g cap (L ++ [-71, -72, -73])) := fun u k => ho.kept k
 have HC : Hid (∀ u, Kept w u → u.cell? ⟨g, L.length, none⟩ = some (.int .i64 (-71)) ∧ u.cell? ⟨g, L.length + 1, none⟩ = some (.int .i64 (-72)) ∧ u.cell? ⟨g, L.length + 2, none⟩ = some (.int .i64 (-73))) := fun u k => by
  have hq := ho.kept k
  refine ⟨?_, ?_, ?_⟩
  ·have := hq.cell L.length (by simp)
   rw [getD_apr L _ _ 0 (by omega)] at this
   exact this
  ·have := hq.cell (L.length + 1) (by simp)
   rw [getD_apr L _ _ 1 (by omega)] at this
   exact this
  ·have := hq.cell (L.length + 2) (by simp)
   rw [getD_apr L _ _ 2 (by omega)] at this
   exact this
 have HL : Hid ((L ++ [-71, -72, -73]).length = L.length + 3) := by simp [Hid]
 obtain ⟨ao, cp, rfl, -, -, -⟩ := h
 generalize hM : L ++ [-71, -72, -73] = M at *
 clear hM ho
 generalize L.length = n at *
 go_enter Tryz.func29, Tryz.ntmps29
 go_wp2_with (first | (go_at_call 36; refine KS.out.mono ?_; rintro e w1 ⟨rfl, k1⟩; obtain ⟨q0, q1, q2⟩ := HC.out _ k1))
 go_loopw [7] (fun i wr => ∃ (k : Nat) (M' : List Int), k ≤ n + 3 ∧ i = .int .i64 k ∧ M'.length = n + 3 ∧ Own wr g cap M' ∧ Grw g w wr) (fun i _ => n + 3 - (intOf i).toNat)
 case atStart => exact ⟨0, M, by omega, rfl, HL.out, HO.out _ k1, k1.toGrw g⟩
 case round =>
  obtain ⟨k, M', hk, rfl, hM', hO, hG⟩ := hrel
  have HO2 : Hid (Own wr g cap M') := hO
  by_cases hkn : k < n + 3
  ·have hcell := hO.cell k (by omega)
   have hfree := hO.free k
   clear hO
   go_wp2
   go_roundw
   case rel => exact ⟨k + 1, M'.set k (-9), by omega, by go_num, by rw [List.length_set]; exact hM', HO2.out.set k (-9), hG.setCell _ _⟩
   case measure => simp [intOf]; omega
  ·obtain rfl : k = n + 3 := by omega
   go_wp2
   go_ret
   exact ⟨rfl, hG⟩
end Go.Proofs.YtdpccifhhencgaaGreatDoor
