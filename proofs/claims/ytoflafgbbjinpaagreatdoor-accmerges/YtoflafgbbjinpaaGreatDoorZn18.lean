/- acc's Total and Products: what is added, one after the other, and told. acc's Sum, Dot, Merge, AddProduct, Add, by what they ask. -/
import Derived.Test.YtoflafgbbjinpaaGreatDoorZn17
import Derived.Deep.WholeRow
namespace Go.Proofs.YtoflafgbbjinpaaGreatDoor
open Go.ChangeShapes Go.WideShapes Go.ChangeAt Go.RowKit
set_option linter.unusedVariables false
set_option linter.unusedSimpArgs false
set_option maxHeartbeats 16000000
set_option maxRecDepth 100000
theorem mk_store (n : Int) (u : World) : (storeCells ⟨u.heap.size, 0, none⟩ (mkC acc0 n C0 141 0).toArray.toList 0).run Tryz.prog (u.alloc (.cells Tryz.zeroCells100 100)) = .ok () (u.alloc (.cells (mkC acc0 n C0 141 0).toArray 100)) := by
 have hz : Tryz.zeroCells100.size = 150 := by rfl
 have hin : (Tryz.prog.info? 100).map (·.size) = some 150 := by kernel_rfl
 have hs : (mkC acc0 n C0 141 0).toArray.size = 150 := by simpa using mk_size acc0 n C0 141 0 rfl rfl
 refine run_storeCells_new u 100 _ _ (by rw [hs]; exact hin) (by rw [hz, hs]) ?_
 rw [Array.all_eq_true_iff_forall_mem]
 intro v hv
 exact mk_one acc0 n C0 141 0 (by decide) v (by simpa using hv)
theorem acc_res {w B : World} (hB : B = w.alloc (.cells #[.bool false, .slice none 0 0, .int .i64 0, .bool false, .bool false, .bool false] 26)) (u : World) (k : Kept B u) : u.cell? ⟨w.heap.size, 0, none⟩ = some (.bool false) ∧ u.cell? ⟨w.heap.size, 1, none⟩ = some (.slice none 0 0) ∧ u.cell? ⟨w.heap.size, 2, none⟩ = some (.int .i64 0) ∧ u.cell? ⟨w.heap.size, 3, none⟩ = some (.bool false) ∧ u.cell? ⟨w.heap.size, 4, none⟩ = some (.bool false) ∧ u.cell? ⟨w.heap.size, 5, none⟩ = some (.bool false) ∧ ∀ o, u.frozen? ⟨w.heap.size, o, none⟩ = false := by
 obtain ⟨c0, c1, c2, c3, c4, c5⟩ := acc_cells _ _ _ _ _ _ hB u k
 exact ⟨c0, c1, c2, c3, c4, c5, fun o => (k.frozen _).trans (by rw [hB]; simp [go_sem])⟩
theorem sl_cell {w : World} {a : Option Addr} {c : Nat} {L : List Int} (h : Sl w (.slice a L.length c) L) (u : World) (k : Kept w u) (i : Nat) (hi : i < L.length) : ∃ b off, a = some ⟨b, off, none⟩ ∧ u.cell? ⟨b, off + i, none⟩ = some (.int .i64 (L.getD i 0)) := by
 obtain ⟨po, c2, e, -, -, hr⟩ := h
 obtain ⟨b, off, rfl, hb, hr⟩ := hr (by intro g; rw [g] at hi; simp at hi)
 cases e
 exact ⟨b, off, rfl, (hr.kept hb k) i hi⟩
theorem new_six {w u w5 : World} {v : Value} {r : Nm} (hN : New u w5 v r) (hlt : w.heap.size < u.heap.size) (v0 v1 v2 v3 v4 v5 : Value) : New w ((((((w5.setCell ⟨w.heap.size, 0, none⟩ v0).setCell ⟨w.heap.size, 1, none⟩ v1).setCell ⟨w.heap.size, 2, none⟩ v2).setCell ⟨w.heap.size, 3, none⟩ v3).setCell ⟨w.heap.size, 4, none⟩ v4).setCell ⟨w.heap.size, 5, none⟩ v5) v r := by
 rcases hN with h | ⟨g, cap, e, hg, ho, hne⟩
 ·exact .inl h
 ·have hgw : g ≠ w.heap.size := by omega
  exact .inr ⟨g, cap, e, by omega, (((((ho.setOther (by simpa using hgw) _).setOther (by simpa using hgw) _).setOther (by simpa using hgw) _).setOther (by simpa using hgw) _).setOther (by simpa using hgw) _).setOther (by simpa using hgw) _, hne⟩
theorem kept_six {w w5 : World} (k : Kept w w5) (v0 v1 v2 v3 v4 v5 : Value) : Kept w ((((((w5.setCell ⟨w.heap.size, 0, none⟩ v0).setCell ⟨w.heap.size, 1, none⟩ v1).setCell ⟨w.heap.size, 2, none⟩ v2).setCell ⟨w.heap.size, 3, none⟩ v3).setCell ⟨w.heap.size, 4, none⟩ v4).setCell ⟨w.heap.size, 5, none⟩ v5) :=
 (((((k.setCell (p := ⟨w.heap.size, 0, none⟩) (Nat.le_refl _) v0).setCell (p := ⟨w.heap.size, 1, none⟩) (Nat.le_refl _) v1).setCell (p := ⟨w.heap.size, 2, none⟩) (Nat.le_refl _) v2).setCell (p := ⟨w.heap.size, 3, none⟩) (Nat.le_refl _) v3).setCell (p := ⟨w.heap.size, 4, none⟩) (Nat.le_refl _) v4).setCell (p := ⟨w.heap.size, 5, none⟩) (Nat.le_refl _) v5
theorem products_ok (n : Int) (X Y : List Int) (hY : Y.length = X.length) (hN : X.length ≤ 65536) (a1 a2 : Option Addr) (c1 c2 : Nat) (w : World) (h1 : Sl w (.slice a1 X.length c1) X) (h2 : Sl w (.slice a2 Y.length c2) Y) (Φ : Nat → List Value → List Int → Int → Int → Prop) (r : Nm) (p m z : Bool)
  (K0 : Φ 0 acc0 C0 141 0)
  (KL : Hid (∀ q u, Kept w u → q < u.heap.size → u.cell? ⟨q, 0, none⟩ = some (.slice a1 X.length c1) → u.cell? ⟨q, 1, none⟩ = some (.slice a2 X.length c2) → Calls Tryz.prog 132 #[.int .i64 n, .slice (some ⟨q, 0, none⟩) 2 2] u fun e w' => e = .returned (.int .i64 0) ∧ Kept u w'))
  (KA : Hid (∀ b i u fl C lo hi, i < X.length → MkAt u b fl n C lo hi → Φ i fl C lo hi → Calls Tryz.prog 69 #[.pointer (some ⟨b, 0, none⟩), .int .i64 (X.getD i 0), .int .i64 (Y.getD i 0)] u fun e w' => e = .returned (.tuple #[]) ∧ (∃ fl' C' lo' hi', MkAt w' b fl' n C' lo' hi' ∧ Φ (i + 1) fl' C' lo' hi') ∧ Grw b u w'))
  (KT : Hid (∀ b u fl C lo hi, Kept w u → MkAt u b fl n C lo hi → Φ X.length fl C lo hi → Calls Tryz.prog 70 #[.pointer (some ⟨b, 0, none⟩)] u fun e w' => ∃ vn va vl vc vx, e = .returned (accV vn (.slice va vl vc) vx p m z) ∧ New u w' (.agg #[.bool vn, .slice va vl vc, .int .i64 vx]) r ∧ Grw b u w')) :
  Calls Tryz.prog 88 #[.slice a1 X.length c1, .slice a2 X.length c2, .int .i64 n] w fun e w' => ∃ vn va vl vc vx, e = .returned (.tuple #[accV vn (.slice va vl vc) vx p m z, .int .i64 0]) ∧ New w w' (.agg #[.bool vn, .slice va vl vc, .int .i64 vx]) r ∧ Kept w w' := by
 have HX : Hid (∀ u, Kept w u → ∀ i, i < X.length → ∃ b off, a1 = some ⟨b, off, none⟩ ∧ u.cell? ⟨b, off + i, none⟩ = some (.int .i64 (X.getD i 0))) := fun u k i hi => sl_cell h1 u k i hi
 have HY : Hid (∀ u, Kept w u → ∀ i, i < X.length → ∃ b off, a2 = some ⟨b, off, none⟩ ∧ u.cell? ⟨b, off + i, none⟩ = some (.int .i64 (Y.getD i 0))) := fun u k i hi => sl_cell h2 u k i (by omega)
 have hst := mk_store n
 obtain ⟨V, hV⟩ : ∃ V, V = (mkC acc0 n C0 141 0).toArray := ⟨_, rfl⟩
 have HM : Hid (∀ u : World, MkAt (u.alloc (.cells V 100)) u.heap.size acc0 n C0 141 0) := fun u => by rw [hV]; exact MkAt.new u acc0 n C0 141 0 rfl rfl
 have KB : Hid (∀ u, Calls Tryz.prog 68 #[.int .i64 n] u fun e w' => e = .returned (.agg V) ∧ Kept u w') := fun u => by rw [hV]; exact begin_any n u
 have hVs : V.size = 150 := by rw [hV]; simpa using mk_size acc0 n C0 141 0 rfl rfl
 rw [← hV] at hst
 clear hV h1 h2 hY
 obtain ⟨N, hn⟩ : ∃ N, N = X.length := ⟨_, rfl⟩
 rw [← hn] at HX KL KA KT hN HY ⊢
 clear hn
 go_enter Tryz.func88, Tryz.ntmps88
 go_upto_region 1 with fail
 obtain ⟨B, hB⟩ : ∃ B, B = w.alloc (.cells #[.bool false, .slice none 0 0, .int .i64 0, .bool false, .bool false, .bool false] 26) := ⟨_, rfl⟩
 have kB : Kept w B := by rw [hB]; exact (Kept.refl w).alloc _ _
 have hBs : Hid (B.heap.size = w.heap.size + 1) := by rw [hB]; simp [Hid]
 have HR : Hid (∀ u, Kept B u → _) := acc_res hB
 rw [← hB]
 clear hB
 go_wp2_with fail
 refine (KL.out _ _ (kB.alloc _ _) (by simp) (by simp [go_sem]) (by simp [go_sem])).mono ?_
 rintro e w1 ⟨rfl, k1⟩
 have kB1 : Kept B w1 := ((Kept.refl B).alloc _ _).trans k1
 clear k1 KL
 go_wp2_with fail
 refine (KB.out _).mono ?_
 rintro e w2 ⟨rfl, k2⟩
 have kB2 : Kept B w2 := kB1.trans k2
 clear kB1 k2 KB
 go_wp2_with fail
 obtain ⟨b, hb⟩ : ∃ b, b = w2.heap.size := ⟨_, rfl⟩
 obtain ⟨D, hD⟩ : ∃ D, D = w2.alloc (.cells V 100) := ⟨_, rfl⟩
 have kD : Kept B D := by rw [hD]; exact kB2.alloc _ _
 have hMD : MkAt D b acc0 n C0 141 0 := by rw [hD, hb]; exact HM.out _
 have hbB : B.heap.size ≤ b := by rw [hb]; exact kB2.below.size
 rw [← hD, ← hb]
 clear hD hb hst HM hVs
 go_loopw [24] (fun i wr => ∃ k : Nat, k ≤ N ∧ i = .int .i64 k ∧ Kept B wr ∧ ∃ fl C lo hi, MkAt wr b fl n C lo hi ∧ Φ k fl C lo hi) (fun i _ => N - (intOf i).toNat)
 case atStart => exact ⟨0, Nat.zero_le _, rfl, kD, acc0, C0, 141, 0, hMD, K0⟩
 case round =>
  obtain ⟨k, hk, rfl, kr, fl, C, lo, hi, hM, hΦ⟩ := hrel
  clear hMD kD K0
  by_cases hkn : k < N
  ·have HS : Hid (∀ u, Kept B u → _) := fun u ku => HX.out u (kB.trans ku) k hkn
   obtain ⟨bx, ox, rfl, hcx⟩ := HS.out _ kr
   have HS2 : Hid (∀ u, Kept B u → _) := fun u ku => HY.out u (kB.trans ku) k hkn
   obtain ⟨by', oy, rfl, hcy⟩ := HS2.out _ kr
   have HC : Hid (∀ u, Kept B u → u.cell? ⟨bx, ox + k, none⟩ = some (.int .i64 (X.getD k 0)) ∧ u.cell? ⟨by', oy + k, none⟩ = some (.int .i64 (Y.getD k 0))) := fun u ku => ⟨by obtain ⟨b1, o1, e1, h1⟩ := HS.out u ku; cases e1; exact h1, by obtain ⟨b1, o1, e1, h1⟩ := HS2.out u ku; cases e1; exact h1⟩
   have KA1 : Hid (∀ u, Kept wr u → Calls Tryz.prog 69 #[.pointer (some ⟨b, 0, none⟩), .int .i64 (X.getD k 0), .int .i64 (Y.getD k 0)] u fun e w' => e = .returned (.tuple #[]) ∧ (∃ fl' C' lo' hi', MkAt w' b fl' n C' lo' hi' ∧ Φ (k + 1) fl' C' lo' hi') ∧ Grw b u w') := fun u ku => KA.out b k u fl C lo hi hkn (hM.kept ku) hΦ
   clear HX HY HS HS2 KA KT hM hΦ HR
   generalize X.getD k 0 = xk at *
   generalize Y.getD k 0 = yk at *
   go_wp2_with fail
   have kd : Kept wr wr.drew := (Kept.refl wr).drew
   go_region_held (fun u => u.cell? ⟨bx, ox + k, none⟩ = some (.int .i64 xk) ∧ u.cell? ⟨by', oy + k, none⟩ = some (.int .i64 yk)) (first | assumption | exact HC.out _ (kr.trans kd) | exact HC.out _ ((kr.trans kd).grw hbB hg)) (first | (go_at_call 69; refine (KA1.out _ kd).mono ?_; rintro e w5 ⟨rfl, hJ, hg⟩))
   go_wp2_with fail
   go_roundw
   case rel => exact ⟨k + 1, by omega, by go_num, ((kr.trans kd).grw hbB hg), hJ⟩
   case measure => simp [intOf]; omega
  ·obtain rfl : k = N := by omega
   go_wp2_with fail
   refine (KT.out b _ fl C lo hi (kB.trans kr) hM hΦ).mono ?_
   rintro e w5 ⟨vn, va, vl, vc, vx, rfl, hNw, hg⟩
   have k5 : Kept B w5 := kr.grw hbB hg
   obtain ⟨r0, r1, r2, r3, r4, r5, r6⟩ := HR.out _ k5
   go_wp2_with fail
   refine bodyPost_ret (v := .tuple #[accV vn (.slice va vl vc) vx p m z, .int .i64 0]) (by simp [results, Tryz.results88, go_sem, r0, r1, r2, r3, r4, r5]) rfl ⟨vn, va, vl, vc, vx, rfl, ?_, ?_⟩
   ·exact new_six hNw (by have := kr.below.size; have := hBs.out; omega) _ _ _ _ _ _
   ·exact kept_six (kB.trans k5) _ _ _ _ _ _
theorem total_ok (n : Int) (X : List Int) (hN : X.length ≤ 65536) (a1 : Option Addr) (c1 : Nat) (w : World) (h1 : Sl w (.slice a1 X.length c1) X) (one : Int) (Φ : Nat → List Value → List Int → Int → Int → Prop) (r : Nm) (p m z : Bool)
  (K0 : Φ 0 acc0 C0 141 0)
  (KL : Hid (∀ q u, Kept w u → q < u.heap.size → u.cell? ⟨q, 0, none⟩ = some (.slice a1 X.length c1) → Calls Tryz.prog 132 #[.int .i64 n, .slice (some ⟨q, 0, none⟩) 1 1] u fun e w' => e = .returned (.int .i64 0) ∧ Kept u w'))
  (KF : Hid (∀ u, Calls Tryz.prog 32 #[.int .i64 1, .int .i64 n] u fun e w' => e = .returned (.int .i64 one) ∧ Kept u w'))
  (KA : Hid (∀ b i u fl C lo hi, i < X.length → MkAt u b fl n C lo hi → Φ i fl C lo hi → Calls Tryz.prog 69 #[.pointer (some ⟨b, 0, none⟩), .int .i64 (X.getD i 0), .int .i64 one] u fun e w' => e = .returned (.tuple #[]) ∧ (∃ fl' C' lo' hi', MkAt w' b fl' n C' lo' hi' ∧ Φ (i + 1) fl' C' lo' hi') ∧ Grw b u w'))
  (KT : Hid (∀ b u fl C lo hi, Kept w u → MkAt u b fl n C lo hi → Φ X.length fl C lo hi → Calls Tryz.prog 70 #[.pointer (some ⟨b, 0, none⟩)] u fun e w' => ∃ vn va vl vc vx, e = .returned (accV vn (.slice va vl vc) vx p m z) ∧ New u w' (.agg #[.bool vn, .slice va vl vc, .int .i64 vx]) r ∧ Grw b u w')) :
  Calls Tryz.prog 87 #[.slice a1 X.length c1, .int .i64 n] w fun e w' => ∃ vn va vl vc vx, e = .returned (.tuple #[accV vn (.slice va vl vc) vx p m z, .int .i64 0]) ∧ New w w' (.agg #[.bool vn, .slice va vl vc, .int .i64 vx]) r ∧ Kept w w' := by
 have HX : Hid (∀ u, Kept w u → ∀ i, i < X.length → ∃ b off, a1 = some ⟨b, off, none⟩ ∧ u.cell? ⟨b, off + i, none⟩ = some (.int .i64 (X.getD i 0))) := fun u k i hi => sl_cell h1 u k i hi
 have hst := mk_store n
 obtain ⟨V, hV⟩ : ∃ V, V = (mkC acc0 n C0 141 0).toArray := ⟨_, rfl⟩
 have HM : Hid (∀ u : World, MkAt (u.alloc (.cells V 100)) u.heap.size acc0 n C0 141 0) := fun u => by rw [hV]; exact MkAt.new u acc0 n C0 141 0 rfl rfl
 have KB : Hid (∀ u, Calls Tryz.prog 68 #[.int .i64 n] u fun e w' => e = .returned (.agg V) ∧ Kept u w') := fun u => by rw [hV]; exact begin_any n u
 have hVs : V.size = 150 := by rw [hV]; simpa using mk_size acc0 n C0 141 0 rfl rfl
 rw [← hV] at hst
 clear hV h1
 obtain ⟨N, hn⟩ : ∃ N, N = X.length := ⟨_, rfl⟩
 rw [← hn] at HX KL KA KT hN ⊢
 clear hn
 go_enter Tryz.func87, Tryz.ntmps87
 go_upto_region 1 with fail
 obtain ⟨B, hB⟩ : ∃ B, B = w.alloc (.cells #[.bool false, .slice none 0 0, .int .i64 0, .bool false, .bool false, .bool false] 26) := ⟨_, rfl⟩
 have kB : Kept w B := by rw [hB]; exact (Kept.refl w).alloc _ _
 have hBs : Hid (B.heap.size = w.heap.size + 1) := by rw [hB]; simp [Hid]
 have HR : Hid (∀ u, Kept B u → _) := acc_res hB
 rw [← hB]
 clear hB
 go_wp2_with fail
 refine (KL.out _ _ (kB.alloc _ _) (by simp) (by simp [go_sem]) ).mono ?_
 rintro e w1 ⟨rfl, k1⟩
 have kB1 : Kept B w1 := ((Kept.refl B).alloc _ _).trans k1
 clear k1 KL
 go_wp2_with fail
 refine (KB.out _).mono ?_
 rintro e w2 ⟨rfl, k2⟩
 have kB2 : Kept B w2 := kB1.trans k2
 clear kB1 k2 KB
 go_wp2_with fail
 refine (KF.out _).mono ?_
 rintro e w3 ⟨rfl, k3⟩
 have kB3 : Kept B w3 := kB2.trans k3
 clear k3 kB2 KF
 go_wp2_with fail
 obtain ⟨b, hb⟩ : ∃ b, b = w3.heap.size := ⟨_, rfl⟩
 obtain ⟨D, hD⟩ : ∃ D, D = w3.alloc (.cells V 100) := ⟨_, rfl⟩
 have kD : Kept B D := by rw [hD]; exact kB3.alloc _ _
 have hMD : MkAt D b acc0 n C0 141 0 := by rw [hD, hb]; exact HM.out _
 have hbB : B.heap.size ≤ b := by rw [hb]; exact kB3.below.size
 rw [← hD, ← hb]
 clear hD hb hst HM hVs
 go_loopw [24] (fun i wr => ∃ k : Nat, k ≤ N ∧ i = .int .i64 k ∧ Kept B wr ∧ ∃ fl C lo hi, MkAt wr b fl n C lo hi ∧ Φ k fl C lo hi) (fun i _ => N - (intOf i).toNat)
 case atStart => exact ⟨0, Nat.zero_le _, rfl, kD, acc0, C0, 141, 0, hMD, K0⟩
 case round =>
  obtain ⟨k, hk, rfl, kr, fl, C, lo, hi, hM, hΦ⟩ := hrel
  clear hMD kD K0
  by_cases hkn : k < N
  ·have HS : Hid (∀ u, Kept B u → _) := fun u ku => HX.out u (kB.trans ku) k hkn
   obtain ⟨bx, ox, rfl, hcx⟩ := HS.out _ kr
   have KA1 : Hid (∀ u, Kept wr u → Calls Tryz.prog 69 #[.pointer (some ⟨b, 0, none⟩), .int .i64 (X.getD k 0), .int .i64 one] u fun e w' => e = .returned (.tuple #[]) ∧ (∃ fl' C' lo' hi', MkAt w' b fl' n C' lo' hi' ∧ Φ (k + 1) fl' C' lo' hi') ∧ Grw b u w') := fun u ku => KA.out b k u fl C lo hi hkn (hM.kept ku) hΦ
   clear HX HS KA KT hM hΦ HR
   generalize X.getD k 0 = xk at *
   go_wp2_with fail
   refine (KA1.out _ (Kept.refl _)).mono ?_
   rintro e w5 ⟨rfl, hJ, hg⟩
   go_wp2_with fail
   go_roundw
   case rel => exact ⟨k + 1, by omega, by go_num, (kr.grw hbB hg), hJ⟩
   case measure => simp [intOf]; omega
  ·obtain rfl : k = N := by omega
   go_wp2_with fail
   refine (KT.out b _ fl C lo hi (kB.trans kr) hM hΦ).mono ?_
   rintro e w5 ⟨vn, va, vl, vc, vx, rfl, hNw, hg⟩
   have k5 : Kept B w5 := kr.grw hbB hg
   obtain ⟨r0, r1, r2, r3, r4, r5, r6⟩ := HR.out _ k5
   go_wp2_with fail
   refine bodyPost_ret (v := .tuple #[accV vn (.slice va vl vc) vx p m z, .int .i64 0]) (by simp [results, Tryz.results87, go_sem, r0, r1, r2, r3, r4, r5]) rfl ⟨vn, va, vl, vc, vx, rfl, ?_, ?_⟩
   ·exact new_six hNw (by have := kr.below.size; have := hBs.out; omega) _ _ _ _ _ _
   ·exact kept_six (kB.trans k5) _ _ _ _ _ _
theorem New.parts {w w' : World} {vn : Bool} {va : Option Addr} {vl vc : Nat} {vx : Int} {r : Nm} (h : New w w' (.agg #[.bool vn, .slice va vl vc, .int .i64 vx]) r) : vn = r.neg ∧ vl = r.mag.length ∧ vx = r.exp ∧ (va = none → vc = 0) ∧ Sl w' (.slice va vl vc) r.mag := by
 have hs := h.numAt
 obtain ⟨s, e, hsl⟩ := hs
 simp only [Value.agg.injEq, Array.mk.injEq, List.cons.injEq, Value.bool.injEq, Value.int.injEq, true_and, and_true] at e
 obtain ⟨e1, rfl, e3⟩ := e
 have hl : vl = r.mag.length := by
  obtain ⟨ao, cap, e, -⟩ := hsl
  injection e
 refine ⟨e1, hl, e3, ?_, hsl⟩
 rcases h with ⟨rfl, e⟩ | ⟨g, cap, e, hg, ho, hne⟩
 ·intro _
  simp only [zeroNum, Value.agg.injEq, Array.mk.injEq, List.cons.injEq, Value.slice.injEq] at e
  exact e.2.1.2.2
 ·intro g
  subst g
  simp at e
theorem asum_ok (n : Int) (a1 : Option Addr) (N c1 : Nat) (w : World) (r : Nm) (p m z : Bool) (bv er : Int)
  (KT : Hid (Calls Tryz.prog 87 #[.slice a1 N c1, .int .i64 n] w fun e w' => ∃ vn va vl vc vx, e = .returned (.tuple #[accV vn (.slice va vl vc) vx p m z, .int .i64 0]) ∧ New w w' (.agg #[.bool vn, .slice va vl vc, .int .i64 vx]) r ∧ Kept w w'))
  (KR : Hid (∀ u (vn : Bool) va vl vc vx, Kept w u → vn = r.neg → vl = r.mag.length → vx = r.exp → (va = none → vc = 0) → Sl u (.slice va vl vc) r.mag → Calls Tryz.prog 20 #[accV vn (.slice va vl vc) vx p m z, .int .i64 n] u fun e w' => e = .returned (.tuple #[.int .i64 bv, .int .i64 er]) ∧ Kept u w')) :
  Calls Tryz.prog 35 #[.slice a1 N c1, .int .i64 n] w fun e w' => e = .returned (.tuple #[.int .i64 bv, .int .i64 er]) ∧ Kept w w' := by
 go_enter Tryz.func35, Tryz.ntmps35
 go_wp2_with fail
 refine KT.out.mono ?_
 rintro e w1 ⟨vn, va, vl, vc, vx, rfl, hN, k1⟩
 obtain ⟨e1, e2, e3, e4, hs⟩ := hN.parts
 have KR1 : Hid (∀ u, Kept w1 u → Calls Tryz.prog 20 #[accV vn (.slice va vl vc) vx p m z, .int .i64 n] u fun e w' => e = .returned (.tuple #[.int .i64 bv, .int .i64 er]) ∧ Kept u w') := fun u k => KR.out u vn va vl vc vx (k1.trans k) e1 e2 e3 e4 (hs.kept k)
 clear KR KT hN e1 e2 e3 e4 hs
 go_wp2_with fail
 refine (KR1.out _ ((Kept.refl w1).alloc _ _)).mono ?_
 rintro e w2 ⟨rfl, k2⟩
 go_wp2_with fail
 exact bodyPost_ret (v := .tuple #[.int .i64 bv, .int .i64 er]) (by simp [results, Tryz.results35, go_sem]) rfl ⟨rfl, k1.trans (((Kept.refl w1).alloc _ _).trans k2)⟩
theorem adot_ok (n : Int) (a1 a2 : Option Addr) (N c1 M c2 : Nat) (w : World) (r : Nm) (p m z : Bool) (bv er : Int)
  (KT : Hid (Calls Tryz.prog 88 #[.slice a1 N c1, .slice a2 M c2, .int .i64 n] w fun e w' => ∃ vn va vl vc vx, e = .returned (.tuple #[accV vn (.slice va vl vc) vx p m z, .int .i64 0]) ∧ New w w' (.agg #[.bool vn, .slice va vl vc, .int .i64 vx]) r ∧ Kept w w'))
  (KR : Hid (∀ u (vn : Bool) va vl vc vx, Kept w u → vn = r.neg → vl = r.mag.length → vx = r.exp → (va = none → vc = 0) → Sl u (.slice va vl vc) r.mag → Calls Tryz.prog 20 #[accV vn (.slice va vl vc) vx p m z, .int .i64 n] u fun e w' => e = .returned (.tuple #[.int .i64 bv, .int .i64 er]) ∧ Kept u w')) :
  Calls Tryz.prog 36 #[.slice a1 N c1, .slice a2 M c2, .int .i64 n] w fun e w' => e = .returned (.tuple #[.int .i64 bv, .int .i64 er]) ∧ Kept w w' := by
 go_enter Tryz.func36, Tryz.ntmps36
 go_wp2_with fail
 refine KT.out.mono ?_
 rintro e w1 ⟨vn, va, vl, vc, vx, rfl, hN, k1⟩
 obtain ⟨e1, e2, e3, e4, hs⟩ := hN.parts
 have KR1 : Hid (∀ u, Kept w1 u → Calls Tryz.prog 20 #[accV vn (.slice va vl vc) vx p m z, .int .i64 n] u fun e w' => e = .returned (.tuple #[.int .i64 bv, .int .i64 er]) ∧ Kept u w') := fun u k => KR.out u vn va vl vc vx (k1.trans k) e1 e2 e3 e4 (hs.kept k)
 clear KR KT hN e1 e2 e3 e4 hs
 go_wp2_with fail
 refine (KR1.out _ ((Kept.refl w1).alloc _ _)).mono ?_
 rintro e w2 ⟨rfl, k2⟩
 go_wp2_with fail
 exact bodyPost_ret (v := .tuple #[.int .i64 bv, .int .i64 er]) (by simp [results, Tryz.results36, go_sem]) rfl ⟨rfl, k1.trans (((Kept.refl w1).alloc _ _).trans k2)⟩
theorem merge_ok (n1 : Bool) (a1 : Option Addr) (l1 c1 : Nat) (x1 : Int) (p1 m1 z1 : Bool) (n2 : Bool) (a2 : Option Addr) (l2 c2 : Nat) (x2 : Int) (p2 m2 z2 : Bool) (w : World) (r : Nm)
  (KA : Hid (∀ u, Kept w u → Calls Tryz.prog 18 #[.agg #[.bool n1, .slice a1 l1 c1, .int .i64 x1], .agg #[.bool n2, .slice a2 l2 c2, .int .i64 x2]] u fun e w' => ∃ v, e = .returned (.tuple #[v, .int .i64 0]) ∧ New u w' v r ∧ Kept u w')) :
  Calls Tryz.prog 29 #[accV n1 (.slice a1 l1 c1) x1 p1 m1 z1, accV n2 (.slice a2 l2 c2) x2 p2 m2 z2] w fun e w' => ∃ vn va vl vc vx, e = .returned (.tuple #[accV vn (.slice va vl vc) vx (p1 || p2) (m1 || m2) (z1 || z2), .int .i64 0]) ∧ New w w' (.agg #[.bool vn, .slice va vl vc, .int .i64 vx]) r ∧ Kept w w' := by
 obtain ⟨X, hX⟩ : ∃ X, X = ((w.alloc (.cells #[.bool n1, .slice a1 l1 c1, .int .i64 x1, .bool p1, .bool m1, .bool z1] 26)).alloc (.cells #[.bool n2, .slice a2 l2 c2, .int .i64 x2, .bool p2, .bool m2, .bool z2] 26)).alloc (.cells #[.bool false, .slice none 0 0, .int .i64 0, .bool false, .bool false, .bool false] 26) := ⟨_, rfl⟩
 have k0 : Kept w X := by rw [hX]; exact (((Kept.refl w).alloc _ _).alloc _ _).alloc _ _
 have hXs : Hid (X.heap.size = w.heap.size + 3) := by rw [hX]; simp [Hid]
 obtain ⟨B1, hB1⟩ : ∃ B, B = w.heap.size + 1 := ⟨_, rfl⟩
 obtain ⟨B2, hB2⟩ : ∃ B, B = w.heap.size + 1 + 1 := ⟨_, rfl⟩
 have H1 : Hid (∀ u, Kept X u → u.cell? ⟨w.heap.size, 3, none⟩ = some (.bool p1) ∧ u.cell? ⟨w.heap.size, 4, none⟩ = some (.bool m1) ∧ u.cell? ⟨w.heap.size, 5, none⟩ = some (.bool z1) ∧ u.cell? ⟨B1, 3, none⟩ = some (.bool p2) ∧ u.cell? ⟨B1, 4, none⟩ = some (.bool m2) ∧ u.cell? ⟨B1, 5, none⟩ = some (.bool z2)) := fun u k => by
  refine ⟨?_, ?_, ?_, ?_, ?_, ?_⟩
  all_goals exact (k.below.cell (by rw [hXs.out]; first | (simp; done) | (dsimp only; omega))).trans (by rw [hX]; first | (simp [go_sem]; done) | (rw [hB1]; simp [go_sem]))
 have HR : Hid (∀ u, Kept X u → u.cell? ⟨B2, 0, none⟩ = some (.bool false) ∧ u.cell? ⟨B2, 1, none⟩ = some (.slice none 0 0) ∧ u.cell? ⟨B2, 2, none⟩ = some (.int .i64 0) ∧ u.cell? ⟨B2, 3, none⟩ = some (.bool false) ∧ u.cell? ⟨B2, 4, none⟩ = some (.bool false) ∧ u.cell? ⟨B2, 5, none⟩ = some (.bool false) ∧ ∀ o, u.frozen? ⟨B2, o, none⟩ = false) := fun u k => by
  refine ⟨?_, ?_, ?_, ?_, ?_, ?_, fun o => ?_⟩
  iterate 6 (exact (k.below.cell (by rw [hXs.out]; dsimp only; omega)).trans (by rw [hX, hB2]; simp [go_sem]))
  exact (k.frozen _).trans (by rw [hX, hB2]; simp [go_sem])
 have HA : Hid (X.cell? ⟨w.heap.size, 0, none⟩ = some (.bool n1) ∧ X.cell? ⟨w.heap.size, 1, none⟩ = some (.slice a1 l1 c1) ∧ X.cell? ⟨w.heap.size, 2, none⟩ = some (.int .i64 x1) ∧ X.cell? ⟨B1, 0, none⟩ = some (.bool n2) ∧ X.cell? ⟨B1, 1, none⟩ = some (.slice a2 l2 c2) ∧ X.cell? ⟨B1, 2, none⟩ = some (.int .i64 x2)) := by
  rw [hX, hB1]
  refine ⟨?_, ?_, ?_, ?_, ?_, ?_⟩ <;> simp [go_sem]
 have HW : Hid (∀ (w1 u : World) (va : Option Addr) (vl vc : Nat) (vn : Bool) (vx : Int) (t : TypeId) (q : Array Value) (v0 v1 v2 v3 v4 v5 : Value), Kept X u → New X u (.agg #[.bool vn, .slice va vl vc, .int .i64 vx]) r → w1 = (((((((u.alloc (.cells q t)).setCell ⟨B2, 0, none⟩ v0).setCell ⟨B2, 1, none⟩ v1).setCell ⟨B2, 2, none⟩ v2).setCell ⟨B2, 3, none⟩ v3).setCell ⟨B2, 4, none⟩ v4).setCell ⟨B2, 5, none⟩ v5) → New w w1 (.agg #[.bool vn, .slice va vl vc, .int .i64 vx]) r ∧ Kept w w1) := fun w1 u va vl vc vn vx t q v0 v1 v2 v3 v4 v5 k hN e => by
  subst e
  have h2 : w.heap.size ≤ B2 := by omega
  refine ⟨?_, ((((((((k0.trans k).alloc q t)).setCell (p := ⟨B2, 0, none⟩) h2 v0).setCell (p := ⟨B2, 1, none⟩) h2 v1).setCell (p := ⟨B2, 2, none⟩) h2 v2).setCell (p := ⟨B2, 3, none⟩) h2 v3).setCell (p := ⟨B2, 4, none⟩) h2 v4).setCell (p := ⟨B2, 5, none⟩) h2 v5⟩
  rcases hN with h | ⟨g, cap, e, hg, ho, hne⟩
  ·exact .inl h
  ·have hgw : g ≠ B2 := by have h9 : X.heap.size = w.heap.size + 3 := hXs.out; omega
   have ho := ho.kept ((Kept.refl u).alloc q t)
   exact .inr ⟨g, cap, e, Nat.le_trans (by have h9 : X.heap.size = w.heap.size + 3 := hXs.out; omega) hg, (((((ho.setOther (by simpa using hgw) _).setOther (by simpa using hgw) _).setOther (by simpa using hgw) _).setOther (by simpa using hgw) _).setOther (by simpa using hgw) _).setOther (by simpa using hgw) _, hne⟩
 obtain ⟨P, hP⟩ : ∃ P, P = (p1 || p2) := ⟨_, rfl⟩
 obtain ⟨M, hM⟩ : ∃ P, P = (m1 || m2) := ⟨_, rfl⟩
 obtain ⟨Z, hZ⟩ : ∃ P, P = (z1 || z2) := ⟨_, rfl⟩
 have HP : Hid (P = (p1 || p2) ∧ M = (m1 || m2) ∧ Z = (z1 || z2)) := ⟨hP, hM, hZ⟩
 rw [← hP, ← hM, ← hZ]
 clear hP hM hZ
 have KA1 := KA.out X k0
 have KA2 : Hid (Calls Tryz.prog 18 #[.agg #[.bool n1, .slice a1 l1 c1, .int .i64 x1], .agg #[.bool n2, .slice a2 l2 c2, .int .i64 x2]] X fun e w' => ∃ v, e = .returned (.tuple #[v, .int .i64 0]) ∧ New X w' v r ∧ Kept X w') := KA1
 clear KA KA1
 go_enter Tryz.func29, Tryz.ntmps29
 go_upto_region 1 with fail
 rw [← hX, ← hB2, ← hB1]
 have hb2 : Hid (B2 < X.heap.size ∧ B1 < X.heap.size ∧ w.heap.size < X.heap.size) := (show _ ∧ _ ∧ _ from by rw [hXs.out]; omega)
 clear hX hB1 hB2
 obtain ⟨c0, c1', c2', d0, d1, d2⟩ := HA.out
 go_wp2_with fail
 refine KA2.out.mono ?_
 rintro e w1 ⟨v, rfl, hN, k1⟩
 obtain ⟨vn, va, vl, vc, vx, rfl⟩ := hN.shape
 clear c0 c1' c2' d0 d1 d2 HA KA2
 have HN : Hid (New X w1 (.agg #[.bool vn, .slice va vl vc, .int .i64 vx]) r) := hN
 clear hN
 obtain ⟨f1, f2, f3, f4, f5, f6⟩ := H1.out _ k1
 obtain ⟨r0, r1, r2, r3, r4, r5, r6⟩ := HR.out _ k1
 obtain ⟨g1, g2, g3, g4, g5, g6⟩ := H1.out _ (k1.alloc #[.bool vn, .slice va vl vc, .int .i64 vx] 24)
 obtain ⟨s0, s1, s2, s3, s4, s5, s6⟩ := HR.out _ (k1.alloc #[.bool vn, .slice va vl vc, .int .i64 vx] 24)
 obtain ⟨hb2, hb1, hb0⟩ := hb2.out
 have nn2 : B2 ≠ w1.heap.size := Nat.ne_of_lt (Nat.lt_of_lt_of_le hb2 k1.below.size)
 have n1' : B1 ≠ w1.heap.size := Nat.ne_of_lt (Nat.lt_of_lt_of_le hb1 k1.below.size)
 have nn0 : w.heap.size ≠ w1.heap.size := Nat.ne_of_lt (Nat.lt_of_lt_of_le hb0 k1.below.size)
 clear H1 HR
 cases p1 <;> cases m1 <;> cases z1
 all_goals
  go_wp2_with fail
  obtain ⟨e1, e2, e3⟩ := HP.out
  simp only [Bool.false_or, Bool.true_or] at e1 e2 e3
  refine bodyPost_ret (v := .tuple #[accV vn (.slice va vl vc) vx P M Z, .int .i64 0]) (by rw [e1, e2, e3]; simp [results, Tryz.results29, go_sem, r0, r1, r2, r3, r4, r5, s0, s1, s2, s3, s4, s5, nn2]) rfl ⟨vn, va, vl, vc, vx, rfl, ?_⟩
  exact HW.out _ w1 va vl vc vn vx _ _ _ _ _ _ _ _ k1 HN.out rfl
end Go.Proofs.YtoflafgbbjinpaaGreatDoor
