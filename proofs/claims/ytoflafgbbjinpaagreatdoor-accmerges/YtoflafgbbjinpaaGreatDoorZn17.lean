/- acc's Valid, and look without patterns. acc's look of patterns. acc's notFinite. acc's Round, by what it asks. acc's Mean, by what it asks. acc's lookAtLists, of one list and of two. -/
import Derived.Test.YtoflafgbbjinpaaGreatDoorZn16
namespace Go.Proofs.YtoflafgbbjinpaaGreatDoor
open Go.ChangeShapes Go.WideShapes Go.ChangeAt Go.RowKit
set_option linter.unusedVariables false
set_option linter.unusedSimpArgs false
set_option maxHeartbeats 16000000
set_option maxRecDepth 100000
abbrev accV (ng : Bool) (s : Value) (x : Int) (p m z : Bool) : Value := .agg #[.bool ng, s, .int .i64 x, .bool p, .bool m, .bool z]
theorem avalid_any (ng : Bool) (ao : Option Addr) (l cap : Nat) (x : Int) (p m z v : Bool) (w : World)
  (K : Hid (∀ u, Kept w u → Calls Tryz.prog 89 #[.agg #[.bool ng, .slice ao l cap, .int .i64 x]] u fun e w' => e = .returned (.bool v) ∧ Kept u w')) :
  Calls Tryz.prog 40 #[accV ng (.slice ao l cap) x p m z] w fun e w' => e = .returned (.bool v) ∧ Kept w w' := by
 obtain ⟨X, hX⟩ : ∃ X, X = w.alloc (.cells #[.bool ng, .slice ao l cap, .int .i64 x, .bool p, .bool m, .bool z] 26) := ⟨_, rfl⟩
 have hK : Kept w X := by rw [hX]; exact (Kept.refl w).alloc _ _
 go_enter Tryz.func40, Tryz.ntmps40
 go_wp2_with fail
 rw [← hX]
 refine (K.out _ hK).mono ?_
 rintro e w1 ⟨rfl, k1⟩
 go_wp2_with fail
 go_ret
 exact ⟨rfl, hK.trans k1⟩
def lkE (n : Int) (v : Bool) (L : List Int) : Int := if val 0 n = false then 3 else if v = false then 7 else if L.all (val · n) = true then 0 else 6
theorem look_nil (n : Int) (ng : Bool) (ao po : Option Addr) (l cap c2 : Nat) (x : Int) (p m z v : Bool) (w : World)
  (K : Hid (∀ u, Kept w u → Calls Tryz.prog 89 #[.agg #[.bool ng, .slice ao l cap, .int .i64 x]] u fun e w' => e = .returned (.bool v) ∧ Kept u w')) :
  Calls Tryz.prog 67 #[.int .i64 n, accV ng (.slice ao l cap) x p m z, .slice po 0 c2] w fun e w' => e = .returned (.int .i64 (lkE n v [])) ∧ Kept w w' := by
 obtain ⟨X, hX⟩ : ∃ X, X = w.alloc (.cells #[.bool ng, .slice ao l cap, .int .i64 x, .bool p, .bool m, .bool z] 26) := ⟨_, rfl⟩
 have hK : Kept w X := by rw [hX]; exact (Kept.refl w).alloc _ _
 have KA : Hid (Calls Tryz.prog 40 #[accV ng (.slice ao l cap) x p m z] X fun e w' => e = .returned (.bool v) ∧ Kept X w') := avalid_any ng ao l cap x p m z v X (fun u k => K.out u (hK.trans k))
 have KV : Hid (∀ u, Calls Tryz.prog 79 #[.int .i64 0, .int .i64 n] u fun e w' => e = .returned (.bool (val 0 n)) ∧ u = w') := fun u => valid_any 0 n u
 clear K
 rw [hX] at KA
 obtain ⟨q, hq⟩ : ∃ q, q = val 0 n := ⟨_, rfl⟩
 rw [← hq] at KV
 unfold lkE
 rw [← hq]
 clear hq
 cases q <;> cases v
 all_goals
  go_enter Tryz.func67, Tryz.ntmps67
  go_wp2_with (first | (go_at_call 79; refine (KV.out _).mono ?_; rintro e w1 ⟨rfl, rfl⟩) | (go_at_call 40; refine KA.out.mono ?_; rintro e w1 ⟨rfl, k1⟩))
  try (refine wp_loop_rounds 1 ?_; rw [rounds_succ]; go_wp2_with fail)
  go_ret
  first
   | exact ⟨rfl, hX ▸ hK⟩
   | exact ⟨rfl, hK.trans (by rw [hX]; exact k1)⟩
theorem all_true (n : Int) (L : List Int) (h : ∀ j, j < L.length → val (L.getD j 0) n = true) : L.all (val · n) = true := by
 rw [List.all_eq_true]
 intro d hd
 obtain ⟨i, hi, rfl⟩ := List.getElem_of_mem hd
 have := h i hi
 rwa [List.getD_eq_getElem?_getD, List.getElem?_eq_getElem hi] at this
theorem all_false (n : Int) (L : List Int) (j : Nat) (hj : j < L.length) (h : val (L.getD j 0) n = false) : L.all (val · n) = false := by
 rw [List.all_eq_false]
 refine ⟨L[j], List.getElem_mem hj, ?_⟩
 rw [List.getD_eq_getElem?_getD, List.getElem?_eq_getElem hj] at h
 simpa using h
theorem look_some (n : Int) (ng : Bool) (ao : Option Addr) (l cap b off c2 : Nat) (x : Int) (p m z v : Bool) (L : List Int) (hlen : L.length < 100000000) (w : World) (hb : b < w.heap.size) (hr : Reads w b off L)
  (K : Hid (∀ u, Kept w u → Calls Tryz.prog 89 #[.agg #[.bool ng, .slice ao l cap, .int .i64 x]] u fun e w' => e = .returned (.bool v) ∧ Kept u w')) :
  Calls Tryz.prog 67 #[.int .i64 n, accV ng (.slice ao l cap) x p m z, .slice (some ⟨b, off, none⟩) L.length c2] w fun e w' => e = .returned (.int .i64 (lkE n v L)) ∧ Kept w w' := by
 obtain ⟨X, hX⟩ : ∃ X, X = w.alloc (.cells #[.bool ng, .slice ao l cap, .int .i64 x, .bool p, .bool m, .bool z] 26) := ⟨_, rfl⟩
 have hK : Kept w X := by rw [hX]; exact (Kept.refl w).alloc _ _
 have KA : Hid (Calls Tryz.prog 40 #[accV ng (.slice ao l cap) x p m z] X fun e w' => e = .returned (.bool v) ∧ Kept X w') := avalid_any ng ao l cap x p m z v X (fun u k => K.out u (hK.trans k))
 have KV : Hid (∀ c u, Calls Tryz.prog 79 #[.int .i64 c, .int .i64 n] u fun e w' => e = .returned (.bool (val c n)) ∧ u = w') := fun c u => valid_any c n u
 have HR : Hid (∀ u, Kept w u → Reads u b off L) := fun u k => hr.kept hb k
 clear K hr
 rw [hX] at KA
 obtain ⟨q, hq⟩ : ∃ q, q = val 0 n := ⟨_, rfl⟩
 have K0 : Hid (∀ u, Calls Tryz.prog 79 #[.int .i64 0, .int .i64 n] u fun e w' => e = .returned (.bool q) ∧ u = w') := fun u => by rw [hq]; exact KV.out 0 u
 obtain ⟨R, hR⟩ : ∃ R, R = lkE n v L := ⟨_, rfl⟩
 have HA : Hid (R = if q = false then 3 else if v = false then 7 else if L.all (val · n) = true then 0 else 6) := (show _ = _ from by rw [hR, lkE, hq])
 rw [← hR]
 clear hq hR
 obtain ⟨N, hn⟩ : ∃ N, N = L.length := ⟨_, rfl⟩
 have HN : Hid (N = L.length) := hn
 rw [← hn] at hlen ⊢
 clear hn
 cases q
 ·go_enter Tryz.func67, Tryz.ntmps67
  go_wp2_with (first | (go_at_call 79; refine (K0.out _).mono ?_; rintro e w1 ⟨rfl, rfl⟩))
  go_ret
  exact ⟨by rw [HA.out]; rfl, hX ▸ hK⟩
 cases v
 ·go_enter Tryz.func67, Tryz.ntmps67
  go_wp2_with (first | (go_at_call 79; refine (K0.out _).mono ?_; rintro e w1 ⟨rfl, rfl⟩) | (go_at_call 40; refine KA.out.mono ?_; rintro e w1 ⟨rfl, k1⟩))
  go_ret
  exact ⟨by rw [HA.out]; rfl, hK.trans (by rw [hX]; exact k1)⟩
 go_enter Tryz.func67, Tryz.ntmps67
 go_wp2_with (first | (go_at_call 79; refine (K0.out _).mono ?_; rintro e w1 ⟨rfl, rfl⟩) | (go_at_call 40; refine KA.out.mono ?_; rintro e w1 ⟨rfl, k1⟩))
 have kw : Kept w w1 := hK.trans (by rw [hX]; exact k1)
 clear KA K0 hX hK k1
 have hr := HR.out _ kw
 have HR1 : Hid (Reads w1 b off L) := hr
 clear HR hr
 go_loop [19] (fun i => ∃ k : Nat, k ≤ N ∧ i = .int .i64 k ∧ ∀ j, j < k → val (L.getD j 0) n = true) (fun i => N - (intOf i).toNat)
 case atStart => exact ⟨0, Nat.zero_le _, rfl, fun j h => by omega⟩
 case round =>
  obtain ⟨k, hk, rfl, hd⟩ := hrel
  have HD : Hid (∀ j, j < k → val (L.getD j 0) n = true) := hd
  clear hd
  by_cases hkn : k < N
  ·have hcell := HR1.out k (by rw [← HN.out]; exact hkn)
   obtain ⟨d, hd⟩ : ∃ d, d = L.getD k 0 := ⟨_, rfl⟩
   have HE : Hid (d = L.getD k 0) := hd
   rw [← hd] at hcell
   clear hd
   cases hv : val d n
   ·have KD : Hid (∀ u, Calls Tryz.prog 79 #[.int .i64 d, .int .i64 n] u fun e w' => e = .returned (.bool false) ∧ u = w') := fun u => by rw [← hv]; exact KV.out d u
    go_wp2_with (first | (go_at_call 79; refine (KD.out _).mono ?_; rintro e w2 ⟨rfl, rfl⟩))
    go_ret
    exact ⟨by rw [HA.out, all_false n L k (by rw [← HN.out]; exact hkn) (by rw [← HE.out]; exact hv)]; rfl, kw⟩
   ·have KD : Hid (∀ u, Calls Tryz.prog 79 #[.int .i64 d, .int .i64 n] u fun e w' => e = .returned (.bool true) ∧ u = w') := fun u => by rw [← hv]; exact KV.out d u
    go_wp2_with (first | (go_at_call 79; refine (KD.out _).mono ?_; rintro e w2 ⟨rfl, rfl⟩))
    go_round
    case rel =>
     refine ⟨k + 1, by omega, by go_num, fun j hj => ?_⟩
     by_cases hjk : j = k
     ·subst hjk; rw [← HE.out]; exact hv
     ·exact HD.out j (by omega)
    case measure => simp [intOf]; omega
  ·go_wp2_with fail
   go_ret
   exact ⟨by rw [HA.out, all_true n L (fun j hj => HD.out j (by have := HN.out; omega))]; rfl, kw⟩
theorem look_any (n : Int) (ng : Bool) (M : List Int) (x : Int) (hM : Rg M) (hl : M.length < 100000000) (ao : Option Addr) (cap : Nat) (p m z : Bool) (L : List Int) (hlen : L.length < 100000000) (w : World) (h : Sl w (.slice ao M.length cap) M) (pats : Value) (hp : Sl w pats L) :
  Calls Tryz.prog 67 #[.int .i64 n, accV ng (.slice ao M.length cap) x p m z, pats] w fun e w' => e = .returned (.int .i64 (lkE n (vld ⟨ng, M, x⟩) L)) ∧ Kept w w' := by
 have K : Hid (∀ u, Kept w u → Calls Tryz.prog 89 #[.agg #[.bool ng, .slice ao M.length cap, .int .i64 x]] u fun e w' => e = .returned (.bool (vld ⟨ng, M, x⟩)) ∧ Kept u w') := fun u k => xvalid_any ⟨ng, M, x⟩ hM hl _ u ⟨_, rfl, h.kept k⟩
 obtain ⟨po, c2, rfl, -, -, hr⟩ := hp
 by_cases hne : L = []
 ·subst hne
  exact look_nil n ng ao po M.length cap c2 x p m z _ w K
 ·obtain ⟨b, off, rfl, hb, hr⟩ := hr hne
  exact look_some n ng ao M.length cap b off c2 x p m z _ L hlen w hb hr K
def nfE (iv nv gv : Int) (p m z : Bool) : Int × Bool := if (z || (p && m)) = true then (nv, true) else if p = true then (iv, true) else if m = true then (gv, true) else (0, false)
theorem notFinite_any (n : Int) (ng : Bool) (ao : Option Addr) (l cap : Nat) (x : Int) (p m z : Bool) (w : World) (iv nv gv : Int)
  (KI : Hid (∀ u, Calls Tryz.prog 117 #[.int .i64 9218868437227405312, .int .i64 64, .int .i64 n] u fun e w' => e = .returned (.int .i64 iv) ∧ Kept u w'))
  (KN : Hid (∀ u, Calls Tryz.prog 117 #[.int .i64 9221120237041090561, .int .i64 64, .int .i64 n] u fun e w' => e = .returned (.int .i64 nv) ∧ Kept u w'))
  (KG : Hid (∀ u, Calls Tryz.prog 25 #[.int .i64 iv, .int .i64 n] u fun e w' => e = .returned (.int .i64 gv) ∧ Kept u w')) :
  Calls Tryz.prog 71 #[accV ng (.slice ao l cap) x p m z, .int .i64 n] w fun e w' => e = .returned (.tuple #[.int .i64 (nfE iv nv gv p m z).1, .bool (nfE iv nv gv p m z).2]) ∧ Kept w w' := by
 obtain ⟨X, hX⟩ : ∃ X, X = w.alloc (.cells #[.bool ng, .slice ao l cap, .int .i64 x, .bool p, .bool m, .bool z] 26) := ⟨_, rfl⟩
 have hK : Kept w X := by rw [hX]; exact (Kept.refl w).alloc _ _
 have HC : Hid (∀ u, Kept X u → u.cell? ⟨w.heap.size, 3, none⟩ = some (.bool p) ∧ u.cell? ⟨w.heap.size, 4, none⟩ = some (.bool m) ∧ u.cell? ⟨w.heap.size, 5, none⟩ = some (.bool z)) := fun u k => by
  have hs : X.heap.size = w.heap.size + 1 := by rw [hX]; simp
  refine ⟨?_, ?_, ?_⟩
  all_goals exact (k.below.cell (by rw [hs]; simp)).trans (by rw [hX]; simp [go_sem])
 obtain ⟨R1, hR1⟩ : ∃ R, R = (nfE iv nv gv p m z).1 := ⟨_, rfl⟩
 obtain ⟨R2, hR2⟩ : ∃ R, R = (nfE iv nv gv p m z).2 := ⟨_, rfl⟩
 have HA : Hid (R1 = (nfE iv nv gv p m z).1 ∧ R2 = (nfE iv nv gv p m z).2) := ⟨hR1, hR2⟩
 rw [← hR1, ← hR2]
 clear hR1 hR2
 cases p <;> cases m <;> cases z
 all_goals
  go_enter Tryz.func71, Tryz.ntmps71
  go_wp2_with fail
  rw [← hX]
  refine (KI.out _).mono ?_
  rintro e w1 ⟨rfl, k1⟩
  obtain ⟨c1, c2, c3⟩ := HC.out _ k1
  go_wp2_with (first | (go_at_call 117; refine (KN.out _).mono ?_; rintro e w2 ⟨rfl, k2⟩) | (go_at_call 25; refine (KG.out _).mono ?_; rintro e w2 ⟨rfl, k2⟩))
  obtain ⟨e1, e2⟩ := HA.out
  refine bodyPost_ret (v := .tuple #[.int .i64 R1, .bool R2]) (by rw [e1, e2]; simp [results, Tryz.results71, go_sem, nfE]) rfl ⟨rfl, ?_⟩
  first
   | exact (hK.trans k1).trans k2
   | exact hK.trans k1
theorem acc_cells {w X : World} (ng : Bool) (s : Value) (x : Int) (p m z : Bool) (hX : X = w.alloc (.cells #[.bool ng, s, .int .i64 x, .bool p, .bool m, .bool z] 26)) (u : World) (k : Kept X u) : u.cell? ⟨w.heap.size, 0, none⟩ = some (.bool ng) ∧ u.cell? ⟨w.heap.size, 1, none⟩ = some s ∧ u.cell? ⟨w.heap.size, 2, none⟩ = some (.int .i64 x) ∧ u.cell? ⟨w.heap.size, 3, none⟩ = some (.bool p) ∧ u.cell? ⟨w.heap.size, 4, none⟩ = some (.bool m) ∧ u.cell? ⟨w.heap.size, 5, none⟩ = some (.bool z) := by
 have hs : X.heap.size = w.heap.size + 1 := by rw [hX]; simp
 refine ⟨?_, ?_, ?_, ?_, ?_, ?_⟩
 all_goals exact (k.below.cell (by rw [hs]; simp)).trans (by rw [hX]; simp [go_sem])
theorem accRound_ok (n : Int) (ng : Bool) (ao : Option Addr) (l cap : Nat) (x : Int) (p m z : Bool) (w : World) (bv : Int) (ok : Bool) (rv er : Int) (ox : Bool)
  (KL : Hid (∀ u, Kept w u → Calls Tryz.prog 67 #[.int .i64 n, accV ng (.slice ao l cap) x p m z, .slice none 0 0] u fun e w' => e = .returned (.int .i64 0) ∧ Kept u w'))
  (KF : Hid (∀ u, Kept w u → Calls Tryz.prog 71 #[accV ng (.slice ao l cap) x p m z, .int .i64 n] u fun e w' => e = .returned (.tuple #[.int .i64 bv, .bool ok]) ∧ Kept u w'))
  (KR : Hid (∀ u, Kept w u → Calls Tryz.prog 21 #[.agg #[.bool ng, .slice ao l cap, .int .i64 x], .int .i64 n, .int .i64 0] u fun e w' => e = .returned (.tuple #[.int .i64 rv, .bool ox, .int .i64 er]) ∧ Kept u w')) :
  Calls Tryz.prog 20 #[accV ng (.slice ao l cap) x p m z, .int .i64 n] w fun e w' => e = .returned (.tuple #[.int .i64 (bif ok then bv else rv), .int .i64 (bif ok then 0 else er)]) ∧ Kept w w' := by
 obtain ⟨X, hX⟩ : ∃ X, X = w.alloc (.cells #[.bool ng, .slice ao l cap, .int .i64 x, .bool p, .bool m, .bool z] 26) := ⟨_, rfl⟩
 have hK : Kept w X := by rw [hX]; exact (Kept.refl w).alloc _ _
 have HC : Hid (∀ u, Kept X u → _) := acc_cells ng (.slice ao l cap) x p m z hX
 cases ok
 all_goals
  go_enter Tryz.func20, Tryz.ntmps20
  go_wp2_with fail
  rw [← hX]
  refine (KL.out _ hK).mono ?_
  rintro e w1 ⟨rfl, k1⟩
  obtain ⟨c0, c1, c2, c3, c4, c5⟩ := HC.out _ k1
  go_wp2_with fail
  refine (KF.out _ (hK.trans k1)).mono ?_
  rintro e w2 ⟨rfl, k2⟩
  clear c0 c1 c2 c3 c4 c5
  obtain ⟨c0, c1, c2, c3, c4, c5⟩ := HC.out _ (k1.trans k2)
  go_wp2_with (first | (go_at_call 21; refine (KR.out _ ((hK.trans k1).trans k2)).mono ?_; rintro e w3 ⟨rfl, k3⟩))
  first
   | exact bodyPost_ret (v := .tuple #[.int .i64 rv, .int .i64 er]) (by simp [results, Tryz.results20, go_sem]) rfl ⟨rfl, ((hK.trans k1).trans k2).trans k3⟩
   | exact bodyPost_ret (v := .tuple #[.int .i64 bv, .int .i64 0]) (by simp [results, Tryz.results20, go_sem]) rfl ⟨rfl, (hK.trans k1).trans k2⟩
theorem accMean_ok (n c : Int) (hc : 0 < c) (ng : Bool) (ao : Option Addr) (l cap : Nat) (x : Int) (p m z : Bool) (w : World) (bv : Int) (ok : Bool) (rv er : Int) (ox : Bool) (PN : World → Bool → Option Addr → Nat → Nat → Int → Prop)
  (KL : Hid (∀ u, Kept w u → Calls Tryz.prog 67 #[.int .i64 n, accV ng (.slice ao l cap) x p m z, .slice none 0 0] u fun e w' => e = .returned (.int .i64 0) ∧ Kept u w'))
  (KF : Hid (∀ u, Kept w u → Calls Tryz.prog 71 #[accV ng (.slice ao l cap) x p m z, .int .i64 n] u fun e w' => e = .returned (.tuple #[.int .i64 bv, .bool ok]) ∧ Kept u w'))
  (KI : Hid (∀ u, Kept w u → Calls Tryz.prog 24 #[.int .i64 c] u fun e w' => ∃ vn va vl vc vx, e = .returned (.agg #[.bool vn, .slice va vl vc, .int .i64 vx]) ∧ PN w' vn va vl vc vx ∧ Kept u w'))
  (KQ : Hid (∀ u vn va vl vc vx, Kept w u → PN u vn va vl vc vx → Calls Tryz.prog 23 #[.agg #[.bool ng, .slice ao l cap, .int .i64 x], .agg #[.bool vn, .slice va vl vc, .int .i64 vx], .int .i64 n, .int .i64 0] u fun e w' => e = .returned (.tuple #[.int .i64 rv, .bool ox, .int .i64 er]) ∧ Kept u w')) :
  Calls Tryz.prog 22 #[accV ng (.slice ao l cap) x p m z, .int .i64 c, .int .i64 n] w fun e w' => e = .returned (.tuple #[.int .i64 (bif ok then bv else rv), .int .i64 (bif ok then 0 else er)]) ∧ Kept w w' := by
 obtain ⟨X, hX⟩ : ∃ X, X = w.alloc (.cells #[.bool ng, .slice ao l cap, .int .i64 x, .bool p, .bool m, .bool z] 26) := ⟨_, rfl⟩
 have hK : Kept w X := by rw [hX]; exact (Kept.refl w).alloc _ _
 have HC : Hid (∀ u, Kept X u → _) := acc_cells ng (.slice ao l cap) x p m z hX
 have hc1 : (c == 0) = false := by rw [beq_eq_false_iff_ne]; omega
 have hc2 : ¬ c < 0 := by omega
 cases ok
 all_goals
  go_enter Tryz.func22, Tryz.ntmps22
  go_wp2_with fail
  rw [← hX]
  refine (KL.out _ hK).mono ?_
  rintro e w1 ⟨rfl, k1⟩
  obtain ⟨c0, c1, c2, c3, c4, c5⟩ := HC.out _ k1
  go_wp2_with fail
  refine (KF.out _ (hK.trans k1)).mono ?_
  rintro e w2 ⟨rfl, k2⟩
  clear c0 c1 c2 c3 c4 c5
  obtain ⟨c0, c1, c2, c3, c4, c5⟩ := HC.out _ (k1.trans k2)
  go_wp2_with fail
  first
   | exact bodyPost_ret (v := .tuple #[.int .i64 bv, .int .i64 0]) (by simp [results, Tryz.results22, go_sem]) rfl ⟨rfl, (hK.trans k1).trans k2⟩
   | skip
 have HS : Hid (∀ u, Kept w2 u → u.cell? ⟨w.heap.size, 0, none⟩ = some (.bool ng) ∧ u.cell? ⟨w.heap.size, 1, none⟩ = some (.slice ao l cap) ∧ u.cell? ⟨w.heap.size, 2, none⟩ = some (.int .i64 x)) := fun u k => ⟨(HC.out u ((k1.trans k2).trans k)).1, (HC.out u ((k1.trans k2).trans k)).2.1, (HC.out u ((k1.trans k2).trans k)).2.2.1⟩
 have kd : Kept w2 w2.drew := (Kept.refl w2).drew
 have kw := (hK.trans k1).trans k2
 clear HC KL KF k1 k2 hX hK
 go_region_held (fun u => u.cell? ⟨w.heap.size, 0, none⟩ = some (.bool ng) ∧ u.cell? ⟨w.heap.size, 1, none⟩ = some (.slice ao l cap) ∧ u.cell? ⟨w.heap.size, 2, none⟩ = some (.int .i64 x)) (first | assumption | exact HS.out _ kd | exact HS.out _ (kd.trans (by assumption)) | exact HS.out _ ((kd.trans k3).trans k4)) (first | (go_at_call 24; refine (KI.out _ (kw.trans kd)).mono ?_; rintro e w3 ⟨vn, va, vl, vc, vx, rfl, hp, k3⟩) | (go_at_call 23; refine (KQ.out _ _ _ _ _ _ ((kw.trans kd).trans k3) hp).mono ?_; rintro e w4 ⟨rfl, k4⟩))
 go_wp2_with fail
 exact bodyPost_ret (v := .tuple #[.int .i64 rv, .int .i64 er]) (by simp [results, Tryz.results22, go_sem]) rfl ⟨rfl, ((kw.trans kd).trans k3).trans k4⟩
def la1 (f0 : Int) (l1 : Nat) (f1 : Int) : Int := if f0 ≠ 0 then f0 else if 65536 < l1 then 2 else f1
def la2 (f0 : Int) (l1 l2 : Nat) (f1 f2 : Int) : Int := if f0 ≠ 0 then f0 else if l2 ≠ l1 then 1 else if 65536 < l1 then 2 else if f1 ≠ 0 then f1 else f2
abbrev accZ : Value := accV false (.slice none 0 0) 0 false false false
theorem lists_1 (n : Int) (a1 : Option Addr) (l1 c1 q : Nat) (w : World) (hq : q < w.heap.size) (h1 : w.cell? ⟨q, 0, none⟩ = some (.slice a1 l1 c1)) (f0 f1 : Int)
  (K0 : Hid (∀ u, Kept w u → Calls Tryz.prog 67 #[.int .i64 n, accZ, .slice none 0 0] u fun e w' => e = .returned (.int .i64 f0) ∧ Kept u w'))
  (K1 : Hid (∀ u, Kept w u → Calls Tryz.prog 67 #[.int .i64 n, accZ, .slice a1 l1 c1] u fun e w' => e = .returned (.int .i64 f1) ∧ Kept u w')) :
  Calls Tryz.prog 132 #[.int .i64 n, .slice (some ⟨q, 0, none⟩) 1 1] w fun e w' => e = .returned (.int .i64 (la1 f0 l1 f1)) ∧ Kept w w' := by
 have HC : Hid (∀ u, Kept w u → u.cell? ⟨q, 0, none⟩ = some (.slice a1 l1 c1)) := fun u k => (k.below.cell (p := ⟨q, 0, none⟩) hq).trans h1
 clear h1
 obtain ⟨R, hR⟩ : ∃ R, R = la1 f0 l1 f1 := ⟨_, rfl⟩
 rw [← hR]
 unfold la1 at hR
 by_cases e0 : f0 = 0
 ·subst e0
  rw [if_neg (by simp)] at hR
  by_cases hb : 65536 < l1
  ·rw [if_pos hb] at hR
   subst hR
   have hb' : (65536 : Int) < (l1 : Int) := by omega
   go_enter Tryz.func132, Tryz.ntmps132
   go_wp2_with fail
   refine (K0.out _ (Kept.refl _)).mono ?_
   rintro e w1 ⟨rfl, k1⟩
   have c := HC.out _ k1
   go_wp2_with fail
   refine wp_loop_rounds 2 ?_
   rw [rounds_succ]
   go_wp2_with fail
   rw [rounds_succ]
   go_wp2_with fail
   go_ret
   exact ⟨rfl, k1⟩
  ·rw [if_neg hb] at hR
   subst hR
   have hb' : ¬ (65536 : Int) < (l1 : Int) := by omega
   by_cases e1 : R = 0
   all_goals
    have he : (R != 0) = decide (R ≠ 0) := by by_cases h : R = 0 <;> simp [h]
    first
     | subst e1
     | rw [decide_eq_true e1] at he
    go_enter Tryz.func132, Tryz.ntmps132
    go_wp2_with fail
    refine (K0.out _ (Kept.refl _)).mono ?_
    rintro e w1 ⟨rfl, k1⟩
    have c := HC.out _ k1
    go_wp2_with fail
    refine wp_loop_rounds 2 ?_
    rw [rounds_succ]
    go_wp2_with fail
    rw [rounds_succ]
    go_wp2_with fail
    refine wp_loop_rounds 2 ?_
    rw [rounds_succ]
    go_wp2_with fail
    refine (K1.out _ k1).mono ?_
    rintro e w2 ⟨rfl, k2⟩
    go_wp2_with fail
    try (rw [rounds_succ]; go_wp2_with fail)
    go_ret
    exact ⟨rfl, k1.trans k2⟩
 ·rw [if_pos e0] at hR
  subst hR
  have he2 : (R != 0) = true := by simpa using e0
  go_enter Tryz.func132, Tryz.ntmps132
  go_wp2_with fail
  refine (K0.out _ (Kept.refl _)).mono ?_
  rintro e w1 ⟨rfl, k1⟩
  go_wp2_with fail
  go_ret
  exact ⟨rfl, k1⟩
theorem lists_2 (n : Int) (a1 a2 : Option Addr) (l1 c1 l2 c2 q : Nat) (w : World) (hq : q < w.heap.size) (h1 : w.cell? ⟨q, 0, none⟩ = some (.slice a1 l1 c1)) (h2 : w.cell? ⟨q, 1, none⟩ = some (.slice a2 l2 c2)) (f0 f1 f2 : Int)
  (K0 : Hid (∀ u, Kept w u → Calls Tryz.prog 67 #[.int .i64 n, accZ, .slice none 0 0] u fun e w' => e = .returned (.int .i64 f0) ∧ Kept u w'))
  (K1 : Hid (∀ u, Kept w u → Calls Tryz.prog 67 #[.int .i64 n, accZ, .slice a1 l1 c1] u fun e w' => e = .returned (.int .i64 f1) ∧ Kept u w'))
  (K2 : Hid (∀ u, Kept w u → Calls Tryz.prog 67 #[.int .i64 n, accZ, .slice a2 l2 c2] u fun e w' => e = .returned (.int .i64 f2) ∧ Kept u w')) :
  Calls Tryz.prog 132 #[.int .i64 n, .slice (some ⟨q, 0, none⟩) 2 2] w fun e w' => e = .returned (.int .i64 (la2 f0 l1 l2 f1 f2)) ∧ Kept w w' := by
 have HC : Hid (∀ u, Kept w u → u.cell? ⟨q, 0, none⟩ = some (.slice a1 l1 c1) ∧ u.cell? ⟨q, 1, none⟩ = some (.slice a2 l2 c2)) := fun u k => ⟨(k.below.cell (p := ⟨q, 0, none⟩) hq).trans h1, (k.below.cell (p := ⟨q, 1, none⟩) hq).trans h2⟩
 clear h1 h2
 obtain ⟨R, hR⟩ : ∃ R, R = la2 f0 l1 l2 f1 f2 := ⟨_, rfl⟩
 rw [← hR]
 unfold la2 at hR
 by_cases e0 : f0 = 0
 ·subst e0
  rw [if_neg (by simp)] at hR
  by_cases hl : l2 = l1
  ·subst hl
   rw [if_neg (by simp)] at hR
   by_cases hb : 65536 < l2
   ·rw [if_pos hb] at hR
    subst hR
    have hb' : (65536 : Int) < (l2 : Int) := by omega
    go_enter Tryz.func132, Tryz.ntmps132
    go_wp2_with fail
    refine (K0.out _ (Kept.refl _)).mono ?_
    rintro e w1 ⟨rfl, k1⟩
    obtain ⟨c, d⟩ := HC.out _ k1
    go_wp2_with fail
    refine wp_loop_rounds 3 ?_
    rw [rounds_succ]
    go_wp2_with fail
    rw [rounds_succ]
    go_wp2_with fail
    rw [rounds_succ]
    go_wp2_with fail
    go_ret
    exact ⟨rfl, k1⟩
   ·rw [if_neg hb] at hR
    have hb' : ¬ (65536 : Int) < (l2 : Int) := by omega
    by_cases e1 : f1 = 0
    ·subst e1
     rw [if_neg (by simp)] at hR
     subst hR
     by_cases e1 : R = 0
     all_goals
      have he : (R != 0) = decide (R ≠ 0) := by by_cases h : R = 0 <;> simp [h]
      first
       | subst e1
       | rw [decide_eq_true e1] at he
      go_enter Tryz.func132, Tryz.ntmps132
      go_wp2_with fail
      refine (K0.out _ (Kept.refl _)).mono ?_
      rintro e w1 ⟨rfl, k1⟩
      obtain ⟨c, d⟩ := HC.out _ k1
      go_wp2_with fail
      refine wp_loop_rounds 3 ?_
      rw [rounds_succ]
      go_wp2_with fail
      rw [rounds_succ]
      go_wp2_with fail
      rw [rounds_succ]
      go_wp2_with fail
      refine wp_loop_rounds 3 ?_
      rw [rounds_succ]
      go_wp2_with fail
      refine (K1.out _ k1).mono ?_
      rintro e w2 ⟨rfl, k2⟩
      clear c d
      obtain ⟨c, d⟩ := HC.out _ (k1.trans k2)
      go_wp2_with fail
      rw [rounds_succ]
      go_wp2_with fail
      refine (K2.out _ (k1.trans k2)).mono ?_
      rintro e w3 ⟨rfl, k3⟩
      go_wp2_with fail
      try (rw [rounds_succ]; go_wp2_with fail)
      go_ret
      exact ⟨rfl, (k1.trans k2).trans k3⟩
    ·rw [if_pos e1] at hR
     subst hR
     have he2 : (R != 0) = true := by simpa using e1
     go_enter Tryz.func132, Tryz.ntmps132
     go_wp2_with fail
     refine (K0.out _ (Kept.refl _)).mono ?_
     rintro e w1 ⟨rfl, k1⟩
     obtain ⟨c, d⟩ := HC.out _ k1
     go_wp2_with fail
     refine wp_loop_rounds 3 ?_
     rw [rounds_succ]
     go_wp2_with fail
     rw [rounds_succ]
     go_wp2_with fail
     rw [rounds_succ]
     go_wp2_with fail
     refine wp_loop_rounds 3 ?_
     rw [rounds_succ]
     go_wp2_with fail
     refine (K1.out _ k1).mono ?_
     rintro e w2 ⟨rfl, k2⟩
     go_wp2_with fail
     go_ret
     exact ⟨rfl, k1.trans k2⟩
  ·rw [if_pos hl] at hR
   subst hR
   have hl' : ((l2 : Int) != (l1 : Int)) = true := by
    simp only [bne_iff_ne, ne_eq]
    omega
   go_enter Tryz.func132, Tryz.ntmps132
   go_wp2_with fail
   refine (K0.out _ (Kept.refl _)).mono ?_
   rintro e w1 ⟨rfl, k1⟩
   obtain ⟨c, d⟩ := HC.out _ k1
   go_wp2_with fail
   refine wp_loop_rounds 3 ?_
   rw [rounds_succ]
   go_wp2_with fail
   rw [rounds_succ]
   go_wp2_with fail
   go_ret
   exact ⟨rfl, k1⟩
 ·rw [if_pos e0] at hR
  subst hR
  have he2 : (R != 0) = true := by simpa using e0
  go_enter Tryz.func132, Tryz.ntmps132
  go_wp2_with fail
  refine (K0.out _ (Kept.refl _)).mono ?_
  rintro e w1 ⟨rfl, k1⟩
  go_wp2_with fail
  go_ret
  exact ⟨rfl, k1⟩
end Go.Proofs.YtoflafgbbjinpaaGreatDoor
