/- The document's Sum and Dot, by values. Sums and products of a list of ones; a list that is too long; sums that are too long, or none. -/
import Derived.Test.YtdpccifhhencgaaGreatDoorZl44
import Derived.Test.YtdpccifhhencgaaGreatDoorZl38
import Derived.Test.YtdpccifhhencgaaGreatDoorZl41
namespace Go.Proofs.YtdpccifhhencgaaGreatDoor
open Go.ChangeShapes Go.WideShapes Go.ChangeAt Go.RowKit
set_option linter.unusedVariables false
set_option linter.unusedSimpArgs false
set_option maxHeartbeats 16000000
set_option maxRecDepth 100000
theorem sI_big (f : Nat → Int) (h : ∀ j, (f j).natAbs < 2 ^ expJ) (n : Nat) (hn : n ≤ 65536) : (sI f n).natAbs < 2 ^ expK := by
 have h1 := sI_lt f h n
 have h2 : n * 2 ^ expJ ≤ 65536 * 2 ^ expJ := Nat.mul_le_mul_right _ (by omega)
 have h3 : 65536 * 2 ^ expJ < 2 ^ expK := by
  have e : (65536 : Nat) = 2 ^ 16 := by decide
  rw [e, ← Nat.pow_add]
  exact Nat.pow_lt_pow_right (by decide) (by rw [expJ_is, expK_is]; omega)
 omega
theorem Box.new2 {u : World} {lo B : Nat} {r q : Nm} {p m z : Bool} {ao : Option Addr} {c : Nat} (h : Box u lo B r p m z ao c) (hB : B < lo) (va : Option Addr) (vc : Nat) (hN : RLp (Fresh lo) u (.slice va q.mag.length vc) q.mag) (P M Z : Bool) : Box (Go.Proofs.YtdpccifhhencgaaGreatDoor.six u B (.bool q.neg) (.slice va q.mag.length vc) (.int .i64 q.exp) (.bool P) (.bool M) (.bool Z)) lo B q P M Z va vc := by
 obtain ⟨a', c', e', e4, hs, hp⟩ := hN
 cases e'
 have hb : ∀ b off, va = some ⟨b, off, none⟩ → q.mag ≠ [] → lo ≤ b := fun b off e hne => hp b off hne e
 have hne : ∀ b off, va = some ⟨b, off, none⟩ → q.mag ≠ [] → b ≠ B := fun b off e hn => by have := hb b off e hn; omega
 have c0 := h.c0
 have c1 := h.c1
 have c2 := h.c2
 have c3 := h.c3
 have c4 := h.c4
 have c5 := h.c5
 refine ⟨by simp [go_sem, c0, c1, c2, c3, c4, c5], by simp [go_sem, c0, c1, c2, c3, c4, c5], by simp [go_sem, c0, c1, c2, c3, c4, c5], by simp [go_sem, c0, c1, c2, c3, c4, c5], by simp [go_sem, c0, c1, c2, c3, c4, c5], by simp [go_sem, c0, c1, c2, c3, c4, c5], fun o => by simpa using h.fz o, by simpa using h.lt, e4, ?_, hb⟩
 exact sl_other (sl_other (sl_other (sl_other (sl_other (sl_other hs _ hne _) _ hne _) _ hne _) _ hne _) _ hne _) _ hne _
theorem Box.rlp {u : World} {lo B : Nat} {r : Nm} {p m z : Bool} {ao : Option Addr} {c : Nat} (h : Box u lo B r p m z ao c) : RLp (Fresh lo) u (.slice ao r.mag.length c) r.mag :=
 ⟨ao, c, rfl, h.hc, h.sl, fun b off hne e => h.hi b off e hne⟩
theorem rzero3 (w : World) : Calls Tryz.prog 32 #[] w fun e w' => e = .returned (accV false (.slice none 0 0) 0 false false false) ∧ Kept w w' := by
 go_enter Tryz.func32, Tryz.ntmps32
 go_wp2_with fail
 exact bodyPost_ret (v := accV false (.slice none 0 0) 0 false false false) (by simp [results, Tryz.results32, go_sem, accV]) rfl ⟨rfl, (Kept.refl w).alloc _ _⟩
/- an element of a list -/
def ElAt (u : World) (ar : Option Addr) (i : Nat) (x : Int) : Prop := ∃ b off, ar = some ⟨b, off, none⟩ ∧ u.cell? ⟨b, off + i, none⟩ = some (.int .i64 x)
theorem rsum3 (n : Int) (hn : n = 64 ∨ n = 32) (ar : Option Addr) (N cap : Nat) (g : Nat → Int) (hN : N ≤ 65536) (w : World) (hg1 : ∀ j, -9223372036854775808 ≤ g j) (hg2 : ∀ j, g j ≤ 9223372036854775807) (HG0 : ∀ u, Kept w u → ∀ i, i < N → ElAt u ar i (g i)) (r9 : Nm) (hr9 : DN (sI (fun j => pvl n (g j) (oneN n)) N) r9) (q : Int)
  (KR0 : ∀ u ao c, RLp (Fresh w.heap.size) u (.slice ao r9.mag.length c) r9.mag → Kept w u → Calls Tryz.prog 46 #[accV r9.neg (.slice ao r9.mag.length c) r9.exp (oI (fun j => fP n (g j) (oneN n)) N) (oI (fun j => fM n (g j) (oneN n)) N) (oI (fun j => fN n (g j) (oneN n)) N), .int .i64 n] u fun e w' => e = .returned (.int .i64 q) ∧ Kept u w') :
  Calls Tryz.prog 49 #[.slice ar N cap, .int .i64 n] w fun e w' => e = .returned (.int .i64 q) ∧ Kept w w' := by
 have KZ : Hid (∀ u, Calls Tryz.prog 32 #[] u fun e w' => e = .returned (accV false (.slice none 0 0) 0 false false false) ∧ Kept u w') := fun u => rzero3 u
 have HG : Hid (∀ u, Kept w u → ∀ i, i < N → ElAt u ar i (g i)) := HG0
 obtain ⟨v, hv⟩ : ∃ v : Nat → Int, v = fun j => pvl n (g j) (oneN n) := ⟨_, rfl⟩
 obtain ⟨P, hP⟩ : ∃ v : Nat → Bool, v = fun j => fP n (g j) (oneN n) := ⟨_, rfl⟩
 obtain ⟨M, hM⟩ : ∃ v : Nat → Bool, v = fun j => fM n (g j) (oneN n) := ⟨_, rfl⟩
 obtain ⟨Z, hZ⟩ : ∃ v : Nat → Bool, v = fun j => fN n (g j) (oneN n) := ⟨_, rfl⟩
 rw [← hv] at hr9
 rw [← hP, ← hM, ← hZ] at KR0
 have KR : Hid (∀ u ao c, RLp (Fresh w.heap.size) u (.slice ao r9.mag.length c) r9.mag → Kept w u → Calls Tryz.prog 46 #[accV r9.neg (.slice ao r9.mag.length c) r9.exp (oI P N) (oI M N) (oI Z N), .int .i64 n] u fun e w' => e = .returned (.int .i64 q) ∧ Kept u w') := KR0
 have HV : Hid (∀ k, k ≤ N → (sI v k).natAbs < 2 ^ expK) := fun k hk => sI_big v (fun j => by rw [hv]; exact pvl_lt n (g j) (oneN n) hn (hg1 j) (hg2 j) (oneN_ok n hn).1 (oneN_ok n hn).2.1) k (by omega)
 have KA : Hid (∀ (u : World) (i : Nat) (lo : Nat) (S : Int) (r q : Nm) (p m z : Bool) (ao : Option Addr) (c : Nat), DN S r → DN (S + v i) q → lo ≤ u.heap.size → RLp (Fresh lo) u (.slice ao r.mag.length c) r.mag → Calls Tryz.prog 31 #[accV r.neg (.slice ao r.mag.length c) r.exp p m z, .int .i64 (g i), .int .i64 n] u fun e w' => ∃ ua uc, e = .returned (accV q.neg (.slice ua q.mag.length uc) q.exp (p || P i) (m || M i) (z || Z i)) ∧ Hid (RLp (Fresh lo) w' (.slice ua q.mag.length uc) q.mag) ∧ Kept u w') := fun u i lo S r q p m z ao c hr hq hlo h => by
  rw [hv] at hq
  rw [hP, hM, hZ]
  exact raddone lo n (g i) hn (hg1 i) (hg2 i) hr hq p m z ao c u hlo h
 clear HG0  hg1 hg2 KR0 hv hP hM hZ
 go_enter Tryz.func49, Tryz.ntmps49
 go_wp2_with fail
 refine (KZ.out _).mono ?_
 rintro e w1 ⟨rfl, k1⟩
 go_upto_region 2 with fail
 obtain ⟨X, hX⟩ : ∃ X, X = w1.alloc (.cells #[.bool false, .slice none 0 0, .int .i64 0, .bool false, .bool false, .bool false] 26) := ⟨_, rfl⟩
 obtain ⟨B, hB⟩ : ∃ B, B = w1.heap.size := ⟨_, rfl⟩
 obtain ⟨lo, hlo⟩ : ∃ l, l = B + 1 := ⟨_, rfl⟩
 have kX : Kept w X := by rw [hX]; exact k1.alloc _ _
 have hXs : X.heap.size = lo := by rw [hX, hlo, hB]; simp
 have bx : Box X lo B ⟨false, [], 0⟩ false false false none 0 := by
  refine ⟨?_, ?_, ?_, ?_, ?_, ?_, fun o => ?_, by omega, fun _ => rfl, sl_none _, fun b off e => by cases e⟩
  all_goals
   rw [hX, hB]
   simp [go_sem]
 have HO : Hid (w.heap.size ≤ B ∧ B < lo ∧ w.heap.size ≤ lo) := (show _ ∧ _ ∧ _ from by have := k1.below.size; omega)
 rw [← hX, ← hB]
 have hXl : lo ≤ X.heap.size := Nat.le_of_eq hXs.symm
 clear hX hB hlo hXs k1
 go_wp2_with fail
 go_loopw [6] (fun ti wr => ∃ (k : Nat) (r : Nm) (ao : Option Addr) (c : Nat), k ≤ N ∧ ti = .int .i64 k ∧ Kept w wr ∧ lo ≤ wr.heap.size ∧ Box wr lo B r (oI P k) (oI M k) (oI Z k) ao c ∧ DN (sI v k) r) (fun i _ => N - (intOf i).toNat)
 case atStart => exact ⟨0, _, _, _, Nat.zero_le _, rfl, kX, hXl, bx, dn_zero⟩
 case round =>
  obtain ⟨k, r, ao, c, hk, rfl, kr, swr, b1, dr⟩ := hrel
  clear bx kX hXl
  by_cases hkn : k < N
  ·obtain ⟨qa, hqa⟩ := dn_some (sI v (k + 1)) (HV.out (k + 1) hkn)
   obtain ⟨eb, eo, rfl, -⟩ := HG.out _ kr k hkn
   have HGk : Hid (∀ u, Kept w u → u.cell? ⟨eb, eo + k, none⟩ = some (.int .i64 (g k))) := fun u ku => by
    obtain ⟨b', off', e, hh⟩ := HG.out u ku k hkn
    cases e
    exact hh
   obtain ⟨o1, o2, o3⟩ := HO.out
   clear HG KR
   go_wp2_with fail
   have HS : Hid (∀ u, Kept wr u → Kept wr u ∧ ((u.cell? ⟨B, 0, none⟩ = some (.bool r.neg) ∧ u.cell? ⟨B, 1, none⟩ = some (.slice ao r.mag.length c) ∧ u.cell? ⟨B, 2, none⟩ = some (.int .i64 r.exp)) ∧ u.cell? ⟨B, 3, none⟩ = some (.bool (oI P k)) ∧ u.cell? ⟨B, 4, none⟩ = some (.bool (oI M k)) ∧ u.cell? ⟨B, 5, none⟩ = some (.bool (oI Z k))) ∧ u.cell? ⟨eb, eo + k, none⟩ = some (.int .i64 (g k))) := fun u ku => ⟨ku, ⟨⟨(b1.kept ku).c0, (b1.kept ku).c1, (b1.kept ku).c2⟩, (b1.kept ku).c3, (b1.kept ku).c4, (b1.kept ku).c5⟩, HGk.out u (kr.trans ku)⟩
   refine wp_region_late [7] (fun u => Kept wr u ∧ ((u.cell? ⟨B, 0, none⟩ = some (.bool r.neg) ∧ u.cell? ⟨B, 1, none⟩ = some (.slice ao r.mag.length c) ∧ u.cell? ⟨B, 2, none⟩ = some (.int .i64 r.exp)) ∧ u.cell? ⟨B, 3, none⟩ = some (.bool (oI P k)) ∧ u.cell? ⟨B, 4, none⟩ = some (.bool (oI M k)) ∧ u.cell? ⟨B, 5, none⟩ = some (.bool (oI Z k))) ∧ u.cell? ⟨eb, eo + k, none⟩ = some (.int .i64 (g k))) (by kernel_rfl) (HS.out _ (Kept.refl _).drew) (fun hHeld => ?_)
   refine wpAnyD_take (i := 0) (v := ?_) rfl (by kernel_rfl) (by kernel_rfl) (by kernel_rfl) (by kernel_rfl) (fun _ _ _ h => h) (Or.inl ⟨by rfl, ?hya0⟩) hHeld ?_
   case hya0 => (intro w hSw; (try dsimp only at hSw); go_simp; try (with_reducible rfl))
   (try simp only [Act.put, zA, zB, zC, zD, zE, zF])
   refine wpAnyD_take (i := 1) (v := ?_) rfl (by kernel_rfl) (by kernel_rfl) (by kernel_rfl) (by kernel_rfl) (fun _ _ _ h => h) (Or.inl ⟨by rfl, ?hya1⟩) hHeld ?_
   case hya1 => (intro w hSw; (try dsimp only at hSw); go_simp; try (with_reducible rfl))
   (try simp only [Act.put, zA, zB, zC, zD, zE, zF])
   refine wpAnyD_take (i := 2) (v := ?_) rfl (by kernel_rfl) (by kernel_rfl) (by kernel_rfl) (by kernel_rfl) (fun _ _ _ h => h) (Or.inl ⟨by rfl, ?hya2⟩) hHeld ?_
   case hya2 => (intro w hSw; (try dsimp only at hSw); go_simp; try (with_reducible rfl))
   (try simp only [Act.put, zA, zB, zC, zD, zE, zF])
   refine wpAnyD_take (i := 3) (v := ?_) rfl (by kernel_rfl) (by kernel_rfl) (by kernel_rfl) (by kernel_rfl) (fun _ _ _ h => h) (Or.inl ⟨by rfl, ?hya3⟩) hHeld ?_
   case hya3 => (intro w hSw; (try dsimp only at hSw); go_simp; try (with_reducible rfl))
   (try simp only [Act.put, zA, zB, zC, zD, zE, zF])
   refine wpAnyD_take (i := 4) (v := ?_) rfl (by kernel_rfl) (by kernel_rfl) (by kernel_rfl) (by kernel_rfl) (fun _ _ _ h => h) (Or.inl ⟨by rfl, ?hya4⟩) hHeld ?_
   case hya4 => (intro w hSw; (try dsimp only at hSw); go_simp; try (with_reducible rfl))
   (try simp only [Act.put, zA, zB, zC, zD, zE, zF])
   refine wpAnyD_take (i := 5) (v := ?_) rfl (by kernel_rfl) (by kernel_rfl) (by kernel_rfl) (by kernel_rfl) (fun _ _ _ h => h) (Or.inl ⟨by rfl, ?hya5⟩) hHeld ?_
   case hya5 => (intro w hSw; (try dsimp only at hSw); go_simp; try (with_reducible rfl))
   (try simp only [Act.put, zA, zB, zC, zD, zE, zF])
   refine wpAnyD_step (i := 6) (by kernel_rfl) rfl (fun K hK9 => ?_)
   go_simp
   go_wp2_with fail
   refine (KA.out _ k lo (sI v k) r qa _ _ _ ao c dr hqa (Nat.le_trans swr hHeld.1.below.size) (b1.rlp.kept hHeld.1)).mono ?_
   rintro e u2 ⟨ua, uc, rfl, hs, k2⟩
   refine hK9.out _ _ (HS.out _ (hHeld.1.trans k2)) (fun hH2 => ?_)
   clear hK9 K
   (try simp only [Act.put, zA, zB, zC, zD, zE, zF])
   have bx := b1.kept hH2.1
   have g0 := bx.c0
   have g1 := bx.c1
   have g2 := bx.c2
   have g3 := bx.c3
   have g4 := bx.c4
   have g5 := bx.c5
   have g6 := bx.fz
   refine wpAnyD_late (i := 7) (by kernel_rfl) rfl rfl (fun K hK9 => ?_)
   go_simp
   refine hK9.out _ _ ?_
   clear hK9 K
   (try simp only [Act.put, zA, zB, zC, zD, zE, zF])
   refine wpAnyD_done (by kernel_rfl) ?_ _
   (try simp only [Act.put, zA, zB, zC, zD, zE, zF])
   obtain ⟨W1, hW⟩ : ∃ W, W = ((((((u2.setCell ⟨B, 0, none⟩ (.bool qa.neg)).setCell ⟨B, 1, none⟩ (.slice ua qa.mag.length uc)).setCell ⟨B, 2, none⟩ (.int .i64 qa.exp)).setCell ⟨B, 3, none⟩ (.bool (oI P k || P k))).setCell ⟨B, 4, none⟩ (.bool (oI M k || M k))).setCell ⟨B, 5, none⟩ (.bool (oI Z k || Z k))) := ⟨_, rfl⟩
   have kW1 : Kept w W1 := by rw [hW]; exact kept_six1 B o1 (kr.trans hH2.1) _ _ _ _ _ _
   have sW1 : lo ≤ W1.heap.size := by
    have := hH2.1.below.size
    rw [hW]
    simp
    omega
   have b2 : Box W1 lo B qa (oI P k || P k) (oI M k || M k) (oI Z k || Z k) ua uc := by
    rw [hW]
    exact bx.new2 o2 ua uc hs.out _ _ _
   rw [← hW]
   clear g0 g1 g2 g3 g4 g5 g6 hH2 hHeld HS hW bx hs k2 b1
   go_wp2_with fail
   go_roundw
   case rel => exact ⟨k + 1, qa, ua, uc, hkn, by go_num, kW1, sW1, by simp only [oI]; exact b2, hqa⟩
   case measure => simp [intOf]; omega
  ·obtain rfl : k = N := by omega
   obtain rfl := dr.one hr9
   obtain ⟨o1, o2, o3⟩ := HO.out
   have KR1 := KR.out wr ao c (b1.rlp.imp (fun c hc => Nat.le_trans o3 hc)) kr
   have KR2 : Hid (Calls Tryz.prog 46 #[accV r.neg (.slice ao r.mag.length c) r.exp (oI P k) (oI M k) (oI Z k), .int .i64 n] wr fun e w' => e = .returned (.int .i64 q) ∧ Kept wr w') := KR1
   clear KR KR1 KA HV
   have x0 := b1.c0
   have x1 := b1.c1
   have x2 := b1.c2
   have x3 := b1.c3
   have x4 := b1.c4
   have x5 := b1.c5
   go_wp2_with fail
   refine KR2.out.mono ?_
   rintro e w3 ⟨rfl, k3⟩
   go_wp2_with fail
   go_ret
   exact ⟨rfl, kr.trans k3⟩
theorem rdot3 (n : Int) (hn : n = 64 ∨ n = 32) (ar br : Option Addr) (N cap cap' : Nat) (g g' : Nat → Int) (hN : N ≤ 65536) (w : World) (hg1 : ∀ j, -9223372036854775808 ≤ g j) (hg2 : ∀ j, g j ≤ 9223372036854775807) (HG0 : ∀ u, Kept w u → ∀ i, i < N → ElAt u ar i (g i)) (hh1 : ∀ j, -9223372036854775808 ≤ g' j) (hh2 : ∀ j, g' j ≤ 9223372036854775807) (HH0 : ∀ u, Kept w u → ∀ i, i < N → ElAt u br i (g' i)) (r9 : Nm) (hr9 : DN (sI (fun j => pvl n (g j) (g' j)) N) r9) (q : Int)
  (KR0 : ∀ u ao c, RLp (Fresh w.heap.size) u (.slice ao r9.mag.length c) r9.mag → Kept w u → Calls Tryz.prog 46 #[accV r9.neg (.slice ao r9.mag.length c) r9.exp (oI (fun j => fP n (g j) (g' j)) N) (oI (fun j => fM n (g j) (g' j)) N) (oI (fun j => fN n (g j) (g' j)) N), .int .i64 n] u fun e w' => e = .returned (.int .i64 q) ∧ Kept u w') :
  Calls Tryz.prog 50 #[.slice ar N cap, .slice br N cap', .int .i64 n] w fun e w' => e = .returned (.int .i64 q) ∧ Kept w w' := by
 have KZ : Hid (∀ u, Calls Tryz.prog 32 #[] u fun e w' => e = .returned (accV false (.slice none 0 0) 0 false false false) ∧ Kept u w') := fun u => rzero3 u
 have HG : Hid (∀ u, Kept w u → ∀ i, i < N → ElAt u ar i (g i)) := HG0
 have HH : Hid (∀ u, Kept w u → ∀ i, i < N → ElAt u br i (g' i)) := HH0
 obtain ⟨v, hv⟩ : ∃ v : Nat → Int, v = fun j => pvl n (g j) (g' j) := ⟨_, rfl⟩
 obtain ⟨P, hP⟩ : ∃ v : Nat → Bool, v = fun j => fP n (g j) (g' j) := ⟨_, rfl⟩
 obtain ⟨M, hM⟩ : ∃ v : Nat → Bool, v = fun j => fM n (g j) (g' j) := ⟨_, rfl⟩
 obtain ⟨Z, hZ⟩ : ∃ v : Nat → Bool, v = fun j => fN n (g j) (g' j) := ⟨_, rfl⟩
 rw [← hv] at hr9
 rw [← hP, ← hM, ← hZ] at KR0
 have KR : Hid (∀ u ao c, RLp (Fresh w.heap.size) u (.slice ao r9.mag.length c) r9.mag → Kept w u → Calls Tryz.prog 46 #[accV r9.neg (.slice ao r9.mag.length c) r9.exp (oI P N) (oI M N) (oI Z N), .int .i64 n] u fun e w' => e = .returned (.int .i64 q) ∧ Kept u w') := KR0
 have HV : Hid (∀ k, k ≤ N → (sI v k).natAbs < 2 ^ expK) := fun k hk => sI_big v (fun j => by rw [hv]; exact pvl_lt n (g j) (g' j) hn (hg1 j) (hg2 j) (hh1 j) (hh2 j)) k (by omega)
 have KA : Hid (∀ (u : World) (i : Nat) (lo : Nat) (S : Int) (r q : Nm) (p m z : Bool) (ao : Option Addr) (c : Nat), DN S r → DN (S + v i) q → lo ≤ u.heap.size → RLp (Fresh lo) u (.slice ao r.mag.length c) r.mag → Calls Tryz.prog 34 #[accV r.neg (.slice ao r.mag.length c) r.exp p m z, .int .i64 (g i), .int .i64 (g' i), .int .i64 n] u fun e w' => ∃ ua uc, e = .returned (accV q.neg (.slice ua q.mag.length uc) q.exp (p || P i) (m || M i) (z || Z i)) ∧ Hid (RLp (Fresh lo) w' (.slice ua q.mag.length uc) q.mag) ∧ Kept u w') := fun u i lo S r q p m z ao c hr hq hlo h => by
  rw [hv] at hq
  rw [hP, hM, hZ]
  exact raddpair lo n (g i) (g' i) hn (hg1 i) (hg2 i) (hh1 i) (hh2 i) hr hq p m z ao c u hlo h
 clear HG0 HH0 hh1 hh2 hg1 hg2 KR0 hv hP hM hZ
 go_enter Tryz.func50, Tryz.ntmps50
 go_wp2_with fail
 refine (KZ.out _).mono ?_
 rintro e w1 ⟨rfl, k1⟩
 go_upto_region 2 with fail
 obtain ⟨X, hX⟩ : ∃ X, X = w1.alloc (.cells #[.bool false, .slice none 0 0, .int .i64 0, .bool false, .bool false, .bool false] 26) := ⟨_, rfl⟩
 obtain ⟨B, hB⟩ : ∃ B, B = w1.heap.size := ⟨_, rfl⟩
 obtain ⟨lo, hlo⟩ : ∃ l, l = B + 1 := ⟨_, rfl⟩
 have kX : Kept w X := by rw [hX]; exact k1.alloc _ _
 have hXs : X.heap.size = lo := by rw [hX, hlo, hB]; simp
 have bx : Box X lo B ⟨false, [], 0⟩ false false false none 0 := by
  refine ⟨?_, ?_, ?_, ?_, ?_, ?_, fun o => ?_, by omega, fun _ => rfl, sl_none _, fun b off e => by cases e⟩
  all_goals
   rw [hX, hB]
   simp [go_sem]
 have HO : Hid (w.heap.size ≤ B ∧ B < lo ∧ w.heap.size ≤ lo) := (show _ ∧ _ ∧ _ from by have := k1.below.size; omega)
 rw [← hX, ← hB]
 have hXl : lo ≤ X.heap.size := Nat.le_of_eq hXs.symm
 clear hX hB hlo hXs k1
 go_wp2_with fail
 go_loopw [8] (fun ti wr => ∃ (k : Nat) (r : Nm) (ao : Option Addr) (c : Nat), k ≤ N ∧ ti = .int .i64 k ∧ Kept w wr ∧ lo ≤ wr.heap.size ∧ Box wr lo B r (oI P k) (oI M k) (oI Z k) ao c ∧ DN (sI v k) r) (fun i _ => N - (intOf i).toNat)
 case atStart => exact ⟨0, _, _, _, Nat.zero_le _, rfl, kX, hXl, bx, dn_zero⟩
 case round =>
  obtain ⟨k, r, ao, c, hk, rfl, kr, swr, b1, dr⟩ := hrel
  clear bx kX hXl
  by_cases hkn : k < N
  ·obtain ⟨qa, hqa⟩ := dn_some (sI v (k + 1)) (HV.out (k + 1) hkn)
   obtain ⟨eb, eo, rfl, -⟩ := HG.out _ kr k hkn
   have HGk : Hid (∀ u, Kept w u → u.cell? ⟨eb, eo + k, none⟩ = some (.int .i64 (g k))) := fun u ku => by
    obtain ⟨b', off', e, hh⟩ := HG.out u ku k hkn
    cases e
    exact hh
   obtain ⟨fb, fo, rfl, -⟩ := HH.out _ kr k hkn
   have HHk : Hid (∀ u, Kept w u → u.cell? ⟨fb, fo + k, none⟩ = some (.int .i64 (g' k))) := fun u ku => by
    obtain ⟨b', off', e, hh⟩ := HH.out u ku k hkn
    cases e
    exact hh
   clear HH
   obtain ⟨o1, o2, o3⟩ := HO.out
   clear HG KR
   go_wp2_with fail
   have HS : Hid (∀ u, Kept wr u → Kept wr u ∧ ((u.cell? ⟨B, 0, none⟩ = some (.bool r.neg) ∧ u.cell? ⟨B, 1, none⟩ = some (.slice ao r.mag.length c) ∧ u.cell? ⟨B, 2, none⟩ = some (.int .i64 r.exp)) ∧ u.cell? ⟨B, 3, none⟩ = some (.bool (oI P k)) ∧ u.cell? ⟨B, 4, none⟩ = some (.bool (oI M k)) ∧ u.cell? ⟨B, 5, none⟩ = some (.bool (oI Z k))) ∧ u.cell? ⟨eb, eo + k, none⟩ = some (.int .i64 (g k)) ∧ u.cell? ⟨fb, fo + k, none⟩ = some (.int .i64 (g' k))) := fun u ku => ⟨ku, ⟨⟨(b1.kept ku).c0, (b1.kept ku).c1, (b1.kept ku).c2⟩, (b1.kept ku).c3, (b1.kept ku).c4, (b1.kept ku).c5⟩, HGk.out u (kr.trans ku), HHk.out u (kr.trans ku)⟩
   refine wp_region_late [11] (fun u => Kept wr u ∧ ((u.cell? ⟨B, 0, none⟩ = some (.bool r.neg) ∧ u.cell? ⟨B, 1, none⟩ = some (.slice ao r.mag.length c) ∧ u.cell? ⟨B, 2, none⟩ = some (.int .i64 r.exp)) ∧ u.cell? ⟨B, 3, none⟩ = some (.bool (oI P k)) ∧ u.cell? ⟨B, 4, none⟩ = some (.bool (oI M k)) ∧ u.cell? ⟨B, 5, none⟩ = some (.bool (oI Z k))) ∧ u.cell? ⟨eb, eo + k, none⟩ = some (.int .i64 (g k)) ∧ u.cell? ⟨fb, fo + k, none⟩ = some (.int .i64 (g' k))) (by kernel_rfl) (HS.out _ (Kept.refl _).drew) (fun hHeld => ?_)
   refine wpAnyD_take (i := 0) (v := ?_) rfl (by kernel_rfl) (by kernel_rfl) (by kernel_rfl) (by kernel_rfl) (fun _ _ _ h => h) (Or.inl ⟨by rfl, ?hya0⟩) hHeld ?_
   case hya0 => (intro w hSw; (try dsimp only at hSw); go_simp; try (with_reducible rfl))
   (try simp only [Act.put, zA, zB, zC, zD, zE, zF])
   refine wpAnyD_take (i := 1) (v := ?_) rfl (by kernel_rfl) (by kernel_rfl) (by kernel_rfl) (by kernel_rfl) (fun _ _ _ h => h) (Or.inl ⟨by rfl, ?hya1⟩) hHeld ?_
   case hya1 => (intro w hSw; (try dsimp only at hSw); go_simp; try (with_reducible rfl))
   (try simp only [Act.put, zA, zB, zC, zD, zE, zF])
   refine wpAnyD_take (i := 2) (v := ?_) rfl (by kernel_rfl) (by kernel_rfl) (by kernel_rfl) (by kernel_rfl) (fun _ _ _ h => h) (Or.inl ⟨by rfl, ?hya2⟩) hHeld ?_
   case hya2 => (intro w hSw; (try dsimp only at hSw); go_simp; try (with_reducible rfl))
   (try simp only [Act.put, zA, zB, zC, zD, zE, zF])
   refine wpAnyD_take (i := 3) (v := ?_) rfl (by kernel_rfl) (by kernel_rfl) (by kernel_rfl) (by kernel_rfl) (fun _ _ _ h => h) (Or.inl ⟨by rfl, ?hya3⟩) hHeld ?_
   case hya3 => (intro w hSw; (try dsimp only at hSw); go_simp; try (with_reducible rfl))
   (try simp only [Act.put, zA, zB, zC, zD, zE, zF])
   refine wpAnyD_take (i := 4) (v := ?_) rfl (by kernel_rfl) (by kernel_rfl) (by kernel_rfl) (by kernel_rfl) (fun _ _ _ h => h) (Or.inl ⟨by rfl, ?hya4⟩) hHeld ?_
   case hya4 => (intro w hSw; (try dsimp only at hSw); go_simp; try (with_reducible rfl))
   (try simp only [Act.put, zA, zB, zC, zD, zE, zF])
   refine wpAnyD_take (i := 5) (v := ?_) rfl (by kernel_rfl) (by kernel_rfl) (by kernel_rfl) (by kernel_rfl) (fun _ _ _ h => h) (Or.inl ⟨by rfl, ?hya5⟩) hHeld ?_
   case hya5 => (intro w hSw; (try dsimp only at hSw); go_simp; try (with_reducible rfl))
   (try simp only [Act.put, zA, zB, zC, zD, zE, zF])
   refine wpAnyD_take (i := 6) (v := ?_) rfl (by kernel_rfl) (by kernel_rfl) (by kernel_rfl) (by kernel_rfl) (fun _ _ _ h => h) (Or.inl ⟨by rfl, ?hya6⟩) hHeld ?_
   case hya6 => (intro w hSw; (try dsimp only at hSw); go_simp; try (with_reducible rfl))
   (try simp only [Act.put, zA, zB, zC, zD, zE, zF])
   refine wpAnyD_take (i := 7) (v := ?_) rfl (by kernel_rfl) (by kernel_rfl) (by kernel_rfl) (by kernel_rfl) (fun _ _ _ h => h) (Or.inl ⟨by rfl, ?hya7⟩) hHeld ?_
   case hya7 => (intro w hSw; (try dsimp only at hSw); go_simp; try (with_reducible rfl))
   (try simp only [Act.put, zA, zB, zC, zD, zE, zF])
   refine wpAnyD_take (i := 8) (v := ?_) rfl (by kernel_rfl) (by kernel_rfl) (by kernel_rfl) (by kernel_rfl) (fun _ _ _ h => h) (Or.inl ⟨by rfl, ?hya8⟩) hHeld ?_
   case hya8 => (intro w hSw; (try dsimp only at hSw); go_simp; try (with_reducible rfl))
   (try simp only [Act.put, zA, zB, zC, zD, zE, zF])
   refine wpAnyD_take (i := 9) (v := ?_) rfl (by kernel_rfl) (by kernel_rfl) (by kernel_rfl) (by kernel_rfl) (fun _ _ _ h => h) (Or.inl ⟨by rfl, ?hya9⟩) hHeld ?_
   case hya9 => (intro w hSw; (try dsimp only at hSw); go_simp; try (with_reducible rfl))
   (try simp only [Act.put, zA, zB, zC, zD, zE, zF])
   refine wpAnyD_step (i := 10) (by kernel_rfl) rfl (fun K hK9 => ?_)
   go_simp
   go_wp2_with fail
   refine (KA.out _ k lo (sI v k) r qa _ _ _ ao c dr hqa (Nat.le_trans swr hHeld.1.below.size) (b1.rlp.kept hHeld.1)).mono ?_
   rintro e u2 ⟨ua, uc, rfl, hs, k2⟩
   refine hK9.out _ _ (HS.out _ (hHeld.1.trans k2)) (fun hH2 => ?_)
   clear hK9 K
   (try simp only [Act.put, zA, zB, zC, zD, zE, zF])
   have bx := b1.kept hH2.1
   have g0 := bx.c0
   have g1 := bx.c1
   have g2 := bx.c2
   have g3 := bx.c3
   have g4 := bx.c4
   have g5 := bx.c5
   have g6 := bx.fz
   refine wpAnyD_late (i := 11) (by kernel_rfl) rfl rfl (fun K hK9 => ?_)
   go_simp
   refine hK9.out _ _ ?_
   clear hK9 K
   (try simp only [Act.put, zA, zB, zC, zD, zE, zF])
   refine wpAnyD_done (by kernel_rfl) ?_ _
   (try simp only [Act.put, zA, zB, zC, zD, zE, zF])
   obtain ⟨W1, hW⟩ : ∃ W, W = ((((((u2.setCell ⟨B, 0, none⟩ (.bool qa.neg)).setCell ⟨B, 1, none⟩ (.slice ua qa.mag.length uc)).setCell ⟨B, 2, none⟩ (.int .i64 qa.exp)).setCell ⟨B, 3, none⟩ (.bool (oI P k || P k))).setCell ⟨B, 4, none⟩ (.bool (oI M k || M k))).setCell ⟨B, 5, none⟩ (.bool (oI Z k || Z k))) := ⟨_, rfl⟩
   have kW1 : Kept w W1 := by rw [hW]; exact kept_six1 B o1 (kr.trans hH2.1) _ _ _ _ _ _
   have sW1 : lo ≤ W1.heap.size := by
    have := hH2.1.below.size
    rw [hW]
    simp
    omega
   have b2 : Box W1 lo B qa (oI P k || P k) (oI M k || M k) (oI Z k || Z k) ua uc := by
    rw [hW]
    exact bx.new2 o2 ua uc hs.out _ _ _
   rw [← hW]
   clear g0 g1 g2 g3 g4 g5 g6 hH2 hHeld HS hW bx hs k2 b1
   go_wp2_with fail
   go_roundw
   case rel => exact ⟨k + 1, qa, ua, uc, hkn, by go_num, kW1, sW1, by simp only [oI]; exact b2, hqa⟩
   case measure => simp [intOf]; omega
  ·obtain rfl : k = N := by omega
   obtain rfl := dr.one hr9
   obtain ⟨o1, o2, o3⟩ := HO.out
   have KR1 := KR.out wr ao c (b1.rlp.imp (fun c hc => Nat.le_trans o3 hc)) kr
   have KR2 : Hid (Calls Tryz.prog 46 #[accV r.neg (.slice ao r.mag.length c) r.exp (oI P k) (oI M k) (oI Z k), .int .i64 n] wr fun e w' => e = .returned (.int .i64 q) ∧ Kept wr w') := KR1
   clear KR KR1 KA HV
   have x0 := b1.c0
   have x1 := b1.c1
   have x2 := b1.c2
   have x3 := b1.c3
   have x4 := b1.c4
   have x5 := b1.c5
   go_wp2_with fail
   refine KR2.out.mono ?_
   rintro e w3 ⟨rfl, k3⟩
   go_wp2_with fail
   go_ret
   exact ⟨rfl, kr.trans k3⟩
end Go.Proofs.YtdpccifhhencgaaGreatDoor
