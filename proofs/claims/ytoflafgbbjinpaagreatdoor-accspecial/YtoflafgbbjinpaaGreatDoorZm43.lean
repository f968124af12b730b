/- AccSpecial: no number, and infinities of both signs, tell NaN, whatever else is there; one infinity tells itself. The walk at whatever is handed in. -/
import Derived.Test.YtoflafgbbjinpaaGreatDoorZm42
import Derived.Test.YtoflafgbbjinpaaGreatDoorZm41
namespace Go.Proofs.YtoflafgbbjinpaaGreatDoor
open Go.ChangeShapes Go.WideShapes Go.ChangeAt Go.RowKit
set_option linter.unusedVariables false
set_option linter.unusedSimpArgs false
set_option maxHeartbeats 16000000
set_option maxRecDepth 100000
theorem mask8 (s : Int) : bits .and .i64 s 255 = s % 256 := by
 have e : (BitVec.ofInt 64 255 : BitVec 64).toNat = 2 ^ 8 - 1 := by decide
 have h := ofInt_toNat s
 rw [bits_and, BitVec.toNat_and, e, Nat.and_two_pow_sub_one_eq_mod, wrap_i64]
 omega
/- an item that is finite, a float -/
def clI (x w : Int) : Int := cls (ptI x w) (wdI w)
def vF (x y w : Int) : Int := if clI x w < 3 then vI 0 x y w else 0
theorem vF_lt (x y w : Int) (x1 : -9223372036854775808 ≤ x) (x2 : x ≤ 9223372036854775807) (y1 : -9223372036854775808 ≤ y) (y2 : y ≤ 9223372036854775807) : (vF x y w).natAbs < 2 ^ expJ := by
 unfold vF
 split
 ·exact vI_lt 0 x y w x1 x2 y1 y2
 ·exact Nat.two_pow_pos _
theorem fin_item (x y w : Int) (h : clI x w < 3) : iP 0 x y w = false ∧ iM 0 x y w = false ∧ iN 0 x y w = false := by
 obtain ⟨h1, h2, h3⟩ := fin_flags (wdI w) (ptI x w) (oneN (wdI w)) h (one_fin (wdI w) (wdI_ok w))
 refine ⟨?_, ?_, ?_⟩
 ·unfold iP
  rw [if_neg (by decide), if_neg (by decide)]
  exact h1
 ·unfold iM
  rw [if_neg (by decide), if_neg (by decide)]
  exact h2
 ·unfold iN
  rw [if_neg (by decide)]
  exact h3
/- four cells that are laid -/
theorem laid4k {w : World} {a b c d : Value} {t : TypeId} {u : World} (k : Kept (w.alloc (.cells #[a, b, c, d] t)) u) : u.cell? ⟨w.heap.size, 0, none⟩ = some a ∧ u.cell? ⟨w.heap.size, 1, none⟩ = some b ∧ u.cell? ⟨w.heap.size, 2, none⟩ = some c ∧ u.cell? ⟨w.heap.size, 3, none⟩ = some d := by
 refine ⟨?_, ?_, ?_, ?_⟩
 all_goals exact (k.below.cell (by simp)).trans (by simp [go_sem])
theorem neg_lit (u : World) : Calls Tryz.prog 25 #[.int .i64 9218868437227405312, .int .i64 64] u fun e w' => e = .returned (.int .i64 (-4503599627370496)) ∧ Kept u w' := by
 have := neg_any 9218868437227405312 64 (by decide) (by decide) u
 rw [show ngt 9218868437227405312 64 = -4503599627370496 by decide +kernel] at this
 exact this
theorem accSpecial_true (w : World) (hT : Tab w) (ar : Option Addr) (N cap : Nat) (fk fx fy fw : Nat → Int) (hx : ∀ j, -9223372036854775808 ≤ fx j ∧ fx j ≤ 9223372036854775807) (hy : ∀ j, -9223372036854775808 ≤ fy j ∧ fy j ≤ 9223372036854775807) (HI0 : ∀ u, Kept w u → ∀ i, i < N → ItemAt u ar i (fk i) (fx i) (fy i) (fw i)) (cut : Int) :
  Calls Tryz.prog 7 #[.slice ar N cap, .int .i64 cut] w fun e w' => e = .returned (.bool true) ∧ Kept w w' := by
 have KL : Hid (∀ u, Kept w u → Calls Tryz.prog 9 #[] u fun e w' => e = .returned (.bool true) ∧ Kept u w') := fun u k => alive3 u (hT.kept k)
 by_cases h200 : 50 < N
 ·have h2 : (50 : Int) < (N : Int) := by omega
  go_enter Tryz.func7, Tryz.ntmps7
  go_wp2_with fail
  refine (KL.out _ (Kept.refl _)).mono ?_
  rintro e w1 ⟨rfl, k1⟩
  go_wp2_with fail
  go_ret
  exact ⟨rfl, k1⟩
 have h2 : ¬ (50 : Int) < (N : Int) := by omega
 obtain ⟨v, hv⟩ : ∃ v : Nat → Int, v = fun j => vF (fx j) (fy j) (fw j) := ⟨_, rfl⟩
 have hvb : ∀ j, (v j).natAbs < 2 ^ expJ := fun j => by rw [hv]; exact vF_lt _ _ _ (hx j).1 (hx j).2 (hy j).1 (hy j).2
 have HB : Hid (∀ k, k ≤ N → (sI v k).natAbs < 2 ^ expK ∧ (sI v k + sI v k).natAbs < 2 ^ expK) := fun k hk => by
  have h1 := sI_lt v hvb k
  have h3 : 401 * 2 ^ expJ < 2 ^ expK := by
   rw [expK_is, expJ_is]
   decide +kernel
  have h4 : k * 2 ^ expJ ≤ 50 * 2 ^ expJ := Nat.mul_le_mul_right _ (by omega)
  refine ⟨by omega, by omega⟩
 have HI : Hid (∀ u, Kept w u → ∀ i, i < N → ItemAt u ar i (fk i) (fx i) (fy i) (fw i)) := HI0
 have KA : Hid (∀ (u : World) (i : Nat) (S : Int) (r q : Nm) (ao : Option Addr) (c : Nat), Kept w u → clI (fx i) (fw i) < 3 → DN S r → DN (S + v i) q → (ao = none → c = 0) → Sl u (.slice ao r.mag.length c) r.mag → Calls Tryz.prog 27 #[accV r.neg (.slice ao r.mag.length c) r.exp false false false, .agg #[.int .i64 0, .int .i64 (fx i), .int .i64 (fy i), .int .i64 (fw i)]] u fun e w' => ∃ un ua ul uc ux, e = .returned (.tuple #[accV un (.slice ua ul uc) ux false false false, .bool true]) ∧ New u w' (.agg #[.bool un, .slice ua ul uc, .int .i64 ux]) q ∧ Kept u w') := fun u i S r q ao c k hc hr hq hcz hs => by
  obtain ⟨f1, f2, f3⟩ := fin_item (fx i) (fy i) (fw i) hc
  rw [hv] at hq
  have hq' : DN (S + vI 0 (fx i) (fy i) (fw i)) q := by
   have h := hq
   simp only [vF, if_pos hc] at h
   exact h
  have := added_dn 0 (fx i) (fy i) (fw i) (hx i).1 (hx i).2 (hy i).1 (hy i).2 hr hq' false false false ao c hcz u (hT.kept k) hs
  rw [f1, f2, f3] at this
  exact this
 have HV : Hid (∀ i, (clI (fx i) (fw i) < 3 → True) ∧ (¬ clI (fx i) (fw i) < 3 → v i = 0)) := fun i => ⟨fun _ => trivial, fun h => by rw [hv]; simp only [vF, if_neg h]⟩
 have KP : Hid (∀ (i : Nat) (u : World), Calls Tryz.prog 15 #[.int .i64 (fx i), .int .i64 (fw i)] u fun e w' => e = .returned (.int .i64 (ptI (fx i) (fw i))) ∧ Kept u w') := fun i u => pattern3 (fx i) (fw i) u
 have KC : Hid (∀ (i : Nat) (u : World), Calls Tryz.prog 26 #[.int .i64 (ptI (fx i) (fw i)), .int .i64 (wdI (fw i))] u fun e w' => e = .returned (.int .i64 (clI (fx i) (fw i))) ∧ Kept u w') := fun i u => class_any _ _ u
 have KPi : Hid (∀ (S : Int) (r : Nm) (ao : Option Addr) (c : Nat) (u : World), DN S r → Kept w u → Sl u (.slice ao r.mag.length c) r.mag → Calls Tryz.prog 28 #[accV r.neg (.slice ao r.mag.length c) r.exp false false false, .int .i64 9218868437227405312, .int .i64 64] u fun e w' => ∃ va vc, e = .returned (.tuple #[accV r.neg (.slice va r.mag.length vc) r.exp true false false, .int .i64 0]) ∧ Hid (Sl w' (.slice va r.mag.length vc) r.mag) ∧ Kept u w') := fun S r ao c u hr k h => add_pinf hr ao c u (hT.kept k) h
 have KMi : Hid (∀ (S : Int) (r : Nm) (ao : Option Addr) (c : Nat) (u : World), DN S r → Kept w u → Sl u (.slice ao r.mag.length c) r.mag → Calls Tryz.prog 28 #[accV r.neg (.slice ao r.mag.length c) r.exp false false false, .int .i64 4286578688, .int .i64 32] u fun e w' => ∃ va vc, e = .returned (.tuple #[accV r.neg (.slice va r.mag.length vc) r.exp false true false, .int .i64 0]) ∧ Hid (Sl w' (.slice va r.mag.length vc) r.mag) ∧ Kept u w') := fun S r ao c u hr k h => add_minf hr ao c u (hT.kept k) h
 have KNo : Hid (∀ (S : Int) (r : Nm) (ao : Option Addr) (c : Nat) (u : World), DN S r → Kept w u → Sl u (.slice ao r.mag.length c) r.mag → Calls Tryz.prog 19 #[accV r.neg (.slice ao r.mag.length c) r.exp true false false, .int .i64 9218868437227405312, .int .i64 0, .int .i64 64] u fun e w' => ∃ va vc, e = .returned (.tuple #[accV r.neg (.slice va r.mag.length vc) r.exp true false true, .int .i64 0]) ∧ Hid (Sl w' (.slice va r.mag.length vc) r.mag) ∧ Kept u w') := fun S r ao c u hr k h => add_none hr ao c u (hT.kept k) h
 have KMg : Hid (∀ (S : Int) (r q : Nm) (ao bo : Option Addr) (c d : Nat) (u : World), DN S r → DN (S + S) q → Kept w u → Sl u (.slice ao r.mag.length c) r.mag → Sl u (.slice bo r.mag.length d) r.mag → Calls Tryz.prog 29 #[accV r.neg (.slice ao r.mag.length c) r.exp true false false, accV r.neg (.slice bo r.mag.length d) r.exp false true false] u fun e w' => ∃ va vc, e = .returned (.tuple #[accV q.neg (.slice va q.mag.length vc) q.exp true true false, .int .i64 0]) ∧ Hid (Sl w' (.slice va q.mag.length vc) q.mag) ∧ Kept u w') := fun S r q ao bo c d u hr hq k h h' => merge_pm hr hq ao bo c d u (hT.kept k) h h'
 have KRp : Hid (∀ (S : Int) (r : Nm) (ao : Option Addr) (c : Nat) (u : World), DN S r → Kept w u → Sl u (.slice ao r.mag.length c) r.mag → Calls Tryz.prog 20 #[accV r.neg (.slice ao r.mag.length c) r.exp true false false, .int .i64 32] u fun e w' => e = .returned (.tuple #[.int .i64 2139095040, .int .i64 0]) ∧ Kept u w') := fun S r ao c u hr k h => round_all hr 32 (.inr rfl) true false false ao c u (hT.kept k) h
 have KRm : Hid (∀ (S : Int) (r : Nm) (ao : Option Addr) (c : Nat) (u : World), DN S r → Kept w u → Sl u (.slice ao r.mag.length c) r.mag → Calls Tryz.prog 20 #[accV r.neg (.slice ao r.mag.length c) r.exp false true false, .int .i64 64] u fun e w' => e = .returned (.tuple #[.int .i64 (-4503599627370496), .int .i64 0]) ∧ Kept u w') := fun S r ao c u hr k h => round_all hr 64 (.inl rfl) false true false ao c u (hT.kept k) h
 have KRb : Hid (∀ (S : Int) (r : Nm) (ao : Option Addr) (c : Nat) (u : World), DN S r → Kept w u → Sl u (.slice ao r.mag.length c) r.mag → Calls Tryz.prog 20 #[accV r.neg (.slice ao r.mag.length c) r.exp true true false, .int .i64 64] u fun e w' => e = .returned (.tuple #[.int .i64 9221120237041090561, .int .i64 0]) ∧ Kept u w') := fun S r ao c u hr k h => round_all hr 64 (.inl rfl) true true false ao c u (hT.kept k) h
 have KMe : Hid (∀ (S : Int) (r : Nm) (ao : Option Addr) (c : Nat) (u : World) (m : Int), 0 < m → m ≤ 300 → DN S r → Kept w u → Sl u (.slice ao r.mag.length c) r.mag → Calls Tryz.prog 22 #[accV r.neg (.slice ao r.mag.length c) r.exp true false true, .int .i64 m, .int .i64 32] u fun e w' => e = .returned (.tuple #[.int .i64 2143289345, .int .i64 0]) ∧ Kept u w') := fun S r ao c u m m1 m2 hr k h => by
  obtain ⟨q, o, b, -, -, hM⟩ := mean_all hr 32 m (.inr rfl) m1 (by omega)
  exact hM true false true ao c u (hT.kept k) h
 have KNg : Hid (∀ u, Calls Tryz.prog 25 #[.int .i64 9218868437227405312, .int .i64 64] u fun e w' => e = .returned (.int .i64 (-4503599627370496)) ∧ Kept u w') := fun u => neg_lit u
 clear hT HI0 hvb hx hy hv
 obtain ⟨D, hD⟩ : ∃ D, D = w.alloc (.cells #[.bool false, .slice none 0 0, .int .i64 0, .bool false, .bool false, .bool false] 26) := ⟨_, rfl⟩
 have kD : Kept w D := by rw [hD]; exact (Kept.refl w).alloc _ _
 obtain ⟨Ba, hBa⟩ : ∃ B, B = w.heap.size := ⟨_, rfl⟩
 obtain ⟨lo, hlo⟩ : ∃ B, B = w.heap.size + 1 := ⟨_, rfl⟩
 have hDs : D.heap.size = lo := by rw [hD, hlo]; simp
 have ba : Box D lo Ba ⟨false, [], 0⟩ false false false none 0 := by
  have hlt : Ba < D.heap.size := by omega
  refine ⟨?_, ?_, ?_, ?_, ?_, ?_, fun o => ?_, hlt, fun _ => rfl, sl_none _, fun b off e => by cases e⟩
  all_goals
   rw [hD, hBa]
   simp [go_sem]
 have o1 : w.heap.size ≤ Ba := by omega
 have l1 : Ba < lo := by omega
 go_enter Tryz.func7, Tryz.ntmps7
 go_upto_region 5 with fail
 rw [← hD, ← hBa]
 clear hD hBa hlo
 go_wp2_with fail
 go_loopw [7] (fun t7 wr => ∃ (k : Nat) (ra : Nm) (aa : Option Addr) (ca : Nat), k ≤ N ∧ t7 = .int .i64 k ∧ Kept w wr ∧ lo ≤ wr.heap.size ∧ Box wr lo Ba ra false false false aa ca ∧ DN (sI v k) ra) (fun i _ => N - (intOf i).toNat)
 case atStart => exact ⟨0, _, _, _, Nat.zero_le _, rfl, kD, Nat.le_of_eq hDs.symm, ba, dn_zero⟩
 case round =>
  obtain ⟨k, ra, aa, ca, hk, rfl, kr, hsz, ba1, da⟩ := hrel
  clear ba kD hDs
  by_cases hkn : k < N
  ·obtain ⟨q, hq⟩ := dn_some (sI v (k + 1)) (HB.out (k + 1) hkn).1
   obtain ⟨b, off, rfl, -⟩ := HI.out _ kr k hkn
   have HIk : Hid (∀ u, Kept w u → u.cell? ⟨b, off + k * 4, none⟩ = some (.int .i64 (fk k)) ∧ u.cell? ⟨b, off + k * 4 + 1, none⟩ = some (.int .i64 (fx k)) ∧ u.cell? ⟨b, off + k * 4 + 2, none⟩ = some (.int .i64 (fy k)) ∧ u.cell? ⟨b, off + k * 4 + 3, none⟩ = some (.int .i64 (fw k))) := fun u ku => by
    obtain ⟨b', off', e, hh⟩ := HI.out u ku k hkn
    cases e
    exact hh
   have KAk : Hid (∀ (u : World), clI (fx k) (fw k) < 3 → Kept w u → Sl u (.slice aa ra.mag.length ca) ra.mag → Calls Tryz.prog 27 #[accV ra.neg (.slice aa ra.mag.length ca) ra.exp false false false, .agg #[.int .i64 0, .int .i64 (fx k), .int .i64 (fy k), .int .i64 (fw k)]] u fun e w' => ∃ un ua ul uc ux, e = .returned (.tuple #[accV un (.slice ua ul uc) ux false false false, .bool true]) ∧ New u w' (.agg #[.bool un, .slice ua ul uc, .int .i64 ux]) q ∧ Kept u w') := fun u hc ku hs => KA.out u k (sI v k) ra q aa ca ku hc da hq ba1.hc hs
   have KPk : Hid (∀ (u : World), Calls Tryz.prog 15 #[.int .i64 (fx k), .int .i64 (fw k)] u fun e w' => e = .returned (.int .i64 (ptI (fx k) (fw k))) ∧ Kept u w') := fun u => KP.out k u
   have KCk : Hid (∀ (u : World), Calls Tryz.prog 26 #[.int .i64 (ptI (fx k) (fw k)), .int .i64 (wdI (fw k))] u fun e w' => e = .returned (.int .i64 (clI (fx k) (fw k))) ∧ Kept u w') := fun u => KC.out k u
   obtain ⟨-, hv0⟩ := HV.out k
   obtain ⟨i0, i1, i2, i3⟩ := HIk.out _ kr
   clear HI HIk KA KP KC HV HB KPi KMi KNo KMg KRp KRm KRb KMe KNg KL
   obtain ⟨X1, hX1⟩ : ∃ t, t = fx k := ⟨_, rfl⟩
   obtain ⟨X2, hX2⟩ : ∃ t, t = fy k := ⟨_, rfl⟩
   obtain ⟨X3, hX3⟩ : ∃ t, t = fw k := ⟨_, rfl⟩
   obtain ⟨px, hpx⟩ : ∃ t, t = ptI X1 X3 := ⟨_, rfl⟩
   obtain ⟨n, hn⟩ : ∃ t, t = wdI X3 := ⟨_, rfl⟩
   obtain ⟨cl, hcl⟩ : ∃ t, t = clI X1 X3 := ⟨_, rfl⟩
   rw [← hX1, ← hX2, ← hX3, ← hcl] at KAk
   rw [← hX1, ← hX3, ← hpx] at KPk
   rw [← hX1, ← hX3, ← hpx, ← hn, ← hcl] at KCk
   rw [← hX1, ← hX3, ← hcl] at hv0
   rw [← hX1] at i1
   rw [← hX2] at i2
   rw [← hX3] at i3
   obtain ⟨t, ht⟩ : ∃ t, t = X3 % 2 := ⟨_, rfl⟩
   have ew1 : bits .and .i64 X3 1 = t := by rw [and_one, ht]
   have ew2 : IntKind.i64.wrap (32 * t) = 32 * t := by rw [wrap_i64]; omega
   have ew3 : IntKind.i64.wrap (32 + 32 * t) = n := by
    rw [hn, ht, wrap_i64]
    unfold wdI
    split <;> omega
   clear hX1 hX2 hX3 hpx hn hcl ht
   obtain ⟨X, hX⟩ : ∃ X, X = wr.alloc (.cells #[.int .i64 0, .int .i64 X1, .int .i64 X2, .int .i64 X3] 40) := ⟨_, rfl⟩
   obtain ⟨B, hB⟩ : ∃ B, B = wr.heap.size := ⟨_, rfl⟩
   have kX : Kept wr X := by rw [hX]; exact (Kept.refl _).alloc _ _
   have HX : Hid (∀ u, Kept X u → Kept X u ∧ u.cell? ⟨B, 0, none⟩ = some (.int .i64 0) ∧ u.cell? ⟨B, 1, none⟩ = some (.int .i64 X1) ∧ u.cell? ⟨B, 2, none⟩ = some (.int .i64 X2) ∧ u.cell? ⟨B, 3, none⟩ = some (.int .i64 X3)) := fun u ku => ⟨ku, by rw [hX] at ku; rw [hB]; exact laid4k ku⟩
   go_upto_region 10 with fail
   rw [← hX, ← hB]
   clear hX hB
   refine wp_region_held_drew (S := fun u => Kept X u ∧ u.cell? ⟨B, 0, none⟩ = some (.int .i64 0) ∧ u.cell? ⟨B, 1, none⟩ = some (.int .i64 X1) ∧ u.cell? ⟨B, 2, none⟩ = some (.int .i64 X2) ∧ u.cell? ⟨B, 3, none⟩ = some (.int .i64 X3)) (by kernel_rfl) (HX.out _ (Kept.refl _).drew) (fun hHeld => ?_)
   refine tk (i := 0) (v := ?_) rfl ?_
   simp only [Act.put, zA, zB, zC, zD, zE, zF]
   refine tk (i := 1) (v := ?_) rfl ?_
   simp only [Act.put, zA, zB, zC, zD, zE, zF]
   refine tk (i := 2) (v := ?_) rfl ?_
   simp only [Act.put, zA, zB, zC, zD, zE, zF]
   refine tk (i := 3) (v := ?_) rfl ?_
   simp only [Act.put, zA, zB, zC, zD, zE, zF]
   refine tk (i := 5) (v := ?_) rfl ?_
   simp only [Act.put, zA, zB, zC, zD, zE, zF]
   refine tk (i := 6) (v := ?_) rfl ?_
   simp only [Act.put, zA, zB, zC, zD, zE, zF]
   refine tk (i := 7) (v := ?_) rfl ?_
   simp only [Act.put, zA, zB, zC, zD, zE, zF]
   refine tk (i := 8) (v := ?_) rfl ?_
   simp only [Act.put, zA, zB, zC, zD, zE, zF]
   refine tk (i := 9) (v := ?_) rfl ?_
   simp only [Act.put, zA, zB, zC, zD, zE, zF]
   refine wpAnyH_ready (rs := [4]) (by kernel_rfl) (by simp) ?_
   refine AllReadyH.cons rfl (fun K hK9 => ?_) AllReadyH.nil
   go_simp
   go_wp2_with fail
   refine (KPk.out _).mono ?_
   rintro e ua ⟨rfl, ka⟩
   have ea := HX.out _ (hHeld.1.trans ka)
   refine hK9.out _ _ ea (fun hHelda => ?_)
   clear hK9 K
   refine wpAnyH_ready (rs := [10]) (by kernel_rfl) (by simp) ?_
   refine AllReadyH.cons rfl (fun K hK9 => ?_) AllReadyH.nil
   go_simp
   go_wp2_with fail
   refine (KCk.out _).mono ?_
   rintro e ub ⟨rfl, kb⟩
   have eb := HX.out _ (hHelda.1.trans kb)
   refine hK9.out _ _ eb (fun hHeldb => ?_)
   clear hK9 K
   refine tk (i := 11) (v := ?_) rfl ?_
   simp only [Act.put, zA, zB, zC, zD, zE, zF]
   refine wpAnyH_done (by kernel_rfl) ?_ _
   have kub : Kept wr ub := kX.trans hHeldb.1
   have bx := ba1.kept kub
   have hszb : lo ≤ ub.heap.size := Nat.le_trans hsz kub.below.size
   obtain ⟨-, x0, x1, x2, x3⟩ := hHeldb
   clear hHeld hHelda ea eb ka kb ba1 i0 i1 i2 i3 HX kX KPk KCk
   by_cases hc : cl < 3
   ·have g0 := bx.c0
    have g1 := bx.c1
    have g2 := bx.c2
    have g3 := bx.c3
    have g4 := bx.c4
    have g5 := bx.c5
    go_wp2_with fail
    refine (KAk.out _ hc (kr.trans kub) bx.sl).mono ?_
    rintro e uc ⟨un, ua, ul, ucc, ux, rfl, hN, kc⟩
    have by2 := bx.kept kc
    clear g0 g1 g2 g3 g4 g5
    have g0 := by2.c0
    have g1 := by2.c1
    have g2 := by2.c2
    have g3 := by2.c3
    have g4 := by2.c4
    have g5 := by2.c5
    have g6 := by2.fz
    go_wp2_with fail
    go_roundw
    case rel =>
     refine ⟨k + 1, q, ua, ucc, hkn, by go_num, kept_six1 Ba o1 (kr.trans (kub.trans kc)) _ _ _ _ _ _, ?_, by2.new l1 hszb un ua ul ucc ux hN false false false, hq⟩
     have := kc.below.size
     simp
     omega
    case measure => simp [intOf]; omega
   ·go_wp2_with fail
    go_roundw
    case rel =>
     refine ⟨k + 1, ra, aa, ca, hkn, by go_num, kr.trans kub, hszb, bx, ?_⟩
     simp only [sI]
     rw [hv0 (by omega), Int.add_zero]
     exact da
    case measure => simp [intOf]; omega
  ·obtain rfl : k = N := by omega
   obtain ⟨q, hq⟩ := dn_some (sI v k + sI v k) (HB.out k (Nat.le_refl _)).2
   obtain ⟨sv, hsv⟩ : ∃ s, s = sI v k := ⟨_, rfl⟩
   rw [← hsv] at da hq
   clear HI HB HV KA KP KC hsv
   have sl0 : Hid (∀ u, Kept wr u → Sl u (.slice aa ra.mag.length ca) ra.mag) := fun u ku => ba1.sl.kept ku
   have HB0 : Hid (∀ u, Kept wr u → u.cell? ⟨Ba, 0, none⟩ = some (.bool ra.neg) ∧ u.cell? ⟨Ba, 1, none⟩ = some (.slice aa ra.mag.length ca) ∧ u.cell? ⟨Ba, 2, none⟩ = some (.int .i64 ra.exp) ∧ u.cell? ⟨Ba, 3, none⟩ = some (.bool false) ∧ u.cell? ⟨Ba, 4, none⟩ = some (.bool false) ∧ u.cell? ⟨Ba, 5, none⟩ = some (.bool false)) := fun u ku => ⟨(ba1.kept ku).c0, (ba1.kept ku).c1, (ba1.kept ku).c2, (ba1.kept ku).c3, (ba1.kept ku).c4, (ba1.kept ku).c5⟩
   clear ba1
   obtain ⟨m, hm⟩ : ∃ m, m = 1 + cut % 256 := ⟨_, rfl⟩
   have em1 : bits .and .i64 cut 255 = m - 1 := by rw [mask8, hm]; omega
   have em2 : IntKind.i64.wrap (1 + (m - 1)) = m := by rw [wrap_i64]; omega
   have m1 : 0 < m := by omega
   have m2 : m ≤ 300 := by omega
   clear hm
   obtain ⟨c0, c1, c2, c3, c4, c5⟩ := HB0.out _ (Kept.refl _)
   go_wp2_with fail
   refine (KPi.out _ _ _ _ _ da kr (sl0.out _ (Kept.refl _))).mono ?_
   rintro e w1 ⟨pa, pc, rfl, sp, k1⟩
   clear c0 c1 c2 c3 c4 c5
   obtain ⟨Bp, hBp⟩ : ∃ B, B = w1.heap.size := ⟨_, rfl⟩
   obtain ⟨D1, hD1⟩ : ∃ D, D = w1.alloc (.cells #[.bool ra.neg, .slice pa ra.mag.length pc, .int .i64 ra.exp, .bool true, .bool false, .bool false] 26) := ⟨_, rfl⟩
   have kD1 : Kept wr D1 := by rw [hD1]; exact k1.alloc _ _
   have HP : Hid (∀ u, Kept D1 u → _) := fun u ku => acc_cells1 ra.neg (.slice pa ra.mag.length pc) ra.exp true false false 26 Bp hBp (by rw [hD1]; exact Kept.refl _) u ku
   have sp1 : Hid (∀ u, Kept D1 u → Sl u (.slice pa ra.mag.length pc) ra.mag) := fun u ku => (sp.out.kept (by rw [hD1]; exact (Kept.refl _).alloc _ _)).kept ku
   go_upto_region 13 with fail
   rw [← hBp, ← hD1]
   clear hBp hD1 sp k1
   obtain ⟨c0, c1, c2, c3, c4, c5⟩ := HB0.out _ kD1
   go_wp2_with fail
   refine (KMi.out _ _ _ _ _ da (kr.trans kD1) (sl0.out _ kD1)).mono ?_
   rintro e w2 ⟨ma, mc, rfl, sm, k2⟩
   clear c0 c1 c2 c3 c4 c5 HB0
   obtain ⟨Bm, hBm⟩ : ∃ B, B = w2.heap.size := ⟨_, rfl⟩
   obtain ⟨D2, hD2⟩ : ∃ D, D = w2.alloc (.cells #[.bool ra.neg, .slice ma ra.mag.length mc, .int .i64 ra.exp, .bool false, .bool true, .bool false] 26) := ⟨_, rfl⟩
   have kD2 : Kept D1 D2 := by rw [hD2]; exact k2.alloc _ _
   have HM : Hid (∀ u, Kept D2 u → _) := fun u ku => acc_cells1 ra.neg (.slice ma ra.mag.length mc) ra.exp false true false 26 Bm hBm (by rw [hD2]; exact Kept.refl _) u ku
   have sm1 : Hid (∀ u, Kept D2 u → Sl u (.slice ma ra.mag.length mc) ra.mag) := fun u ku => (sm.out.kept (by rw [hD2]; exact (Kept.refl _).alloc _ _)).kept ku
   go_upto_region 14 with fail
   rw [← hBm, ← hD2]
   clear hBm hD2 sm k2
   have kw2 : Kept w D2 := (kr.trans kD1).trans kD2
   obtain ⟨c0, c1, c2, c3, c4, c5⟩ := HP.out _ kD2
   obtain ⟨d0, d1, d2, d3, d4, d5⟩ := HM.out _ (Kept.refl _)
   go_wp2_with fail
   refine (KMg.out _ _ _ _ _ _ _ _ da hq kw2 (sp1.out _ kD2) (sm1.out _ (Kept.refl _))).mono ?_
   rintro e w3 ⟨ba, bc, rfl, sb, k3⟩
   clear c0 c1 c2 c3 c4 c5 d0 d1 d2 d3 d4 d5
   obtain ⟨Bb, hBb⟩ : ∃ B, B = w3.heap.size := ⟨_, rfl⟩
   obtain ⟨D3, hD3⟩ : ∃ D, D = w3.alloc (.cells #[.bool q.neg, .slice ba q.mag.length bc, .int .i64 q.exp, .bool true, .bool true, .bool false] 26) := ⟨_, rfl⟩
   have kD3 : Kept D2 D3 := by rw [hD3]; exact k3.alloc _ _
   have HQ : Hid (∀ u, Kept D3 u → _) := fun u ku => acc_cells1 q.neg (.slice ba q.mag.length bc) q.exp true true false 26 Bb hBb (by rw [hD3]; exact Kept.refl _) u ku
   have sb1 : Hid (∀ u, Kept D3 u → Sl u (.slice ba q.mag.length bc) q.mag) := fun u ku => (sb.out.kept (by rw [hD3]; exact (Kept.refl _).alloc _ _)).kept ku
   go_upto_region 15 with fail
   rw [← hBb, ← hD3]
   clear hBb hD3 sb k3
   obtain ⟨c0, c1, c2, c3, c4, c5⟩ := HP.out _ (kD2.trans kD3)
   go_wp2_with fail
   refine (KNo.out _ _ _ _ _ da (kw2.trans kD3) (sp1.out _ (kD2.trans kD3))).mono ?_
   rintro e w4 ⟨na, nc, rfl, sn, k4⟩
   clear c0 c1 c2 c3 c4 c5
   obtain ⟨Bn, hBn⟩ : ∃ B, B = w4.heap.size := ⟨_, rfl⟩
   obtain ⟨D4, hD4⟩ : ∃ D, D = w4.alloc (.cells #[.bool ra.neg, .slice na ra.mag.length nc, .int .i64 ra.exp, .bool true, .bool false, .bool true] 26) := ⟨_, rfl⟩
   have kD4 : Kept D3 D4 := by rw [hD4]; exact k4.alloc _ _
   have HN : Hid (∀ u, Kept D4 u → _) := fun u ku => acc_cells1 ra.neg (.slice na ra.mag.length nc) ra.exp true false true 26 Bn hBn (by rw [hD4]; exact Kept.refl _) u ku
   have sn1 : Hid (∀ u, Kept D4 u → Sl u (.slice na ra.mag.length nc) ra.mag) := fun u ku => (sn.out.kept (by rw [hD4]; exact (Kept.refl _).alloc _ _)).kept ku
   go_upto_region 16 with fail
   rw [← hBn, ← hD4]
   clear hBn hD4 sn k4
   have kw4 : Kept w D4 := (kw2.trans kD3).trans kD4
   have kp4 : Kept D1 D4 := (kD2.trans kD3).trans kD4
   have km4 : Kept D2 D4 := kD3.trans kD4
   obtain ⟨c0, c1, c2, c3, c4, c5⟩ := HP.out _ kp4
   go_wp2_with fail
   refine (KRp.out _ _ _ _ _ da kw4 (sp1.out _ kp4)).mono ?_
   rintro e w5 ⟨rfl, k5⟩
   clear c0 c1 c2 c3 c4 c5
   obtain ⟨c0, c1, c2, c3, c4, c5⟩ := HM.out _ (km4.trans k5)
   go_wp2_with fail
   refine (KRm.out _ _ _ _ _ da (kw4.trans k5) (sm1.out _ (km4.trans k5))).mono ?_
   rintro e w6 ⟨rfl, k6⟩
   have k56 := k5.trans k6
   clear c0 c1 c2 c3 c4 c5
   obtain ⟨c0, c1, c2, c3, c4, c5⟩ := HQ.out _ (kD4.trans k56)
   go_wp2_with fail
   refine (KRb.out _ _ _ _ _ hq (kw4.trans k56) (sb1.out _ (kD4.trans k56))).mono ?_
   rintro e w7 ⟨rfl, k7⟩
   have k57 := k56.trans k7
   clear c0 c1 c2 c3 c4 c5
   obtain ⟨c0, c1, c2, c3, c4, c5⟩ := HN.out _ k57
   go_wp2_with fail
   refine (KMe.out _ _ _ _ _ m m1 m2 da (kw4.trans k57) (sn1.out _ k57)).mono ?_
   rintro e w8 ⟨rfl, k8⟩
   have k58 := k57.trans k8
   clear c0 c1 c2 c3 c4 c5
   go_wp2_with fail
   refine (KL.out _ (kw4.trans k58)).mono ?_
   rintro e w9 ⟨rfl, k9⟩
   go_wp2_with fail
   refine (KNg.out _).mono ?_
   rintro e w10 ⟨rfl, k10⟩
   go_wp2_with fail
   go_ret
   exact ⟨rfl, ((kw4.trans k58).trans k9).trans k10⟩
theorem special_at {W : World} (hT : Tab W) (ar : Option Addr) (len cap : Nat) (h : ∀ i, i < len → ∃ z : Int × Int × Int × Int, ItemAt W ar i z.1 z.2.1 z.2.2.1 z.2.2.2 ∧ (-9223372036854775808 ≤ z.2.1 ∧ z.2.1 ≤ 9223372036854775807) ∧ (-9223372036854775808 ≤ z.2.2.1 ∧ z.2.2.1 ≤ 9223372036854775807)) (cut : Int) :
  Calls Tryz.prog 7 #[.slice ar len cap, .int .i64 cut] W fun e w' => e = .returned (.bool true) ∧ Kept W w' := by
 obtain ⟨fk, fx, fy, fw, hx, hy, HI⟩ := items_fun ar len h
 exact accSpecial_true W hT ar len cap fk fx fy fw hx hy HI cut
end Go.Proofs.YtoflafgbbjinpaaGreatDoor
