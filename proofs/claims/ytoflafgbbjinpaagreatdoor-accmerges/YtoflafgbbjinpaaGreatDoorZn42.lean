/- For AccMerges: Merge, Neg, AddNum, Same of any sums, and the document's. -/
import Derived.Test.YtoflafgbbjinpaaGreatDoorZn40
import Derived.Test.YtoflafgbbjinpaaGreatDoorZn41
import Derived.Test.YtoflafgbbjinpaaGreatDoorZn39
import Derived.Test.YtoflafgbbjinpaaGreatDoorZn13
namespace Go.Proofs.YtoflafgbbjinpaaGreatDoor
open Go.ChangeShapes Go.WideShapes Go.ChangeAt Go.RowKit
set_option linter.unusedVariables false
set_option linter.unusedSimpArgs false
set_option maxHeartbeats 16000000
set_option maxRecDepth 100000
theorem new_nil {w w' : World} {v : Value} (h : New w w' v ⟨false, [], 0⟩) : v = zeroNum := by
 rcases h with ⟨-, rfl⟩ | ⟨g, cap, e, hg, ho, hne⟩
 ·rfl
 ·exact absurd rfl hne
/- Merge of any two -/
theorem merge_all (a b : Nm) (ra : Rg a.mag) (rb : Rg b.mag) (la : a.mag.length < 60000000) (lb : b.mag.length < 60000000) (p1 m1 z1 p2 m2 z2 : Bool) : ∃ (rp : Nm) (pe : Int) (P M Z : Bool), (∀ (u : World) (a1 a2 : Option Addr) (c1 c2 : Nat), Tab u → Sl u (.slice a1 a.mag.length c1) a.mag → Sl u (.slice a2 b.mag.length c2) b.mag → Calls Tryz.prog 29 #[accV a.neg (.slice a1 a.mag.length c1) a.exp p1 m1 z1, accV b.neg (.slice a2 b.mag.length c2) b.exp p2 m2 z2] u fun e w' => ∃ un ua ul uc ux, e = .returned (.tuple #[accV un (.slice ua ul uc) ux P M Z, .int .i64 pe]) ∧ New u w' (.agg #[.bool un, .slice ua ul uc, .int .i64 ux]) rp ∧ Kept u w') ∧ ((vld a && vld b) = false → rp = ⟨false, [], 0⟩ ∧ pe = 7 ∧ P = false ∧ M = false ∧ Z = false) ∧ ((vld a && vld b) = true → if vld (pls a b) = true then rp = pls a b ∧ pe = 0 ∧ P = (p1 || p2) ∧ M = (m1 || m2) ∧ Z = (z1 || z2) else rp = ⟨false, [], 0⟩ ∧ pe = 2 ∧ P = false ∧ M = false ∧ Z = false) := by
 obtain ⟨rp, pe, hA, hb, ho⟩ := add_all a b ra rb la lb
 by_cases h0 : pe = 0
 ·subst h0
  refine ⟨rp, 0, (p1 || p2), (m1 || m2), (z1 || z2), fun u a1 a2 c1 c2 hT h1 h2 => merge_ok a.neg a1 a.mag.length c1 a.exp p1 m1 z1 b.neg a2 b.mag.length c2 b.exp p2 m2 z2 u rp (fun v k => hA v a1 a2 c1 c2 (hT.kept k) (h1.kept k) (h2.kept k)), fun h => absurd (hb h).2 (by decide), fun h => ?_⟩
  have := ho h
  by_cases hv : vld (pls a b) = true
  ·rw [if_pos hv] at this ⊢
   exact ⟨this.1, rfl, rfl, rfl, rfl⟩
  ·rw [if_neg hv] at this
   exact absurd this.2 (by decide)
 ·have hz : rp = ⟨false, [], 0⟩ := by
   cases hok : (vld a && vld b) with
   | false => exact (hb hok).1
   | true =>
    have := ho hok
    by_cases hv : vld (pls a b) = true
    ·rw [if_pos hv] at this
     exact absurd this.2 h0
    ·rw [if_neg hv] at this
     exact this.1
  subst hz
  refine ⟨⟨false, [], 0⟩, pe, false, false, false, fun u a1 a2 c1 c2 hT h1 h2 => ?_, fun h => ⟨rfl, (hb h).2, rfl, rfl, rfl⟩, fun h => ?_⟩
  ·refine (merge_no a.neg a1 a.mag.length c1 a.exp p1 m1 z1 b.neg a2 b.mag.length c2 b.exp p2 m2 z2 u pe h0 (fun v k => ?_)).mono ?_
   ·refine (hA v a1 a2 c1 c2 (hT.kept k) (h1.kept k) (h2.kept k)).mono ?_
    rintro e w' ⟨x, rfl, hN, k2⟩
    obtain rfl := new_nil hN
    exact ⟨rfl, k2⟩
   ·rintro e w' ⟨rfl, k2⟩
    exact ⟨false, none, 0, 0, 0, rfl, new_zero _ _, k2⟩
  ·have := ho h
   by_cases hv : vld (pls a b) = true
   ·rw [if_pos hv] at this
    exact absurd this.2 h0
   ·rw [if_neg hv] at this ⊢
    exact ⟨rfl, this.2, rfl, rfl, rfl⟩
theorem addNum_gen (ng : Bool) (ao : Option Addr) (l cap : Nat) (xx : Int) (p m z : Bool) (yn : Bool) (ya : Option Addr) (yl yc : Nat) (yx : Int) (w : World) (r : Nm) (P M Z : Bool) (f : Int)
  (KM : Hid (∀ u, Kept w u → Calls Tryz.prog 29 #[accV ng (.slice ao l cap) xx p m z, accV yn (.slice ya yl yc) yx false false false] u fun e w' => ∃ un ua ul uc ux, e = .returned (.tuple #[accV un (.slice ua ul uc) ux P M Z, .int .i64 f]) ∧ New u w' (.agg #[.bool un, .slice ua ul uc, .int .i64 ux]) r ∧ Kept u w')) :
  Calls Tryz.prog 30 #[accV ng (.slice ao l cap) xx p m z, .agg #[.bool yn, .slice ya yl yc, .int .i64 yx]] w fun e w' => ∃ un ua ul uc ux, e = .returned (.tuple #[accV un (.slice ua ul uc) ux P M Z, .int .i64 f]) ∧ New w w' (.agg #[.bool un, .slice ua ul uc, .int .i64 ux]) r ∧ Kept w w' := by
 obtain ⟨Y, hY⟩ : ∃ X, X = (w.alloc (.cells #[.bool ng, .slice ao l cap, .int .i64 xx, .bool p, .bool m, .bool z] 26)).alloc (.cells #[.bool yn, .slice ya yl yc, .int .i64 yx] 24) := ⟨_, rfl⟩
 obtain ⟨X, hX⟩ : ∃ X, X = ((w.alloc (.cells #[.bool ng, .slice ao l cap, .int .i64 xx, .bool p, .bool m, .bool z] 26)).alloc (.cells #[.bool yn, .slice ya yl yc, .int .i64 yx] 24)).alloc (.cells #[.bool false, .slice none 0 0, .int .i64 0, .bool false, .bool false, .bool false] 26) := ⟨_, rfl⟩
 have k0 : Kept w X := by rw [hX]; exact (((Kept.refl w).alloc _ _).alloc _ _).alloc _ _
 obtain ⟨B, hB⟩ : ∃ B, B = w.heap.size := ⟨_, rfl⟩
 obtain ⟨B1, hB1⟩ : ∃ B, B = w.heap.size + 1 := ⟨_, rfl⟩
 obtain ⟨B2, hB2⟩ : ∃ B, B = w.heap.size + 1 + 1 := ⟨_, rfl⟩
 have HR : Hid (∀ u, Kept X u → _) := acc_res1 (w := Y) 26 B2 (by rw [hY, hB2]; simp) (by rw [hX, hY]; exact Kept.refl _)
 have HX : Hid (B2 < X.heap.size ∧ w.heap.size ≤ B2) := ⟨by rw [hX, hB2]; simp, by omega⟩
 have HA : Hid ((X.cell? ⟨B, 0, none⟩ = some (.bool ng) ∧ X.cell? ⟨B, 1, none⟩ = some (.slice ao l cap) ∧ X.cell? ⟨B, 2, none⟩ = some (.int .i64 xx) ∧ X.cell? ⟨B, 3, none⟩ = some (.bool p) ∧ X.cell? ⟨B, 4, none⟩ = some (.bool m) ∧ X.cell? ⟨B, 5, none⟩ = some (.bool z)) ∧ X.cell? ⟨B1, 0, none⟩ = some (.bool yn) ∧ X.cell? ⟨B1, 1, none⟩ = some (.slice ya yl yc) ∧ X.cell? ⟨B1, 2, none⟩ = some (.int .i64 yx)) := by
  rw [hX, hB1, hB]
  refine ⟨⟨?_, ?_, ?_, ?_, ?_, ?_⟩, ?_, ?_, ?_⟩ <;> simp [go_sem]
 go_enter Tryz.func30, Tryz.ntmps30
 go_upto_region 1 with fail
 rw [← hX, ← hB2, ← hB1, ← hB]
 clear hX hB1 hB2 hY hB
 obtain ⟨⟨c0, c1, c2, c3, c4, c5⟩, d0, d1, d2⟩ := HA.out
 go_wp2_with fail
 refine (KM.out _ k0).mono ?_
 rintro e w1 ⟨un, ua, ul, uc, ux, rfl, hN, k1⟩
 clear c0 c1 c2 c3 c4 c5 d0 d1 d2 HA KM
 obtain ⟨r0, r1, r2, r3, r4, r5, r6⟩ := HR.out _ k1
 go_wp2_with fail
 refine bodyPost_ret (v := .tuple #[accV un (.slice ua ul uc) ux P M Z, .int .i64 f]) (by simp [results, Tryz.results30, go_sem, r0, r1, r2, r3, r4, r5]) rfl ⟨un, ua, ul, uc, ux, rfl, ?_, ?_⟩
 ·exact new_six1 B2 HX.out.2 hN HX.out.1 _ _ _ _ _ _
 ·exact kept_six1 B2 HX.out.2 (k0.trans k1) _ _ _ _ _ _
theorem addNum_all (a b : Nm) (ra : Rg a.mag) (rb : Rg b.mag) (la : a.mag.length < 60000000) (lb : b.mag.length < 60000000) (p m z : Bool) : ∃ (rp : Nm) (pe : Int) (P M Z : Bool), (∀ (u : World) (a1 a2 : Option Addr) (c1 c2 : Nat), Tab u → Sl u (.slice a1 a.mag.length c1) a.mag → Sl u (.slice a2 b.mag.length c2) b.mag → Calls Tryz.prog 30 #[accV a.neg (.slice a1 a.mag.length c1) a.exp p m z, .agg #[.bool b.neg, .slice a2 b.mag.length c2, .int .i64 b.exp]] u fun e w' => ∃ un ua ul uc ux, e = .returned (.tuple #[accV un (.slice ua ul uc) ux P M Z, .int .i64 pe]) ∧ New u w' (.agg #[.bool un, .slice ua ul uc, .int .i64 ux]) rp ∧ Kept u w') ∧ ((vld a && vld b) = false → rp = ⟨false, [], 0⟩ ∧ pe = 7 ∧ P = false ∧ M = false ∧ Z = false) ∧ ((vld a && vld b) = true → if vld (pls a b) = true then rp = pls a b ∧ pe = 0 ∧ P = p ∧ M = m ∧ Z = z else rp = ⟨false, [], 0⟩ ∧ pe = 2 ∧ P = false ∧ M = false ∧ Z = false) := by
 obtain ⟨rp, pe, P, M, Z, hA, hb, ho⟩ := merge_all a b ra rb la lb p m z false false false
 simp only [Bool.or_false] at ho
 exact ⟨rp, pe, P, M, Z, fun u a1 a2 c1 c2 hT h1 h2 => addNum_gen a.neg a1 a.mag.length c1 a.exp p m z b.neg a2 b.mag.length c2 b.exp u rp P M Z pe (fun v k => hA v a1 a2 c1 c2 (hT.kept k) (h1.kept k) (h2.kept k)), hb, ho⟩
theorem accNeg_no (ng : Bool) (ao : Option Addr) (l c : Nat) (x : Int) (p m z : Bool) (w : World) (er : Int) (he : er ≠ 0)
  (KN : Hid (∀ u, Kept w u → Calls Tryz.prog 85 #[.agg #[.bool ng, .slice ao l c, .int .i64 x]] u fun e w' => e = .returned (.tuple #[zeroNum, .int .i64 er]) ∧ Kept u w')) :
  Calls Tryz.prog 33 #[accV ng (.slice ao l c) x p m z] w fun e w' => e = .returned (.tuple #[accZ, .int .i64 er]) ∧ Kept w w' := by
 have he2 : (er != 0) = true := by simpa using he
 obtain ⟨X0, hX0⟩ : ∃ X, X = w.alloc (.cells #[.bool ng, .slice ao l c, .int .i64 x, .bool p, .bool m, .bool z] 26) := ⟨_, rfl⟩
 obtain ⟨X, hX⟩ : ∃ X, X = (w.alloc (.cells #[.bool ng, .slice ao l c, .int .i64 x, .bool p, .bool m, .bool z] 26)).alloc (.cells #[.bool false, .slice none 0 0, .int .i64 0, .bool false, .bool false, .bool false] 26) := ⟨_, rfl⟩
 have k0 : Kept w X := by rw [hX]; exact ((Kept.refl w).alloc _ _).alloc _ _
 have k00 : Kept X0 X := by rw [hX, hX0]; exact (Kept.refl _).alloc _ _
 obtain ⟨R, hR⟩ : ∃ R, R = w.heap.size + 1 := ⟨_, rfl⟩
 have HXs : Hid (X.heap.size = w.heap.size + 2 ∧ R = w.heap.size + 1) := ⟨by rw [hX]; simp, hR⟩
 have HA : Hid (∀ u, Kept X0 u → _) := acc_cells1 ng (.slice ao l c) x p m z 26 w.heap.size rfl (X := X0) (by rw [hX0]; exact Kept.refl _)
 have HR : Hid (∀ u, Kept X u → _) := acc_res1 (w := w.alloc (.cells #[.bool ng, .slice ao l c, .int .i64 x, .bool p, .bool m, .bool z] 26)) 26 R (by rw [hR]; simp) (by rw [hX]; exact Kept.refl _)
 go_enter Tryz.func33, Tryz.ntmps33
 go_upto_region 1 with fail
 rw [← hX, ← hR]
 clear hX hX0 hR
 obtain ⟨c0, c1, c2, c3, c4, c5⟩ := HA.out _ k00
 go_wp2_with fail
 refine (KN.out _ k0).mono ?_
 rintro e w1 ⟨rfl, k1⟩
 clear c0 c1 c2 c3 c4 c5
 obtain ⟨r0, r1, r2, r3, r4, r5, r6⟩ := HR.out _ k1
 obtain ⟨s0, s1, s2, s3, s4, s5, s6⟩ := HR.out _ (k1.alloc #[.bool false, .slice none 0 0, .int .i64 0] 24)
 have nn2 : R ≠ w1.heap.size := by have := k1.below.size; have := HXs.out; omega
 go_wp2_with fail
 exact bodyPost_ret (v := .tuple #[accZ, .int .i64 er]) (by simp [results, Tryz.results33, go_sem, r0, r1, r2, r3, r4, r5, s0, s1, s2, s3, s4, s5, nn2]) rfl ⟨rfl, kept_six1 R (by have := HXs.out; omega) ((k0.trans k1).alloc _ _) _ _ _ _ _ _⟩
def trnN (a : Nm) : Nm := ⟨if a.mag.length = 0 then a.neg else !a.neg, a.mag, a.exp⟩
theorem accNeg_all (a : Nm) (ra : Rg a.mag) (la : a.mag.length < 60000000) (p m z : Bool) : ∃ (rp : Nm) (pe : Int) (P M Z : Bool), (∀ (u : World) (ao : Option Addr) (c : Nat), (ao = none → c = 0) → Tab u → Sl u (.slice ao a.mag.length c) a.mag → Calls Tryz.prog 33 #[accV a.neg (.slice ao a.mag.length c) a.exp p m z] u fun e w' => ∃ un ua ul uc ux, e = .returned (.tuple #[accV un (.slice ua ul uc) ux P M Z, .int .i64 pe]) ∧ New u w' (.agg #[.bool un, .slice ua ul uc, .int .i64 ux]) rp ∧ Kept u w') ∧ (vld a = false → rp = ⟨false, [], 0⟩ ∧ pe = 7 ∧ P = false ∧ M = false ∧ Z = false) ∧ (vld a = true → rp = trnN a ∧ pe = 0 ∧ P = m ∧ M = p ∧ Z = z) := by
 obtain ⟨rp, pe, hA, hb, ho⟩ := neg_all a.neg a.mag a.exp ra la
 cases hv : vld a with
 | true =>
  obtain ⟨rfl, hr⟩ := ho hv
  exact ⟨rp, 0, m, p, z, fun u ao c hc hT h => accNeg_ok a.neg ao a.mag.length c a.exp p m z u rp (fun v k => hA v ao c hc (h.kept k) (hT.kept k)), fun h => (by cases h), fun _ => ⟨hr, rfl, rfl, rfl, rfl⟩⟩
 | false =>
  obtain ⟨rfl, rfl⟩ := hb hv
  refine ⟨⟨false, [], 0⟩, 7, false, false, false, fun u ao c hc hT h => ?_, fun _ => ⟨rfl, rfl, rfl, rfl, rfl⟩, fun h => (by cases h)⟩
  refine (accNeg_no a.neg ao a.mag.length c a.exp p m z u 7 (by decide) (fun v k => ?_)).mono ?_
  ·refine (hA v ao c hc (h.kept k) (hT.kept k)).mono ?_
   rintro e w' ⟨x, rfl, hN, k2⟩
   obtain rfl := new_nil hN
   exact ⟨rfl, k2⟩
  ·rintro e w' ⟨rfl, k2⟩
   exact ⟨false, none, 0, 0, 0, rfl, new_zero _ _, k2⟩
theorem list_ne {L M : List Int} (hl : L.length = M.length) (h : ¬ L = M) : ∃ k, k < L.length ∧ L.getD k 0 ≠ M.getD k 0 := by
 by_cases hx : ∃ k, k < L.length ∧ L.getD k 0 ≠ M.getD k 0
 ·exact hx
 ·refine absurd (List.ext_getElem hl (fun i h1 h2 => ?_)) h
  have := fun hk => hx ⟨i, h1, hk⟩
  have h3 : L.getD i 0 = M.getD i 0 := Classical.not_not.1 this
  simpa [List.getD_eq_getElem?_getD, h1, h2] using h3
theorem equal_any (L M : List Int) (hlen : L.length < 100000000) (hlen2 : M.length < 100000000) (a b : Option Addr) (c d : Nat) (w : World) (h : Sl w (.slice a L.length c) L) (h' : Sl w (.slice b M.length d) M) : Calls Tryz.prog 86 #[.slice a L.length c, .slice b M.length d] w fun e w' => e = .returned (.bool (decide (L = M))) ∧ Kept w w' := by
 by_cases hLM : L = M
 ·subst hLM
  rw [decide_eq_true rfl]
  exact equal_true L hlen a b c d w h h'
 rw [decide_eq_false hLM]
 by_cases hl : L.length = M.length
 ·obtain ⟨j, hj, hne⟩ := list_ne hl hLM
  have HX : Hid (∀ u, Kept w u → ∀ i, i < L.length → ∃ b off, a = some ⟨b, off, none⟩ ∧ u.cell? ⟨b, off + i, none⟩ = some (.int .i64 (L.getD i 0))) := fun u k i hi => sl_cell h u k i hi
  have HY : Hid (∀ u, Kept w u → ∀ i, i < L.length → ∃ b' off, b = some ⟨b', off, none⟩ ∧ u.cell? ⟨b', off + i, none⟩ = some (.int .i64 (M.getD i 0))) := fun u k i hi => sl_cell h' u k i (by omega)
  rw [← hl]
  clear h h' hLM hl hlen2
  obtain ⟨N, hn⟩ : ∃ N, N = L.length := ⟨_, rfl⟩
  rw [← hn] at HX HY hlen hj ⊢
  clear hn
  go_enter Tryz.func86, Tryz.ntmps86
  go_wp2_with fail
  go_loopw [13] (fun i wr => ∃ k : Nat, k ≤ j ∧ i = .int .i64 k ∧ Kept w wr) (fun i _ => N - (intOf i).toNat)
  case atStart => exact ⟨0, Nat.zero_le _, rfl, Kept.refl _⟩
  case round =>
   obtain ⟨k, hk, rfl, kr⟩ := hrel
   have hkn : k < N := by omega
   obtain ⟨bx, ox, rfl, hcx⟩ := HX.out _ kr k hkn
   obtain ⟨by', oy, rfl, hcy⟩ := HY.out _ kr k hkn
   by_cases hkj : k = j
   ·subst hkj
    have e0 : (L.getD k 0 != M.getD k 0) = true := by simpa using hne
    clear HX HY
    generalize L.getD k 0 = xk at *
    generalize M.getD k 0 = yk at *
    go_wp2_with fail
    go_quiet (fail)
    go_wp2_with fail
    go_ret
    exact ⟨rfl, kr.drewN _⟩
   ·cases e0 : (L.getD k 0 != M.getD k 0)
    ·clear HX HY
     generalize L.getD k 0 = xk at *
     generalize M.getD k 0 = yk at *
     go_wp2_with fail
     go_quiet (fail)
     go_wp2_with fail
     go_roundw
     case rel => exact ⟨k + 1, by omega, by go_num, kr.drewN _⟩
     case measure => simp [intOf]; omega
    ·clear HX HY
     generalize L.getD k 0 = xk at *
     generalize M.getD k 0 = yk at *
     go_wp2_with fail
     go_quiet (fail)
     go_wp2_with fail
     go_ret
     exact ⟨rfl, kr.drewN _⟩
 ·have hl2 : ((L.length : Int) != (M.length : Int)) = true := by simp; omega
  go_enter Tryz.func86, Tryz.ntmps86
  go_wp2_with fail
  go_ret
  exact ⟨rfl, Kept.refl _⟩
def smA (a b : Nm) (p1 m1 z1 p2 m2 z2 : Bool) : Bool := (p1 == p2) && ((m1 == m2) && ((z1 == z2) && ((a.neg == b.neg) && ((a.exp == b.exp) && decide (a.mag = b.mag)))))
theorem accSame_any (a b : Nm) (la : a.mag.length < 100000000) (lb : b.mag.length < 100000000) (p1 m1 z1 p2 m2 z2 : Bool) (a1 a2 : Option Addr) (c1 c2 : Nat) (w : World) (h : Sl w (.slice a1 a.mag.length c1) a.mag) (h' : Sl w (.slice a2 b.mag.length c2) b.mag) :
  Calls Tryz.prog 34 #[accV a.neg (.slice a1 a.mag.length c1) a.exp p1 m1 z1, accV b.neg (.slice a2 b.mag.length c2) b.exp p2 m2 z2] w fun e w' => e = .returned (.bool (smA a b p1 m1 z1 p2 m2 z2)) ∧ Kept w w' := by
 unfold smA
 have KE : Hid (∀ u, Kept w u → Calls Tryz.prog 86 #[.slice a1 a.mag.length c1, .slice a2 b.mag.length c2] u fun e w' => e = .returned (.bool (decide (a.mag = b.mag))) ∧ Kept u w') := fun u k => equal_any a.mag b.mag la lb a1 a2 c1 c2 u (h.kept k) (h'.kept k)
 generalize decide (a.mag = b.mag) = dq at *
 generalize a.mag.length = l1 at *
 generalize b.mag.length = l2 at *
 generalize a.neg = n1 at *
 generalize b.neg = n2 at *
 generalize a.exp = x1 at *
 generalize b.exp = x2 at *
 clear h h' la lb
 obtain ⟨X, hX⟩ : ∃ X, X = (w.alloc (.cells #[.bool n1, .slice a1 l1 c1, .int .i64 x1, .bool p1, .bool m1, .bool z1] 26)).alloc (.cells #[.bool n2, .slice a2 l2 c2, .int .i64 x2, .bool p2, .bool m2, .bool z2] 26) := ⟨_, rfl⟩
 have k0 : Kept w X := by rw [hX]; exact ((Kept.refl w).alloc _ _).alloc _ _
 obtain ⟨B, hB⟩ : ∃ B, B = w.heap.size := ⟨_, rfl⟩
 obtain ⟨B1, hB1⟩ : ∃ B, B = w.heap.size + 1 := ⟨_, rfl⟩
 have HA : Hid ((X.cell? ⟨B, 0, none⟩ = some (.bool n1) ∧ X.cell? ⟨B, 1, none⟩ = some (.slice a1 l1 c1) ∧ X.cell? ⟨B, 2, none⟩ = some (.int .i64 x1) ∧ X.cell? ⟨B, 3, none⟩ = some (.bool p1) ∧ X.cell? ⟨B, 4, none⟩ = some (.bool m1) ∧ X.cell? ⟨B, 5, none⟩ = some (.bool z1)) ∧ X.cell? ⟨B1, 0, none⟩ = some (.bool n2) ∧ X.cell? ⟨B1, 1, none⟩ = some (.slice a2 l2 c2) ∧ X.cell? ⟨B1, 2, none⟩ = some (.int .i64 x2) ∧ X.cell? ⟨B1, 3, none⟩ = some (.bool p2) ∧ X.cell? ⟨B1, 4, none⟩ = some (.bool m2) ∧ X.cell? ⟨B1, 5, none⟩ = some (.bool z2)) := by
  rw [hX, hB1, hB]
  refine ⟨⟨?_, ?_, ?_, ?_, ?_, ?_⟩, ?_, ?_, ?_, ?_, ?_, ?_⟩ <;> simp [go_sem]
 go_enter Tryz.func34, Tryz.ntmps34
 go_upto_region 1 with fail
 rw [← hX, ← hB1, ← hB]
 clear hX hB1 hB
 obtain ⟨⟨c0, c1', c2', c3, c4, c5⟩, d0, d1, d2, d3, d4, d5⟩ := HA.out
 clear HA
 cases q0 : (p1 == p2)
 ·go_wp2_with fail
  go_ret
  exact ⟨by rw [q0]; rfl, k0⟩
 cases q1 : (m1 == m2)
 ·go_wp2_with fail
  go_ret
  exact ⟨by rw [q0, q1]; rfl, k0⟩
 cases q2 : (z1 == z2)
 ·go_wp2_with fail
  go_ret
  exact ⟨by rw [q0, q1, q2]; rfl, k0⟩
 cases q3 : (n1 == n2)
 ·go_wp2_with fail
  go_ret
  exact ⟨by rw [q0, q1, q2, q3]; rfl, k0⟩
 cases q4 : (x1 == x2)
 ·go_wp2_with fail
  go_ret
  exact ⟨by rw [q0, q1, q2, q3, q4]; rfl, k0⟩
 go_wp2_with fail
 refine (KE.out _ k0).mono ?_
 rintro e w1 ⟨rfl, k1⟩
 go_wp2_with fail
 go_ret
 exact ⟨by rw [q0, q1, q2, q3, q4]; rfl, k0.trans k1⟩
def nsA (a b : Nm) : Bool := (a.neg == b.neg) && ((a.exp == b.exp) && decide (a.mag = b.mag))
theorem numSame_any (a b : Nm) (la : a.mag.length < 100000000) (lb : b.mag.length < 100000000) (a1 a2 : Option Addr) (c1 c2 : Nat) (w : World) (h : Sl w (.slice a1 a.mag.length c1) a.mag) (h' : Sl w (.slice a2 b.mag.length c2) b.mag) :
  Calls Tryz.prog 103 #[.agg #[.bool a.neg, .slice a1 a.mag.length c1, .int .i64 a.exp], .agg #[.bool b.neg, .slice a2 b.mag.length c2, .int .i64 b.exp]] w fun e w' => e = .returned (.bool (nsA a b)) ∧ Kept w w' := by
 obtain ⟨n1, L, x1⟩ := a
 obtain ⟨n2, M, x2⟩ := b
 obtain ⟨R, hR⟩ : ∃ R, R = nsA ⟨n1, L, x1⟩ ⟨n2, M, x2⟩ := ⟨_, rfl⟩
 rw [← hR]
 have HR : Hid (R = ((n1 == n2) && ((x1 == x2) && decide (L = M)))) := hR
 clear hR
 dsimp only at *
 obtain ⟨X, hX⟩ : ∃ X, X = (w.alloc (.cells #[.bool n1, .slice a1 L.length c1, .int .i64 x1] 24)).alloc (.cells #[.bool n2, .slice a2 M.length c2, .int .i64 x2] 24) := ⟨_, rfl⟩
 have k0 : Kept w X := by rw [hX]; exact ((Kept.refl w).alloc _ _).alloc _ _
 obtain ⟨B, hB⟩ : ∃ B, B = w.heap.size := ⟨_, rfl⟩
 obtain ⟨B1, hB1⟩ : ∃ B, B = w.heap.size + 1 := ⟨_, rfl⟩
 have hXs : B < X.heap.size ∧ B1 < X.heap.size := by
  have h9 : X.heap.size = w.heap.size + 2 := by rw [hX]; simp
  omega
 have HA0 : Hid (X.cell? ⟨B, 0, none⟩ = some (.bool n1) ∧ X.cell? ⟨B, 1, none⟩ = some (.slice a1 L.length c1) ∧ X.cell? ⟨B, 2, none⟩ = some (.int .i64 x1) ∧ X.cell? ⟨B1, 0, none⟩ = some (.bool n2) ∧ X.cell? ⟨B1, 1, none⟩ = some (.slice a2 M.length c2) ∧ X.cell? ⟨B1, 2, none⟩ = some (.int .i64 x2)) := by
  rw [hX, hB1, hB]
  refine ⟨?_, ?_, ?_, ?_, ?_, ?_⟩ <;> simp [go_sem]
 have HA : Hid (∀ u, Kept X u → u.cell? ⟨B, 0, none⟩ = some (.bool n1) ∧ u.cell? ⟨B, 1, none⟩ = some (.slice a1 L.length c1) ∧ u.cell? ⟨B, 2, none⟩ = some (.int .i64 x1) ∧ u.cell? ⟨B1, 0, none⟩ = some (.bool n2) ∧ u.cell? ⟨B1, 1, none⟩ = some (.slice a2 M.length c2) ∧ u.cell? ⟨B1, 2, none⟩ = some (.int .i64 x2)) := fun u k => by
  obtain ⟨q0, q1, q2, q3, q4, q5⟩ := HA0.out
  exact ⟨(k.below.cell (p := ⟨B, 0, none⟩) hXs.1).trans q0, (k.below.cell (p := ⟨B, 1, none⟩) hXs.1).trans q1, (k.below.cell (p := ⟨B, 2, none⟩) hXs.1).trans q2, (k.below.cell (p := ⟨B1, 0, none⟩) hXs.2).trans q3, (k.below.cell (p := ⟨B1, 1, none⟩) hXs.2).trans q4, (k.below.cell (p := ⟨B1, 2, none⟩) hXs.2).trans q5⟩
 have HL : Hid (∀ u, Kept w u → ∀ i, i < L.length → ∃ b off, a1 = some ⟨b, off, none⟩ ∧ u.cell? ⟨b, off + i, none⟩ = some (.int .i64 (L.getD i 0))) := fun u k i hi => sl_cell h u k i hi
 have HM : Hid (∀ u, Kept w u → ∀ i, i < M.length → ∃ b off, a2 = some ⟨b, off, none⟩ ∧ u.cell? ⟨b, off + i, none⟩ = some (.int .i64 (M.getD i 0))) := fun u k i hi => sl_cell h' u k i hi
 go_enter Tryz.func103, Tryz.ntmps103
 go_upto_region 1 with fail
 rw [← hX, ← hB1, ← hB]
 clear hX hB1 hB h h' HA0 hXs
 obtain ⟨c0, c1', c2', d0, d1, d2⟩ := HA.out _ (Kept.refl _)
 cases q0 : (n1 == n2)
 ·have q0' : (n1 != n2) = true := by simp [bne, q0]
  go_wp2_with fail
  go_ret
  obtain rfl : R = false := by rw [HR.out, q0]; rfl
  exact ⟨rfl, k0⟩
 have q0' : (n1 != n2) = false := by simp [bne, q0]
 cases q1 : (x1 == x2)
 ·have q1' : (x1 != x2) = true := by simp [bne, q1]
  go_wp2_with fail
  go_ret
  obtain rfl : R = false := by rw [HR.out, q0, q1]; rfl
  exact ⟨rfl, k0⟩
 have q1' : (x1 != x2) = false := by simp [bne, q1]
 by_cases hl : L.length = M.length
 ·have q2' : ((L.length : Int) != (M.length : Int)) = false := by simp [hl]
  obtain ⟨J, hJ1, hJ2⟩ : ∃ J, J ≤ L.length ∧ (L = M ∧ J = L.length ∨ ¬ L = M ∧ J < L.length ∧ L.getD J 0 ≠ M.getD J 0) := by
   by_cases e : L = M
   ·exact ⟨L.length, Nat.le_refl _, .inl ⟨e, rfl⟩⟩
   ·obtain ⟨j, h1, h2⟩ := list_ne hl e
    exact ⟨j, by omega, .inr ⟨e, h1, h2⟩⟩
  have HJ : Hid (L = M ∧ J = L.length ∨ ¬ L = M ∧ J < L.length ∧ L.getD J 0 ≠ M.getD J 0) := hJ2
  have hlM : M.length = L.length := hl.symm
  rw [hlM] at HM HA q2' d1
  clear hJ2 hl lb
  obtain ⟨N, hn⟩ : ∃ N, N = L.length := ⟨_, rfl⟩
  have HJ2 : Hid (decide (L = M) = true ∧ J = N ∨ decide (L = M) = false ∧ J < N ∧ L.getD J 0 ≠ M.getD J 0) := by
   rw [hn]
   rcases HJ.out with ⟨e, h⟩ | ⟨e, h⟩
   ·exact .inl ⟨decide_eq_true e, h⟩
   ·exact .inr ⟨decide_eq_false e, h⟩
  have HEQ0 : Hid (decide (L = M) = true → ∀ k, L.getD k 0 = M.getD k 0) := fun h k => by rw [of_decide_eq_true h]
  rw [← hn] at HL HM HA hJ1 q2' c1' d1 la
  generalize decide (L = M) = dq at *
  have HEQ : Hid (dq = true → ∀ k, L.getD k 0 = M.getD k 0) := HEQ0
  clear HEQ0
  rw [← hn, hlM, ← hn]
  clear HJ hn hlM
  go_wp2_with fail
  go_loopw [5] (fun i wr => ∃ k : Nat, k ≤ J ∧ i = .int .i64 k ∧ Kept X wr ∧ ∀ j, j < k → L.getD j 0 = M.getD j 0) (fun i _ => N - (intOf i).toNat)
  case atStart => exact ⟨0, Nat.zero_le _, rfl, Kept.refl _, fun j hj => absurd hj (by omega)⟩
  case round =>
   obtain ⟨k, hk, rfl, kr, hall⟩ := hrel
   clear c0 c1' c2' d0 d1 d2
   obtain ⟨c0, c1', c2', d0, d1, d2⟩ := HA.out _ kr
   by_cases hkn : k < N
   ·obtain ⟨bx, ox, rfl, hcx⟩ := HL.out _ (k0.trans kr) k hkn
    obtain ⟨by', oy, rfl, hcy⟩ := HM.out _ (k0.trans kr) k hkn
    have hdec : Hid ((L.getD k 0 != M.getD k 0) = true → dq = false) := fun h => by
     rcases HJ2.out with ⟨e, h1⟩ | ⟨e, h1⟩
     ·have h9 : L.getD k 0 ≠ M.getD k 0 := by simpa using h
      exact absurd (HEQ.out e k) h9
     ·exact e
    have hstep : Hid ((L.getD k 0 != M.getD k 0) = false → k + 1 ≤ J) := fun h => by
     have h9 : L.getD k 0 = M.getD k 0 := by simpa using h
     rcases HJ2.out with ⟨-, h1⟩ | ⟨-, h1, h2⟩
     ·omega
     ·by_cases e : k = J
      ·subst e; exact absurd h9 h2
      ·omega
    cases e0 : (L.getD k 0 != M.getD k 0)
    ·have hs1 := hstep.out e0
     have hall2 : ∀ j, j < k + 1 → L.getD j 0 = M.getD j 0 := fun j hj => by
      by_cases e : j = k
      ·subst e; simpa using e0
      ·exact hall j (by omega)
     have HALL : Hid (∀ j, j < k + 1 → L.getD j 0 = M.getD j 0) := hall2
     clear HL HM HJ2 hdec hstep hall hall2
     generalize L.getD k 0 = xk at *
     generalize M.getD k 0 = yk at *
     go_wp2_with fail
     go_quiet (fail)
     go_wp2_with fail
     go_roundw
     case rel => exact ⟨k + 1, hs1, by go_num, kr.drewN _, HALL.out⟩
     case measure => simp [intOf]; omega
    ·obtain rfl := hdec.out e0
     clear HL HM HJ2 hdec hstep hall
     generalize L.getD k 0 = xk at *
     generalize M.getD k 0 = yk at *
     go_wp2_with fail
     go_quiet (fail)
     go_wp2_with fail
     go_ret
     obtain rfl : R = false := by rw [HR.out, q0, q1]; rfl
     exact ⟨rfl, k0.trans (kr.drewN _)⟩
   ·have hd : dq = true := by
     rcases HJ2.out with ⟨e, -⟩ | ⟨-, h1, -⟩
     ·exact e
     ·omega
    subst hd
    go_wp2_with fail
    go_ret
    obtain rfl : R = true := by rw [HR.out, q0, q1]; rfl
    exact ⟨rfl, k0.trans kr⟩
 ·have q2' : ((L.length : Int) != (M.length : Int)) = true := by simp; omega
  have hd : decide (L = M) = false := decide_eq_false (fun e => hl (by rw [e]))
  go_wp2_with fail
  go_ret
  obtain rfl : R = false := by rw [HR.out, q0, q1, hd]; rfl
  exact ⟨rfl, k0⟩
end Go.Proofs.YtoflafgbbjinpaaGreatDoor
