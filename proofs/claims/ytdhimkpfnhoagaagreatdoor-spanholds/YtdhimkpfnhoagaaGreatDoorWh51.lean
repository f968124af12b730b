/- SpanHolds. How arguments are read: exact numbers, lists of ints; and that they read behind the call as before. -/
import Derived.Test.YtdhimkpfnhoagaaGreatDoorWh36
import Derived.Test.YtdhimkpfnhoagaaGreatDoorWh37
import Derived.Test.YtdhimkpfnhoagaaGreatDoorWh50
import Derived.Test.YtdhimkpfnhoagaaGreatDoorWh11
import Derived.ProofKit
import Derived.OpenShut
import Derived.Carry
import Derived.Lib.SmallJoins
import Derived.ChangeSlices
namespace Go.Proofs.YtdhimkpfnhoagaaGreatDoor
open Go.ChangeShapes Go.WideShapes Go.ChangeAt Go.RowKit Ieee
set_option linter.unusedVariables false
set_option linter.unusedSimpArgs false

theorem ky_zero (n way : Int) : kyN n way ⟨false, [], 0⟩ = 0 := by
  unfold kyN mgN
  simp
/- the exact sum, difference, product of two finite floats -/
theorem two_nums (n : Int) (hn : n = 64 ∨ n = 32) (x y : Int) (hx : RB x) (hy : RB y) (cx : cls x n < 3) (cy : cls y n < 3) : ∃ P Q R, (vld P = true ∧ vld Q = true ∧ vld R = true) ∧ (addZ (ofN x n) (ofN y n) = some P ∧ addZ (ofN x n) (ng (ofN y n)) = some Q ∧ mulN (ofN x n) (ofN y n) = some R) ∧ ∀ way, (way = 1 ∨ way = 2) → Smk n way (keyOf x n) (keyOf y n) (kyN n way P) ∧ Smk n way (keyOf x n) (-keyOf y n) (kyN n way Q) ∧ Prk n way (keyOf x n) (keyOf y n) (kyN n way R) := by
  obtain ⟨-, -, a1, a2⟩ := ofN_key x n hn hx cx
  obtain ⟨-, -, b1, b2⟩ := ofN_key y n hn hy cy
  obtain ⟨l1, z1⟩ := of_both_lies x n hn hx cx
  obtain ⟨l2, z2⟩ := of_both_lies y n hn hy cy
  have hadd := add_cfm (-1075) 5000 (by decide) _ _ l1 l2
  have hsub := sub_cfm (-1075) 5000 (by decide) _ _ l1 l2
  have hmul := mul_cfm (-1075) 5000 (by decide) (by decide) (by decide) _ _ l1 l2
  rw [z1, z2, ← Int.add_mul] at hadd
  rw [z1, z2, ← Int.sub_mul] at hsub
  rw [z1, z2] at hmul
  have s1 : ∀ z : Int, cfm (z * 2) (-1075) = cfm z (-1074) := fun z => by
    have := cfm_shift z 1 (-1075)
    exact this
  have s2 : ∀ p q : Int, cfm (p * 2 * (q * 2)) (-1075 + -1075) = cfm (p * q) (-2148) := fun p q => by
    have := cfm_shift (p * q) 2 (-2150)
    rw [show p * 2 * (q * 2) = p * q * 2 ^ 2 by rw [show (2 : Int) ^ 2 = 2 * 2 by decide]; simp only [Int.mul_assoc, Int.mul_comm, Int.mul_left_comm]]
    exact this
  rw [s1] at hadd
  rw [s1] at hsub
  rw [s2] at hmul
  obtain ⟨H, hb⟩ := hb_ex n hn
  have h3 := hh_three hb
  have hh := hh_le hb
  have t1 := hb.fin _ a1 a2
  have t2 := hb.fin _ b1 b2
  have h1 := hb.one
  have hm := mul_small _ _ H t1.1 t1.2 t2.1 t2.2
  obtain ⟨P, e1, v1, -⟩ := hb.wrt (-1074) (kvz n (-1074) (keyOf x n) + kvz n (-1074) (keyOf y n)) (.inl rfl) (by omega) (by omega)
  obtain ⟨Q, e2, v2, -⟩ := hb.wrt (-1074) (kvz n (-1074) (keyOf x n) - kvz n (-1074) (keyOf y n)) (.inl rfl) (by omega) (by omega)
  obtain ⟨R, e3, v3, -⟩ := hb.wrt (-2148) (kvz n (-1074) (keyOf x n) * kvz n (-1074) (keyOf y n)) (.inr rfl) hm.1 hm.2
  refine ⟨P, Q, R, ⟨v1, v2, v3⟩, ⟨hadd.trans e1, hsub.trans e2, hmul.trans e3⟩, fun way hw => ⟨.inr (.inr ⟨⟨a1, a2⟩, ⟨b1, b2⟩, P, e1, rfl⟩), .inr (.inr ⟨⟨a1, a2⟩, ⟨by omega, by omega⟩, Q, ?_, rfl⟩), ?_⟩⟩
  · rw [kvz_neg2, ← Int.sub_eq_add_neg]
    exact e2
  · by_cases hz : keyOf x n = 0 ∨ keyOf y n = 0
    · have hz0 : kvz n (-1074) (keyOf x n) * kvz n (-1074) (keyOf y n) = 0 := by
        rcases hz with h | h <;> rw [h, kvz_zero] <;> simp
      rw [hz0, cfm_zero] at e3
      cases e3
      exact .inl ⟨hz, ky_zero n way⟩
    · exact .inr (.inr ⟨fun h => hz (.inl h), fun h => hz (.inr h), ⟨a1, a2⟩, ⟨b1, b2⟩, R, e3, rfl⟩)
theorem pz_less (n k j : Int) (hn : n = 64 ∨ n = 32) (h1 : -(ifn n : Int) ≤ k) (h2 : k ≤ (ifn n : Int)) (h3 : -(ifn n : Int) ≤ j) (h4 : j ≤ (ifn n : Int)) (hjk : j ≤ k) (u : World) : Calls Tryz.prog 28 #[.int .i64 (pz n k), .int .i64 (pz n j), .int .i64 n] u fun e w' => e = .returned (.bool false) ∧ Kept u w' := by
  obtain ⟨a1, a2⟩ := pz_range n k hn h1 h2
  obtain ⟨b1, b2⟩ := pz_range n j hn h3 h4
  have := less_any (pz n k) (pz n j) n a1 a2 b1 b2 u
  unfold lss at this
  rw [pz_num n k hn h1 h2, pz_num n j hn h3 h4, pz_key n k hn h1 h2, pz_key n j hn h3 h4, Bool.true_and, Bool.true_and, decide_eq_false (by omega)] at this
  exact this
set_option maxHeartbeats 1000000 in
theorem spanHolds_at (n : Int) (hn : n = 64 ∨ n = 32) (a b bw av w0 : Int) (ra : RB a) (rb : RB b) (hw : n = 32 + 32 * (w0 % 2)) (w : World) (hT : Tab w) : Calls Tryz.prog 7 #[.int .i64 a, .int .i64 b, .int .i64 bw, .int .i64 av, .int .i64 w0] w fun e w' => e = .returned (.bool true) ∧ Kept w w' := by
  have hm1 := mskp_rb a n ra
  have hm2 := mskp_rb b n rb
  have hpos := ifn_p n
  have KA : Hid (∀ u, Kept w u → Calls Tryz.prog 8 #[] u fun e w' => e = .returned (.bool true) ∧ Kept u w') := fun u k => alive5 u (hT.kept k)
  have hmask := mask1 w0
  obtain ⟨l1, hl1⟩ : ∃ l, l = itr (prv · n) (bw % 8).toNat (mskp a n) := ⟨_, rfl⟩
  obtain ⟨h1, hh1⟩ : ∃ l, l = itr (nxt · n) (av % 8).toNat (mskp a n) := ⟨_, rfl⟩
  obtain ⟨l2, hl2⟩ : ∃ l, l = itr (prv · n) (av % 8).toNat (mskp b n) := ⟨_, rfl⟩
  obtain ⟨h2, hh2⟩ : ∃ l, l = itr (nxt · n) ((bw / 8) % 8).toNat (mskp b n) := ⟨_, rfl⟩
  have KL : Hid (∀ u q x y l h ok R, (q = a ∧ x = bw ∧ y = av ∧ l = l1 ∧ h = h1 ∧ ok = decide (cls (mskp a n) n < 3) ∧ R = numOf (mskp a n) n ∨ q = b ∧ x = av ∧ y = bw / 8 ∧ l = l2 ∧ h = h2 ∧ ok = decide (cls (mskp b n) n < 3) ∧ R = numOf (mskp b n) n) → Kept w u → Calls Tryz.prog 12 #[.int .i64 q, .int .i64 x, .int .i64 y, .int .i64 n] u fun e w' => ∃ v, e = .returned (.tuple #[sp2 l h, v, .bool ok]) ∧ New u w' v R ∧ Kept u w') := fun u q x y l h ok R hd k => by
    rcases hd with ⟨rfl, rfl, rfl, rfl, rfl, rfl, rfl⟩ | ⟨rfl, rfl, rfl, rfl, rfl, rfl, rfl⟩
    · rw [hl1, hh1]
      exact lar_any n hn q x y ra u (hT.kept k)
    · rw [hl2, hh2]
      exact lar_any n hn q _ _ rb u (hT.kept k)
  by_cases hok : cls (mskp a n) n < 3 ∧ cls (mskp b n) n < 3
  · obtain ⟨hc1, hc2⟩ := hok
    have A := arnd_of n (mskp a n) (bw % 8).toNat (av % 8).toNat hn hm1 hc1
    have B := arnd_of n (mskp b n) (av % 8).toNat ((bw / 8) % 8).toNat hn hm2 hc2
    rw [← hl1, ← hh1] at A
    rw [← hl2, ← hh2] at B
    clear hl1 hh1 hl2 hh2
    have hN1 : numOf (mskp a n) n = ofN (mskp a n) n := by unfold numOf; rw [if_pos hc1]
    have hN2 : numOf (mskp b n) n = ofN (mskp b n) n := by unfold numOf; rw [if_pos hc2]
    rw [decide_eq_true hc1, decide_eq_true hc2, hN1, hN2] at KL
    obtain ⟨P, Q, R, ⟨vP, vQ, vR⟩, ⟨eP, eQ, eR⟩, hkeys⟩ := two_nums n hn _ _ hm1 hm2 hc1 hc2
    obtain ⟨o1, x1, cx⟩ := of_same _ n hn hm1 hc1
    obtain ⟨o2, x2, cy⟩ := of_same _ n hn hm2 hc2
    obtain ⟨ka1, ka2⟩ := of_ky _ n hn hm1 hc1
    obtain ⟨kb1, kb2⟩ := of_ky _ n hn hm2 hc2
    obtain ⟨lA, -⟩ := of_both_lies _ n hn hm1 hc1
    obtain ⟨lB, -⟩ := of_both_lies _ n hn hm2 hc2
    have vA := lA.ok
    have vB := lB.ok
    have cB := of_cfm _ n hn hm2 hc2
    clear lA lB hN1 hN2
    obtain ⟨fx, hfx⟩ : ∃ f, f = flv (mskp a n) n := ⟨_, rfl⟩
    obtain ⟨fy, hfy⟩ : ∃ f, f = flv (mskp b n) n := ⟨_, rfl⟩
    rw [← hfx] at o1 x1 cx
    rw [← hfy] at o2 x2 cy
    obtain ⟨R1, hR1⟩ : ∃ r, r = ofN (mskp a n) n := ⟨_, rfl⟩
    obtain ⟨R2, hR2⟩ : ∃ r, r = ofN (mskp b n) n := ⟨_, rfl⟩
    rw [← hR1] at o1 ka1 ka2 vA eP eQ eR KL
    rw [← hR2] at o2 kb1 kb2 vB cB eP eQ eR KL
    obtain ⟨kx, hkx⟩ : ∃ k, k = keyOf (mskp a n) n := ⟨_, rfl⟩
    obtain ⟨ky, hky⟩ : ∃ k, k = keyOf (mskp b n) n := ⟨_, rfl⟩
    rw [← hkx] at A ka1 ka2 x1 hkeys
    rw [← hky] at B kb1 kb2 x2 hkeys cB
    obtain ⟨b1, b2⟩ : -(ifn n : Int) < kx ∧ kx < (ifn n : Int) := ⟨A.f1, A.f2⟩
    obtain ⟨b3, b4⟩ : -(ifn n : Int) < ky ∧ ky < (ifn n : Int) := ⟨B.f1, B.f2⟩
    have ax := A.lo
    have ay := A.hi
    have bx := B.lo
    have by' := B.hi
    have g1 := A.g1
    have g2 := A.g2
    have g3 := B.g1
    have g4 := B.g2
    obtain ⟨S1P, S1Q, S1R⟩ := hkeys 1 (.inl rfl)
    obtain ⟨S2P, S2Q, S2R⟩ := hkeys 2 (.inr rfl)
    clear hkeys hkx hky hR1 hR2 hfx hfy hm1 hm2 hc1 hc2
    -- exact numbers
    have KP : Hid (∀ u a1 d1 a2 d2, Kept w u → Sl u (.slice a1 R1.mag.length d1) R1.mag → Sl u (.slice a2 R2.mag.length d2) R2.mag → Calls Tryz.prog 13 #[.agg #[.bool R1.neg, .slice a1 R1.mag.length d1, .int .i64 R1.exp], .agg #[.bool R2.neg, .slice a2 R2.mag.length d2, .int .i64 R2.exp]] u fun e w' => ∃ v, e = .returned (.tuple #[v, .int .i64 0]) ∧ New u w' v P ∧ Kept u w') := fun u a1 c1 a2 c2 k s1 s2 => addz_ok u (hT.kept k) _ _ _ vA a1 c1 _ _ _ vB a2 c2 s1 s2 P eP
    have KQ : Hid (∀ u a1 d1 a2 d2, Kept w u → Sl u (.slice a1 R1.mag.length d1) R1.mag → Sl u (.slice a2 R2.mag.length d2) R2.mag → Calls Tryz.prog 14 #[.agg #[.bool R1.neg, .slice a1 R1.mag.length d1, .int .i64 R1.exp], .agg #[.bool R2.neg, .slice a2 R2.mag.length d2, .int .i64 R2.exp]] u fun e w' => ∃ v, e = .returned (.tuple #[v, .int .i64 0]) ∧ New u w' v Q ∧ Kept u w') := fun u a1 c1 a2 c2 k s1 s2 => subz_ok u (hT.kept k) _ _ _ vA a1 c1 _ _ _ vB a2 c2 s1 s2 Q eQ
    have KR : Hid (∀ u a1 d1 a2 d2, Kept w u → Sl u (.slice a1 R1.mag.length d1) R1.mag → Sl u (.slice a2 R2.mag.length d2) R2.mag → Calls Tryz.prog 15 #[.agg #[.bool R1.neg, .slice a1 R1.mag.length d1, .int .i64 R1.exp], .agg #[.bool R2.neg, .slice a2 R2.mag.length d2, .int .i64 R2.exp]] u fun e w' => ∃ v, e = .returned (.tuple #[v, .int .i64 0]) ∧ New u w' v R ∧ Kept u w') := fun u a1 c1 a2 c2 k s1 s2 => mulz_ok u (hT.kept k) _ _ _ vA a1 c1 _ _ _ vB a2 c2 s1 s2 R eR
    have hV := ngv_frm R1 vA
    have KN : Hid (∀ u a1 d1, Kept w u → Sl u (.slice a1 R1.mag.length d1) R1.mag → (a1 = none → d1 = 0) → Calls Tryz.prog 16 #[.agg #[.bool R1.neg, .slice a1 R1.mag.length d1, .int .i64 R1.exp]] u fun e w' => ∃ v, e = .returned (.tuple #[v, .int .i64 0]) ∧ New u w' v (ngv R1) ∧ Kept u w') := fun u a1 c1 k s1 hc => by
      have hd := vld_dg R1.neg R1.mag R1.exp vA
      exact neg_ok R1.neg R1.mag hd.2.rg (by omega) a1 c1 hc R1.exp vA (ngv R1) hV.1 u s1 (hT.kept k)
    have kv1 : kyN n 1 (ngv R1) = -kx := by
      have := (kyN_mir n 2 (.inr (.inr rfl)) R1 vA).1
      rw [ka2] at this
      exact this
    have kv2 : kyN n 2 (ngv R1) = -kx := by
      have := (kyN_mir n 1 (.inr (.inl rfl)) R1 vA).1
      rw [ka1] at this
      exact this
    -- intervals
    obtain ⟨C1, C2, A1, A2, rc1, rc2, CA⟩ := add5_ok l1 h1 l2 h2 n A.rl A.rh B.rl B.rh A.v B.v
    have mc1 := smk_mono n 1 hn _ _ _ _ C1 _ ⟨g1, by omega⟩ ⟨g3, by omega⟩ ⟨by omega, by omega⟩ ⟨by omega, by omega⟩ A1 S1P ax bx
    have mc2 := smk_mono n 2 hn _ _ _ _ _ C2 ⟨by omega, by omega⟩ ⟨by omega, by omega⟩ ⟨by omega, g2⟩ ⟨by omega, g4⟩ S2P A2 ay by'
    obtain ⟨D1, D2, B1, B2, rd1, rd2, CD⟩ := sub5_ok l1 h1 l2 h2 n A.rl A.rh B.rl B.rh A.v B.v
    have md1 := smk_mono n 1 hn _ _ _ _ D1 _ ⟨g1, by omega⟩ ⟨by omega, by omega⟩ ⟨by omega, by omega⟩ ⟨by omega, by omega⟩ B1 S1Q ax (by omega)
    have md2 := smk_mono n 2 hn _ _ _ _ _ D2 ⟨by omega, by omega⟩ ⟨by omega, by omega⟩ ⟨by omega, g2⟩ ⟨by omega, by omega⟩ S2Q B2 ay (by omega)
    obtain ⟨d0, d1, d2, d3, u0, u1, u2, u3, ⟨P0, P1, P2, P3⟩, ⟨Q0, Q1, Q2, Q3⟩, hr, CM⟩ := mul5_ok l1 h1 l2 h2 n A.rl A.rh B.rl B.rh A.v B.v
    have mm1 := (prk_low hn g1 g2 g3 g4 ax ay bx by' P0 P1 P2 P3 S1R).1
    have mm2 := (prk_low hn g1 g2 g3 g4 ax ay bx by' Q0 Q1 Q2 Q3 S2R).2
    have rm1 : -(ifn n : Int) ≤ min (min (min d0 d1) d2) d3 := (hr _ (by have := min4_eq d0 d1 d2 d3; omega)).1
    have rm2 : max (max (max u0 u1) u2) u3 ≤ (ifn n : Int) := (hr _ (by have := max4_eq u0 u1 u2 u3; omega)).2
    clear P0 P1 P2 P3 Q0 Q1 Q2 Q3 hr S1P S1Q S1R S2P S2Q S2R A1 A2 B1 B2
    obtain ⟨M1, hM1⟩ : ∃ m, m = min (min (min d0 d1) d2) d3 := ⟨_, rfl⟩
    obtain ⟨M2, hM2⟩ : ∃ m, m = max (max (max u0 u1) u2) u3 := ⟨_, rfl⟩
    rw [← hM1] at CM mm1 rm1
    rw [← hM2] at CM mm2 rm2
    clear hM1 hM2
    have hC := has_keys n C1 C2 hn P vP rc1.1 rc2.2 mc1 mc2
    have hD := has_keys n D1 D2 hn Q vQ rd1.1 rd2.2 md1 md2
    have hM := has_keys n M1 M2 hn R vR rm1 rm2 mm1 mm2
    have hG := has_keys n (-keyOf h1 n) (-keyOf l1 n) hn (ngv R1) hV.2 (by omega) (by omega) (by omega) (by omega)
    have hJ1 := has_keys n (min (keyOf l1 n) (keyOf l2 n)) (max (keyOf h1 n) (keyOf h2 n)) hn R1 vA (by omega) (by omega) (by omega) (by omega)
    have hJ2 := has_keys n (min (keyOf l1 n) (keyOf l2 n)) (max (keyOf h1 n) (keyOf h2 n)) hn R2 vB (by omega) (by omega) (by omega) (by omega)
    obtain ⟨U1, U2, T1, T2, ru1, ru2, CU⟩ := sum3_ok l1 h1 l2 h2 (pz n (-keyOf h1 n)) (pz n (-keyOf l1 n)) n A.rl A.rh B.rl B.rh hG.1.2.1 hG.1.2.2.1 A.v B.v hG.1.1
    obtain ⟨-, -, -, vs4, vs5⟩ := vsp_num _ _ _ A.v
    obtain ⟨-, -, -, vs6, vs7⟩ := vsp_num _ _ _ B.v
    rw [hG.1.2.2.2.1] at T1
    rw [hG.1.2.2.2.2] at T2
    have mu1 : U1 ≤ kyN n 1 R2 := by
      have hn1 : U1 ≠ (ifn n : Int) := by
        intro e
        rcases T1 with ⟨h, -⟩ | ⟨-, -, -, r, hr, h⟩
        · omega
        · have := (ky_near n hn r (frm_vld _ _ _ _ hr).1).1
          omega
      have := (sm3_back n 1 kx ky U1 0 hn ⟨b1, b2⟩ ⟨b3, b4⟩ _ _ _ R2 cB T1).1 ⟨ax, bx, by omega⟩
      omega
    have mu2 : kyN n 2 R2 ≤ U2 := by
      have hn1 : U2 ≠ -(ifn n : Int) := by
        intro e
        rcases T2 with ⟨h, -⟩ | ⟨-, -, -, r, hr, h⟩
        · omega
        · have := (ky_near n hn r (frm_vld _ _ _ _ hr).1).1
          omega
      have := (sm3_back n 2 kx ky U2 0 hn ⟨b1, b2⟩ ⟨b3, b4⟩ _ _ _ R2 cB T2).2 ⟨ay, by', by omega⟩
      omega
    have hU := has_keys n U1 U2 hn R2 vB ru1.1 ru2.2 mu1 mu2
    have KD : Hid (∀ u, Kept w u → Calls Tryz.prog 17 #[sp2 l1 h1, sp2 l2 h2, .int .i64 n] u fun e w' => e = .returned (.tuple #[sp2 (pz n C1) (pz n C2), .int .i64 0]) ∧ Kept u w') := fun u k => CA u (hT.kept k)
    have KS : Hid (∀ u, Kept w u → Calls Tryz.prog 18 #[sp2 l1 h1, sp2 l2 h2, .int .i64 n] u fun e w' => e = .returned (.tuple #[sp2 (pz n D1) (pz n D2), .int .i64 0]) ∧ Kept u w') := fun u k => CD u (hT.kept k)
    have KM : Hid (∀ u, Kept w u → Calls Tryz.prog 19 #[sp2 l1 h1, sp2 l2 h2, .int .i64 n] u fun e w' => e = .returned (.tuple #[sp2 (pz n M1) (pz n M2), .int .i64 0]) ∧ Kept u w') := fun u k => CM u (hT.kept k)
    have KG : Hid (∀ u, Kept w u → Calls Tryz.prog 20 #[sp2 l1 h1, .int .i64 n] u fun e w' => e = .returned (.tuple #[sp2 (pz n (-keyOf h1 n)) (pz n (-keyOf l1 n)), .int .i64 0]) ∧ Kept u w') := fun u k => neg5_ok l1 h1 n A.rl A.rh A.v u
    have KJ : Hid (∀ u, Kept w u → Calls Tryz.prog 21 #[sp2 l1 h1, sp2 l2 h2, .int .i64 n] u fun e w' => e = .returned (.tuple #[sp2 (pz n (min (keyOf l1 n) (keyOf l2 n))) (pz n (max (keyOf h1 n) (keyOf h2 n))), .int .i64 0]) ∧ Kept u w') := fun u k => by
      have := join5_any l1 h1 l2 h2 n A.rl A.rh B.rl B.rh u
      rw [(btE_zero _ _ _ _ _).2 ⟨A.v, B.v⟩, if_pos rfl] at this
      exact this
    have KU : Hid (∀ (u v : World) (B : Nat), Kept w u → B = v.heap.size → Kept (v.alloc (.cells #[.int .i64 l1, .int .i64 h1, .int .i64 l2, .int .i64 h2, .int .i64 (pz n (-keyOf h1 n)), .int .i64 (pz n (-keyOf l1 n))] 23)) u → Calls Tryz.prog 22 #[.slice (some ⟨B, 0, none⟩) 3 3, .int .i64 n] u fun e w' => e = .returned (.tuple #[sp2 (pz n U1) (pz n U2), .int .i64 0]) ∧ Kept u w') := fun u v B k hB hk => CU u v B (hT.kept k) hB hk
    have KH : Hid (∀ u o1 o2 T a9 d9, (o1 = l1 ∧ o2 = h1 ∧ T = R1 ∨ o1 = pz n C1 ∧ o2 = pz n C2 ∧ T = P ∨ o1 = pz n D1 ∧ o2 = pz n D2 ∧ T = Q ∨ o1 = pz n M1 ∧ o2 = pz n M2 ∧ T = R ∨ o1 = pz n (-keyOf h1 n) ∧ o2 = pz n (-keyOf l1 n) ∧ T = ngv R1 ∨ o1 = pz n (min (keyOf l1 n) (keyOf l2 n)) ∧ o2 = pz n (max (keyOf h1 n) (keyOf h2 n)) ∧ T = R1 ∨ o1 = pz n (min (keyOf l1 n) (keyOf l2 n)) ∧ o2 = pz n (max (keyOf h1 n) (keyOf h2 n)) ∧ T = R2 ∨ o1 = pz n U1 ∧ o2 = pz n U2 ∧ T = R2) → Kept w u → Sl u (.slice a9 T.mag.length d9) T.mag → Calls Tryz.prog 23 #[sp2 o1 o2, .int .i64 0, .agg #[.bool T.neg, .slice a9 T.mag.length d9, .int .i64 T.exp], .int .i64 n] u fun e w' => e = .returned (.bool true) ∧ Kept u w') := fun u o1 o2 T a9 d9 hd k hs => by
      rcases hd with ⟨rfl, rfl, rfl⟩ | ⟨rfl, rfl, rfl⟩ | ⟨rfl, rfl, rfl⟩ | ⟨rfl, rfl, rfl⟩ | ⟨rfl, rfl, rfl⟩ | ⟨rfl, rfl, rfl⟩ | ⟨rfl, rfl, rfl⟩ | ⟨rfl, rfl, rfl⟩
      · exact lhas_ok _ _ n A.rl A.rh A.v _ vA (by omega) (by omega) a9 d9 u (hT.kept k) hs
      · exact hC.2 a9 d9 u (hT.kept k) hs
      · exact hD.2 a9 d9 u (hT.kept k) hs
      · exact hM.2 a9 d9 u (hT.kept k) hs
      · exact hG.2 a9 d9 u (hT.kept k) hs
      · exact hJ1.2 a9 d9 u (hT.kept k) hs
      · exact hJ2.2 a9 d9 u (hT.kept k) hs
      · exact hU.2 a9 d9 u (hT.kept k) hs
    have KZ' : ∀ u, Kept w u → Calls Tryz.prog 25 #[sp2 l2 h2, .agg #[.bool false, .slice none 0 0, .int .i64 0], .int .i64 n] u fun e w' => e = .returned (.tuple #[.bool (decide (keyOf l2 n ≤ 0 ∧ 0 ≤ keyOf h2 n)), .int .i64 0]) ∧ Kept u w' := fun u k => by
      have := has5_ok l2 h2 n B.rl B.rh B.v ⟨false, [], 0⟩ rfl none 0 u (hT.kept k) ⟨none, 0, rfl, Nat.le_refl _, Nat.zero_le _, fun h => absurd rfl h⟩
      rw [ky_zero, ky_zero] at this
      exact this
    clear hC hD hM hG hJ1 hJ2 hU CA CD CM CU
    by_cases hz : keyOf l2 n ≤ 0 ∧ 0 ≤ keyOf h2 n
    · have KV : Hid (∀ u, Kept w u → Calls Tryz.prog 24 #[sp2 l1 h1, sp2 l2 h2, .int .i64 n] u fun e w' => e = .returned (.tuple #[sp2 0 0, .int .i64 8]) ∧ Kept u w') := fun u k => div5_no _ _ _ _ n A.rl A.rh B.rl B.rh A.v B.v hz u
      rw [decide_eq_true hz] at KZ'
      have KZ : Hid (∀ u, Kept w u → Calls Tryz.prog 25 #[sp2 l2 h2, .agg #[.bool false, .slice none 0 0, .int .i64 0], .int .i64 n] u fun e w' => e = .returned (.tuple #[.bool true, .int .i64 0]) ∧ Kept u w') := KZ'
      rcases hn with rfl | rfl
      · exact holdC_64 a b bw av w0 _ l1 h1 l2 h2 (by rw [hmask]; omega) rfl true true R1 R2 rfl rfl P Q R (ngv R1) _ _ _ _ _ _ _ _ _ _ _ _ 0 0 0 0 0 0 false false w KL KA KP KQ KR KN KD KS KM KG KJ KU KH KV KZ
      · exact holdC_32 a b bw av w0 _ l1 h1 l2 h2 (by rw [hmask]; omega) rfl true true R1 R2 rfl rfl P Q R (ngv R1) _ _ _ _ _ _ _ _ _ _ _ _ 0 0 0 0 0 0 false false w KL KA KP KQ KR KN KD KS KM KG KJ KU KH KV KZ
    · obtain ⟨z0, z1, z2, z3, y0, y1, y2, y3, ⟨P0, P1, P2, P3⟩, ⟨Q0, Q1, Q2, Q3⟩, hr, CV⟩ := div5_ok l1 h1 l2 h2 n A.rl A.rh B.rl B.rh A.v B.v hz
      have hy0 : ky ≠ 0 := by omega
      obtain ⟨Kd, od, ⟨qd1, -⟩, rkd, CQ1⟩ := quot_fl n hn 1 (.inl rfl) fx fy kx ky x1 x2 ⟨b1, b2⟩ ⟨b3, b4⟩ hy0 cx cy
      obtain ⟨Ku, ou, ⟨-, qu1⟩, rku, CQ2⟩ := quot_fl n hn 2 (.inr rfl) fx fy kx ky x1 x2 ⟨b1, b2⟩ ⟨b3, b4⟩ hy0 cx cy
      have Gd : Qrk n 1 kx ky Kd := .inr (.inr ⟨⟨b3, b4⟩, ⟨b1, b2⟩, fun _ => qd1 rfl, fun h => by omega⟩)
      have Gu : Qrk n 2 kx ky Ku := .inr (.inr ⟨⟨b3, b4⟩, ⟨b1, b2⟩, fun h => by omega, fun _ => qu1 rfl⟩)
      have t := qrk_pt n kx ky Kd Ku hn ⟨b1, b2⟩ ⟨b3, b4⟩ hy0 Gd Gu
      have w1' : (1 : Int) = 1 ∨ (1 : Int) = 2 := by simp
      have w2' : (2 : Int) = 1 ∨ (2 : Int) = 2 := by simp
      have hsg : 0 < keyOf l2 n ∨ keyOf h2 n < 0 := by omega
      have L := (qrk_low hn w1' g1 g2 g3 g4 hsg ax ay bx by' (all5 (hr _ (by simp)) (hr _ (by simp)) (hr _ (by simp)) (hr _ (by simp)) rkd) P0 P1 P2 P3 Gd).1
      have U := (qrk_low hn w2' g1 g2 g3 g4 hsg ax ay bx by' (all5 (hr _ (by simp)) (hr _ (by simp)) (hr _ (by simp)) (hr _ (by simp)) rku) Q0 Q1 Q2 Q3 Gu).2
      have rz1 : -(ifn n : Int) ≤ min (min (min z0 z1) z2) z3 := (hr _ (by have := min4_eq z0 z1 z2 z3; omega)).1
      have rz2 : max (max (max y0 y1) y2) y3 ≤ (ifn n : Int) := (hr _ (by have := max4_eq y0 y1 y2 y3; omega)).2
      clear P0 P1 P2 P3 Q0 Q1 Q2 Q3 hr
      obtain ⟨Z1, hZ1⟩ : ∃ m, m = min (min (min z0 z1) z2) z3 := ⟨_, rfl⟩
      obtain ⟨Z2, hZ2⟩ : ∃ m, m = max (max (max y0 y1) y2) y3 := ⟨_, rfl⟩
      rw [← hZ1] at CV L rz1
      rw [← hZ2] at CV U rz2
      clear hZ1 hZ2
      obtain ⟨vz1, vz2, vz3, vz4, vz5⟩ := vsp_keys n Z1 Z2 hn rz1 (by omega) (by omega) rz2 (by omega)
      have KV : Hid (∀ u, Kept w u → Calls Tryz.prog 24 #[sp2 l1 h1, sp2 l2 h2, .int .i64 n] u fun e w' => e = .returned (.tuple #[sp2 (pz n Z1) (pz n Z2), .int .i64 0]) ∧ Kept u w') := fun u k => CV u (hT.kept k)
      rw [decide_eq_false hz] at KZ'
      have KZ : Hid (∀ u, Kept w u → Calls Tryz.prog 25 #[sp2 l2 h2, .agg #[.bool false, .slice none 0 0, .int .i64 0], .int .i64 n] u fun e w' => e = .returned (.tuple #[.bool false, .int .i64 0]) ∧ Kept u w') := KZ'
      have KW : Hid (∀ u, Calls Tryz.prog 26 #[sp2 (pz n Z1) (pz n Z2), .int .i64 n] u fun e w' => e = .returned (.bool true) ∧ Kept u w') := fun u => by
        have := svalid_any (pz n Z1) (pz n Z2) n vz2 vz3 u
        rw [vz1] at this
        exact this
      rw [o1, o2] at CQ1 CQ2
      have KT : Hid (∀ u a1 d1 a2 d2 way z o er, (way = 1 ∧ z = pz n Kd ∧ o = od ∧ er = 0 ∨ way = 2 ∧ z = pz n Ku ∧ o = ou ∧ er = 0) → Kept w u → Sl u (.slice a1 R1.mag.length d1) R1.mag → Sl u (.slice a2 R2.mag.length d2) R2.mag → Calls Tryz.prog 27 #[.agg #[.bool R1.neg, .slice a1 R1.mag.length d1, .int .i64 R1.exp], .agg #[.bool R2.neg, .slice a2 R2.mag.length d2, .int .i64 R2.exp], .int .i64 n, .int .i64 way] u fun e w' => e = .returned (.tuple #[.int .i64 z, .bool o, .int .i64 er]) ∧ Kept u w') := fun u a1 d1 a2 d2 way z o er hd k s1 s2 => by
        rcases hd with ⟨rfl, rfl, rfl, rfl⟩ | ⟨rfl, rfl, rfl, rfl⟩
        · exact CQ1 a1 a2 d1 d2 u (hT.kept k) s1 s2
        · exact CQ2 a1 a2 d1 d2 u (hT.kept k) s1 s2
      have KB : Hid (∀ u x y, (x = pz n Kd ∧ y = pz n Z1 ∨ x = pz n Z2 ∧ y = pz n Ku) → Calls Tryz.prog 28 #[.int .i64 x, .int .i64 y, .int .i64 n] u fun e w' => e = .returned (.bool false) ∧ Kept u w') := fun u x y hd => by
        rcases hd with ⟨rfl, rfl⟩ | ⟨rfl, rfl⟩
        · exact pz_less n Kd Z1 hn rkd.1 rkd.2 rz1 (by omega) L u
        · exact pz_less n Z2 Ku hn (by omega) rz2 rku.1 rku.2 U u
      rcases hn with rfl | rfl
      · exact holdB_64 a b bw av w0 _ l1 h1 l2 h2 (by rw [hmask]; omega) rfl true true R1 R2 rfl rfl P Q R (ngv R1) _ _ _ _ _ _ _ _ _ _ _ _ _ _ _ _ 0 0 od ou w KL KA KP KQ KR KN KD KS KM KG KJ KU KH KV KZ KW KT KB
      · exact holdB_32 a b bw av w0 _ l1 h1 l2 h2 (by rw [hmask]; omega) rfl true true R1 R2 rfl rfl P Q R (ngv R1) _ _ _ _ _ _ _ _ _ _ _ _ _ _ _ _ 0 0 od ou w KL KA KP KQ KR KN KD KS KM KG KJ KU KH KV KZ KW KT KB
  · have hok' : (decide (cls (mskp a n) n < 3) && decide (cls (mskp b n) n < 3)) = false := by
      rw [← Bool.not_eq_true, Bool.and_eq_true, decide_eq_true_eq, decide_eq_true_eq]
      exact hok
    rcases hn with rfl | rfl
    · exact holdA_64 a b bw av w0 _ _ _ _ _ (by rw [hmask]; omega) rfl _ _ _ _ hok' w KL KA
    · exact holdA_32 a b bw av w0 _ _ _ _ _ (by rw [hmask]; omega) rfl _ _ _ _ hok' w KL KA
theorem spanHolds_true (w : World) (hT : Tab w) (a b bw av w0 : Int) (ra : RB a) (rb : RB b) : Calls Tryz.prog 7 #[.int .i64 a, .int .i64 b, .int .i64 bw, .int .i64 av, .int .i64 w0] w fun e w' => e = .returned (.bool true) ∧ Kept w w' :=
  spanHolds_at (32 + 32 * (w0 % 2)) (by omega) a b bw av w0 ra rb rfl w hT
end Go.Proofs.YtdhimkpfnhoagaaGreatDoor

namespace Go.Proofs.YtdhimkpfnhoagaaGreatDoor
open Go.ChangeShapes Go.WideShapes Go.ChangeAt Go.RowKit Go.Joins
set_option linter.unusedVariables false

theorem laid_out : laidOutB Tryz.prog = true := by kernel_rfl
theorem wf_rng (n : Int) (h : (Lit.int .i64 n).wf = true) : -9223372036854775808 ≤ n ∧ n ≤ 9223372036854775807 := by
  have e1 : IntKind.i64.min = -9223372036854775808 := rfl
  have e2 : IntKind.i64.max = 9223372036854775807 := rfl
  simp [Lit.wf] at h
  omega

section
variable {H : Type} {enc : TypeId × Value → H} {W : World}

theorem trodAll_stays {W' : World} {sp : Nat → Bool} : ∀ {ts : List TypeId} {vs : List Value} {ds : List (DataW H)} {p : List MemPlace}, (∀ t ∈ ts, Tryz.prog.readableRec t = true ∧ t < Tryz.prog.types.size) → DataW.TrodAll enc Tryz.prog W 0 (fun _ => true) true ts vs ds p → (∀ x ∈ p, W.sameAt W' x) → (∀ x ∈ p, sp x.block = true) → DataW.TrodAll enc Tryz.prog W' 0 sp true ts vs ds p
  | [], _, _, _, _, h, _, _ => by
    obtain ⟨rfl, rfl, rfl⟩ := trodAll_nil h
    exact trodAll_mk0
  | t :: ts, _, _, _, hr, h, hs, hp => by
    obtain ⟨v, vs1, d, ds1, a, b, rfl, rfl, rfl, h1, h2⟩ := trodAll_cons h
    obtain ⟨r1, r2⟩ := hr t (by simp)
    exact trodAll_cons_mk (WideElems.Trod_stays laid_out r1 r2 h1 (fun x hx => hs x (by simp [hx])) (fun x hx => hp x (by simp [hx]))) (trodAll_stays (fun t' ht' => hr t' (by simp [ht'])) h2 (fun x hx => hs x (by simp [hx])) (fun x hx => hp x (by simp [hx])))
end
end Go.Proofs.YtdhimkpfnhoagaaGreatDoor
