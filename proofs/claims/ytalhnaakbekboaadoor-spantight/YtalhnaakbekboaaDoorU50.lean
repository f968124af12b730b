/- SpanTight. How arguments are read: exact numbers, lists of ints; and that they read behind the call as before. -/
import Derived.Test.YtalhnaakbekboaaDoorU49
import Derived.Test.YtalhnaakbekboaaDoorU14
import Derived.ProofKit
import Derived.OpenShut
import Derived.Carry
import Derived.Lib.SmallJoins
import Derived.ChangeSlices
namespace Go.Proofs.YtalhnaakbekboaaDoor
open Go.ChangeShapes Go.WideShapes Go.ChangeAt Go.RowKit Ieee
set_option linter.unusedVariables false
set_option linter.unusedSimpArgs false

theorem vsp_keys (n K1 K2 : Int) (hn : n = 64 ∨ n = 32) (h1 : -(ifn n : Int) ≤ K1) (h2 : K1 < (ifn n : Int)) (h3 : -(ifn n : Int) < K2) (h4 : K2 ≤ (ifn n : Int)) (h5 : K1 ≤ K2) : vsp (pz n K1) (pz n K2) n = true ∧ RB (pz n K1) ∧ RB (pz n K2) ∧ keyOf (pz n K1) n = K1 ∧ keyOf (pz n K2) n = K2 := by
  have e1 := pz_key n K1 hn h1 (by omega)
  have e2 := pz_key n K2 hn (by omega) h4
  refine ⟨?_, pz_range n K1 hn h1 (by omega), pz_range n K2 hn (by omega) h4, e1, e2⟩
  unfold vsp
  rw [pz_num n K1 hn h1 (by omega), pz_num n K2 hn (by omega) h4, e1, e2]
  simp only [Bool.true_and, Bool.and_eq_true, decide_eq_true_eq]
  omega
/- what is around a number, by keys -/
theorem ky_near (n : Int) (hn : n = 64 ∨ n = 32) (r : Nm) (hv : vld r = true) : (kyN n 1 r < (ifn n : Int) ∧ -(ifn n : Int) < kyN n 2 r ∧ kyN n 1 r ≤ kyN n 2 r) ∧ decide (kyN n 1 r = kyN n 2 r) = !oxN n 0 r ∧ (oxN n 0 r = true → kyN n 2 r = kyN n 1 r + 1) := by
  obtain ⟨hN, e1, e2⟩ := nbrN n hn r hv (min r.exp (-2000)) (fun _ => by omega) (by rcases hn with rfl | rfl <;> (have : kleast 64 = -1074 := rfl; have : kleast 32 = -149 := rfl; omega))
  rw [e2]
  cases ho : oxN n 1 r
  · obtain ⟨a1, a2, a3, a4, a5⟩ := hN.same ho
    refine ⟨by omega, ?_, fun h => by cases h⟩
    rw [decide_eq_true a1.symm]
    rfl
  · obtain ⟨a1, a2, a3, a4, -⟩ := hN.next ho
    refine ⟨by omega, ?_, fun _ => a1⟩
    rw [decide_eq_false (by omega)]
    rfl
theorem tight_ok (n : Int) (hn : n = 64 ∨ n = 32) (r : Nm) (hv : vld r = true) (ao : Option Addr) (c : Nat) (w : World) (hT : Tab w) (h : Sl w (.slice ao r.mag.length c) r.mag) : Calls Tryd.prog 12 #[sp2 (rzN n 1 r) (rzN n 2 r), .agg #[.bool r.neg, .slice ao r.mag.length c, .int .i64 r.exp], .int .i64 n] w fun e w' => e = .returned (.bool true) ∧ Kept w w' := by
  obtain ⟨⟨b1, b2, b3⟩, hd, hx⟩ := ky_near n hn r hv
  have g1 := kyN_range n 1 r
  have g2 := kyN_range n 2 r
  obtain ⟨v1, v2, v3, v4, v5⟩ := vsp_keys n (kyN n 1 r) (kyN n 2 r) hn g1.1 b1 b2 g2.2 b3
  refine tight_walk (rzN n 1 r) (rzN n 2 r) n r.neg ao r.mag.length c r.exp (rzN n 0 r) (nxt (rzN n 1 r) n) (oxN n 0 r) w (fun u k => Around_ok n hn r hv ao c u (hT.kept k) (h.kept k)) (fun u k => roundz n 0 hn (.inl rfl) r hv ao c u (hT.kept k) (h.kept k)) (fun u => ?_) (fun _ u => next_any _ n v2.1 v2.2 u) (fun ho u => ?_)
  · have := Point_ok (rzN n 1 r) (rzN n 2 r) n v2 v3 v1 u
    unfold rzN at this
    rw [v4, v5, hd] at this
    exact this
  · obtain ⟨p1, p2, p3⟩ := pz_next n (kyN n 1 r) hn g1.1 b1
    have := canon_any (nxt (rzN n 1 r) n) n u
    unfold rzN at this ⊢
    rw [p1, ← hx ho] at this
    exact this
/- a finite pattern's number, by its key -/
theorem ofN_key (y n : Int) (hn : n = 64 ∨ n = 32) (hy : RB y) (hc : cls y n < 3) : ofN y n = ofN (pz n (keyOf y n)) n ∧ isnum y n = true ∧ (-(ifn n : Int) < keyOf y n ∧ keyOf y n < (ifn n : Int)) := by
  have hi : isnum y n = true := by
    unfold isnum
    rw [decide_eq_true_eq]
    exact ⟨hn, by omega⟩
  have hf := fin_key y n hn hi hy
  have hfin : fin y n = true := by
    unfold fin
    rw [decide_eq_true_eq]
    exact ⟨hn, hc⟩
  rw [hfin] at hf
  have hne := of_decide_eq_true hf.symm
  have hr := key_rng y n hi hy.1 hy.2
  refine ⟨?_, hi, by omega⟩
  have hcan := can_pz y n hi hy.1 hy.2
  rw [← hcan]
  unfold can
  rw [if_pos hi]
  rcases hn with rfl | rfl
  · rw [if_pos rfl]
    by_cases hz : y = -9223372036854775808
    · rw [if_pos hz]
      subst hz
      rw [(of_zero (-9223372036854775808) 64 (by decide)).2, (of_zero 0 64 (by decide)).2]
    · rw [if_neg hz]
  · rw [if_neg (by decide : ¬ (32 : Int) = 64)]
    by_cases hz : y = 2147483648
    · rw [if_pos hz]
      subst hz
      rw [(of_zero 2147483648 32 (by decide)).2, (of_zero 0 32 (by decide)).2]
    · rw [if_neg hz]
theorem of_both_lies (y n : Int) (hn : n = 64 ∨ n = 32) (hy : RB y) (hc : cls y n < 3) : Lies (-1075) 5000 (ofN y n) ∧ vz (-1075) (ofN y n) = kvz n (-1074) (keyOf y n) * 2 := by
  obtain ⟨e, hi, b1, b2⟩ := ofN_key y n hn hy hc
  rw [e]
  obtain ⟨h1, h2⟩ := of_key n (keyOf y n) hn b1 b2 (-1075) (by decide) (by decide)
  refine ⟨h1, ?_⟩
  have hkl : (-1074 : Int) ≤ kleast n := by rcases hn with rfl | rfl <;> decide
  rw [h2, kvz_down n (-1075) (-1074) _ (by decide) hkl]
  rfl
theorem spanTight_at (n : Int) (hn : n = 64 ∨ n = 32) (a b w0 : Int) (ra : RB a) (rb : RB b) (hw : n = 32 + 32 * (w0 % 2)) (w : World) (hT : Tab w) : Calls Tryd.prog 3 #[.int .i64 a, .int .i64 b, .int .i64 w0] w fun e w' => e = .returned (.bool true) ∧ Kept w w' := by
  have hm1 := mskp_rb a n ra
  have hm2 := mskp_rb b n rb
  have KA : Hid (∀ u, Kept w u → Calls Tryd.prog 7 #[] u fun e w' => e = .returned (.bool true) ∧ Kept u w') := fun u k => alive5 u (hT.kept k)
  have hmask := mask1 w0
  have KL : Hid (∀ u q y ok R, (q = a ∧ y = mskp a n ∧ ok = decide (cls (mskp a n) n < 3) ∧ R = numOf (mskp a n) n ∨ q = b ∧ y = mskp b n ∧ ok = decide (cls (mskp b n) n < 3) ∧ R = numOf (mskp b n) n) → Kept w u → Calls Tryd.prog 6 #[.int .i64 q, .int .i64 0, .int .i64 0, .int .i64 n] u fun e w' => ∃ v, e = .returned (.tuple #[sp2 y y, v, .bool ok]) ∧ New u w' v R ∧ Kept u w') := fun u q y ok R h k => by
    rcases h with ⟨rfl, rfl, rfl, rfl⟩ | ⟨rfl, rfl, rfl, rfl⟩
    · exact lar_any n hn q 0 0 ra u (hT.kept k)
    · exact lar_any n hn q 0 0 rb u (hT.kept k)
  by_cases hok : cls (mskp a n) n < 3 ∧ cls (mskp b n) n < 3
  · obtain ⟨hc1, hc2⟩ := hok
    obtain ⟨e1, i1, b1⟩ := ofN_key _ n hn hm1 hc1
    obtain ⟨e2, i2, b2⟩ := ofN_key _ n hn hm2 hc2
    obtain ⟨l1, z1⟩ := of_both_lies _ n hn hm1 hc1
    obtain ⟨l2, z2⟩ := of_both_lies _ n hn hm2 hc2
    have v1 : vsp (mskp a n) (mskp a n) n = true := by
      unfold vsp
      rw [i1]
      simp only [Bool.true_and, Bool.and_eq_true, decide_eq_true_eq]
      omega
    have v2 : vsp (mskp b n) (mskp b n) n = true := by
      unfold vsp
      rw [i2]
      simp only [Bool.true_and, Bool.and_eq_true, decide_eq_true_eq]
      omega
    have hN1 : numOf (mskp a n) n = ofN (mskp a n) n := by unfold numOf; rw [if_pos hc1]
    have hN2 : numOf (mskp b n) n = ofN (mskp b n) n := by unfold numOf; rw [if_pos hc2]
    -- the exact sum and product
    have hadd := add_cfm (-1075) 5000 (by decide) _ _ l1 l2
    have hmul := mul_cfm (-1075) 5000 (by decide) (by decide) (by decide) _ _ l1 l2
    rw [z1, z2, ← Int.add_mul] at hadd
    rw [z1, z2] at hmul
    have s1 : ∀ z : Int, cfm (z * 2) (-1075) = cfm z (-1074) := fun z => by
      have := cfm_shift z 1 (-1075)
      exact this
    have s2 : ∀ p q : Int, cfm (p * 2 * (q * 2)) (-1075 + -1075) = cfm (p * q) (-2148) := fun p q => by
      have := cfm_shift (p * q) 2 (-2150)
      rw [show p * 2 * (q * 2) = p * q * 2 ^ 2 by rw [show (2 : Int) ^ 2 = 2 * 2 by decide]; simp only [Int.mul_assoc, Int.mul_comm, Int.mul_left_comm]]
      exact this
    rw [s1] at hadd
    rw [s2] at hmul
    obtain ⟨K1, K2, S1, S2, -, -, CA⟩ := add5_ok (mskp a n) (mskp a n) (mskp b n) (mskp b n) n hm1 hm1 hm2 hm2 v1 v2
    obtain ⟨d0, d1, d2, d3, u0, u1, u2, u3, ⟨P0, P1, P2, P3⟩, ⟨Q0, Q1, Q2, Q3⟩, -, CM⟩ := mul5_ok (mskp a n) (mskp a n) (mskp b n) (mskp b n) n hm1 hm1 hm2 hm2 v1 v2
    -- the sum's number
    obtain ⟨p, hp, hK1, hK2⟩ : ∃ p, cfm (kvz n (-1074) (keyOf (mskp a n) n) + kvz n (-1074) (keyOf (mskp b n) n)) (-1074) = some p ∧ K1 = kyN n 1 p ∧ K2 = kyN n 2 p := by
      rcases S1 with ⟨h, -⟩ | ⟨h, -⟩ | ⟨-, -, p, hp, h1⟩
      · omega
      · omega
      rcases S2 with ⟨h, -⟩ | ⟨h, -⟩ | ⟨-, -, p', hp', h2⟩
      · omega
      · omega
      rw [hp] at hp'
      cases hp'
      exact ⟨p, hp, h1, h2⟩
    have vp := (frm_vld _ _ _ _ hp).1
    -- the product's number
    obtain ⟨r, hr, hD, hU⟩ : ∃ r, cfm (kvz n (-1074) (keyOf (mskp a n) n) * kvz n (-1074) (keyOf (mskp b n) n)) (-2148) = some r ∧ (∀ K, Prk n 1 (keyOf (mskp a n) n) (keyOf (mskp b n) n) K → K = kyN n 1 r) ∧ (∀ K, Prk n 2 (keyOf (mskp a n) n) (keyOf (mskp b n) n) K → K = kyN n 2 r) := by
      by_cases hz : keyOf (mskp a n) n = 0 ∨ keyOf (mskp b n) n = 0
      · have hz0 : kvz n (-1074) (keyOf (mskp a n) n) * kvz n (-1074) (keyOf (mskp b n) n) = 0 := by
          rcases hz with h | h <;> rw [h, kvz_zero] <;> simp
        have hk0 : ∀ way, kyN n way ⟨false, [], 0⟩ = 0 := fun way => by
          unfold kyN mgN
          simp
        rw [hz0]
        refine ⟨⟨false, [], 0⟩, cfm_zero _, fun K h => ?_, fun K h => ?_⟩
        · rw [hk0]
          rcases h with ⟨-, h⟩ | ⟨h1, h2, -⟩ | ⟨h1, h2, -⟩
          · exact h
          · omega
          · omega
        · rw [hk0]
          rcases h with ⟨-, h⟩ | ⟨h1, h2, -⟩ | ⟨h1, h2, -⟩
          · exact h
          · omega
          · omega
      · have hpr : ∀ way K, Prk n way (keyOf (mskp a n) n) (keyOf (mskp b n) n) K → ∃ r, cfm (kvz n (-1074) (keyOf (mskp a n) n) * kvz n (-1074) (keyOf (mskp b n) n)) (-2148) = some r ∧ K = kyN n way r := fun way K h => by
          rcases h with ⟨h, -⟩ | ⟨-, -, h, -⟩ | ⟨-, -, -, -, r, hr, h⟩
          · exact absurd h hz
          · omega
          · exact ⟨r, hr, h⟩
        obtain ⟨r, hr, -⟩ := hpr 1 d0 P0
        refine ⟨r, hr, fun K h => ?_, fun K h => ?_⟩
        · obtain ⟨r', hr', e⟩ := hpr 1 K h
          rw [hr] at hr'
          cases hr'
          exact e
        · obtain ⟨r', hr', e⟩ := hpr 2 K h
          rw [hr] at hr'
          cases hr'
          exact e
    have vr := (frm_vld _ _ _ _ hr).1
    have ed0 := hD d0 P0
    have ed1 := hD d1 P1
    have ed2 := hD d2 P2
    have ed3 := hD d3 P3
    have eu0 := hU u0 Q0
    have eu1 := hU u1 Q1
    have eu2 := hU u2 Q2
    have eu3 := hU u3 Q3
    have emin : min (min (min d0 d1) d2) d3 = kyN n 1 r := by omega
    have emax : max (max (max u0 u1) u2) u3 = kyN n 2 r := by omega
    have KD : Hid (∀ u a1 c1 a2 c2, Kept w u → Sl u (.slice a1 (ofN (mskp a n) n).mag.length c1) (ofN (mskp a n) n).mag → Sl u (.slice a2 (ofN (mskp b n) n).mag.length c2) (ofN (mskp b n) n).mag → Calls Tryd.prog 8 #[.agg #[.bool (ofN (mskp a n) n).neg, .slice a1 (ofN (mskp a n) n).mag.length c1, .int .i64 (ofN (mskp a n) n).exp], .agg #[.bool (ofN (mskp b n) n).neg, .slice a2 (ofN (mskp b n) n).mag.length c2, .int .i64 (ofN (mskp b n) n).exp]] u fun e w' => ∃ v, e = .returned (.tuple #[v, .int .i64 0]) ∧ New u w' v p ∧ Kept u w') := fun u a1 c1 a2 c2 k h1 h2 => addz_ok u (hT.kept k) _ _ _ l1.ok a1 c1 _ _ _ l2.ok a2 c2 h1 h2 p (hadd.trans hp)
    have KM : Hid (∀ u a1 c1 a2 c2, Kept w u → Sl u (.slice a1 (ofN (mskp a n) n).mag.length c1) (ofN (mskp a n) n).mag → Sl u (.slice a2 (ofN (mskp b n) n).mag.length c2) (ofN (mskp b n) n).mag → Calls Tryd.prog 9 #[.agg #[.bool (ofN (mskp a n) n).neg, .slice a1 (ofN (mskp a n) n).mag.length c1, .int .i64 (ofN (mskp a n) n).exp], .agg #[.bool (ofN (mskp b n) n).neg, .slice a2 (ofN (mskp b n) n).mag.length c2, .int .i64 (ofN (mskp b n) n).exp]] u fun e w' => ∃ v, e = .returned (.tuple #[v, .int .i64 0]) ∧ New u w' v r ∧ Kept u w') := fun u a1 c1 a2 c2 k h1 h2 => mulz_ok u (hT.kept k) _ _ _ l1.ok a1 c1 _ _ _ l2.ok a2 c2 h1 h2 r (hmul.trans hr)
    have KS : Hid (∀ u, Kept w u → Calls Tryd.prog 10 #[sp2 (mskp a n) (mskp a n), sp2 (mskp b n) (mskp b n), .int .i64 n] u fun e w' => e = .returned (.tuple #[sp2 (rzN n 1 p) (rzN n 2 p), .int .i64 0]) ∧ Kept u w') := fun u k => by
      have := CA u (hT.kept k)
      rw [hK1, hK2] at this
      exact this
    have KX : Hid (∀ u, Kept w u → Calls Tryd.prog 11 #[sp2 (mskp a n) (mskp a n), sp2 (mskp b n) (mskp b n), .int .i64 n] u fun e w' => e = .returned (.tuple #[sp2 (rzN n 1 r) (rzN n 2 r), .int .i64 0]) ∧ Kept u w') := fun u k => by
      have := CM u (hT.kept k)
      rw [emin, emax] at this
      exact this
    have KT : Hid (∀ u q1 q2 Q a1 c1, (q1 = rzN n 1 p ∧ q2 = rzN n 2 p ∧ Q = p ∨ q1 = rzN n 1 r ∧ q2 = rzN n 2 r ∧ Q = r) → Kept w u → Sl u (.slice a1 Q.mag.length c1) Q.mag → Calls Tryd.prog 12 #[sp2 q1 q2, .agg #[.bool Q.neg, .slice a1 Q.mag.length c1, .int .i64 Q.exp], .int .i64 n] u fun e w' => e = .returned (.bool true) ∧ Kept u w') := fun u q1 q2 Q a1 c1 h k hs => by
      rcases h with ⟨rfl, rfl, rfl⟩ | ⟨rfl, rfl, rfl⟩
      · exact tight_ok n hn _ vp a1 c1 u (hT.kept k) hs
      · exact tight_ok n hn _ vr a1 c1 u (hT.kept k) hs
    rw [decide_eq_true hc1, decide_eq_true hc2, hN1, hN2] at KL
    rcases hn with rfl | rfl
    · exact tightB_64 a b w0 _ _ (by rw [hmask]; omega) true true _ _ rfl rfl p r _ _ _ _ w KL KA KD KM KS KX KT
    · exact tightB_32 a b w0 _ _ (by rw [hmask]; omega) true true _ _ rfl rfl p r _ _ _ _ w KL KA KD KM KS KX KT
  · have hok' : (decide (cls (mskp a n) n < 3) && decide (cls (mskp b n) n < 3)) = false := by
      rw [← Bool.not_eq_true, Bool.and_eq_true, decide_eq_true_eq, decide_eq_true_eq]
      exact hok
    rcases hn with rfl | rfl
    · exact tightA_64 a b w0 _ _ (by rw [hmask]; omega) _ _ _ _ hok' w KL KA
    · exact tightA_32 a b w0 _ _ (by rw [hmask]; omega) _ _ _ _ hok' w KL KA
theorem spanTight_true (w : World) (hT : Tab w) (a b w0 : Int) (ra : RB a) (rb : RB b) : Calls Tryd.prog 3 #[.int .i64 a, .int .i64 b, .int .i64 w0] w fun e w' => e = .returned (.bool true) ∧ Kept w w' :=
  spanTight_at (32 + 32 * (w0 % 2)) (by omega) a b w0 ra rb rfl w hT
end Go.Proofs.YtalhnaakbekboaaDoor

namespace Go.Proofs.YtalhnaakbekboaaDoor
open Go.ChangeShapes Go.WideShapes Go.ChangeAt Go.RowKit Go.Joins
set_option linter.unusedVariables false

theorem laid_out : laidOutB Tryd.prog = true := by kernel_rfl
theorem cells_num : Tryd.prog.cellsOf 26 = 3 := by kernel_rfl
theorem cells_int : Tryd.prog.cellsOf 3 = 1 := by kernel_rfl
theorem wf_rng (n : Int) (h : (Lit.int .i64 n).wf = true) : -9223372036854775808 ≤ n ∧ n ≤ 9223372036854775807 := by
  have e1 : IntKind.i64.min = -9223372036854775808 := rfl
  have e2 : IntKind.i64.max = 9223372036854775807 := rfl
  simp [Lit.wf] at h
  omega

section
variable {H : Type} {enc : TypeId × Value → H} {W : World}

theorem open_lst {fuel : Nat} {cs : List Value} {x : DataW H × List MemPlace} (h : DataW.trod enc Tryd.prog W 0 (fun _ => true) true fuel 24 cs = some x) :
    ∃ (L : List Int) (ar : Option Addr) (cr : Nat), cs = [.slice ar L.length cr] ∧ (ar = none → cr = 0) ∧ Rg L ∧ Sl W (.slice ar L.length cr) L := by
  rcases open_ints Tryd.underlying24 Tryd.underlying3 cells_int h with ⟨rfl, -⟩ | ⟨a, len, cap, zs, rfl, -, hl, hm, hz, -, hcell, hwf⟩
  · exact ⟨[], none, 0, rfl, fun _ => rfl, fun d hd => (by cases hd), none, 0, rfl, Nat.le_refl _, by simp [maxLen], fun h => absurd rfl h⟩
  · have hlen : (zs.take len).length = len := by
      rw [List.length_take, hz]
      simp
      omega
    refine ⟨zs.take len, some a, cap, by rw [hlen], fun h => (by cases h), fun d hd => wf_rng d (hwf d (List.mem_of_mem_take hd)), some a, cap, by rw [hlen], by rw [hlen]; exact hl, hm, fun hne => ?_⟩
    have hpos : 0 < len := by
      rcases Nat.eq_zero_or_pos len with h0 | h0
      · subst h0; simp at hne
      · exact h0
    have hzl : len ≤ zs.length := by rw [hz]; simp; omega
    have h0 := hcell 0 (by omega)
    have hs := World.cell?_spot h0
    have hb := World.block_lt_of_cell? W _ h0
    obtain ⟨ab, ao, asp⟩ := a
    simp [Addr.add] at hs hb
    subst hs
    refine ⟨ab, ao, rfl, hb, fun i hi => ?_⟩
    rw [hlen] at hi
    have := hcell i (by omega)
    rw [Addr.add_lit] at this
    rw [this, List.getD_eq_getElem?_getD, List.getD_eq_getElem?_getD, List.getElem?_take, if_pos hi]

set_option maxRecDepth 100000 in
theorem open_num {b0 : Nat} {v : Value} {d : DataW H} {p : List MemPlace} (hv : Value.okWide Tryd.prog W .any b0 26 v) (h : DataW.Trod enc Tryd.prog W 0 (fun _ => true) true 26 v d p) :
    ∃ (ng : Bool) (L : List Int) (x : Int) (ar : Option Addr) (cr : Nat), v = .agg #[.bool ng, .slice ar L.length cr, .int .i64 x] ∧ (ar = none → cr = 0) ∧ Rg L ∧ Sl W (.slice ar L.length cr) L ∧ (Lit.int .i64 x).wf = true := by
  obtain ⟨v0, v1, v2, y0, y1, y2, n, rfl, -, -, h0, h1, h2⟩ := open_agg3 Tryd.underlying26 (by kernel_rfl) cells_num hv h
  obtain ⟨ng, e0, -⟩ := DataW.trod_bool Tryd.underlying4 h0
  obtain ⟨L, ar, cr, e1, hc, hR, hS⟩ := open_lst h1
  obtain ⟨x, e2, -, wx⟩ := DataW.trod_int Tryd.underlying3 h2
  simp only [List.cons.injEq, and_true] at e0 e1 e2
  subst e0 e1 e2
  exact ⟨ng, L, x, ar, cr, rfl, hc, hR, hS, wx⟩

theorem trodAll_stays {W' : World} {sp : Nat → Bool} : ∀ {ts : List TypeId} {vs : List Value} {ds : List (DataW H)} {p : List MemPlace}, (∀ t ∈ ts, Tryd.prog.readableRec t = true ∧ t < Tryd.prog.types.size) → DataW.TrodAll enc Tryd.prog W 0 (fun _ => true) true ts vs ds p → (∀ x ∈ p, W.sameAt W' x) → (∀ x ∈ p, sp x.block = true) → DataW.TrodAll enc Tryd.prog W' 0 sp true ts vs ds p
  | [], _, _, _, _, h, _, _ => by
    obtain ⟨rfl, rfl, rfl⟩ := trodAll_nil h
    exact trodAll_mk0
  | t :: ts, _, _, _, hr, h, hs, hp => by
    obtain ⟨v, vs1, d, ds1, a, b, rfl, rfl, rfl, h1, h2⟩ := trodAll_cons h
    obtain ⟨r1, r2⟩ := hr t (by simp)
    exact trodAll_cons_mk (WideElems.Trod_stays laid_out r1 r2 h1 (fun x hx => hs x (by simp [hx])) (fun x hx => hp x (by simp [hx]))) (trodAll_stays (fun t' ht' => hr t' (by simp [ht'])) h2 (fun x hx => hs x (by simp [hx])) (fun x hx => hp x (by simp [hx])))
end
end Go.Proofs.YtalhnaakbekboaaDoor
