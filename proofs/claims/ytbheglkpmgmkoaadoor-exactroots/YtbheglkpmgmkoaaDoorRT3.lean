/- Roots rounded down, by squares. -/
import Derived.Test.YtbheglkpmgmkoaaDoorRT2
namespace Go.Proofs.YtbheglkpmgmkoaaDoor
open Go.ChangeShapes Go.WideShapes Go.ChangeAt Go.RowKit
set_option linter.unusedVariables false
set_option linter.unusedSimpArgs false

theorem half_cut (h m : Nat) (rs : Bool) : (decide (h / 2 ^ m % 2 = 1) || (rs || h % 2 ^ m != 0)) = (rs || decide (h % 2 ^ (m + 1) ≠ 0)) := by
  have hp := Nat.two_pow_pos m
  have e : h % 2 ^ (m + 1) = h / 2 ^ m % 2 * 2 ^ m + h % 2 ^ m := by
    rw [Nat.pow_succ, Nat.mod_mul, Nat.mul_comm (2 ^ m) (h / 2 ^ m % 2)]
    omega
  cases rs
  · rw [e]
    rcases Nat.mod_two_eq_zero_or_one (h / 2 ^ m) with h0 | h0
    · rw [h0]
      by_cases hb : h % 2 ^ m = 0 <;> simp [hb]
    · rw [h0]
      have : 1 * 2 ^ m + h % 2 ^ m ≠ 0 := by omega
      simp
  · simp
theorem mul_sq (a b : Nat) : (a * b) * (a * b) = (a * a) * (b * b) := Nat.mul_mul_mul_comm a b a b
/- k·2^m1 is what is kept of the head h; V the number, Q the place of the root's last pair -/
theorem root_sq (v : Nat) (x s la ex un : Int) (h l k m : Nat) (V : Nat) (hodd : v % 2 = 1) (hR : Rtz (flo v (x - la)) h l) (hla : la = 2 * ex) (hs1 : 2 * s ≤ x) (hs2 : s ≤ ex) (hm : un - ex = (m : Int) + 1) (hk : k = h / 2 ^ (m + 1)) (hV : V = v * 2 ^ (x - 2 * s).toNat) :
    (k * 2 ^ (un - s).toNat) * (k * 2 ^ (un - s).toNat) ≤ V ∧ V < ((k + 1) * 2 ^ (un - s).toNat) * ((k + 1) * 2 ^ (un - s).toNat) ∧ (((decide (l ≠ 0) || decide (x < la)) || decide (h % 2 ^ (m + 1) ≠ 0)) = decide ((k * 2 ^ (un - s).toNat) * (k * 2 ^ (un - s).toNat) ≠ V)) := by
  obtain ⟨g1, g2⟩ := hR.lt
  have heq := hR.eq
  have hA := flo_at v x la (2 * s) hs1 (by omega)
  rw [← hV] at hA
  obtain ⟨Q, hQ⟩ : ∃ Q, 2 ^ (la - 2 * s).toNat = Q := ⟨_, rfl⟩
  have hQp : 0 < Q := by rw [← hQ]; exact Nat.two_pow_pos _
  rw [hQ] at hA
  have hQ2 : 2 ^ (ex - s).toNat * 2 ^ (ex - s).toNat = Q := by
    rw [← Nat.pow_add, ← hQ]; congr 1; omega
  have hun : ∀ j : Nat, j * 2 ^ (un - s).toNat = (j * 2 ^ (m + 1)) * 2 ^ (ex - s).toNat := fun j => by
    rw [Nat.mul_assoc, ← Nat.pow_add]; congr 2; omega
  have hdm := Nat.div_add_mod V Q
  have hml : V % Q < Q := Nat.mod_lt _ hQp
  rw [← hA] at hdm
  have hdh := Nat.div_add_mod h (2 ^ (m + 1))
  have hmh : h % 2 ^ (m + 1) < 2 ^ (m + 1) := Nat.mod_lt _ (Nat.two_pow_pos _)
  rw [← hk, Nat.mul_comm] at hdh
  have hVQ : x < la → V % Q ≠ 0 := by
    intro hlt
    rw [hV, ← hQ, show (la - 2 * s).toNat = (x - 2 * s).toNat + (la - x).toNat by omega, Nat.pow_add, Nat.mul_comm v, Nat.mul_mod_mul_left]
    have hp := Nat.two_pow_pos (x - 2 * s).toNat
    obtain ⟨j, hj⟩ : ∃ j : Nat, (la - x).toNat = j + 1 := ⟨(la - x).toNat - 1, by omega⟩
    rw [hj]
    have h2 : v % 2 ^ (j + 1) % 2 = 1 := by
      rw [Nat.mod_mod_of_dvd _ (by rw [Nat.pow_succ]; exact Nat.dvd_mul_left _ _)]
      exact hodd
    intro h0
    rcases Nat.mul_eq_zero.1 h0 with h0 | h0
    · omega
    · rw [h0] at h2; simp at h2
  have hVQ2 : ¬ x < la → V % Q = 0 := by
    intro hlt
    rw [hV, ← hQ, show (x - 2 * s).toNat = (x - la).toNat + (la - 2 * s).toNat by omega, Nat.pow_add, ← Nat.mul_assoc, Nat.mul_mod_left]
  have hsq : ∀ j : Nat, (j * 2 ^ (un - s).toNat) * (j * 2 ^ (un - s).toNat) = (j * 2 ^ (m + 1)) * (j * 2 ^ (m + 1)) * Q := fun j => by rw [hun j, mul_sq (j * 2 ^ (m + 1)), hQ2]
  rw [hsq k, hsq (k + 1)]
  obtain ⟨P, hP⟩ : ∃ P, k * 2 ^ (m + 1) = P := ⟨_, rfl⟩
  have hP1 : (k + 1) * 2 ^ (m + 1) = P + 2 ^ (m + 1) := by rw [Nat.add_mul, hP, Nat.one_mul]
  rw [hP] at hdh ⊢
  rw [hP1]
  have c1 : P * P ≤ h * h := Nat.mul_le_mul (by omega) (by omega)
  have c2 : (h + 1) * (h + 1) ≤ (P + 2 ^ (m + 1)) * (P + 2 ^ (m + 1)) := Nat.mul_le_mul (by omega) (by omega)
  have c3 : P * P * Q ≤ h * h * Q := Nat.mul_le_mul_right _ c1
  have c4 : h * h * Q + l * Q = flo v (x - la) * Q := by rw [← Nat.add_mul, heq]
  have c5 : (flo v (x - la) + 1) * Q ≤ (P + 2 ^ (m + 1)) * (P + 2 ^ (m + 1)) * Q := Nat.mul_le_mul_right _ (by omega)
  rw [Nat.add_mul, Nat.one_mul] at c5
  rw [Nat.mul_comm] at hdm
  refine ⟨by have := Nat.zero_le (l * Q); omega, by omega, ?_⟩
  rw [← Bool.decide_or, ← Bool.decide_or]
  congr 1
  apply propext
  constructor
  · rintro ((h1 | h1) | h1)
    · have : Q ≤ l * Q := Nat.le_mul_of_pos_left _ (by omega)
      omega
    · have := hVQ h1
      have := Nat.zero_le (l * Q)
      omega
    · have hlt : P < h := by omega
      have : P * P < h * h := Nat.mul_self_lt_mul_self hlt
      have := Nat.mul_lt_mul_of_pos_right this hQp
      have := Nat.zero_le (l * Q)
      omega
  · intro hne
    apply Decidable.byContradiction
    intro hn
    have n1 : l = 0 := by omega
    have n2 := hVQ2 (by omega)
    have n3 : P = h := by omega
    rw [n1] at c4
    rw [n3] at hne
    omega

structure RootD (n s : Int) (r : Nm) (F : Nat) (o : Bool) : Prop where
  top : F + 1 < ifn n
  low : (rv (cbn n) F * 2 ^ (kleast n - s).toNat) * (rv (cbn n) F * 2 ^ (kleast n - s).toNat) ≤ nv r.mag * 2 ^ (r.exp - 2 * s).toNat
  high : nv r.mag * 2 ^ (r.exp - 2 * s).toNat < (rv (cbn n) (F + 1) * 2 ^ (kleast n - s).toNat) * (rv (cbn n) (F + 1) * 2 ^ (kleast n - s).toNat)
  odd : o = decide ((rv (cbn n) F * 2 ^ (kleast n - s).toNat) * (rv (cbn n) F * 2 ^ (kleast n - s).toNat) ≠ nv r.mag * 2 ^ (r.exp - 2 * s).toNat)
theorem root_d (n : Int) (hn : n = 64 ∨ n = 32) (r : Nm) (hv : vld r = true) (hne : r.mag ≠ []) (hx : -2000 ≤ r.exp) (hT : r.exp + (bl (nv r.mag) : Int) ≤ 210) (h l : Nat) (rs : Bool) (H : Rtl r h l rs) : ∃ un m k F, Ldz n h 56 (rlast r / 2) un m k F ∧ RootD n (-1300) r F (decide (h / 2 ^ m % 2 = 1) || (rs || h % 2 ^ m != 0)) := by
  obtain ⟨p1, p2, p3, p4, p5, p6⟩ := vld_some r.neg r.mag r.exp hne hv
  have hodd := nv_odd r.mag p2 p4
  have h0 := nv_ne r hv hne
  obtain ⟨b1, b2, b3⟩ := bl_pos (nv r.mag) h0
  obtain ⟨q1, q2, q3⟩ := kp_toNat n hn
  obtain ⟨c1, c2⟩ := cbn_pow n hn
  obtain ⟨la, hla⟩ : ∃ la, rlast r = la := ⟨_, rfl⟩
  have hla2 := hla
  unfold rlast rfst at hla2
  have hev := H.even
  rw [hla] at hev
  obtain ⟨un, hun⟩ : ∃ un, max (la / 2 + ((56 : Nat) : Int) - kprec n) (kleast n) = un := ⟨_, rfl⟩
  obtain ⟨m, hm⟩ : ∃ m : Nat, un - la / 2 = (m : Int) + 1 := ⟨(un - la / 2 - 1).toNat, by omega⟩
  obtain ⟨k, hk⟩ : ∃ k, k = h / 2 ^ (m + 1) := ⟨_, rfl⟩
  obtain ⟨F, hF⟩ : ∃ F, F = (un - kleast n).toNat * cbn n + k := ⟨_, rfl⟩
  have L : Ldz n h 56 (la / 2) un m k F := ⟨hun.symm, hm, hk, hF⟩
  obtain ⟨u1, u2, u3⟩ := ld_bounds hn L H.low H.high (by decide)
  have hcp : 0 < cbn n := by rw [c1]; exact Nat.two_pow_pos _
  have hrt := H.rt
  rw [hla] at hrt
  obtain ⟨g1, g2, g3⟩ := root_sq (nv r.mag) r.exp (-1300) la (la / 2) un h l k m _ hodd hrt (by omega) (by omega) (by omega) hm hk rfl
  have hjk : (un - kleast n).toNat = 0 ∨ cbn n ≤ k := by rcases u3 with h | h
                                                         · left; omega
                                                         · right; exact h
  have v1 : rv (cbn n) F * 2 ^ (kleast n - -1300).toNat = k * 2 ^ (un - -1300).toNat := by
    rw [hF, rv_at (cbn n) _ k hcp (by omega) hjk, Nat.mul_assoc, ← two_pos_split un (kleast n) (-1300) (by omega) u1]
  have v2 : rv (cbn n) (F + 1) * 2 ^ (kleast n - -1300).toNat = (k + 1) * 2 ^ (un - -1300).toNat := by
    rw [hF, Nat.add_assoc, rv_at (cbn n) _ (k + 1) hcp (by omega) (by omega), Nat.mul_assoc, ← two_pos_split un (kleast n) (-1300) (by omega) u1]
  refine ⟨un, m, k, F, by rw [hla]; exact L, ⟨?_, ?_, ?_, ?_⟩⟩
  · rcases hn with rfl | rfl
    · simp only [show kleast 64 = -1074 by rfl, show kprec 64 = 53 by rfl, show cbn 64 = 4503599627370496 by rfl, show ifn 64 = 9218868437227405312 by rfl] at *
      omega
    · simp only [show kleast 32 = -149 by rfl, show kprec 32 = 24 by rfl, show cbn 32 = 8388608 by rfl, show ifn 32 = 2139095040 by rfl] at *
      omega
  · rw [v1]; exact g1
  · rw [v2]; exact g2
  · rw [v1, half_cut, H.rs, hla]
    exact g3
theorem rootz_down (n : Int) (hn : n = 64 ∨ n = 32) (r : Nm) (hv : vld r = true) (hng : r.neg = false) (hx : -2000 ≤ r.exp) (hT2 : r.mag ≠ [] → r.exp + (bl (nv r.mag) : Int) ≤ 210) : ∃ F o, RootD n (-1300) r F o ∧ ∀ (ao : Option Addr) (c : Nat) (w : World), Tab w → Sl w (.slice ao r.mag.length c) r.mag → Calls Tryd.prog 25 #[.agg #[.bool false, .slice ao r.mag.length c, .int .i64 r.exp], .int .i64 n, .int .i64 1] w fun e w' => e = .returned (.tuple #[.int .i64 (pz n ((F : Nat) : Int)), .bool o, .int .i64 0]) ∧ Kept w w' := by
  obtain ⟨hlen, hDg⟩ := vld_dg r.neg r.mag r.exp hv
  have KR : ∀ (ao : Option Addr) (c : Nat) (w : World), Sl w (.slice ao r.mag.length c) r.mag → Hid (∀ u, Kept ((w.alloc (.cells #[.bool false, .slice ao r.mag.length c, .int .i64 r.exp] 24)).alloc (.cells #[.bool false, .slice ao r.mag.length c, .int .i64 r.exp] 24)) u → Calls Tryd.prog 38 #[.int .i64 n, .int .i64 1, .slice (some ⟨w.heap.size + 1, 0, none⟩) 1 1] u fun e w' => e = .returned (.tuple #[.agg #[.int .i64 n, .int .i64 (kprec n), .int .i64 (kleast n), .int .i64 (kinf n), .func (.func 99) #[] #[]], .int .i64 0]) ∧ Kept u w') := fun ao c w h u k => by
    refine roundingOf_1 n (kprec n) (kleast n) (kinf n) (fun u => kindOf_ok n hn u) _ u ?_
    have hb : w.heap.size + 1 < ((w.alloc (.cells #[.bool false, .slice ao r.mag.length c, .int .i64 r.exp] 24)).alloc (.cells #[.bool false, .slice ao r.mag.length c, .int .i64 r.exp] 24)).heap.size := by simp
    exact allValid_at (w.heap.size + 1) (Nat.lt_of_lt_of_le hb k.below.size) false r.mag hDg.rg (by omega) ao c r.exp (h.kept ((((Kept.refl w).alloc _ _).alloc _ _).trans k)) ((k.below.cell (p := ⟨w.heap.size + 1, 0, none⟩) hb).trans (by simp [go_sem])) ((k.below.cell (p := ⟨w.heap.size + 1, 1, none⟩) hb).trans (by simp [go_sem])) ((k.below.cell (p := ⟨w.heap.size + 1, 2, none⟩) hb).trans (by simp [go_sem])) true (by rw [← hng]; exact hv)
  by_cases hne : r.mag = []
  · refine ⟨0, false, ⟨?_, ?_, ?_, ?_⟩, fun ao c w hT hS => ?_⟩
    · unfold ifn; split <;> decide
    · rw [show rv (cbn n) 0 = 0 by rcases hn with rfl | rfl <;> rfl, Nat.zero_mul]; exact Nat.zero_le _
    · rw [show nv r.mag = 0 by rw [hne]; rfl, Nat.zero_mul, show rv (cbn n) (0 + 1) = 1 by rcases hn with rfl | rfl <;> rfl, Nat.one_mul]
      exact Nat.mul_pos (Nat.two_pow_pos _) (Nat.two_pow_pos _)
    · rw [show rv (cbn n) 0 = 0 by rcases hn with rfl | rfl <;> rfl, show nv r.mag = 0 by rw [hne]; rfl, Nat.zero_mul, Nat.zero_mul]; simp
    · have K := KR ao c w hS
      have e0 : pz n ((0 : Nat) : Int) = 0 := by rcases hn with rfl | rfl <;> decide
      rw [e0]
      have hl0 : r.mag.length = 0 := by rw [hne]; rfl
      rw [hl0] at K hS ⊢
      exact xroot_2 n _ _ _ ao 0 c r.exp 0 false #[] _ _ _ _ w K (fun u k => root_nil false ao c r.exp u) (fun u k => round_zero n _ _ _ _ 0 false false u)
  · obtain ⟨h, l, H⟩ := rtl_of r hv hne
    obtain ⟨un, m, k, F, L, D⟩ := root_d n hn r hv hne hx (hT2 hne) h l _ H
    refine ⟨F, _, D, fun ao c w hT hS => ?_⟩
    obtain ⟨p1, p2, p3, p4, p5, p6⟩ := vld_some r.neg r.mag r.exp hne hv
    have hbl := bl_le _ _ (nv_lt r.mag p2)
    have hT3 := hT2 hne
    have hxe : -3000000 ≤ rlast r / 2 ∧ rlast r / 2 ≤ 3000000 := by unfold rlast rfst; omega
    have K := KR ao c w hS
    have hr := root_any r hv hne h l _ H
    rw [hng] at hr
    refine xroot_2 n _ _ _ ao r.mag.length c r.exp _ _ #[] _ _ _ _ w K (fun u k => hr ao c u (hS.kept k)) (fun u ku => ?_)
    have := ldround_2 n hn false h 56 (rlast r / 2) (decide (l ≠ 0) || decide (r.exp < rlast r)) un m k F L H.low H.high (by decide) (by decide) hxe.1 hxe.2 _ _ _ rfl rfl rfl u (hT.kept ku)
    have hFt := D.top
    have e1 : mgz 1 false (ifn n) F (decide (k % 2 = 1)) (decide (h / 2 ^ m % 2 = 1)) ((decide (l ≠ 0) || decide (r.exp < rlast r)) || h % 2 ^ m != 0) = F := by
      unfold mgz
      rw [show awz 1 false (decide (k % 2 = 1)) (decide (h / 2 ^ m % 2 = 1)) ((decide (l ≠ 0) || decide (r.exp < rlast r)) || h % 2 ^ m != 0) = false by rfl, Bool.toNat_false, Nat.add_zero, if_pos (by omega)]
    have e2 : odz 1 false (ifn n) F (decide (k % 2 = 1)) (decide (h / 2 ^ m % 2 = 1)) ((decide (l ≠ 0) || decide (r.exp < rlast r)) || h % 2 ^ m != 0) = (decide (h / 2 ^ m % 2 = 1) || ((decide (l ≠ 0) || decide (r.exp < rlast r)) || h % 2 ^ m != 0)) := by
      unfold odz
      rw [show awz 1 false (decide (k % 2 = 1)) (decide (h / 2 ^ m % 2 = 1)) ((decide (l ≠ 0) || decide (r.exp < rlast r)) || h % 2 ^ m != 0) = false by rfl, Bool.toNat_false, Nat.add_zero, decide_eq_false (show ¬ ifn n ≤ F by omega), Bool.or_false]
    rw [e1, e2] at this
    exact this
end Go.Proofs.YtbheglkpmgmkoaaDoor
