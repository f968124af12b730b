/- Package span: Sum of three; what holds an exact number, by keys. -/
import Derived.Test.YtdhimkpfnhoagaaGreatDoorWh38
import Derived.Test.YtdhimkpfnhoagaaGreatDoorWh39
import Derived.Test.YtdhimkpfnhoagaaGreatDoorWh49
namespace Go.Proofs.YtdhimkpfnhoagaaGreatDoor
open Go.ChangeShapes Go.WideShapes Go.ChangeAt Go.RowKit Ieee
set_option linter.unusedVariables false
set_option linter.unusedSimpArgs false

theorem nm_eq (s : Int) (a b : Nm) (ha : vld a = true) (hb : vld b = true) (la : a.mag ≠ [] → s ≤ a.exp) (lb : b.mag ≠ [] → s ≤ b.exp) (h : vz s a = vz s b) : a = b := by
  obtain ⟨n1, L1, x1⟩ := a
  obtain ⟨n2, L2, x2⟩ := b
  have e1 := vz_cfm s n1 L1 x1 ha la
  have e2 := vz_cfm s n2 L2 x2 hb lb
  rw [h, e2] at e1
  exact (Option.some.inj e1).symm
theorem of_same (y n : Int) (hn : n = 64 ∨ n = 32) (hy : RB y) (hc : cls y n < 3) : ofN (of64 (flv y n)) 64 = ofN y n ∧ Fl n (flv y n) (keyOf y n) ∧ cls (of64 (flv y n)) 64 < 3 := by
  obtain ⟨-, hi, b1, b2⟩ := ofN_key y n hn hy hc
  have hx := Fl.flv hi hy.1 hy.2
  obtain ⟨q, hq, -⟩ := hx.wide
  have hiq := infq_key hx hq
  have hr := hq.rng
  have q1 : ¬ infq q := fun h => by
    have := hiq.1 h
    omega
  unfold infq at q1
  obtain ⟨-, -, hcl⟩ := zw_key hq (by omega) (by omega)
  obtain ⟨-, L1, v1⟩ := of_zw _ hcl
  obtain ⟨L2, v2⟩ := of_both_lies y n hn hy hc
  have hz := zw_val hx b1 b2
  refine ⟨nm_eq (-1075) _ _ L1.ok L2.ok (fun h => by have := L1.low h; omega) L2.low ?_, hx, hcl⟩
  rw [v2, vz_down (-1075) (-1074) _ (by decide) L1.low, v1, hz]
  rfl
theorem of_cfm (y n : Int) (hn : n = 64 ∨ n = 32) (hy : RB y) (hc : cls y n < 3) : cfm (kvz n (-1074) (keyOf y n)) (-1074) = some (ofN y n) := by
  obtain ⟨L2, v2⟩ := of_both_lies y n hn hy hc
  have e := vz_cfm (-1075) (ofN y n).neg (ofN y n).mag (ofN y n).exp L2.ok L2.low
  have e' : cfm (vz (-1075) (ofN y n)) (-1075) = some (ofN y n) := e
  rw [v2] at e'
  have := cfm_shift (kvz n (-1074) (keyOf y n)) 1 (-1075)
  exact this.symm.trans e'
theorem of_ky (y n : Int) (hn : n = 64 ∨ n = 32) (hy : RB y) (hc : cls y n < 3) : kyN n 1 (ofN y n) = keyOf y n ∧ kyN n 2 (ofN y n) = keyOf y n := by
  obtain ⟨-, i1, b1, b2⟩ := ofN_key y n hn hy hc
  obtain ⟨l1, z1⟩ := of_both_lies y n hn hy hc
  have hkl : (-1074 : Int) ≤ kleast n := by rcases hn with rfl | rfl <;> decide
  have hz : vz (-1075) (ofN y n) = kvz n (-1075) (keyOf y n) := by
    rw [z1, kvz_down n (-1075) (-1074) _ (by decide) hkl]
    rfl
  obtain ⟨a1, a2, -⟩ := ky_float n hn (ofN y n) l1.ok (-1075) l1.low (by omega) _ b1 b2 hz
  exact ⟨a1, a2⟩
/- the sum of three ends -/
def trr {α : Type} (a b c : α) (i : Nat) : α := if i = 0 then a else if i = 1 then b else c
def Sm3 (n way k1 k2 k3 K : Int) : Prop :=
  ((K = k1 ∨ K = k2 ∨ K = k3) ∧ (K = (ifn n : Int) ∨ K = -(ifn n : Int))) ∨
  ((-(ifn n : Int) < k1 ∧ k1 < (ifn n : Int)) ∧ (-(ifn n : Int) < k2 ∧ k2 < (ifn n : Int)) ∧ (-(ifn n : Int) < k3 ∧ k3 < (ifn n : Int)) ∧ ∃ r, cfm (kvz n (-1074) k1 + kvz n (-1074) k2 + kvz n (-1074) k3) (-1074) = some r ∧ K = kyN n way r)
theorem rd_three (n way : Int) (hn : n = 64 ∨ n = 32) (x1 x2 x3 : Nat) (k1 k2 k3 : Int) (h1 : Fl n x1 k1) (h2 : Fl n x2 k2) (h3 : Fl n x3 k3) (q1 q2 q3 : Int) (g1 : Fl 64 x1 q1) (g2 : Fl 64 x2 q2) (g3 : Fl 64 x3 q3) : ∃ K, Sm3 n way k1 k2 k3 K ∧ (-(ifn n : Int) ≤ K ∧ K ≤ (ifn n : Int)) ∧ ∀ x, Rd n way (trr x1 x2 x3) (trr q1 q2 q3) 3 x → Fl n x K := by
  have i1 := infq_key h1 g1
  have i2 := infq_key h2 g2
  have i3 := infq_key h3 g3
  have hr1 := h1.rng
  have hr2 := h2.rng
  have hr3 := h3.rng
  have hpos := ifn_p n
  have e0 : trr q1 q2 q3 0 = q1 := rfl
  have e1 : trr q1 q2 q3 1 = q2 := rfl
  have e2 : trr q1 q2 q3 2 = q3 := rfl
  have hw : iW (trr x1 x2 x3) (trr q1 q2 q3) 3 = if infq q3 then x3 else (if infq q2 then x2 else (if infq q1 then x1 else 0)) := rfl
  have hq : iQ (trr q1 q2 q3) 3 = if infq q3 then q3 else (if infq q2 then q2 else (if infq q1 then q1 else 0)) := rfl
  by_cases a3 : infq q3
  · have := i3.1 a3
    refine ⟨k3, .inl ⟨.inr (.inr rfl), this⟩, hr3, fun x hx => ?_⟩
    rcases hx with ⟨hi, hx⟩ | ⟨hi, r, hr, hx⟩
    · rw [hx, hw, if_pos a3]
      exact h3
    · exact absurd (by rw [e2]; exact a3) (hi 2 (by decide))
  by_cases a2 : infq q2
  · have := i2.1 a2
    refine ⟨k2, .inl ⟨.inr (.inl rfl), this⟩, hr2, fun x hx => ?_⟩
    rcases hx with ⟨hi, hx⟩ | ⟨hi, r, hr, hx⟩
    · rw [hx, hw, if_neg a3, if_pos a2]
      exact h2
    · exact absurd (by rw [e1]; exact a2) (hi 1 (by decide))
  by_cases a1 : infq q1
  · have := i1.1 a1
    refine ⟨k1, .inl ⟨.inl rfl, this⟩, hr1, fun x hx => ?_⟩
    rcases hx with ⟨hi, hx⟩ | ⟨hi, r, hr, hx⟩
    · rw [hx, hw, if_neg a3, if_neg a2, if_pos a1]
      exact h1
    · exact absurd (by rw [e0]; exact a1) (hi 0 (by decide))
  have b1 : -(ifn n : Int) < k1 ∧ k1 < (ifn n : Int) := by
    have c1 : k1 ≠ (ifn n : Int) := fun e => a1 (i1.2 (.inl e))
    have c2 : k1 ≠ -(ifn n : Int) := fun e => a1 (i1.2 (.inr e))
    omega
  have b2 : -(ifn n : Int) < k2 ∧ k2 < (ifn n : Int) := by
    have c1 : k2 ≠ (ifn n : Int) := fun e => a2 (i2.2 (.inl e))
    have c2 : k2 ≠ -(ifn n : Int) := fun e => a2 (i2.2 (.inr e))
    omega
  have b3 : -(ifn n : Int) < k3 ∧ k3 < (ifn n : Int) := by
    have c1 : k3 ≠ (ifn n : Int) := fun e => a3 (i3.2 (.inl e))
    have c2 : k3 ≠ -(ifn n : Int) := fun e => a3 (i3.2 (.inr e))
    omega
  have hs : sV (trr x1 x2 x3) (trr q1 q2 q3) 3 = kvz n (-1074) k1 + kvz n (-1074) k2 + kvz n (-1074) k3 := by
    have : sV (trr x1 x2 x3) (trr q1 q2 q3) 3 = 0 + (if infq q1 then 0 else zw x1) + (if infq q2 then 0 else zw x2) + (if infq q3 then 0 else zw x3) := rfl
    rw [this, if_neg a1, if_neg a2, if_neg a3, zw_val h1 b1.1 b1.2, zw_val h2 b2.1 b2.2, zw_val h3 b3.1 b3.2]
    omega
  obtain ⟨r, hr, -, -⟩ := sV_cfm (trr x1 x2 x3) (trr q1 q2 q3) 3 (by decide) (fun i hi => by
    rcases (show i = 0 ∨ i = 1 ∨ i = 2 by omega) with rfl | rfl | rfl
    · exact g1
    · exact g2
    · exact g3)
  refine ⟨kyN n way r, .inr ⟨b1, b2, b3, r, by rw [← hs]; exact hr, rfl⟩, kyN_range n way r, fun x hx => ?_⟩
  rcases hx with ⟨hi, hx⟩ | ⟨hi, r', hr', hx⟩
  · rw [hq, if_neg a3, if_neg a2, if_neg a1] at hi
    exact absurd hi (by decide)
  · rw [hr] at hr'
    cases hr'
    rw [hx]
    exact rz_fl n way hn r
theorem sps_three {v u : World} {a1 b1 a2 b2 a3 b3 : Int} {t : TypeId} (k : Kept (v.alloc (.cells #[.int .i64 a1, .int .i64 b1, .int .i64 a2, .int .i64 b2, .int .i64 a3, .int .i64 b3] t)) u) : Sps u (some ⟨v.heap.size, 0, none⟩) 3 (trr a1 a2 a3) (trr b1 b2 b3) := fun x kx i hi => by
  have h : ∀ o, x.cell? ⟨v.heap.size, o, none⟩ = (v.alloc (.cells #[.int .i64 a1, .int .i64 b1, .int .i64 a2, .int .i64 b2, .int .i64 a3, .int .i64 b3] t)).cell? ⟨v.heap.size, o, none⟩ := fun o => laid_cell (k.trans kx) o
  refine ⟨_, _, rfl, ?_, ?_⟩
  · rw [h]
    rcases (show i = 0 ∨ i = 1 ∨ i = 2 by omega) with rfl | rfl | rfl <;> simp [go_sem, trr]
  · rw [h]
    rcases (show i = 0 ∨ i = 1 ∨ i = 2 by omega) with rfl | rfl | rfl <;> simp [go_sem, trr]
theorem sum3_ok (a1 b1 a2 b2 a3 b3 n : Int) (s1 : RB a1) (s2 : RB b1) (s3 : RB a2) (s4 : RB b2) (s5 : RB a3) (s6 : RB b3) (hv1 : vsp a1 b1 n = true) (hv2 : vsp a2 b2 n = true) (hv3 : vsp a3 b3 n = true) : ∃ K1 K2, Sm3 n 1 (keyOf a1 n) (keyOf a2 n) (keyOf a3 n) K1 ∧ Sm3 n 2 (keyOf b1 n) (keyOf b2 n) (keyOf b3 n) K2 ∧ (-(ifn n : Int) ≤ K1 ∧ K1 ≤ (ifn n : Int)) ∧ (-(ifn n : Int) ≤ K2 ∧ K2 ≤ (ifn n : Int)) ∧ ∀ (w v : World) (B : Nat), Tab w → B = v.heap.size → Kept (v.alloc (.cells #[.int .i64 a1, .int .i64 b1, .int .i64 a2, .int .i64 b2, .int .i64 a3, .int .i64 b3] 23)) w → Calls Tryz.prog 22 #[.slice (some ⟨B, 0, none⟩) 3 3, .int .i64 n] w fun e w' => e = .returned (.tuple #[sp2 (pz n K1) (pz n K2), .int .i64 0]) ∧ Kept w w' := by
  obtain ⟨i1, -⟩ := vsp_num _ _ _ hv1
  have hn := isnum_wid _ _ i1
  obtain ⟨f1, g1, O1⟩ := opened_ok a1 b1 n s1 s2 hv1
  obtain ⟨f2, g2, O2⟩ := opened_ok a2 b2 n s3 s4 hv2
  obtain ⟨f3, g3, O3⟩ := opened_ok a3 b3 n s5 s6 hv3
  obtain ⟨p1, P1, -⟩ := f1.wide
  obtain ⟨p2, P2, -⟩ := f2.wide
  obtain ⟨p3, P3, -⟩ := f3.wide
  obtain ⟨q1, Q1, -⟩ := g1.wide
  obtain ⟨q2, Q2, -⟩ := g2.wide
  obtain ⟨q3, Q3, -⟩ := g3.wide
  obtain ⟨K1, S1, R1, F1⟩ := rd_three n 1 hn _ _ _ _ _ _ f1 f2 f3 p1 p2 p3 P1 P2 P3
  obtain ⟨K2, S2, R2, F2⟩ := rd_three n 2 hn _ _ _ _ _ _ g1 g2 g3 q1 q2 q3 Q1 Q2 Q3
  refine ⟨K1, K2, S1, S2, R1, R2, fun w v B hT hB hk => ?_⟩
  subst hB
  refine sum_walk n 3 3 (by decide) (trr a1 a2 a3) (trr b1 b2 b3) (trr (flv a1 n) (flv a2 n) (flv a3 n)) (trr (flv b1 n) (flv b2 n) (flv b3 n)) _ _ _ (fun x y => Fl n x K1 ∧ Fl n y K2) w (sps_three hk) (fun u => ?_) (fun i hi u => ?_) (fun u D ku hI => ?_) (fun u x y h => told_ok5 h.1 h.2 u)
  · have := valid_any 0 n u
    rw [show val 0 n = true by rcases hn with rfl | rfl <;> decide] at this
    exact this
  · rcases (show i = 0 ∨ i = 1 ∨ i = 2 by omega) with rfl | rfl | rfl
    · exact O1 u
    · exact O2 u
    · exact O3 u
  · refine (summed_any n hn 3 (by decide) _ _ (trr p1 p2 p3) (trr q1 q2 q3) (fun i hi => ?_) _ _ u (hT.kept ku) hI).mono ?_
    · rcases (show i = 0 ∨ i = 1 ∨ i = 2 by omega) with rfl | rfl | rfl
      · exact ⟨P1, Q1⟩
      · exact ⟨P2, Q2⟩
      · exact ⟨P3, Q3⟩
    · rintro e w' ⟨x, y, rfl, hx, hy, k'⟩
      exact ⟨x, y, rfl, ⟨F1 x hx, F2 y hy⟩, k'⟩
/- x + y - x is y -/
theorem hh_three {n H : Int} (hb : HB n H) : 3 * H - 3 < H * H := by
  have h1 := hb.one
  by_cases c1 : H = 1
  · rw [c1]; decide
  · by_cases c2 : H = 2
    · rw [c2]; decide
    · have := Int.mul_le_mul_of_nonneg_left (show (3 : Int) ≤ H by omega) (show 0 ≤ H by omega)
      omega
theorem sm3_back (n way kx ky K L : Int) (hn : n = 64 ∨ n = 32) (bx : -(ifn n : Int) < kx ∧ kx < (ifn n : Int)) (b_y : -(ifn n : Int) < ky ∧ ky < (ifn n : Int)) (k1 k2 k3 : Int) (r : Nm) (hr : cfm (kvz n (-1074) ky) (-1074) = some r) (h : Sm3 n way k1 k2 k3 K) :
    ((k1 ≤ kx ∧ k2 ≤ ky ∧ k3 ≤ -kx) → K ≤ kyN n way r ∨ K = (ifn n : Int)) ∧ ((kx ≤ k1 ∧ ky ≤ k2 ∧ -kx ≤ k3) → kyN n way r ≤ K ∨ K = -(ifn n : Int)) := by
  have hrr := kyN_range n way r
  rcases h with ⟨-, h⟩ | ⟨f1, f2, f3, q, hq, h⟩
  · refine ⟨fun _ => ?_, fun _ => ?_⟩ <;> omega
  · obtain ⟨H, hb⟩ := hb_ex n hn
    have h3 := hh_three hb
    have hh := hh_le hb
    have t1 := hb.fin k1 f1.1 f1.2
    have t2 := hb.fin k2 f2.1 f2.2
    have t3 := hb.fin k3 f3.1 f3.2
    have t4 := hb.fin ky b_y.1 b_y.2
    rw [h]
    refine ⟨fun ⟨l1, l2, l3⟩ => .inl ?_, fun ⟨l1, l2, l3⟩ => .inl ?_⟩
    · have m1 := kvz_le n (-1074) hn _ _ l1
      have m2 := kvz_le n (-1074) hn _ _ l2
      have m3 := kvz_le n (-1074) hn _ _ l3
      rw [kvz_neg2] at m3
      exact ky_cfm n way (-1074) H hn (.inl rfl) hb _ _ (by omega) (by omega) (by omega) (by omega) q r hq hr (by omega)
    · have m1 := kvz_le n (-1074) hn _ _ l1
      have m2 := kvz_le n (-1074) hn _ _ l2
      have m3 := kvz_le n (-1074) hn _ _ l3
      rw [kvz_neg2] at m3
      exact ky_cfm n way (-1074) H hn (.inl rfl) hb _ _ (by omega) (by omega) (by omega) (by omega) r q hr hq (by omega)
/- an interval that holds an exact number -/
theorem has_keys (n K1 K2 : Int) (hn : n = 64 ∨ n = 32) (r : Nm) (hv : vld r = true) (g1 : -(ifn n : Int) ≤ K1) (g2 : K2 ≤ (ifn n : Int)) (h1 : K1 ≤ kyN n 1 r) (h2 : kyN n 2 r ≤ K2) : (vsp (pz n K1) (pz n K2) n = true ∧ RB (pz n K1) ∧ RB (pz n K2) ∧ keyOf (pz n K1) n = K1 ∧ keyOf (pz n K2) n = K2) ∧ ∀ (ao : Option Addr) (c : Nat) (w : World), Tab w → Sl w (.slice ao r.mag.length c) r.mag → Calls Tryz.prog 23 #[sp2 (pz n K1) (pz n K2), .int .i64 0, .agg #[.bool r.neg, .slice ao r.mag.length c, .int .i64 r.exp], .int .i64 n] w fun e w' => e = .returned (.bool true) ∧ Kept w w' := by
  obtain ⟨b1, b2, b3⟩ := (ky_near n hn r hv).1
  obtain ⟨v1, v2, v3, v4, v5⟩ := vsp_keys n K1 K2 hn g1 (by omega) (by omega) g2 (by omega)
  exact ⟨⟨v1, v2, v3, v4, v5⟩, fun ao c w hT hs => lhas_ok (pz n K1) (pz n K2) n v2 v3 v1 r hv (by rw [v4]; exact h1) (by rw [v5]; exact h2) ao c w hT hs⟩
end Go.Proofs.YtdhimkpfnhoagaaGreatDoor
