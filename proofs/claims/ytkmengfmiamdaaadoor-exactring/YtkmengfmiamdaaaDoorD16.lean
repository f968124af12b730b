/- The sum of two numbers that are not 0. -/
import Derived.Test.YtkmengfmiamdaaaDoorD15
import Derived.Test.YtkmengfmiamdaaaDoorD11
namespace Go.Proofs.YtkmengfmiamdaaaDoor
open Go.ChangeShapes Go.WideShapes Go.ChangeAt Go.RowKit
set_option linter.unusedVariables false
set_option linter.unusedSimpArgs false

def tot (a b : Nm) (lo : Int) : Int := sg a.neg ((nv a.mag : Int) * 2 ^ (a.exp - lo).toNat) + sg b.neg ((nv b.mag : Int) * 2 ^ (b.exp - lo).toNat)
def tp (a : Nm) : Int := a.exp + (bl (nv a.mag) : Int)
def addN (a b : Nm) : Option Nm :=
  if max (tp a) (tp b) - min a.exp b.exp ≤ 60001 then frm (decide (tot a b (min a.exp b.exp) < 0)) (tot a b (min a.exp b.exp)).natAbs (min a.exp b.exp) else none

theorem nv_bl_mul (L : List Int) (k : Nat) : (0 : Int) ≤ (nv L : Int) * 2 ^ k ∧ (nv L : Int) * 2 ^ k < 2 ^ (bl (nv L) + k) := by
  have h := bl_lt (nv L)
  have hp := Nat.two_pow_pos k
  have h1 : nv L * 2 ^ k < 2 ^ (bl (nv L) + k) := by
    rw [Nat.pow_add]
    exact Nat.mul_lt_mul_of_lt_of_le h (Nat.le_refl _) hp
  have e : ((nv L * 2 ^ k : Nat) : Int) = (nv L : Int) * 2 ^ k := by rw [Int.natCast_mul, Int.natCast_pow]; rfl
  have e2 : ((2 ^ (bl (nv L) + k) : Nat) : Int) = (2 : Int) ^ (bl (nv L) + k) := by rw [Int.natCast_pow]; rfl
  rw [← e, ← e2]
  omega
theorem pow_le_int (a b : Nat) (h : a ≤ b) : (2 : Int) ^ a ≤ 2 ^ b := by
  have h1 : 2 ^ a ≤ 2 ^ b := Nat.pow_le_pow_right (by decide) h
  have e : ((2 ^ a : Nat) : Int) ≤ ((2 ^ b : Nat) : Int) := by omega
  rw [Int.natCast_pow, Int.natCast_pow] at e
  exact e

theorem len_bl (L : List Int) (hL : Dg L) (hne : L ≠ []) (hl : L.getD (L.length - 1) 0 ≠ 0) : 30 * L.length ≤ bl (nv L) + 29 ∧ bl (nv L) ≤ 30 * L.length := by
  have h1 := le_bl _ _ (nv_ge L hL hl)
  have h2 := bl_le _ _ (nv_lt L hL)
  have := List.length_pos_iff.2 hne
  omega

theorem sum_main (w : World) (T : Nat) (hTw : T < w.heap.size) (hTab : Tab w)
    (n1 : Bool) (L1 : List Int) (x1 : Int) (hne1 : L1 ≠ []) (hv1 : vld ⟨n1, L1, x1⟩ = true) (a1 : Option Addr) (c1 : Nat) (h1 : Sl w (.slice a1 L1.length c1) L1)
    (n2 : Bool) (L2 : List Int) (x2 : Int) (hne2 : L2 ≠ []) (hv2 : vld ⟨n2, L2, x2⟩ = true) (a2 : Option Addr) (c2 : Nat) (h2 : Sl w (.slice a2 L2.length c2) L2)
    (d0 : w.cell? ⟨T, 0, none⟩ = some (.bool n1)) (d1 : w.cell? ⟨T, 1, none⟩ = some (.slice a1 L1.length c1)) (d2 : w.cell? ⟨T, 2, none⟩ = some (.int .i64 x1))
    (d3 : w.cell? ⟨T, 3, none⟩ = some (.bool n2)) (d4 : w.cell? ⟨T, 4, none⟩ = some (.slice a2 L2.length c2)) (d5 : w.cell? ⟨T, 5, none⟩ = some (.int .i64 x2)) (Res : Option Nm) (hRes : addN ⟨n1, L1, x1⟩ ⟨n2, L2, x2⟩ = Res) :
    Calls Tryd.prog 41 #[.slice (some ⟨T, 0, none⟩) 2 2] w fun e w' => ToldR Res w w' e ∧ Kept w w' := by
  obtain ⟨p1, p2, p3, p4, p5, p6⟩ := vld_some n1 L1 x1 hne1 hv1
  obtain ⟨q1, q2, q3, q4, q5, q6⟩ := vld_some n2 L2 x2 hne2 hv2
  have b1 := len_bl L1 p2 hne1 p3
  have b2 := len_bl L2 q2 hne2 q3
  have l1 := List.length_pos_iff.2 hne1
  have l2 := List.length_pos_iff.2 hne2
  have KT1 : Hid (∀ u, Kept w u → Calls Tryd.prog 72 #[.agg #[.bool n1, .slice a1 L1.length c1, .int .i64 x1]] u fun e w' => e = .returned (.int .i64 (x1 + (bl (nv L1) : Int))) ∧ Kept u w') := fun u k => top_any n1 L1 ⟨p2, fun _ => p3⟩ (by omega) a1 c1 x1 p5 p6 u (h1.kept k)
  have KT2 : Hid (∀ u, Kept w u → Calls Tryd.prog 72 #[.agg #[.bool n2, .slice a2 L2.length c2, .int .i64 x2]] u fun e w' => e = .returned (.int .i64 (x2 + (bl (nv L2) : Int))) ∧ Kept u w') := fun u k => top_any n2 L2 ⟨q2, fun _ => q3⟩ (by omega) a2 c2 x2 q5 q6 u (h2.kept k)
  obtain ⟨lo, hlo⟩ : ∃ lo, min x1 x2 = lo := ⟨_, rfl⟩
  obtain ⟨hi, hhi⟩ : ∃ hi, max (x1 + (bl (nv L1) : Int)) (x2 + (bl (nv L2) : Int)) = hi := ⟨_, rfl⟩
  obtain ⟨R, hR⟩ : ∃ R : Nat, max 0 (hi - lo) = (R : Int) := ⟨(max 0 (hi - lo)).toNat, by omega⟩
  unfold addN tp at hRes
  dsimp only at hRes
  rw [hlo, hhi] at hRes
  by_cases hfar : 60001 < R
  · rw [if_neg (by omega)] at hRes
    subst hRes
    refine (sum_far w T hTw n1 a1 L1.length c1 x1 _ ⟨p5, p6⟩ ⟨by omega, by omega⟩ l1 (by omega) KT1 n2 a2 L2.length c2 x2 _ ⟨q5, q6⟩ ⟨by omega, by omega⟩ l2 (by omega) KT2 lo hi hlo hhi R hR hfar d0 d1 d2 d3 d4 d5).mono ?_
    rintro e w' ⟨rfl, k⟩
    exact ⟨rfl, k⟩
  · rw [if_pos (by omega)] at hRes
    obtain ⟨n, hn⟩ : ∃ n : Nat, (R : Int) / 30 + 2 = (n : Int) := ⟨R / 30 + 2, by omega⟩
    obtain ⟨f1, hf1⟩ : ∃ f : Nat, (x1 - lo) / 30 = (f : Int) := ⟨((x1 - lo) / 30).toNat, by omega⟩
    obtain ⟨f2, hf2⟩ : ∃ f : Nat, (x2 - lo) / 30 = (f : Int) := ⟨((x2 - lo) / 30).toNat, by omega⟩
    obtain ⟨s1, hs1⟩ : ∃ f : Nat, (x1 - lo) % 30 = (f : Int) := ⟨((x1 - lo) % 30).toNat, by omega⟩
    obtain ⟨s2, hs2⟩ : ∃ f : Nat, (x2 - lo) % 30 = (f : Int) := ⟨((x2 - lo) % 30).toNat, by omega⟩
    have e1 : x1 - lo = 30 * (f1 : Int) + (s1 : Int) := by omega
    have e2 : x2 - lo = 30 * (f2 : Int) + (s2 : Int) := by omega
    have g1 : f1 + L1.length < n := by omega
    have g2 : f2 + L2.length < n := by omega
    obtain ⟨C1, hC1⟩ : ∃ C, layL (List.replicate n 0) f1 (dsh n1 s1 L1) = C := ⟨_, rfl⟩
    obtain ⟨C2, hC2⟩ : ∃ C, layL C1 f2 (dsh n2 s2 L2) = C := ⟨_, rfl⟩
    have lC1 : C1.length = n := by rw [← hC1, layL_length, List.length_replicate]
    have lC2 : C2.length = n := by rw [← hC2, layL_length, lC1]
    have bC1 : ∀ j, -2147483648 ≤ C1.getD j 0 ∧ C1.getD j 0 ≤ 2147483648 := by
      have := layL_bound (List.replicate n 0) f1 (dsh n1 s1 L1) 0 (by omega) (by rw [dsh_length, List.length_replicate]; omega) (dsh_bound n1 s1 (by omega) L1 p2) (fun j _ => by rw [getD_replicate]; omega) (by rw [getD_replicate]; omega) (fun j _ => by rw [getD_replicate]; omega)
      rw [hC1] at this
      intro j
      have := this j
      omega
    have bC2 : ∀ j, -4294967296 ≤ C2.getD j 0 ∧ C2.getD j 0 ≤ 4294967296 := by
      have := layL_bound C1 f2 (dsh n2 s2 L2) 2147483648 (by omega) (by rw [dsh_length, lC1]; omega) (dsh_bound n2 s2 (by omega) L2 q2) (fun j _ => by have := bC1 j; omega) (by have := bC1 f2; omega) (fun j _ => bC1 j)
      rw [hC2] at this
      intro j
      have := this j
      omega
    have hval : cv C2 = tot ⟨n1, L1, x1⟩ ⟨n2, L2, x2⟩ lo := by
      rw [← hC2, layL_val _ _ _ (by rw [dsh_length, lC1]; omega), ← hC1, layL_val _ _ _ (by rw [dsh_length, List.length_replicate]; omega), nv_replicate, dsh_val _ _ _ p2, dsh_val _ _ _ q2, sg_mul, sg_mul]
      unfold tot
      dsimp only
      rw [show (x1 - lo).toNat = 30 * f1 + s1 by omega, show (x2 - lo).toNat = 30 * f2 + s2 by omega, pow_add_int, pow_add_int, Int.mul_left_comm, Int.mul_left_comm ((2 : Int) ^ (30 * f2)), Int.zero_add]
    have hT1 := nv_bl_mul L1 (x1 - lo).toNat
    have hT2 := nv_bl_mul L2 (x2 - lo).toNat
    have hP1 := pow_le_int (bl (nv L1) + (x1 - lo).toNat) R (by omega)
    have hP2 := pow_le_int (bl (nv L2) + (x2 - lo).toNat) R (by omega)
    have hP3 := pow_le_int (R + 1) (30 * n) (by omega)
    rw [Int.pow_succ] at hP3
    have hS1 := sg_abs n1 _ _ hT1.1 hT1.2
    have hS2 := sg_abs n2 _ _ hT2.1 hT2.2
    have hTt : -(2 : Int) ^ (30 * n) < tot ⟨n1, L1, x1⟩ ⟨n2, L2, x2⟩ lo ∧ tot ⟨n1, L1, x1⟩ ⟨n2, L2, x2⟩ lo < (2 : Int) ^ (30 * n) := by
      unfold tot
      dsimp only
      omega
    generalize htt : tot ⟨n1, L1, x1⟩ ⟨n2, L2, x2⟩ lo = tt at *
    refine sum_NN w T hTw n1 a1 L1.length c1 x1 _ ⟨p5, p6⟩ ⟨by omega, by omega⟩ l1 (by omega) KT1 n2 a2 L2.length c2 x2 _ ⟨q5, q6⟩ ⟨by omega, by omega⟩ l2 (by omega) KT2 lo hi hlo hhi R n hR (by omega) hn C1 C2 ?_ ?_ Res ?_ d0 d1 d2 d3 d4 d5
    · intro u g k hg ho
      obtain ⟨ao, cap, e, hc, hm, hr⟩ := h1.kept k
      cases e
      obtain ⟨b, off, rfl, hb, hr⟩ := hr hne1
      obtain ⟨ao', cap', e', -, -, hr0⟩ := h1
      cases e'
      obtain ⟨b', off', e2', hb', -⟩ := hr0 hne1
      cases e2'
      have := lay_some (List.replicate n 0) g n n1 L1 p2 b off c1 x1 (x1 - lo) f1 s1 (by omega) e1 (by rw [List.length_replicate]; exact g1) (by rw [List.length_replicate]; omega) (fun j => by rw [getD_replicate]; omega) (by omega) u hb hr ho
      rw [List.length_replicate, hC1] at this
      exact this
    · intro u g k hg ho
      obtain ⟨ao, cap, e, hc, hm, hr⟩ := h2.kept k
      cases e
      obtain ⟨b, off, rfl, hb, hr⟩ := hr hne2
      obtain ⟨ao', cap', e', -, -, hr0⟩ := h2
      cases e'
      obtain ⟨b', off', e2', hb', -⟩ := hr0 hne2
      cases e2'
      have := lay_some C1 g n n2 L2 q2 b off c2 x2 (x2 - lo) f2 s2 (by omega) e2 (by rw [lC1]; exact g2) (by rw [lC1]; omega) (fun j => by have := bC1 j; omega) (by omega) u hb hr ho
      rw [lC1, hC2] at this
      exact this
    · intro u0 u g k0 k1 hg ho
      exact settled_any u n n g lo C2 lC2 (by omega) (fun j => by have := bC2 j; omega) tt hval hTt.1 hTt.2 u0 (hTab.kept k0) k1 hg ho Res hRes
end Go.Proofs.YtkmengfmiamdaaaDoor
