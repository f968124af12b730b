/- The sum of two numbers that are not 0. The sum of any two numbers, noughts too. Numbers by their values: a valid number is a whole number at a scale; sums and products are those of whole numbers. The rows of a product: what the double loop of exact's product does to its digits. The order of two numbers, signs aside: what exact's orderOfSizes reckons; and that of their values. Rows of the call's own whose cells may be of any type; append to them. The laws' own Num: some digits' low bits, an exponent brought to within a bound. Plain: the digits of a number, one by one: what the document's own NatAdd, NatSub, NatShl, NatShr, NatLow make. The walks of the document's own trim and NatLow. The walks of the laws' own Lent, LentNum, Back. -/
import Derived.Test.YtbffekcjdcihpaaGreatDoorD15
import Derived.Test.YtbffekcjdcihpaaGreatDoorPad
import Derived.Deep.AppendSrc
import Derived.Deep.Upon
import Derived.Deep.Cut
namespace Go.Proofs.YtbffekcjdcihpaaGreatDoor
open Go.ChangeShapes Go.WideShapes Go.ChangeAt Go.RowKit
set_option maxHeartbeats 16000000
set_option maxRecDepth 100000
set_option linter.unusedVariables false
set_option linter.unusedSimpArgs false
def tot (a b : Nm) (lo : Int) : Int := sg a.neg ((nv a.mag : Int) * 2 ^ (a.exp - lo).toNat) + sg b.neg ((nv b.mag : Int) * 2 ^ (b.exp - lo).toNat)
def tp (a : Nm) : Int := a.exp + (bl (nv a.mag) : Int)
def addN (a b : Nm) : Option Nm :=
 if max (tp a) (tp b) - min a.exp b.exp ≤ 60001 then frm (decide (tot a b (min a.exp b.exp) < 0)) (tot a b (min a.exp b.exp)).natAbs (min a.exp b.exp) else none
theorem nv_bl_mul (L : List Int) (k : Nat) : (0 : Int) ≤ (nv L : Int) * 2 ^ k ∧ (nv L : Int) * 2 ^ k < 2 ^ (bl (nv L) + k) := by
 have h := bl_lt (nv L)
 have hp := Nat.two_pow_pos k
 have h1 : nv L * 2 ^ k < 2 ^ (bl (nv L) + k) := by
  rw [Nat.pow_add]
  exact Nat.mul_lt_mul_of_lt_of_le h (Nat.le_refl _) hp
 have e : ((nv L * 2 ^ k : Nat) : Int) = (nv L : Int) * 2 ^ k := by rw [Int.natCast_mul, Int.natCast_pow]; rfl
 have e2 : ((2 ^ (bl (nv L) + k) : Nat) : Int) = (2 : Int) ^ (bl (nv L) + k) := by rw [Int.natCast_pow]; rfl
 rw [← e, ← e2]
 omega
theorem pow_le_int (a b : Nat) (h : a ≤ b) : (2 : Int) ^ a ≤ 2 ^ b := by
 have h1 : 2 ^ a ≤ 2 ^ b := Nat.pow_le_pow_right (by decide) h
 have e : ((2 ^ a : Nat) : Int) ≤ ((2 ^ b : Nat) : Int) := by omega
 rw [Int.natCast_pow, Int.natCast_pow] at e
 exact e
theorem len_bl (L : List Int) (hL : Dg L) (hne : L ≠ []) (hl : L.getD (L.length - 1) 0 ≠ 0) : 30 * L.length ≤ bl (nv L) + 29 ∧ bl (nv L) ≤ 30 * L.length := by
 have h1 := le_bl _ _ (nv_ge L hL hl)
 have h2 := bl_le _ _ (nv_lt L hL)
 have := List.length_pos_iff.2 hne
 omega
theorem sum_main (w : World) (T : Nat) (hTw : T < w.heap.size) (hTab : Tab w)
  (n1 : Bool) (L1 : List Int) (x1 : Int) (hne1 : L1 ≠ []) (hv1 : vld ⟨n1, L1, x1⟩ = true) (a1 : Option Addr) (c1 : Nat) (h1 : Sl w (.slice a1 L1.length c1) L1)
  (n2 : Bool) (L2 : List Int) (x2 : Int) (hne2 : L2 ≠ []) (hv2 : vld ⟨n2, L2, x2⟩ = true) (a2 : Option Addr) (c2 : Nat) (h2 : Sl w (.slice a2 L2.length c2) L2)
  (d0 : w.cell? ⟨T, 0, none⟩ = some (.bool n1)) (d1 : w.cell? ⟨T, 1, none⟩ = some (.slice a1 L1.length c1)) (d2 : w.cell? ⟨T, 2, none⟩ = some (.int .i64 x1))
  (d3 : w.cell? ⟨T, 3, none⟩ = some (.bool n2)) (d4 : w.cell? ⟨T, 4, none⟩ = some (.slice a2 L2.length c2)) (d5 : w.cell? ⟨T, 5, none⟩ = some (.int .i64 x2)) (Res : Option Nm) (hRes : addN ⟨n1, L1, x1⟩ ⟨n2, L2, x2⟩ = Res) :
  Calls Tryz.prog 70 #[.slice (some ⟨T, 0, none⟩) 2 2] w fun e w' => ToldR Res w w' e ∧ Kept w w' := by
 obtain ⟨p1, p2, p3, p4, p5, p6⟩ := vld_some n1 L1 x1 hne1 hv1
 obtain ⟨q1, q2, q3, q4, q5, q6⟩ := vld_some n2 L2 x2 hne2 hv2
 have b1 := len_bl L1 p2 hne1 p3
 have b2 := len_bl L2 q2 hne2 q3
 have l1 := List.length_pos_iff.2 hne1
 have l2 := List.length_pos_iff.2 hne2
 have KT1 : Hid (∀ u, Kept w u → Calls Tryz.prog 104 #[.agg #[.bool n1, .slice a1 L1.length c1, .int .i64 x1]] u fun e w' => e = .returned (.int .i64 (x1 + (bl (nv L1) : Int))) ∧ Kept u w') := fun u k => top_any n1 L1 ⟨p2, fun _ => p3⟩ (by omega) a1 c1 x1 p5 p6 u (h1.kept k)
 have KT2 : Hid (∀ u, Kept w u → Calls Tryz.prog 104 #[.agg #[.bool n2, .slice a2 L2.length c2, .int .i64 x2]] u fun e w' => e = .returned (.int .i64 (x2 + (bl (nv L2) : Int))) ∧ Kept u w') := fun u k => top_any n2 L2 ⟨q2, fun _ => q3⟩ (by omega) a2 c2 x2 q5 q6 u (h2.kept k)
 obtain ⟨lo, hlo⟩ : ∃ lo, min x1 x2 = lo := ⟨_, rfl⟩
 obtain ⟨hi, hhi⟩ : ∃ hi, max (x1 + (bl (nv L1) : Int)) (x2 + (bl (nv L2) : Int)) = hi := ⟨_, rfl⟩
 obtain ⟨R, hR⟩ : ∃ R : Nat, max 0 (hi - lo) = (R : Int) := ⟨(max 0 (hi - lo)).toNat, by omega⟩
 unfold addN tp at hRes
 dsimp only at hRes
 rw [hlo, hhi] at hRes
 by_cases hfar : 60001 < R
 ·rw [if_neg (by omega)] at hRes
  subst hRes
  refine (sum_far w T hTw n1 a1 L1.length c1 x1 _ ⟨p5, p6⟩ ⟨by omega, by omega⟩ l1 (by omega) KT1 n2 a2 L2.length c2 x2 _ ⟨q5, q6⟩ ⟨by omega, by omega⟩ l2 (by omega) KT2 lo hi hlo hhi R hR hfar d0 d1 d2 d3 d4 d5).mono ?_
  rintro e w' ⟨rfl, k⟩
  exact ⟨rfl, k⟩
 ·rw [if_pos (by omega)] at hRes
  obtain ⟨n, hn⟩ : ∃ n : Nat, (R : Int) / 30 + 2 = (n : Int) := ⟨R / 30 + 2, by omega⟩
  obtain ⟨f1, hf1⟩ : ∃ f : Nat, (x1 - lo) / 30 = (f : Int) := ⟨((x1 - lo) / 30).toNat, by omega⟩
  obtain ⟨f2, hf2⟩ : ∃ f : Nat, (x2 - lo) / 30 = (f : Int) := ⟨((x2 - lo) / 30).toNat, by omega⟩
  obtain ⟨s1, hs1⟩ : ∃ f : Nat, (x1 - lo) % 30 = (f : Int) := ⟨((x1 - lo) % 30).toNat, by omega⟩
  obtain ⟨s2, hs2⟩ : ∃ f : Nat, (x2 - lo) % 30 = (f : Int) := ⟨((x2 - lo) % 30).toNat, by omega⟩
  have e1 : x1 - lo = 30 * (f1 : Int) + (s1 : Int) := by omega
  have e2 : x2 - lo = 30 * (f2 : Int) + (s2 : Int) := by omega
  have g1 : f1 + L1.length < n := by omega
  have g2 : f2 + L2.length < n := by omega
  obtain ⟨C1, hC1⟩ : ∃ C, layL (List.replicate n 0) f1 (dsh n1 s1 L1) = C := ⟨_, rfl⟩
  obtain ⟨C2, hC2⟩ : ∃ C, layL C1 f2 (dsh n2 s2 L2) = C := ⟨_, rfl⟩
  have lC1 : C1.length = n := by rw [← hC1, layL_length, List.length_replicate]
  have lC2 : C2.length = n := by rw [← hC2, layL_length, lC1]
  have bC1 : ∀ j, -2147483648 ≤ C1.getD j 0 ∧ C1.getD j 0 ≤ 2147483648 := by
   have := layL_bound (List.replicate n 0) f1 (dsh n1 s1 L1) 0 (by omega) (by rw [dsh_length, List.length_replicate]; omega) (dsh_bound n1 s1 (by omega) L1 p2) (fun j _ => by rw [getD_replicate]; omega) (by rw [getD_replicate]; omega) (fun j _ => by rw [getD_replicate]; omega)
   rw [hC1] at this
   intro j
   have := this j
   omega
  have bC2 : ∀ j, -4294967296 ≤ C2.getD j 0 ∧ C2.getD j 0 ≤ 4294967296 := by
   have := layL_bound C1 f2 (dsh n2 s2 L2) 2147483648 (by omega) (by rw [dsh_length, lC1]; omega) (dsh_bound n2 s2 (by omega) L2 q2) (fun j _ => by have := bC1 j; omega) (by have := bC1 f2; omega) (fun j _ => bC1 j)
   rw [hC2] at this
   intro j
   have := this j
   omega
  have hval : cv C2 = tot ⟨n1, L1, x1⟩ ⟨n2, L2, x2⟩ lo := by
   rw [← hC2, layL_val _ _ _ (by rw [dsh_length, lC1]; omega), ← hC1, layL_val _ _ _ (by rw [dsh_length, List.length_replicate]; omega), nv_replicate, dsh_val _ _ _ p2, dsh_val _ _ _ q2, sg_mul, sg_mul]
   unfold tot
   dsimp only
   rw [show (x1 - lo).toNat = 30 * f1 + s1 by omega, show (x2 - lo).toNat = 30 * f2 + s2 by omega, pow_add_int, pow_add_int, Int.mul_left_comm, Int.mul_left_comm ((2 : Int) ^ (30 * f2)), Int.zero_add]
  have hT1 := nv_bl_mul L1 (x1 - lo).toNat
  have hT2 := nv_bl_mul L2 (x2 - lo).toNat
  have hP1 := pow_le_int (bl (nv L1) + (x1 - lo).toNat) R (by omega)
  have hP2 := pow_le_int (bl (nv L2) + (x2 - lo).toNat) R (by omega)
  have hP3 := pow_le_int (R + 1) (30 * n) (by omega)
  rw [Int.pow_succ] at hP3
  have hS1 := sg_abs n1 _ _ hT1.1 hT1.2
  have hS2 := sg_abs n2 _ _ hT2.1 hT2.2
  have hTt : -(2 : Int) ^ (30 * n) < tot ⟨n1, L1, x1⟩ ⟨n2, L2, x2⟩ lo ∧ tot ⟨n1, L1, x1⟩ ⟨n2, L2, x2⟩ lo < (2 : Int) ^ (30 * n) := by
   unfold tot
   dsimp only
   omega
  generalize htt : tot ⟨n1, L1, x1⟩ ⟨n2, L2, x2⟩ lo = tt at *
  refine sum_NN w T hTw n1 a1 L1.length c1 x1 _ ⟨p5, p6⟩ ⟨by omega, by omega⟩ l1 (by omega) KT1 n2 a2 L2.length c2 x2 _ ⟨q5, q6⟩ ⟨by omega, by omega⟩ l2 (by omega) KT2 lo hi hlo hhi R n hR (by omega) hn C1 C2 ?_ ?_ Res ?_ d0 d1 d2 d3 d4 d5
  ·intro u g k hg ho
   obtain ⟨ao, cap, e, hc, hm, hr⟩ := h1.kept k
   cases e
   obtain ⟨b, off, rfl, hb, hr⟩ := hr hne1
   obtain ⟨ao', cap', e', -, -, hr0⟩ := h1
   cases e'
   obtain ⟨b', off', e2', hb', -⟩ := hr0 hne1
   cases e2'
   have := lay_some (List.replicate n 0) g n n1 L1 p2 b off c1 x1 (x1 - lo) f1 s1 (by omega) e1 (by rw [List.length_replicate]; exact g1) (by rw [List.length_replicate]; omega) (fun j => by rw [getD_replicate]; omega) (by omega) u hb hr ho
   rw [List.length_replicate, hC1] at this
   exact this
  ·intro u g k hg ho
   obtain ⟨ao, cap, e, hc, hm, hr⟩ := h2.kept k
   cases e
   obtain ⟨b, off, rfl, hb, hr⟩ := hr hne2
   obtain ⟨ao', cap', e', -, -, hr0⟩ := h2
   cases e'
   obtain ⟨b', off', e2', hb', -⟩ := hr0 hne2
   cases e2'
   have := lay_some C1 g n n2 L2 q2 b off c2 x2 (x2 - lo) f2 s2 (by omega) e2 (by rw [lC1]; exact g2) (by rw [lC1]; omega) (fun j => by have := bC1 j; omega) (by omega) u hb hr ho
   rw [lC1, hC2] at this
   exact this
  ·intro u0 u g k0 k1 hg ho
   exact settled_any u n n g lo C2 lC2 (by omega) (fun j => by have := bC2 j; omega) tt hval hTt.1 hTt.2 u0 (hTab.kept k0) k1 hg ho Res hRes
def addZ (a b : Nm) : Option Nm := if a.mag = [] then (if b.mag = [] then some ⟨false, [], 0⟩ else some b) else if b.mag = [] then some a else addN a b
theorem sg_neg (n : Bool) (a : Int) (h : 0 < a) : decide (sg n a < 0) = n ∧ (sg n a).natAbs = a.toNat := by
 cases n <;> simp [sg] <;> omega
theorem wrap64_id (x : Int) (h1 : -1048576 ≤ x) (h2 : x ≤ 1048576) : wrap64 x = x := by unfold wrap64; omega
theorem vld_zero (n : Bool) (L : List Int) (x : Int) (h : vld ⟨n, L, x⟩ = true) : L = [] → x = 0 := by
 rintro rfl
 simp [vld] at h
 exact h.2
/-- A number that lies alone in its columns. -/
theorem alone (n1 : Bool) (L1 : List Int) (x1 : Int) (hne1 : L1 ≠ []) (hv1 : vld ⟨n1, L1, x1⟩ = true) (n : Nat) (hn : L1.length < n) (C : List Int) (hC : layL (List.replicate n 0) 0 (dsh n1 0 L1) = C) :
  C.length = n ∧ (∀ j, -2147483648 ≤ C.getD j 0 ∧ C.getD j 0 ≤ 2147483648) ∧ cv C = sg n1 (nv L1) ∧ -(2 : Int) ^ (30 * n) < sg n1 (nv L1) ∧ sg n1 (nv L1) < (2 : Int) ^ (30 * n) ∧ frm (decide (sg n1 (nv L1) < 0)) (sg n1 (nv L1)).natAbs x1 = some ⟨n1, L1, x1⟩ := by
 obtain ⟨p1, p2, p3, p4, p5, p6⟩ := vld_some n1 L1 x1 hne1 hv1
 have l1 := List.length_pos_iff.2 hne1
 have b1 := len_bl L1 p2 hne1 p3
 have hpos : 0 < nv L1 := by
  rcases Nat.eq_zero_or_pos (nv L1) with h | h
  ·exact absurd ((nv_zero L1 p2).1 h (L1.length - 1)) p3
  ·exact h
 have hsg := sg_neg n1 (nv L1 : Int) (by omega)
 have hlt := nv_lt L1 p2
 have hP := pow_le_int (30 * L1.length) (30 * n) (by omega)
 have e : ((2 ^ (30 * L1.length) : Nat) : Int) = (2 : Int) ^ (30 * L1.length) := by rw [Int.natCast_pow]; rfl
 have hlt2 : (nv L1 : Int) < (2 : Int) ^ (30 * L1.length) := by rw [← e]; omega
 have hS := sg_abs n1 (nv L1 : Int) _ (by omega) hlt2
 refine ⟨by rw [← hC, layL_length, List.length_replicate], ?_, ?_, by omega, by omega, ?_⟩
 ·have := layL_bound (List.replicate n 0) 0 (dsh n1 0 L1) 0 (by omega) (by rw [dsh_length, List.length_replicate]; omega) (dsh_bound n1 0 (by omega) L1 p2) (fun j _ => by rw [getD_replicate]; omega) (by rw [getD_replicate]; omega) (fun j _ => by rw [getD_replicate]; omega)
  rw [hC] at this
  intro j
  have := this j
  omega
 ·rw [← hC, layL_val _ _ _ (by rw [dsh_length, List.length_replicate]; omega), nv_replicate, dsh_val _ _ _ p2]
  simp
 ·rw [hsg.1, hsg.2, Int.toNat_natCast]
  rw [frm_odd n1 n1 L1 x1 x1 hne1 hv1, wrap64_id x1 p5 p6, if_pos ⟨p5, p6⟩]
theorem sum_any (w : World) (T : Nat) (hTw : T < w.heap.size) (hTab : Tab w)
  (n1 : Bool) (L1 : List Int) (x1 : Int) (hv1 : L1 ≠ [] → vld ⟨n1, L1, x1⟩ = true) (hz1 : L1 = [] → x1 = 0) (a1 : Option Addr) (c1 : Nat) (h1 : Sl w (.slice a1 L1.length c1) L1)
  (n2 : Bool) (L2 : List Int) (x2 : Int) (hv2 : L2 ≠ [] → vld ⟨n2, L2, x2⟩ = true) (hz2 : L2 = [] → x2 = 0) (a2 : Option Addr) (c2 : Nat) (h2 : Sl w (.slice a2 L2.length c2) L2)
  (d0 : w.cell? ⟨T, 0, none⟩ = some (.bool n1)) (d1 : w.cell? ⟨T, 1, none⟩ = some (.slice a1 L1.length c1)) (d2 : w.cell? ⟨T, 2, none⟩ = some (.int .i64 x1))
  (d3 : w.cell? ⟨T, 3, none⟩ = some (.bool n2)) (d4 : w.cell? ⟨T, 4, none⟩ = some (.slice a2 L2.length c2)) (d5 : w.cell? ⟨T, 5, none⟩ = some (.int .i64 x2)) (Res : Option Nm) (hRes : addZ ⟨n1, L1, x1⟩ ⟨n2, L2, x2⟩ = Res) :
  Calls Tryz.prog 70 #[.slice (some ⟨T, 0, none⟩) 2 2] w fun e w' => ToldR Res w w' e ∧ Kept w w' := by
 unfold addZ at hRes
 dsimp only at hRes
 by_cases e1 : L1 = []
 ·rw [if_pos e1] at hRes
  by_cases e2 : L2 = []
  ·rw [if_pos e2] at hRes
   have hx1 := hz1 e1
   have hx2 := hz2 e2
   subst e1 e2 hx1 hx2
   refine sum_EE w T hTw n1 a1 0 c1 0 0 (by omega) (by omega) rfl n2 a2 0 c2 0 0 (by omega) (by omega) rfl (List.replicate 2 0) (List.replicate 2 0) rfl rfl Res ?_ d0 d1 d2 d3 d4 d5
   intro u0 u g k0 k1 hg ho
   exact settled_any u 2 2 g 1048576 (List.replicate 2 0) (by simp) (by omega) (fun j => by rw [getD_replicate]; omega) 0 (nv_replicate 2) (by decide) (by decide) u0 (hTab.kept k0) k1 hg ho Res (by rw [← hRes]; simp [frm])
  ·rw [if_neg e2] at hRes
   have hx1 := hz1 e1
   have hv := hv2 e2
   obtain ⟨q1, q2, q3, q4, q5, q6⟩ := vld_some n2 L2 x2 e2 hv
   have b2 := len_bl L2 q2 e2 q3
   have l2 := List.length_pos_iff.2 e2
   have KT2 : Hid (∀ u, Kept w u → Calls Tryz.prog 104 #[.agg #[.bool n2, .slice a2 L2.length c2, .int .i64 x2]] u fun e w' => e = .returned (.int .i64 (x2 + (bl (nv L2) : Int))) ∧ Kept u w') := fun u k => top_any n2 L2 ⟨q2, fun _ => q3⟩ (by omega) a2 c2 x2 q5 q6 u (h2.kept k)
   subst e1 hx1
   obtain ⟨n, hn⟩ : ∃ n : Nat, ((bl (nv L2) : Nat) : Int) / 30 + 2 = (n : Int) := ⟨bl (nv L2) / 30 + 2, by omega⟩
   obtain ⟨C, hC⟩ : ∃ C, layL (List.replicate n 0) 0 (dsh n2 0 L2) = C := ⟨_, rfl⟩
   obtain ⟨lC, bC, vC, tC1, tC2, fC⟩ := alone n2 L2 x2 e2 hv n (by omega) C hC
   refine sum_EN w T hTw n1 a1 0 c1 0 0 (by omega) (by omega) rfl n2 a2 L2.length c2 x2 _ ⟨q5, q6⟩ ⟨by omega, by omega⟩ l2 (by omega) KT2 (bl (nv L2)) n (by omega) (by omega) hn (List.replicate n 0) C rfl ?_ Res ?_ d0 d1 d2 d3 d4 d5
   ·intro u g k hg ho
    obtain ⟨ao, cap, e, hc, hm, hr⟩ := h2.kept k
    cases e
    obtain ⟨b, off, rfl, hb, hr⟩ := hr e2
    obtain ⟨ao', cap', e', -, -, hr0⟩ := h2
    cases e'
    obtain ⟨b', off', e2', hb', -⟩ := hr0 e2
    cases e2'
    have := lay_some (List.replicate n 0) g n n2 L2 q2 b off c2 x2 0 0 0 (by omega) (by omega) (by rw [List.length_replicate]; omega) (by rw [List.length_replicate]; omega) (fun j => by rw [getD_replicate]; omega) (by omega) u hb hr ho
    rw [List.length_replicate, hC] at this
    exact this
   ·intro u0 u g k0 k1 hg ho
    exact settled_any u n n g x2 C lC (by omega) (fun j => by have := bC j; omega) _ vC tC1 tC2 u0 (hTab.kept k0) k1 hg ho Res (by rw [← hRes]; exact fC)
 ·rw [if_neg e1] at hRes
  by_cases e2 : L2 = []
  ·rw [if_pos e2] at hRes
   have hx2 := hz2 e2
   have hv := hv1 e1
   obtain ⟨q1, q2, q3, q4, q5, q6⟩ := vld_some n1 L1 x1 e1 hv
   have b2 := len_bl L1 q2 e1 q3
   have l2 := List.length_pos_iff.2 e1
   have KT1 : Hid (∀ u, Kept w u → Calls Tryz.prog 104 #[.agg #[.bool n1, .slice a1 L1.length c1, .int .i64 x1]] u fun e w' => e = .returned (.int .i64 (x1 + (bl (nv L1) : Int))) ∧ Kept u w') := fun u k => top_any n1 L1 ⟨q2, fun _ => q3⟩ (by omega) a1 c1 x1 q5 q6 u (h1.kept k)
   subst e2 hx2
   obtain ⟨n, hn⟩ : ∃ n : Nat, ((bl (nv L1) : Nat) : Int) / 30 + 2 = (n : Int) := ⟨bl (nv L1) / 30 + 2, by omega⟩
   obtain ⟨C, hC⟩ : ∃ C, layL (List.replicate n 0) 0 (dsh n1 0 L1) = C := ⟨_, rfl⟩
   obtain ⟨lC, bC, vC, tC1, tC2, fC⟩ := alone n1 L1 x1 e1 hv n (by omega) C hC
   refine sum_NE w T hTw n1 a1 L1.length c1 x1 _ ⟨q5, q6⟩ ⟨by omega, by omega⟩ l2 (by omega) KT1 n2 a2 0 c2 0 0 (by omega) (by omega) rfl (bl (nv L1)) n (by omega) (by omega) hn C C ?_ rfl Res ?_ d0 d1 d2 d3 d4 d5
   ·intro u g k hg ho
    obtain ⟨ao, cap, e, hc, hm, hr⟩ := h1.kept k
    cases e
    obtain ⟨b, off, rfl, hb, hr⟩ := hr e1
    obtain ⟨ao', cap', e', -, -, hr0⟩ := h1
    cases e'
    obtain ⟨b', off', e2', hb', -⟩ := hr0 e1
    cases e2'
    have := lay_some (List.replicate n 0) g n n1 L1 q2 b off c1 x1 0 0 0 (by omega) (by omega) (by rw [List.length_replicate]; omega) (by rw [List.length_replicate]; omega) (fun j => by rw [getD_replicate]; omega) (by omega) u hb hr ho
    rw [List.length_replicate, hC] at this
    exact this
   ·intro u0 u g k0 k1 hg ho
    exact settled_any u n n g x1 C lC (by omega) (fun j => by have := bC j; omega) _ vC tC1 tC2 u0 (hTab.kept k0) k1 hg ho Res (by rw [← hRes]; exact fC)
  ·rw [if_neg e2] at hRes
   exact sum_main w T hTw hTab n1 L1 x1 e1 (hv1 e1) a1 c1 h1 n2 L2 x2 e2 (hv2 e2) a2 c2 h2 d0 d1 d2 d3 d4 d5 Res hRes
def vz (s : Int) (a : Nm) : Int := sg a.neg ((nv a.mag : Int) * 2 ^ (a.exp - s).toNat)
structure Lies (s : Int) (B : Nat) (a : Nm) : Prop where
 ok : vld a = true
 low : a.mag ≠ [] → s ≤ a.exp
 lt : (vz s a).natAbs < 2 ^ B
theorem nv_pos_of (n : Bool) (L : List Int) (x : Int) (hne : L ≠ []) (hv : vld ⟨n, L, x⟩ = true) : 0 < nv L := by
 obtain ⟨p1, p2, p3, p4, p5, p6⟩ := vld_some n L x hne hv
 rcases Nat.eq_zero_or_pos (nv L) with h | h
 ·exact absurd ((nv_zero L p2).1 h (L.length - 1)) p3
 ·exact h
theorem vz_nil (s : Int) (n : Bool) (x : Int) : vz s ⟨n, [], x⟩ = 0 := by cases n <;> simp [vz, nv, sg]
theorem vz_abs (s : Int) (a : Nm) : (vz s a).natAbs = nv a.mag * 2 ^ (a.exp - s).toNat := by
 have e : ((nv a.mag * 2 ^ (a.exp - s).toNat : Nat) : Int) = (nv a.mag : Int) * 2 ^ (a.exp - s).toNat := by rw [Int.natCast_mul, Int.natCast_pow]; rfl
 unfold vz
 rw [← e]
 cases a.neg <;> simp [sg] <;> omega
theorem cv_take (L : List Int) (j : Nat) (hj : j < L.length) : cv (L.take (j + 1)) = cv (L.take j) + L.getD j 0 * 2 ^ (30 * j) := by
 induction L generalizing j with
 | nil => simp at hj
 | cons d L ih =>
  cases j with
  | zero => simp [cv]
  | succ j =>
   have e := pow30i j
   simp only [List.take_succ_cons, cv, List.getD_cons_succ]
   rw [ih j (by simpa using hj), e, Int.mul_left_comm (L.getD j 0)]
   generalize L.getD j 0 * 2 ^ (30 * j) = z
   omega
theorem cv_put (D : List Int) (i : Nat) (hi : i < D.length) (d : Int) : cv (D.set i d) = cv D + (d - D.getD i 0) * 2 ^ (30 * i) := by
 have := cv_set D i hi (d - D.getD i 0)
 rw [show D.getD i 0 + (d - D.getD i 0) = d by omega] at this
 exact this
theorem Dg.put {D : List Int} (h : Dg D) (i : Nat) (d : Int) (h0 : 0 ≤ d) (h1 : d < 1073741824) : Dg (D.set i d) := fun x hx => by
 rcases List.mem_or_eq_of_mem_set hx with h2 | h2
 ·exact h x h2
 ·rw [h2]; exact ⟨h0, h1⟩
structure PRow (A B : List Int) (n i j : Nat) (D : List Int) (o : Int) : Prop where
 len : D.length = n
 dg : Dg D
 o0 : 0 ≤ o
 o1 : o < 1073741824
 val : cv D + o * 2 ^ (30 * (i + j)) = cv (A.take i) * cv B + A.getD i 0 * cv (B.take j) * 2 ^ (30 * i)
 zero : ∀ k, i + B.length ≤ k → D.getD k 0 = 0
theorem PRow.start {A B : List Int} {n i : Nat} {D : List Int} (h1 : D.length = n) (h2 : Dg D) (h3 : cv D = cv (A.take i) * cv B) (h4 : ∀ k, i + B.length ≤ k → D.getD k 0 = 0) : PRow A B n i 0 D 0 :=
 ⟨h1, h2, by omega, by omega, by simp [cv, h3], h4⟩
theorem mul_lt_60 (a b : Int) (h0 : 0 ≤ a) (h1 : a < 1073741824) (g0 : 0 ≤ b) (g1 : b < 1073741824) : 0 ≤ a * b ∧ a * b ≤ 1152921502459363329 := by
 have e1 : 0 ≤ a * b := Int.mul_nonneg h0 g0
 have e2 : a * b ≤ 1073741823 * 1073741823 := Int.mul_le_mul (by omega) (by omega) g0 (by omega)
 exact ⟨e1, by omega⟩
theorem PRow.step {A B : List Int} {n i j : Nat} {D : List Int} {o : Int} (h : PRow A B n i j D o) (hA : Dg A) (hB : Dg B) (hj : j < B.length) (hn : i + j < n) (T : Int) (hT : o + D.getD (i + j) 0 + A.getD i 0 * B.getD j 0 = T) :
  PRow A B n i (j + 1) (D.set (i + j) (T % 1073741824)) (T / 1073741824) := by
 have hd := h.dg.getD (i + j)
 have ha := hA.getD i
 have hb := hB.getD j
 have hm := mul_lt_60 _ _ ha.1 ha.2 hb.1 hb.2
 have o0 := h.o0
 have o1 := h.o1
 refine ⟨by rw [List.length_set]; exact h.len, h.dg.put _ _ (by omega) (by omega), by omega, by omega, ?_, ?_⟩
 ·rw [cv_put D (i + j) (by rw [h.len]; exact hn), cv_take B j hj]
  have hv := h.val
  have e1 : (2 : Int) ^ (30 * (i + (j + 1))) = 1073741824 * 2 ^ (30 * (i + j)) := pow30i (i + j)
  have e2 : (2 : Int) ^ (30 * (i + j)) = 2 ^ (30 * j) * 2 ^ (30 * i) := by rw [show 30 * (i + j) = 30 * j + 30 * i by omega, Int.pow_add]
  have e3 : A.getD i 0 * (cv (B.take j) + B.getD j 0 * 2 ^ (30 * j)) * 2 ^ (30 * i) = A.getD i 0 * cv (B.take j) * 2 ^ (30 * i) + A.getD i 0 * B.getD j 0 * 2 ^ (30 * (i + j)) := by
   rw [e2, Int.mul_add, Int.add_mul]
   congr 1
   simp only [Int.mul_assoc]
  rw [e3, e1]
  generalize A.getD i 0 * B.getD j 0 = m at *
  generalize (2 : Int) ^ (30 * (i + j)) = P at *
  generalize D.getD (i + j) 0 = d at *
  have hTT : T = 1073741824 * (T / 1073741824) + T % 1073741824 := by omega
  have e4 : (T % 1073741824 - d) * P + T / 1073741824 * (1073741824 * P) = (T - d) * P := by
   rw [← Int.mul_assoc, ← Int.add_mul]
   congr 1
   omega
  have e5 : (T - d) * P = o * P + m * P := by
   rw [← Int.add_mul]
   congr 1
   omega
  omega
 ·intro k hk
  rw [getD_set D (i + j) k _ (by rw [h.len]; exact hn), if_neg (by omega)]
  exact h.zero k hk
theorem PRow.finish {A B : List Int} {n i : Nat} {D : List Int} {o : Int} (h : PRow A B n i B.length D o) (hi : i < A.length) (hn : i + B.length < n) :
  PRow A B n (i + 1) 0 (D.set (i + B.length) o) 0 := by
 refine .start (by rw [List.length_set]; exact h.len) (h.dg.put _ _ h.o0 h.o1) ?_ ?_
 ·have hv := h.val
  rw [cv_put D _ (by rw [h.len]; exact hn), h.zero _ (Nat.le_refl _), cv_take A i hi]
  rw [List.take_length] at hv
  rw [Int.sub_zero, hv, Int.add_mul]
  congr 1
  rw [Int.mul_right_comm]
 ·intro k hk
  rw [getD_set D _ k _ (by rw [h.len]; exact hn), if_neg (by omega)]
  exact h.zero k (by omega)
theorem PRow.last {A B : List Int} {n : Nat} {D : List Int} {o : Int} (h : PRow A B n A.length 0 D o) (ho : o = 0) (hA : Dg A) (hB : Dg B) : Dg D ∧ nv D = nv A * nv B := by
 refine ⟨h.dg, ?_⟩
 have hv := h.val
 subst ho
 rw [List.take_length, cv_nv D h.dg, cv_nv A hA, cv_nv B hB] at hv
 simp only [List.take_zero, cv, Int.zero_mul, Int.mul_zero, Int.add_zero] at hv
 have : ((nv D : Nat) : Int) = ((nv A * nv B : Nat) : Int) := by rw [hv, Int.natCast_mul]
 omega
def mulN (a b : Nm) : Option Nm :=
 if (bl (nv a.mag) : Int) + (bl (nv b.mag) : Int) - 1 ≤ 60000 ∧ -1048576 ≤ a.exp + b.exp ∧ a.exp + b.exp ≤ 1048576 then frm (a.neg != b.neg) (nv a.mag * nv b.mag) (a.exp + b.exp) else none
def cz (a b : Int) : Int := if a < b then -1 else if b < a then 1 else 0
theorem cz_lt {a b : Int} (h : a < b) : cz a b = -1 := by rw [cz, if_pos h]
theorem cz_gt {a b : Int} (h : b < a) : cz a b = 1 := by rw [cz, if_neg (by omega), if_pos h]
theorem cz_eq {a b : Int} (h : a = b) : cz a b = 0 := by rw [cz, if_neg (by omega), if_neg (by omega)]
theorem compare_cz (x y : Int) (w : World) : Calls Tryz.prog 75 #[.int .i64 x, .int .i64 y] w fun e w' => e = .returned (.int .i64 (cz x y)) ∧ w = w' := by
 rcases Int.lt_trichotomy x y with h | h | h
 ·rw [cz_lt h]
  have g2 : ¬ x = y := by omega
  have g3 : ¬ y < x := by omega
  go_enter Tryz.func75, Tryz.ntmps75
  go_wp2
  exact bodyPost_ret (v := .int .i64 _) (by simp [results, Tryz.results75, go_sem]) rfl ⟨rfl, rfl⟩
 ·subst h
  rw [cz_eq rfl]
  have g3 : ¬ x < x := by omega
  go_enter Tryz.func75, Tryz.ntmps75
  go_wp2
  exact bodyPost_ret (v := .int .i64 _) (by simp [results, Tryz.results75, go_sem]) rfl ⟨rfl, rfl⟩
 ·rw [cz_gt h]
  have g2 : ¬ x = y := by omega
  have g3 : ¬ x < y := by omega
  go_enter Tryz.func75, Tryz.ntmps75
  go_wp2
  exact bodyPost_ret (v := .int .i64 _) (by simp [results, Tryz.results75, go_sem]) rfl ⟨rfl, rfl⟩
/-! ### Plain -/
/-- A number's bits laid against the top of m digits. -/
def tf (v m : Nat) : Nat := v * 2 ^ (30 * m - bl v)
theorem tf_lt (v m : Nat) (h : bl v ≤ 30 * m) : tf v m < 2 ^ (30 * m) := by
 have h1 := bl_lt v
 have hp := Nat.two_pow_pos (30 * m - bl v)
 have : v * 2 ^ (30 * m - bl v) < 2 ^ bl v * 2 ^ (30 * m - bl v) := Nat.mul_lt_mul_of_lt_of_le h1 (Nat.le_refl _) hp
 rw [← Nat.pow_add, show bl v + (30 * m - bl v) = 30 * m by omega] at this
 exact this
theorem pcz_tf (v m k : Nat) (h : bl v ≤ 30 * m) (hk : k < m) : pcz v ((bl v : Int) - ((k : Int) + 1) * 30) = ((tf v m / 2 ^ (30 * (m - k - 1)) % 1073741824 : Nat) : Int) := by
 unfold pcz tf
 split
 ·rename_i hp
  obtain ⟨p, hpp⟩ : ∃ p : Nat, (bl v : Int) - ((k : Int) + 1) * 30 = (p : Int) := ⟨((bl v : Int) - ((k : Int) + 1) * 30).toNat, by omega⟩
  rw [hpp, Int.toNat_natCast, show 30 * (m - k - 1) = (30 * m - bl v) + p by omega, Nat.pow_add, Nat.mul_comm v, Nat.mul_div_mul_left _ _ (Nat.two_pow_pos _)]
 ·rename_i hp
  obtain ⟨p, hpp⟩ : ∃ p : Nat, -((bl v : Int) - ((k : Int) + 1) * 30) = (p : Int) := ⟨(-((bl v : Int) - ((k : Int) + 1) * 30)).toNat, by omega⟩
  rw [hpp, Int.toNat_natCast, show 30 * m - bl v = p + 30 * (m - k - 1) by omega, Nat.pow_add, ← Nat.mul_assoc, Nat.mul_div_cancel _ (Nat.two_pow_pos _)]
theorem tf_step (F m k : Nat) (hk : k < m) : F / 2 ^ (30 * (m - k - 1)) = F / 2 ^ (30 * (m - k)) * 1073741824 + F / 2 ^ (30 * (m - k - 1)) % 1073741824 := by
 have e : 30 * (m - k) = 30 * (m - k - 1) + 30 := by omega
 have e2 : F / 2 ^ (30 * (m - k)) = F / 2 ^ (30 * (m - k - 1)) / 1073741824 := by
  rw [e, Nat.pow_add, ← Nat.div_div_eq_div_mul]
 rw [e2]
 omega
theorem lt_of_div (F G P : Nat) (h : F / P < G / P) : F < G := by
 rcases Nat.lt_or_ge F G with g | g
 ·exact g
 ·exact absurd (Nat.div_le_div_right (c := P) g) (by omega)
theorem cz_mul (a b : Int) (k : Nat) : cz (a * 2 ^ k) (b * 2 ^ k) = cz a b := by
 have hp : (0 : Int) < 2 ^ k := Int.pow_pos (by decide)
 rcases Int.lt_trichotomy a b with h | h | h
 ·rw [cz_lt h, cz_lt (Int.mul_lt_mul_of_pos_right h hp)]
 ·rw [cz_eq h, cz_eq (by rw [h])]
 ·rw [cz_gt h, cz_gt (Int.mul_lt_mul_of_pos_right h hp)]
theorem cz_nat_tf (v1 v2 m : Nat) (s1 s2 : Nat) (h1 : bl v1 ≤ 30 * m) (h2 : bl v2 ≤ 30 * m) (ht : bl v1 + s1 = bl v2 + s2) : cz (tf v1 m : Int) (tf v2 m : Int) = cz ((v1 * 2 ^ s1 : Nat) : Int) ((v2 * 2 ^ s2 : Nat) : Int) := by
 have e1 : ((tf v1 m : Nat) : Int) * 2 ^ (bl v1 + s1) = ((v1 * 2 ^ s1 : Nat) : Int) * 2 ^ (30 * m) := by
  unfold tf
  simp only [Int.natCast_mul, Int.natCast_pow]
  rw [Int.mul_assoc, Int.mul_assoc, show ((2 : Nat) : Int) = 2 from rfl, ← Int.pow_add, ← Int.pow_add]
  congr 2
  omega
 have e2 : ((tf v2 m : Nat) : Int) * 2 ^ (bl v1 + s1) = ((v2 * 2 ^ s2 : Nat) : Int) * 2 ^ (30 * m) := by
  unfold tf
  simp only [Int.natCast_mul, Int.natCast_pow]
  rw [Int.mul_assoc, Int.mul_assoc, show ((2 : Nat) : Int) = 2 from rfl, ← Int.pow_add, ← Int.pow_add]
  congr 2
  omega
 rw [← cz_mul (tf v1 m : Int) (tf v2 m : Int) (bl v1 + s1), e1, e2, cz_mul]
theorem cz_top (v1 v2 s1 s2 : Nat) (h1 : v1 ≠ 0) (h2 : v2 ≠ 0) (ht : bl v1 + s1 ≠ bl v2 + s2) : cz ((bl v1 + s1 : Nat) : Int) ((bl v2 + s2 : Nat) : Int) = cz ((v1 * 2 ^ s1 : Nat) : Int) ((v2 * 2 ^ s2 : Nat) : Int) := by
 have key : ∀ a b s t : Nat, a ≠ 0 → b ≠ 0 → bl a + s < bl b + t → a * 2 ^ s < b * 2 ^ t := by
  intro a b s t ha hb h
  have g1 := bl_lt (a * 2 ^ s)
  have g2 := bl_pos (b * 2 ^ t) (Nat.mul_ne_zero hb (by have := Nat.two_pow_pos t; omega))
  rw [bl_mul a s ha] at g1
  rw [bl_mul b t hb] at g2
  have g3 : 2 ^ (bl a + s) ≤ 2 ^ (bl b + t - 1) := Nat.pow_le_pow_right (by decide) (by omega)
  omega
 rcases Nat.lt_or_gt_of_ne ht with h | h
 ·have := key v1 v2 s1 s2 h1 h2 h
  rw [cz_lt (by omega), cz_lt (by omega)]
 ·have := key v2 v1 s2 s1 h2 h1 h
  rw [cz_gt (by omega), cz_gt (by omega)]
def OwnV (w : World) (g cap : Nat) (e : TypeId) (V : List Value) : Prop := ∃ cur, w.heap[g]? = some (.cells cur e (0, 0)) ∧ V.length ≤ cap ∧ cap ≤ maxLen ∧ cur.size = cap ∧ cur.toList.take V.length = V
theorem own_v {w : World} {g cap : Nat} {L : List Int} : Own w g cap L ↔ OwnV w g cap 3 (L.map (Value.int .i64)) := by
 unfold Own OwnV
 simp only [List.length_map]
theorem OwnV.lt {w : World} {g cap : Nat} {e : TypeId} {V : List Value} (h : OwnV w g cap e V) : g < w.heap.size := by
 obtain ⟨cur, hg, -⟩ := h
 exact lt_of_block hg
theorem OwnV.kept {w w' : World} {g cap : Nat} {e : TypeId} {V : List Value} (h : OwnV w g cap e V) (k : Kept w w') : OwnV w' g cap e V := by
 have hl := h.lt
 obtain ⟨cur, hg, r⟩ := h
 exact ⟨cur, (k.below.block g hl).trans hg, r⟩
theorem OwnV.grw {w w' : World} {g g' cap : Nat} {e : TypeId} {V : List Value} (h : OwnV w g cap e V) (k : Grw g' w w') (hne : g ≠ g') : OwnV w' g cap e V := by
 have hl := h.lt
 obtain ⟨cur, hg, r⟩ := h
 exact ⟨cur, (k.grown.block g hl (by simpa using hne)).trans hg, r⟩
theorem OwnV.setOther {w : World} {g cap : Nat} {e : TypeId} {V : List Value} (h : OwnV w g cap e V) {p : Addr} (hp : g ≠ p.block) (u : Value) : OwnV (w.setCell p u) g cap e V := by
 obtain ⟨cur, hg, r⟩ := h
 exact ⟨cur, (Below.heap_setCell w p u g hp).trans hg, r⟩
theorem OwnV.cell {w : World} {g cap : Nat} {e : TypeId} {V : List Value} (h : OwnV w g cap e V) (i : Nat) (x : Value) (hi : V[i]? = some x) : w.cell? ⟨g, i, none⟩ = some x := by
 obtain ⟨cur, hg, h1, h2, h3, h4⟩ := h
 rw [cell_of_row w g i cur e (0, 0) hg]
 rw [← h4, List.getElem?_take] at hi
 split at hi
 ·simpa using hi
 ·cases hi
theorem OwnV.some {w : World} {g cap : Nat} {e : TypeId} {V : List Value} (h : OwnV w g cap e V) (i : Nat) (hi : i < cap) : (w.cell? ⟨g, i, none⟩).isSome = true := by
 obtain ⟨cur, hg, h1, h2, h3, h4⟩ := h
 rw [cell_of_row w g i cur e (0, 0) hg]
 simp
 omega
theorem OwnV.free {w : World} {g cap : Nat} {e : TypeId} {V : List Value} (h : OwnV w g cap e V) (i : Nat) : w.frozen? ⟨g, i, none⟩ = false := by
 obtain ⟨cur, hg, -⟩ := h
 exact frozen_of_row w g i cur e hg
theorem OwnV.set {w : World} {g cap : Nat} {e : TypeId} {V : List Value} (h : OwnV w g cap e V) (i : Nat) (x : Value) : OwnV (w.setCell ⟨g, i, none⟩ x) g cap e (V.set i x) := by
 obtain ⟨cur, hg, h1, h2, h3, h4⟩ := h
 refine ⟨cur.setIfInBounds i x, heap_setCell_same w g i cur e _ hg, by simpa using h1, h2, by simpa using h3, ?_⟩
 rw [Array.toList_setIfInBounds, List.length_set, List.take_set, h4]
theorem OwnV.push {w : World} {g cap : Nat} {e : TypeId} {V : List Value} (h : OwnV w g cap e V) (hi : V.length < cap) (x : Value) : OwnV (w.setCell ⟨g, V.length, none⟩ x) g cap e (V ++ [x]) := by
 obtain ⟨cur, hg, h1, h2, h3, h4⟩ := h
 refine ⟨cur.setIfInBounds V.length x, heap_setCell_same w g V.length cur e _ hg, by simp; omega, h2, by simpa using h3, ?_⟩
 rw [Array.toList_setIfInBounds, List.length_append, List.length_singleton, List.take_set, List.take_add_one, h4]
 have : (cur.toList)[V.length]? = Option.some (cur.toList[V.length]'(by simp; omega)) := List.getElem?_eq_getElem _
 rw [this, List.set_append_right _ _ (by omega), Nat.sub_self]
 rfl
theorem OwnV.pushes {g cap : Nat} {e : TypeId} (news : List Value) : ∀ {w : World} {V : List Value} (h : OwnV w g cap e V) (hi : V.length + news.length ≤ cap), OwnV (w.setCells g V.length news) g cap e (V ++ news) := by
 induction news with
 | nil => intro w V h hi; simpa [World.setCells] using h
 | cons x r ih =>
  intro w V h hi
  simp only [List.length_cons] at hi
  have h2 := h.push (by omega) x
  have := ih h2 (by simp; omega)
  rw [List.length_append, List.length_singleton] at this
  rw [World.setCells]
  simpa using this
theorem Grw.setCells {g : Nat} {a : World} (news : List Value) : ∀ {b : World} (h : Grw g a b) (o : Nat), Grw g a (b.setCells g o news) := by
 induction news with
 | nil => intro b h o; exact h
 | cons x r ih => intro b h o; exact ih (h.setCell o x) (o + 1)
theorem ownV_new (w : World) (e : TypeId) (z : Value) (hz : z.cells.size = 1) (V : List Value) (cap : Nat) (h1 : V.length ≤ cap) (h2 : cap ≤ maxLen) : OwnV (w.alloc (.cells (V.toArray ++ Builtin.zeroCells z.cells (cap - V.length)) e)) w.heap.size cap e V := by
 refine ⟨_, heap_alloc_new w _, h1, h2, ?_, ?_⟩
 ·simp [size_zeroCells, hz]; omega
 ·simp
/-- A row of one's own, or none yet. -/
def Rw (w : World) (v : Value) (e : TypeId) (V : List Value) : Prop := (V = [] ∧ v = .slice none 0 0) ∨ ∃ g cap, v = .slice (some ⟨g, 0, none⟩) V.length cap ∧ OwnV w g cap e V
/-- Append: in place, or to a new row. -/
theorem app_gen (t e : TypeId) (ht : Tryz.prog.underlying t = some (.slice e)) (z : Value) (by8 : Nat) (hinf : (Tryz.prog.info? e).map (fun i => (i.zero, i.size, i.bytes)) = some (some z, 1, by8)) (hz : z.cells.size = 1) (hby : by8 ≤ 24)
  (w : World) (v : Value) (olds news : List Value) (hv : Rw w v e olds) (ad : Addr) (m c : Nat) (hl : news.length = m) (hnews : ∀ j u, news[j]? = some u → w.cell? (ad.add j) = some u) (h1 : ∀ u ∈ news, u.oneCell' = true) (hm : 0 < m) (hsz : olds.length + m < 100000000) :
  ∃ g cap w', (∀ ty, (Builtin.append_ #[t, t] ty #[v, .slice (some ad) m c]).run Tryz.prog w = .ok (.slice (some ⟨g, 0, none⟩) (olds.length + m) cap) w') ∧ OwnV w' g cap e (olds ++ news) ∧ ((g = w.heap.size ∧ Kept w w') ∨ (v = .slice (some ⟨g, 0, none⟩) olds.length cap ∧ Grw g w w')) := by
 obtain ⟨i, hi, hz2, hs, hb⟩ := info_parts hinf
 have hS : Src Tryz.prog i.size t (.slice (some ad) m c) m news w := Src.ofSlice w ht ad m c news (by rw [hs]; omega) hnews h1
 rcases hv with ⟨rfl, rfl⟩ | ⟨g, cap, rfl, hO⟩
 ·obtain ⟨C, hC⟩ : ∃ C, grownCap w (0 + m) 0 e = C := ⟨_, rfl⟩
  have hC1 : 0 + m ≤ C := by rw [← hC]; exact grownCap_ge _ _ _ _
  have hC2 : C ≤ maxLen := by rw [← hC]; exact grownCap_le_maxLen _ _ _ _ (by simp [maxLen] at *; omega)
  have hO := ownV_new w.drew e z hz news C (by omega) hC2
  have hK : Kept w (w.drew.alloc (.cells (news.toArray ++ Builtin.zeroCells z.cells (C - news.length)) e)) := (Kept.refl w).drew.alloc _ _
  refine ⟨w.heap.size, C, _, fun ty => ?_, by simpa using hO, .inl ⟨rfl, hK⟩⟩
  have := run_append_grow_src w t t ty e i z ht hi hz2 none 0 0 [] (by simpa using run_firstCells_none (P := Tryz.prog) w.drew i.size 0 0 0) (.slice (some ad) m c) m news hS (by omega) (by omega) (growslice_fits (by omega) (by rw [hb]; simp only [List.length_nil] at hsz; exact Nat.le_trans (Nat.mul_le_mul_left _ hby) (by omega)))
  rw [hC] at this
  rw [this]
  simp [hl]
 ·by_cases hr : olds.length + m ≤ cap
  ·refine ⟨g, cap, w.setCells g olds.length news, fun ty => ?_, hO.pushes news (by omega), .inr ⟨rfl, (Grw.refl g w).setCells news _⟩⟩
   have := run_append_room_src w t t ty e i ht hi g 0 olds.length cap (.slice (some ad) m c) m news hS hr (fun j hj => hO.some _ (by rw [hs]; omega)) (fun j hj => hO.free _)
   rw [this, hs]
   simp
  ·obtain ⟨C, hC⟩ : ∃ C, grownCap w (olds.length + m) cap e = C := ⟨_, rfl⟩
   have hC1 : olds.length + m ≤ C := by rw [← hC]; exact grownCap_ge _ _ _ _
   have hC2 : C ≤ maxLen := by rw [← hC]; exact grownCap_le_maxLen _ _ _ _ (by simp [maxLen]; omega)
   have hO2 := ownV_new w.drew e z hz (olds ++ news) C (by rw [List.length_append]; omega) hC2
   have hK : Kept w (w.drew.alloc (.cells ((olds ++ news).toArray ++ Builtin.zeroCells z.cells (C - (olds ++ news).length)) e)) := (Kept.refl w).drew.alloc _ _
   refine ⟨w.heap.size, C, _, fun ty => ?_, by simpa using hO2, .inl ⟨rfl, hK⟩⟩
   have hcl : cap < olds.length + m := by omega
   have := run_append_grow_src w t t ty e i z ht hi hz2 (some ⟨g, 0, none⟩) olds.length cap olds (run_firstCells_some (P := Tryz.prog) w.drew i.size olds.length ⟨g, 0, none⟩ olds.length cap olds (by rw [hs]; omega) (fun j u hu => by rw [Addr.add_lit, Nat.zero_add]; exact hO.cell j u hu)) (.slice (some ad) m c) m news hS hcl (by omega) (growslice_fits hcl (by rw [hb]; exact Nat.le_trans (Nat.mul_le_mul_left _ hby) (by omega)))
   rw [hC] at this
   rw [this]
   simp [hl]
/-- Append of ints that a slice holds to nil. -/
theorem app_nil (L : List Int) (hlen : L.length < 100000000) (v : Value) (w : World) (h : Sl w v L) : ∃ v' w', (∀ ty, (Builtin.append_ #[27, 27] ty #[.slice none 0 0, v]).run Tryz.prog w = .ok v' w') ∧ Kept w w' ∧ ((L = [] ∧ v' = .slice none 0 0) ∨ ∃ g cap, v' = .slice (some ⟨g, 0, none⟩) L.length cap ∧ w.heap.size ≤ g ∧ Own w' g cap L) := by
 obtain ⟨ao, cap, rfl, hc, hm, hr⟩ := h
 by_cases hne : L = []
 ·subst hne
  obtain ⟨i, hi, hz2, hs, hb⟩ := info_parts (int_info)
  refine ⟨_, w, fun ty => run_append_nothing w 27 27 ty 3 i li_under hi none 0 0 (by omega) _ ?_, Kept.refl w, .inl ⟨rfl, rfl⟩⟩
  cases ao with
  | none => exact Src.ofNil w li_under cap
  | some a => exact Src.ofSlice w li_under a 0 cap [] (by simp) (fun j u hu => by simp at hu) (fun u hu => by cases hu)
 ·obtain ⟨b, off, rfl, hb, hr⟩ := hr hne
  have hpos := List.length_pos_iff.2 hne
  obtain ⟨g, C, w', hrun, hO, hk⟩ := app_gen 27 3 li_under (.int .i64 0) 8 int_info (by simp [Value.cells]) (by omega) w (.slice none 0 0) [] (L.map (Value.int .i64)) (.inl ⟨rfl, rfl⟩) ⟨b, off, none⟩ L.length cap (by simp) (fun j u hj => by
   rw [List.getElem?_map] at hj
   by_cases hjl : j < L.length
   ·rw [List.getElem?_eq_getElem hjl] at hj
    cases hj
    have := hr j hjl
    rw [List.getD_eq_getElem?_getD, List.getElem?_eq_getElem hjl] at this
    rw [Addr.add_lit]
    simpa using this
   ·rw [List.getElem?_eq_none (by omega)] at hj
    cases hj) (fun u hu => by obtain ⟨x, -, rfl⟩ := List.mem_map.1 hu; rfl) hpos (by simpa using hlen)
  rcases hk with ⟨rfl, hK⟩ | ⟨e, -⟩
  ·refine ⟨_, w', fun ty => by simpa using hrun ty, hK, .inr ⟨_, C, rfl, Nat.le_refl _, own_v.2 (by simpa using hO)⟩⟩
  ·cases e
def MR (H : Nat) (w : World) (v : Value) (M : List Int) : Prop := (M = [] ∧ v = .slice none 0 0) ∨ ∃ g cap, v = .slice (some ⟨g, 0, none⟩) M.length cap ∧ H ≤ g ∧ Own w g cap M
theorem MR.kept {H : Nat} {w w' : World} {v : Value} {M : List Int} (h : MR H w v M) (k : Kept w w') : MR H w' v M := by
 rcases h with h | ⟨g, cap, e, hg, ho⟩
 ·exact .inl h
 ·exact .inr ⟨g, cap, e, hg, ho.kept k⟩
theorem MR.sl {H : Nat} {w : World} {v : Value} {M : List Int} (h : MR H w v M) : ∃ ao c, v = .slice ao M.length c ∧ (ao = none → c = 0) ∧ Sl w (.slice ao M.length c) M := by
 rcases h with ⟨rfl, rfl⟩ | ⟨g, cap, rfl, hg, ho⟩
 ·exact ⟨none, 0, rfl, fun _ => rfl, none, 0, rfl, Nat.le_refl _, by simp [maxLen], fun h => absurd rfl h⟩
 ·exact ⟨_, _, rfl, fun h => by simp at h, ho.sl⟩
theorem app_step (H : Nat) (wr : World) (lv : Value) (M : List Int) (hM : MR H wr lv M) (d : Int) (hH : H ≤ wr.heap.size) (hlen : M.length < 10000000) : ∃ v' w', (∀ ty, (Builtin.append_ #[27, 27] ty #[lv, .slice (some ⟨wr.heap.size, 0, none⟩) 1 1]).run Tryz.prog (wr.alloc (.cells #[.int .i64 d] 3)) = .ok v' w') ∧ MR H w' v' (M ++ [d]) ∧ (∀ W : World, W.heap.size ≤ H → Kept W wr → Kept W w') := by
 have hK : Kept wr (wr.alloc (.cells #[.int .i64 d] 3)) := (Kept.refl _).alloc _ _
 have hR : Rw (wr.alloc (.cells #[.int .i64 d] 3)) lv 3 (M.map (Value.int .i64)) := by
  rcases hM with ⟨rfl, rfl⟩ | ⟨g, cap, rfl, hg, ho⟩
  ·exact .inl ⟨rfl, rfl⟩
  ·exact .inr ⟨g, cap, by rw [List.length_map], own_v.1 (ho.kept hK)⟩
 obtain ⟨g, cap, w', hr, ho, hk⟩ := app_gen 27 3 li_under (.int .i64 0) 8 int_info (by rfl) (by decide) (wr.alloc (.cells #[.int .i64 d] 3)) lv (M.map (Value.int .i64)) [.int .i64 d] hR ⟨wr.heap.size, 0, none⟩ 1 1 rfl (fun j u hj => by
  rcases j with _ | j
  ·cases hj
   simp [go_sem]
  ·simp at hj) (fun u hu => by rw [List.mem_singleton.1 hu]; rfl) (by decide) (by rw [List.length_map]; omega)
 rw [List.length_map] at hr
 have hO : Own w' g cap (M ++ [d]) := own_v.2 (by rw [List.map_append]; exact ho)
 refine ⟨_, w', hr, .inr ⟨g, cap, by rw [List.length_append]; rfl, ?_, hO⟩, ?_⟩
 ·rcases hk with ⟨e, -⟩ | ⟨e, -⟩
  ·rw [e]; simp; omega
  ·rcases hM with ⟨-, rfl⟩ | ⟨g0, cap0, rfl, hg, -⟩
   ·simp at e
   ·have e' : g0 = g := by simp at e; exact e.1
    omega
 ·intro W hW k
  rcases hk with ⟨e, kk⟩ | ⟨e, gg⟩
  ·exact (k.trans hK).trans kk
  ·refine (k.trans hK).grw ?_ gg
   rcases hM with ⟨-, rfl⟩ | ⟨g0, cap0, rfl, hg, -⟩
   ·simp at e
   ·have e' : g0 = g := by simp at e; exact e.1
    omega
def dl (V : Nat) : Nat → List Int
 | 0 => []
 | c + 1 => dl V c ++ [((V / 2 ^ (30 * c) % 1073741824 : Nat) : Int)]
theorem dl_zero (V : Nat) : dl V 0 = [] := rfl
theorem dl_succ (V c : Nat) : dl V (c + 1) = dl V c ++ [((V / 2 ^ (30 * c) % 1073741824 : Nat) : Int)] := rfl
theorem dl_length (V c : Nat) : (dl V c).length = c := by
 induction c with
 | zero => rfl
 | succ c ih => rw [dl_succ, List.length_append, ih]; rfl
theorem dl_dg (V c : Nat) : Dg (dl V c) := by
 induction c with
 | zero => exact Dg.nil
 | succ c ih =>
  intro d hd
  rcases List.mem_append.1 hd with h | h
  ·exact ih d h
  ·rw [List.mem_singleton.1 h]
   omega
theorem dl_nv (V c : Nat) : nv (dl V c) = V % 2 ^ (30 * c) := by
 induction c with
 | zero => rw [dl_zero, Nat.mul_zero, Nat.pow_zero, Nat.mod_one]; rfl
 | succ c ih =>
  rw [dl_succ, nv_append, ih, dl_length, pow30, Nat.mul_comm 1073741824, Nat.mod_mul]
  congr 1
theorem dl_lt (V c : Nat) (h : V < 2 ^ (30 * c)) : nv (dl V c) = V := by rw [dl_nv, Nat.mod_eq_of_lt h]
theorem dl_zeros (V f : Nat) : dl (V * 2 ^ (30 * f)) f = List.replicate f 0 := by
 have key : ∀ c, c ≤ f → dl (V * 2 ^ (30 * f)) c = List.replicate c 0 := by
  intro c hc
  induction c with
  | zero => rfl
  | succ c ih =>
   have e : V * 2 ^ (30 * f) / 2 ^ (30 * c) % 1073741824 = 0 := by
    rw [show 30 * f = 30 * (f - c - 1) + 30 + 30 * c by omega, Nat.pow_add, ← Nat.mul_assoc, Nat.mul_div_cancel _ (Nat.two_pow_pos _), Nat.pow_add, ← Nat.mul_assoc, show (2 : Nat) ^ 30 = 1073741824 from rfl]
    exact Nat.mul_mod_left _ _
   rw [dl_succ, ih (by omega), e, List.replicate_succ']
   rfl
 exact key f (Nat.le_refl _)
/-- A list without its noughts on top. -/
theorem trim_list (M : List Int) (hM : Dg M) (k : Nat) (hk : k ≤ M.length) (hz : ∀ j, k ≤ j → M.getD j 0 = 0) (hl : k = 0 ∨ M.getD (k - 1) 0 ≠ 0) : M.take k = digs (nv M) := by
 rcases k with _ | k
 ·rw [List.take_zero, (nv_zero M hM).2 (fun i => hz i (Nat.zero_le _)), digs_zero]
 ·have hnv := nv_take M hM k (fun j hj => hz j hj)
  have hlen : (M.take (k + 1)).length = k + 1 := by rw [List.length_take]; omega
  have hlast : (M.take (k + 1)).getD k 0 = M.getD k 0 := by
   rw [List.getD_eq_getElem?_getD, List.getD_eq_getElem?_getD, List.getElem?_take, if_pos (by omega)]
  rw [← hnv]
  refine (digs_nv _ (dg_take M hM _) (.inr ?_)).symm
  rw [hlen, Nat.add_sub_cancel, hlast]
  rcases hl with h | h
  ·omega
  ·simpa using h
theorem add_step (A B P b : Nat) (hP : 0 < P) (hb : 0 < b) : (A + B) / P % b = ((A % P + B % P) / P + A / P % b + B / P % b) % b ∧ (A % (P * b) + B % (P * b)) / (P * b) = ((A % P + B % P) / P + A / P % b + B / P % b) / b := by
 constructor
 ·have e : A + B = (A % P + B % P) + P * (A / P + B / P) := by
   have h1 := Nat.mod_add_div A P
   have h2 := Nat.mod_add_div B P
   rw [Nat.mul_add]
   omega
  rw [e, Nat.add_mul_div_left _ _ hP]
  have : ∀ x y z : Nat, (x + (y + z)) % b = (x + y % b + z % b) % b := by
   intro x y z
   rw [Nat.add_mod (x + y % b), Nat.mod_mod, Nat.add_mod x (y % b), Nat.mod_mod, ← Nat.add_assoc, Nat.add_mod (x + y) z, Nat.add_mod x y]
  exact this _ _ _
 ·rw [Nat.mod_mul, Nat.mod_mul, show A % P + P * (A / P % b) + (B % P + P * (B / P % b)) = A % P + B % P + P * (A / P % b + B / P % b) by rw [Nat.mul_add]; omega, ← Nat.div_div_eq_div_mul, Nat.add_mul_div_left _ _ hP, Nat.add_assoc]
theorem shl_step (A u P b : Nat) (hP : 0 < P) (hb : 0 < b) : (A * u) / P % b = (A / P % b * u + (A % P) * u / P) % b ∧ (A % (P * b)) * u / (P * b) = (A / P % b * u + (A % P) * u / P) / b := by
 constructor
 ·have e : A * u = (A % P) * u + P * (A / P * u) := by
   have h1 := Nat.mod_add_div A P
   calc A * u = (A % P + P * (A / P)) * u := by rw [h1]
    _ = _ := by rw [Nat.add_mul, Nat.mul_assoc]
  rw [e, Nat.add_mul_div_left _ _ hP]
  have h : A / P % b * u % b = A / P * u % b := by rw [Nat.mul_mod, Nat.mod_mod, ← Nat.mul_mod]
  rw [Nat.add_comm, Nat.add_mod, ← h, ← Nat.add_mod]
 ·rw [Nat.mod_mul, Nat.add_mul, Nat.mul_assoc, ← Nat.div_div_eq_div_mul, Nat.add_mul_div_left _ _ hP, Nat.add_comm]
theorem sub_step (A B P b : Nat) (hP : 0 < P) (hb : 0 < b) (h : B ≤ A) (c : Int) (hc : c = if A % P < B % P then 1 else 0) (s : Int) (hs : s = ((A / P % b : Nat) : Int) - c - ((B / P % b : Nat) : Int)) :
  (((A - B) / P % b : Nat) : Int) = (if s < 0 then s + b else s) ∧ (A % (P * b) < B % (P * b) ↔ s < 0) := by
 have m1 := Nat.mod_lt A hP
 have m2 := Nat.mod_lt B hP
 have a1 := Nat.mod_lt (A / P) hb
 have b1 := Nat.mod_lt (B / P) hb
 have hcc : c = 0 ∨ c = 1 := by rw [hc]; split <;> omega
 have hA := Nat.mod_add_div A P
 have hB := Nat.mod_add_div B P
 constructor
 ·-- the quotient of the difference
  have hq : ∃ q : Nat, (q : Int) = ((A / P : Nat) : Int) - c - ((B / P : Nat) : Int) ∧ (A - B) / P = q := by
   have key : ((A - B : Nat) : Int) = (P : Int) * (((A / P : Nat) : Int) - c - ((B / P : Nat) : Int)) + (((A % P : Nat) : Int) - ((B % P : Nat) : Int) + c * P) := by
    rw [Int.ofNat_sub h]
    have h1 : (A : Int) = ((A % P : Nat) : Int) + (P : Int) * ((A / P : Nat) : Int) := by exact_mod_cast hA.symm
    have h2 : (B : Int) = ((B % P : Nat) : Int) + (P : Int) * ((B / P : Nat) : Int) := by exact_mod_cast hB.symm
    have h3 : c * (P : Int) = (P : Int) * c := Int.mul_comm _ _
    rw [Int.mul_sub, Int.mul_sub, h3]
    omega
   have hr : 0 ≤ ((A % P : Nat) : Int) - ((B % P : Nat) : Int) + c * P ∧ ((A % P : Nat) : Int) - ((B % P : Nat) : Int) + c * P < P := by
    rw [hc]
    split <;> omega
   have hnn : 0 ≤ ((A / P : Nat) : Int) - c - ((B / P : Nat) : Int) := by
    rcases Int.lt_or_le (((A / P : Nat) : Int) - c - ((B / P : Nat) : Int)) 0 with g | g
    ·exfalso
     have : (P : Int) * (((A / P : Nat) : Int) - c - ((B / P : Nat) : Int)) ≤ (P : Int) * (-1) := Int.mul_le_mul_of_nonneg_left (by omega) (by omega)
     omega
    ·exact g
   refine ⟨(((A / P : Nat) : Int) - c - ((B / P : Nat) : Int)).toNat, by omega, ?_⟩
   generalize hQ : ((A / P : Nat) : Int) - c - ((B / P : Nat) : Int) = Q at *
   generalize hR : ((A % P : Nat) : Int) - ((B % P : Nat) : Int) + c * P = R at *
   have e : A - B = P * Q.toNat + R.toNat := by
    have : ((A - B : Nat) : Int) = ((P * Q.toNat + R.toNat : Nat) : Int) := by
     rw [key, Int.natCast_add, Int.natCast_mul, Int.toNat_of_nonneg hnn, Int.toNat_of_nonneg hr.1]
    exact_mod_cast this
   rw [e, Nat.mul_add_div hP, Nat.div_eq_of_lt (by omega), Nat.add_zero]
  obtain ⟨q, hq1, hq2⟩ := hq
  rw [hq2]
  have dA := Nat.div_add_mod (A / P) b
  have dB := Nat.div_add_mod (B / P) b
  generalize A / P = qa at *
  generalize B / P = qb at *
  have e : (q : Int) = (b : Int) * (((qa / b : Nat) : Int) - ((qb / b : Nat) : Int)) + s := by
   have h1 : (qa : Int) = (b : Int) * ((qa / b : Nat) : Int) + ((qa % b : Nat) : Int) := by exact_mod_cast dA.symm
   have h2 : (qb : Int) = (b : Int) * ((qb / b : Nat) : Int) + ((qb % b : Nat) : Int) := by exact_mod_cast dB.symm
   rw [Int.mul_sub, hs]
   omega
  have e2 : ((q % b : Nat) : Int) = s % (b : Int) := by
   rw [Int.natCast_emod, e, Int.add_comm, Int.add_mul_emod_self_left]
  rw [e2]
  split
  ·rename_i hneg
   rw [← Int.add_emod_right, Int.emod_eq_of_lt (by omega) (by omega)]
  ·exact Int.emod_eq_of_lt (by omega) (by omega)
 ·rw [Nat.mod_mul, Nat.mod_mul]
  have p1 : P * (A / P % b) + P ≤ P * (B / P % b) ∨ A / P % b = B / P % b ∨ P * (B / P % b) + P ≤ P * (A / P % b) := by
   rcases Nat.lt_trichotomy (A / P % b) (B / P % b) with g | g | g
   ·exact .inl (by have := Nat.mul_le_mul_left P (show A / P % b + 1 ≤ B / P % b by omega); rw [Nat.mul_add] at this; omega)
   ·exact .inr (.inl g)
   ·exact .inr (.inr (by have := Nat.mul_le_mul_left P (show B / P % b + 1 ≤ A / P % b by omega); rw [Nat.mul_add] at this; omega))
  have g1 : A / P % b < B / P % b → P * (A / P % b) + P ≤ P * (B / P % b) := fun g => by have := Nat.mul_le_mul_left P (show A / P % b + 1 ≤ B / P % b by omega); rw [Nat.mul_add] at this; omega
  have g2 : B / P % b < A / P % b → P * (B / P % b) + P ≤ P * (A / P % b) := fun g => by have := Nat.mul_le_mul_left P (show B / P % b + 1 ≤ A / P % b by omega); rw [Nat.mul_add] at this; omega
  rcases Nat.lt_trichotomy (A / P % b) (B / P % b) with g | g | g
  ·have := g1 g
   constructor <;> intro <;> omega
  ·rw [g] at hs ⊢
   rw [hs, hc]
   split <;> constructor <;> intro <;> omega
  ·have := g2 g
   constructor
   ·intro; omega
   ·intro hs0
    rw [hs, hc] at hs0
    split at hs0 <;> omega
theorem shr_digit (x y s : Nat) (hs : s < 30) (hx : x < 1073741824) : x / 2 ^ s + y % 2 ^ s * 2 ^ (30 - s) = (x / 2 ^ s + y * 2 ^ (30 - s)) % 1073741824 := by
 have hpp : 2 ^ s * 2 ^ (30 - s) = 1073741824 := by rw [← Nat.pow_add, show s + (30 - s) = 30 by omega]
 have h1 : y * 2 ^ (30 - s) % 1073741824 = y % 2 ^ s * 2 ^ (30 - s) := by rw [← hpp, Nat.mul_mod_mul_right]
 have h2 : x / 2 ^ s < 2 ^ (30 - s) := by
  rw [Nat.div_lt_iff_lt_mul (Nat.two_pow_pos s), Nat.mul_comm, hpp]
  exact hx
 have h3 : y % 2 ^ s * 2 ^ (30 - s) + 2 ^ (30 - s) ≤ 1073741824 := by
  have := Nat.mod_lt y (Nat.two_pow_pos s)
  have := Nat.mul_le_mul_right (2 ^ (30 - s)) (show y % 2 ^ s + 1 ≤ 2 ^ s by omega)
  rw [Nat.add_mul, hpp] at this
  omega
 have h4 : x / 2 ^ s < 1073741824 := by have := Nat.div_le_self x (2 ^ s); omega
 have h5 : (x / 2 ^ s + y * 2 ^ (30 - s)) % 1073741824 = (x / 2 ^ s % 1073741824 + y * 2 ^ (30 - s) % 1073741824) % 1073741824 := Nat.add_mod _ _ _
 rw [h5, h1, Nat.mod_eq_of_lt h4, Nat.mod_eq_of_lt (show x / 2 ^ s + y % 2 ^ s * 2 ^ (30 - s) < 1073741824 by omega)]
/-- The lowest bit that is set, found digit by digit. -/
theorem low_math (M : List Int) (hM : Dg M) (k : Nat) (hk : k < M.length) (hz : ∀ j, j < k → M.getD j 0 = 0) (v t : Nat) (ht : t < 30) (hv : v % 2 = 1) (hd : (M.getD k 0).toNat = v * 2 ^ t) : tzn (nv M) = 30 * k + t := by
 have e1 : nv M % 2 ^ (30 * k) = 0 := by
  have hT : nv (M.take k) = 0 := by
   refine (nv_zero _ (dg_take M hM k)).2 (fun i => ?_)
   rw [List.getD_eq_getElem?_getD, List.getElem?_take]
   split
   ·have := hz i (by assumption)
    rw [List.getD_eq_getElem?_getD] at this
    exact this
   ·rfl
  have hs := nv_append (M.take k) (M.drop k)
  rw [List.take_append_drop, hT, List.length_take, Nat.min_eq_left (by omega), Nat.zero_add] at hs
  rw [hs]
  exact Nat.mul_mod_right _ _
 have e2 := nv_getD M hM k
 rw [hd] at e2
 obtain ⟨Q, hQ⟩ : ∃ Q, nv M = 2 ^ (30 * k) * Q := ⟨nv M / 2 ^ (30 * k), by have := Nat.mod_add_div (nv M) (2 ^ (30 * k)); omega⟩
 rw [hQ, Nat.mul_div_cancel_left _ (Nat.two_pow_pos _)] at e2
 have e3 := Nat.mod_add_div Q 1073741824
 rw [← e2] at e3
 have hpp : 1073741824 = 2 ^ t * 2 ^ (30 - t) := by rw [← Nat.pow_add, show t + (30 - t) = 30 by omega]
 have e4 : Q = (v + 2 ^ (30 - t) * (Q / 1073741824)) * 2 ^ t := by
  rw [Nat.add_mul, Nat.mul_comm _ (2 ^ t), Nat.mul_comm (2 ^ (30 - t) * _), ← Nat.mul_assoc, ← hpp, Nat.mul_comm (2 ^ t)]
  omega
 have h2 : 2 ^ (30 - t) % 2 = 0 := by rw [show 30 - t = (29 - t) + 1 by omega, Nat.pow_succ]; omega
 have hodd : (v + 2 ^ (30 - t) * (Q / 1073741824)) % 2 = 1 := by
  rw [Nat.add_mod, Nat.mul_mod, h2, Nat.zero_mul, Nat.zero_mod, Nat.add_zero, hv]
 rw [hQ, e4, Nat.mul_comm, Nat.mul_assoc, ← Nat.pow_add, tzn_mul _ _ hodd]
 omega
/-- A list that can be read. -/
def RL (w : World) (v : Value) (M : List Int) : Prop := ∃ ao c, v = .slice ao M.length c ∧ (ao = none → c = 0) ∧ Sl w (.slice ao M.length c) M
theorem RL.kept {w w' : World} {v : Value} {M : List Int} (h : RL w v M) (k : Kept w w') : RL w' v M := by
 obtain ⟨ao, c, e, hc, hs⟩ := h
 exact ⟨ao, c, e, hc, hs.kept k⟩
theorem RL.nil (w : World) : RL w (.slice none 0 0) [] := ⟨none, 0, rfl, fun _ => rfl, none, 0, rfl, Nat.le_refl _, by simp [maxLen], fun h => absurd rfl h⟩
/-- A list that can be read, with what is known of where it lies. -/
def RLp (P : Nat → Prop) (w : World) (v : Value) (M : List Int) : Prop := ∃ ao c, v = .slice ao M.length c ∧ (ao = none → c = 0) ∧ Sl w (.slice ao M.length c) M ∧ ∀ b off, M ≠ [] → ao = some ⟨b, off, none⟩ → P b
theorem RLp.rl {P : Nat → Prop} {w : World} {v : Value} {M : List Int} (h : RLp P w v M) : RL w v M := by
 obtain ⟨ao, c, e, hc, hs, -⟩ := h
 exact ⟨ao, c, e, hc, hs⟩
theorem RLp.kept {P : Nat → Prop} {w w' : World} {v : Value} {M : List Int} (h : RLp P w v M) (k : Kept w w') : RLp P w' v M := by
 obtain ⟨ao, c, e, hc, hs, hp⟩ := h
 exact ⟨ao, c, e, hc, hs.kept k, hp⟩
theorem RLp.imp {P Q : Nat → Prop} {w : World} {v : Value} {M : List Int} (h : RLp P w v M) (hpq : ∀ b, P b → Q b) : RLp Q w v M := by
 obtain ⟨ao, c, e, hc, hs, hp⟩ := h
 exact ⟨ao, c, e, hc, hs, fun b off hne he => hpq b (hp b off hne he)⟩
theorem RLp.nil (P : Nat → Prop) (w : World) : RLp P w (.slice none 0 0) [] := ⟨none, 0, rfl, fun _ => rfl, ⟨none, 0, rfl, Nat.le_refl _, by simp [maxLen], fun h => absurd rfl h⟩, fun b off h => absurd rfl h⟩
abbrev Fresh (n : Nat) : Nat → Prop := fun b => n ≤ b
theorem MR.rlp {H : Nat} {w : World} {v : Value} {M : List Int} (h : MR H w v M) : RLp (Fresh H) w v M := by
 rcases h with ⟨rfl, rfl⟩ | ⟨g, cap, rfl, hg, ho⟩
 ·exact RLp.nil _ w
 ·exact ⟨_, _, rfl, fun h => by simp at h, ho.sl, fun b off _ e => by cases e; exact hg⟩
theorem MR.rl {H : Nat} {w : World} {v : Value} {M : List Int} (h : MR H w v M) : RL w v M := h.sl
theorem RL.at {w : World} {v : Value} {M : List Int} (h : RL w v M) : ∃ ao c, v = .slice ao M.length c ∧ (ao = none → c = 0) ∧ ∀ u, Kept w u → RL u v M ∧ ∀ i, i < M.length → ∃ b off, ao = some ⟨b, off, none⟩ ∧ u.cell? ⟨b, off + i, none⟩ = some (.int .i64 (M.getD i 0)) := by
 obtain ⟨ao, c, rfl, hc, hs⟩ := h
 refine ⟨ao, c, rfl, hc, fun u k => ⟨⟨ao, c, rfl, hc, hs.kept k⟩, fun i hi => ?_⟩⟩
 obtain ⟨ao', cap, e, h1, h2, hr⟩ := hs.kept k
 cases e
 have hne : M ≠ [] := by intro e; subst e; simp at hi
 obtain ⟨b, off, rfl, hb, hr⟩ := hr hne
 exact ⟨b, off, rfl, hr i hi⟩
theorem trim_any (H : Nat) (w : World) (v : Value) (M : List Int) (hM : MR H w v M) (hD : Dg M) (hlen : M.length < 100000000) : Calls Tryz.prog 122 #[v] w fun e w' => (∃ r, e = .returned r ∧ RLp (Fresh H) w r (digs (nv M))) ∧ w = w' := by
 rcases hM with ⟨rfl, rfl⟩ | ⟨g, cap, rfl, hg, ho⟩
 ·have e0 : digs (nv []) = [] := digs_zero
  rw [e0]
  have hr := RLp.nil (Fresh H) w
  go_enter Tryz.func122, Tryz.ntmps122
  go_wp2
  refine wp_loop_rounds 1 ?_
  rw [rounds_succ]
  go_wp2
  go_ret
  exact ⟨⟨_, rfl, hr⟩, rfl⟩
 ·have hcap : M.length ≤ cap := by obtain ⟨_, _, h1, _⟩ := ho; exact h1
  have HO : Hid (Own w g cap M) := ho
  have HG : Hid (H ≤ g) := hg
  obtain ⟨n, hn⟩ : ∃ n, n = M.length := ⟨_, rfl⟩
  have HN : Hid (n = M.length) := hn
  have HD : Hid (Dg M) := hD
  rw [← hn] at hlen hcap ⊢
  clear ho hn hD
  go_enter Tryz.func122, Tryz.ntmps122
  go_wp2
  go_loopw [3] (fun i wr => ∃ k : Nat, k ≤ n ∧ i = .int .i64 k ∧ w = wr ∧ ∀ j, k ≤ j → M.getD j 0 = 0) (fun i _ => (intOf i).toNat)
  case atStart => exact ⟨n, Nat.le_refl _, rfl, rfl, fun j hj => by rw [List.getD_eq_getElem?_getD, List.getElem?_eq_none (by have := HN.out; omega)]; rfl⟩
  case round =>
   obtain ⟨k, hk, rfl, rfl, hz⟩ := hrel
   have HZ : Hid (∀ j, k ≤ j → M.getD j 0 = 0) := hz
   clear hz
   have fin : Hid ((k = 0 ∨ M.getD (k - 1) 0 ≠ 0) → RLp (Fresh H) w (.slice (some ⟨g, 0, none⟩) k cap) (digs (nv M))) := by
    intro hl
    have ht := trim_list M HD.out k (by rw [← HN.out]; exact hk) HZ.out hl
    have hlt : (M.take k).length = k := by rw [List.length_take]; have := HN.out; omega
    have hs := HO.out.slTake k (by rw [← HN.out]; exact hk)
    rw [← ht]
    exact ⟨some ⟨g, 0, none⟩, cap, by rw [hlt], fun h => by simp at h, by rw [hlt]; exact hs, fun b off _ e => by cases e; exact HG.out⟩
   rcases k with _ | k
   ·have hf := fin.out (.inl rfl)
    have HF : Hid (RLp (Fresh H) w (.slice (some ⟨g, 0, none⟩) 0 cap) (digs (nv M))) := hf
    clear hf fin
    go_wp2
    go_ret
    exact ⟨⟨_, rfl, HF.out⟩, rfl⟩
   ·have hc := HO.out.cell k (by rw [← HN.out]; omega)
    have z1 : IntKind.i64.wrap (((k + 1 : Nat) : Int) - 1) = (k : Int) := by rw [wrap_i64]; omega
    have z2 : ((k + 1 : Nat) : Int) - 1 = (k : Int) := by omega
    have z3 : (0 : Int) < ((k + 1 : Nat) : Int) := by omega
    have z4 : (k : Int) < (n : Int) := by omega
    by_cases hd : M.getD k 0 = 0
    ·rw [hd] at hc
     clear fin
     go_wp2
     go_roundw
     case rel => exact ⟨k, by omega, by go_num, by first | rfl | trivial, fun j hj => by
      rcases Nat.lt_or_ge k j with h | h
      ·exact HZ.out j h
      ·rw [show j = k by omega]; exact hd⟩
     case measure => simp [intOf] <;> omega
    ·have hf := fin.out (.inr (by rw [Nat.add_sub_cancel]; exact hd))
     have HF : Hid (RLp (Fresh H) w (.slice (some ⟨g, 0, none⟩) (k + 1) cap) (digs (nv M))) := hf
     clear hf fin
     generalize M.getD k 0 = d at *
     go_wp2
     go_ret
     exact ⟨⟨_, rfl, HF.out⟩, rfl⟩
def lowz (v : Nat) : Int := if v = 0 then -1 else (tzn v : Int)
theorem natLow_any (w : World) (v : Value) (M : List Int) (hM : RL w v M) (hD : Dg M) (hlen : M.length < 100000000) : Calls Tryz.prog 55 #[v] w fun e w' => e = .returned (.int .i64 (lowz (nv M))) ∧ w = w' := by
 obtain ⟨ao, c, rfl, -, hat⟩ := hM.at
 have HA : Hid (∀ i, i < M.length → ∃ b off, ao = some ⟨b, off, none⟩ ∧ w.cell? ⟨b, off + i, none⟩ = some (.int .i64 (M.getD i 0))) := (hat w (Kept.refl w)).2
 have HD : Hid (Dg M) := hD
 have HL : Hid ((∀ i, M.getD i 0 = 0) → lowz (nv M) = -1) := fun h => by rw [lowz, if_pos ((nv_zero M hD).2 h)]
 have HT : Hid (∀ k v t : Nat, k < M.length → (∀ j, j < k → M.getD j 0 = 0) → t < 30 → v % 2 = 1 → (M.getD k 0).toNat = v * 2 ^ t → lowz (nv M) = 30 * (k : Int) + (t : Int)) := by
  intro k v t hk hz ht hv hd
  have := low_math M hD k hk hz v t ht hv hd
  have hne : ¬ nv M = 0 := by
   intro h0
   have h1 := (nv_zero M hD).1 h0 k
   rw [h1] at hd
   have := Nat.two_pow_pos t
   have : 0 < v * 2 ^ t := Nat.mul_pos (by omega) this
   simp at hd
   omega
  rw [lowz, if_neg hne, this]
  omega
 have HZ : Hid (∀ j, M.length ≤ j → M.getD j 0 = 0) := fun j hj => by rw [List.getD_eq_getElem?_getD, List.getElem?_eq_none hj]; rfl
 generalize lowz (nv M) = R at *
 generalize M.length = n at *
 clear hM hat hD
 go_enter Tryz.func55, Tryz.ntmps55
 go_wp2
 go_loopw [3] (fun i wr => ∃ k : Nat, k ≤ n ∧ i = .int .i64 k ∧ w = wr ∧ ∀ j, j < k → M.getD j 0 = 0) (fun i _ => n - (intOf i).toNat)
 case atStart => exact ⟨0, Nat.zero_le _, rfl, rfl, fun j hj => by omega⟩
 case round =>
  obtain ⟨k, hk, rfl, rfl, hz⟩ := hrel
  have Hz : Hid (∀ j, j < k → M.getD j 0 = 0) := hz
  clear hz
  by_cases hkn : k < n
  ·obtain ⟨b, off, rfl, hc⟩ := HA.out k hkn
   have hd := HD.out.getD k
   by_cases h0 : M.getD k 0 = 0
   ·rw [h0] at hc
    go_wp2
    go_roundw
    case rel => exact ⟨k + 1, by omega, by go_num, by first | rfl | trivial, fun j hj => by
     rcases Nat.lt_or_ge j k with g | g
     ·exact Hz.out j g
     ·rw [show j = k by omega]; exact h0⟩
    case measure => simp [intOf] <;> omega
   ·have HT2 : Hid (∀ v t : Nat, t < 30 → v % 2 = 1 → (M.getD k 0).toNat = v * 2 ^ t → R = 30 * (k : Int) + (t : Int)) := fun v t => HT.out k v t hkn Hz.out
    have z1 : IntKind.i64.wrap (30 * (k : Int)) = 30 * (k : Int) := by rw [wrap_i64]; omega
    generalize M.getD k 0 = d at *
    clear HT HA HD HL HZ Hz
    go_wp2
    go_loopw [4, 5] (fun kv vv wr => ∃ (t x : Nat), kv = .int .i64 (30 * (k : Int) + (t : Int)) ∧ vv = .int .i64 (x : Int) ∧ 0 < x ∧ x < 1073741824 ∧ t < 30 ∧ x * 2 ^ t = d.toNat ∧ w = wr) (fun _ vv _ => (intOf vv).toNat)
    case atStart => exact ⟨0, d.toNat, by simp, by rw [Int.toNat_of_nonneg hd.1], by omega, by omega, by omega, by simp, rfl⟩
    case round =>
     obtain ⟨t, x, rfl, rfl, hx0, hx1, ht, he, rfl⟩ := hrel
     have y1 : ((x : Int)).tmod 2 = ((x % 2 : Nat) : Int) := by rw [Int.tmod_eq_emod_of_nonneg (by omega)]; omega
     have y2 : ((x : Int)).tdiv 2 = ((x / 2 : Nat) : Int) := by rw [Int.tdiv_eq_ediv_of_nonneg (by omega)]; omega
     have y3 : IntKind.i64.wrap (30 * (k : Int) + (t : Int) + 1) = 30 * (k : Int) + ((t + 1 : Nat) : Int) := by rw [wrap_i64]; omega
     have HE : Hid (x * 2 ^ t = d.toNat) := he
     by_cases hodd : x % 2 = 1
     ·have hR := HT2.out x t ht hodd he.symm
      subst hR
      rw [hodd] at y1
      clear he
      go_wp2
      go_ret
      exact ⟨rfl, rfl⟩
     ·have hev : x % 2 = 0 := by omega
      rw [hev] at y1
      have ht2 : t + 1 < 30 := by
       rcases Nat.lt_or_ge (t + 1) 30 with g | g
       ·exact g
       ·exfalso
        have e29 : t = 29 := by omega
        subst e29
        have : 2 ≤ x := by omega
        have : 2 * 2 ^ 29 ≤ x * 2 ^ 29 := Nat.mul_le_mul_right _ this
        omega
      have he2 : x / 2 * 2 ^ (t + 1) = d.toNat := by
       rw [← he, Nat.pow_succ, Nat.mul_comm (2 ^ t), ← Nat.mul_assoc]
       congr 1
       omega
      have HE2 : Hid (x / 2 * 2 ^ (t + 1) = d.toNat) := he2
      clear he he2 HE
      go_wp2
      go_roundw
      case rel => exact ⟨t + 1, x / 2, by go_num, by go_num, by omega, by omega, ht2, HE2.out, by first | rfl | trivial⟩
      case measure => simp [intOf] <;> omega
  ·obtain rfl : k = n := by omega
   have hR := HL.out (fun i => by
    rcases Nat.lt_or_ge i k with g | g
    ·exact Hz.out i g
    ·exact HZ.out i g)
   subst hR
   go_wp2
   go_ret
   exact ⟨rfl, rfl⟩
theorem getD_apr (A B : List Int) (k j : Nat) (h : A.length + j = k) : (A ++ B).getD k 0 = B.getD j 0 := by
 rw [List.getD_eq_getElem?_getD, List.getElem?_append_right (by omega), show k - A.length = j by omega, List.getD_eq_getElem?_getD]
theorem lent_any (L : List Int) (hlen : L.length < 10000000) (ao : Option Addr) (c : Nat) (w : World) (h : Sl w (.slice ao L.length c) L) : Calls Tryz.prog 12 #[.slice ao L.length c] w fun e w' => (∃ g cap, e = .returned (.slice (some ⟨g, 0, none⟩) (L.length + 3) cap) ∧ w.heap.size ≤ g ∧ Own w' g cap (L ++ [-71, -72, -73])) ∧ Kept w w' := by
 obtain ⟨v1, w1, hr1, k1, hrow⟩ := app_nil L (by omega) _ w h
 have k2 : Kept w1 (w1.alloc (.cells #[.int .i64 (-71), .int .i64 (-72), .int .i64 (-73)] 3)) := (Kept.refl w1).alloc _ _
 have hR : Rw (w1.alloc (.cells #[.int .i64 (-71), .int .i64 (-72), .int .i64 (-73)] 3)) v1 3 (L.map (Value.int .i64)) := by
  rcases hrow with ⟨rfl, rfl⟩ | ⟨g, cap, rfl, hg, hO⟩
  ·exact .inl ⟨rfl, rfl⟩
  ·exact .inr ⟨g, cap, by rw [List.length_map], own_v.1 (hO.kept k2)⟩
 obtain ⟨g, cap, w2, hr2, hO2, hk2⟩ := app_gen 27 3 li_under (.int .i64 0) 8 int_info (by simp [Value.cells]) (by omega) _ v1 (L.map (Value.int .i64)) [.int .i64 (-71), .int .i64 (-72), .int .i64 (-73)] hR ⟨w1.heap.size, 0, none⟩ 3 3 rfl (fun j u hj => by
  rw [Addr.add_lit, Nat.zero_add]
  rcases j with _ | _ | _ | j
  ·cases hj; simp [go_sem]
  ·cases hj; simp [go_sem]
  ·cases hj; simp [go_sem]
  ·simp at hj) (fun u hu => by simp at hu; rcases hu with rfl | rfl | rfl <;> rfl) (by omega) (by rw [List.length_map]; omega)
 rw [List.length_map] at hr2 hk2
 have hfin : (w.heap.size ≤ g ∧ Own w2 g cap (L ++ [-71, -72, -73])) ∧ Kept w w2 := by
  have hs1 := k1.below.size
  refine ⟨⟨?_, own_v.2 (by simpa using hO2)⟩, ?_⟩
  ·rcases hk2 with ⟨rfl, -⟩ | ⟨e, -⟩
   ·simp; omega
   ·rcases hrow with ⟨-, rfl⟩ | ⟨g', cap', rfl, hg, -⟩
    ·cases e
    ·cases e; exact hg
  ·rcases hk2 with ⟨-, k⟩ | ⟨e, k⟩
   ·exact (k1.trans k2).trans k
   ·rcases hrow with ⟨-, rfl⟩ | ⟨g', cap', rfl, hg, -⟩
    ·cases e
    ·cases e; exact (k1.trans k2).grw hg k
 have H1 : Hid (∀ ty, (Builtin.append_ #[27, 27] ty #[.slice none 0 0, .slice ao L.length c]).run Tryz.prog w = .ok v1 w1) := hr1
 have H2 : Hid (∀ ty, (Builtin.append_ #[27, 27] ty #[v1, .slice (some ⟨w1.heap.size, 0, none⟩) 3 3]).run Tryz.prog (w1.alloc (.cells #[.int .i64 (-71), .int .i64 (-72), .int .i64 (-73)] 3)) = .ok (.slice (some ⟨g, 0, none⟩) (L.length + 3) cap) w2) := hr2
 clear hr1 hr2 hrow hR hO2 hk2 h
 generalize L.length = n at *
 go_enter Tryz.func12, Tryz.ntmps12
 go_wp2_with (first | (at_builtin; refine wpList_append_run rfl _ _ _ rfl _ _ rfl rfl _ _ (H1.out _) ?_) | (at_builtin; refine wpList_append_run rfl _ _ _ rfl _ _ rfl rfl _ _ (H2.out _) ?_))
 go_ret
 exact ⟨⟨_, _, rfl, hfin.1⟩, hfin.2⟩
theorem lentNum_any (neg : Bool) (x : Int) (L : List Int) (hlen : L.length < 10000000) (ao : Option Addr) (c : Nat) (w : World) (h : Sl w (.slice ao L.length c) L) : Calls Tryz.prog 24 #[.agg #[.bool neg, .slice ao L.length c, .int .i64 x]] w fun e w' => (∃ g cap, e = .returned (.tuple #[.slice (some ⟨g, 0, none⟩) (L.length + 3) cap, .agg #[.bool neg, .slice (some ⟨g, 0, none⟩) L.length cap, .int .i64 x]]) ∧ w.heap.size ≤ g ∧ Own w' g cap (L ++ [-71, -72, -73])) ∧ Kept w w' := by
 have hW : Kept w ((w.alloc (.cells #[.bool neg, .slice ao L.length c, .int .i64 x] 29)).alloc nilNum) := ((Kept.refl w).alloc _ _).alloc _ _
 have KL : Hid (Calls Tryz.prog 12 #[.slice ao L.length c] ((w.alloc (.cells #[.bool neg, .slice ao L.length c, .int .i64 x] 29)).alloc nilNum) fun e w' => (∃ g cap, e = .returned (.slice (some ⟨g, 0, none⟩) (L.length + 3) cap) ∧ ((w.alloc (.cells #[.bool neg, .slice ao L.length c, .int .i64 x] 29)).alloc nilNum).heap.size ≤ g ∧ L.length ≤ cap ∧ Own w' g cap (L ++ [-71, -72, -73])) ∧ Kept ((w.alloc (.cells #[.bool neg, .slice ao L.length c, .int .i64 x] 29)).alloc nilNum) w') := by
  refine (lent_any L hlen ao c _ (h.kept hW)).mono ?_
  rintro e w1 ⟨⟨g, cap, rfl, hg, hO⟩, k1⟩
  exact ⟨⟨g, cap, rfl, hg, (by obtain ⟨_, _, h1, _⟩ := hO; simp at h1; omega), hO⟩, k1⟩
 generalize hM : L ++ [-71, -72, -73] = M at *
 generalize L.length = n at *
 go_enter Tryz.func24, Tryz.ntmps24
 go_wp2_with (first | (go_at_call 12; refine KL.out.mono ?_; rintro e w1 ⟨⟨g, cap, rfl, hg, hcap, hO⟩, hk1⟩; simp only [World.size_alloc] at hg; obtain ⟨f0, f1, f2, f3⟩ := res_cells (w.heap.size + 1) (by simp <;> omega) hk1 (by simp [go_sem]) (by simp [go_sem]) (by simp [go_sem]) (fun o => by simp [go_sem]); have b0 := (hk1.below.cell (p := ⟨w.heap.size, 0, none⟩) (by simp; omega)).trans (show _ = some (Value.bool neg) by simp [go_sem]); have b1 := (hk1.below.cell (p := ⟨w.heap.size, 1, none⟩) (by simp; omega)).trans (show _ = some (Value.slice ao n c) by simp [go_sem]); have b2 := (hk1.below.cell (p := ⟨w.heap.size, 2, none⟩) (by simp; omega)).trans (show _ = some (Value.int .i64 x) by simp [go_sem])))
 have kB0 : Kept (w.alloc (.cells #[.bool neg, .slice ao n c, .int .i64 x] 29)) ((w.alloc (.cells #[.bool neg, .slice ao n c, .int .i64 x] 29)).alloc nilNum) := (Kept.refl _).alloc _ _
 have HS : Hid (∀ u, Kept (w.alloc (.cells #[.bool neg, .slice ao n c, .int .i64 x] 29)) u → Kept w u ∧ u.cell? ⟨w.heap.size, 0, none⟩ = some (.bool neg) ∧ u.cell? ⟨w.heap.size, 1, none⟩ = some (.slice ao n c) ∧ u.cell? ⟨w.heap.size, 2, none⟩ = some (.int .i64 x)) := fun u k => ⟨((Kept.refl w).alloc _ _).trans k, (laid_cell k 0).trans (by simp [go_sem]), (laid_cell k 1).trans (by simp [go_sem]), (laid_cell k 2).trans (by simp [go_sem])⟩
 clear b0 b1 b2
 go_region_held (fun u => Kept w u ∧ u.cell? ⟨w.heap.size, 0, none⟩ = some (.bool neg) ∧ u.cell? ⟨w.heap.size, 1, none⟩ = some (.slice ao n c) ∧ u.cell? ⟨w.heap.size, 2, none⟩ = some (.int .i64 x)) (first | exact HS.out _ (kB0.trans hk1.drew) | assumption | exact HS.out _ (res_kept (w.heap.size + 1) (by simp) kB0 hk1.drew _ _ _)) (fail)
 all_goals
  go_wp2
  exact bodyPost_ret (v := .tuple #[.slice (some ⟨g, 0, none⟩) (n + 3) cap, .agg #[.bool neg, .slice (some ⟨g, 0, none⟩) n cap, .int .i64 x]]) (by simp [results, Tryz.results24, go_sem, f0, f1, f2]) rfl ⟨⟨g, cap, rfl, by omega, (((hO.kept (Kept.refl _).drew).setOther (by simp; omega) _).setOther (by simp; omega) _).setOther (by simp; omega) _⟩, res_kept (w.heap.size + 1) (by omega) hW hk1.drew _ _ _⟩
theorem back_any (L : List Int) (hlen : L.length < 10000000) (v : Value) (g cap : Nat) (w : World) (h : Sl w v L) (ho : Own w g cap (L ++ [-71, -72, -73])) : Calls Tryz.prog 15 #[.slice (some ⟨g, 0, none⟩) (L.length + 3) cap, v] w fun e w' => e = .returned (.bool true) ∧ Grw g w w' := by
 have hcap : L.length + 3 ≤ cap := by obtain ⟨_, _, h1, _⟩ := ho; simpa using h1
 have KS : Hid (Calls Tryz.prog 48 #[.slice (some ⟨g, 0, none⟩) L.length cap, v] w fun e w' => e = .returned (.bool true) ∧ Kept w w') := by
  have := ho.slTake L.length (by simp)
  rw [List.take_left'  rfl] at this
  exact same_true L (by omega) _ _ w this h
 have HO : Hid (∀ u, Kept w u → Own u g cap (L ++ [-71, -72, -73])) := fun u k => ho.kept k
 have HC : Hid (∀ u, Kept w u → u.cell? ⟨g, L.length, none⟩ = some (.int .i64 (-71)) ∧ u.cell? ⟨g, L.length + 1, none⟩ = some (.int .i64 (-72)) ∧ u.cell? ⟨g, L.length + 2, none⟩ = some (.int .i64 (-73))) := fun u k => by
  have hq := ho.kept k
  refine ⟨?_, ?_, ?_⟩
  ·have := hq.cell L.length (by simp)
   rw [getD_apr L _ _ 0 (by omega)] at this
   exact this
  ·have := hq.cell (L.length + 1) (by simp)
   rw [getD_apr L _ _ 1 (by omega)] at this
   exact this
  ·have := hq.cell (L.length + 2) (by simp)
   rw [getD_apr L _ _ 2 (by omega)] at this
   exact this
 have HL : Hid ((L ++ [-71, -72, -73]).length = L.length + 3) := by simp [Hid]
 obtain ⟨ao, cp, rfl, -, -, -⟩ := h
 generalize hM : L ++ [-71, -72, -73] = M at *
 clear hM ho
 generalize L.length = n at *
 go_enter Tryz.func15, Tryz.ntmps15
 go_wp2_with (first | (go_at_call 48; refine KS.out.mono ?_; rintro e w1 ⟨rfl, k1⟩; obtain ⟨q0, q1, q2⟩ := HC.out _ k1))
 go_loopw [7] (fun i wr => ∃ (k : Nat) (M' : List Int), k ≤ n + 3 ∧ i = .int .i64 k ∧ M'.length = n + 3 ∧ Own wr g cap M' ∧ Grw g w wr) (fun i _ => n + 3 - (intOf i).toNat)
 case atStart => exact ⟨0, M, by omega, rfl, HL.out, HO.out _ k1, k1.toGrw g⟩
 case round =>
  obtain ⟨k, M', hk, rfl, hM', hO, hG⟩ := hrel
  have HO2 : Hid (Own wr g cap M') := hO
  by_cases hkn : k < n + 3
  ·have hcell := hO.cell k (by omega)
   have hfree := hO.free k
   clear hO
   go_wp2
   go_roundw
   case rel => exact ⟨k + 1, M'.set k (-9), by omega, by go_num, by rw [List.length_set]; exact hM', HO2.out.set k (-9), hG.setCell _ _⟩
   case measure => simp [intOf]; omega
  ·obtain rfl : k = n + 3 := by omega
   go_wp2
   go_ret
   exact ⟨rfl, hG⟩
end Go.Proofs.YtbffekcjdcihpaaGreatDoor
