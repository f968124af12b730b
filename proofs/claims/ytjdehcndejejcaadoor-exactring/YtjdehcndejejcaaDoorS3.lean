/- The rows of a product: what the double loop of exact's product does to its digits. -/
import Derived.Test.YtjdehcndejejcaaDoorS1
namespace Go.Proofs.YtjdehcndejejcaaDoor
open Go.ChangeShapes Go.WideShapes Go.ChangeAt Go.RowKit
set_option linter.unusedVariables false
set_option linter.unusedSimpArgs false

theorem cv_take (L : List Int) (j : Nat) (hj : j < L.length) : cv (L.take (j + 1)) = cv (L.take j) + L.getD j 0 * 2 ^ (30 * j) := by
  induction L generalizing j with
  | nil => simp at hj
  | cons d L ih =>
    cases j with
    | zero => simp [cv]
    | succ j =>
      have e := pow30i j
      simp only [List.take_succ_cons, cv, List.getD_cons_succ]
      rw [ih j (by simpa using hj), e, Int.mul_left_comm (L.getD j 0)]
      generalize L.getD j 0 * 2 ^ (30 * j) = z
      omega
theorem cv_put (D : List Int) (i : Nat) (hi : i < D.length) (d : Int) : cv (D.set i d) = cv D + (d - D.getD i 0) * 2 ^ (30 * i) := by
  have := cv_set D i hi (d - D.getD i 0)
  rw [show D.getD i 0 + (d - D.getD i 0) = d by omega] at this
  exact this
theorem Dg.put {D : List Int} (h : Dg D) (i : Nat) (d : Int) (h0 : 0 ≤ d) (h1 : d < 1073741824) : Dg (D.set i d) := fun x hx => by
  rcases List.mem_or_eq_of_mem_set hx with h2 | h2
  · exact h x h2
  · rw [h2]; exact ⟨h0, h1⟩

structure PRow (A B : List Int) (n i j : Nat) (D : List Int) (o : Int) : Prop where
  len : D.length = n
  dg : Dg D
  o0 : 0 ≤ o
  o1 : o < 1073741824
  val : cv D + o * 2 ^ (30 * (i + j)) = cv (A.take i) * cv B + A.getD i 0 * cv (B.take j) * 2 ^ (30 * i)
  zero : ∀ k, i + B.length ≤ k → D.getD k 0 = 0

theorem PRow.start {A B : List Int} {n i : Nat} {D : List Int} (h1 : D.length = n) (h2 : Dg D) (h3 : cv D = cv (A.take i) * cv B) (h4 : ∀ k, i + B.length ≤ k → D.getD k 0 = 0) : PRow A B n i 0 D 0 :=
  ⟨h1, h2, by omega, by omega, by simp [cv, h3], h4⟩

theorem mul_lt_60 (a b : Int) (h0 : 0 ≤ a) (h1 : a < 1073741824) (g0 : 0 ≤ b) (g1 : b < 1073741824) : 0 ≤ a * b ∧ a * b ≤ 1152921502459363329 := by
  have e1 : 0 ≤ a * b := Int.mul_nonneg h0 g0
  have e2 : a * b ≤ 1073741823 * 1073741823 := Int.mul_le_mul (by omega) (by omega) g0 (by omega)
  exact ⟨e1, by omega⟩

theorem PRow.step {A B : List Int} {n i j : Nat} {D : List Int} {o : Int} (h : PRow A B n i j D o) (hA : Dg A) (hB : Dg B) (hj : j < B.length) (hn : i + j < n) (T : Int) (hT : o + D.getD (i + j) 0 + A.getD i 0 * B.getD j 0 = T) :
    PRow A B n i (j + 1) (D.set (i + j) (T % 1073741824)) (T / 1073741824) := by
  have hd := h.dg.getD (i + j)
  have ha := hA.getD i
  have hb := hB.getD j
  have hm := mul_lt_60 _ _ ha.1 ha.2 hb.1 hb.2
  have o0 := h.o0
  have o1 := h.o1
  refine ⟨by rw [List.length_set]; exact h.len, h.dg.put _ _ (by omega) (by omega), by omega, by omega, ?_, ?_⟩
  · rw [cv_put D (i + j) (by rw [h.len]; exact hn), cv_take B j hj]
    have hv := h.val
    have e1 : (2 : Int) ^ (30 * (i + (j + 1))) = 1073741824 * 2 ^ (30 * (i + j)) := pow30i (i + j)
    have e2 : (2 : Int) ^ (30 * (i + j)) = 2 ^ (30 * j) * 2 ^ (30 * i) := by rw [show 30 * (i + j) = 30 * j + 30 * i by omega, Int.pow_add]
    have e3 : A.getD i 0 * (cv (B.take j) + B.getD j 0 * 2 ^ (30 * j)) * 2 ^ (30 * i) = A.getD i 0 * cv (B.take j) * 2 ^ (30 * i) + A.getD i 0 * B.getD j 0 * 2 ^ (30 * (i + j)) := by
      rw [e2, Int.mul_add, Int.add_mul]
      congr 1
      simp only [Int.mul_assoc]
    rw [e3, e1]
    generalize A.getD i 0 * B.getD j 0 = m at *
    generalize (2 : Int) ^ (30 * (i + j)) = P at *
    generalize D.getD (i + j) 0 = d at *
    have hTT : T = 1073741824 * (T / 1073741824) + T % 1073741824 := by omega
    have e4 : (T % 1073741824 - d) * P + T / 1073741824 * (1073741824 * P) = (T - d) * P := by
      rw [← Int.mul_assoc, ← Int.add_mul]
      congr 1
      omega
    have e5 : (T - d) * P = o * P + m * P := by
      rw [← Int.add_mul]
      congr 1
      omega
    omega
  · intro k hk
    rw [getD_set D (i + j) k _ (by rw [h.len]; exact hn), if_neg (by omega)]
    exact h.zero k hk

theorem PRow.finish {A B : List Int} {n i : Nat} {D : List Int} {o : Int} (h : PRow A B n i B.length D o) (hi : i < A.length) (hn : i + B.length < n) :
    PRow A B n (i + 1) 0 (D.set (i + B.length) o) 0 := by
  refine .start (by rw [List.length_set]; exact h.len) (h.dg.put _ _ h.o0 h.o1) ?_ ?_
  · have hv := h.val
    rw [cv_put D _ (by rw [h.len]; exact hn), h.zero _ (Nat.le_refl _), cv_take A i hi]
    rw [List.take_length] at hv
    rw [Int.sub_zero, hv, Int.add_mul]
    congr 1
    rw [Int.mul_right_comm]
  · intro k hk
    rw [getD_set D _ k _ (by rw [h.len]; exact hn), if_neg (by omega)]
    exact h.zero k (by omega)

theorem PRow.last {A B : List Int} {n : Nat} {D : List Int} {o : Int} (h : PRow A B n A.length 0 D o) (ho : o = 0) (hA : Dg A) (hB : Dg B) : Dg D ∧ nv D = nv A * nv B := by
  refine ⟨h.dg, ?_⟩
  have hv := h.val
  subst ho
  rw [List.take_length, cv_nv D h.dg, cv_nv A hA, cv_nv B hB] at hv
  simp only [List.take_zero, cv, Int.zero_mul, Int.mul_zero, Int.add_zero] at hv
  have : ((nv D : Nat) : Int) = ((nv A * nv B : Nat) : Int) := by rw [hv, Int.natCast_mul]
  omega

def mulN (a b : Nm) : Option Nm :=
  if (bl (nv a.mag) : Int) + (bl (nv b.mag) : Int) - 1 ≤ 60000 ∧ -1048576 ≤ a.exp + b.exp ∧ a.exp + b.exp ≤ 1048576 then frm (a.neg != b.neg) (nv a.mag * nv b.mag) (a.exp + b.exp) else none

theorem vz_sg (s : Int) (a : Nm) : vz s a = sg a.neg (nv a.mag : Int) * 2 ^ (a.exp - s).toNat := by
  unfold vz
  cases a.neg <;> simp [sg, Int.neg_mul]
theorem mul_cfm (s : Int) (B : Nat) (hB : B ≤ 20000) (h1 : -20000 ≤ s) (h2 : s ≤ 0) (a b : Nm) (ha : Lies s B a) (hb : Lies s B b) : mulN a b = cfm (vz s a * vz s b) (s + s) := by
  obtain ⟨n1, L1, x1⟩ := a
  obtain ⟨n2, L2, x2⟩ := b
  have hz : ∀ (n : Bool) (L : List Int) (x : Int), Lies s B ⟨n, L, x⟩ → (bl (nv L) ≤ 20000 ∧ -20000 ≤ x ∧ x ≤ 20000) := by
    intro n L x h
    by_cases hne : L = []
    · subst hne
      obtain ⟨rfl, rfl⟩ := vld_nil _ _ h.ok
      exact ⟨by simp [nv, bl], by omega, by omega⟩
    · have g1 := h.low hne
      have g2 := tp_le s B _ h hne
      unfold tp at g2
      dsimp only at g1 g2
      omega
  have z1 := hz _ _ _ ha
  have z2 := hz _ _ _ hb
  have c1 := vz_sg s ⟨n1, L1, x1⟩
  have c2 := vz_sg s ⟨n2, L2, x2⟩
  dsimp only at c1 c2
  unfold mulN
  dsimp only
  rw [if_pos ⟨by omega, by omega, by omega⟩]
  by_cases e1 : L1 = []
  · subst e1
    rw [vz_nil, Int.zero_mul, cfm_zero]
    simp [frm, nv]
  by_cases e2 : L2 = []
  · subst e2
    rw [vz_nil, Int.mul_zero, cfm_zero]
    simp [frm, nv]
  have l1 := ha.low e1
  have l2 := hb.low e2
  dsimp only at l1 l2
  have p1 := nv_pos_of n1 L1 x1 e1 ha.ok
  have p2 := nv_pos_of n2 L2 x2 e2 hb.ok
  have e : vz s ⟨n1, L1, x1⟩ * vz s ⟨n2, L2, x2⟩ = sg n1 (nv L1 : Int) * sg n2 (nv L2 : Int) * 2 ^ ((x1 - s).toNat + (x2 - s).toNat) := by
    rw [c1, c2, Int.pow_add]
    simp only [Int.mul_assoc, Int.mul_left_comm]
  rw [e, cfm_shift, show s + s + (((x1 - s).toNat + (x2 - s).toNat : Nat) : Int) = x1 + x2 by omega]
  have hp : 0 < nv L1 * nv L2 := Nat.mul_pos p1 p2
  have e3 : sg n1 (nv L1 : Int) * sg n2 (nv L2 : Int) = sg (n1 != n2) ((nv L1 * nv L2 : Nat) : Int) := by
    rw [Int.natCast_mul]
    cases n1 <;> cases n2 <;> simp [sg, Int.neg_mul, Int.mul_neg]
  have hsg := sg_neg (n1 != n2) ((nv L1 * nv L2 : Nat) : Int) (by omega)
  rw [e3]
  unfold cfm
  rw [hsg.1, hsg.2, Int.toNat_natCast]
end Go.Proofs.YtjdehcndejejcaaDoor
