/- Columns of digits with either sign: what lay and carry of package exact do to them; Int. The walk of exact's lay. The sum of two numbers, plainly; the walk of exact's top. The walk of exact's settled: columns are carried, once or twice, and formed. -/
import Derived.Test.YtedghjededicpaaD8
namespace Go.Proofs.Ytedghjededicpaa
open Go.ChangeShapes Go.WideShapes Go.ChangeAt Go.RowKit
set_option linter.unusedVariables false
set_option linter.unusedSimpArgs false

/-! ### Plain: columns -/
def cv : List Int → Int
  | [] => 0
  | c :: l => c + 1073741824 * cv l
theorem cv_nv (L : List Int) (h : Dg L) : cv L = (nv L : Int) := by
  induction L with
  | nil => rfl
  | cons d L ih =>
    have := h.head
    simp only [cv, nv, ih h.tail]
    omega
def cr (s : Int) : Int → List Int → List Int × Int
  | o, [] => ([], o)
  | o, c :: C => (((o + s * c) % 1073741824) :: (cr s ((o + s * c) / 1073741824) C).1, (cr s ((o + s * c) / 1073741824) C).2)
def layL : List Int → Nat → List Int → List Int
  | C, _, [] => C
  | C, f, d :: ds => layL ((C.set f (C.getD f 0 + d % 1073741824)).set (f + 1) (C.getD (f + 1) 0 + d / 1073741824)) (f + 1) ds

theorem pow30i (i : Nat) : (2 : Int) ^ (30 * (i + 1)) = 1073741824 * 2 ^ (30 * i) := by
  rw [show 30 * (i + 1) = 30 * i + 30 by omega, Int.pow_add, Int.mul_comm, show (2 : Int) ^ 30 = 1073741824 from rfl]
theorem getD_app (pre R : List Int) (k : Nat) (h : pre.length = k) : (pre ++ R).getD k 0 = R.getD 0 0 := by
  rw [List.getD_eq_getElem?_getD, List.getElem?_append_right (by omega), h, Nat.sub_self, List.getD_eq_getElem?_getD]
theorem set_app (pre R : List Int) (k : Nat) (c x : Int) (h : pre.length = k) : (pre ++ c :: R).set k x = pre ++ [x] ++ R := by
  rw [List.set_append_right _ _ (by omega), h, Nat.sub_self]
  simp
theorem cr_length (s o : Int) (C : List Int) : (cr s o C).1.length = C.length := by
  induction C generalizing o with
  | nil => rfl
  | cons c C ih => simp [cr, ih]
theorem cr_dg (s o : Int) (C : List Int) : Dg (cr s o C).1 := by
  induction C generalizing o with
  | nil => exact Dg.nil
  | cons c C ih => exact Dg.cons (by omega) (by omega) (ih _)
theorem cr_val (s o : Int) (C : List Int) : cv (cr s o C).1 + (cr s o C).2 * 2 ^ (30 * C.length) = o + s * cv C := by
  induction C generalizing o with
  | nil => simp [cr, cv]
  | cons c C ih =>
    have h := ih ((o + s * c) / 1073741824)
    simp only [cr, cv, List.length_cons]
    have e := pow30i C.length
    rw [e]
    generalize (2 : Int) ^ (30 * C.length) = p at *
    generalize (cr s ((o + s * c) / 1073741824) C).2 = q at *
    generalize cv (cr s ((o + s * c) / 1073741824) C).1 = r at *
    rw [show q * (1073741824 * p) = 1073741824 * (q * p) by rw [Int.mul_left_comm]]
    rw [show s * (c + 1073741824 * cv C) = s * c + 1073741824 * (s * cv C) by rw [Int.mul_add, Int.mul_left_comm]]
    generalize q * p = qp at *
    generalize s * cv C = z at *
    generalize s * c = y at *
    omega

theorem cv_set (C : List Int) (i : Nat) (hi : i < C.length) (d : Int) : cv (C.set i (C.getD i 0 + d)) = cv C + d * 2 ^ (30 * i) := by
  induction C generalizing i with
  | nil => simp at hi
  | cons c C ih =>
    cases i with
    | zero => simp [cv]; omega
    | succ i =>
      have e := pow30i i
      simp only [List.set_cons_succ, List.getD_cons_succ, cv]
      rw [ih i (by simpa using hi), e, Int.mul_left_comm]
      generalize d * 2 ^ (30 * i) = z
      omega
theorem layL_length (C : List Int) (f : Nat) (ds : List Int) : (layL C f ds).length = C.length := by
  induction ds generalizing C f with
  | nil => rfl
  | cons d ds ih => simp [layL, ih]
theorem layL_val (C : List Int) (f : Nat) (ds : List Int) (h : f + ds.length < C.length) : cv (layL C f ds) = cv C + 2 ^ (30 * f) * cv ds := by
  induction ds generalizing C f with
  | nil => simp [layL, cv]
  | cons d ds ih =>
    simp only [List.length_cons] at h
    rw [layL, ih _ _ (by simp; omega)]
    have e := pow30i f
    have h1 : (C.set f (C.getD f 0 + d % 1073741824)).getD (f + 1) 0 = C.getD (f + 1) 0 := by
      rw [getD_set _ _ _ _ (by omega), if_neg (by omega)]
    rw [← h1, cv_set _ (f + 1) (by simp; omega), cv_set _ f (by omega), e, cv]
    generalize (2 : Int) ^ (30 * f) = p
    have e2 : d % 1073741824 * p + d / 1073741824 * (1073741824 * p) = d * p := by
      rw [← Int.mul_assoc, ← Int.add_mul]
      congr 1
      omega
    rw [Int.mul_add, Int.mul_comm p d, Int.mul_assoc, Int.mul_left_comm p]
    omega
theorem layL_bound (C : List Int) (f : Nat) (ds : List Int) (b : Int) (hb : 0 ≤ b) (hlen : f + ds.length < C.length) (hd : ∀ d ∈ ds, -1152921504606846976 ≤ d ∧ d ≤ 1152921504606846975) (h1 : ∀ j, j < f → -(b + 2147483648) ≤ C.getD j 0 ∧ C.getD j 0 ≤ b + 2147483648) (h2 : -(b + 1073741824) ≤ C.getD f 0 ∧ C.getD f 0 ≤ b + 1073741824) (h3 : ∀ j, f < j → -b ≤ C.getD j 0 ∧ C.getD j 0 ≤ b) : ∀ j, -(b + 2147483648) ≤ (layL C f ds).getD j 0 ∧ (layL C f ds).getD j 0 ≤ b + 2147483648 := by
  induction ds generalizing C f with
  | nil =>
    intro j
    rw [layL]
    rcases Nat.lt_trichotomy j f with h | h | h
    · exact h1 j h
    · subst h; omega
    · have := h3 j h; omega
  | cons d ds ih =>
    simp only [List.length_cons] at hlen
    rw [layL]
    have hd0 := hd d (by simp)
    have g1 : ∀ j, ((C.set f (C.getD f 0 + d % 1073741824)).set (f + 1) (C.getD (f + 1) 0 + d / 1073741824)).getD j 0 = if f + 1 = j then C.getD (f + 1) 0 + d / 1073741824 else if f = j then C.getD f 0 + d % 1073741824 else C.getD j 0 := by
      intro j
      rw [getD_set _ _ _ _ (by simp; omega), getD_set _ _ _ _ (by omega)]
    apply ih _ _ (by simp; omega) (fun x hx => hd x (by simp [hx]))
    · intro j hj
      rw [g1, if_neg (by omega)]
      split
      · omega
      · exact h1 j (by omega)
    · rw [g1, if_pos rfl]
      have := h3 (f + 1) (by omega)
      omega
    · intro j hj
      rw [g1, if_neg (by omega), if_neg (by omega)]
      exact h3 j (by omega)
theorem layL_snoc (C : List Int) (f : Nat) (ds : List Int) (d : Int) : layL C f (ds ++ [d]) = ((layL C f ds).set (f + ds.length) ((layL C f ds).getD (f + ds.length) 0 + d % 1073741824)).set (f + ds.length + 1) ((layL C f ds).getD (f + ds.length + 1) 0 + d / 1073741824) := by
  induction ds generalizing C f with
  | nil => simp [layL]
  | cons e ds ih =>
    simp only [List.cons_append, layL, List.length_cons, ih]
    rw [show f + 1 + ds.length = f + (ds.length + 1) by omega]

/-! ### The walk of carry -/
end Go.Proofs.Ytedghjededicpaa

namespace Go.Proofs.Ytedghjededicpaa
open Go.ChangeShapes Go.WideShapes Go.ChangeAt Go.RowKit
set_option linter.unusedVariables false
set_option linter.unusedSimpArgs false

def sg (neg : Bool) (d : Int) : Int := if neg = true then -d else d
def dsh (neg : Bool) (s : Nat) (L : List Int) : List Int := L.map fun d => sg neg (d * 2 ^ s)
theorem dsh_length (neg : Bool) (s : Nat) (L : List Int) : (dsh neg s L).length = L.length := by simp [dsh]
theorem dsh_val (neg : Bool) (s : Nat) (L : List Int) (h : Dg L) : cv (dsh neg s L) = sg neg ((nv L : Int) * 2 ^ s) := by
  induction L with
  | nil => cases neg <;> simp [dsh, cv, nv, sg]
  | cons d L ih =>
    have hd := h.head
    have := ih h.tail
    simp only [dsh, List.map_cons, cv, nv] at this ⊢
    rw [this]
    cases neg
    · simp only [sg, Bool.false_eq_true, if_false, Int.natCast_add, Int.natCast_mul, Int.add_mul, Int.toNat_of_nonneg hd.1]
      rw [← Int.mul_assoc]
      rfl
    · simp only [sg, if_true, Int.natCast_add, Int.natCast_mul, Int.add_mul, Int.toNat_of_nonneg hd.1]
      rw [Int.mul_neg, ← Int.mul_assoc, Int.neg_add]
      rfl
theorem shl_bound (d : Int) (s : Nat) (h0 : 0 ≤ d) (h1 : d < 1073741824) (hs : s < 30) : 0 ≤ d * 2 ^ s ∧ d * 2 ^ s ≤ 576460752303423488 := by
  have h2 : (2 : Int) ^ s ≤ 2 ^ 29 := by
    have : 2 ^ s ≤ 2 ^ 29 := Nat.pow_le_pow_right (by decide) (by omega)
    have e : ((2 ^ s : Nat) : Int) ≤ ((2 ^ 29 : Nat) : Int) := by omega
    rw [Int.natCast_pow, Int.natCast_pow] at e
    exact e
  have h3 : (0 : Int) < 2 ^ s := Int.pow_pos (by decide)
  constructor
  · exact Int.mul_nonneg h0 (by omega)
  · have : d * 2 ^ s ≤ d * 2 ^ 29 := Int.mul_le_mul_of_nonneg_left h2 h0
    have e : (2 : Int) ^ 29 = 536870912 := rfl
    rw [e] at this
    omega
theorem dsh_bound (neg : Bool) (s : Nat) (hs : s < 30) (L : List Int) (h : Dg L) : ∀ d ∈ dsh neg s L, -1152921504606846976 ≤ d ∧ d ≤ 1152921504606846975 := by
  intro d hd
  simp only [dsh, List.mem_map] at hd
  obtain ⟨c, hc, rfl⟩ := hd
  have h1 := h c hc
  have := shl_bound c s h1.1 h1.2 hs
  cases neg <;> simp only [sg, Bool.false_eq_true, if_false, if_true] <;> omega
theorem dsh_take (neg : Bool) (s : Nat) (L : List Int) (k : Nat) (hk : k < L.length) : (dsh neg s L).take (k + 1) = (dsh neg s L).take k ++ [sg neg (L.getD k 0 * 2 ^ s)] := by
  have hk2 : k < (dsh neg s L).length := by rw [dsh_length]; exact hk
  rw [List.take_add_one, List.getElem?_eq_getElem hk2]
  congr 1
  simp [dsh, List.getD_eq_getElem?_getD, List.getElem?_eq_getElem hk]

end Go.Proofs.Ytedghjededicpaa

namespace Go.Proofs.Ytedghjededicpaa
open Go.ChangeShapes Go.WideShapes Go.ChangeAt Go.RowKit
set_option linter.unusedVariables false
set_option linter.unusedSimpArgs false

def ToldR (Res : Option Nm) (w0 w : World) (e : Ending) : Prop := match Res with | some r => ∃ v, e = .returned v ∧ New w0 w v r | none => e = .panicked gaveUp

/-! ### What two columns' sum tells -/
theorem nv_replicate (n : Nat) : cv (List.replicate n 0) = 0 := by
  induction n with
  | zero => rfl
  | succ n ih => simp [List.replicate_succ, cv, ih]
theorem pow_add_int (a b : Nat) : (2 : Int) ^ (a + b) = 2 ^ a * 2 ^ b := Int.pow_add 2 a b
theorem sg_mul (neg : Bool) (a b : Int) : b * sg neg a = sg neg (b * a) := by cases neg <;> simp [sg, Int.mul_neg]
theorem sg_abs (neg : Bool) (a B : Int) (h0 : 0 ≤ a) (h1 : a < B) : -B < sg neg a ∧ sg neg a < B := by cases neg <;> simp [sg] <;> omega

/-- The digits that carry leaves, once or twice: the sum's size. -/
theorem carried (C : List Int) (T : Int) (hT : cv C = T) (h1 : -(2 : Int) ^ (30 * C.length) < T) (h2 : T < (2 : Int) ^ (30 * C.length)) :
    (decide ((cr 1 0 C).2 < 0) = decide (T < 0)) ∧ (¬ T < 0 → nv (cr 1 0 C).1 = T.natAbs) ∧ (T < 0 → nv (cr (-1) 0 (cr 1 0 C).1).1 = T.natAbs) := by
  have a1 := cr_val 1 0 C
  have a2 := cr_dg 1 0 C
  have a3 := cr_length 1 0 C
  have a4 := nv_lt _ a2
  have b1 := cr_val (-1) 0 (cr 1 0 C).1
  have b2 := cr_dg (-1) 0 (cr 1 0 C).1
  have b3 := cr_length (-1) 0 (cr 1 0 C).1
  have b4 := nv_lt _ b2
  rw [cv_nv _ a2, hT] at a1
  rw [cv_nv _ b2, cv_nv _ a2] at b1
  rw [a3] at a4 b1 b3
  rw [b3] at b4
  generalize nv (cr 1 0 C).1 = D1 at *
  generalize nv (cr (-1) 0 (cr 1 0 C).1).1 = D2 at *
  generalize (cr 1 0 C).2 = o at *
  generalize (cr (-1) 0 (cr 1 0 C).1).2 = o2 at *
  have e : ((2 ^ (30 * C.length) : Nat) : Int) = (2 : Int) ^ (30 * C.length) := by rw [Int.natCast_pow]; rfl
  have a5 : (D1 : Int) < (2 : Int) ^ (30 * C.length) := by rw [← e]; omega
  have b5 : (D2 : Int) < (2 : Int) ^ (30 * C.length) := by rw [← e]; omega
  have hp : (0 : Int) < (2 : Int) ^ (30 * C.length) := Int.pow_pos (by decide)
  generalize (2 : Int) ^ (30 * C.length) = P at *
  clear e a4 b4
  have ho : ∀ k : Int, ((k ≤ -2 → k * P ≤ -2 * P) ∧ (1 ≤ k → P ≤ k * P)) := fun k => ⟨fun h => Int.mul_le_mul_of_nonneg_right h (by omega), fun h => by have := Int.mul_le_mul_of_nonneg_right h (show 0 ≤ P by omega); omega⟩
  have o1 := ho o
  have o3 := ho o2
  have hcase : o = 0 ∨ o = -1 := by
    rcases Int.lt_trichotomy o 0 with h | h | h
    · by_cases h' : o ≤ -2
      · have := o1.1 h'; omega
      · omega
    · exact .inl h
    · have := o1.2 (by omega); omega
  rcases hcase with rfl | rfl
  · refine ⟨by simp; omega, fun h => by omega, fun h => by omega⟩
  · have hcase2 : o2 = 0 ∨ o2 = -1 := by
      rcases Int.lt_trichotomy o2 0 with h | h | h
      · by_cases h' : o2 ≤ -2
        · have := o3.1 h'; omega
        · omega
      · exact .inl h
      · have := o3.2 (by omega); omega
    refine ⟨by simp; omega, fun h => by omega, fun h => ?_⟩
    rcases hcase2 with rfl | rfl <;> omega
end Go.Proofs.Ytedghjededicpaa

namespace Go.Proofs.Ytedghjededicpaa
open Go.ChangeShapes Go.WideShapes Go.ChangeAt Go.RowKit
set_option linter.unusedVariables false
set_option linter.unusedSimpArgs false

def ToldG (g cap : Nat) (Res : Option Nm) (w0 w : World) (e : Ending) : Prop := match Res with | some r => ∃ v, e = .returned v ∧ NewG g cap w0 w v r | none => e = .panicked gaveUp
theorem num_doneg {w u0 z : World} {g cap : Nat} {v : Value} {r : Nm} (hN : NewG g cap u0 z v r) (hne : g ≠ w.heap.size) (hu : u0.heap.size ≤ w.heap.size) (hk : Kept u0 z) (a b c : Value) : New u0 (((z.setCell ⟨w.heap.size, 0, none⟩ a).setCell ⟨w.heap.size, 1, none⟩ b).setCell ⟨w.heap.size, 2, none⟩ c) v r ∧ Kept u0 (((z.setCell ⟨w.heap.size, 0, none⟩ a).setCell ⟨w.heap.size, 1, none⟩ b).setCell ⟨w.heap.size, 2, none⟩ c) := by
  constructor
  · rcases hN with h | ⟨e, hg, ho, hne2⟩
    · exact .inl h
    · exact .inr ⟨g, cap, e, hg, ((ho.setOther (by simpa using hne) _).setOther (by simpa using hne) _).setOther (by simpa using hne) _, hne2⟩
  · exact hk.setCell hu _ |>.setCell hu _ |>.setCell hu _

end Go.Proofs.Ytedghjededicpaa
