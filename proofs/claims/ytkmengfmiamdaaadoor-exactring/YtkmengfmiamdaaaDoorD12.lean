/- Columns of digits with either sign: what lay and carry of package exact do to them; Int. -/
import Derived.Test.YtkmengfmiamdaaaDoorD8
namespace Go.Proofs.YtkmengfmiamdaaaDoor
open Go.ChangeShapes Go.WideShapes Go.ChangeAt Go.RowKit
set_option linter.unusedVariables false
set_option linter.unusedSimpArgs false

/-! ### Plain: columns -/
def cv : List Int → Int
  | [] => 0
  | c :: l => c + 1073741824 * cv l
theorem cv_nv (L : List Int) (h : Dg L) : cv L = (nv L : Int) := by
  induction L with
  | nil => rfl
  | cons d L ih =>
    have := h.head
    simp only [cv, nv, ih h.tail]
    omega
def cr (s : Int) : Int → List Int → List Int × Int
  | o, [] => ([], o)
  | o, c :: C => (((o + s * c) % 1073741824) :: (cr s ((o + s * c) / 1073741824) C).1, (cr s ((o + s * c) / 1073741824) C).2)
def layL : List Int → Nat → List Int → List Int
  | C, _, [] => C
  | C, f, d :: ds => layL ((C.set f (C.getD f 0 + d % 1073741824)).set (f + 1) (C.getD (f + 1) 0 + d / 1073741824)) (f + 1) ds

theorem pow30i (i : Nat) : (2 : Int) ^ (30 * (i + 1)) = 1073741824 * 2 ^ (30 * i) := by
  rw [show 30 * (i + 1) = 30 * i + 30 by omega, Int.pow_add, Int.mul_comm, show (2 : Int) ^ 30 = 1073741824 from rfl]
theorem getD_app (pre R : List Int) (k : Nat) (h : pre.length = k) : (pre ++ R).getD k 0 = R.getD 0 0 := by
  rw [List.getD_eq_getElem?_getD, List.getElem?_append_right (by omega), h, Nat.sub_self, List.getD_eq_getElem?_getD]
theorem set_app (pre R : List Int) (k : Nat) (c x : Int) (h : pre.length = k) : (pre ++ c :: R).set k x = pre ++ [x] ++ R := by
  rw [List.set_append_right _ _ (by omega), h, Nat.sub_self]
  simp
theorem cr_length (s o : Int) (C : List Int) : (cr s o C).1.length = C.length := by
  induction C generalizing o with
  | nil => rfl
  | cons c C ih => simp [cr, ih]
theorem cr_dg (s o : Int) (C : List Int) : Dg (cr s o C).1 := by
  induction C generalizing o with
  | nil => exact Dg.nil
  | cons c C ih => exact Dg.cons (by omega) (by omega) (ih _)
theorem cr_val (s o : Int) (C : List Int) : cv (cr s o C).1 + (cr s o C).2 * 2 ^ (30 * C.length) = o + s * cv C := by
  induction C generalizing o with
  | nil => simp [cr, cv]
  | cons c C ih =>
    have h := ih ((o + s * c) / 1073741824)
    simp only [cr, cv, List.length_cons]
    have e := pow30i C.length
    rw [e]
    generalize (2 : Int) ^ (30 * C.length) = p at *
    generalize (cr s ((o + s * c) / 1073741824) C).2 = q at *
    generalize cv (cr s ((o + s * c) / 1073741824) C).1 = r at *
    rw [show q * (1073741824 * p) = 1073741824 * (q * p) by rw [Int.mul_left_comm]]
    rw [show s * (c + 1073741824 * cv C) = s * c + 1073741824 * (s * cv C) by rw [Int.mul_add, Int.mul_left_comm]]
    generalize q * p = qp at *
    generalize s * cv C = z at *
    generalize s * c = y at *
    omega

theorem cv_set (C : List Int) (i : Nat) (hi : i < C.length) (d : Int) : cv (C.set i (C.getD i 0 + d)) = cv C + d * 2 ^ (30 * i) := by
  induction C generalizing i with
  | nil => simp at hi
  | cons c C ih =>
    cases i with
    | zero => simp [cv]; omega
    | succ i =>
      have e := pow30i i
      simp only [List.set_cons_succ, List.getD_cons_succ, cv]
      rw [ih i (by simpa using hi), e, Int.mul_left_comm]
      generalize d * 2 ^ (30 * i) = z
      omega
theorem layL_length (C : List Int) (f : Nat) (ds : List Int) : (layL C f ds).length = C.length := by
  induction ds generalizing C f with
  | nil => rfl
  | cons d ds ih => simp [layL, ih]
theorem layL_val (C : List Int) (f : Nat) (ds : List Int) (h : f + ds.length < C.length) : cv (layL C f ds) = cv C + 2 ^ (30 * f) * cv ds := by
  induction ds generalizing C f with
  | nil => simp [layL, cv]
  | cons d ds ih =>
    simp only [List.length_cons] at h
    rw [layL, ih _ _ (by simp; omega)]
    have e := pow30i f
    have h1 : (C.set f (C.getD f 0 + d % 1073741824)).getD (f + 1) 0 = C.getD (f + 1) 0 := by
      rw [getD_set _ _ _ _ (by omega), if_neg (by omega)]
    rw [← h1, cv_set _ (f + 1) (by simp; omega), cv_set _ f (by omega), e, cv]
    generalize (2 : Int) ^ (30 * f) = p
    have e2 : d % 1073741824 * p + d / 1073741824 * (1073741824 * p) = d * p := by
      rw [← Int.mul_assoc, ← Int.add_mul]
      congr 1
      omega
    rw [Int.mul_add, Int.mul_comm p d, Int.mul_assoc, Int.mul_left_comm p]
    omega
theorem layL_bound (C : List Int) (f : Nat) (ds : List Int) (b : Int) (hb : 0 ≤ b) (hlen : f + ds.length < C.length) (hd : ∀ d ∈ ds, -1152921504606846976 ≤ d ∧ d ≤ 1152921504606846975) (h1 : ∀ j, j < f → -(b + 2147483648) ≤ C.getD j 0 ∧ C.getD j 0 ≤ b + 2147483648) (h2 : -(b + 1073741824) ≤ C.getD f 0 ∧ C.getD f 0 ≤ b + 1073741824) (h3 : ∀ j, f < j → -b ≤ C.getD j 0 ∧ C.getD j 0 ≤ b) : ∀ j, -(b + 2147483648) ≤ (layL C f ds).getD j 0 ∧ (layL C f ds).getD j 0 ≤ b + 2147483648 := by
  induction ds generalizing C f with
  | nil =>
    intro j
    rw [layL]
    rcases Nat.lt_trichotomy j f with h | h | h
    · exact h1 j h
    · subst h; omega
    · have := h3 j h; omega
  | cons d ds ih =>
    simp only [List.length_cons] at hlen
    rw [layL]
    have hd0 := hd d (by simp)
    have g1 : ∀ j, ((C.set f (C.getD f 0 + d % 1073741824)).set (f + 1) (C.getD (f + 1) 0 + d / 1073741824)).getD j 0 = if f + 1 = j then C.getD (f + 1) 0 + d / 1073741824 else if f = j then C.getD f 0 + d % 1073741824 else C.getD j 0 := by
      intro j
      rw [getD_set _ _ _ _ (by simp; omega), getD_set _ _ _ _ (by omega)]
    apply ih _ _ (by simp; omega) (fun x hx => hd x (by simp [hx]))
    · intro j hj
      rw [g1, if_neg (by omega)]
      split
      · omega
      · exact h1 j (by omega)
    · rw [g1, if_pos rfl]
      have := h3 (f + 1) (by omega)
      omega
    · intro j hj
      rw [g1, if_neg (by omega), if_neg (by omega)]
      exact h3 j (by omega)
theorem layL_snoc (C : List Int) (f : Nat) (ds : List Int) (d : Int) : layL C f (ds ++ [d]) = ((layL C f ds).set (f + ds.length) ((layL C f ds).getD (f + ds.length) 0 + d % 1073741824)).set (f + ds.length + 1) ((layL C f ds).getD (f + ds.length + 1) 0 + d / 1073741824) := by
  induction ds generalizing C f with
  | nil => simp [layL]
  | cons e ds ih =>
    simp only [List.cons_append, layL, List.length_cons, ih]
    rw [show f + 1 + ds.length = f + (ds.length + 1) by omega]

/-! ### The walk of carry -/
set_option maxHeartbeats 1000000 in
theorem carry_any (C : List Int) (s : Int) (hs : s = 1 ∨ s = -1) (g cap : Nat) (hlen : C.length < 100000000) (hb : ∀ j, -9223372036854775807 ≤ C.getD j 0 ∧ C.getD j 0 ≤ 9223372036854775807) (w : World) (h : Own w g cap C) : Calls Tryd.prog 99 #[.slice (some ⟨g, 0, none⟩) C.length cap, .int .i64 s] w fun e w' => e = .returned (.bool (decide ((cr s 0 C).2 < 0))) ∧ Own w' g cap (cr s 0 C).1 ∧ Grw g w w' := by
  obtain ⟨n, hn⟩ : ∃ n, n = C.length := ⟨_, rfl⟩
  have HN : Hid (n = C.length) := hn
  have HB : Hid (∀ j, -9223372036854775807 ≤ C.getD j 0 ∧ C.getD j 0 ≤ 9223372036854775807) := hb
  have HO : Hid (Own w g cap C) := h
  have hcap : n ≤ cap := by obtain ⟨_, _, h1, _⟩ := h; omega
  rw [← hn] at hlen ⊢
  obtain ⟨D, o', hD⟩ : ∃ D o', cr s 0 C = (D, o') := ⟨_, _, rfl⟩
  rw [hD]
  have HD : Hid (cr s 0 C = (D, o')) := hD
  clear h hb hD hn
  go_enter Tryd.func99, Tryd.ntmps99
  go_wp2
  go_loopw [5, 10] (fun ov i wr => ∃ (k : Nat) (pre : List Int) (o : Int), k ≤ n ∧ i = .int .i64 k ∧ ov = .int .i64 o ∧ pre.length = k ∧ -17179869184 ≤ o ∧ o ≤ 17179869184 ∧ Own wr g cap (pre ++ C.drop k) ∧ (D, o') = (pre ++ (cr s o (C.drop k)).1, (cr s o (C.drop k)).2) ∧ Grw g w wr) (fun _ i _ => n - (intOf i).toNat)
  case atStart => exact ⟨0, [], 0, Nat.zero_le _, rfl, rfl, rfl, by omega, by omega, by simpa using HO.out, by rw [← HD.out]; simp, Grw.refl _ _⟩
  case round =>
    obtain ⟨k, pre, o, hk, rfl, rfl, hpre, ho1, ho2, hO, hrun, hG⟩ := hrel
    have HO2 : Hid (Own wr g cap (pre ++ C.drop k)) := hO
    have HR : Hid ((D, o') = (pre ++ (cr s o (C.drop k)).1, (cr s o (C.drop k)).2)) := hrun
    have HG : Hid (Grw g w wr) := hG
    by_cases hkn : k < n
    · have hkC : k < C.length := by have := HN.out; omega
      have hdrop : C.drop k = C.getD k 0 :: C.drop (k + 1) := by
        rw [List.drop_eq_getElem_cons hkC, List.getD_eq_getElem?_getD, List.getElem?_eq_getElem hkC]
        rfl
      have hcell : wr.cell? ⟨g, k, none⟩ = some (.int .i64 (C.getD k 0)) := by
        have := hO.cell k (by rw [List.length_append, List.length_drop]; omega)
        rw [getD_app _ _ _ hpre, hdrop] at this
        simpa using this
      have hfree := hO.free k
      have hbk := HB.out k
      have HDr : Hid (C.drop k = C.getD k 0 :: C.drop (k + 1)) := hdrop
      clear hO hrun hG hdrop
      generalize C.getD k 0 = c at *
      have HP : Hid (pre.length = k) := hpre
      clear hpre
      obtain ⟨y, hy⟩ : ∃ y, y = s * c := ⟨_, rfl⟩
      have hy1 : -9223372036854775807 ≤ y ∧ y ≤ 9223372036854775807 := by rcases hs with rfl | rfl <;> omega
      have hw1 : IntKind.i64.wrap (s * c) = y := by
        rw [wrap_i64]; rcases hs with rfl | rfl <;> omega
      have hw2 : wrap64 (s * c) = y := by
        unfold wrap64; rcases hs with rfl | rfl <;> omega
      have hm := mask30 y
      have hm2 := mask30 (o + y % 1073741824)
      have hw3 : IntKind.i64.wrap (o + y % 1073741824) = o + y % 1073741824 := by rw [wrap_i64]; omega
      have hw4 : wrap64 (o + y % 1073741824) = o + y % 1073741824 := by unfold wrap64; omega
      have hw5 : IntKind.i64.wrap ((o + y % 1073741824) / 1073741824 + y / 1073741824) = (o + y % 1073741824) / 1073741824 + y / 1073741824 := by rw [wrap_i64]; omega
      have hw6 : wrap64 ((o + y % 1073741824) / 1073741824 + y / 1073741824) = (o + y % 1073741824) / 1073741824 + y / 1073741824 := by unfold wrap64; omega
      have Hy : Hid (y = s * c) := hy
      clear hy
      go_wp2
      go_roundw
      case rel =>
        refine ⟨k + 1, pre ++ [(o + y) % 1073741824], (o + y % 1073741824) / 1073741824 + y / 1073741824, by omega, by go_num, rfl, by simp [HP.out], by omega, by omega, ?_, ?_, HG.out.setCell _ _⟩
        · have := HO2.out.set k ((o + y) % 1073741824)
          rw [HDr.out, set_app _ _ _ _ _ HP.out] at this
          exact this
        · rw [HR.out, HDr.out, cr, ← Hy.out, show (o + y % 1073741824) / 1073741824 + y / 1073741824 = (o + y) / 1073741824 by omega]
          simp
      case measure => simp [intOf]; omega
    · obtain rfl : k = n := by omega
      have hlast : C.drop k = [] := by rw [HN.out]; simp
      rw [hlast] at hrun hO
      simp only [cr, List.append_nil, Prod.mk.injEq] at hrun hO
      obtain ⟨rfl, rfl⟩ := hrun
      clear HR HO2
      go_wp2
      go_ret
      exact ⟨rfl, hO, hG⟩
end Go.Proofs.YtkmengfmiamdaaaDoor
