/- Neighbours and places: what the laws BitsNext and BitsChain turn on, as plain arithmetic. -/
import Derived.Test.YtebjkfecijeehabMinMax
import Derived.Test.YtebjkfecijeehabWiden2
namespace Go.Proofs.Ytebjkfecijeehab
open Go.ChangeShapes Go.WideShapes Go.ChangeAt Go.RowKit

theorem num_64 (b : Int) : isnum b 64 = true ↔ b % 9223372036854775808 ≤ 9218868437227405312 := by
  rw [isnum_64, decide_eq_true_eq, ne_eq]
  unfold cls clsOf
  rw [if_pos rfl]
  (repeat' split) <;> omega

theorem num_32 (b : Int) : isnum b 32 = true ↔ (0 ≤ b ∧ b < 4294967296) ∧ b % 2147483648 ≤ 2139095040 := by
  rw [isnum_32, decide_eq_true_eq, ne_eq]
  unfold cls clsOf
  rw [if_neg (by decide), if_pos rfl]
  (repeat' split) <;> omega

theorem nxt_64 (b : Int) (h : isnum b 64 = true) : nxt b 64 = if b = 9218868437227405312 then b else if b = -9223372036854775808 then 1 else if b < 0 then b - 1 else b + 1 := by
  unfold nxt
  rw [if_pos h, if_pos rfl]
theorem nxt_32 (b : Int) (h : isnum b 32 = true) : nxt b 32 = if b = 2139095040 then b else if b = 2147483648 then 1 else if 2147483648 ≤ b then b - 1 else b + 1 := by
  unfold nxt
  rw [if_pos h, if_neg (by decide)]
theorem ngt_64 (b : Int) (h : isnum b 64 = true) : ngt b 64 = if b < 0 then b + 9223372036854775808 else b - 9223372036854775808 := by
  unfold ngt
  rw [if_pos h, if_pos rfl]
theorem ngt_32 (b : Int) (h : isnum b 32 = true) : ngt b 32 = if b < 2147483648 then b + 2147483648 else b - 2147483648 := by
  unfold ngt
  rw [if_pos h, if_neg (by decide)]
theorem plc_64 (b : Int) (h : isnum b 64 = true) : plc b 64 = if b < 0 then -1 - b % 9223372036854775808 else b := by
  unfold plc
  rw [if_pos h, if_pos rfl]
theorem plc_32 (b : Int) (h : isnum b 32 = true) : plc b 32 = if 2147483648 ≤ b then -1 - b % 2147483648 else b := by
  unfold plc
  rw [if_pos h, if_neg (by decide)]
theorem keyOf_64 (b : Int) : keyOf b 64 = if b < 0 then -(b % 9223372036854775808) else b := by
  unfold keyOf
  rw [if_pos rfl]
theorem keyOf_32 (b : Int) : keyOf b 32 = if 2147483648 ≤ b then -(b % 2147483648) else b := by
  unfold keyOf
  rw [if_neg (by decide)]

/-- The next one of a number that isn't infinity: a number, one place on by value, further on in the order of all. -/
theorem nxt_step (b n : Int) (hb1 : -9223372036854775808 ≤ b) (hb2 : b ≤ 9223372036854775807) (hn : n = 64 ∨ n = 32) (h : isnum b n = true) (hi : b ≠ (if n = 64 then 9218868437227405312 else 2139095040)) :
    isnum (nxt b n) n = true ∧ keyOf (nxt b n) n = keyOf b n + 1 ∧ plc b n < plc (nxt b n) n ∧ nxt b n ≠ (if n = 64 then -4503599627370496 else 4286578688) := by
  rcases hn with rfl | rfl
  · rw [if_pos rfl] at hi
    have h' := (num_64 b).1 h
    have e := nxt_64 b h
    rw [if_pos rfl]
    have hN : isnum (nxt b 64) 64 = true := by
      rw [num_64, e]
      (repeat' split) <;> omega
    refine ⟨hN, ?_, ?_, ?_⟩
    · rw [keyOf_64, keyOf_64, e]
      (repeat' split) <;> omega
    · rw [plc_64 b h, plc_64 _ hN, e]
      (repeat' split) <;> omega
    · rw [e]
      (repeat' split) <;> omega
  · rw [if_neg (by decide)] at hi
    have h' := (num_32 b).1 h
    have e := nxt_32 b h
    rw [if_neg (by decide)]
    have hN : isnum (nxt b 32) 32 = true := by
      rw [num_32, e]
      (repeat' split) <;> omega
    refine ⟨hN, ?_, ?_, ?_⟩
    · rw [keyOf_32, keyOf_32, e]
      (repeat' split) <;> omega
    · rw [plc_32 b h, plc_32 _ hN, e]
      (repeat' split) <;> omega
    · rw [e]
      (repeat' split) <;> omega

theorem ngt_step (b n : Int) (hb1 : -9223372036854775808 ≤ b) (hb2 : b ≤ 9223372036854775807) (hn : n = 64 ∨ n = 32) (h : isnum b n = true) :
    isnum (ngt b n) n = true ∧ keyOf (ngt b n) n = -keyOf b n ∧ (b ≠ (if n = 64 then -4503599627370496 else 4286578688) → ngt b n ≠ (if n = 64 then 9218868437227405312 else 2139095040)) := by
  rcases hn with rfl | rfl
  · have h' := (num_64 b).1 h
    have e := ngt_64 b h
    rw [if_pos rfl, if_pos rfl]
    have hN : isnum (ngt b 64) 64 = true := by
      rw [num_64, e]
      split <;> omega
    refine ⟨hN, ?_, ?_⟩
    · rw [keyOf_64, keyOf_64, e]
      (repeat' split) <;> omega
    · rw [e]
      split <;> omega
  · have h' := (num_32 b).1 h
    have e := ngt_32 b h
    rw [if_neg (by decide), if_neg (by decide)]
    have hN : isnum (ngt b 32) 32 = true := by
      rw [num_32, e]
      split <;> omega
    refine ⟨hN, ?_, ?_⟩
    · rw [keyOf_32, keyOf_32, e]
      (repeat' split) <;> omega
    · rw [e]
      split <;> omega

theorem prv_step (b n : Int) (hb1 : -9223372036854775808 ≤ b) (hb2 : b ≤ 9223372036854775807) (hn : n = 64 ∨ n = 32) (h : isnum b n = true) (hi : b ≠ (if n = 64 then -4503599627370496 else 4286578688)) :
    isnum (prv b n) n = true ∧ keyOf (prv b n) n = keyOf b n - 1 := by
  have q1 := ngt_bd b n hb1 hb2
  have q2 := nxt_bd (ngt b n) n q1.1 q1.2
  obtain ⟨i1, k1, g1⟩ := ngt_step b n hb1 hb2 hn h
  obtain ⟨i2, k2, -, -⟩ := nxt_step (ngt b n) n q1.1 q1.2 hn i1 (g1 hi)
  obtain ⟨i3, k3, -⟩ := ngt_step (nxt (ngt b n) n) n q2.1 q2.2 hn i2
  unfold prv
  exact ⟨i3, by omega⟩

theorem inf_class (b n : Int) (hb1 : -9223372036854775808 ≤ b) (hb2 : b ≤ 9223372036854775807) (hn : n = 64 ∨ n = 32) (h : isnum b n = true) : (cls b n = 3 ∧ lss b 0 n = false) ↔ b = (if n = 64 then 9218868437227405312 else 2139095040) := by
  have h0 : isnum 0 n = true := by rcases hn with rfl | rfl <;> decide +kernel
  have hl : lss b 0 n = decide (keyOf b n < keyOf 0 n) := by unfold lss; rw [h, h0, Bool.true_and, Bool.true_and]
  rw [hl, decide_eq_false_iff_not]
  rcases hn with rfl | rfl
  · have h' := (num_64 b).1 h
    rw [if_pos rfl, keyOf_64, keyOf_64]
    unfold cls clsOf
    rw [if_pos rfl]
    (repeat' split) <;> omega
  · have h' := (num_32 b).1 h
    rw [if_neg (by decide), keyOf_32, keyOf_32]
    unfold cls clsOf
    rw [if_neg (by decide), if_pos rfl, if_pos h'.1]
    (repeat' split) <;> omega

theorem nxt_inf (n : Int) (hn : n = 64 ∨ n = 32) (b : Int) (h : b = (if n = 64 then 9218868437227405312 else 2139095040)) : nxt b n = b := by
  subst h
  rcases hn with rfl | rfl <;> decide +kernel

/-- All that BitsNext asks of a number that isn't infinity. -/
theorem next_law (b c n : Int) (hb1 : -9223372036854775808 ≤ b) (hb2 : b ≤ 9223372036854775807) (hn : n = 64 ∨ n = 32) (h : isnum b n = true) (hi : b ≠ (if n = 64 then 9218868437227405312 else 2139095040)) :
    lss b (nxt b n) n = true ∧ sam (prv (nxt b n) n) b n = true ∧ (lss b c n && lss c (nxt b n) n) = false ∧ ord b (nxt b n) n = -1 := by
  have q := nxt_bd b n hb1 hb2
  obtain ⟨i1, k1, p1, g1⟩ := nxt_step b n hb1 hb2 hn h hi
  obtain ⟨i2, k2⟩ := prv_step (nxt b n) n q.1 q.2 hn i1 g1
  refine ⟨?_, ?_, ?_, ?_⟩
  · unfold lss; rw [h, i1, Bool.true_and, Bool.true_and]; exact decide_eq_true (by omega)
  · unfold sam; rw [h, i2, Bool.true_and, Bool.true_and]; exact decide_eq_true (by omega)
  · unfold lss
    rw [h, i1]
    cases isnum c n
    · rfl
    · simp only [Bool.true_and, Bool.and_eq_false_iff, decide_eq_false_iff_not]
      omega
  · unfold ord cmpI; rw [if_pos p1]

theorem cls_nan (n : Int) (hn : n = 64 ∨ n = 32) : cls (nanOf n) n = 4 := by
  rcases hn with rfl | rfl <;> decide +kernel

end Go.Proofs.Ytebjkfecijeehab
