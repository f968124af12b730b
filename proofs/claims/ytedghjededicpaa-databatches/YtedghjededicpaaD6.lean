/- The walks of exact's allValid, fit, digitsOf, trailing. A row of digits of the call's own; the walk of exact's form. What exact's form gives: the one form of a number, or it gives up. -/
import Derived.Test.YtedghjededicpaaD3
import Derived.Test.YtedghjededicpaaJoinB
namespace Go.Proofs.Ytedghjededicpaa
open Go.ChangeShapes Go.WideShapes Go.ChangeAt Go.RowKit
set_option linter.unusedVariables false

def gaveUp : List PanicEntry := [{ v := .iface 9 (.string { data := #[97, 32, 110, 117, 109, 98, 101, 114, 32, 116, 111, 111, 32, 108, 111, 110, 103] }), recovered := false }]

theorem u64_mask30 (n : Int) (h0 : 0 ≤ n) (h1 : n ≤ 18446744073709551615) : bits .and .u64 n 1073741823 = n % 1073741824 := by
  rw [u64_and n 1073741823 h0 (by omega) (by omega) (by omega), show (1073741823 : Int).toNat = 2 ^ 30 - 1 by rfl, Nat.and_two_pow_sub_one_eq_mod]
  omega

/-! ### The noughts below the lowest bit -/
theorem tzn_digit (L : List Int) (h : Dg L) (i : Nat) (hz : ∀ j, j < i → L.getD j 0 = 0) (hi : L.getD i 0 ≠ 0) : tzn (nv L) = 30 * i + Lib.ctz 64 (L.getD i 0).toNat := by
  induction i generalizing L with
  | zero =>
    have hd := h.getD 0
    obtain ⟨a1, a2, a3, a4⟩ := odd_part (L.getD 0 0).toNat (by omega) (by omega)
    have h1 := nv_getD L h 0
    rw [Nat.mul_zero, Nat.pow_zero, Nat.div_one] at h1
    generalize Lib.ctz 64 (L.getD 0 0).toNat = k at *
    generalize (L.getD 0 0).toNat / 2 ^ k = o at *
    generalize (L.getD 0 0).toNat = d at *
    have hk30 : k < 30 := by
      by_cases hk : k < 30
      · exact hk
      · have : 2 ^ 30 ≤ 2 ^ k := Nat.pow_le_pow_right (by decide) (by omega)
        have : 1 * 2 ^ 30 ≤ o * 2 ^ k := Nat.mul_le_mul (by omega) this
        omega
    have e : nv L = (o + 2 ^ (30 - k) * (nv L / 1073741824)) * 2 ^ k := by
      rw [Nat.add_mul, ← a2, Nat.mul_right_comm, ← Nat.pow_add, show 30 - k + k = 30 by omega]
      omega
    rw [e, tzn_mul]
    · omega
    · obtain ⟨m, hm⟩ : ∃ m, 30 - k = m + 1 := ⟨30 - k - 1, by omega⟩
      rw [hm, Nat.pow_succ, Nat.mul_right_comm, Nat.add_mul_mod_self_right]
      exact a3
  | succ i ih =>
    cases L with
    | nil => simp at hi
    | cons d L =>
      have h0 := hz 0 (by omega)
      simp at h0
      subst h0
      have := ih L h.tail (fun j hj => by have := hz (j + 1) (by omega); simpa using this) (by simpa using hi)
      have hne : nv L ≠ 0 := fun h0 => by
        have := (nv_zero L h.tail).1 h0 i
        simp at hi
        simp at this
        exact hi this
      obtain ⟨o, ho, e⟩ := tzn_spec _ hne
      rw [show nv (0 :: L) = o * 2 ^ (30 + tzn (nv L)) by
        rw [nv, Nat.pow_add, ← Nat.mul_assoc, Nat.mul_comm o, Nat.mul_assoc, ← e]; simp, tzn_mul _ _ ho, this]
      simp
      omega

end Go.Proofs.Ytedghjededicpaa

namespace Go.Proofs.Ytedghjededicpaa
open Go.ChangeShapes Go.WideShapes Go.ChangeAt Go.RowKit
set_option linter.unusedVariables false

def Own (w : World) (g cap : Nat) (L : List Int) : Prop := ∃ cur, w.heap[g]? = some (.cells cur 3 (0, 0)) ∧ L.length ≤ cap ∧ cap ≤ maxLen ∧ cur.size = cap ∧ cur.toList.take L.length = L.map (Value.int .i64)
structure Grw (g : Nat) (w w' : World) : Prop where
  grown : w.grownBy w' (some g)
  frozen : ∀ a, w'.frozen? a = w.frozen? a

theorem Grw.refl (g : Nat) (w : World) : Grw g w w := ⟨World.grownBy.refl _ _, fun _ => rfl⟩
theorem Grw.trans {g : Nat} {a b c : World} (h : Grw g a b) (k : Grw g b c) : Grw g a c :=
  ⟨⟨k.grown.os.trans h.grown.os, k.grown.tape.trans h.grown.tape, k.grown.output.trans h.grown.output, Nat.le_trans h.grown.size k.grown.size, fun i hi hne => (k.grown.block i (Nat.lt_of_lt_of_le hi h.grown.size) hne).trans (h.grown.block i hi hne)⟩, fun x => (k.frozen x).trans (h.frozen x)⟩
theorem Kept.toGrw {a b : World} (g : Nat) (h : Kept a b) : Grw g a b := ⟨⟨h.below.os, h.below.tape, h.below.output, h.below.size, fun i hi _ => h.below.block i hi⟩, h.frozen⟩
theorem Kept.grw {a b c : World} {g : Nat} (h : Kept a b) (hg : a.heap.size ≤ g) (k : Grw g b c) : Kept a c :=
  ⟨h.below.grown k.grown h.below.size (fun i e => by cases e; exact hg), fun x => (k.frozen x).trans (h.frozen x)⟩
theorem Grw.setCell {g : Nat} {a b : World} (h : Grw g a b) (j : Nat) (u : Value) : Grw g a (b.setCell ⟨g, j, none⟩ u) :=
  ⟨⟨h.grown.os, h.grown.tape, h.grown.output, by simpa using h.grown.size, fun i hi hne => (Below.heap_setCell b ⟨g, j, none⟩ u i (fun e => hne (by rw [e]))).trans (h.grown.block i hi hne)⟩, fun x => (World.frozen?_setCell _ _ _ _).trans (h.frozen x)⟩

theorem Own.lt {w : World} {g cap : Nat} {L : List Int} (h : Own w g cap L) : g < w.heap.size := by
  obtain ⟨cur, hg, -⟩ := h
  exact lt_of_block hg
theorem Own.kept {w w' : World} {g cap : Nat} {L : List Int} (h : Own w g cap L) (k : Kept w w') : Own w' g cap L := by
  have hl := h.lt
  obtain ⟨cur, hg, r⟩ := h
  exact ⟨cur, (k.below.block g hl).trans hg, r⟩
theorem Own.grw {w w' : World} {g g' cap : Nat} {L : List Int} (h : Own w g cap L) (k : Grw g' w w') (hne : g ≠ g') : Own w' g cap L := by
  have hl := h.lt
  obtain ⟨cur, hg, r⟩ := h
  exact ⟨cur, (k.grown.block g hl (by simpa using hne)).trans hg, r⟩
theorem Own.cell {w : World} {g cap : Nat} {L : List Int} (h : Own w g cap L) (i : Nat) (hi : i < L.length) : w.cell? ⟨g, i, none⟩ = some (.int .i64 (L.getD i 0)) := by
  obtain ⟨cur, hg, h1, h2, h3, h4⟩ := h
  rw [cell_of_row w g i cur 3 (0, 0) hg]
  have : (cur.toList.take L.length)[i]? = (L.map (Value.int .i64))[i]? := by rw [h4]
  rw [List.getElem?_take, if_pos hi, List.getElem?_map, List.getElem?_eq_getElem hi] at this
  rw [List.getD_eq_getElem?_getD, List.getElem?_eq_getElem hi]
  simpa using this
theorem Own.reads {w : World} {g cap : Nat} {L : List Int} (h : Own w g cap L) : Reads w g 0 L := fun i hi => by rw [Nat.zero_add]; exact h.cell i hi
theorem Own.free {w : World} {g cap : Nat} {L : List Int} (h : Own w g cap L) (i : Nat) : w.frozen? ⟨g, i, none⟩ = false := by
  obtain ⟨cur, hg, -⟩ := h
  exact frozen_of_row w g i cur 3 hg
theorem Own.set {w : World} {g cap : Nat} {L : List Int} (h : Own w g cap L) (i : Nat) (d : Int) : Own (w.setCell ⟨g, i, none⟩ (.int .i64 d)) g cap (L.set i d) := by
  obtain ⟨cur, hg, h1, h2, h3, h4⟩ := h
  refine ⟨cur.setIfInBounds i (.int .i64 d), heap_setCell_same w g i cur 3 _ hg, by simpa using h1, h2, by simpa using h3, ?_⟩
  rw [Array.toList_setIfInBounds, List.length_set, List.take_set, h4, List.map_set]
theorem Own.take {w : World} {g cap : Nat} {L : List Int} (h : Own w g cap L) (n : Nat) (hn : n ≤ L.length) : Own w g cap (L.take n) := by
  obtain ⟨cur, hg, h1, h2, h3, h4⟩ := h
  refine ⟨cur, hg, by simp; omega, h2, h3, ?_⟩
  rw [List.length_take, Nat.min_eq_left hn, List.map_take, ← h4, List.take_take, Nat.min_eq_left hn]
theorem Own.sl {w : World} {g cap : Nat} {L : List Int} (h : Own w g cap L) : Sl w (.slice (some ⟨g, 0, none⟩) L.length cap) L := by
  have hr := h.reads
  have hl := h.lt
  obtain ⟨cur, hg, h1, h2, h3, h4⟩ := h
  exact ⟨_, _, rfl, h1, h2, fun _ => ⟨g, 0, rfl, hl, hr⟩⟩
theorem Own.slTake {w : World} {g cap : Nat} {L : List Int} (h : Own w g cap L) (n : Nat) (hn : n ≤ L.length) : Sl w (.slice (some ⟨g, 0, none⟩) n cap) (L.take n) := by
  have := (h.take n hn).sl
  rw [List.length_take, Nat.min_eq_left hn] at this
  exact this

abbrev zeroNum : Value := .agg #[.bool false, .slice none 0 0, .int .i64 0]

theorem Grw.setNew {g : Nat} {a b : World} (h : Grw g a b) {p : Addr} (hp : a.heap.size ≤ p.block) (u : Value) : Grw g a (b.setCell p u) :=
  ⟨⟨h.grown.os, h.grown.tape, h.grown.output, by simpa using h.grown.size, fun i hi hne => (Below.heap_setCell b p u i (fun e => by omega)).trans (h.grown.block i hi hne)⟩, fun x => (World.frozen?_setCell _ _ _ _).trans (h.frozen x)⟩
theorem Own.setOther {w : World} {g cap : Nat} {L : List Int} (h : Own w g cap L) {p : Addr} (hp : g ≠ p.block) (u : Value) : Own (w.setCell p u) g cap L := by
  obtain ⟨cur, hg, r⟩ := h
  exact ⟨cur, (Below.heap_setCell w p u g hp).trans hg, r⟩

theorem grw_new {g : Nat} {w wr : World} {o : Obj} (h : Grw g (w.alloc o) wr) (hne : g ≠ w.heap.size) (j : Nat) : wr.cell? ⟨w.heap.size, j, none⟩ = (w.alloc o).cell? ⟨w.heap.size, j, none⟩ ∧ wr.frozen? ⟨w.heap.size, j, none⟩ = (w.alloc o).frozen? ⟨w.heap.size, j, none⟩ :=
  have hb := h.grown.block w.heap.size (by simp) (by simpa using fun e => hne e.symm)
  ⟨World.cell?_of_block (a := ⟨w.heap.size, j, none⟩) hb, World.frozen?_of_block (a := ⟨w.heap.size, j, none⟩) hb⟩
theorem dig_take (L M : List Int) (k c q : Nat) (hM : k < M.length) (hz : ∀ j, k < j → L.getD j 0 = 0) (hh : ∀ j, c ≤ j → M.getD j 0 = L.getD j 0) (hq : c ≤ q) : dig (M.take (k + 1)) (q : Int) = dig L (q : Int) := by
  unfold dig
  rw [if_pos (by omega), if_pos (by omega), Int.toNat_natCast, ← hh q hq]
  by_cases h : q < k + 1
  · rw [List.getD_eq_getElem?_getD, List.getD_eq_getElem?_getD, List.getElem?_take, if_pos h]
  · rw [hh q hq, hz q (by omega), List.getD_eq_getElem?_getD, List.getElem?_eq_none (by simp; omega)]
    rfl
theorem pcq_take (L M : List Int) (k c q s : Nat) (hM : k < M.length) (hz : ∀ j, k < j → L.getD j 0 = 0) (hh : ∀ j, c ≤ j → M.getD j 0 = L.getD j 0) (hq : c ≤ q) : pcq (M.take (k + 1)) (q : Int) s = pcq L (q : Int) s := by
  unfold pcq
  rw [dig_take L M k c q hM hz hh hq, show ((q : Int) + 1) = ((q + 1 : Nat) : Int) by omega, dig_take L M k c (q + 1) hM hz hh (by omega)]
theorem getD_set (M : List Int) (c j : Nat) (d : Int) (hc : c < M.length) : (M.set c d).getD j 0 = if c = j then d else M.getD j 0 := by
  rw [List.getD_eq_getElem?_getD, List.getD_eq_getElem?_getD, List.getElem?_set]
  by_cases h : c = j
  · subst h; simp [hc]
  · simp [h]

end Go.Proofs.Ytedghjededicpaa

namespace Go.Proofs.Ytedghjededicpaa
open Go.ChangeShapes Go.WideShapes Go.ChangeAt Go.RowKit
set_option linter.unusedVariables false

/-! ### The one form, as a plain function -/
def frm (neg : Bool) (v : Nat) (x : Int) : Option Nm :=
  if v = 0 then some ⟨false, [], 0⟩ else
  if bl v - tzn v ≤ 60000 ∧ -1048576 ≤ wrap64 (x + (tzn v : Int)) ∧ wrap64 (x + (tzn v : Int)) ≤ 1048576 then some ⟨neg, digs (v / 2 ^ tzn v), wrap64 (x + (tzn v : Int))⟩ else none

def New (w0 w : World) (v : Value) (x : Nm) : Prop :=
  (x = ⟨false, [], 0⟩ ∧ v = zeroNum) ∨ ∃ g cap, v = .agg #[.bool x.neg, .slice (some ⟨g, 0, none⟩) x.mag.length cap, .int .i64 x.exp] ∧ w0.heap.size ≤ g ∧ Own w g cap x.mag ∧ x.mag ≠ []

def NewG (g cap : Nat) (w0 w : World) (v : Value) (x : Nm) : Prop :=
  (x = ⟨false, [], 0⟩ ∧ v = zeroNum) ∨ (v = .agg #[.bool x.neg, .slice (some ⟨g, 0, none⟩) x.mag.length cap, .int .i64 x.exp] ∧ w0.heap.size ≤ g ∧ Own w g cap x.mag ∧ x.mag ≠ [])
theorem NewG.new {g cap : Nat} {w0 w : World} {v : Value} {x : Nm} (h : NewG g cap w0 w v x) : New w0 w v x := by
  rcases h with h | h
  · exact .inl h
  · exact .inr ⟨g, cap, h⟩
theorem New.numAt {w0 w : World} {v : Value} {x : Nm} (h : New w0 w v x) : NumAt w v x := by
  rcases h with ⟨rfl, rfl⟩ | ⟨g, cap, rfl, hg, ho, hne⟩
  · exact ⟨_, rfl, none, 0, rfl, Nat.le_refl _, by simp [maxLen], fun h => absurd rfl h⟩
  · exact ⟨_, rfl, ho.sl⟩
theorem New.kept {w0 w w' : World} {v : Value} {x : Nm} (h : New w0 w v x) (k : Kept w w') : New w0 w' v x := by
  rcases h with h | ⟨g, cap, e, hg, ho, hne⟩
  · exact .inl h
  · exact .inr ⟨g, cap, e, hg, ho.kept k, hne⟩
theorem New.from {w0 w1 w : World} {v : Value} {x : Nm} (h : New w1 w v x) (k : Kept w0 w1) : New w0 w v x := by
  rcases h with h | ⟨g, cap, e, hg, ho, hne⟩
  · exact .inl h
  · exact .inr ⟨g, cap, e, Nat.le_trans k.below.size hg, ho, hne⟩

theorem bl_sub (v : Nat) (hv : v ≠ 0) : bl v = bl (v / 2 ^ tzn v) + tzn v ∧ v / 2 ^ tzn v ≠ 0 := by
  obtain ⟨h1, h2⟩ := tzn_div v hv
  generalize v / 2 ^ tzn v = o at *
  have : bl v = bl (o * 2 ^ tzn v) := by rw [← h2]
  rw [this, bl_mul _ _ (by omega)]
  exact ⟨rfl, by omega⟩
theorem digs_len (n : Nat) (h : n ≠ 0) : (digs n).length = (bl n + 29) / 30 := by
  have h1 := bl_pos n h
  obtain ⟨k, hk⟩ : ∃ k, (bl n + 29) / 30 = k + 1 := ⟨(bl n + 29) / 30 - 1, by omega⟩
  have a := digs_length_le n (k + 1) (Nat.lt_of_lt_of_le h1.2.1 (Nat.pow_le_pow_right (by decide) (by omega)))
  have b := digs_length_ge n k (Nat.le_trans (Nat.pow_le_pow_right (by decide) (by omega)) h1.1)
  omega
theorem top_at (L : List Int) (h : ¬ ∀ j, L.getD j 0 = 0) : ∃ m, m < L.length ∧ (∀ j, m < j → L.getD j 0 = 0) ∧ L.getD m 0 ≠ 0 := by
  induction L with
  | nil => exact absurd (fun j => by simp) h
  | cons d L ih =>
    by_cases hL : ∀ j, L.getD j 0 = 0
    · refine ⟨0, by simp, fun j hj => ?_, ?_⟩
      · obtain ⟨i, rfl⟩ : ∃ i, j = i + 1 := ⟨j - 1, by omega⟩
        rw [List.getD_cons_succ]; exact hL i
      · intro h0
        apply h
        intro j
        cases j with
        | zero => exact h0
        | succ i => rw [List.getD_cons_succ]; exact hL i
    · obtain ⟨m, h1, h2, h3⟩ := ih hL
      refine ⟨m + 1, by simpa using h1, fun j hj => ?_, by rw [List.getD_cons_succ]; exact h3⟩
      obtain ⟨i, rfl⟩ : ∃ i, j = i + 1 := ⟨j - 1, by omega⟩
      rw [List.getD_cons_succ]; exact h2 i (by omega)
theorem low_at (L : List Int) (h : ¬ ∀ j, L.getD j 0 = 0) : ∃ m, m < L.length ∧ (∀ j, j < m → L.getD j 0 = 0) ∧ L.getD m 0 ≠ 0 := by
  induction L with
  | nil => exact absurd (fun j => by simp) h
  | cons d L ih =>
    by_cases hd : d = 0
    · have hL : ¬ ∀ j, L.getD j 0 = 0 := fun hL => h (fun j => by
        cases j with
        | zero => simpa using hd
        | succ i => rw [List.getD_cons_succ]; exact hL i)
      obtain ⟨m, h1, h2, h3⟩ := ih hL
      refine ⟨m + 1, by simpa using h1, fun j hj => ?_, by rw [List.getD_cons_succ]; exact h3⟩
      cases j with
      | zero => simpa using hd
      | succ i => rw [List.getD_cons_succ]; exact h2 i (by omega)
    · exact ⟨0, by simp, fun j hj => by omega, by simpa using hd⟩
theorem nv_take (L : List Int) (h : Dg L) (m : Nat) (hz : ∀ j, m < j → L.getD j 0 = 0) : nv (L.take (m + 1)) = nv L := by
  have e := nv_append (L.take (m + 1)) (L.drop (m + 1))
  rw [List.take_append_drop] at e
  have : nv (L.drop (m + 1)) = 0 := by
    rw [nv_zero _ (fun d hd => h d (List.mem_of_mem_drop hd))]
    intro i
    have := hz (m + 1 + i) (by omega)
    rw [List.getD_eq_getElem?_getD] at this ⊢
    rw [List.getElem?_drop]
    exact this
  rw [this] at e
  omega
theorem dg_take (L : List Int) (h : Dg L) (m : Nat) : Dg (L.take m) := fun d hd => h d (List.mem_of_mem_take hd)

end Go.Proofs.Ytedghjededicpaa
