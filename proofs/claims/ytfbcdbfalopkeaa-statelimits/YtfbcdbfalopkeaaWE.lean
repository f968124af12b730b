/- States and their bytes: what is read is written again as it was. -/
import Derived.Test.YtfbcdbfalopkeaaVZ
import Derived.Test.YtfbcdbfalopkeaaVK
namespace Go.Proofs.Ytfbcdbfalopkeaa
open Go.ChangeShapes Go.WideShapes Go.ChangeAt Go.RowKit
set_option linter.unusedVariables false
set_option linter.unusedSimpArgs false

theorem shift_same (x p t : Int) (hp : 0 < p) : (x + p * 256 * t) / p % 256 = x / p % 256 := by
  rw [show x + p * 256 * t = x + p * (256 * t) by rw [Int.mul_assoc], Int.add_mul_ediv_left _ _ (by omega)]
  omega
theorem pow_split (j k : Nat) (h : j < k) : (2 : Int) ^ (8 * k) = 2 ^ (8 * j) * 256 * 2 ^ (8 * (k - j - 1)) := by
  rw [← pow_step, ← Int.pow_add]
  congr 1
  omega
theorem un_get (B : List Int) (i : Nat) (hB : Byt B) : ∀ k j, j < k → un k B i / 2 ^ (8 * j) % 256 = B.getD (i + j) 0
  | 0, j, h => by omega
  | k + 1, j, h => by
    have hb := hB.at (i + k)
    have hr := un_rng k B i hB
    rw [pow_256] at hr
    show (un k B i + B.getD (i + k) 0 * (256 : Int) ^ k) / 2 ^ (8 * j) % 256 = _
    rw [pow_256]
    by_cases hj : j < k
    · rw [pow_split j k hj, show un k B i + B.getD (i + k) 0 * (2 ^ (8 * j) * 256 * 2 ^ (8 * (k - j - 1))) = un k B i + 2 ^ (8 * j) * 256 * (B.getD (i + k) 0 * 2 ^ (8 * (k - j - 1))) by rw [Int.mul_left_comm], shift_same _ _ _ (pow_pos8 j)]
      exact un_get B i hB k j hj
    · obtain rfl : j = k := by omega
      rw [Int.add_mul_ediv_right _ _ (by have := pow_pos8 j; omega), Int.ediv_eq_zero_of_lt hr.1 hr.2]
      omega
theorem le_numv (B : List Int) (i k : Nat) (hk : k ≤ 8) (hB : Byt B) (hl : i + k ≤ B.length) : le k (numv k B i) = (B.drop i).take k := by
  have hn : ∃ c : Int, numv k B i = un k B i + c * 18446744073709551616 := by
    unfold numv
    rw [wrap_i64]
    refine ⟨(numv k B i - un k B i) / 18446744073709551616, ?_⟩
    unfold numv
    rw [wrap_i64]
    omega
  obtain ⟨c, hc⟩ := hn
  have hL : ((B.drop i).take k).length = k := by rw [List.length_take, List.length_drop]; omega
  refine List.ext_getElem (by rw [le_len, hL]) fun j h1 h2 => ?_
  rw [le_len] at h1
  have e1 := le_get k (numv k B i) j h1
  rw [List.getD_eq_getElem?_getD, List.getElem?_eq_getElem (by rw [le_len]; exact h1)] at e1
  simp only [Option.getD_some] at e1
  have e64 : (18446744073709551616 : Int) = 2 ^ (8 * j) * 256 * 2 ^ (8 * (8 - j - 1)) := by
    rw [← pow_split j 8 (by omega)]; rfl
  rw [e1, hc, e64, show un k B i + c * (2 ^ (8 * j) * 256 * 2 ^ (8 * (8 - j - 1))) = un k B i + 2 ^ (8 * j) * 256 * (c * 2 ^ (8 * (8 - j - 1))) by rw [Int.mul_left_comm], shift_same _ _ _ (pow_pos8 j), un_get B i hB k j h1]
  rw [List.getElem_take, List.getElem_drop, List.getD_eq_getElem?_getD, List.getElem?_eq_getElem (by omega)]
  rfl
theorem pnum_dec {k : Nat} {g : Int → Bool} {B : List Int} {i q : Nat} {n : Int} (hk : k ≤ 8) (hB : Byt B) (h : pnum k g B i = .ok n q) : q ≤ B.length ∧ B.take q = B.take i ++ le k n ∧ g n = true ∧ n = numv k B i := by
  unfold pnum at h
  split at h
  · rename_i h1
    split at h
    · rename_i h2
      cases h
      exact ⟨h1, by rw [le_numv B i k hk hB h1, List.take_add], h2, rfl⟩
    · cases h
  · cases h
theorem andTo_inv {α β : Type} {x : Res α} {f : α → Nat → Res β} {b : β} {q : Nat} (h : x.andTo f = .ok b q) : ∃ a q1, x = .ok a q1 ∧ f a q1 = .ok b q := by
  cases x with
  | no e p => cases h
  | ok a q1 => exact ⟨a, q1, rfl, h⟩
def flatE {α : Type} (e : α → List Int) : List α → List Int
  | [] => []
  | a :: l => e a ++ flatE e l
theorem flat_bits (k : Nat) : ∀ L : List Int, flatE (le k) L = wbits k L
  | [] => rfl
  | a :: L => congrArg (le k a ++ ·) (flat_bits k L)
theorem flat_wls : ∀ l : List Mat, flatE wm l = wls l
  | [] => rfl
  | a :: l => congrArg (wm a ++ ·) (flat_wls l)
theorem flat_wqs : ∀ Q : List (List Mat), flatE (fun l => le 1 l.length ++ wls l) Q = wqs Q
  | [] => rfl
  | a :: l => congrArg (le 1 a.length ++ wls a ++ ·) (flat_wqs l)
theorem prep_dec {α : Type} {p : Ps α} {B : List Int} {e : α → List Int} {F : α → Prop} (hp : ∀ i a q, p B i = .ok a q → i ≤ B.length → q ≤ B.length ∧ B.take q = B.take i ++ e a ∧ F a) :
    ∀ N i l q, i ≤ B.length → prep N p B i = .ok l q → q ≤ B.length ∧ B.take q = B.take i ++ flatE e l ∧ l.length = N ∧ ∀ a ∈ l, F a
  | 0, i, l, q, hi, h => by
    cases h
    exact ⟨hi, by simp [flatE], rfl, fun a ha => by cases ha⟩
  | N + 1, i, l, q, hi, h => by
    obtain ⟨a, q1, h1, h2⟩ := andTo_inv h
    obtain ⟨l2, q2, h3, h4⟩ := andTo_inv h2
    obtain ⟨e1, e2, e3⟩ := hp i a q1 h1 hi
    obtain ⟨e4, e5, e6, e7⟩ := prep_dec hp N q1 l2 q2 e1 h3
    cases h4
    refine ⟨e4, by rw [e5, e2, List.append_assoc]; rfl, by simp [e6], fun b hb => ?_⟩
    rcases List.mem_cons.1 hb with rfl | hb
    · exact e3
    · exact e7 b hb
theorem ckM_all {r c n : Int} {L : List Int} (h0 : ckS r c n = 0) (hl : (L.length : Int) = r * c) : ckM r c n L = 0 ↔ ∀ i, i < L.length → val (L.getD i 0) n = true := by
  refine ⟨fun h => (ckM_ok h).2.2, fun h => ?_⟩
  unfold ckM
  rw [if_neg (fun k => k h0), if_neg (fun k => k hl), if_pos]
  rw [List.all_eq_true]
  intro x hx
  obtain ⟨i, hi, rfl⟩ := List.getElem_of_mem hx
  have := h i hi
  rwa [List.getD_eq_getElem?_getD, List.getElem?_eq_getElem hi] at this
theorem pmat_dec {B : List Int} (hB : Byt B) (i : Nat) (m : Mat) (q : Nat) (h : pmat B i = .ok m q) (hi : i ≤ B.length) : q ≤ B.length ∧ B.take q = B.take i ++ wm m ∧ matOk m := by
  obtain ⟨n, q1, h1, h⟩ := andTo_inv h
  obtain ⟨r, q2, h2, h⟩ := andTo_inv h
  obtain ⟨c, q3, h3, h⟩ := andTo_inv h
  obtain ⟨L, q4, h4, h⟩ := andTo_inv h
  cases h
  obtain ⟨a1, b1, c1, d1⟩ := pnum_dec (by decide) hB h1
  obtain ⟨a2, b2, c2, d2⟩ := pnum_dec (by decide) hB h2
  obtain ⟨a3, b3, c3, d3⟩ := pnum_dec (by decide) hB h3
  have hv := numv_val n c1 B hB
  rw [beq_iff_eq] at c3
  obtain ⟨s1, s2, s3, s4⟩ := ckS_ok c3
  have hpel : ∀ j a q, pel n B j = .ok a q → j ≤ B.length → q ≤ B.length ∧ B.take q = B.take j ++ le (Int.tdiv n 8).toNat a ∧ (fin a n = true ∧ val a n = true) := fun j a q hj _ => by
    obtain ⟨a4, b4, c4, d4⟩ := pnum_dec (hv j).2.2 hB hj
    exact ⟨a4, b4, c4, by rw [d4]; exact (hv j).1⟩
  obtain ⟨a5, b5, c5, d5⟩ := prep_dec hpel _ _ _ _ a3 h4
  refine ⟨a5, ?_, ?_, ?_⟩
  · rw [b5, b3, b2, b1, flat_bits]
    unfold wm
    simp only [List.append_assoc]
  · show ckM r c n L = 0
    have hll : (L.length : Int) = r * c := by rw [c5]; exact Int.toNat_of_nonneg (Int.mul_nonneg (by omega) (by omega))
    refine (ckM_all c3 hll).2 fun j hj => ?_
    have := (d5 (L.getD j 0) (by rw [List.getD_eq_getElem?_getD, List.getElem?_eq_getElem hj]; exact List.getElem_mem hj)).2
    exact this
  · intro j hj
    exact (d5 (L.getD j 0) (by rw [List.getD_eq_getElem?_getD, List.getElem?_eq_getElem hj]; exact List.getElem_mem hj)).1
theorem pmats_dec {B : List Int} (hB : Byt B) {k : Nat} {mo : Int} (hk1 : 1 ≤ k) (hk : k ≤ 2) (i : Nat) (l : List Mat) (q : Nat) (h : pmats k mo B i = .ok l q) (hi : i ≤ B.length) : q ≤ B.length ∧ B.take q = B.take i ++ (le k l.length ++ wls l) ∧ ((l.length : Int) ≤ mo ∧ Oks l) := by
  obtain ⟨n, q1, h1, h⟩ := andTo_inv h
  obtain ⟨a1, b1, c1, d1⟩ := pnum_dec (by omega) hB h1
  obtain ⟨a2, b2, c2, d2⟩ := prep_dec (pmat_dec hB) _ _ _ _ a1 h
  rw [decide_eq_true_eq] at c1
  have hn0 : 0 ≤ n := by
    rw [d1]
    have h := un_rng k B i hB
    have e2 : (256 : Int) ^ k ≤ 256 ^ 2 := by
      have h9 := Int.ofNat_le.2 (Nat.pow_le_pow_right (n := 256) (by decide) hk)
      rw [Int.natCast_pow, Int.natCast_pow] at h9
      exact h9
    have e3 : (256 : Int) ^ 2 = 65536 := by decide
    unfold numv
    rw [wrap_i64]
    omega
  have hl : (l.length : Int) = n := by rw [c2]; omega
  refine ⟨a2, ?_, by omega, fun j m hm => d2 m (List.mem_of_getElem? hm)⟩
  rw [b2, b1, hl, flat_wls, List.append_assoc]
theorem pmk_dec {B : List Int} (hB : Byt B) : ∀ (l : List Int) (i : Nat) (q : Nat), (∀ x ∈ l, 0 ≤ x ∧ x < 256) → i ≤ B.length → pmk l B i = .ok () q → q ≤ B.length ∧ B.take q = B.take i ++ l
  | [], i, q, _, hi, h => by cases h; exact ⟨hi, by simp⟩
  | x :: l, i, q, hx, hi, h => by
    obtain ⟨n, q1, h1, h⟩ := andTo_inv h
    obtain ⟨a1, b1, c1, d1⟩ := pnum_dec (by decide) hB h1
    obtain ⟨a2, b2⟩ := pmk_dec hB l q1 q (fun y hy => hx y (List.mem_cons_of_mem _ hy)) a1 h
    have e : n = x := by simpa using c1
    have hxx := hx x (List.mem_cons_self ..)
    have h2 : le 1 x = [x] := by show [] ++ [x / 2 ^ 0 % 256] = [x]; rw [Int.pow_zero, Int.ediv_one, Int.emod_eq_of_lt hxx.1 hxx.2]; rfl
    exact ⟨a2, by rw [b2, b1, e, h2, List.append_assoc]; rfl⟩
theorem read_dec {B : List Int} (hB : Byt B) {s : Sta} {q : Nat} (h : rread B = .ok s q) : Frm s ∧ enc s = B := by
  unfold rread at h
  split at h
  · rw [pall_nest] at h
    obtain ⟨u, q0, h0, h⟩ := andTo_inv h
    obtain ⟨a, q1, h1, h⟩ := andTo_inv h
    obtain ⟨b, q2, h2, h⟩ := andTo_inv h
    obtain ⟨d, q3, h3, h⟩ := andTo_inv h
    obtain ⟨lo, q4, h4, h⟩ := andTo_inv h
    obtain ⟨ra, q5, h5, h⟩ := andTo_inv h
    obtain ⟨P, q6, h6, h⟩ := andTo_inv h
    obtain ⟨n, q7, h7, h⟩ := andTo_inv h
    obtain ⟨Q, q8, h8, h⟩ := andTo_inv h
    obtain ⟨u2, q9, h9, h⟩ := andTo_inv h
    cases h
    obtain ⟨a0, b0⟩ := pmk_dec hB mkL 0 q0 (by decide) (Nat.zero_le _) h0
    obtain ⟨a1, b1, c1, -⟩ := pnum_dec (by decide) hB h1
    obtain ⟨a2, b2, c2, -⟩ := pnum_dec (by decide) hB h2
    obtain ⟨a3, b3, c3, -⟩ := pnum_dec (by decide) hB h3
    obtain ⟨a4, b4, -, -⟩ := pnum_dec (by decide) hB h4
    obtain ⟨a5, b5, -, -⟩ := pnum_dec (by decide) hB h5
    obtain ⟨a6, b6, c6, d6⟩ := pmats_dec hB (by decide) (by decide) _ _ _ h6 a5
    obtain ⟨a7, b7, c7, d7⟩ := pnum_dec (by decide) hB h7
    obtain ⟨a8, b8, c8, d8⟩ := prep_dec (pmats_dec hB (by decide) (by decide)) _ _ _ _ a7 h8
    rw [decide_eq_true_eq] at c7
    have hn0 : 0 ≤ n := by rw [d7]; exact (numv_small B hB q6).1
    have hl : (Q.length : Int) = n := by rw [c8]; omega
    have hbody : B.take q8 = wbody ⟨a, b, d, P, Q, lo, ra⟩ := by
      rw [b8, b7, b6, b5, b4, b3, b2, b1, b0, flat_wqs, ← hl]
      unfold wbody wbits wbits wbits wbits wbits wbits
      simp only [List.take_zero, List.nil_append, List.append_nil, List.append_assoc]
    have hF : Frm ⟨a, b, d, P, Q, lo, ra⟩ := ⟨c1, c2, c3, by show P.length ≤ 64; omega, by show Q.length ≤ 64; omega, d6, fun j l hj => by
      have := d8 l (List.mem_of_getElem? hj)
      exact ⟨by omega, this.2⟩⟩
    refine ⟨hF, ?_⟩
    obtain ⟨t, q10, h10, h11⟩ := andTo_inv h9
    obtain ⟨a10, b10, -, -⟩ := pnum_dec (by decide) hB h10
    split at h11
    · rename_i ht
      split at h11
      · rename_i hq
        have e : B.take q10 = B := List.take_of_length_le (by omega)
        rw [← e, b10, hbody, ht, hbody]
        rfl
      · cases h11
    · cases h11
  · cases h
end Go.Proofs.Ytfbcdbfalopkeaa
