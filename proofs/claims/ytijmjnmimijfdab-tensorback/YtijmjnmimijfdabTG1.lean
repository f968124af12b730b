/- Lists of matrices: how they lie; checkAll of package tensor. -/
import Derived.Test.YtijmjnmimijfdabT42
import Derived.Test.YtijmjnmimijfdabT8
import Derived.Test.YtijmjnmimijfdabTP
namespace Go.Proofs.Ytijmjnmimijfdab
open Go.ChangeShapes Go.WideShapes Go.ChangeAt Go.RowKit
set_option linter.unusedVariables false
set_option linter.unusedSimpArgs false

/-- A list of matrices, as it lies: k of them from a place on. -/
structure Lm (u : World) (B off k : Nat) (r c n : Nat → Int) (a : Nat → Option Addr) (cap : Nat → Nat) (L : Nat → List Int) : Prop where
  lt : B < u.heap.size
  rd : ∀ i, i < k → u.cell? ⟨B, off + i * 4, none⟩ = some (.int .i64 (r i)) ∧ u.cell? ⟨B, off + i * 4 + 1, none⟩ = some (.int .i64 (c i)) ∧ u.cell? ⟨B, off + i * 4 + 2, none⟩ = some (.int .i64 (n i)) ∧ u.cell? ⟨B, off + i * 4 + 3, none⟩ = some (.slice (a i) (L i).length (cap i))
  sl : ∀ i, i < k → Sl u (.slice (a i) (L i).length (cap i)) (L i)
theorem Lm.bl {u u' : World} {B off k : Nat} {r c n : Nat → Int} {a : Nat → Option Addr} {cap : Nat → Nat} {L : Nat → List Int} (h : Lm u B off k r c n a cap L) (kk : Bl u u') : Lm u' B off k r c n a cap L := by
  refine ⟨Nat.lt_of_lt_of_le h.lt kk.size, fun i hi => ?_, fun i hi => (h.sl i hi).bl kk⟩
  obtain ⟨h0, h1, h2, h3⟩ := h.rd i hi
  exact ⟨(kk.cell B _ h.lt).trans h0, (kk.cell B _ h.lt).trans h1, (kk.cell B _ h.lt).trans h2, (kk.cell B _ h.lt).trans h3⟩

set_option maxHeartbeats 2000000 in
theorem checkAll_nil (la : Option Addr) (lc : Nat) (w : World) : Calls Try.prog 45 #[.slice la 0 lc] w fun e w' => e = .returned (.int .i64 1) ∧ Kept w w' := by
  go_enter Try.func45, Try.ntmps45
  go_wp2_with fail
  go_ret
  exact ⟨rfl, Kept.refl w⟩

set_option maxHeartbeats 4000000 in
set_option maxRecDepth 100000 in
/-- checkAll: the first one's error; none, if all are in form. -/
theorem checkAll_any (B off k lc : Nat) (hk0 : 0 < k) (hk : k ≤ 1000000) (r c n : Nat → Int) (a : Nat → Option Addr) (cap : Nat → Nat) (L : Nat → List Int) (w : World) (hM : Lm w B off k r c n a cap L) (q : Int)
    (hq : (q = 0 ∧ ∀ i, i < k → ckM (r i) (c i) (n i) (L i) = 0) ∨ (q ≠ 0 ∧ ∃ j, j < k ∧ ckM (r j) (c j) (n j) (L j) = q ∧ ∀ i, i < j → ckM (r i) (c i) (n i) (L i) = 0)) :
    Calls Try.prog 45 #[.slice (some ⟨B, off, none⟩) k lc] w fun e w' => e = .returned (.int .i64 q) ∧ Kept w w' := by
  have HM : Hid (∀ u, Kept w u → Lm u B off k r c n a cap L) := fun u kk => hM.bl kk.bl
  have HC : Hid (∀ i u, i < k → Kept w u → Calls Try.prog 17 #[.agg #[.int .i64 (r i), .int .i64 (c i), .int .i64 (n i), .slice (a i) (L i).length (cap i)]] u fun e w' => e = .returned (.int .i64 (ckM (r i) (c i) (n i) (L i))) ∧ Kept w w') := fun i u hi kk => by
    refine (check_any (r i) (c i) (n i) (a i) (cap i) (L i) u ((HM.out u kk).sl i hi)).mono ?_
    rintro e w' ⟨rfl, k2⟩
    exact ⟨rfl, kk.trans k2⟩
  have HQ : Hid ((q = 0 ∧ ∀ i, i < k → ckM (r i) (c i) (n i) (L i) = 0) ∨ (q ≠ 0 ∧ ∃ j, j < k ∧ ckM (r j) (c j) (n j) (L j) = q ∧ ∀ i, i < j → ckM (r i) (c i) (n i) (L i) = 0)) := hq
  have hkz : ((k : Int) == 0) = false := by simp; omega
  clear hq hM
  go_enter Try.func45, Try.ntmps45
  go_wp2_with fail
  go_loopw [11] (fun iv wr => ∃ i : Nat, i ≤ k ∧ iv = .int .i64 i ∧ Kept w wr ∧ ∀ x, x < i → ckM (r x) (c x) (n x) (L x) = 0) (fun iv _ => k - (intOf iv).toNat)
  case atStart => exact ⟨0, Nat.zero_le _, rfl, Kept.refl w, fun x hx => by omega⟩
  case round =>
    obtain ⟨i, hi, rfl, kr, hall⟩ := hrel
    have HA : Hid (∀ x, x < i → ckM (r x) (c x) (n x) (L x) = 0) := hall
    clear hall
    by_cases hik : i < k
    · obtain ⟨c0, c1, c2, c3⟩ := (HM.out wr kr).rd i hik
      have z0 : IntKind.i64.wrap ((i : Int) + 1) = (i : Int) + 1 := by rw [wrap_i64]; omega
      have KC := fun u => HC.out i u hik
      have HK : Hid _ := KC
      clear KC HC HM
      by_cases hz : ckM (r i) (c i) (n i) (L i) = 0
      · rw [hz] at HK
        go_wp2_with (first | (go_at_call 17; refine (HK.out _ (kr.alloc _ _)).mono ?_; rintro e w5 ⟨rfl, k5⟩))
        go_roundw
        case rel => exact ⟨i + 1, by omega, by go_num, k5, fun x hx => (Nat.lt_succ_iff_lt_or_eq.1 hx).elim (fun h => HA.out x h) (fun h => by rw [h]; exact hz)⟩
        case measure => simp [intOf]; omega
      · have hqe : ckM (r i) (c i) (n i) (L i) = q := by
          rcases HQ.out with ⟨-, h⟩ | ⟨hn0, j, hj, he, h⟩
          · exact absurd (h i hik) hz
          · rcases Nat.lt_trichotomy i j with h1 | h1 | h1
            · exact absurd (h i h1) hz
            · subst h1; exact he
            · exact absurd ((HA.out j h1).symm.trans he).symm (by assumption)
        rw [hqe] at HK hz
        have hz2 : (q != 0) = true := by simpa using hz
        go_wp2_with (first | (go_at_call 17; refine (HK.out _ (kr.alloc _ _)).mono ?_; rintro e w5 ⟨rfl, k5⟩))
        go_ret
        exact ⟨rfl, k5⟩
    · obtain rfl : i = k := by omega
      have hq0 : q = 0 := by
        rcases HQ.out with ⟨h, -⟩ | ⟨h0, j, hj, he, h⟩
        · exact h
        · exact absurd ((HA.out j hj).symm.trans he).symm h0
      subst hq0
      go_wp2_with fail
      go_ret
      exact ⟨rfl, kr⟩

/-- A list of shapes, as it lies. -/
structure Ls (u : World) (B off k : Nat) (r c n : Nat → Int) : Prop where
  lt : B < u.heap.size
  rd : ∀ i, i < k → u.cell? ⟨B, off + i * 3, none⟩ = some (.int .i64 (r i)) ∧ u.cell? ⟨B, off + i * 3 + 1, none⟩ = some (.int .i64 (c i)) ∧ u.cell? ⟨B, off + i * 3 + 2, none⟩ = some (.int .i64 (n i))
theorem Ls.bl {u u' : World} {B off k : Nat} {r c n : Nat → Int} (h : Ls u B off k r c n) (kk : Bl u u') : Ls u' B off k r c n := by
  refine ⟨Nat.lt_of_lt_of_le h.lt kk.size, fun i hi => ?_⟩
  obtain ⟨h0, h1, h2⟩ := h.rd i hi
  exact ⟨(kk.cell B _ h.lt).trans h0, (kk.cell B _ h.lt).trans h1, (kk.cell B _ h.lt).trans h2⟩

end Go.Proofs.Ytijmjnmimijfdab
