/- StateBack: there and back. -/
import Derived.Test.YtfbcdbfalopkeaaWC
import Derived.Test.YtfbcdbfalopkeaaWD
import Derived.Test.YtfbcdbfalopkeaaWE
import Derived.Laws.IdiomStrings
namespace Go.Proofs.Ytfbcdbfalopkeaa
open Go.ChangeShapes Go.WideShapes Go.ChangeAt Go.RowKit
set_option linter.unusedVariables false
set_option linter.unusedSimpArgs false

theorem str_run (B : List Int) (hB : Byt B) (b off cap : Nat) (w : World) (hr : BR w b off B) : (convert 26 9 (.slice (some ⟨b, off, none⟩) B.length cap)).run Try.prog w = .ok (.string ⟨(B.map fun n => UInt8.ofNat n.toNat).toArray⟩) w := by
  have := run_convert_bytes_back (P := Try.prog) w 26 9 5 ⟨b, off, none⟩ cap (B.map fun n => UInt8.ofNat n.toNat) lb_under (by kernel_rfl) str_under (fun j hj => by
    rw [List.length_map] at hj
    have h1 := hr j hj
    have h2 := hB.at j
    rw [Addr.add_lit, h1]
    rw [List.getElem_map]
    rw [List.getD_eq_getElem?_getD, List.getElem?_eq_getElem hj] at h2 ⊢
    simp only [Option.getD_some] at h2 ⊢
    generalize B[j] = x at *
    obtain ⟨X, rfl⟩ := Int.eq_ofNat_of_zero_le h2.1
    have h3 : (UInt8.ofNat (Int.toNat (X : Int))).toNat = X := by
      rw [UInt8.toNat_ofNat', Int.toNat_natCast]
      exact Nat.mod_eq_of_lt (by omega)
    rw [h3])
  rw [List.length_map] at this
  exact this
theorem pnum_no {k : Nat} {g : Int → Bool} {B : List Int} {i : Nat} {e p : Int} (h : pnum k g B i = .no e p) : e ≠ 0 := by
  unfold pnum at h
  split at h
  · split at h
    · cases h
    · cases h; decide
  · cases h; decide
theorem andTo_no_inv {α β : Type} {x : Res α} {f : α → Nat → Res β} {e p : Int} (h : x.andTo f = .no e p) : x = .no e p ∨ ∃ a q, x = .ok a q ∧ f a q = .no e p := by
  cases x with
  | no e2 p2 => cases h; exact .inl rfl
  | ok a q => exact .inr ⟨a, q, rfl, h⟩
theorem prep_no {α : Type} {p : Ps α} {B : List Int} (hp : ∀ i e q, p B i = .no e q → e ≠ 0) : ∀ N i e q, prep N p B i = .no e q → e ≠ 0
  | 0, i, e, q, h => by cases h
  | N + 1, i, e, q, h => by
    rcases andTo_no_inv h with h | ⟨a, q1, -, h⟩
    · exact hp _ _ _ h
    · rcases andTo_no_inv h with h | ⟨l, q2, -, h⟩
      · exact prep_no hp N _ _ _ h
      · cases h
theorem pmat_no {B : List Int} (i : Nat) (e q : Int) (h : pmat B i = .no e q) : e ≠ 0 := by
  rcases andTo_no_inv h with h | ⟨a, q1, -, h⟩
  · exact pnum_no h
  rcases andTo_no_inv h with h | ⟨a, q1, -, h⟩
  · exact pnum_no h
  rcases andTo_no_inv h with h | ⟨a, q1, -, h⟩
  · exact pnum_no h
  rcases andTo_no_inv h with h | ⟨a, q1, -, h⟩
  · exact prep_no (fun i e q h => pnum_no h) _ _ _ _ h
  · cases h
theorem pmats_no {B : List Int} {k : Nat} {mo : Int} (i : Nat) (e q : Int) (h : pmats k mo B i = .no e q) : e ≠ 0 := by
  rcases andTo_no_inv h with h | ⟨a, q1, -, h⟩
  · exact pnum_no h
  · exact prep_no pmat_no _ _ _ _ h
theorem pmk_no {B : List Int} : ∀ (l : List Int) (i : Nat) (e q : Int), pmk l B i = .no e q → e ≠ 0
  | [], i, e, q, h => by cases h
  | x :: l, i, e, q, h => by
    rcases andTo_no_inv h with h | ⟨a, q1, -, h⟩
    · exact pnum_no h
    · exact pmk_no l _ _ _ h
theorem read_no {B : List Int} {e p : Int} (h : rread B = .no e p) : e ≠ 0 := by
  unfold rread at h
  split at h
  · rw [pall_nest] at h
    rcases andTo_no_inv h with h | ⟨a, q1, -, h⟩
    · exact pmk_no _ _ _ _ h
    rcases andTo_no_inv h with h | ⟨a, q1, -, h⟩
    · exact pnum_no h
    rcases andTo_no_inv h with h | ⟨a, q1, -, h⟩
    · exact pnum_no h
    rcases andTo_no_inv h with h | ⟨a, q1, -, h⟩
    · exact pnum_no h
    rcases andTo_no_inv h with h | ⟨a, q1, -, h⟩
    · exact pnum_no h
    rcases andTo_no_inv h with h | ⟨a, q1, -, h⟩
    · exact pnum_no h
    rcases andTo_no_inv h with h | ⟨a, q1, -, h⟩
    · exact pmats_no _ _ _ h
    rcases andTo_no_inv h with h | ⟨a, q1, -, h⟩
    · exact pnum_no h
    rcases andTo_no_inv h with h | ⟨a, q1, -, h⟩
    · exact prep_no pmats_no _ _ _ _ h
    rcases andTo_no_inv h with h | ⟨a, q1, -, h⟩
    · rcases andTo_no_inv h with h | ⟨t, q2, -, h⟩
      · exact pnum_no h
      · split at h
        · split at h
          · cases h
          · cases h; decide
        · cases h; decide
    · cases h
  · cases h; decide
def sta0 : Sta := ⟨0, 0, 0, [], [], 0, 0⟩
theorem zst_st (w : World) : StI w zst sta0 := ⟨_, _, rfl, ⟨none, 0, rfl, Nat.le_refl _, fun h => absurd rfl h⟩, ⟨none, 0, rfl, Nat.le_refl _, fun h => absurd rfl h⟩⟩
end Go.Proofs.Ytfbcdbfalopkeaa
