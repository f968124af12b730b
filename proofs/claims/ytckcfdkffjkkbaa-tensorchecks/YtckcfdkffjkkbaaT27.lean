/- TensorChecks at every input. -/
import Derived.Test.YtckcfdkffjkkbaaT23
import Derived.Test.YtckcfdkffjkkbaaT24
import Derived.Test.YtckcfdkffjkkbaaT25
namespace Go.Proofs.Ytckcfdkffjkkbaa
open Go.ChangeShapes Go.WideShapes Go.ChangeAt Go.RowKit
set_option linter.unusedVariables false

theorem tensorChecks_true (r c n row col : Int) (L : List Int) (ao : Option Addr) (cp : Nat) (w : World) (hR : ∀ d ∈ L, -9223372036854775808 ≤ d ∧ d ≤ 9223372036854775807) (hS : Sl w (.slice ao L.length cp) L) : Calls Try.prog 3 #[.agg #[.int .i64 r, .int .i64 c, .int .i64 n, .slice ao L.length cp], .int .i64 row, .int .i64 col] w fun e w' => e = .returned (.bool true) ∧ Below w.heap.size w w' := by
  suffices h : Calls Try.prog 3 #[.agg #[.int .i64 r, .int .i64 c, .int .i64 n, .slice ao L.length cp], .int .i64 row, .int .i64 col] w fun e w' => e = .returned (.bool true) ∧ Bl w w' by
    refine h.mono ?_
    rintro e w' ⟨rfl, k⟩
    exact ⟨rfl, k.below⟩
  by_cases hlen : 5000 < L.length
  · exact tc_long r c n row col L hlen ao cp w
  · by_cases hq : ckM r c n L = 0
    · obtain ⟨hs, hl, -⟩ := ckM_ok hq
      obtain ⟨hn, hr, hc, hrc⟩ := ckS_ok hs
      obtain ⟨R, rfl⟩ := Int.eq_ofNat_of_zero_le (show 0 ≤ r by omega)
      obtain ⟨C, rfl⟩ := Int.eq_ofNat_of_zero_le (show 0 ≤ c by omega)
      have hL : L.length = R * C := by
        have : (L.length : Int) = ((R * C : Nat) : Int) := by rw [hl]; simp
        omega
      have hRC : R * C ≤ 4096 := by
        have : ((R * C : Nat) : Int) ≤ 4096 := by simpa using hrc
        omega
      have hpos : 0 < R * C := Nat.mul_pos (by omega) (by omega)
      have hne : L ≠ [] := by intro h; subst h; simp at hL; omega
      have hS' := hS
      obtain ⟨ao', cap', e, hcp, -, hrd⟩ := hS'
      cases e
      obtain ⟨b, off, rfl, hb, hrd⟩ := hrd hne
      have hRg : Rgl L := fun i hi => by
        rw [List.getD_eq_getElem?_getD, List.getElem?_eq_getElem hi]
        exact hR _ (List.getElem_mem hi)
      by_cases hin : 0 ≤ row ∧ row < R ∧ 0 ≤ col ∧ col < C
      · obtain ⟨i, rfl⟩ := Int.eq_ofNat_of_zero_le hin.1
        obtain ⟨j, rfl⟩ := Int.eq_ofNat_of_zero_le hin.2.2.1
        exact tc_ok R C n i j L hL hRC hRg hn b off cp (by omega) w hb hrd hS hq (by omega) (by omega)
      · exact tc_out R C n row col L hL hRC hRg hn b off cp (by omega) w hb hrd hS hq (by omega)
    · exact tc_no r c n row col L (by omega) ao cp w hS hq
end Go.Proofs.Ytckcfdkffjkkbaa
