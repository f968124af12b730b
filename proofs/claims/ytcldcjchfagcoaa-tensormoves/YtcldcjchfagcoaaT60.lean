/- TensorMoves of every input. -/
import Derived.Test.YtcldcjchfagcoaaT59
namespace Go.Proofs.Ytcldcjchfagcoaa
open Go.ChangeShapes Go.WideShapes Go.ChangeAt Go.RowKit
set_option linter.unusedVariables false
set_option linter.unusedSimpArgs false

theorem tensorMoves_true (r c n a b : Int) (L : List Int) (ao : Option Addr) (cp : Nat) (w : World) (hR : ∀ d ∈ L, -9223372036854775808 ≤ d ∧ d ≤ 9223372036854775807) (hS : Sl w (.slice ao L.length cp) L) : Calls Try.prog 7 #[.agg #[.int .i64 r, .int .i64 c, .int .i64 n, .slice ao L.length cp], .int .i64 a, .int .i64 b] w fun e w' => e = .returned (.bool true) ∧ Below w.heap.size w w' := by
  suffices h : Calls Try.prog 7 #[.agg #[.int .i64 r, .int .i64 c, .int .i64 n, .slice ao L.length cp], .int .i64 a, .int .i64 b] w fun e w' => e = .returned (.bool true) ∧ Bl w w' by
    refine h.mono ?_
    rintro e w' ⟨rfl, k⟩
    exact ⟨rfl, k.below⟩
  by_cases hlen : 5000 < L.length
  · exact tm_long r c n a b L hlen ao cp w
  · by_cases hq : ckM r c n L = 0
    · obtain ⟨hs, hl, -⟩ := ckM_ok hq
      obtain ⟨hn, hr, hc, hrc⟩ := ckS_ok hs
      obtain ⟨R, rfl⟩ := Int.eq_ofNat_of_zero_le (show 0 ≤ r by omega)
      obtain ⟨C, rfl⟩ := Int.eq_ofNat_of_zero_le (show 0 ≤ c by omega)
      have hL : L.length = R * C := by
        have : (L.length : Int) = ((R * C : Nat) : Int) := by rw [hl]; simp
        omega
      have hRC : R * C ≤ 4096 := by
        have : ((R * C : Nat) : Int) ≤ 4096 := by simpa using hrc
        omega
      have hpos : 0 < R * C := Nat.mul_pos (by omega) (by omega)
      have hne : L ≠ [] := by intro h; subst h; simp at hL; omega
      have hS' := hS
      obtain ⟨ao', cap', e, hcp, -, hrd⟩ := hS'
      cases e
      obtain ⟨bb, off, rfl, hb, hrd⟩ := hrd hne
      have hRg : Rgl L := fun i hi => by
        rw [List.getD_eq_getElem?_getD, List.getElem?_eq_getElem hi]
        exact hR _ (List.getElem_mem hi)
      have hW : MatIn w R C n L bb off cp := ⟨hb, hrd, hS, hcp⟩
      obtain ⟨A0, t0, p0, d0⟩ := an_turn R C n hn (by omega) (by omega) hRC L hL hRg hq
      obtain ⟨A1, t1, p1, d1⟩ := an_form R C n a b hn (by omega) (by omega) hRC L hL hRg hq
      obtain ⟨A2, t2, p2, d2⟩ := an_cutCols R C n a b hn (by omega) (by omega) hRC L hL hRg hq
      obtain ⟨A3, t3, p3, d3⟩ := an_cutRows R C n a b hn (by omega) (by omega) hRC L hL hRg hq
      obtain ⟨A4, t4, p4, d4⟩ := an_window R C n a b hn (by omega) (by omega) hRC L hL hRg hq
      exact tm_try R C n a b A0 A1 A2 A3 A4 L (by omega) bb off cp w hW p0 p1 p2 p3 p4 (fun W hW => d0 W bb off cp hW) (fun W hW => d1 W bb off cp hW) (fun W hW => d2 W bb off cp hW) (fun W hW => d3 W bb off cp hW) (fun W hW => d4 W bb off cp hW) hq ⟨t0, t1, t2, t3, t4⟩
    · exact tm_no r c n a b L (by omega) ao cp w hS _ rfl hq
end Go.Proofs.Ytcldcjchfagcoaa
