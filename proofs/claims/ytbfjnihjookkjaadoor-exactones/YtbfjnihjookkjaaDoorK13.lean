/- The walk of ExactOnes. -/
import Derived.Test.YtbfjnihjookkjaaDoorK12
import Derived.Test.YtbfjnihjookkjaaDoorQ9
namespace Go.Proofs.YtbfjnihjookkjaaDoor
open Go.ChangeShapes Go.WideShapes Go.ChangeAt Go.RowKit
set_option linter.unusedVariables false
set_option linter.unusedSimpArgs false

theorem keep_none (w u : World) (kb : Nat) (k : Kept w u) (hk : w.heap.size ≤ kb) (hc : u.heap[kb]? = some (.cells #[.slice none 0 0, .slice none 0 0] 26 (0, 0))) : KeepAt w u kb (.slice none 0 0) (.slice none 0 0) [] :=
  ⟨k, hc, .inl ⟨rfl, rfl⟩, .inl ⟨rfl, rfl⟩, fun x hx => (by cases hx), by simp [blks, blk], fun b hb => by
    obtain rfl : b = kb := by simpa [blks, blk] using hb
    exact hk⟩

set_option maxHeartbeats 2000000 in
set_option maxRecDepth 100000 in
theorem exactOnes_true (w : World) (hT : Tab w) (ng : Bool) (L : List Int) (x k0 : Int) (hk0 : -9223372036854775808 ≤ k0 ∧ k0 ≤ 9223372036854775807) (hR : Rg L) (ar : Option Addr) (cr : Nat) (hr : Sl w (.slice ar L.length cr) L) :
    Calls Tryd.prog 4 #[.agg #[.bool ng, .slice ar L.length cr, .int .i64 x], .int .i64 k0] w fun e w' => e = .returned (.bool true) ∧ Kept w w' := by
  have hK : Kept w ((w.alloc (.cells #[.bool ng, .slice ar L.length cr, .int .i64 x] 31)).alloc (.cells #[.slice none 0 0, .slice none 0 0] 26)) := ((Kept.refl w).alloc _ _).alloc _ _
  have KA : Hid (∀ u, Kept w u → Calls Tryd.prog 9 #[] u fun e w' => e = .returned (.bool true) ∧ Kept u w') := fun u k => alive_true u (hT.kept k)
  have hml : L.length ≤ maxLen := by obtain ⟨_, _, h1, h2, h3, _⟩ := hr; injection h1; omega
  unfold maxLen at hml
  have HKP : Hid (∀ u, Kept ((w.alloc (.cells #[.bool ng, .slice ar L.length cr, .int .i64 x] 31)).alloc (.cells #[.slice none 0 0, .slice none 0 0] 26)) u → KeepAt w u (w.heap.size + 1) (.slice none 0 0) (.slice none 0 0) [] ∧ u.cell? ⟨w.heap.size, 0, none⟩ = some (.bool ng) ∧ u.cell? ⟨w.heap.size, 1, none⟩ = some (.slice ar L.length cr) ∧ u.cell? ⟨w.heap.size, 2, none⟩ = some (.int .i64 x)) := fun u k => by
    refine ⟨keep_none w u _ (hK.trans k) (by omega) ?_, laid3k (((Kept.refl _).alloc _ _).trans k)⟩
    rw [k.below.block (w.heap.size + 1) (by simp)]
    have := heap_alloc_new (w.alloc (.cells #[.bool ng, .slice ar L.length cr, .int .i64 x] 31)) (.cells #[.slice none 0 0, .slice none 0 0] 26)
    simpa using this
  have KP : Hid (∀ u vL vW E, KeepAt w u (w.heap.size + 1) vL vW E → E.length ≤ 2 → Calls Tryd.prog 11 #[.pointer (some ⟨w.heap.size + 1, 0, none⟩)] u fun e w' => e = .returned (.bool true) ∧ Kept w w') := fun u vL vW E h hE => apart_true w u _ vL vW E h (by omega)
  by_cases hbig : 2100 < L.length
  · clear hr hR
    generalize L.length = n at *
    go_enter Tryd.func4, Tryd.ntmps4
    go_wp2_with fail
    refine (KA.out _ hK).mono ?_
    rintro e w1 ⟨rfl, k1⟩
    obtain ⟨hKp, a0, a1, a2⟩ := HKP.out _ k1
    go_wp2_with fail
    refine (KP.out _ _ _ _ hKp (by simp)).mono ?_
    rintro e w2 ⟨rfl, k2⟩
    go_wp2_with fail
    go_ret
    exact ⟨rfl, k2⟩
  · have KO : Hid (∀ u, KeepAt w u (w.heap.size + 1) (.slice none 0 0) (.slice none 0 0) [] → Calls Tryd.prog 12 #[.pointer (some ⟨w.heap.size + 1, 0, none⟩), .agg #[.bool ng, .slice ar L.length cr, .int .i64 x], .int .i64 k0] u fun e w' => e = .returned (.bool true) ∧ ∃ vL' vW' E', KeepAt w w' (w.heap.size + 1) vL' vW' E' ∧ E'.length ≤ 2) := fun u h => ones_true w u hT _ _ _ [] h (by simp) ng L x k0 hk0 hR (by omega) ar cr (fun t kt => hr.kept kt)
    clear hr hR
    generalize L.length = n at *
    go_enter Tryd.func4, Tryd.ntmps4
    go_wp2_with fail
    refine (KA.out _ hK).mono ?_
    rintro e w1 ⟨rfl, k1⟩
    obtain ⟨hKp, a0, a1, a2⟩ := HKP.out _ k1
    go_wp2_with fail
    refine (KO.out _ hKp).mono ?_
    rintro e w2 ⟨rfl, vL, vW, E, h2, hE2⟩
    go_wp2_with fail
    refine (KP.out _ _ _ _ h2 hE2).mono ?_
    rintro e w3 ⟨rfl, k3⟩
    go_wp2_with fail
    go_ret
    exact ⟨rfl, k3⟩
end Go.Proofs.YtbfjnihjookkjaaDoor
