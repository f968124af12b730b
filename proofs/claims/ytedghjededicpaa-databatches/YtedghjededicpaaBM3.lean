/- The laws' own test of lists of ints, chapter 19's. -/
import Derived.Test.YtedghjededicpaaBL10
import Derived.Test.YtedghjededicpaaDS1
namespace Go.Proofs.Ytedghjededicpaa
open Go.ChangeShapes Go.WideShapes Go.ChangeAt Go.RowKit
set_option linter.unusedVariables false
set_option linter.unusedSimpArgs false

set_option maxHeartbeats 2000000 in
set_option maxRecDepth 100000 in
theorem same19_any (L : List Int) (a b : Option Addr) (ca cb : Nat) (w : World) (ha : Sl w (.slice a L.length ca) L) (hb : Sl w (.slice b L.length cb) L) : Calls Try.prog 12 #[.slice a L.length ca, .slice b L.length cb] w fun e w' => e = .returned (.bool true) ∧ Kept w w' := by
  by_cases h0 : L = []
  · subst h0
    go_enter Try.func12, Try.ntmps12
    go_wp2_with fail
    refine wp_loop_rounds 1 ?_
    rw [rounds_succ]
    go_wp2_with fail
    go_ret
    exact ⟨rfl, Kept.refl w⟩
  · obtain ⟨ao, c, e, hc1, hc2, f⟩ := ha
    obtain ⟨ba, o1, rfl, b1, r1⟩ := f h0
    simp only [Value.slice.injEq] at e
    obtain ⟨rfl, -, rfl⟩ := e
    obtain ⟨bo, c, e, -, -, f⟩ := hb
    obtain ⟨bb, o2, rfl, b2, r2⟩ := f h0
    simp only [Value.slice.injEq] at e
    obtain ⟨rfl, -, rfl⟩ := e
    have hn : ((L.length : Int) != (L.length : Int)) = false := by simp
    have hmx : L.length ≤ 9223372036854775807 := by simp [maxLen] at hc2; omega
    clear hc1 hc2
    go_enter Try.func12, Try.ntmps12
    go_wp2_with fail
    go_loopw [5] (fun kv wr => ∃ k : Nat, k ≤ L.length ∧ kv = .int .i64 (k : Int) ∧ Kept w wr) (fun kv _ => L.length - (intOf kv).toNat)
    case atStart => exact ⟨0, Nat.zero_le _, rfl, Kept.refl w⟩
    case round =>
      obtain ⟨k, hk, rfl, kr⟩ := hrel
      by_cases hkn : k < L.length
      · have q1 := (kr.below.cell (p := ⟨ba, o1 + k, none⟩) b1).trans (r1 k hkn)
        have q2 := (kr.below.cell (p := ⟨bb, o2 + k, none⟩) b2).trans (r2 k hkn)
        have z1 : IntKind.i64.wrap ((k : Int) + 1) = (k : Int) + 1 := by rw [wrap_i64]; omega
        generalize L.getD k 0 = x at *
        have e3 : (x != x) = false := by simp
        generalize L.length = l at *
        go_upto_region 6 with fail
        go_quiet (fail)
        go_wp2_with fail
        go_roundw
        case rel => exact ⟨k + 1, by omega, by go_num, by first | exact kr | exact kr.drew | exact kr.drewN _⟩
        case measure => simp [intOf]; omega
      · obtain rfl : k = L.length := by omega
        go_wp2_with fail
        go_ret
        exact ⟨rfl, kr⟩
end Go.Proofs.Ytedghjededicpaa
