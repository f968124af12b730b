/- The laws' book of lists: marks; lists that are the same; kinds of which none is kept. -/
import Derived.Test.YtedghjededicpaaU1
import Derived.Test.YtedghjededicpaaD15
namespace Go.Proofs.Ytedghjededicpaa
open Go.ChangeShapes Go.WideShapes Go.ChangeAt Go.RowKit
set_option linter.unusedVariables false
set_option linter.unusedSimpArgs false

/-- the marks of the list i, from a place on, so many -/
def mkl (i a : Int) (n : Nat) : List Int := (List.range n).map fun (k : Nat) => -1000000 * i - (a + (k : Int)) - 7
theorem mkl_len (i a : Int) (n : Nat) : (mkl i a n).length = n := by simp [mkl]
theorem mkl_succ (i a : Int) (n : Nat) : mkl i a n ++ [-1000000 * i - (a + (n : Int)) - 7] = mkl i a (n + 1) := by simp [mkl, List.range_succ]
set_option maxHeartbeats 2000000 in
set_option maxRecDepth 100000 in
theorem markInts_any (i a : Int) (n : Nat) (hi : 0 ≤ i ∧ i ≤ 1000) (ha : 0 ≤ a ∧ a ≤ 1000000) (hn : n ≤ 1000000) (w : World) : Calls Try.prog 62 #[.int .i64 i, .int .i64 a, .int .i64 (n : Int)] w fun e w' => ∃ v, e = .returned v ∧ MR w.heap.size w' v (mkl i a n) ∧ Kept w w' := by
  have z1 : IntKind.i64.wrap (a + (n : Int)) = a + (n : Int) := by rw [wrap_i64]; omega
  have z2 : IntKind.i64.wrap (-1000000 * i) = -1000000 * i := by rw [wrap_i64]; omega
  have HI := (show Hid (0 ≤ i ∧ i ≤ 1000) from hi)
  have HA := (show Hid (0 ≤ a ∧ a ≤ 1000000) from ha)
  clear hi ha
  go_enter Try.func62, Try.ntmps62
  go_wp2_with fail
  go_loopw [7, 8] (fun v kv wr => ∃ k : Nat, k ≤ n ∧ kv = .int .i64 (a + (k : Int)) ∧ MR w.heap.size wr v (mkl i a k) ∧ Kept w wr) (fun _ kv _ => n - (intOf kv - a).toNat)
  case atStart => exact ⟨0, Nat.zero_le _, by simp, .inl ⟨rfl, rfl⟩, Kept.refl w⟩
  case round =>
    obtain ⟨k, hk, rfl, hM, kr⟩ := hrel
    by_cases hkn : k < n
    · obtain ⟨v', w', hr, hM', hK⟩ := app_step w.heap.size wr u7 (mkl i a k) hM (-1000000 * i - (a + (k : Int)) - 7) kr.below.size (by rw [mkl_len]; omega)
      rw [mkl_succ] at hM'
      have kk := hK w (Nat.le_refl _) kr
      have d1 : a + (k : Int) < a + (n : Int) := by omega
      have z3 : IntKind.i64.wrap (-1000000 * i - (a + (k : Int))) = -1000000 * i - (a + (k : Int)) := by have h1 := HI.out; have h2 := HA.out; rw [wrap_i64]; omega
      have z4 : IntKind.i64.wrap (-1000000 * i - (a + (k : Int)) - 7) = -1000000 * i - (a + (k : Int)) - 7 := by have h1 := HI.out; have h2 := HA.out; rw [wrap_i64]; omega
      have z5 : IntKind.i64.wrap (a + (k : Int) + 1) = a + (k : Int) + 1 := by have h2 := HA.out; rw [wrap_i64]; omega
      clear hM hK
      go_wp2_with (first | (at_builtin; refine wpList_append_run rfl _ _ _ rfl _ _ rfl rfl _ _ (hr _) ?_))
      go_roundw
      case rel => exact ⟨k + 1, by omega, by (try simp only [Value.int.injEq, true_and]); omega, hM', kk⟩
      case measure => simp [intOf]; omega
    · obtain rfl : k = n := by omega
      have d1 : ¬ a + (k : Int) < a + (k : Int) := by omega
      go_wp2_with fail
      go_ret
      exact ⟨_, rfl, hM, kr⟩
set_option maxHeartbeats 2000000 in
set_option maxRecDepth 100000 in
theorem sameInts_any (L : List Int) (hL : L.length ≤ 1000000) (a b : Option Addr) (ca cb : Nat) (w : World) (ha : Sl w (.slice a L.length ca) L) (hb : Sl w (.slice b L.length cb) L) : Calls Try.prog 54 #[.slice a L.length ca, .slice b L.length cb] w fun e w' => e = .returned (.bool true) ∧ Kept w w' := by
  by_cases h0 : L = []
  · subst h0
    go_enter Try.func54, Try.ntmps54
    go_wp2_with fail
    refine wp_loop_rounds 1 ?_
    rw [rounds_succ]
    go_wp2_with fail
    go_ret
    exact ⟨rfl, Kept.refl w⟩
  · obtain ⟨ao, c, e, -, -, f⟩ := ha
    obtain ⟨ba, o1, rfl, b1, r1⟩ := f h0
    simp only [Value.slice.injEq] at e
    obtain ⟨rfl, -, rfl⟩ := e
    obtain ⟨bo, c, e, -, -, f⟩ := hb
    obtain ⟨bb, o2, rfl, b2, r2⟩ := f h0
    simp only [Value.slice.injEq] at e
    obtain ⟨rfl, -, rfl⟩ := e
    have hn : ((L.length : Int) != (L.length : Int)) = false := by simp
    go_enter Try.func54, Try.ntmps54
    go_wp2_with fail
    go_loopw [5] (fun kv wr => ∃ k : Nat, k ≤ L.length ∧ kv = .int .i64 (k : Int) ∧ Kept w wr) (fun kv _ => L.length - (intOf kv).toNat)
    case atStart => exact ⟨0, Nat.zero_le _, rfl, Kept.refl w⟩
    case round =>
      obtain ⟨k, hk, rfl, kr⟩ := hrel
      by_cases hkn : k < L.length
      · have q1 := (kr.below.cell (p := ⟨ba, o1 + k, none⟩) b1).trans (r1 k hkn)
        have q2 := (kr.below.cell (p := ⟨bb, o2 + k, none⟩) b2).trans (r2 k hkn)
        generalize L.getD k 0 = x at *
        generalize L.length = l at *
        go_upto_region 6 with fail
        go_quiet (fail)
        go_wp2_with fail
        go_roundw
        case rel => exact ⟨k + 1, by omega, by go_num, by first | exact kr | exact kr.drew | exact kr.drewN _⟩
        case measure => simp [intOf]; omega
      · obtain rfl : k = L.length := by omega
        go_wp2_with fail
        go_ret
        exact ⟨rfl, kr⟩
end Go.Proofs.Ytedghjededicpaa
