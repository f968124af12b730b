/- The walks of the laws' own Same and SameNum at what is the same. -/
import Derived.Test.YtakdnodgcdddeaaD3
namespace Go.Proofs.Ytakdnodgcdddeaa
open Go.ChangeShapes Go.WideShapes Go.ChangeAt Go.RowKit
set_option linter.unusedVariables false
set_option linter.unusedSimpArgs false

set_option maxHeartbeats 400000 in
theorem same_nil (a b : Option Addr) (c d : Nat) (w : World) : Calls Try.prog 21 #[.slice a 0 c, .slice b 0 d] w fun e w' => e = .returned (.bool true) ∧ Kept w w' := by
  go_enter Try.func21, Try.ntmps21
  go_wp2
  refine wp_loop_rounds 1 ?_
  rw [rounds_succ]
  go_wp2
  go_ret
  exact ⟨rfl, Kept.refl _⟩

set_option maxHeartbeats 1000000 in
set_option maxRecDepth 100000 in
theorem same_some (L : List Int) (hlen : L.length < 100000000) (b1 o1 c1 b2 o2 c2 : Nat) (w : World) (hb1 : b1 < w.heap.size) (hb2 : b2 < w.heap.size) (h1 : Reads w b1 o1 L) (h2 : Reads w b2 o2 L) : Calls Try.prog 21 #[.slice (some ⟨b1, o1, none⟩) L.length c1, .slice (some ⟨b2, o2, none⟩) L.length c2] w fun e w' => e = .returned (.bool true) ∧ Kept w w' := by
  have H1 : Hid (∀ u, Kept w u → Reads u b1 o1 L) := fun u k => h1.kept hb1 k
  have H2 : Hid (∀ u, Kept w u → Reads u b2 o2 L) := fun u k => h2.kept hb2 k
  obtain ⟨n, hn⟩ : ∃ n, n = L.length := ⟨_, rfl⟩
  have HN : Hid (n = L.length) := hn
  rw [← hn] at hlen ⊢
  clear h1 h2 hn hb1 hb2
  go_enter Try.func21, Try.ntmps21
  go_wp2
  go_loopw [5] (fun i wr => ∃ k : Nat, k ≤ n ∧ i = .int .i64 k ∧ Kept w wr) (fun i _ => n - (intOf i).toNat)
  case atStart => exact ⟨0, Nat.zero_le _, rfl, Kept.refl _⟩
  case round =>
    obtain ⟨k, hk, rfl, hK⟩ := hrel
    by_cases hkn : k < n
    · have c1 := H1.out _ hK k (by rw [← HN.out]; exact hkn)
      have c2 := H2.out _ hK k (by rw [← HN.out]; exact hkn)
      generalize L.getD k 0 = d at c1 c2
      have hdd : (d != d) = false := by simp
      go_wp2
      go_quiet (fail)
      go_wp2
      go_roundw
      case rel => exact ⟨k + 1, by omega, by go_num, hK.drewN _⟩
      case measure => simp [intOf]; omega
    · obtain rfl : k = n := by omega
      go_wp2
      go_ret
      exact ⟨rfl, hK⟩

theorem same_true (L : List Int) (hlen : L.length < 100000000) (u v : Value) (w : World) (h1 : Sl w u L) (h2 : Sl w v L) : Calls Try.prog 21 #[u, v] w fun e w' => e = .returned (.bool true) ∧ Kept w w' := by
  obtain ⟨a, c, rfl, -, -, r1⟩ := h1
  obtain ⟨b, d, rfl, -, -, r2⟩ := h2
  by_cases hne : L = []
  · subst hne; exact same_nil a b c d w
  · obtain ⟨b1, o1, rfl, hb1, r1⟩ := r1 hne
    obtain ⟨b2, o2, rfl, hb2, r2⟩ := r2 hne
    exact same_some L hlen b1 o1 c b2 o2 d w hb1 hb2 r1 r2

end Go.Proofs.Ytakdnodgcdddeaa
