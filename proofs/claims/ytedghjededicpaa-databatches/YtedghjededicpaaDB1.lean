/- Batches, Order, Batch of package data. -/
import Derived.Test.YtedghjededicpaaDB0
import Derived.Test.YtedghjededicpaaGP
import Derived.Test.YtedghjededicpaaDS1
namespace Go.Proofs.Ytedghjededicpaa
open Go.ChangeShapes Go.WideShapes Go.ChangeAt Go.RowKit
set_option linter.unusedVariables false
set_option linter.unusedSimpArgs false

set_option maxHeartbeats 4000000 in
set_option maxRecDepth 100000 in
theorem batches_ok (n s k : Nat) (hn : 0 < n) (hn4 : n ≤ 4096) (hs : 0 < s) (hs4 : s ≤ 256) (hk : (n + s - 1) / s = k) (w : World) : Calls Try.prog 7 #[.int .i64 n, .int .i64 s] w fun e w' => e = .returned (.tuple #[.int .i64 k, .int .i64 0]) ∧ Kept w w' := by
  have g0 : ¬ (n : Int) < 1 := by omega
  have g1 : ¬ (s : Int) < 1 := by omega
  have g2 : ¬ (4096 : Int) < (n : Int) := by omega
  have g3 : ¬ (256 : Int) < (s : Int) := by omega
  have v4 : decide (4096 < n) = false := decide_eq_false (by omega)
  have v5 : decide (256 < s) = false := decide_eq_false (by omega)
  have hs0 : ¬ (s : Int) = 0 := by omega
  have z1 : IntKind.i64.wrap ((n : Int) + (s : Int)) = (n : Int) + (s : Int) := by rw [wrap_i64]; omega
  have z2 : IntKind.i64.wrap ((n : Int) + (s : Int) - 1) = (n : Int) + (s : Int) - 1 := by rw [wrap_i64]; omega
  have zk : ((n : Int) + (s : Int) - 1).tdiv (s : Int) = (k : Int) := by
    rw [show (n : Int) + (s : Int) - 1 = ((n + s - 1 : Nat) : Int) by omega, Int.tdiv_eq_ediv_of_nonneg (Int.natCast_nonneg _), ← hk]
    rfl
  have hkn : k ≤ n + s - 1 := by rw [← hk]; exact Nat.div_le_self _ _
  have zk2 : IntKind.i64.wrap (k : Int) = (k : Int) := by rw [wrap_i64]; omega
  clear hk
  go_enter Try.func7, Try.ntmps7
  go_wp2
  exact bodyPost_ret (v := .tuple #[.int .i64 k, .int .i64 0]) (by simp [results, Try.results7, go_sem, *]) rfl ⟨rfl, Kept.refl _⟩

set_option maxHeartbeats 4000000 in
set_option maxRecDepth 100000 in
theorem batches_e (n p q : Int) (hq : (n < 1 ∨ p < 1) ∧ q = 1 ∨ ¬ (n < 1 ∨ p < 1) ∧ (4096 < n ∨ 256 < p) ∧ q = 2) (w : World) : Calls Try.prog 7 #[.int .i64 n, .int .i64 p] w fun e w' => e = .returned (.tuple #[.int .i64 0, .int .i64 q]) ∧ Kept w w' := by
  go_enter Try.func7, Try.ntmps7
  rcases hq with ⟨h, rfl⟩ | ⟨h, h2, rfl⟩
  · by_cases h0 : n < 1
    · go_wp2
      exact bodyPost_ret (v := .tuple #[.int .i64 0, .int .i64 1]) (by simp [results, Try.results7, go_sem, *]) rfl ⟨rfl, Kept.refl _⟩
    · have h1 : p < 1 := by omega
      clear h
      go_wp2
      exact bodyPost_ret (v := .tuple #[.int .i64 0, .int .i64 1]) (by simp [results, Try.results7, go_sem, *]) rfl ⟨rfl, Kept.refl _⟩
  · have h0 : ¬ n < 1 := by omega
    have h1 : ¬ p < 1 := by omega
    clear h
    by_cases h3 : 4096 < n
    · clear h2
      go_wp2
      exact bodyPost_ret (v := .tuple #[.int .i64 0, .int .i64 2]) (by simp [results, Try.results7, go_sem, *]) rfl ⟨rfl, Kept.refl _⟩
    · have h4 : 256 < p := by omega
      clear h2
      go_wp2
      exact bodyPost_ret (v := .tuple #[.int .i64 0, .int .i64 2]) (by simp [results, Try.results7, go_sem, *]) rfl ⟨rfl, Kept.refl _⟩

/-- an epoch's order -/
def ord (s ep : Int) (n : Nat) : List Int := (shuf s (IntKind.i64.wrap (-1 - ep)) 0 n).1
theorem ech_ord (s ep : Int) (n : Nat) (hn : n ≤ 4096) : Ech n (ord s ep n) := ech_shuf _ _ _ _ (by omega)

set_option maxHeartbeats 4000000 in
set_option maxRecDepth 100000 in
theorem order_ok (n : Nat) (hn : 0 < n) (hn4 : n ≤ 4096) (s ep : Int) (hep : 0 ≤ ep) (w : World) : Calls Try.prog 5 #[.int .i64 n, .int .i64 s, .int .i64 ep] w fun e w' => ∃ g, e = .returned (.tuple #[.slice (some ⟨g, 0, none⟩) n n, .int .i64 0]) ∧ w.heap.size ≤ g ∧ Own w' g n (ord s ep n) ∧ Kept w w' := by
  have g0 : ¬ (n : Int) < 1 := by omega
  have g1 : ¬ ep < 0 := by omega
  have g2 : ¬ (4096 : Int) < (n : Int) := by omega
  have v4 : decide (4096 < n) = false := decide_eq_false (by omega)
  obtain ⟨t, ht⟩ : ∃ t, IntKind.i64.wrap (-1 - ep) = t := ⟨_, rfl⟩
  have HO : Hid (∀ u : World, Calls Try.prog 15 #[.agg #[.int .i64 s, .int .i64 t, .int .i64 0], .int .i64 n] u fun e w' => ∃ P, e = .returned (.tuple #[.slice (some ⟨u.heap.size + 4, 0, none⟩) n n, .agg #[.int .i64 s, .int .i64 t, .int .i64 P], .int .i64 0]) ∧ Own w' (u.heap.size + 4) n (ord s ep n) ∧ Kept u w') := fun u => (shuffle_ok s t 0 n (by omega) u).mono fun e w' ⟨h1, h2, h3⟩ => ⟨_, h1, by unfold ord; rw [ht]; exact h2, h3⟩
  go_enter Try.func5, Try.ntmps5
  go_wp2_with fail
  refine (HO.out _).mono ?_
  rintro e w1 ⟨P, rfl, ho, hk⟩
  have hlt := ho.lt
  obtain ⟨g, hg⟩ : ∃ g, g = w.heap.size + 4 := ⟨_, rfl⟩
  have hgw : w.heap.size ≤ g := by omega
  first
    | rw [← hg] at ho ⊢
    | skip
  clear hg
  go_wp2
  exact bodyPost_ret (v := .tuple #[.slice (some ⟨g, 0, none⟩) n n, .int .i64 0]) (by simp [results, Try.results5, go_sem, *]) rfl ⟨g, rfl, hgw, ho.kept ((Kept.refl _).alloc _ _), hk.alloc _ _⟩

/-- what Batch leaves in the order's memory -/
def bord (L : List Int) (f m : Nat) : List Int := L.take f ++ srt (bpt L f m) ++ L.drop (f + m)

set_option maxHeartbeats 4000000 in
set_option maxRecDepth 100000 in
theorem batch_ok (n s k b f m : Nat) (hn : 0 < n) (hn4 : n ≤ 4096) (hs : 0 < s) (hs4 : s ≤ 256) (hk : (n + s - 1) / s = k) (hb : b < k) (hbk : b ≤ 4096) (hf : b * s = f) (hm : min n ((b + 1) * s) = f + m) (hm0 : 0 < m) (sd ep : Int) (hep : 0 ≤ ep) (w : World) : Calls Try.prog 9 #[.int .i64 n, .int .i64 s, .int .i64 sd, .int .i64 ep, .int .i64 b] w fun e w' => ∃ g, e = .returned (.tuple #[.slice (some ⟨g, f, none⟩) m m, .int .i64 0]) ∧ w.heap.size ≤ g ∧ Own w' g n (bord (ord sd ep n) f m) ∧ Below w.heap.size w w' := by
  have HB : Hid (∀ u : World, Calls Try.prog 7 #[.int .i64 n, .int .i64 s] u fun e w' => e = .returned (.tuple #[.int .i64 k, .int .i64 0]) ∧ Kept u w') := fun u => batches_ok n s k hn hn4 hs hs4 hk u
  have HO : Hid (∀ u : World, Calls Try.prog 5 #[.int .i64 n, .int .i64 sd, .int .i64 ep] u fun e w' => ∃ g, e = .returned (.tuple #[.slice (some ⟨g, 0, none⟩) n n, .int .i64 0]) ∧ u.heap.size ≤ g ∧ Own w' g n (ord sd ep n) ∧ Kept u w') := fun u => order_ok n hn hn4 sd ep hep u
  have hL := (ech_ord sd ep n hn4).len
  obtain ⟨q, hq⟩ : ∃ q : Nat, (b + 1) * s = q := ⟨_, rfl⟩
  rw [hq] at hm
  have hfq : f + s = q := by rw [← hf, ← hq, Nat.succ_mul]
  have hfn : f + m ≤ n := by rw [← hm]; exact Nat.min_le_left _ _
  have hqb : q ≤ 4097 * 256 := by rw [← hq]; exact Nat.mul_le_mul (by omega) hs4
  have b1 : ¬ (b : Int) < 0 := by omega
  have b2 : ¬ (k : Int) ≤ (b : Int) := by omega
  have v2 : decide ((k : Int) ≤ (b : Int)) = false := decide_eq_false b2
  have v3 : decide (k ≤ b) = false := decide_eq_false (by omega)
  have z1 : IntKind.i64.wrap ((b : Int) * (s : Int)) = (f : Int) := by rw [← Int.natCast_mul, hf, wrap_i64]; omega
  have z2 : IntKind.i64.wrap ((b : Int) + 1) = (b : Int) + 1 := by rw [wrap_i64]; omega
  have z3 : IntKind.i64.wrap (((b : Int) + 1) * (s : Int)) = (q : Int) := by rw [show (b : Int) + 1 = ((b + 1 : Nat) : Int) by omega, ← Int.natCast_mul, hq, wrap_i64]; omega
  obtain ⟨t, ht⟩ : ∃ t : Nat, t = f + m := ⟨_, rfl⟩
  have zm : min (n : Int) (q : Int) = (t : Int) := by omega
  have zm2 : min (q : Int) (n : Int) = (t : Int) := by omega
  have c1 : ¬ t = f := by omega
  have c2 : f ≤ t := by omega
  have c3 : t ≤ n := by omega
  have c4 : (f : Int) ≤ (t : Int) := by omega
  have c5 : (t : Int) ≤ (n : Int) := by omega
  have c6 : t - f = m := by omega
  have HS : Hid (∀ (u : World) (g : Nat), Own u g n (ord sd ep n) → Calls Try.prog 17 #[.slice (some ⟨g, f, none⟩) m m] u fun e w' => e = .returned (.tuple #[]) ∧ Own w' g n (bord (ord sd ep n) f m) ∧ u.grownBy w' (some g)) := fun u g h => sort_part (ord sd ep n) (by omega) g n f m (by omega) m u h
  clear hk hf hm hq hfq hfn ht hL hqb
  go_enter Try.func9, Try.ntmps9
  go_wp2_with fail
  refine (HB.out _).mono ?_
  rintro e w1 ⟨rfl, hk1⟩
  go_wp2_with fail
  refine (HO.out _).mono ?_
  rintro e w2 ⟨g, rfl, hg, ho, hk2⟩
  have hK := hk1.trans hk2
  have hgw : w.heap.size ≤ g := Nat.le_trans hk1.below.size hg
  clear hk1 hk2 hg
  go_wp2_with fail
  refine (HS.out _ _ ho).mono ?_
  rintro e w3 ⟨rfl, hos, hgr⟩
  have p3 : Below w.heap.size w w3 := hK.below.grown hgr hK.below.size (fun i e => by cases e; omega)
  go_wp2
  exact bodyPost_ret (v := .tuple #[.slice (some ⟨g, f, none⟩) m m, .int .i64 0]) (by simp [results, Try.results9, go_sem, *]) rfl ⟨g, rfl, hgw, hos, p3⟩

end Go.Proofs.Ytedghjededicpaa
