/- Package state: how many bytes a list of matrices, a state has. -/
import Derived.Test.YtphkdkenopkbbaaVN
namespace Go.Proofs.Ytphkdkenopkbbaa
open Go.ChangeShapes Go.WideShapes Go.ChangeAt Go.RowKit
set_option linter.unusedVariables false
set_option linter.unusedSimpArgs false

def szM (m : Mat) : Int := 5 + Int.tdiv ((m.L.length : Int) * m.n) 8
def szl : List Mat → Int
  | [] => 0
  | m :: l => szM m + szl l
theorem szl_app (l k : List Mat) : szl (l ++ k) = szl l + szl k := by
  induction l with
  | nil => simp [szl]
  | cons a l ih => show szM a + szl (l ++ k) = szM a + szl l + szl k; rw [ih]; omega
theorem szM_rng {m : Mat} (h : matOk m) : 5 ≤ szM m ∧ szM m ≤ 40000 ∧ (m.n = 64 ∨ m.n = 32) ∧ m.L.length ≤ 4096 ∧ 1 ≤ m.L.length ∧ 1 ≤ m.r ∧ 1 ≤ m.c ∧ m.r ≤ 4096 ∧ m.c ≤ 4096 ∧ szM m = 5 + (m.L.length : Int) * (Int.tdiv m.n 8) := by
  obtain ⟨h1, h2, h3⟩ := ckM_ok h.1
  obtain ⟨h4, h5, h6, h7⟩ := ckS_ok h1
  have h8 := le_of_mul h5 h6
  unfold szM
  have hl : (m.L.length : Int) ≤ 4096 := by omega
  have hl1 : 1 ≤ (m.L.length : Int) := by omega
  rcases h4 with e | e
  · rw [e, show Int.tdiv 64 8 = 8 from rfl, Int.tdiv_eq_ediv_of_nonneg (by omega)]
    omega
  · rw [e, show Int.tdiv 32 8 = 4 from rfl, Int.tdiv_eq_ediv_of_nonneg (by omega)]
    omega
theorem szl_rng {l : List Mat} (h : Oks l) : 0 ≤ szl l ∧ szl l ≤ 40000 * l.length := by
  induction l with
  | nil => simp [szl]
  | cons a l ih =>
    have h1 := szM_rng (h 0 a rfl)
    have h2 := ih (fun i m hi => h (i + 1) m (by simpa using hi))
    show 0 ≤ szM a + szl l ∧ szM a + szl l ≤ 40000 * ((l.length + 1 : Nat) : Int)
    omega
theorem Oks.take {l : List Mat} (h : Oks l) (n : Nat) : Oks (l.take n) := fun i m hi => by
  rw [List.getElem?_take] at hi
  split at hi
  · exact h i m hi
  · cases hi
theorem szl_step {l : List Mat} (i : Nat) (m : Mat) (h : l[i]? = some m) : szl (l.take (i + 1)) = szl (l.take i) + szM m := by
  obtain ⟨hi, rfl⟩ := List.getElem?_eq_some_iff.1 h
  rw [List.take_succ_eq_append_getElem hi, szl_app]
  simp [szl]

set_option maxHeartbeats 4000000 in
set_option maxRecDepth 100000 in
theorem sizeOf_any (v : Value) (l : List Mat) (hlen : l.length ≤ 100) (hok : Oks l) (w : World) (hL : MlI w v l) : Calls Try.prog 64 #[v] w fun e w' => e = .returned (.int .i64 (szl l)) ∧ Kept w w' := by
  obtain ⟨ao, cap, rfl, hlc, hr⟩ := hL
  have HR : Hid (∀ u, Kept w u → ∀ i m, l[i]? = some m → ∃ B off a cp, ao = some ⟨B, off, none⟩ ∧ MC u B (off + i * 4) a cp m) := fun u ku i m hi => by
    obtain ⟨B, off, e, h⟩ := hr (by intro e; rw [e] at hi; simp at hi)
    obtain ⟨a, cp, hm⟩ := h i m hi
    exact ⟨B, off, a, cp, e, hm.kept ku⟩
  obtain ⟨f, hf⟩ : ∃ f : Nat → Int, ∀ i, szl (l.take i) = f i := ⟨_, fun _ => rfl⟩
  have h0 : f 0 = 0 := by rw [← hf]; rfl
  have hN : szl l = f l.length := by rw [← hf, List.take_length]
  have HF : Hid (∀ i m, l[i]? = some m → f (i + 1) = f i + szM m ∧ 0 ≤ f i ∧ f i ≤ 4000000 ∧ matOk m) := fun i m hi => by
    rw [← hf, ← hf, szl_step i m hi]
    have h1 := szl_rng (hok.take i)
    have h2 : (l.take i).length ≤ 100 := by rw [List.length_take]; omega
    exact ⟨rfl, h1.1, by omega, hok i m hi⟩
  rw [hN]
  clear hN hf
  obtain ⟨n, hn⟩ : ∃ n, l.length = n := ⟨_, rfl⟩
  rw [hn] at hlen hlc ⊢
  have HN := hid hn
  have HLC := hid (show n ≤ cap ∧ n ≤ 100 from ⟨hlc, hlen⟩)
  clear hn hr hlc hlen
  go_enter Try.func64, Try.ntmps64
  go_wp2_with fail
  go_loopw [3, 8] (fun sv iv wr => ∃ i : Nat, i ≤ n ∧ sv = .int .i64 (f i) ∧ iv = .int .i64 (i : Int) ∧ Kept w wr) (fun _ iv _ => n - (intOf iv).toNat)
  case atStart => exact ⟨0, Nat.zero_le _, by rw [h0], rfl, Kept.refl w⟩
  case round =>
    obtain ⟨i, hi, rfl, rfl, kr⟩ := hrel
    by_cases hin : i < n
    · obtain ⟨m, hm⟩ : ∃ m, l[i]? = some m := ⟨_, List.getElem?_eq_getElem (by rw [HN.out]; exact hin)⟩
      obtain ⟨B, off, a, cp, rfl, mc⟩ := HR.out wr kr i m hm
      obtain ⟨hs, hf0, hf1, hmo⟩ := HF.out i m hm
      obtain ⟨s1, s2, s3, s4, s5, -⟩ := szM_rng hmo
      have hbd : (0 : Int) ≤ (i : Int) ∧ (i : Int) < (n : Int) := by omega
      have hbd2 : (i : Int) < (n : Int) := by omega
      have z2 : IntKind.i64.wrap ((i : Int) + 1) = (i : Int) + 1 := by have := HLC.out; rw [wrap_i64]; omega
      obtain ⟨c0, c1, c2, c3, sl⟩ := mc
      unfold szM at hs s1 s2
      obtain ⟨r, c, nn, L⟩ := m
      dsimp only at c0 c1 c2 c3 sl hs s1 s2 s3 s4 s5
      obtain ⟨N, hN⟩ : ∃ N, L.length = N := ⟨_, rfl⟩
      rw [hN] at c3 hs s1 s2 s4 s5
      obtain ⟨K, hK⟩ : ∃ K, (N : Int) * nn = K := ⟨_, rfl⟩
      have hK0 : 0 ≤ K ∧ K ≤ 300000 := by rcases s3 with e | e <;> subst e <;> omega
      have zK : IntKind.i64.wrap ((N : Int) * nn) = K := by rw [hK, wrap_i64]; omega
      rw [hK] at hs s1 s2
      obtain ⟨E, hE⟩ : ∃ E, Int.tdiv K 8 = E := ⟨_, rfl⟩
      rw [hE] at hs s1 s2
      have zE : wrap64 E = E := by unfold wrap64; omega
      have z5 : IntKind.i64.wrap (5 + E) = 5 + E := by rw [wrap_i64]; omega
      have z6 : IntKind.i64.wrap (f i + (5 + E)) = f (i + 1) := by rw [hs, wrap_i64]; omega
      have hin2 := hid hin
      clear hs s1 s2 s3 s4 s5 hN hK hK0 hf0 hf1 hmo hm sl HR HF
      obtain ⟨f2, hf2⟩ : ∃ f2, f (i + 1) = f2 := ⟨_, rfl⟩
      rw [hf2] at z6
      have HF2 := hid hf2
      clear hf2
      go_wp2_with fail
      go_roundw
      case rel => exact ⟨i + 1, by omega, by rw [HF2.out], by go_num, kr.alloc _ _⟩
      case measure => simp [intOf]; omega
    · obtain rfl : i = n := by omega
      have hge : ¬ ((i : Int) < (i : Int)) := by omega
      go_wp2_with fail
      go_ret
      exact ⟨rfl, kr⟩
end Go.Proofs.Ytphkdkenopkbbaa
