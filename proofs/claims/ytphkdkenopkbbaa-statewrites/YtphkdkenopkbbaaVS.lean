/- Package state: size; check. -/
import Derived.Test.YtphkdkenopkbbaaVO
namespace Go.Proofs.Ytphkdkenopkbbaa
open Go.ChangeShapes Go.WideShapes Go.ChangeAt Go.RowKit
set_option linter.unusedVariables false
set_option linter.unusedSimpArgs false

def szq : List (List Mat) → Int
  | [] => 0
  | l :: Q => 1 + szl l + szq Q
def szS (s : Sta) : Int := 52 + szl s.P + szq s.Q
theorem szq_app (Q K : List (List Mat)) : szq (Q ++ K) = szq Q + szq K := by
  induction Q with
  | nil => simp [szq]
  | cons a l ih => show 1 + szl a + szq (l ++ K) = 1 + szl a + szq l + szq K; rw [ih]; omega
theorem szq_step {Q : List (List Mat)} (i : Nat) (l : List Mat) (h : Q[i]? = some l) : szq (Q.take (i + 1)) = szq (Q.take i) + (1 + szl l) := by
  obtain ⟨hi, rfl⟩ := List.getElem?_eq_some_iff.1 h
  rw [List.take_succ_eq_append_getElem hi, szq_app]
  simp [szq]
def Qks (Q : List (List Mat)) : Prop := ∀ (i : Nat) (l : List Mat), Q[i]? = some l → l.length ≤ 4 ∧ Oks l
theorem Qks.take {Q : List (List Mat)} (h : Qks Q) (n : Nat) : Qks (Q.take n) := fun i m hi => by
  rw [List.getElem?_take] at hi
  split at hi
  · exact h i m hi
  · cases hi
theorem szq_rng {Q : List (List Mat)} (h : Qks Q) : 0 ≤ szq Q ∧ szq Q ≤ 160001 * Q.length := by
  induction Q with
  | nil => simp [szq]
  | cons a l ih =>
    have h1 := szl_rng (h 0 a rfl).2
    have h3 := (h 0 a rfl).1
    have h2 := ih (fun i m hi => h (i + 1) m (by simpa using hi))
    show 0 ≤ 1 + szl a + szq l ∧ 1 + szl a + szq l ≤ 160001 * ((l.length + 1 : Nat) : Int)
    omega
/-- A state in form. -/
structure Frm (s : Sta) : Prop where
  a : stepB s.a = true
  b : stepB s.b = true
  d : stepB s.d = true
  pl : s.P.length ≤ 64
  ql : s.Q.length ≤ 64
  p : Oks s.P
  q : Qks s.Q
theorem Frm.sz {s : Sta} (h : Frm s) : 52 ≤ szS s ∧ szS s ≤ 14000000 := by
  have h1 := szl_rng h.p
  have h2 := szq_rng h.q
  have h3 := h.pl
  have h4 := h.ql
  unfold szS
  omega

set_option maxHeartbeats 4000000 in
set_option maxRecDepth 100000 in
theorem size_any (v : Value) (s : Sta) (hF : Frm s) (w : World) (hS : StI w v s) : Calls Try.prog 47 #[v] w fun e w' => e = .returned (.int .i64 (szS s)) ∧ Kept w w' := by
  obtain ⟨pv, qv, rfl, hP, hQ⟩ := hS
  have HP : Hid (∀ u, Kept w u → Calls Try.prog 64 #[pv] u fun e w' => e = .returned (.int .i64 (szl s.P)) ∧ Kept u w') := fun u ku => sizeOf_any pv s.P (by have := hF.pl; omega) hF.p u (hP.kept ku)
  obtain ⟨pa, pc, rfl, -, -⟩ := hP
  obtain ⟨qa, qc, rfl, hqc, hr⟩ := hQ
  have HR : Hid (∀ (i : Nat) (l : List Mat), s.Q[i]? = some l → ∃ B off la lc, qa = some ⟨B, off, none⟩ ∧ ∀ u, Kept w u → u.cell? ⟨B, off + i, none⟩ = some (.slice la l.length lc) ∧ Calls Try.prog 64 #[.slice la l.length lc] u fun e w' => e = .returned (.int .i64 (szl l)) ∧ Kept u w') := fun i l hi => by
    obtain ⟨B, off, e, h⟩ := hr (by intro e; rw [e] at hi; simp at hi)
    obtain ⟨lv, h1, h2⟩ := h i l hi
    have h3 := hF.q i l hi
    have h4 := fun u (ku : Kept w u) => sizeOf_any lv l (by omega) h3.2 u (h2.kept ku)
    obtain ⟨la, lc, rfl, -, -⟩ := h2
    exact ⟨B, off, la, lc, e, fun u ku => ⟨(ku.below.cell (p := ⟨B, off + i, none⟩) (World.block_lt_of_cell? _ _ h1)).trans h1, h4 u ku⟩⟩
  obtain ⟨f, hf⟩ : ∃ f : Nat → Int, ∀ i, 52 + szl s.P + szq (s.Q.take i) = f i := ⟨_, fun _ => rfl⟩
  have h0 : 52 + szl s.P = f 0 := by rw [← hf]; simp [szq]
  have hN : szS s = f s.Q.length := by rw [← hf, List.take_length]; rfl
  have hp := szl_rng hF.p
  have hpl := hF.pl
  have HF : Hid (∀ (i : Nat) (l : List Mat), s.Q[i]? = some l → f (i + 1) = f i + (1 + szl l) ∧ 0 ≤ f i ∧ f i ≤ 14000000 ∧ 0 ≤ szl l ∧ szl l ≤ 160000) := fun i l hi => by
    rw [← hf, ← hf, szq_step i l hi]
    have h1 := szq_rng (hF.q.take i)
    have h2 : (s.Q.take i).length ≤ 64 := by rw [List.length_take]; have := hF.ql; omega
    have h3 := hF.q i l hi
    have h4 := szl_rng h3.2
    omega
  rw [hN]
  have hql := hF.ql
  obtain ⟨sa, sb, sd, P, Q, lo, ra⟩ := s
  dsimp only at *
  have hzp : IntKind.i64.wrap (52 + szl P) = f 0 := by rw [h0, wrap_i64]; omega
  obtain ⟨n, hn⟩ : ∃ n, Q.length = n := ⟨_, rfl⟩
  rw [hn] at hqc hql ⊢
  have HNn := hid hn
  have HQC := hid (show n ≤ qc ∧ n ≤ 64 from ⟨hqc, hql⟩)
  clear hN hf hn hr hqc hp hpl hF h0 hql
  generalize szl P = sp at *
  generalize P.length = pl at *
  go_enter Try.func47, Try.ntmps47
  go_wp2_with (first | (go_at_call 64; refine (HP.out _ ((Kept.refl w).alloc _ _)).mono ?_; rintro e w1 ⟨rfl, k1⟩; have hbk := (Bk.new w [.int .i64 sa, .int .i64 sb, .int .i64 sd, .slice pa pl pc, .slice qa n qc, .int .i64 lo, .int .i64 ra] 25).kept k1; have e4 := hbk.c 4 _ rfl))
  have kw1 := hid (((Kept.refl w).alloc _ _).trans k1)
  clear k1 hbk e4 HP hzp
  go_loopw [3, 14] (fun sv iv wr => ∃ i : Nat, i ≤ n ∧ sv = .int .i64 (f i) ∧ iv = .int .i64 (i : Int) ∧ Kept w wr) (fun _ iv _ => n - (intOf iv).toNat)
  case atStart => exact ⟨0, Nat.zero_le _, rfl, rfl, kw1.out⟩
  case round =>
    obtain ⟨i, hi, rfl, rfl, kr⟩ := hrel
    by_cases hin : i < n
    · obtain ⟨l, hl⟩ : ∃ l, Q[i]? = some l := ⟨_, List.getElem?_eq_getElem (by rw [HNn.out]; exact hin)⟩
      obtain ⟨B, off, la, lc, rfl, hc⟩ := HR.out i l hl
      obtain ⟨c0, hK⟩ := hc wr kr
      obtain ⟨hs, hf0, hf1, hl0, hl1⟩ := HF.out i l hl
      have hbd : (0 : Int) ≤ (i : Int) ∧ (i : Int) < (n : Int) := by omega
      have hbd2 : (i : Int) < (n : Int) := by omega
      have z2 : IntKind.i64.wrap ((i : Int) + 1) = (i : Int) + 1 := by have := HQC.out; rw [wrap_i64]; omega
      have z5 : IntKind.i64.wrap (1 + szl l) = 1 + szl l := by rw [wrap_i64]; omega
      obtain ⟨f2, hf2⟩ : ∃ f2, f (i + 1) = f2 := ⟨_, rfl⟩
      have z6 : IntKind.i64.wrap (f i + (1 + szl l)) = f2 := by rw [← hf2, hs, wrap_i64]; omega
      have HF2 := hid hf2
      have HK := hid hK
      have hkr := hid kr
      have hin2 := hid hin
      clear hc hK hs hf0 hf1 hl0 hl1 hf2 kr HR HF hl hin
      generalize szl l = sl at *
      go_wp2_with (first | (go_at_call 64; refine HK.out.mono ?_; rintro e w5 ⟨rfl, k5⟩))
      go_roundw
      case rel => exact ⟨i + 1, by have := hin2.out; omega, by rw [HF2.out], by go_num, hkr.out.trans k5⟩
      case measure => have := hin2.out; simp [intOf]; omega
    · obtain rfl : i = n := by omega
      have hge : ¬ ((i : Int) < (i : Int)) := by omega
      go_wp2_with fail
      go_ret
      exact ⟨rfl, kr⟩
end Go.Proofs.Ytphkdkenopkbbaa
