/- The law BitsChain, for any three ints and every width. -/
import Derived.Test.YtebjkfecijeehabChain
namespace Go.Proofs.Ytebjkfecijeehab
open Go.ChangeShapes Go.WideShapes Go.ChangeAt Go.RowKit

theorem mn_bd (a b n : Int) (ha1 : -9223372036854775808 ≤ a) (ha2 : a ≤ 9223372036854775807) (hb1 : -9223372036854775808 ≤ b) (hb2 : b ≤ 9223372036854775807) : -9223372036854775808 ≤ mn a b n ∧ mn a b n ≤ 9223372036854775807 := by
  have := nanOf_bd n
  unfold mn
  (repeat' split) <;> omega
theorem mx_bd (a b n : Int) (ha1 : -9223372036854775808 ≤ a) (ha2 : a ≤ 9223372036854775807) (hb1 : -9223372036854775808 ≤ b) (hb2 : b ≤ 9223372036854775807) : -9223372036854775808 ≤ mx a b n ∧ mx a b n ≤ 9223372036854775807 := by
  have := nanOf_bd n
  unfold mx
  (repeat' split) <;> omega

theorem chain_suffix (a b n : Int) (qa : -9223372036854775808 ≤ a ∧ a ≤ 9223372036854775807) (qb : -9223372036854775808 ≤ b ∧ b ≤ 9223372036854775807) (hn : n = 64 ∨ n = 32) :
    ((cls a n == 4) = true ∧ (cls (mn a b n) n == 4) = true ∧ (mn a b n == mx a b n) = true) ∨
    ((cls a n == 4) = false ∧ (cls b n == 4) = true ∧ (cls (mn a b n) n == 4) = true ∧ (mn a b n == mx a b n) = true) ∨
    ((cls a n == 4) = false ∧ (cls b n == 4) = false ∧ (mn a b n == a) = true ∧ (mx a b n == b) = true ∧ ord (mn a b n) (mx a b n) n ≤ 0) ∨
    ((cls a n == 4) = false ∧ (cls b n == 4) = false ∧ (mn a b n == a) = false ∧ (mn a b n == b) = true ∧ (mx a b n == a) = true ∧ ord (mn a b n) (mx a b n) n ≤ 0) := by
  have hz := cls_nan n hn
  cases ca : (cls a n == 4)
  · have ia : isnum a n = true := by simp [isnum, hn]; simpa using ca
    cases cb : (cls b n == 4)
    · have ib : isnum b n = true := by simp [isnum, hn]; simpa using cb
      have e1 : mn a b n = if plc b n < plc a n then b else a := by unfold mn; rw [if_pos (by rw [ia, ib]; rfl)]
      have e2 : mx a b n = if plc a n < plc b n then b else a := by unfold mx; rw [if_pos (by rw [ia, ib]; rfl)]
      by_cases h : plc b n < plc a n
      · have f1 : mn a b n = b := by rw [e1, if_pos h]
        have f2 : mx a b n = a := by rw [e2, if_neg (by omega)]
        have hne : ¬ b = a := fun g => by rw [g] at h; omega
        refine Or.inr (Or.inr (Or.inr ⟨rfl, rfl, ?_, ?_, ?_, ?_⟩))
        · rw [f1]; simpa using hne
        · rw [f1]; simp
        · rw [f2]; simp
        · rw [f1, f2]; have := cmpI_cases (plc b n) (plc a n); unfold ord; omega
      · have f1 : mn a b n = a := by rw [e1, if_neg h]
        have f2 : mx a b n = b := by
          rw [e2]
          split
          · rfl
          · exact plc_inj a b n qa.1 qa.2 qb.1 qb.2 hn ia ib (by omega)
        refine Or.inr (Or.inr (Or.inl ⟨rfl, rfl, ?_, ?_, ?_⟩))
        · rw [f1]; simp
        · rw [f2]; simp
        · rw [f1, f2]; have := cmpI_cases (plc a n) (plc b n); unfold ord; omega
    · have ib : isnum b n = false := by simp [isnum, hn]; simpa using cb
      have e1 : mn a b n = nanOf n := by unfold mn; rw [if_neg (by rw [ib]; simp)]
      have e2 : mx a b n = nanOf n := by unfold mx; rw [if_neg (by rw [ib]; simp)]
      exact Or.inr (Or.inl ⟨rfl, rfl, by rw [e1]; simpa using hz, by rw [e1, e2]; simp⟩)
  · have ia : isnum a n = false := by simp [isnum, hn]; simpa using ca
    have e1 : mn a b n = nanOf n := by unfold mn; rw [if_neg (by rw [ia]; simp)]
    have e2 : mx a b n = nanOf n := by unfold mx; rw [if_neg (by rw [ia]; simp)]
    exact Or.inl ⟨rfl, by rw [e1]; simpa using hz, by rw [e1, e2]; simp⟩

theorem chain_prefix (a b c n : Int) (qa : -9223372036854775808 ≤ a ∧ a ≤ 9223372036854775807) (qb : -9223372036854775808 ≤ b ∧ b ≤ 9223372036854775807) (hn : n = 64 ∨ n = 32) :
    (ord a b n = 1 ∧ ord b a n = -1 ∧ lss a b n = false) ∨
    (ord a b n = 0 ∧ ord b a n = 0 ∧ lss a b n = false ∧ ord b c n ≤ 0 ∧ ord a c n ≤ 0) ∨
    (ord a b n = 0 ∧ ord b a n = 0 ∧ lss a b n = false ∧ 0 < ord b c n) ∨
    (ord a b n = -1 ∧ ord b a n = 1 ∧ ord b c n ≤ 0 ∧ ord a c n ≤ 0) ∨
    (ord a b n = -1 ∧ ord b a n = 1 ∧ 0 < ord b c n) := by
  have h1 := cmpI_cases (plc a n) (plc b n)
  have h2 := cmpI_neg (plc b n) (plc a n)
  have h3 := cmpI_cases (plc b n) (plc c n)
  have h4 := cmpI_cases (plc a n) (plc c n)
  have h5 := lss_plc a b n qa.1 qa.2 qb.1 qb.2 hn
  have h6 : lss a b n = false ∨ plc a n < plc b n := by
    cases e : lss a b n
    · exact Or.inl rfl
    · exact Or.inr (h5 e)
  unfold ord
  rcases h1 with ⟨e, g⟩ | ⟨e, g⟩ | ⟨e, g⟩
  · by_cases hz : cmpI (plc b n) (plc c n) ≤ 0
    · exact Or.inr (Or.inr (Or.inr (Or.inl ⟨e, by omega, hz, by omega⟩)))
    · exact Or.inr (Or.inr (Or.inr (Or.inr ⟨e, by omega, by omega⟩)))
  · have hl : lss a b n = false := by
      rcases h6 with h6 | h6
      · exact h6
      · omega
    by_cases hz : cmpI (plc b n) (plc c n) ≤ 0
    · exact Or.inr (Or.inl ⟨e, by omega, hl, hz, by omega⟩)
    · exact Or.inr (Or.inr (Or.inl ⟨e, by omega, hl, by omega⟩))
  · have hl : lss a b n = false := by
      rcases h6 with h6 | h6
      · exact h6
      · omega
    exact Or.inl ⟨e, by omega, hl⟩

theorem lchain_any (p q r v : Int) (hp : -9223372036854775808 ≤ p ∧ p ≤ 9223372036854775807) (hq : -9223372036854775808 ≤ q ∧ q ≤ 9223372036854775807) (hr : -9223372036854775808 ≤ r ∧ r ≤ 9223372036854775807) (w : World) : Calls Try.prog 5 #[.int .i64 p, .int .i64 q, .int .i64 r, .int .i64 v] w fun e w' => e = .returned (.bool true) ∧ Kept w w' := by
  have hn : ei v = 64 ∨ ei v = 32 := ei_or v
  have qa := ptn_bd p (ei v) hp.1 hp.2
  have qb := ptn_bd q (ei v) hq.1 hq.2
  have qc := ptn_bd r (ei v) hr.1 hr.2
  have Ke := either_any v
  have Ka := pattern_any p (ei v)
  have Kb := pattern_any q (ei v)
  have Kc := pattern_any r (ei v)
  generalize ei v = n at *
  generalize ptn p n = a at *
  generalize ptn q n = b at *
  generalize ptn r n = c at *
  have ql := mn_bd a b n qa.1 qa.2 qb.1 qb.2
  have qh := mx_bd a b n qa.1 qa.2 qb.1 qb.2
  have Kx := order_any a b n qa.1 qa.2 qb.1 qb.2
  have Ky := order_any b a n qb.1 qb.2 qa.1 qa.2
  have Kl := less_any a b n qa.1 qa.2 qb.1 qb.2
  have Kz := order_any b c n qb.1 qb.2 qc.1 qc.2
  have Ku := order_any a c n qa.1 qa.2 qc.1 qc.2
  have Klo := min_any a b n qa.1 qa.2 qb.1 qb.2
  have Khi := max_any a b n qa.1 qa.2 qb.1 qb.2
  have Kca := class_any a n
  have Kcb := class_any b n
  have Kcl := class_any (mn a b n) n
  have Ko := order_any (mn a b n) (mx a b n) n ql.1 ql.2 qh.1 qh.2
  rcases chain_prefix a b c n qa qb hn with ⟨x1, x2, x3⟩ | ⟨x1, x2, x3, x4, x5⟩ | ⟨x1, x2, x3, x4⟩ | ⟨x1, x2, x3, x4⟩ | ⟨x1, x2, x3⟩
  · rcases chain_suffix a b n qa qb hn with ⟨s1, s2, s3⟩ | ⟨s1, s2, s3, s4⟩ | ⟨s1, s2, s3, s4, s5⟩ | ⟨s1, s2, s3, s4, s5, s6⟩
    · exact lc_p1_na p q r v n a b c (ord a b n) (ord b a n) (ord b c n) (ord a c n) (mn a b n) (mx a b n) (cls a n) (cls b n) (cls (mn a b n) n) (ord (mn a b n) (mx a b n) n) (lss a b n) Ke Ka Kb Kc Kx Ky Kl Kz Ku Klo Khi Kca Kcb Kcl Ko x1 x2 x3 s1 s2 s3 w
    · exact lc_p1_nb p q r v n a b c (ord a b n) (ord b a n) (ord b c n) (ord a c n) (mn a b n) (mx a b n) (cls a n) (cls b n) (cls (mn a b n) n) (ord (mn a b n) (mx a b n) n) (lss a b n) Ke Ka Kb Kc Kx Ky Kl Kz Ku Klo Khi Kca Kcb Kcl Ko x1 x2 x3 s1 s2 s3 s4 w
    · exact lc_p1_aa p q r v n a b c (ord a b n) (ord b a n) (ord b c n) (ord a c n) (mn a b n) (mx a b n) (cls a n) (cls b n) (cls (mn a b n) n) (ord (mn a b n) (mx a b n) n) (lss a b n) Ke Ka Kb Kc Kx Ky Kl Kz Ku Klo Khi Kca Kcb Kcl Ko x1 x2 x3 s1 s2 s3 s4 s5 w
    · exact lc_p1_bb p q r v n a b c (ord a b n) (ord b a n) (ord b c n) (ord a c n) (mn a b n) (mx a b n) (cls a n) (cls b n) (cls (mn a b n) n) (ord (mn a b n) (mx a b n) n) (lss a b n) Ke Ka Kb Kc Kx Ky Kl Kz Ku Klo Khi Kca Kcb Kcl Ko x1 x2 x3 s1 s2 s3 s4 s5 s6 w
  · rcases chain_suffix a b n qa qb hn with ⟨s1, s2, s3⟩ | ⟨s1, s2, s3, s4⟩ | ⟨s1, s2, s3, s4, s5⟩ | ⟨s1, s2, s3, s4, s5, s6⟩
    · exact lc_p0z_na p q r v n a b c (ord a b n) (ord b a n) (ord b c n) (ord a c n) (mn a b n) (mx a b n) (cls a n) (cls b n) (cls (mn a b n) n) (ord (mn a b n) (mx a b n) n) (lss a b n) Ke Ka Kb Kc Kx Ky Kl Kz Ku Klo Khi Kca Kcb Kcl Ko x1 x2 x3 x4 x5 s1 s2 s3 w
    · exact lc_p0z_nb p q r v n a b c (ord a b n) (ord b a n) (ord b c n) (ord a c n) (mn a b n) (mx a b n) (cls a n) (cls b n) (cls (mn a b n) n) (ord (mn a b n) (mx a b n) n) (lss a b n) Ke Ka Kb Kc Kx Ky Kl Kz Ku Klo Khi Kca Kcb Kcl Ko x1 x2 x3 x4 x5 s1 s2 s3 s4 w
    · exact lc_p0z_aa p q r v n a b c (ord a b n) (ord b a n) (ord b c n) (ord a c n) (mn a b n) (mx a b n) (cls a n) (cls b n) (cls (mn a b n) n) (ord (mn a b n) (mx a b n) n) (lss a b n) Ke Ka Kb Kc Kx Ky Kl Kz Ku Klo Khi Kca Kcb Kcl Ko x1 x2 x3 x4 x5 s1 s2 s3 s4 s5 w
    · exact lc_p0z_bb p q r v n a b c (ord a b n) (ord b a n) (ord b c n) (ord a c n) (mn a b n) (mx a b n) (cls a n) (cls b n) (cls (mn a b n) n) (ord (mn a b n) (mx a b n) n) (lss a b n) Ke Ka Kb Kc Kx Ky Kl Kz Ku Klo Khi Kca Kcb Kcl Ko x1 x2 x3 x4 x5 s1 s2 s3 s4 s5 s6 w
  · rcases chain_suffix a b n qa qb hn with ⟨s1, s2, s3⟩ | ⟨s1, s2, s3, s4⟩ | ⟨s1, s2, s3, s4, s5⟩ | ⟨s1, s2, s3, s4, s5, s6⟩
    · exact lc_p0n_na p q r v n a b c (ord a b n) (ord b a n) (ord b c n) (ord a c n) (mn a b n) (mx a b n) (cls a n) (cls b n) (cls (mn a b n) n) (ord (mn a b n) (mx a b n) n) (lss a b n) Ke Ka Kb Kc Kx Ky Kl Kz Ku Klo Khi Kca Kcb Kcl Ko x1 x2 x3 x4 s1 s2 s3 w
    · exact lc_p0n_nb p q r v n a b c (ord a b n) (ord b a n) (ord b c n) (ord a c n) (mn a b n) (mx a b n) (cls a n) (cls b n) (cls (mn a b n) n) (ord (mn a b n) (mx a b n) n) (lss a b n) Ke Ka Kb Kc Kx Ky Kl Kz Ku Klo Khi Kca Kcb Kcl Ko x1 x2 x3 x4 s1 s2 s3 s4 w
    · exact lc_p0n_aa p q r v n a b c (ord a b n) (ord b a n) (ord b c n) (ord a c n) (mn a b n) (mx a b n) (cls a n) (cls b n) (cls (mn a b n) n) (ord (mn a b n) (mx a b n) n) (lss a b n) Ke Ka Kb Kc Kx Ky Kl Kz Ku Klo Khi Kca Kcb Kcl Ko x1 x2 x3 x4 s1 s2 s3 s4 s5 w
    · exact lc_p0n_bb p q r v n a b c (ord a b n) (ord b a n) (ord b c n) (ord a c n) (mn a b n) (mx a b n) (cls a n) (cls b n) (cls (mn a b n) n) (ord (mn a b n) (mx a b n) n) (lss a b n) Ke Ka Kb Kc Kx Ky Kl Kz Ku Klo Khi Kca Kcb Kcl Ko x1 x2 x3 x4 s1 s2 s3 s4 s5 s6 w
  · cases hl : lss a b n
    · rw [hl] at Kl
      rcases chain_suffix a b n qa qb hn with ⟨s1, s2, s3⟩ | ⟨s1, s2, s3, s4⟩ | ⟨s1, s2, s3, s4, s5⟩ | ⟨s1, s2, s3, s4, s5, s6⟩
      · exact lc_pmz_na_false p q r v n a b c (ord a b n) (ord b a n) (ord b c n) (ord a c n) (mn a b n) (mx a b n) (cls a n) (cls b n) (cls (mn a b n) n) (ord (mn a b n) (mx a b n) n) false Ke Ka Kb Kc Kx Ky Kl Kz Ku Klo Khi Kca Kcb Kcl Ko x1 x2 rfl x3 x4 s1 s2 s3 w
      · exact lc_pmz_nb_false p q r v n a b c (ord a b n) (ord b a n) (ord b c n) (ord a c n) (mn a b n) (mx a b n) (cls a n) (cls b n) (cls (mn a b n) n) (ord (mn a b n) (mx a b n) n) false Ke Ka Kb Kc Kx Ky Kl Kz Ku Klo Khi Kca Kcb Kcl Ko x1 x2 rfl x3 x4 s1 s2 s3 s4 w
      · exact lc_pmz_aa_false p q r v n a b c (ord a b n) (ord b a n) (ord b c n) (ord a c n) (mn a b n) (mx a b n) (cls a n) (cls b n) (cls (mn a b n) n) (ord (mn a b n) (mx a b n) n) false Ke Ka Kb Kc Kx Ky Kl Kz Ku Klo Khi Kca Kcb Kcl Ko x1 x2 rfl x3 x4 s1 s2 s3 s4 s5 w
      · exact lc_pmz_bb_false p q r v n a b c (ord a b n) (ord b a n) (ord b c n) (ord a c n) (mn a b n) (mx a b n) (cls a n) (cls b n) (cls (mn a b n) n) (ord (mn a b n) (mx a b n) n) false Ke Ka Kb Kc Kx Ky Kl Kz Ku Klo Khi Kca Kcb Kcl Ko x1 x2 rfl x3 x4 s1 s2 s3 s4 s5 s6 w
    · rw [hl] at Kl
      rcases chain_suffix a b n qa qb hn with ⟨s1, s2, s3⟩ | ⟨s1, s2, s3, s4⟩ | ⟨s1, s2, s3, s4, s5⟩ | ⟨s1, s2, s3, s4, s5, s6⟩
      · exact lc_pmz_na_true p q r v n a b c (ord a b n) (ord b a n) (ord b c n) (ord a c n) (mn a b n) (mx a b n) (cls a n) (cls b n) (cls (mn a b n) n) (ord (mn a b n) (mx a b n) n) true Ke Ka Kb Kc Kx Ky Kl Kz Ku Klo Khi Kca Kcb Kcl Ko x1 x2 rfl x3 x4 s1 s2 s3 w
      · exact lc_pmz_nb_true p q r v n a b c (ord a b n) (ord b a n) (ord b c n) (ord a c n) (mn a b n) (mx a b n) (cls a n) (cls b n) (cls (mn a b n) n) (ord (mn a b n) (mx a b n) n) true Ke Ka Kb Kc Kx Ky Kl Kz Ku Klo Khi Kca Kcb Kcl Ko x1 x2 rfl x3 x4 s1 s2 s3 s4 w
      · exact lc_pmz_aa_true p q r v n a b c (ord a b n) (ord b a n) (ord b c n) (ord a c n) (mn a b n) (mx a b n) (cls a n) (cls b n) (cls (mn a b n) n) (ord (mn a b n) (mx a b n) n) true Ke Ka Kb Kc Kx Ky Kl Kz Ku Klo Khi Kca Kcb Kcl Ko x1 x2 rfl x3 x4 s1 s2 s3 s4 s5 w
      · exact lc_pmz_bb_true p q r v n a b c (ord a b n) (ord b a n) (ord b c n) (ord a c n) (mn a b n) (mx a b n) (cls a n) (cls b n) (cls (mn a b n) n) (ord (mn a b n) (mx a b n) n) true Ke Ka Kb Kc Kx Ky Kl Kz Ku Klo Khi Kca Kcb Kcl Ko x1 x2 rfl x3 x4 s1 s2 s3 s4 s5 s6 w
  · cases hl : lss a b n
    · rw [hl] at Kl
      rcases chain_suffix a b n qa qb hn with ⟨s1, s2, s3⟩ | ⟨s1, s2, s3, s4⟩ | ⟨s1, s2, s3, s4, s5⟩ | ⟨s1, s2, s3, s4, s5, s6⟩
      · exact lc_pmn_na_false p q r v n a b c (ord a b n) (ord b a n) (ord b c n) (ord a c n) (mn a b n) (mx a b n) (cls a n) (cls b n) (cls (mn a b n) n) (ord (mn a b n) (mx a b n) n) false Ke Ka Kb Kc Kx Ky Kl Kz Ku Klo Khi Kca Kcb Kcl Ko x1 x2 rfl x3 s1 s2 s3 w
      · exact lc_pmn_nb_false p q r v n a b c (ord a b n) (ord b a n) (ord b c n) (ord a c n) (mn a b n) (mx a b n) (cls a n) (cls b n) (cls (mn a b n) n) (ord (mn a b n) (mx a b n) n) false Ke Ka Kb Kc Kx Ky Kl Kz Ku Klo Khi Kca Kcb Kcl Ko x1 x2 rfl x3 s1 s2 s3 s4 w
      · exact lc_pmn_aa_false p q r v n a b c (ord a b n) (ord b a n) (ord b c n) (ord a c n) (mn a b n) (mx a b n) (cls a n) (cls b n) (cls (mn a b n) n) (ord (mn a b n) (mx a b n) n) false Ke Ka Kb Kc Kx Ky Kl Kz Ku Klo Khi Kca Kcb Kcl Ko x1 x2 rfl x3 s1 s2 s3 s4 s5 w
      · exact lc_pmn_bb_false p q r v n a b c (ord a b n) (ord b a n) (ord b c n) (ord a c n) (mn a b n) (mx a b n) (cls a n) (cls b n) (cls (mn a b n) n) (ord (mn a b n) (mx a b n) n) false Ke Ka Kb Kc Kx Ky Kl Kz Ku Klo Khi Kca Kcb Kcl Ko x1 x2 rfl x3 s1 s2 s3 s4 s5 s6 w
    · rw [hl] at Kl
      rcases chain_suffix a b n qa qb hn with ⟨s1, s2, s3⟩ | ⟨s1, s2, s3, s4⟩ | ⟨s1, s2, s3, s4, s5⟩ | ⟨s1, s2, s3, s4, s5, s6⟩
      · exact lc_pmn_na_true p q r v n a b c (ord a b n) (ord b a n) (ord b c n) (ord a c n) (mn a b n) (mx a b n) (cls a n) (cls b n) (cls (mn a b n) n) (ord (mn a b n) (mx a b n) n) true Ke Ka Kb Kc Kx Ky Kl Kz Ku Klo Khi Kca Kcb Kcl Ko x1 x2 rfl x3 s1 s2 s3 w
      · exact lc_pmn_nb_true p q r v n a b c (ord a b n) (ord b a n) (ord b c n) (ord a c n) (mn a b n) (mx a b n) (cls a n) (cls b n) (cls (mn a b n) n) (ord (mn a b n) (mx a b n) n) true Ke Ka Kb Kc Kx Ky Kl Kz Ku Klo Khi Kca Kcb Kcl Ko x1 x2 rfl x3 s1 s2 s3 s4 w
      · exact lc_pmn_aa_true p q r v n a b c (ord a b n) (ord b a n) (ord b c n) (ord a c n) (mn a b n) (mx a b n) (cls a n) (cls b n) (cls (mn a b n) n) (ord (mn a b n) (mx a b n) n) true Ke Ka Kb Kc Kx Ky Kl Kz Ku Klo Khi Kca Kcb Kcl Ko x1 x2 rfl x3 s1 s2 s3 s4 s5 w
      · exact lc_pmn_bb_true p q r v n a b c (ord a b n) (ord b a n) (ord b c n) (ord a c n) (mn a b n) (mx a b n) (cls a n) (cls b n) (cls (mn a b n) n) (ord (mn a b n) (mx a b n) n) true Ke Ka Kb Kc Kx Ky Kl Kz Ku Klo Khi Kca Kcb Kcl Ko x1 x2 rfl x3 s1 s2 s3 s4 s5 s6 w

end Go.Proofs.Ytebjkfecijeehab
