/- SpanLess. How arguments are read: exact numbers, lists of ints; and that they read behind the call as before. -/
import Derived.Test.YtalhnaakbekboaaDoorW47
import Derived.Test.YtalhnaakbekboaaDoorW48
import Derived.Test.YtalhnaakbekboaaDoorW49
import Derived.Test.YtalhnaakbekboaaDoorW12
import Derived.ProofKit
import Derived.OpenShut
import Derived.Carry
import Derived.Lib.SmallJoins
import Derived.ChangeSlices
namespace Go.Proofs.YtalhnaakbekboaaDoor
open Go.ChangeShapes Go.WideShapes Go.ChangeAt Go.RowKit Ieee
set_option linter.unusedVariables false
set_option linter.unusedSimpArgs false

/-- an interval around a finite float, by its key -/
structure Arnd (n l h x : Int) : Prop where
  wid : n = 64 ∨ n = 32
  rl : RB l
  rh : RB h
  v : vsp l h n = true
  lo : keyOf l n ≤ x
  hi : x ≤ keyOf h n
  f1 : -(ifn n : Int) < x
  f2 : x < (ifn n : Int)
  g1 : -(ifn n : Int) ≤ keyOf l n
  g2 : keyOf h n ≤ (ifn n : Int)
theorem smk_pt (n kx ky J1 J2 : Int) (hn : n = 64 ∨ n = 32) (b1 : -(ifn n : Int) < kx ∧ kx < (ifn n : Int)) (b2 : -(ifn n : Int) < ky ∧ ky < (ifn n : Int)) (h : Smk n 1 kx ky J1) (g : Smk n 2 kx ky J2) : J1 < (ifn n : Int) ∧ -(ifn n : Int) < J2 ∧ J1 ≤ J2 := by
  rcases h with ⟨h, -⟩ | ⟨h, -⟩ | ⟨-, -, r, hr, h⟩
  · omega
  · omega
  rcases g with ⟨g, -⟩ | ⟨g, -⟩ | ⟨-, -, q, hq, g⟩
  · omega
  · omega
  rw [hr] at hq
  cases hq
  rw [h, g]
  exact (ky_near n hn r (frm_vld _ _ _ _ hr).1).1
theorem prk_pt (n kx ky J1 J2 : Int) (hn : n = 64 ∨ n = 32) (b1 : -(ifn n : Int) < kx ∧ kx < (ifn n : Int)) (b2 : -(ifn n : Int) < ky ∧ ky < (ifn n : Int)) (h : Prk n 1 kx ky J1) (g : Prk n 2 kx ky J2) : J1 < (ifn n : Int) ∧ -(ifn n : Int) < J2 ∧ J1 ≤ J2 := by
  have hpos := ifn_p n
  rcases h with ⟨h, h'⟩ | ⟨-, -, h, -⟩ | ⟨z1, z2, -, -, r, hr, h⟩
  · rcases g with ⟨g, g'⟩ | ⟨-, -, g, -⟩ | ⟨y1, y2, -, -, q, hq, g⟩
    · omega
    · omega
    · omega
  · omega
  · rcases g with ⟨g, g'⟩ | ⟨-, -, g, -⟩ | ⟨y1, y2, -, -, q, hq, g⟩
    · omega
    · omega
    · rw [hr] at hq
      cases hq
      rw [h, g]
      exact (ky_near n hn r (frm_vld _ _ _ _ hr).1).1
theorem kvz_neg2 (n s k : Int) : kvz n s (-k) = -kvz n s k := by
  unfold kvz
  by_cases h0 : k = 0
  · subst h0
    have h1 := kvz_zero n s
    unfold kvz at h1
    simp at h1 ⊢
    omega
  · by_cases hk : k < 0
    · rw [if_pos hk, if_neg (by omega : ¬ (-k < 0)), Int.natAbs_neg, Int.neg_neg]
    · rw [if_neg hk, if_pos (by omega : -k < 0), Int.natAbs_neg]
theorem qrk_pt (n kx ky J1 J2 : Int) (hn : n = 64 ∨ n = 32) (b1 : -(ifn n : Int) < kx ∧ kx < (ifn n : Int)) (b2 : -(ifn n : Int) < ky ∧ ky < (ifn n : Int)) (z : ky ≠ 0) (h : Qrk n 1 kx ky J1) (g : Qrk n 2 kx ky J2) : J1 < (ifn n : Int) ∧ -(ifn n : Int) < J2 ∧ J1 ≤ J2 := by
  have hpos := ifn_p n
  have p := qW_pos n ky hn z
  rcases h with ⟨h, -⟩ | ⟨-, h, -⟩ | ⟨-, -, h, -⟩
  · omega
  · omega
  rcases g with ⟨g, -⟩ | ⟨-, g, -⟩ | ⟨-, -, -, g⟩
  · omega
  · omega
  have h := h rfl
  have g := g rfl
  have a1 := h.high
  have a2 := g.high
  have a3 := h.low
  have a4 := g.low
  refine ⟨a1, by omega, ?_⟩
  by_cases c1 : J1 = -(ifn n : Int)
  · omega
  by_cases c2 : J2 = (ifn n : Int)
  · omega
  have e1 := h.fin (by omega)
  have e2 := g.fin (by omega)
  rw [kvz_neg2, Int.neg_mul] at e2
  apply Classical.not_not.1
  intro hc
  have m := kvz_lt n (-1300) hn J2 J1 (by omega)
  have := Int.mul_lt_mul_of_pos_right m p
  omega
theorem key_pz (n k : Int) (hn : n = 64 ∨ n = 32) (h1 : -(ifn n : Int) < k) (h2 : k < (ifn n : Int)) : vsp (pz n k) (pz n k) n = true ∧ RB (pz n k) ∧ keyOf (pz n k) n = k := by
  obtain ⟨a, b, -, c, -⟩ := vsp_keys n k k hn (by omega) h2 h1 (by omega) (Int.le_refl _)
  exact ⟨a, b, c⟩
theorem less_add {n l1 h1 x l2 h2 y : Int} (A : Arnd n l1 h1 x) (B : Arnd n l2 h2 y) : ∃ c1 c2 d1 d2, (∀ w, Tab w → Calls Tryd.prog 10 #[sp2 l1 h1, sp2 l2 h2, .int .i64 n] w fun e w' => e = .returned (.tuple #[sp2 c1 c2, .int .i64 0]) ∧ Kept w w') ∧ (∀ w, Tab w → Calls Tryd.prog 10 #[sp2 (pz n x) (pz n x), sp2 (pz n y) (pz n y), .int .i64 n] w fun e w' => e = .returned (.tuple #[sp2 d1 d2, .int .i64 0]) ∧ Kept w w') ∧ (∀ w, Calls Tryd.prog 15 #[sp2 d1 d2, sp2 c1 c2, .int .i64 n] w fun e w' => e = .returned (.bool true) ∧ Kept w w') := by
  have hn := A.wid
  have ax := A.lo
  have ay := A.hi
  have bx := B.lo
  have by' := B.hi
  have g1 := A.g1
  have g2 := A.g2
  have g3 := B.g1
  have g4 := B.g2
  have f1 := A.f1
  have f2 := A.f2
  have f3 := B.f1
  have f4 := B.f2
  obtain ⟨v1, r1, e1⟩ := key_pz n x hn f1 f2
  obtain ⟨v2, r2, e2⟩ := key_pz n y hn f3 f4
  obtain ⟨K1, K2, S1, S2, q1, q2, CA⟩ := add5_ok l1 h1 l2 h2 n A.rl A.rh B.rl B.rh A.v B.v
  obtain ⟨J1, J2, T1, T2, q3, q4, CB⟩ := add5_ok (pz n x) (pz n x) (pz n y) (pz n y) n r1 r1 r2 r2 v1 v2
  rw [e1, e2] at T1 T2
  have t := smk_pt n x y J1 J2 hn ⟨f1, f2⟩ ⟨f3, f4⟩ T1 T2
  have m1 := smk_mono n 1 hn _ _ _ _ K1 J1 ⟨g1, by omega⟩ ⟨g3, by omega⟩ ⟨by omega, by omega⟩ ⟨by omega, by omega⟩ S1 T1 ax bx
  have m2 := smk_mono n 2 hn _ _ _ _ J2 K2 ⟨by omega, by omega⟩ ⟨by omega, by omega⟩ ⟨by omega, g2⟩ ⟨by omega, g4⟩ T2 S2 ay by'
  exact ⟨_, _, _, _, CA, CB, fun w => within_ok n J1 J2 K1 K2 hn q1.1 m1 t.2.2 m2 q2.2 t.1 t.2.1 w⟩
theorem all4 {P : Int → Prop} {a b c d : Int} (h1 : P a) (h2 : P b) (h3 : P c) (h4 : P d) : ∀ k, k = a ∨ k = b ∨ k = c ∨ k = d → P k := by
  rintro k (rfl | rfl | rfl | rfl) <;> assumption
theorem all5 {P : Int → Prop} {a b c d e : Int} (h1 : P a) (h2 : P b) (h3 : P c) (h4 : P d) (h5 : P e) : ∀ k, k = a ∨ k = b ∨ k = c ∨ k = d ∨ k = e → P k := by
  rintro k (rfl | rfl | rfl | rfl | rfl) <;> assumption
theorem min4_eq (a b c d : Int) : min (min (min a b) c) d = a ∨ min (min (min a b) c) d = b ∨ min (min (min a b) c) d = c ∨ min (min (min a b) c) d = d := by omega
theorem max4_eq (a b c d : Int) : max (max (max a b) c) d = a ∨ max (max (max a b) c) d = b ∨ max (max (max a b) c) d = c ∨ max (max (max a b) c) d = d := by omega
theorem in4 (n mn mx d0 d1 d2 d3 u0 u1 u2 u3 : Int) (hd : ∀ k, k = d0 ∨ k = d1 ∨ k = d2 ∨ k = d3 → mn ≤ k) (hu : ∀ k, k = u0 ∨ k = u1 ∨ k = u2 ∨ k = u3 → k ≤ mx) (h : d0 < (ifn n : Int) ∧ -(ifn n : Int) < u0 ∧ d0 ≤ u0) : mn ≤ min (min (min d0 d1) d2) d3 ∧ min (min (min d0 d1) d2) d3 ≤ max (max (max u0 u1) u2) u3 ∧ max (max (max u0 u1) u2) u3 ≤ mx ∧ min (min (min d0 d1) d2) d3 < (ifn n : Int) ∧ -(ifn n : Int) < max (max (max u0 u1) u2) u3 := by
  have a := hd _ (min4_eq d0 d1 d2 d3)
  have b := hu _ (max4_eq u0 u1 u2 u3)
  have c := (min4 d0 d1 d2 d3).1
  have d := (max4 u0 u1 u2 u3).1
  omega
theorem less_mul {n l1 h1 x l2 h2 y : Int} (A : Arnd n l1 h1 x) (B : Arnd n l2 h2 y) : ∃ c1 c2 d1 d2, (∀ w, Tab w → Calls Tryd.prog 11 #[sp2 l1 h1, sp2 l2 h2, .int .i64 n] w fun e w' => e = .returned (.tuple #[sp2 c1 c2, .int .i64 0]) ∧ Kept w w') ∧ (∀ w, Tab w → Calls Tryd.prog 11 #[sp2 (pz n x) (pz n x), sp2 (pz n y) (pz n y), .int .i64 n] w fun e w' => e = .returned (.tuple #[sp2 d1 d2, .int .i64 0]) ∧ Kept w w') ∧ (∀ w, Calls Tryd.prog 15 #[sp2 d1 d2, sp2 c1 c2, .int .i64 n] w fun e w' => e = .returned (.bool true) ∧ Kept w w') := by
  have hn := A.wid
  obtain ⟨v1, r1, e1⟩ := key_pz n x hn A.f1 A.f2
  obtain ⟨v2, r2, e2⟩ := key_pz n y hn B.f1 B.f2
  obtain ⟨d0, d1, d2, d3, u0, u1, u2, u3, ⟨P0, P1, P2, P3⟩, ⟨Q0, Q1, Q2, Q3⟩, hr, CA⟩ := mul5_ok l1 h1 l2 h2 n A.rl A.rh B.rl B.rh A.v B.v
  obtain ⟨a0, a1, a2, a3, b0, b1, b2, b3, ⟨M0, M1, M2, M3⟩, ⟨N0, N1, N2, N3⟩, hs, CB⟩ := mul5_ok (pz n x) (pz n x) (pz n y) (pz n y) n r1 r1 r2 r2 v1 v2
  rw [e1, e2] at M0 M1 M2 M3 N0 N1 N2 N3
  have t := prk_pt n x y a0 b0 hn ⟨A.f1, A.f2⟩ ⟨B.f1, B.f2⟩ M0 N0
  have L : ∀ k, Prk n 1 x y k → min (min (min d0 d1) d2) d3 ≤ k := fun k hk => (prk_low hn A.g1 A.g2 B.g1 B.g2 A.lo A.hi B.lo B.hi P0 P1 P2 P3 hk).1
  have U : ∀ k, Prk n 2 x y k → k ≤ max (max (max u0 u1) u2) u3 := fun k hk => (prk_low hn A.g1 A.g2 B.g1 B.g2 A.lo A.hi B.lo B.hi Q0 Q1 Q2 Q3 hk).2
  obtain ⟨w1, w2, w3, w4, w5⟩ := in4 n (min (min (min d0 d1) d2) d3) (max (max (max u0 u1) u2) u3) a0 a1 a2 a3 b0 b1 b2 b3 (all4 (L _ M0) (L _ M1) (L _ M2) (L _ M3)) (all4 (U _ N0) (U _ N1) (U _ N2) (U _ N3)) t
  have z1 : -(ifn n : Int) ≤ min (min (min d0 d1) d2) d3 := (hr _ (by have := min4_eq d0 d1 d2 d3; omega)).1
  have z2 : max (max (max u0 u1) u2) u3 ≤ (ifn n : Int) := (hr _ (by have := max4_eq u0 u1 u2 u3; omega)).2
  exact ⟨_, _, _, _, CA, CB, fun w => within_ok n _ _ _ _ hn z1 w1 w2 w3 z2 w4 w5 w⟩
theorem less_div {n l1 h1 x l2 h2 y : Int} (A : Arnd n l1 h1 x) (B : Arnd n l2 h2 y) (hz : ¬ (keyOf l2 n ≤ 0 ∧ 0 ≤ keyOf h2 n)) : ∃ c1 c2 d1 d2, (∀ w, Tab w → Calls Tryd.prog 14 #[sp2 l1 h1, sp2 l2 h2, .int .i64 n] w fun e w' => e = .returned (.tuple #[sp2 c1 c2, .int .i64 0]) ∧ Kept w w') ∧ (∀ w, Tab w → Calls Tryd.prog 14 #[sp2 (pz n x) (pz n x), sp2 (pz n y) (pz n y), .int .i64 n] w fun e w' => e = .returned (.tuple #[sp2 d1 d2, .int .i64 0]) ∧ Kept w w') ∧ (∀ w, Calls Tryd.prog 15 #[sp2 d1 d2, sp2 c1 c2, .int .i64 n] w fun e w' => e = .returned (.bool true) ∧ Kept w w') := by
  have hn := A.wid
  have hy1 := B.lo
  have hy2 := B.hi
  obtain ⟨v1, r1, e1⟩ := key_pz n x hn A.f1 A.f2
  obtain ⟨v2, r2, e2⟩ := key_pz n y hn B.f1 B.f2
  obtain ⟨d0, d1, d2, d3, u0, u1, u2, u3, ⟨P0, P1, P2, P3⟩, ⟨Q0, Q1, Q2, Q3⟩, hr, CA⟩ := div5_ok l1 h1 l2 h2 n A.rl A.rh B.rl B.rh A.v B.v hz
  obtain ⟨a0, a1, a2, a3, b0, b1, b2, b3, ⟨M0, M1, M2, M3⟩, ⟨N0, N1, N2, N3⟩, hs, CB⟩ := div5_ok (pz n x) (pz n x) (pz n y) (pz n y) n r1 r1 r2 r2 v1 v2 (by rw [e2]; omega)
  rw [e1, e2] at M0 M1 M2 M3 N0 N1 N2 N3
  have t := qrk_pt n x y a0 b0 hn ⟨A.f1, A.f2⟩ ⟨B.f1, B.f2⟩ (by omega) M0 N0
  have w1' : (1 : Int) = 1 ∨ (1 : Int) = 2 := by simp
  have w2' : (2 : Int) = 1 ∨ (2 : Int) = 2 := by simp
  have hsg : 0 < keyOf l2 n ∨ keyOf h2 n < 0 := by omega
  have L : ∀ k, (-(ifn n : Int) ≤ k ∧ k ≤ (ifn n : Int)) → Qrk n 1 x y k → min (min (min d0 d1) d2) d3 ≤ k := fun k rk hk => (qrk_low hn w1' A.g1 A.g2 B.g1 B.g2 hsg A.lo A.hi B.lo B.hi (all5 (hr _ (by simp)) (hr _ (by simp)) (hr _ (by simp)) (hr _ (by simp)) rk) P0 P1 P2 P3 hk).1
  have U : ∀ k, (-(ifn n : Int) ≤ k ∧ k ≤ (ifn n : Int)) → Qrk n 2 x y k → k ≤ max (max (max u0 u1) u2) u3 := fun k rk hk => (qrk_low hn w2' A.g1 A.g2 B.g1 B.g2 hsg A.lo A.hi B.lo B.hi (all5 (hr _ (by simp)) (hr _ (by simp)) (hr _ (by simp)) (hr _ (by simp)) rk) Q0 Q1 Q2 Q3 hk).2
  obtain ⟨w1, w2, w3, w4, w5⟩ := in4 n (min (min (min d0 d1) d2) d3) (max (max (max u0 u1) u2) u3) a0 a1 a2 a3 b0 b1 b2 b3 (all4 (L _ (hs _ (by simp)) M0) (L _ (hs _ (by simp)) M1) (L _ (hs _ (by simp)) M2) (L _ (hs _ (by simp)) M3)) (all4 (U _ (hs _ (by simp)) N0) (U _ (hs _ (by simp)) N1) (U _ (hs _ (by simp)) N2) (U _ (hs _ (by simp)) N3)) t
  have z1 : -(ifn n : Int) ≤ min (min (min d0 d1) d2) d3 := (hr _ (by have := min4_eq d0 d1 d2 d3; omega)).1
  have z2 : max (max (max u0 u1) u2) u3 ≤ (ifn n : Int) := (hr _ (by have := max4_eq u0 u1 u2 u3; omega)).2
  exact ⟨_, _, _, _, CA, CB, fun w => within_ok n _ _ _ _ hn z1 w1 w2 w3 z2 w4 w5 w⟩
theorem arnd_of (n y : Int) (i j : Nat) (hn : n = 64 ∨ n = 32) (hy : RB y) (hc : cls y n < 3) : Arnd n (itr (prv · n) i y) (itr (nxt · n) j y) (keyOf y n) := by
  obtain ⟨-, i1, b1, b2⟩ := ofN_key y n hn hy hc
  obtain ⟨r1, i2, k1⟩ := itr_dn y n i hy i1
  obtain ⟨r2, i3, k2⟩ := itr_up y n j hy i1
  have q1 := key_rng _ n i2 r1.1 r1.2
  have q2 := key_rng _ n i3 r2.1 r2.2
  refine ⟨hn, r1, r2, ?_, k1, k2, b1, b2, q1.1, q2.2⟩
  unfold vsp
  rw [i2, i3]
  simp only [Bool.true_and, Bool.and_eq_true, decide_eq_true_eq]
  omega
theorem around_pt (n y : Int) (hn : n = 64 ∨ n = 32) (hy : RB y) (hc : cls y n < 3) (ao : Option Addr) (c : Nat) (w : World) (hT : Tab w) (h : Sl w (.slice ao (ofN y n).mag.length c) (ofN y n).mag) : Calls Tryd.prog 13 #[.agg #[.bool (ofN y n).neg, .slice ao (ofN y n).mag.length c, .int .i64 (ofN y n).exp], .int .i64 n] w fun e w' => e = .returned (.tuple #[sp2 (pz n (keyOf y n)) (pz n (keyOf y n)), .int .i64 0]) ∧ Kept w w' := by
  obtain ⟨-, i1, b1, b2⟩ := ofN_key y n hn hy hc
  obtain ⟨l1, z1⟩ := of_both_lies y n hn hy hc
  have hkl : (-1074 : Int) ≤ kleast n := by rcases hn with rfl | rfl <;> decide
  have hz : vz (-1075) (ofN y n) = kvz n (-1075) (keyOf y n) := by
    rw [z1, kvz_down n (-1075) (-1074) _ (by decide) hkl]
    rfl
  obtain ⟨a1, a2, -⟩ := ky_float n hn (ofN y n) l1.ok (-1075) l1.low (by omega) _ b1 b2 hz
  have := Around_ok n hn (ofN y n) l1.ok ao c w hT h
  unfold rzN at this
  rw [a1, a2] at this
  exact this
theorem spanLess_at (n : Int) (hn : n = 64 ∨ n = 32) (a b bw av w0 : Int) (ra : RB a) (rb : RB b) (hw : n = 32 + 32 * (w0 % 2)) (w : World) (hT : Tab w) : Calls Tryd.prog 4 #[.int .i64 a, .int .i64 b, .int .i64 bw, .int .i64 av, .int .i64 w0] w fun e w' => e = .returned (.bool true) ∧ Kept w w' := by
  have hm1 := mskp_rb a n ra
  have hm2 := mskp_rb b n rb
  have KA : Hid (∀ u, Kept w u → Calls Tryd.prog 7 #[] u fun e w' => e = .returned (.bool true) ∧ Kept u w') := fun u k => alive5 u (hT.kept k)
  have hmask := mask1 w0
  obtain ⟨l1, hl1⟩ : ∃ l, l = itr (prv · n) (bw % 8).toNat (mskp a n) := ⟨_, rfl⟩
  obtain ⟨h1, hh1⟩ : ∃ l, l = itr (nxt · n) (av % 8).toNat (mskp a n) := ⟨_, rfl⟩
  obtain ⟨l2, hl2⟩ : ∃ l, l = itr (prv · n) ((av / 8) % 8).toNat (mskp b n) := ⟨_, rfl⟩
  obtain ⟨h2, hh2⟩ : ∃ l, l = itr (nxt · n) ((bw / 8) % 8).toNat (mskp b n) := ⟨_, rfl⟩
  have KL : Hid (∀ u q x y l h ok R, (q = a ∧ x = bw ∧ y = av ∧ l = l1 ∧ h = h1 ∧ ok = decide (cls (mskp a n) n < 3) ∧ R = numOf (mskp a n) n ∨ q = b ∧ x = av / 8 ∧ y = bw / 8 ∧ l = l2 ∧ h = h2 ∧ ok = decide (cls (mskp b n) n < 3) ∧ R = numOf (mskp b n) n) → Kept w u → Calls Tryd.prog 6 #[.int .i64 q, .int .i64 x, .int .i64 y, .int .i64 n] u fun e w' => ∃ v, e = .returned (.tuple #[sp2 l h, v, .bool ok]) ∧ New u w' v R ∧ Kept u w') := fun u q x y l h ok R hd k => by
    rcases hd with ⟨rfl, rfl, rfl, rfl, rfl, rfl, rfl⟩ | ⟨rfl, rfl, rfl, rfl, rfl, rfl, rfl⟩
    · rw [hl1, hh1]
      exact lar_any n hn q x y ra u (hT.kept k)
    · rw [hl2, hh2]
      exact lar_any n hn q _ _ rb u (hT.kept k)
  by_cases hok : cls (mskp a n) n < 3 ∧ cls (mskp b n) n < 3
  · obtain ⟨hc1, hc2⟩ := hok
    have A := arnd_of n (mskp a n) (bw % 8).toNat (av % 8).toNat hn hm1 hc1
    have B := arnd_of n (mskp b n) ((av / 8) % 8).toNat ((bw / 8) % 8).toNat hn hm2 hc2
    rw [← hl1, ← hh1] at A
    rw [← hl2, ← hh2] at B
    clear hl1 hh1 hl2 hh2
    have hN1 : numOf (mskp a n) n = ofN (mskp a n) n := by unfold numOf; rw [if_pos hc1]
    have hN2 : numOf (mskp b n) n = ofN (mskp b n) n := by unfold numOf; rw [if_pos hc2]
    rw [decide_eq_true hc1, decide_eq_true hc2, hN1, hN2] at KL
    obtain ⟨kx, hkx⟩ : ∃ k, k = keyOf (mskp a n) n := ⟨_, rfl⟩
    obtain ⟨ky, hky⟩ : ∃ k, k = keyOf (mskp b n) n := ⟨_, rfl⟩
    have KS : Hid (∀ u Q a1 d1 o1 o2, (Q = ofN (mskp a n) n ∧ o1 = pz n kx ∧ o2 = pz n kx ∨ Q = ofN (mskp b n) n ∧ o1 = pz n ky ∧ o2 = pz n ky) → Kept w u → Sl u (.slice a1 Q.mag.length d1) Q.mag → Calls Tryd.prog 13 #[.agg #[.bool Q.neg, .slice a1 Q.mag.length d1, .int .i64 Q.exp], .int .i64 n] u fun e w' => e = .returned (.tuple #[sp2 o1 o2, .int .i64 0]) ∧ Kept u w') := fun u Q a1 d1 o1 o2 hd k hs => by
      rcases hd with ⟨rfl, rfl, rfl⟩ | ⟨rfl, rfl, rfl⟩
      · rw [hkx]; exact around_pt n _ hn hm1 hc1 a1 d1 u (hT.kept k) hs
      · rw [hky]; exact around_pt n _ hn hm2 hc2 a1 d1 u (hT.kept k) hs
    rw [← hkx] at A
    rw [← hky] at B
    clear hkx hky
    obtain ⟨c1, c2, d1, d2, CA, CB, CW⟩ := less_add A B
    obtain ⟨m1, m2, n1, n2, MA, MB, MW⟩ := less_mul A B
    have KD : Hid (∀ u i1 i2 i3 i4 o1 o2, (i1 = l1 ∧ i2 = h1 ∧ i3 = l2 ∧ i4 = h2 ∧ o1 = c1 ∧ o2 = c2 ∨ i1 = pz n kx ∧ i2 = pz n kx ∧ i3 = pz n ky ∧ i4 = pz n ky ∧ o1 = d1 ∧ o2 = d2) → Kept w u → Calls Tryd.prog 10 #[sp2 i1 i2, sp2 i3 i4, .int .i64 n] u fun e w' => e = .returned (.tuple #[sp2 o1 o2, .int .i64 0]) ∧ Kept u w') := fun u i1 i2 i3 i4 o1 o2 hd k => by
      rcases hd with ⟨rfl, rfl, rfl, rfl, rfl, rfl⟩ | ⟨rfl, rfl, rfl, rfl, rfl, rfl⟩
      · exact CA u (hT.kept k)
      · exact CB u (hT.kept k)
    have KM : Hid (∀ u i1 i2 i3 i4 o1 o2, (i1 = l1 ∧ i2 = h1 ∧ i3 = l2 ∧ i4 = h2 ∧ o1 = m1 ∧ o2 = m2 ∨ i1 = pz n kx ∧ i2 = pz n kx ∧ i3 = pz n ky ∧ i4 = pz n ky ∧ o1 = n1 ∧ o2 = n2) → Kept w u → Calls Tryd.prog 11 #[sp2 i1 i2, sp2 i3 i4, .int .i64 n] u fun e w' => e = .returned (.tuple #[sp2 o1 o2, .int .i64 0]) ∧ Kept u w') := fun u i1 i2 i3 i4 o1 o2 hd k => by
      rcases hd with ⟨rfl, rfl, rfl, rfl, rfl, rfl⟩ | ⟨rfl, rfl, rfl, rfl, rfl, rfl⟩
      · exact MA u (hT.kept k)
      · exact MB u (hT.kept k)
    by_cases hz : keyOf l2 n ≤ 0 ∧ 0 ≤ keyOf h2 n
    · obtain ⟨v1, v2, e2, CV⟩ : ∃ v1 v2 e2, ∀ u, Tab u → Calls Tryd.prog 14 #[sp2 (pz n kx) (pz n kx), sp2 (pz n ky) (pz n ky), .int .i64 n] u fun e w' => e = .returned (.tuple #[sp2 v1 v2, .int .i64 e2]) ∧ Kept u w' := by
        obtain ⟨q1, r1, e1⟩ := key_pz n kx hn A.f1 A.f2
        obtain ⟨q2, r2, e2⟩ := key_pz n ky hn B.f1 B.f2
        by_cases h0 : ky = 0
        · exact ⟨_, _, _, fun u _ => div5_no _ _ _ _ n r1 r1 r2 r2 q1 q2 (by rw [e2]; omega) u⟩
        · obtain ⟨_, _, _, _, _, _, _, _, -, -, -, C⟩ := div5_ok (pz n kx) (pz n kx) (pz n ky) (pz n ky) n r1 r1 r2 r2 q1 q2 (by rw [e2]; omega)
          exact ⟨_, _, _, C⟩
      have KV : Hid (∀ u i1 i2 i3 i4 o1 o2 er, (i1 = l1 ∧ i2 = h1 ∧ i3 = l2 ∧ i4 = h2 ∧ o1 = 0 ∧ o2 = 0 ∧ er = 8 ∨ i1 = pz n kx ∧ i2 = pz n kx ∧ i3 = pz n ky ∧ i4 = pz n ky ∧ o1 = v1 ∧ o2 = v2 ∧ er = e2) → Kept w u → Calls Tryd.prog 14 #[sp2 i1 i2, sp2 i3 i4, .int .i64 n] u fun e w' => e = .returned (.tuple #[sp2 o1 o2, .int .i64 er]) ∧ Kept u w') := fun u i1 i2 i3 i4 o1 o2 er hd k => by
        rcases hd with ⟨rfl, rfl, rfl, rfl, rfl, rfl, rfl⟩ | ⟨rfl, rfl, rfl, rfl, rfl, rfl, rfl⟩
        · exact div5_no _ _ _ _ n A.rl A.rh B.rl B.rh A.v B.v hz u
        · exact CV u (hT.kept k)
      have KW : Hid (∀ u o1 o2 o3 o4, (o1 = d1 ∧ o2 = d2 ∧ o3 = c1 ∧ o4 = c2 ∨ o1 = n1 ∧ o2 = n2 ∧ o3 = m1 ∧ o4 = m2) → Calls Tryd.prog 15 #[sp2 o1 o2, sp2 o3 o4, .int .i64 n] u fun e w' => e = .returned (.bool true) ∧ Kept u w') := fun u o1 o2 o3 o4 hd => by
        rcases hd with ⟨rfl, rfl, rfl, rfl⟩ | ⟨rfl, rfl, rfl, rfl⟩
        · exact CW u
        · exact MW u
      rcases hn with rfl | rfl
      · exact lessC_64 a b bw av w0 _ _ l1 h1 l2 h2 (by rw [hmask]; omega) rfl rfl true true _ _ rfl rfl _ _ _ _ c1 c2 d1 d2 m1 m2 n1 n2 0 0 v1 v2 e2 w KL KA KS KD KM KV KW
      · exact lessC_32 a b bw av w0 _ _ l1 h1 l2 h2 (by rw [hmask]; omega) rfl rfl true true _ _ rfl rfl _ _ _ _ c1 c2 d1 d2 m1 m2 n1 n2 0 0 v1 v2 e2 w KL KA KS KD KM KV KW
    · obtain ⟨u1, u2, v1, v2, VA, VB, VW⟩ := less_div A B hz
      have KV : Hid (∀ u i1 i2 i3 i4 o1 o2 er, (i1 = l1 ∧ i2 = h1 ∧ i3 = l2 ∧ i4 = h2 ∧ o1 = u1 ∧ o2 = u2 ∧ er = 0 ∨ i1 = pz n kx ∧ i2 = pz n kx ∧ i3 = pz n ky ∧ i4 = pz n ky ∧ o1 = v1 ∧ o2 = v2 ∧ er = 0) → Kept w u → Calls Tryd.prog 14 #[sp2 i1 i2, sp2 i3 i4, .int .i64 n] u fun e w' => e = .returned (.tuple #[sp2 o1 o2, .int .i64 er]) ∧ Kept u w') := fun u i1 i2 i3 i4 o1 o2 er hd k => by
        rcases hd with ⟨rfl, rfl, rfl, rfl, rfl, rfl, rfl⟩ | ⟨rfl, rfl, rfl, rfl, rfl, rfl, rfl⟩
        · exact VA u (hT.kept k)
        · exact VB u (hT.kept k)
      have KW : Hid (∀ u o1 o2 o3 o4, (o1 = d1 ∧ o2 = d2 ∧ o3 = c1 ∧ o4 = c2 ∨ o1 = n1 ∧ o2 = n2 ∧ o3 = m1 ∧ o4 = m2 ∨ o1 = v1 ∧ o2 = v2 ∧ o3 = u1 ∧ o4 = u2) → Calls Tryd.prog 15 #[sp2 o1 o2, sp2 o3 o4, .int .i64 n] u fun e w' => e = .returned (.bool true) ∧ Kept u w') := fun u o1 o2 o3 o4 hd => by
        rcases hd with ⟨rfl, rfl, rfl, rfl⟩ | ⟨rfl, rfl, rfl, rfl⟩ | ⟨rfl, rfl, rfl, rfl⟩
        · exact CW u
        · exact MW u
        · exact VW u
      rcases hn with rfl | rfl
      · exact lessB_64 a b bw av w0 _ _ l1 h1 l2 h2 (by rw [hmask]; omega) rfl rfl true true _ _ rfl rfl _ _ _ _ c1 c2 d1 d2 m1 m2 n1 n2 u1 u2 v1 v2 0 w KL KA KS KD KM KV KW
      · exact lessB_32 a b bw av w0 _ _ l1 h1 l2 h2 (by rw [hmask]; omega) rfl rfl true true _ _ rfl rfl _ _ _ _ c1 c2 d1 d2 m1 m2 n1 n2 u1 u2 v1 v2 0 w KL KA KS KD KM KV KW
  · have hok' : (decide (cls (mskp a n) n < 3) && decide (cls (mskp b n) n < 3)) = false := by
      rw [← Bool.not_eq_true, Bool.and_eq_true, decide_eq_true_eq, decide_eq_true_eq]
      exact hok
    rcases hn with rfl | rfl
    · exact lessA_64 a b bw av w0 _ _ _ _ _ _ (by rw [hmask]; omega) rfl rfl _ _ _ _ hok' w KL KA
    · exact lessA_32 a b bw av w0 _ _ _ _ _ _ (by rw [hmask]; omega) rfl rfl _ _ _ _ hok' w KL KA
theorem spanLess_true (w : World) (hT : Tab w) (a b bw av w0 : Int) (ra : RB a) (rb : RB b) : Calls Tryd.prog 4 #[.int .i64 a, .int .i64 b, .int .i64 bw, .int .i64 av, .int .i64 w0] w fun e w' => e = .returned (.bool true) ∧ Kept w w' :=
  spanLess_at (32 + 32 * (w0 % 2)) (by omega) a b bw av w0 ra rb rfl w hT
end Go.Proofs.YtalhnaakbekboaaDoor

namespace Go.Proofs.YtalhnaakbekboaaDoor
open Go.ChangeShapes Go.WideShapes Go.ChangeAt Go.RowKit Go.Joins
set_option linter.unusedVariables false

theorem laid_out : laidOutB Tryd.prog = true := by kernel_rfl
theorem wf_rng (n : Int) (h : (Lit.int .i64 n).wf = true) : -9223372036854775808 ≤ n ∧ n ≤ 9223372036854775807 := by
  have e1 : IntKind.i64.min = -9223372036854775808 := rfl
  have e2 : IntKind.i64.max = 9223372036854775807 := rfl
  simp [Lit.wf] at h
  omega

section
variable {H : Type} {enc : TypeId × Value → H} {W : World}

theorem trodAll_stays {W' : World} {sp : Nat → Bool} : ∀ {ts : List TypeId} {vs : List Value} {ds : List (DataW H)} {p : List MemPlace}, (∀ t ∈ ts, Tryd.prog.readableRec t = true ∧ t < Tryd.prog.types.size) → DataW.TrodAll enc Tryd.prog W 0 (fun _ => true) true ts vs ds p → (∀ x ∈ p, W.sameAt W' x) → (∀ x ∈ p, sp x.block = true) → DataW.TrodAll enc Tryd.prog W' 0 sp true ts vs ds p
  | [], _, _, _, _, h, _, _ => by
    obtain ⟨rfl, rfl, rfl⟩ := trodAll_nil h
    exact trodAll_mk0
  | t :: ts, _, _, _, hr, h, hs, hp => by
    obtain ⟨v, vs1, d, ds1, a, b, rfl, rfl, rfl, h1, h2⟩ := trodAll_cons h
    obtain ⟨r1, r2⟩ := hr t (by simp)
    exact trodAll_cons_mk (WideElems.Trod_stays laid_out r1 r2 h1 (fun x hx => hs x (by simp [hx])) (fun x hx => hp x (by simp [hx]))) (trodAll_stays (fun t' ht' => hr t' (by simp [ht'])) h2 (fun x hx => hs x (by simp [hx])) (fun x hx => hp x (by simp [hx])))
end
end Go.Proofs.YtalhnaakbekboaaDoor
