/- RngShuffle. -/
import Derived.Test.YtakdnodgcdddeabGP
import Derived.Test.YtakdnodgcdddeabGT
import Derived.Test.YtakdnodgcdddeabG9
import Derived.Laws.StructEq
namespace Go.Proofs.Ytakdnodgcdddeab
open Go.ChangeShapes Go.WideShapes Go.ChangeAt Go.RowKit
set_option linter.unusedVariables false
set_option linter.unusedSimpArgs false

theorem mask_s8 (s : Int) : bits .and .i64 s 255 = s % 256 := by
  have e : (BitVec.ofInt 64 255 : BitVec 64).toNat = 2 ^ 8 - 1 := by decide
  have h := ofInt_toNat s
  rw [bits_and, BitVec.toNat_and, e, Nat.and_two_pow_sub_one_eq_mod, wrap_i64]
  omega
theorem mask_s16 (s : Int) : bits .and .i64 s 65535 = s % 65536 := by
  have e : (BitVec.ofInt 64 65535 : BitVec 64).toNat = 2 ^ 16 - 1 := by decide
  have h := ofInt_toNat s
  rw [bits_and, BitVec.toNat_and, e, Nat.and_two_pow_sub_one_eq_mod, wrap_i64]
  omega

/-- The first i of l are marked by their places. -/
structure Mrk (n i : Nat) (l A : List Int) : Prop where
  len : A.length = n
  at' : ∀ x, x < i → A.getD (l.getD x 0).toNat 0 = (x : Int) + 1
  none : ∀ y : Nat, y < n → (∀ x, x < i → l.getD x 0 ≠ (y : Int)) → A.getD y 0 = 0

theorem mrk_start (n : Nat) (l : List Int) : Mrk n 0 l (List.replicate n 0) :=
  ⟨by simp, fun x hx => absurd hx (by omega), fun y hy _ => getD_replicate n y⟩

theorem Mrk.free {n i : Nat} {l A : List Int} (h : Mrk n i l A) (hE : Ech n l) (hi : i < n) : A.getD (l.getD i 0).toNat 0 = 0 := by
  have hr := hE.rng i hi
  refine h.none _ (by omega) (fun x hx e => ?_)
  have := hE.inj x i (by omega) hi (by omega)
  omega

theorem Mrk.step {n i : Nat} {l A : List Int} (h : Mrk n i l A) (hE : Ech n l) (hi : i < n) : Mrk n (i + 1) l (A.set (l.getD i 0).toNat ((i : Int) + 1)) := by
  have hr := hE.rng i hi
  have hA : (l.getD i 0).toNat < A.length := by rw [h.len]; omega
  refine ⟨by simpa using h.len, fun x hx => ?_, fun y hy hne => ?_⟩
  · rw [getDset _ _ _ _ hA]
    split
    · rename_i e
      have hrx := hE.rng x (by omega)
      have := hE.inj x i (by omega) hi (by omega)
      omega
    · rename_i e
      refine h.at' x ?_
      rcases Nat.lt_or_ge x i with h1 | h1
      · exact h1
      · have : x = i := by omega
        subst this
        exact absurd rfl e
  · rw [getDset _ _ _ _ hA]
    have h1 := hne i (by omega)
    rw [if_neg (by omega)]
    exact h.none y hy (fun x hx => hne x (by omega))

set_option maxHeartbeats 8000000 in
set_option maxRecDepth 100000 in
theorem rngShuffle_true (s t a n0 k0 : Int) (w : World) : Calls Try.prog 3 #[.agg #[.int .i64 s, .int .i64 t, .int .i64 a], .int .i64 n0, .int .i64 k0] w fun e w' => e = .returned (.bool true) ∧ Below w.heap.size w w' := by
  obtain ⟨m, hm⟩ : ∃ m : Nat, bits .and .i64 n0 255 = (m : Int) := ⟨(n0 % 256).toNat, by rw [mask_s8]; omega⟩
  have hm256 : m < 256 := by have := mask_s8 n0; rw [hm] at this; omega
  obtain ⟨K0, hK0⟩ : ∃ m : Nat, bits .and .i64 k0 65535 = (m : Int) := ⟨(k0 % 65536).toNat, by rw [mask_s16]; omega⟩
  have zm : IntKind.i64.wrap ((m : Int) + 1) = (m : Int) + 1 := by rw [wrap_i64]; omega
  have zm0 : ¬ (m : Int) + 1 = 0 := by omega
  obtain ⟨K, hK⟩ : ∃ K : Nat, K = K0 % (m + 1) := ⟨_, rfl⟩
  have hKm : K ≤ m := by have := Nat.mod_lt K0 (by omega : 0 < m + 1); omega
  have zK : (K0 : Int).tmod ((m : Int) + 1) = (K : Int) := by
    rw [Int.tmod_eq_emod_of_nonneg (Int.natCast_nonneg _), hK]
    rfl
  clear hK
  obtain ⟨L, P, hS⟩ : ∃ L P, shuf s t a m = (L, P) := ⟨_, _, rfl⟩
  have hE : Ech m L := by have := ech_shuf s t a m (by omega); rw [hS] at this; exact this
  have hfar := shuf_far s t a m (by omega)
  have hstill := shuf_still s t a m
  rw [hS] at hfar hstill
  have HF : Hid ((∃ T : Nat, m - 1 ≤ T ∧ T < 4611686018427387904 ∧ P % 18446744073709551616 = (a + T) % 18446744073709551616) ∧ (m < 2 → P = a)) := ⟨hfar, hstill⟩
  have H1 : Hid (∀ u, Calls Try.prog 5 #[.agg #[.int .i64 s, .int .i64 t, .int .i64 a], .int .i64 m] u fun e w' => e = .returned (.tuple #[.slice (some ⟨u.heap.size + 4, 0, none⟩) m m, .agg #[.int .i64 s, .int .i64 t, .int .i64 P], .int .i64 0]) ∧ Own w' (u.heap.size + 4) m L ∧ Kept u w') := fun u => by
    have := shuffle_ok s t a m (by omega) u
    rw [hS] at this
    exact this
  have H2 : Hid (∀ u, Calls Try.prog 7 #[.agg #[.int .i64 s, .int .i64 t, .int .i64 a], .int .i64 m, .int .i64 K] u fun e w' => ∃ g c, e = .returned (.tuple #[.slice (some ⟨g, 0, none⟩) K c, .agg #[.int .i64 s, .int .i64 t, .int .i64 P], .int .i64 0]) ∧ u.heap.size + 2 ≤ g ∧ Own w' g c (srt (L.take K)) ∧ Below u.heap.size u w') := fun u => by
    have := pick_ok s t a m K hKm (by omega) u
    rw [hS] at this
    exact this
  have HE : Hid (Ech m L) := hE
  clear hS hfar hstill hE
  go_enter Try.func3, Try.ntmps3
  go_upto_region 2 with fail
  have d0 := dw_new w s t a 23
  have k1 := (Kept.refl w).alloc #[.int .i64 s, .int .i64 t, .int .i64 a] 23
  obtain ⟨X, hX⟩ : ∃ X, X = w.alloc (.cells #[.int .i64 s, .int .i64 t, .int .i64 a] 23) := ⟨_, rfl⟩
  rw [← hX] at d0 k1 ⊢
  clear hX
  have D0 := d0
  obtain ⟨⟨c0, c1, c2⟩, f1⟩ := D0
  go_wp2_with fail
  refine (H1.out _).mono ?_
  rintro e w1 ⟨rfl, ho, hk1⟩
  clear c0 c1 c2 f1
  go_upto_region 3 with fail
  have kA := (Kept.refl w1).alloc #[.int .i64 s, .int .i64 t, .int .i64 P] 23
  have d1 := (d0.kept hk1).kept kA
  have k2 := (k1.trans hk1).trans kA
  have o1 := ho.kept kA
  have e1 := dw_new w1 s t P 23
  have hgl : X.heap.size + 4 < w1.heap.size := ho.lt
  obtain ⟨g, hg⟩ : ∃ g, g = X.heap.size + 4 := ⟨_, rfl⟩
  obtain ⟨C, hC⟩ : ∃ C, C = w1.heap.size := ⟨_, rfl⟩
  obtain ⟨Y, hY⟩ : ∃ Y, Y = w1.alloc (.cells #[.int .i64 s, .int .i64 t, .int .i64 P] 23) := ⟨_, rfl⟩
  have hwg : w.heap.size < g := by have := d0.1.lt; omega
  rw [← hg] at o1 hgl ⊢
  rw [← hC] at e1 hgl ⊢
  rw [← hY] at d1 k2 o1 e1 ⊢
  clear hY hC hg ho hk1 kA d0 k1
  go_wp2_with fail
  refine (galive_true _).mono ?_
  rintro e w2 ⟨rfl, hk2⟩
  have d2 := d1.kept hk2
  have k3 := k2.trans hk2
  have o2 := o1.kept hk2
  have e2 := e1.kept hk2
  clear d1 k2 o1 e1 hk2
  have HM := make_run m (by omega) w2
  have kB := (Kept.refl w2).alloc (madeCells #[.int .i64 0] m) 3
  have x3 := own_made m (by omega) w2
  have d3 := d2.kept kB
  have k4 := k3.trans kB
  have o3 := o2.kept kB
  have e3 := e2.kept kB
  have hCl := e2.1.lt
  obtain ⟨B, hB⟩ : ∃ B, B = w2.heap.size := ⟨_, rfl⟩
  obtain ⟨Z, hZ⟩ : ∃ Z, Z = w2.alloc (.cells (madeCells #[.int .i64 0] m) 3) := ⟨_, rfl⟩
  rw [← hB] at HM x3 hCl
  rw [← hZ] at HM x3 d3 k4 o3 e3
  clear hB hZ kB d2 k3 o2 e2
  have H0 : Hid (Own Z B m (List.replicate m 0) ∧ Dw Z w.heap.size s t a ∧ Dw Z C s t P ∧ Own Z g m L ∧ Kept w Z) := ⟨x3, d3, e3, o3, k4⟩
  clear x3 d3 e3 o3 k4
  go_wp2_with fail
  go_loopw [11] (fun iv wr => ∃ (i : Nat) (A : List Int), i ≤ m ∧ iv = .int .i64 i ∧ Mrk m i L A ∧ Own wr B m A ∧ Dw wr w.heap.size s t a ∧ Dw wr C s t P ∧ Own wr g m L ∧ Kept w wr) (fun iv _ => m - (intOf iv).toNat)
  case atStart => exact ⟨0, _, Nat.zero_le _, rfl, mrk_start m L, H0.out⟩
  case round =>
    clear H0 HM
    obtain ⟨i, A, him, rfl, hMk, hA, hd, he, hl, hKw⟩ := hrel
    by_cases hi : i < m
    · have hr := HE.out.rng i hi
      obtain ⟨x, hx⟩ : ∃ x : Nat, L.getD i 0 = (x : Int) := ⟨(L.getD i 0).toNat, by omega⟩
      have hfree := hMk.free HE.out hi
      have hstep := hMk.step HE.out hi
      rw [hx, Int.toNat_natCast] at hfree hstep
      rw [hx] at hr
      have q1 := hl.cell i (by rw [HE.out.len]; exact hi)
      rw [hx] at q1
      have q2 := hA.cell x (by rw [hMk.len]; omega)
      rw [hfree] at q2
      have q3 := hA.free x
      have HN : Hid (Mrk m (i + 1) L (A.set x ((i : Int) + 1)) ∧ Own wr B m A ∧ Dw wr w.heap.size s t a ∧ Dw wr C s t P ∧ Own wr g m L ∧ Kept w wr) := ⟨hstep, hA, hd, he, hl, hKw⟩
      clear hMk hA hd he hl hKw hfree hstep hx
      have z1 : IntKind.i64.wrap ((i : Int) + 1) = (i : Int) + 1 := by rw [wrap_i64]; omega
      have b1 : ¬ (x : Int) < 0 := by omega
      have b2 : ¬ m ≤ x := by omega
      have b3 : x < m := by omega
      have b4 : (i : Int) < (m : Int) := by omega
      have b5 : (x : Int) < (m : Int) := by omega
      clear hr
      go_wp2_with fail
      go_roundw
      case rel =>
        obtain ⟨h1, h2, h3, h4, h5, h6⟩ := HN.out
        exact ⟨i + 1, _, by omega, by go_num, h1, h2.set x _, h3.far _ (by show B ≠ _; omega) _, h4.far _ (by show B ≠ _; omega) _, h5.setOther (by show g ≠ B; omega) _, h6.setCell (by show _ ≤ B; omega) _⟩
      case measure => simp [intOf]; omega
    · obtain rfl : i = m := by omega
      go_upto_region 13 with fail
      have D0 := hd
      obtain ⟨⟨c0, c1, c2⟩, f1⟩ := D0
      go_wp2_with fail
      refine (H2.out _).mono ?_
      rintro e w3 ⟨g3, c3, rfl, hg3, ho3, hbl⟩
      clear c0 c1 c2 f1
      go_upto_region 14 with fail
      have kA := (Kept.refl w3).alloc #[.int .i64 s, .int .i64 t, .int .i64 P] 23
      have d4 := (hd.below hbl).kept kA
      have e4 := (he.below hbl).kept kA
      have a4 := (hA.below hbl).kept kA
      have o4 := ho3.kept kA
      have r4 := dw_new w3 s t P 23
      have k4 : Below w.heap.size w (w3.alloc (.cells #[.int .i64 s, .int .i64 t, .int .i64 P] 23)) := (hKw.below.trans (hbl.mono hKw.below.size)).alloc (Nat.le_trans hKw.below.size hbl.size) _
      obtain ⟨C2, hC2⟩ : ∃ C, C = w3.heap.size := ⟨_, rfl⟩
      obtain ⟨Q, hQ⟩ : ∃ Q, Q = w3.alloc (.cells #[.int .i64 s, .int .i64 t, .int .i64 P] 23) := ⟨_, rfl⟩
      rw [← hC2] at r4 ⊢
      rw [← hQ] at d4 e4 a4 o4 r4 k4 ⊢
      clear hQ hC2 kA hbl ho3 hd he hA hl hKw
      have H5 : Hid (Dw Q w.heap.size s t a ∧ Dw Q C s t P ∧ Own Q B i A ∧ Own Q g3 c3 (srt (L.take K)) ∧ Below w.heap.size w Q ∧ Mrk i i L A) := ⟨d4, e4, a4, o4, k4, hMk⟩
      obtain ⟨⟨c0, c1, c2⟩, f1⟩ := e4
      obtain ⟨⟨c3', c4, c5⟩, f2⟩ := r4
      clear d4 a4 o4 k4 hMk
      go_wp2_with fail
      clear c0 c1 c2 f1 c3' c4 c5 f2
      go_loopw [15] (fun jv wr => ∃ (j : Nat), j ≤ K ∧ jv = .int .i64 j ∧ Kept Q wr) (fun jv _ => K - (intOf jv).toNat)
      case atStart => exact ⟨0, Nat.zero_le _, rfl, Kept.refl _⟩
      case round =>
        rename_i wr0
        obtain ⟨j, hjK, rfl, hKr⟩ := hrel
        by_cases hj : j < K
        · obtain ⟨hd, he, hA, hO, hB', hMk⟩ := H5.out
          obtain ⟨y, hy, hpy⟩ := picked_at HE.out K hKm j hj
          have hr := HE.out.rng y (by omega)
          obtain ⟨x, hx⟩ : ∃ x : Nat, L.getD y 0 = (x : Int) := ⟨(L.getD y 0).toNat, by omega⟩
          have hat := hMk.at' y (by omega)
          rw [hx, Int.toNat_natCast] at hat
          rw [hx] at hr hpy
          have hsl : (srt (L.take K)).length = K := by rw [srt_length, List.length_take, HE.out.len]; omega
          have q1 := (hO.kept hKr).cell j (by omega)
          rw [show (srt (L.take K)).getD j 0 = (x : Int) from hpy] at q1
          have q2 := (hA.kept hKr).cell x (by rw [hMk.len]; omega)
          rw [hat] at q2
          have b1 : ¬ (x : Int) < 0 := by omega
          have b2 : ¬ i ≤ x := by omega
          have b3 : x < i := by omega
          have b5 : (x : Int) < (i : Int) := by omega
          have b6 : ¬ (K : Int) < (y : Int) + 1 := by omega
          have b7 : (j : Int) < (K : Int) := by omega
          have z1 : IntKind.i64.wrap ((j : Int) + 1) = (j : Int) + 1 := by rw [wrap_i64]; omega
          have v1 : decide ((x : Int) < 0) = false := decide_eq_false b1
          have v2 : decide (i ≤ x) = false := decide_eq_false b2
          have v3 : decide ((i : Int) ≤ (x : Int)) = false := decide_eq_false (by omega)
          have v4 : decide ((K : Int) < (y : Int) + 1) = false := decide_eq_false b6
          have hprev : ∀ j', j = j' + 1 → ∃ xp : Int, wr.cell? ⟨g3, j', none⟩ = some (.int .i64 xp) ∧ xp < (x : Int) := fun j' e => ⟨(srt (L.take K)).getD j' 0, (hO.kept hKr).cell j' (by omega), by
            have h1 := picked_rise HE.out K hKm j' (by omega)
            rw [← e] at h1
            have h2 : (srt (L.take K)).getD j' 0 < (srt (L.take K)).getD j 0 := h1
            rw [show (srt (L.take K)).getD j 0 = (x : Int) from hpy] at h2
            exact h2⟩
          clear hd he hA hO hB' hMk hat hsl hpy hr
          rcases j with _ | j'
          · clear hprev
            rw [show ((0 : Nat) : Int) = 0 from rfl] at *
            go_upto_region 19 with fail
            go_quiet (fail)
            go_wp2_with fail
            go_roundw
            case rel => exact ⟨1, by omega, by go_num, hKr.drewN _⟩
            case measure => simp [intOf]; omega
          · obtain ⟨xp, q0, hlt⟩ := hprev j' rfl
            clear hprev
            rw [show ((j' + 1 : Nat) : Int) = (j' : Int) + 1 by omega] at *
            have z2 : IntKind.i64.wrap ((j' : Int) + 1 - 1) = (j' : Int) := by rw [wrap_i64]; omega
            have b8 : 0 < (j' : Int) + 1 := by omega
            have b9 : ¬ (x : Int) ≤ xp := by omega
            have b10 : (j' : Int) < (K : Int) := by omega
            have b11 : 0 ≤ (j' : Int) + 1 := by omega
            have v5 : decide (0 < (j' : Int) + 1) = true := decide_eq_true b8
            have v6 : decide ((x : Int) ≤ xp) = false := decide_eq_false b9
            go_upto_region 19 with fail
            go_quiet (fail)
            go_wp2_with fail
            go_roundw
            case rel => exact ⟨j' + 1 + 1, by omega, by go_num, hKr.drewN _⟩
            case measure => simp [intOf]; omega
        · obtain rfl : j = K := by omega
          obtain ⟨hd, he, hA, hO, hB', hMk⟩ := H5.out
          obtain ⟨⟨c0, c1, c2⟩, f1⟩ := hd.kept hKr
          obtain ⟨⟨c3', c4, c5⟩, f2⟩ := he.kept hKr
          have hB2 : Below w.heap.size w wr := hB'.trans (hKr.below.mono hB'.size)
          clear hd he hA hO hB' hMk
          obtain ⟨⟨T, ht1, ht2, ht3⟩, hst⟩ := HF.out
          by_cases hi2 : i < 2
          · have hPa := hst hi2
            subst hPa
            have u1 : (i : Int) < 2 := by omega
            go_wp2
            go_ret
            exact ⟨rfl, hB2⟩
          · have u1 : ¬ (i : Int) < 2 := by omega
            have u2 : (2 : Int) ≤ (i : Int) := by omega
            have u3 : IntKind.i64.wrap (P - a) = (T : Int) := by rw [wrap_i64]; omega
            have u4 : IntKind.i64.wrap ((i : Int) - 1) = (i : Int) - 1 := by rw [wrap_i64]; omega
            have u5 : (i : Int) - 1 ≤ (T : Int) := by omega
            go_wp2
            go_ret
            exact ⟨rfl, hB2⟩

end Go.Proofs.Ytakdnodgcdddeab
