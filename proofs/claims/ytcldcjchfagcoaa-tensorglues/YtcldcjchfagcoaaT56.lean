/- What the five moves answer, package tensor's and the document's, in one form. -/
import Derived.Test.YtcldcjchfagcoaaT55
import Derived.Test.YtcldcjchfagcoaaT54
import Derived.Test.YtcldcjchfagcoaaT50
import Derived.Test.YtcldcjchfagcoaaT32
namespace Go.Proofs.Ytcldcjchfagcoaa
open Go.ChangeShapes Go.WideShapes Go.ChangeAt Go.RowKit
set_option linter.unusedVariables false
set_option linter.unusedSimpArgs false

/-- An answer: rows, columns, width, error, elements. -/
structure An where
  r : Int
  c : Int
  n : Int
  q : Int
  T : List Int

/-- A call answers so: a matrix whose elements are its own, and the error; what lay lies as it lay. -/
def GivesB (A : An) (f : Nat) (args : Array Value) (u : World) : Prop := Calls Try.prog f args u fun e w' => ∃ s, e = .returned (.tuple #[.agg #[.int .i64 A.r, .int .i64 A.c, .int .i64 A.n, s], .int .i64 A.q]) ∧ MR u.heap.size w' s A.T ∧ Bl u w'
def GivesK (A : An) (f : Nat) (args : Array Value) (u : World) : Prop := Calls Try.prog f args u fun e w' => ∃ s, e = .returned (.tuple #[.agg #[.int .i64 A.r, .int .i64 A.c, .int .i64 A.n, s], .int .i64 A.q]) ∧ MR u.heap.size w' s A.T ∧ Kept u w'
theorem GivesK.b {A : An} {f : Nat} {args : Array Value} {u : World} (h : GivesK A f args u) : GivesB A f args u := by
  refine Calls.mono h ?_
  rintro e w' ⟨s, rfl, h1, h2⟩
  exact ⟨s, rfl, h1, h2.bl⟩
/-- A move that the document told, and its error: what moved makes of it is the answer, now and later. -/
def MvOK (A : An) (m : Value) (b Hv : Nat) (W : World) (vr vc vn : Int) (vs : Value) (fe : Int) : Prop := (∃ va vl vcp, vs = .slice va vl vcp) ∧ ∀ (S : List Nat) (u : World), GrB S W u → (∀ x ∈ S, x ≠ b ∧ x < Hv) → GivesK A 39 #[m, .agg #[.int .i64 vr, .int .i64 vc, .int .i64 vn, vs], .int .i64 fe] u

theorem mr_nil (H : Nat) (w : World) : MR H w (.slice none 0 0) [] := .inl ⟨rfl, rfl⟩
theorem gives_zero {q : Int} {f : Nat} {args : Array Value} {u : World} (h : Calls Try.prog f args u fun e w' => e = .returned (.tuple #[zeroMat, .int .i64 q]) ∧ Kept u w') : GivesK ⟨0, 0, 0, q, []⟩ f args u := by
  refine Calls.mono h ?_
  rintro e w' ⟨rfl, k⟩
  exact ⟨_, rfl, mr_nil _ _, k⟩

/-- The matrix that is handed in, in a world: where it lies. -/
structure MatIn (W : World) (r c n : Int) (L : List Int) (b off cap : Nat) : Prop where
  lt : b < W.heap.size
  rd : Reads W b off L
  sl : Sl W (.slice (some ⟨b, off, none⟩) L.length cap) L
  cp : L.length ≤ cap
theorem MatIn.bl {W u : World} {r c n : Int} {L : List Int} {b off cap : Nat} (h : MatIn W r c n L b off cap) (k : Bl W u) : MatIn u r c n L b off cap := ⟨Nat.lt_of_lt_of_le h.lt k.size, h.rd.bl h.lt k, h.sl.bl k, h.cp⟩
theorem MatIn.grB {S : List Nat} {W u : World} {r c n : Int} {L : List Int} {b off cap : Nat} (h : MatIn W r c n L b off cap) (k : GrB S W u) (hb : b ∉ S) : MatIn u r c n L b off cap := by
  have hr : Reads u b off L := fun i hi => (k.cell h.lt hb).trans (h.rd i hi)
  have hl := Nat.lt_of_lt_of_le h.lt k.size
  refine ⟨hl, hr, ?_, h.cp⟩
  obtain ⟨ao, cap', e, hc, hm, -⟩ := h.sl
  cases e
  exact ⟨_, _, rfl, hc, hm, fun _ => ⟨b, off, rfl, hl, hr⟩⟩
theorem MS.grB {S : List Nat} {sz : Nat} {e : TypeId} {H : Nat} {w w' : World} {v : Value} {k : Nat} {V : List Value} (h : MS sz e H w v k V) (kk : GrB S w w') (hS : ∀ x ∈ S, x < H) : MS sz e H w' v k V := by
  rcases h with h | ⟨g, cap, h1, h2, h3, h4, h5⟩
  · exact .inl h
  · exact .inr ⟨g, cap, h1, h2, h3, h4, h5.on (kk.block g h5.lt (fun hm => by have := hS g hm; omega))⟩
theorem MR.grB {S : List Nat} {H : Nat} {w w' : World} {v : Value} {M : List Int} (h : MR H w v M) (kk : GrB S w w') (hS : ∀ x ∈ S, x < H) : MR H w' v M := by
  rcases h with h | ⟨g, cap, h1, h2, cur, hg, r⟩
  · exact .inl h
  · exact .inr ⟨g, cap, h1, h2, cur, (kk.block g (lt_of_block hg) (fun hm => by have := hS g hm; omega)).trans hg, r⟩
abbrev matV (r c n : Int) (l b off cap : Nat) : Value := .agg #[.int .i64 r, .int .i64 c, .int .i64 n, .slice (some ⟨b, off, none⟩) l cap]

theorem mv_err {r c n : Int} {L : List Int} {b off cap Hv : Nat} {W : World} (hck : ckM r c n L = 0) (hW : MatIn W r c n L b off cap) (q : Int) (hq : q ≠ 0) : MvOK ⟨0, 0, 0, q, []⟩ (matV r c n L.length b off cap) b Hv W 0 0 0 (.slice none 0 0) q :=
  ⟨⟨none, 0, 0, rfl⟩, fun S u k hS => gives_zero (moved_no r c n 0 0 0 q (some ⟨b, off, none⟩) cap L none 0 0 q hq (.inr ⟨hck, rfl⟩) u (hW.grB k (fun hm => (hS b hm).1 rfl)).sl)⟩
theorem mv_good {r c n : Int} {L : List Int} {b off cap : Nat} {W : World} (hck : ckM r c n L = 0) (hRg : Rgl L) (hW : MatIn W r c n L b off cap) (vr vc vn : Int) (hn : vn = 64 ∨ vn = 32) (k : Nat) (hk0 : 0 < k) (hk : k ≤ 100000) (p : Nat → Nat) (hp : ∀ j, j < k → p j < L.length) (vs : Value) (Hv : Nat) (hV : MS 2 89 Hv W vs k (prl k (fun _ => 0) p)) : MvOK ⟨vr, vc, vn, 0, (lst k (fun j => L.getD (p j) 0)).map (cln · vn)⟩ (matV r c n L.length b off cap) b Hv W vr vc vn vs 0 := by
  refine ⟨?_, fun S u kk hS => ?_⟩
  case refine_2 =>
    have hu := hW.grB kk (fun hm => (hS b hm).1 rfl)
    exact moved_ok r c n vr vc vn hn b off cap L hck k hk0 hk p hp hRg vs Hv u hu.lt hu.rd hu.sl (hV.grB kk (fun x hx => (hS x hx).2))
  obtain ⟨va, c2, e⟩ := hV.form
  exact ⟨va, k, c2, e⟩

theorem mr_own {H : Nat} {w : World} {g cap k : Nat} {T : List Int} (ho : Own w g cap T) (hl : T.length = k) (hg : H ≤ g) : MR H w (.slice (some ⟨g, 0, none⟩) k cap) T := by
  subst hl
  exact .inr ⟨g, cap, rfl, hg, ho⟩

/-- Form. -/
theorem an_form (R C : Nat) (n f t : Int) (hn : n = 64 ∨ n = 32) (hR : 0 < R) (hC : 0 < C) (hRC : R * C ≤ 4096) (L : List Int) (hL : L.length = R * C) (hRg : Rgl L) (hck : ckM R C n L = 0) :
    ∃ A : An, A.T.length ≤ 100000 ∧ (∀ (u : World) (g cap : Nat), MatIn u R C n L g 0 cap → GivesB A 30 #[matV R C n L.length g 0 cap, .int .i64 f, .int .i64 t] u) ∧
    ∀ (W : World) (b off cp : Nat), MatIn W R C n L b off cp → Calls Try.prog 36 #[.agg #[.int .i64 R, .int .i64 C, .int .i64 n], .int .i64 f, .int .i64 t] W fun e w' => ∃ vr vc vn vs fe, e = .returned (.tuple #[.agg #[.int .i64 vr, .int .i64 vc, .int .i64 vn, vs], .int .i64 fe]) ∧ Kept W w' ∧ MvOK A (matV R C n L.length b off cp) b W.heap.size w' vr vc vn vs fe := by
  have hRCi : (R : Int) * (C : Int) ≤ 4096 := by
    have : ((R * C : Nat) : Int) ≤ 4096 := by omega
    simpa using this
  by_cases h : ckS f t n ≠ 0 ∨ f * t ≠ (R : Int) * (C : Int)
  · refine ⟨⟨0, 0, 0, 4, []⟩, by simp, fun u g cap hu => (gives_zero (form_bad R C n f t 4 (some ⟨g, 0, none⟩) cap L hck (by decide) (fun u => formed_no R C n f t (by omega) (by omega) hRCi h u) u hu.sl)).b, fun W b off cp hW => ?_⟩
    refine (rform_no R C n f t hn (by omega) (by omega) hRCi h W).mono ?_
    rintro e w' ⟨rfl, k⟩
    exact ⟨0, 0, 0, .slice none 0 0, 4, rfl, k, mv_err hck (hW.bl k.bl) 4 (by decide)⟩
  · have h1 : ckS f t n = 0 := Classical.not_not.1 (fun k => h (.inl k))
    have h2 : f * t = (R : Int) * (C : Int) := Classical.not_not.1 (fun k => h (.inr k))
    obtain ⟨-, hf, ht, -⟩ := ckS_ok h1
    obtain ⟨rs, rfl⟩ := Int.eq_ofNat_of_zero_le (show 0 ≤ f by omega)
    obtain ⟨cs, rfl⟩ := Int.eq_ofNat_of_zero_le (show 0 ≤ t by omega)
    have he : rs * cs = R * C := by
      have : ((rs * cs : Nat) : Int) = ((R * C : Nat) : Int) := by simpa using h2
      omega
    have hLm : L.map (cln · n) = (lst (R * C) (fun j => L.getD j 0)).map (cln · n) := by rw [← hL, lst_self]
    refine ⟨⟨rs, cs, n, 0, (lst (R * C) (fun j => L.getD j 0)).map (cln · n)⟩, (by rw [List.length_map, lst_length]; omega), fun u g cap hu => ?_, fun W b off cp hW => ?_⟩
    · have := form_ok R C rs cs n hn (by omega) (by omega) hRC he L hL hRg hck g 0 cap (by have := hu.cp; omega) u hu.lt hu.rd hu.sl
      rw [← hL] at this
      refine Calls.mono this ?_
      rintro e w' ⟨g', rfl, hg, ho, k⟩
      rw [hLm] at ho
      exact ⟨_, rfl, mr_own ho (by rw [List.length_map, lst_length, hL]) hg, k.bl⟩
    · refine (rform_ok R C rs cs n (by omega) (by omega) hRC he W).mono ?_
      rintro e w' ⟨v, rfl, hM, k⟩
      exact ⟨rs, cs, n, v, 0, rfl, k, mv_good hck hRg (hW.bl k.bl) rs cs n hn (R * C) (Nat.mul_pos hR hC) (by omega) (fun j => j) (fun j hj => by rw [hL]; exact hj) v _ hM⟩
theorem an_turn (R C : Nat) (n : Int) (hn : n = 64 ∨ n = 32) (hR : 0 < R) (hC : 0 < C) (hRC : R * C ≤ 4096) (L : List Int) (hL : L.length = R * C) (hRg : Rgl L) (hck : ckM R C n L = 0) :
    ∃ A : An, A.T.length ≤ 100000 ∧ (∀ (u : World) (g cap : Nat), MatIn u R C n L g 0 cap → GivesB A 29 #[matV R C n L.length g 0 cap] u) ∧
    ∀ (W : World) (b off cp : Nat), MatIn W R C n L b off cp → Calls Try.prog 35 #[.agg #[.int .i64 R, .int .i64 C, .int .i64 n]] W fun e w' => ∃ vr vc vn vs, e = .returned (.agg #[.int .i64 vr, .int .i64 vc, .int .i64 vn, vs]) ∧ Kept W w' ∧ MvOK A (matV R C n L.length b off cp) b W.heap.size w' vr vc vn vs 0 := by
  refine ⟨⟨C, R, n, 0, (lst (R * C) (fun j => L.getD ((j % R) * C + j / R) 0)).map (cln · n)⟩, (by rw [List.length_map, lst_length]; omega), fun u g cap hu => ?_, fun W b off cp hW => ?_⟩
  · have := turn_ok R C n hn hR hC hRC L hL hRg hck g 0 cap (by have := hu.cp; omega) u hu.lt hu.rd hu.sl
    rw [← hL] at this
    refine Calls.mono this ?_
    rintro e w' ⟨g', rfl, hg, ho, k⟩
    refine ⟨_, rfl, mr_own ho (by rw [List.length_map, lst_length]) hg |> fun h => ?_, k⟩
    rw [hL] at h ⊢
    exact h
  · refine (rturn_ok R C n hR hC hRC W).mono ?_
    rintro e w' ⟨v, rfl, hM, k⟩
    refine ⟨C, R, n, v, rfl, k, mv_good hck hRg (hW.bl k.bl) C R n hn (R * C) (Nat.mul_pos hR hC) (by omega) _ (fun j hj => ?_) v _ hM⟩
    rw [hL]
    have h1 := Nat.mod_lt j hR
    have h2 : j / R < C := Nat.div_lt_of_lt_mul hj
    show j % R * C + j / R < R * C
    calc j % R * C + j / R < j % R * C + C := by omega
      _ = (j % R + 1) * C := by rw [Nat.succ_mul]
      _ ≤ R * C := Nat.mul_le_mul_right _ h1

theorem an_cutCols (R C : Nat) (n f t : Int) (hn : n = 64 ∨ n = 32) (hR : 0 < R) (hC : 0 < C) (hRC : R * C ≤ 4096) (L : List Int) (hL : L.length = R * C) (hRg : Rgl L) (hck : ckM R C n L = 0) :
    ∃ A : An, A.T.length ≤ 100000 ∧ (∀ (u : World) (g cap : Nat), MatIn u R C n L g 0 cap → GivesB A 31 #[matV R C n L.length g 0 cap, .int .i64 f, .int .i64 t] u) ∧
    ∀ (W : World) (b off cp : Nat), MatIn W R C n L b off cp → Calls Try.prog 37 #[.agg #[.int .i64 R, .int .i64 C, .int .i64 n], .int .i64 0, .int .i64 R, .int .i64 f, .int .i64 t] W fun e w' => ∃ vr vc vn vs fe, e = .returned (.tuple #[.agg #[.int .i64 vr, .int .i64 vc, .int .i64 vn, vs], .int .i64 fe]) ∧ Kept W w' ∧ MvOK A (matV R C n L.length b off cp) b W.heap.size w' vr vc vn vs fe := by
  by_cases h : f < 0 ∨ (C : Int) < t ∨ t ≤ f
  · refine ⟨⟨0, 0, 0, 5, []⟩, by simp, fun u g cap hu => (gives_zero (cutCols_bad R C n f t 5 (some ⟨g, 0, none⟩) cap L hck (by decide) (fun u => colsCut_no R C n f t h u) u hu.sl)).b, fun W b off cp hW => ?_⟩
    refine (rcut_no R C n 0 R f t (by omega) W).mono ?_
    rintro e w' ⟨rfl, k⟩
    exact ⟨0, 0, 0, .slice none 0 0, 5, rfl, k, mv_err hck (hW.bl k.bl) 5 (by decide)⟩
  · obtain ⟨a, rfl⟩ := Int.eq_ofNat_of_zero_le (show 0 ≤ f by omega)
    obtain ⟨b2, rfl⟩ := Int.eq_ofNat_of_zero_le (show 0 ≤ t by omega)
    have h1 : a < b2 := by omega
    have h2 : b2 ≤ C := by omega
    refine ⟨⟨R, (b2 - a : Nat), n, 0, (lst (R * (b2 - a)) (ctf L C 0 a (b2 - a))).map (cln · n)⟩, (by rw [List.length_map, lst_length]; exact Nat.le_trans (Nat.mul_le_mul_left R (show b2 - a ≤ C by omega)) (by omega)), fun u g cap hu => ?_, fun W b off cp hW => ?_⟩
    · have := cutCols_ok R C a b2 n hn hR h1 h2 hRC L hL hRg hck g 0 cap (by have := hu.cp; omega) u hu.lt hu.rd hu.sl
      rw [← hL] at this
      refine Calls.mono this ?_
      rintro e w' ⟨g', rfl, hg, ho, k⟩
      exact ⟨_, rfl, mr_own ho (by rw [List.length_map, lst_length]) hg, k⟩
    · have := rcut_ok R C 0 R a b2 n (Nat.le_refl _) hR h2 h1 hRC W
      refine this.mono ?_
      rintro e w' ⟨v, rfl, hM, k⟩
      rw [Nat.sub_zero] at hM ⊢
      have hpos : 0 < R * (b2 - a) := Nat.mul_pos hR (by omega)
      have hle : R * (b2 - a) ≤ R * C := Nat.mul_le_mul_left _ (by omega)
      refine ⟨R, (b2 - a : Nat), n, v, 0, rfl, k, mv_good hck hRg (hW.bl k.bl) R (b2 - a : Nat) n hn (R * (b2 - a)) hpos (by omega) _ (fun j hj => ?_) v _ hM⟩
      rw [hL]
      exact ct_lt R C 0 a (b2 - a) R _ _ (by omega) (by omega) (Nat.div_lt_of_lt_mul (by rw [Nat.mul_comm]; exact hj)) (Nat.mod_lt _ (by omega))

theorem an_cutRows (R C : Nat) (n f t : Int) (hn : n = 64 ∨ n = 32) (hR : 0 < R) (hC : 0 < C) (hRC : R * C ≤ 4096) (L : List Int) (hL : L.length = R * C) (hRg : Rgl L) (hck : ckM R C n L = 0) :
    ∃ A : An, A.T.length ≤ 100000 ∧ (∀ (u : World) (g cap : Nat), MatIn u R C n L g 0 cap → GivesB A 32 #[matV R C n L.length g 0 cap, .int .i64 f, .int .i64 t] u) ∧
    ∀ (W : World) (b off cp : Nat), MatIn W R C n L b off cp → Calls Try.prog 37 #[.agg #[.int .i64 R, .int .i64 C, .int .i64 n], .int .i64 f, .int .i64 t, .int .i64 0, .int .i64 C] W fun e w' => ∃ vr vc vn vs fe, e = .returned (.tuple #[.agg #[.int .i64 vr, .int .i64 vc, .int .i64 vn, vs], .int .i64 fe]) ∧ Kept W w' ∧ MvOK A (matV R C n L.length b off cp) b W.heap.size w' vr vc vn vs fe := by
  by_cases h : f < 0 ∨ (R : Int) < t ∨ t ≤ f
  · refine ⟨⟨0, 0, 0, 5, []⟩, by simp, fun u g cap hu => (gives_zero (cutRows_bad R C n f t 5 (some ⟨g, 0, none⟩) cap L hck (by decide) (fun u => rowsCut_no R C n f t h u) u hu.sl)).b, fun W b off cp hW => ?_⟩
    refine (rcut_no R C n f t 0 C (by omega) W).mono ?_
    rintro e w' ⟨rfl, k⟩
    exact ⟨0, 0, 0, .slice none 0 0, 5, rfl, k, mv_err hck (hW.bl k.bl) 5 (by decide)⟩
  · obtain ⟨a, rfl⟩ := Int.eq_ofNat_of_zero_le (show 0 ≤ f by omega)
    obtain ⟨b2, rfl⟩ := Int.eq_ofNat_of_zero_le (show 0 ≤ t by omega)
    have h1 : a < b2 := by omega
    have h2 : b2 ≤ R := by omega
    refine ⟨⟨(b2 - a : Nat), C, n, 0, (lst ((b2 - a) * C) (ctf L C a 0 C)).map (cln · n)⟩, (by rw [List.length_map, lst_length]; exact Nat.le_trans (Nat.mul_le_mul_right C (show b2 - a ≤ R by omega)) (by omega)), fun u g cap hu => ?_, fun W b off cp hW => ?_⟩
    · have := cutRows_ok R C a b2 n hn hC h1 h2 hRC L hL hRg hck g 0 cap (by have := hu.cp; omega) u hu.lt hu.rd hu.sl
      rw [← hL] at this
      refine Calls.mono this ?_
      rintro e w' ⟨g', rfl, hg, ho, k⟩
      exact ⟨_, rfl, mr_own ho (by rw [List.length_map, lst_length]) hg, k.bl⟩
    · have := rcut_ok R C a b2 0 C n h2 h1 (Nat.le_refl _) hC hRC W
      refine this.mono ?_
      rintro e w' ⟨v, rfl, hM, k⟩
      rw [Nat.sub_zero] at hM ⊢
      have hpos : 0 < (b2 - a) * C := Nat.mul_pos (by omega) hC
      have hle : (b2 - a) * C ≤ R * C := Nat.mul_le_mul_right _ (by omega)
      refine ⟨(b2 - a : Nat), C, n, v, 0, rfl, k, mv_good hck hRg (hW.bl k.bl) (b2 - a : Nat) C n hn ((b2 - a) * C) hpos (by omega) _ (fun j hj => ?_) v _ hM⟩
      rw [hL]
      exact ct_lt R C a 0 C (b2 - a) _ _ (by omega) (by omega) (Nat.div_lt_of_lt_mul (by rw [Nat.mul_comm]; exact hj)) (Nat.mod_lt _ hC)

theorem an_window (R C : Nat) (n f t : Int) (hn : n = 64 ∨ n = 32) (hR : 0 < R) (hC : 0 < C) (hRC : R * C ≤ 4096) (L : List Int) (hL : L.length = R * C) (hRg : Rgl L) (hck : ckM R C n L = 0) :
    ∃ A : An, A.T.length ≤ 100000 ∧ (∀ (u : World) (g cap : Nat), MatIn u R C n L g 0 cap → GivesB A 33 #[matV R C n L.length g 0 cap, .int .i64 f, .int .i64 t] u) ∧
    ∀ (W : World) (b off cp : Nat), MatIn W R C n L b off cp → Calls Try.prog 38 #[.agg #[.int .i64 R, .int .i64 C, .int .i64 n], .int .i64 f, .int .i64 t] W fun e w' => ∃ vr vc vn vs fe, e = .returned (.tuple #[.agg #[.int .i64 vr, .int .i64 vc, .int .i64 vn, vs], .int .i64 fe]) ∧ Kept W w' ∧ MvOK A (matV R C n L.length b off cp) b W.heap.size w' vr vc vn vs fe := by
  have hC4 : C ≤ 4096 := Nat.le_trans (Nat.le_mul_of_pos_left C hR) hRC
  by_cases h : wnE R C f t = 0
  · have h' := h
    unfold wnE at h'
    split at h'
    · omega
    · rename_i g1
      split at h'
      · omega
      · rename_i g2
        split at h'
        · omega
        · rename_i g3
          obtain rfl : R = 1 := by omega
          obtain ⟨a, rfl⟩ := Int.eq_ofNat_of_zero_le (show 0 ≤ f by omega)
          obtain ⟨b2, rfl⟩ := Int.eq_ofNat_of_zero_le (show 0 ≤ t by omega)
          have h1 : 0 < a := by omega
          have h2 : 0 < b2 := by omega
          have h3 : a ≤ C := by omega
          rw [Nat.one_mul] at hL
          have hq4 : ((C - a) / b2 + 1) * a ≤ 4096 := by
            rw [wnr_nat C a b2 h3] at h'
            obtain ⟨d, hd⟩ : ∃ d, (C - a) / b2 + 1 = d := ⟨_, rfl⟩
            have hp : 0 < d := by rw [← hd]; exact Nat.succ_pos _
            rw [hd] at h' ⊢
            have := (ckS_ok (show ckS (d : Int) a n = 0 by rw [ckS_ckR hn (by omega) (by omega)]; exact h')).2.2.2
            have : ((d * a : Nat) : Int) ≤ 4096 := by simpa using this
            omega
          refine ⟨⟨((C - a) / b2 + 1 : Nat), a, n, 0, (lst (((C - a) / b2 + 1) * a) (wnf L b2 a)).map (cln · n)⟩, (by rw [List.length_map, lst_length]; omega), fun u g cap hu => ?_, fun W b off cp hW => ?_⟩
          · have hw := window_ok C a b2 n hn h1 h2 h3 hC4 hq4 L hL hRg hck g 0 cap (by have := hu.cp; omega) u hu.lt hu.rd hu.sl
            unfold GivesB matV
            rw [hL, show ((1 : Nat) : Int) = 1 from rfl]
            refine hw.mono ?_
            rintro e w' ⟨g', rfl, hg, ho, k⟩
            exact ⟨_, rfl, mr_own ho (by rw [List.length_map, lst_length]) hg, k.bl⟩
          · rw [show ((1 : Nat) : Int) = 1 from rfl]
            refine (rwindow_ok C a b2 n hn h1 h2 h3 hC4 hq4 W).mono ?_
            rintro e w' ⟨v, rfl, hM, k⟩
            refine ⟨((C - a) / b2 + 1 : Nat), a, n, v, 0, rfl, k, mv_good hck hRg (hW.bl k.bl) ((C - a) / b2 + 1 : Nat) a n hn (((C - a) / b2 + 1) * a) (Nat.mul_pos (Nat.succ_pos _) h1) (by omega) _ (fun j hj => ?_) v _ hM⟩
            rw [hL]
            have h5 := wn_le C a b2 (j / a) h2 h3 (Nat.div_lt_of_lt_mul (by rw [Nat.mul_comm]; exact hj))
            have h6 := Nat.mod_lt j h1
            show j / a * b2 + j % a < C
            omega
  · refine ⟨⟨0, 0, 0, wnE R C f t, []⟩, by simp, fun u g cap hu => (gives_zero (window_bad R C n f t (wnE R C f t) (some ⟨g, 0, none⟩) cap L hck h (fun u => ?_) u hu.sl)).b, fun W b off cp hW => ?_⟩
    · have := windowed_any R C n f t (by omega) (by omega) u
      rw [if_neg h] at this
      exact this
    · refine (rwindow_no R C n f t hn (by omega) (by omega) (by omega) h W).mono ?_
      rintro e w' ⟨rfl, k⟩
      exact ⟨0, 0, 0, .slice none 0 0, _, rfl, k, mv_err hck (hW.bl k.bl) _ h⟩
end Go.Proofs.Ytcldcjchfagcoaa
