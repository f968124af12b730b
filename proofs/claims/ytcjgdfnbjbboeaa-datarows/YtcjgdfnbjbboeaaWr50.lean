/- The document's Row and Pick of any set. -/
import Derived.Test.YtcjgdfnbjbboeaaWr49
namespace Go.Proofs.Ytcjgdfnbjbboeaa
open Go.ChangeShapes Go.WideShapes Go.ChangeAt Go.RowKit
set_option linter.unusedVariables false
set_option linter.unusedSimpArgs false

/-- the document's answer: where its lists lie -/
def SD (H : Nat) (w' : World) (a : Option Addr) (p : Nat) (K : List Int) (a' : Option Addr) (p' : Nat) (K' : List Int) : Prop := Ew w' a p K ∧ Ew w' a' p' K' ∧ (a = none → p = 0) ∧ (a' = none → p' = 0) ∧ (∀ b ∈ eb a, H ≤ b) ∧ ∀ b ∈ eb a', H ≤ b
theorem sd_none {H : Nat} {w' : World} : SD H w' none 0 [] none 0 [] := ⟨.inl ⟨rfl, rfl⟩, .inl ⟨rfl, rfl⟩, fun _ => rfl, fun _ => rfl, fun b hb => by simp [eb] at hb, fun b hb => by simp [eb] at hb⟩
theorem sd_some {H : Nat} {w' : World} {g p : Nat} {K : List Int} {g' p' : Nat} {K' : List Int} (ho : Own w' g p K) (ho' : Own w' g' p' K') (h : H ≤ g) (h' : H ≤ g') : SD H w' (some ⟨g, 0, none⟩) p K (some ⟨g', 0, none⟩) p' K' := by
  refine ⟨.inr ⟨g, rfl, ho⟩, .inr ⟨g', rfl, ho'⟩, fun e => (by cases e), fun e => (by cases e), fun b hb => ?_, fun b hb => ?_⟩
  · have : b = g := by simpa [eb] using hb
    omega
  · have : b = g' := by simpa [eb] using hb
    omega
def RD (H : Nat) (r c n : Int) (L : List Int) (r' c' n' : Int) (L' J : List Int) (e : Ending) (w' : World) : Prop := ∃ (q m cc cc' nn : Int) (a : Option Addr) (p : Nat) (K : List Int) (a' : Option Addr) (p' : Nat) (K' : List Int), e = .returned (.tuple #[.agg #[.int .i64 m, .int .i64 cc, .int .i64 nn, .slice a K.length p], .agg #[.int .i64 m, .int .i64 cc', .int .i64 nn, .slice a' K'.length p'], .int .i64 q]) ∧ PS r c n L r' c' n' L' J q m cc cc' nn K K' ∧ SD H w' a p K a' p' K'
def PD (H : Nat) (r c n : Int) (L : List Int) (r' c' n' : Int) (L' J : List Int) (e : Ending) (w' : World) : Prop := ∃ (q m cc cc' nn : Int) (a : Option Addr) (p : Nat) (K : List Int) (a' : Option Addr) (p' : Nat) (K' : List Int), e = .returned (.tuple #[sv8 m cc nn (.slice a K.length p) m cc' nn (.slice a' K'.length p'), .int .i64 q]) ∧ PS r c n L r' c' n' L' J q m cc cc' nn K K' ∧ SD H w' a p K a' p' K'
theorem jin_one (R : Nat) (row : Int) : Jin R [row] ↔ 0 ≤ row ∧ row < R := by
  constructor
  · intro h
    have := h 0 (by simp)
    simpa using this
  · intro h i hi
    obtain rfl : i = 0 := by simpa using hi
    simpa using h
theorem pkl_one (M : List Int) (C : Nat) (row : Int) : pkl M C [row] = bpt M (row.toNat * C) C := by simp [pkl]

theorem rpick_any (r c n : Int) (a : Option Addr) (p : Nat) (L : List Int) (r' c' n' : Int) (a' : Option Addr) (p' : Nat) (L' : List Int) (hg : Rgl L) (hg' : Rgl L') (J : List Int) (hJ9 : J.length ≤ 9000) (ja : Option Addr) (jc : Nat) (w : World) (hX : Sl w (.slice a L.length p) L) (hY : Sl w (.slice a' L'.length p') L') (hJ : Sl w (.slice ja J.length jc) J) :
    Calls Try.prog 14 #[sv8 r c n (.slice a L.length p) r' c' n' (.slice a' L'.length p'), .slice ja J.length jc] w fun e w' => PD w.heap.size r c n L r' c' n' L' J e w' ∧ Kept w w' := by
  obtain ⟨x, q0, hD⟩ := dans_ex r c n L r' c' n' L'
  have KC : Hid (∀ u, Kept w u → Calls Try.prog 28 #[sv8 r c n (.slice a L.length p) r' c' n' (.slice a' L'.length p')] u fun e w' => e = .returned (.tuple #[.int .i64 x, .int .i64 q0]) ∧ Kept u w') := fun u k => (drcheck_any r c n a p L r' c' n' a' p' L' hg hg' u (hX.kept k) (hY.kept k)).mono fun e w' ⟨x', q', h1, h2, h3⟩ => by
    obtain ⟨rfl, rfl⟩ := h2.uniq hD
    exact ⟨h1, h3⟩
  by_cases hq : q0 = 0
  · subst hq
    have hF := dans_zero hD
    obtain ⟨h1, h2, rfl, rfl⟩ := ckf_parts hF
    obtain ⟨R, C, rfl, rfl, hR, hC, hRC, hl, hn, ha⟩ := ck_form _ _ _ _ h1
    obtain ⟨R', C', e1, rfl, hR', hC', hRC', hl', hn', ha'⟩ := ck_form _ _ _ _ h2
    obtain rfl : R = R' := by omega
    have hRCp : 0 < R * C := Nat.mul_pos hR hC
    have hRCp' : 0 < R * C' := Nat.mul_pos hR hC'
    obtain ⟨b, off, rfl, hb, hr⟩ := sl_ad hX (fun e => by rw [e] at hl; simp at hl; omega)
    obtain ⟨b', off', rfl, hb', hr'⟩ := sl_ad hY (fun e => by rw [e] at hl'; simp at hl'; omega)
    have hC4 : C ≤ 4096 := Nat.le_trans (Nat.le_mul_of_pos_left C hR) hRC
    have hC4' : C' ≤ 4096 := Nat.le_trans (Nat.le_mul_of_pos_left C' hR) hRC'
    have hj : 0 < J.length → ∃ jb jo, ja = some ⟨jb, jo, none⟩ ∧ jb < w.heap.size ∧ Reads w jb jo J := fun h => sl_ad hJ (fun e => by rw [e] at h; simp at h)
    refine (rpick_v R C C' n L L' b off p b' off' p' L.length L'.length J J.length rfl hJ9 ja jc w hC hC' hC4 hC4' hj x hl hl' KC (fun u i k hi => ?_) (fun u i k hi => ?_)).mono ?_
    · exact cut_any R C i n hi hC (by omega) L hl b off _ p hl (sl_cap hX).1 u (Nat.lt_of_lt_of_le hb k.below.size) (fun j hj => (k.below.cell (p := ⟨b, off + j, none⟩) hb).trans (hr j hj)) (sl_cap hX).2
    · exact cut_any R C' i n hi hC' (by omega) L' hl' b' off' _ p' hl' (sl_cap hY).1 u (Nat.lt_of_lt_of_le hb' k.below.size) (fun j hj => (k.below.cell (p := ⟨b', off' + j, none⟩) hb').trans (hr' j hj)) (sl_cap hY).2
    · rintro e w' ⟨hp, hb2⟩
      refine ⟨?_, hb2⟩
      have hz : Z7 0 0 0 0 [] [] := ⟨rfl, rfl, rfl, rfl, rfl, rfl⟩
      rcases hp with ⟨hk, rfl⟩ | ⟨hk, hj2, rfl⟩ | ⟨hk, hj2, hlong, rfl⟩ | ⟨hk, hj2, hfit, g, cp, g', cp', rfl, ho, ho', hlg, hlg'⟩
      · exact ⟨41, 0, 0, 0, 0, none, 0, [], none, 0, [], rfl, ⟨x, 0, hD, .inr (.inl ⟨rfl, hk, rfl, hz⟩)⟩, sd_none⟩
      · exact ⟨40, 0, 0, 0, 0, none, 0, [], none, 0, [], rfl, ⟨x, 0, hD, .inr (.inr (.inl ⟨rfl, hk, hj2, rfl, hz⟩))⟩, sd_none⟩
      · exact ⟨2, 0, 0, 0, 0, none, 0, [], none, 0, [], rfl, ⟨x, 0, hD, .inr (.inr (.inr (.inl ⟨rfl, hk, hj2, hlong, rfl, hz⟩)))⟩, sd_none⟩
      · have e1 : (pkl L C J).length = J.length * C := by have := pkl_len R C L hl J hj2 J.length (Nat.le_refl _); rwa [List.take_length] at this
        have e2 : (pkl L' C' J).length = J.length * C' := by have := pkl_len R C' L' hl' J hj2 J.length (Nat.le_refl _); rwa [List.take_length] at this
        exact ⟨0, J.length, C, C', n, some ⟨g, 0, none⟩, cp, pkl L C J, some ⟨g', 0, none⟩, cp', pkl L' C' J, by rw [e1, e2], ⟨x, 0, hD, .inr (.inr (.inr (.inr ⟨rfl, hk, hj2, hfit, rfl, rfl, rfl, rfl, rfl, rfl, rfl⟩)))⟩, sd_some ho ho' hlg hlg'⟩
  · refine (rpick_e r c n a p L r' c' n' a' p' L' _ w x q0 hq KC).mono ?_
    rintro e w' ⟨rfl, hb⟩
    exact ⟨⟨q0, 0, 0, 0, 0, none, 0, [], none, 0, [], rfl, ⟨x, q0, hD, .inl ⟨hq, rfl, rfl, rfl, rfl, rfl, rfl, rfl⟩⟩, sd_none⟩, hb⟩

theorem rrow_any (r c n : Int) (a : Option Addr) (p : Nat) (L : List Int) (r' c' n' : Int) (a' : Option Addr) (p' : Nat) (L' : List Int) (hg : Rgl L) (hg' : Rgl L') (row : Int) (w : World) (hX : Sl w (.slice a L.length p) L) (hY : Sl w (.slice a' L'.length p') L') :
    Calls Try.prog 9 #[sv8 r c n (.slice a L.length p) r' c' n' (.slice a' L'.length p'), .int .i64 row] w fun e w' => RD w.heap.size r c n L r' c' n' L' [row] e w' ∧ Kept w w' := by
  obtain ⟨x, q0, hD⟩ := dans_ex r c n L r' c' n' L'
  have KC : Hid (∀ u, Kept w u → Calls Try.prog 28 #[sv8 r c n (.slice a L.length p) r' c' n' (.slice a' L'.length p')] u fun e w' => e = .returned (.tuple #[.int .i64 x, .int .i64 q0]) ∧ Kept u w') := fun u k => (drcheck_any r c n a p L r' c' n' a' p' L' hg hg' u (hX.kept k) (hY.kept k)).mono fun e w' ⟨x', q', h1, h2, h3⟩ => by
    obtain ⟨rfl, rfl⟩ := h2.uniq hD
    exact ⟨h1, h3⟩
  have hz : Z7 0 0 0 0 [] [] := ⟨rfl, rfl, rfl, rfl, rfl, rfl⟩
  have KZ : ∀ (m2 m3 m2' : Int) (GX GY : Nat → Option Addr → Nat → World → Prop) (e : Ending) (w' : World), (q0 = 0 → 0 ≤ row → row < r → m2 = c ∧ m3 = n ∧ m2' = c' ∧ (1 : Nat) ≤ 4096 / max c.toNat c'.toNat ∧ (∀ l a p, GX l a p w' → l = (pkl L c.toNat [row]).length ∧ ∃ g, a = some ⟨g, 0, none⟩ ∧ w.heap.size ≤ g ∧ Own w' g p (pkl L c.toNat [row])) ∧ (∀ l a p, GY l a p w' → l = (pkl L' c'.toNat [row]).length ∧ ∃ g, a = some ⟨g, 0, none⟩ ∧ w.heap.size ≤ g ∧ Own w' g p (pkl L' c'.toNat [row]))) → (q0 = 0 → 0 ≤ r) → RRw q0 row r 1 m2 m3 1 m2' m3 GX GY e w' → RD w.heap.size r c n L r' c' n' L' [row] e w' := fun m2 m3 m2' GX GY e w' hok h0r h => by
    rcases h with ⟨hq, rfl⟩ | ⟨hq, ho, rfl⟩ | ⟨hq, h1, h2, l, al, pl, l', al', pl', rfl, hx, hy⟩
    · exact ⟨q0, 0, 0, 0, 0, none, 0, [], none, 0, [], rfl, ⟨x, q0, hD, .inl ⟨hq, rfl, hz⟩⟩, sd_none⟩
    · subst hq
      refine ⟨40, 0, 0, 0, 0, none, 0, [], none, 0, [], rfl, ⟨x, 0, hD, .inr (.inr (.inl ⟨rfl, by simp, fun hj => ?_, rfl, hz⟩))⟩, sd_none⟩
      have := (jin_one _ _).1 hj
      have := h0r rfl
      omega
    · subst hq
      obtain ⟨rfl, rfl, rfl, hfit, hgx, hgy⟩ := hok rfl h1 h2
      obtain ⟨rfl, g1, rfl, hl1, s1⟩ := hgx _ _ _ hx
      obtain ⟨rfl, g2, rfl, hl2, s2⟩ := hgy _ _ _ hy
      exact ⟨0, 1, m2, m2', m3, _, pl, _, _, pl', _, rfl, ⟨x, 0, hD, .inr (.inr (.inr (.inr ⟨rfl, by simp, (jin_one _ _).2 ⟨h1, by omega⟩, by simpa using hfit, rfl, rfl, rfl, rfl, rfl, rfl, rfl⟩)))⟩, sd_some s1 s2 hl1 hl2⟩
  by_cases hq : q0 = 0
  · subst hq
    have hF := dans_zero hD
    obtain ⟨h1, h2, rfl, rfl⟩ := ckf_parts hF
    obtain ⟨R, C, rfl, rfl, hR, hC, hRC, hl, hn, ha⟩ := ck_form _ _ _ _ h1
    obtain ⟨R', C', e1, rfl, hR', hC', hRC', hl', hn', ha'⟩ := ck_form _ _ _ _ h2
    obtain rfl : R = R' := by omega
    have hRCp : 0 < R * C := Nat.mul_pos hR hC
    have hRCp' : 0 < R * C' := Nat.mul_pos hR hC'
    obtain ⟨b, off, rfl, hb, hr⟩ := sl_ad hX (fun e => by rw [e] at hl; simp at hl; omega)
    obtain ⟨b', off', rfl, hb', hr'⟩ := sl_ad hY (fun e => by rw [e] at hl'; simp at hl'; omega)
    have hC4 : C ≤ 4096 := Nat.le_trans (Nat.le_mul_of_pos_left C hR) hRC
    have hC4' : C' ≤ 4096 := Nat.le_trans (Nat.le_mul_of_pos_left C' hR) hRC'
    refine (rrow_walk R C n R C' n _ _ rfl rfl row x 0 1 C n 1 C' n (fun l a p u => l = C ∧ ∃ g, a = some ⟨g, 0, none⟩ ∧ w.heap.size + 3 ≤ g ∧ Own u g p (bpt L (row.toNat * C) C)) (fun l a p u => l = C' ∧ ∃ g, a = some ⟨g, 0, none⟩ ∧ w.heap.size + 3 ≤ g ∧ Own u g p (bpt L' (row.toNat * C') C')) w ?_ ?_ ?_ ?_ KC ?_ ?_).mono ?_
    · exact fun l a p u u' ⟨e, g, h1, h2, h3⟩ k => ⟨e, g, h1, h2, h3.kept k⟩
    · exact fun l a p u u' ⟨e, g, h1, h2, h3⟩ k => ⟨e, g, h1, h2, h3.kept k⟩
    · exact fun l a p u b v ⟨e, g, h1, h2, h3⟩ hb => ⟨e, g, h1, h2, h3.setOther (by omega) v⟩
    · exact fun l a p u b v ⟨e, g, h1, h2, h3⟩ hb => ⟨e, g, h1, h2, h3.setOther (by omega) v⟩
    · refine fun u k hs _ g1 g2 => ?_
      have := cut_any R C row.toNat n (by omega) hC (by omega) L hl b off _ p hl (sl_cap hX).1 u (Nat.lt_of_lt_of_le hb k.below.size) (fun j hj => (k.below.cell (p := ⟨b, off + j, none⟩) hb).trans (hr j hj)) (sl_cap hX).2
      rw [show ((row.toNat : Nat) : Int) = row from by omega] at this
      exact this.mono fun e w' ⟨g, cp, h1, h2, h3, h4⟩ => ⟨C, some ⟨g, 0, none⟩, cp, h1, ⟨rfl, g, rfl, by omega, h3⟩, h4⟩
    · refine fun u k hs _ g1 g2 => ?_
      have := cut_any R C' row.toNat n (by omega) hC' (by omega) L' hl' b' off' _ p' hl' (sl_cap hY).1 u (Nat.lt_of_lt_of_le hb' k.below.size) (fun j hj => (k.below.cell (p := ⟨b', off' + j, none⟩) hb').trans (hr' j hj)) (sl_cap hY).2
      rw [show ((row.toNat : Nat) : Int) = row from by omega] at this
      exact this.mono fun e w' ⟨g, cp, h1, h2, h3, h4⟩ => ⟨C', some ⟨g, 0, none⟩, cp, h1, ⟨rfl, g, rfl, by omega, h3⟩, h4⟩
    · rintro e w' ⟨h, k⟩
      refine ⟨KZ _ _ _ _ _ e w' (fun _ g1 g2 => ⟨rfl, rfl, rfl, ?_, ?_, ?_⟩) (fun _ => by omega) h, k⟩
      · exact (Nat.le_div_iff_mul_le (by omega)).2 (by omega)
      · rintro l a p ⟨rfl, g, rfl, hlg, ho⟩
        have hb1 := (jrow hl g1 g2).2
        rw [pkl_one]
        exact ⟨hb1.symm, g, rfl, by omega, ho⟩
      · rintro l a p ⟨rfl, g, rfl, hlg, ho⟩
        have hb1 := (jrow hl' g1 g2).2
        rw [pkl_one]
        exact ⟨hb1.symm, g, rfl, by omega, ho⟩
  · refine (rrow_walk r c n r' c' n' _ _ rfl rfl row x q0 1 0 0 1 0 0 (fun _ _ _ _ => True) (fun _ _ _ _ => True) w (fun _ _ _ _ _ _ _ => trivial) (fun _ _ _ _ _ _ _ => trivial) (fun _ _ _ _ _ _ _ _ => trivial) (fun _ _ _ _ _ _ _ _ => trivial) KC (fun _ _ _ h => absurd h hq) (fun _ _ _ h => absurd h hq)).mono ?_
    rintro e w' ⟨h, k⟩
    exact ⟨KZ _ _ _ _ _ e w' (fun h => absurd h hq) (fun h => absurd h hq) h, k⟩
end Go.Proofs.Ytcjgdfnbjbboeaa
