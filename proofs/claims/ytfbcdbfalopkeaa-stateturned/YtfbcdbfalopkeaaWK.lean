/- A byte that is turned is told. -/
import Derived.Test.YtfbcdbfalopkeaaWI
import Derived.Test.YtfbcdbfalopkeaaWF
namespace Go.Proofs.Ytfbcdbfalopkeaa
open Go.ChangeShapes Go.WideShapes Go.ChangeAt Go.RowKit
set_option linter.unusedVariables false
set_option linter.unusedSimpArgs false

/-- What a piece tells of bytes that differ from a place k on. -/
structure Tld {α : Type} (p : Ps α) : Prop where
  same : ∀ (B C : List Int) k i a q, B.length = C.length → (∀ j, j < k → B.getD j 0 = C.getD j 0) → p B i = .ok a q → q ≤ k → p C i = .ok a q
  le : ∀ (B : List Int) i e r, i ≤ B.length → p B i = .no e r → (i : Int) ≤ r ∧ (e = 50 ∨ e = 51)
  up : ∀ (B : List Int) i a q, p B i = .ok a q → i ≤ q ∧ (i ≤ B.length → q ≤ B.length)
  near : ∀ (B C : List Int) k i a q e r, B.length = C.length → (∀ j, j < k → B.getD j 0 = C.getD j 0) → i ≤ k → k < B.length → p B i = .ok a q → p C i = .no e r → (k : Int) - 7 ≤ r
theorem un_same (B C : List Int) (k i : Nat) (h : ∀ j, j < k → B.getD j 0 = C.getD j 0) : ∀ n, i + n ≤ k → un n B i = un n C i
  | 0, _ => rfl
  | n + 1, hn => by
    show un n B i + B.getD (i + n) 0 * (256 : Int) ^ n = un n C i + C.getD (i + n) 0 * (256 : Int) ^ n
    rw [un_same B C k i h n (by omega), h (i + n) (by omega)]
theorem tld_num (n : Nat) (hn : n ≤ 8) (g : Int → Bool) : Tld (pnum n g) := by
  refine ⟨fun B C k i a q hl h hp hq => ?_, fun B i e r hi hp => ?_, fun B i a q hp => ?_, fun B C k i a q e r hl h hi hk hp hc => ?_⟩
  · unfold pnum at hp ⊢
    split at hp
    · rename_i h1
      split at hp
      · rename_i h2
        cases hp
        have e : numv n C i = numv n B i := by unfold numv; rw [un_same B C k i h n hq]
        rw [if_pos (by omega), e, if_pos h2]
      · cases hp
    · cases hp
  · unfold pnum at hp
    split at hp
    · split at hp
      · cases hp
      · cases hp; exact ⟨by omega, .inr rfl⟩
    · cases hp; exact ⟨by omega, .inl rfl⟩
  · unfold pnum at hp
    split at hp
    · split at hp
      · cases hp; omega
      · cases hp
    · cases hp
  · unfold pnum at hp hc
    split at hp
    · rename_i h1
      split at hp
      · rename_i h2
        cases hp
        split at hc
        · rename_i h3
          split at hc
          · cases hc
          · rename_i h4
            cases hc
            by_cases hq : i + n ≤ k
            · have e : numv n C i = numv n B i := by unfold numv; rw [un_same B C k i h n hq]
              rw [e] at h4
              exact absurd h2 h4
            · omega
        · cases hc; omega
      · cases hp
    · cases hp
theorem tld_pure {α : Type} (a : α) : Tld (ppure a) := ⟨fun B C k i b q _ _ h _ => (by cases h; rfl), fun B i e r _ h => (by cases h), fun B i b q h => (by cases h; exact ⟨Nat.le_refl _, fun h => h⟩), fun B C k i b q e r _ _ _ _ _ h => (by cases h)⟩
theorem tld_bind {α β : Type} {p : Ps α} {f : α → Ps β} (hp : Tld p) (hf : ∀ a, (∃ B i q, p B i = .ok a q) → Tld (f a)) : Tld (pbind p f) := by
  refine ⟨fun B C k i b q hl h hb hq => ?_, fun B i e r hi hb => ?_, fun B i b q hb => ?_, fun B C k i b q e r hl h hi hk hb hc => ?_⟩
  · obtain ⟨a, q1, h1, h2⟩ := andTo_inv hb
    have hu := (hf a ⟨_, _, _, h1⟩).up B q1 b q h2
    show (p C i).andTo _ = _
    rw [hp.same B C k i a q1 hl h h1 (by omega), Res.andTo_ok]
    exact (hf a ⟨_, _, _, h1⟩).same B C k q1 b q hl h h2 hq
  · rcases andTo_no_inv hb with h | ⟨a, q1, h1, h2⟩
    · exact hp.le B i e r hi h
    · have hu := hp.up B i a q1 h1
      have := (hf a ⟨_, _, _, h1⟩).le B q1 e r (hu.2 hi) h2
      exact ⟨by omega, this.2⟩
  · obtain ⟨a, q1, h1, h2⟩ := andTo_inv hb
    have u1 := hp.up B i a q1 h1
    have u2 := (hf a ⟨_, _, _, h1⟩).up B q1 b q h2
    exact ⟨by omega, fun h => u2.2 (u1.2 h)⟩
  · obtain ⟨a, q1, h1, h2⟩ := andTo_inv hb
    rcases andTo_no_inv hc with h3 | ⟨a2, q2, h3, h4⟩
    · exact hp.near B C k i a q1 e r hl h hi hk h1 h3
    · have u1 := hp.up B i a q1 h1
      by_cases hq : q1 ≤ k
      · have h5 := hp.same B C k i a q1 hl h h1 hq
        rw [h5] at h3
        cases h3
        exact (hf a ⟨_, _, _, h1⟩).near B C k q1 b q e r hl h hq hk h2 h4
      · have hk2 : k < q2 := by
          by_cases h6 : q2 ≤ k
          · have h7 := hp.same C B k i a2 q2 hl.symm (fun j hj => (h j hj).symm) h3 h6
            rw [h1] at h7
            cases h7
            omega
          · omega
        have u2 := hp.up C i a2 q2 h3
        have := ((hf a2 ⟨_, _, _, h3⟩).le C q2 e r (u2.2 (by omega)) h4).1
        omega
theorem tld_rep {α : Type} {p : Ps α} (hp : Tld p) : ∀ N, Tld (prep N p)
  | 0 => tld_pure []
  | N + 1 => tld_bind hp fun a _ => tld_bind (tld_rep hp N) fun l _ => tld_pure (a :: l)
theorem tld_mk : ∀ l, Tld (pmk l)
  | [] => tld_pure ()
  | x :: l => tld_bind (tld_num 1 (by decide) _) fun _ _ => tld_mk l
theorem tld_mat : Tld pmat := tld_bind (tld_num 1 (by decide) _) fun n hn => tld_bind (tld_num 2 (by decide) _) fun r _ => tld_bind (tld_num 2 (by decide) _) fun c _ => tld_bind (tld_rep (tld_num _ (by
  obtain ⟨B, i, q, h⟩ := hn
  obtain ⟨-, hv, -, -⟩ := pnum_ok h
  rw [val_0, decide_eq_true_eq] at hv
  rcases hv with e | e <;> rw [e] <;> decide) _) _) fun L _ => tld_pure _
theorem tld_mats (k : Nat) (hk : k ≤ 8) (mo : Int) : Tld (pmats k mo) := tld_bind (tld_num k hk _) fun n _ => tld_rep tld_mat _
theorem tld_body : Tld pbody := tld_bind (tld_mk _) fun _ _ => tld_bind (tld_num 8 (by decide) _) fun a _ => tld_bind (tld_num 8 (by decide) _) fun b _ => tld_bind (tld_num 8 (by decide) _) fun d _ => tld_bind (tld_num 8 (by decide) _) fun lo _ => tld_bind (tld_num 8 (by decide) _) fun ra _ => tld_bind (tld_mats 2 (by decide) 64) fun P _ => tld_bind (tld_num 2 (by decide) _) fun n _ => tld_bind (tld_rep (tld_mats 1 (by decide) 4) _) fun Q _ => tld_pure _
theorem sz_set (x : Int) : ∀ (l : List Int) (i k : Nat), k < l.length → sz i (l.set k x) = sz i l + ((i + k : Nat) + 1 : Int) * (x - l.getD k 0)
  | [], i, k, h => by simp at h
  | b :: l, i, 0, _ => by
    show ((i : Int) + 1) * x + sz (i + 1) l = ((i : Int) + 1) * b + sz (i + 1) l + ((i + 0 : Nat) + 1 : Int) * (x - b)
    rw [Nat.add_zero, Int.mul_sub]
    generalize ((i : Int) + 1) * x = u
    generalize ((i : Int) + 1) * b = v
    omega
  | b :: l, i, k + 1, h => by
    show ((i : Int) + 1) * b + sz (i + 1) (l.set k x) = ((i : Int) + 1) * b + sz (i + 1) l + ((i + (k + 1) : Nat) + 1 : Int) * (x - l.getD k 0)
    rw [sz_set x l (i + 1) k (by simpa using h), show i + 1 + k = i + (k + 1) by omega]
    exact (Int.add_assoc _ _ _).symm
theorem set_getD (l : List Int) (k j : Nat) (x : Int) (h : j ≠ k) : (l.set k x).getD j 0 = l.getD j 0 := by
  rw [List.getD_eq_getElem?_getD, List.getD_eq_getElem?_getD, List.getElem?_set]
  split
  · omega
  · rfl
theorem un_same2 (B C : List Int) (i : Nat) (h : ∀ j, i ≤ j → B.getD j 0 = C.getD j 0) : ∀ n, un n B i = un n C i
  | 0 => rfl
  | n + 1 => by
    show un n B i + B.getD (i + n) 0 * (256 : Int) ^ n = un n C i + C.getD (i + n) 0 * (256 : Int) ^ n
    rw [un_same2 B C i h n, h (i + n) (by omega)]
theorem sum_differs (S a d : Int) (ha : 1 ≤ a) (ha2 : a ≤ 14000000) (hd : d ≠ 0) (hd1 : -255 ≤ d) (hd2 : d ≤ 255) (h : S % 4294967296 = (S + a * d) % 4294967296) : False := by
  have h1 : a * d ≤ 14000000 * 255 := by
    have h2 : a * d ≤ a * 255 := Int.mul_le_mul_of_nonneg_left hd2 (by omega)
    omega
  have h3 : -(14000000 * 255) ≤ a * d := by
    have h2 : a * (-255) ≤ a * d := Int.mul_le_mul_of_nonneg_left hd1 (by omega)
    omega
  have h4 : a * d ≠ 0 := Int.mul_ne_zero (by omega) hd
  generalize a * d = y at *
  omega
/-- A byte that is turned is told: at its place, at most seven bytes ahead of it, or behind it. -/
theorem read_turned {s : Sta} (h : Frm s) (hr : SRg s) (k : Nat) (hk : k < (enc s).length) (x : Int) (hx : 0 ≤ x ∧ x < 256) (hne : x ≠ (enc s).getD k 0) : ∃ e r, rread ((enc s).set k x) = .no e r ∧ 50 ≤ e ∧ e ≤ 52 ∧ (k : Int) - 7 ≤ r := by
  obtain ⟨h1, hl, hle, ht, h3⟩ := enc_parts h hr
  have hbk := (byt_enc s).at k
  have hbE := byt_enc s
  have hsr := sumB_rng (wbody s)
  have hby : Byt ((enc s).set k x) := fun j hj => by
    by_cases e : j = k
    · subst e
      rw [List.getD_eq_getElem?_getD, List.getElem?_set_self (by simpa using hj)]
      exact hx
    · rw [set_getD _ _ _ _ e]
      exact (byt_enc s).at j
  generalize enc s = E at *
  obtain ⟨C, hC⟩ : ∃ C, E.set k x = C := ⟨_, rfl⟩
  have hCl : E.length = C.length := by rw [← hC, List.length_set]
  have hag : ∀ j, j < k → E.getD j 0 = C.getD j 0 := fun j hj => by rw [← hC, set_getD _ _ _ _ (by omega)]
  rw [hC] at hby ⊢
  unfold rread
  rw [if_pos (by omega)]
  unfold pall pbind
  rcases hb : pbody C 0 with ⟨e, r⟩ | ⟨s2, q⟩
  · rw [Res.andTo_no]
    have := tld_body.near E C k 0 s _ e r hCl hag (Nat.zero_le _) hk h1 hb
    have h5 := (tld_body.le C 0 e r (Nat.zero_le _) hb).2
    exact ⟨e, r, rfl, by omega, by omega, this⟩
  · rw [Res.andTo_ok]
    show ∃ e r, (pend C q).andTo _ = _ ∧ _
    have hu := (tld_body.up C 0 s2 q hb).2 (Nat.zero_le _)
    have hqk : (wbody s).length ≤ k → q = (wbody s).length := fun h9 => by
      have := tld_body.same E C k 0 s _ hCl hag h1 h9
      rw [hb] at this
      cases this
      rfl
    have hkq : k < (wbody s).length → k < q := fun h9 => by
      by_cases h6 : q ≤ k
      · have h7 := tld_body.same C E k 0 s2 q hCl.symm (fun j hj => (hag j hj).symm) hb h6
        rw [h1] at h7
        cases h7
        omega
      · omega
    have hqg : (k : Int) - 7 ≤ q := by
      by_cases h9 : (wbody s).length ≤ k
      · rw [hqk h9]; omega
      · have := hkq (by omega); omega
    unfold pend
    rcases hp : pnum 4 anyB C q with ⟨e, r⟩ | ⟨n, q2⟩
    · rw [Res.andTo_no]
      have h5 := (tld_num 4 (by decide) anyB).le C q e r hu hp
      exact ⟨e, r, rfl, by omega, by omega, by omega⟩
    · rw [Res.andTo_ok]
      obtain ⟨en, -, hq2, hq3⟩ := pnum_ok hp
      by_cases hs : n = sumB (C.take q)
      · rw [if_pos hs]
        by_cases hq4 : q2 = C.length
        · exfalso
          have hq5 : q = (wbody s).length := by omega
          by_cases h9 : (wbody s).length ≤ k
          · have htk : C.take q = wbody s := by
              rw [← ht, hq5, ← hC, List.take_set_of_le (by omega)]
            rw [htk] at hs
            have e2 : (C.drop q).take 4 = (E.drop q).take 4 := by
              have a1 := le_numv C q 4 (by decide) hby (by omega)
              have a2 := le_numv E q 4 (by decide) hbE (by omega)
              rw [← a1, ← a2, ← en, hs, hq5, h3]
            have e3 : C.getD k 0 = E.getD k 0 := by
              have f : ∀ L : List Int, ((L.drop q).take 4).getD (k - q) 0 = L.getD k 0 := fun L => by
                rw [take_getD _ _ _ (by omega), List.getD_eq_getElem?_getD, List.getElem?_drop, show q + (k - q) = k by omega, ← List.getD_eq_getElem?_getD]
              rw [← f C, e2, f E]
            rw [← hC, List.getD_eq_getElem?_getD, List.getElem?_set_self hk] at e3
            exact hne e3
          · have hkw : k < (wbody s).length := by omega
            have htk : C.take q = (wbody s).set k x := by
              rw [← ht, hq5, ← hC, List.take_set]
            have hnv : numv 4 C q = numv 4 E q := by
              unfold numv
              rw [un_same2 C E q (fun j hj => by rw [← hC, set_getD _ _ _ _ (by omega)])]
            have hWk : (wbody s).getD k 0 = E.getD k 0 := by
              rw [← ht, take_getD _ _ _ (by omega)]
            rw [en, hnv, hq5, h3, ← hq5, htk] at hs
            unfold sumB at hs
            rw [sz_set x _ 0 k hkw, hWk] at hs
            exact sum_differs _ _ _ (by omega) (by omega) (by omega) (by omega) (by omega) hs
        · rw [if_neg hq4]
          exact ⟨51, q2, rfl, by omega, by omega, by omega⟩
      · rw [if_neg hs]
        exact ⟨52, q, rfl, by omega, by omega, by omega⟩
end Go.Proofs.Ytfbcdbfalopkeaa
