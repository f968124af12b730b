/- Words mixed: as whole numbers below 2^64. No two words become one; every number below 2^64 is some place's word; how many words are passed over; a shuffle as a list. -/
import Derived.Laws.Bits64b
namespace Go.Proofs.Ytedghjededicpaa
set_option linter.unusedVariables false

def xsh (s z : Nat) : Nat := z ^^^ z / 2 ^ s
def mixn (z : Nat) : Nat := xsh 31 (xsh 27 (xsh 30 z * 13787848793156543929 % 18446744073709551616) * 10723151780598845931 % 18446744073709551616)

theorem xsh_lt (s z : Nat) (h : z < 18446744073709551616) : xsh s z < 18446744073709551616 := by
  have : z / 2 ^ s < 2 ^ 64 := Nat.lt_of_le_of_lt (Nat.div_le_self _ _) (by simpa using h)
  have := Nat.xor_lt_two_pow (n := 64) (x := z) (y := z / 2 ^ s) (by simpa using h) this
  simpa [xsh] using this

theorem mixn_lt (z : Nat) : mixn z < 18446744073709551616 := xsh_lt _ _ (Nat.mod_lt _ (by decide))

theorem mixn_zero : mixn 0 = 0 := by decide

theorem xsh_bit (s z i : Nat) : (xsh s z).testBit i = (z.testBit i ^^ z.testBit (s + i)) := by
  simp [xsh, Nat.testBit_xor, Nat.testBit_div_two_pow, Nat.add_comm]

theorem xsh_inj (s : Nat) (hs : 0 < s) (a b : Nat) (ha : a < 18446744073709551616) (hb : b < 18446744073709551616) (h : xsh s a = xsh s b) : a = b := by
  have key : ∀ k i, 64 ≤ i + k → a.testBit i = b.testBit i := by
    intro k
    induction k with
    | zero =>
      intro i hi
      have e : 2 ^ 64 ≤ 2 ^ i := Nat.pow_le_pow_right (by decide) (by omega)
      have e' : (2:Nat) ^ 64 = 18446744073709551616 := by decide
      rw [Nat.testBit_lt_two_pow (Nat.lt_of_lt_of_le ha (e' ▸ e)), Nat.testBit_lt_two_pow (Nat.lt_of_lt_of_le hb (e' ▸ e))]
    | succ k ih =>
      intro i hi
      have h1 := xsh_bit s a i
      have h2 := xsh_bit s b i
      rw [h, h2, ih (s + i) (by omega)] at h1
      revert h1
      generalize a.testBit i = x
      generalize b.testBit i = y
      generalize b.testBit (s + i) = z
      revert x y z
      decide
  exact Nat.eq_of_testBit_eq fun i => key 64 i (by omega)

/-- A factor with an inverse loses nothing. -/
theorem mul_inj (c d : Nat) (hc : c * d % 18446744073709551616 = 1) (a b : Nat) (ha : a < 18446744073709551616) (hb : b < 18446744073709551616) (h : a * c % 18446744073709551616 = b * c % 18446744073709551616) : a = b := by
  have e : ∀ x, x < 18446744073709551616 → x * c % 18446744073709551616 * d % 18446744073709551616 = x := by
    intro x hx
    rw [Nat.mod_mul_mod, Nat.mul_assoc, ← Nat.mul_mod_mod, hc, Nat.mul_one, Nat.mod_eq_of_lt hx]
  rw [← e a ha, ← e b hb, h]

theorem mixn_inj (a b : Nat) (ha : a < 18446744073709551616) (hb : b < 18446744073709551616) (h : mixn a = mixn b) : a = b := by
  unfold mixn at h
  have h1 := xsh_inj 31 (by decide) _ _ (Nat.mod_lt _ (by decide)) (Nat.mod_lt _ (by decide)) h
  have h2 := mul_inj 10723151780598845931 3573116690164977347 (by decide) _ _ (xsh_lt _ _ (Nat.mod_lt _ (by decide))) (xsh_lt _ _ (Nat.mod_lt _ (by decide))) h1
  have h3 := xsh_inj 27 (by decide) _ _ (Nat.mod_lt _ (by decide)) (Nat.mod_lt _ (by decide)) h2
  have h4 := mul_inj 13787848793156543929 10871156337175269513 (by decide) _ _ (xsh_lt _ _ ha) (xsh_lt _ _ hb) h3
  exact xsh_inj 30 (by decide) _ _ ha hb h4

/-- An int's word. -/
def un (x : Int) : Nat := (x % 18446744073709551616).toNat
theorem un_lt (x : Int) : un x < 18446744073709551616 := by unfold un; omega
theorem un_cast (x : Int) : (un x : Int) = x % 18446744073709551616 := by unfold un; omega
/-- A word's int. -/
def sg64 (n : Int) : Int := (n + 9223372036854775808) % 18446744073709551616 - 9223372036854775808
theorem un_sg (n : Int) : un (sg64 n) = un n := by unfold un sg64; omega
theorem un_add (x y : Int) (h : x % 18446744073709551616 = y % 18446744073709551616) : un x = un y := by unfold un; rw [h]

def keyn (s t : Int) : Nat := mixn (un s ^^^ mixn ((un t + 7146057691288625177) % 18446744073709551616))
def wn (s t a : Int) : Nat := mixn ((keyn s t + (un a + 1) % 18446744073709551616 * 11400714819323198485 % 18446744073709551616) % 18446744073709551616)
def spl (s t k : Int) : Nat := mixn (keyn s t ^^^ mixn ((un k + 15111065706836454659) % 18446744073709551616))

theorem keyn_lt (s t : Int) : keyn s t < 18446744073709551616 := mixn_lt _
theorem wn_lt (s t a : Int) : wn s t a < 18446744073709551616 := mixn_lt _
theorem spl_lt (s t a : Int) : spl s t a < 18446744073709551616 := mixn_lt _
theorem wn_cong (s t a b : Int) (h : a % 18446744073709551616 = b % 18446744073709551616) : wn s t a = wn s t b := by
  unfold wn; rw [un_add a b h]

theorem xor_lt64 {a b : Nat} (ha : a < 18446744073709551616) (hb : b < 18446744073709551616) : a ^^^ b < 18446744073709551616 := by
  have := Nat.xor_lt_two_pow (n := 64) (x := a) (y := b) (by simpa using ha) (by simpa using hb)
  simpa using this

theorem add_inj (k x y : Nat) (hk : k < 18446744073709551616) (hx : x < 18446744073709551616) (hy : y < 18446744073709551616) (h : (k + x) % 18446744073709551616 = (k + y) % 18446744073709551616) : x = y := by omega
theorem suc_inj (x y : Nat) (hx : x < 18446744073709551616) (hy : y < 18446744073709551616) (h : (x + 1) % 18446744073709551616 = (y + 1) % 18446744073709551616) : x = y := by omega
theorem wn_inj (s t a b : Int) (h : wn s t a = wn s t b) : a % 18446744073709551616 = b % 18446744073709551616 := by
  unfold wn at h
  have h1 := mixn_inj _ _ (Nat.mod_lt _ (by decide)) (Nat.mod_lt _ (by decide)) h
  have hk := keyn_lt s t
  have p1 : (un a + 1) % 18446744073709551616 * 11400714819323198485 % 18446744073709551616 < 18446744073709551616 := Nat.mod_lt _ (by decide)
  have p2 : (un b + 1) % 18446744073709551616 * 11400714819323198485 % 18446744073709551616 < 18446744073709551616 := Nat.mod_lt _ (by decide)
  have h2 := add_inj _ _ _ hk p1 p2 h1
  have h3 := mul_inj 11400714819323198485 17428512612931826493 (by decide) _ _ (Nat.mod_lt _ (by decide)) (Nat.mod_lt _ (by decide)) h2
  clear h h1 h2 p1 p2
  have h4 : un a = un b := suc_inj _ _ (un_lt a) (un_lt b) h3
  have := un_cast a; have := un_cast b
  omega

/-- Some place's word is 0. -/
theorem wn_zero (s t a : Int) : ∃ j : Nat, wn s t (a + j) = 0 := by
  have hk := keyn_lt s t
  -- the place p with (p + 1) * step = - key
  let u : Nat := (18446744073709551616 - keyn s t) * 17428512612931826493 % 18446744073709551616
  have hu : u < 18446744073709551616 := Nat.mod_lt _ (by decide)
  refine ⟨(((u : Int) - 1 - a) % 18446744073709551616).toNat, ?_⟩
  have hj : ((((u : Int) - 1 - a) % 18446744073709551616).toNat : Int) = ((u : Int) - 1 - a) % 18446744073709551616 := by omega
  have hp : un (a + ((((u : Int) - 1 - a) % 18446744073709551616).toNat : Nat)) = un ((u : Int) - 1) := by
    apply un_add; rw [hj]; omega
  unfold wn
  rw [hp]
  have h5 : (un ((u : Int) - 1) + 1) % 18446744073709551616 = u := by
    have := un_cast ((u : Int) - 1)
    omega
  rw [h5]
  have h6 : u * 11400714819323198485 % 18446744073709551616 = (18446744073709551616 - keyn s t) % 18446744073709551616 := by
    show (18446744073709551616 - keyn s t) * 17428512612931826493 % 18446744073709551616 * 11400714819323198485 % 18446744073709551616 = _
    rw [Nat.mod_mul_mod, Nat.mul_assoc, ← Nat.mul_mod_mod, show 17428512612931826493 * 11400714819323198485 % 18446744073709551616 = 1 by decide, Nat.mul_one]
  rw [h6]
  have h7 : (keyn s t + (18446744073709551616 - keyn s t) % 18446744073709551616) % 18446744073709551616 = 0 := by
    generalize keyn s t = k at *
    omega
  rw [h7, mixn_zero]

/-- j words are passed over from place a on, where words from L on are. -/
def Over (s t a : Int) (L : Nat) (j : Nat) : Prop := (∀ i : Nat, i < j → L ≤ wn s t (a + i)) ∧ wn s t (a + j) < L

theorem least (P : Nat → Prop) (n : Nat) (h : P n) : ∃ j, (∀ i, i < j → ¬ P i) ∧ P j := by
  induction n using Nat.strongRecOn with
  | ind n ih =>
    by_cases hx : ∃ i, i < n ∧ P i
    · obtain ⟨i, hi, hP⟩ := hx; exact ih i hi hP
    · exact ⟨n, fun i hi hp => hx ⟨i, hi, hp⟩, h⟩

theorem over_some (s t a : Int) (L : Nat) (hL : 0 < L) : ∃ j, Over s t a L j := by
  obtain ⟨k, hk⟩ := wn_zero s t a
  obtain ⟨j, h1, h2⟩ := least (fun j => wn s t (a + j) < L) k (by rw [hk]; exact hL)
  exact ⟨j, fun i hi => Nat.le_of_not_lt (h1 i hi), h2⟩

theorem over_one (s t a : Int) (L j k : Nat) (h1 : Over s t a L j) (h2 : Over s t a L k) : j = k := by
  rcases Nat.lt_trichotomy j k with h | h | h
  · have := h2.1 j h; have := h1.2; omega
  · exact h
  · have := h1.1 k h; have := h2.2; omega

/-- More things than places: two in one. -/
theorem pigeons (m : Nat) : ∀ (k : Nat) (f : Nat → Nat), (∀ i, i < k → f i < m) → (∀ i j, i < k → j < k → f i = f j → i = j) → k ≤ m := by
  induction m with
  | zero =>
    intro k f h1 _
    rcases Nat.eq_zero_or_pos k with h | h
    · omega
    · have := h1 0 h; omega
  | succ m ih =>
    intro k f h1 h2
    by_cases hx : ∃ i, i < k ∧ f i = m
    · obtain ⟨i, hi, hfi⟩ := hx
      have hk : 0 < k := by omega
      -- leave i out: what stands last takes its place
      have := ih (k - 1) (fun x => if x = i then f (k - 1) else f x) (fun x hxk => by
        try dsimp only
        split
        · rename_i hxi
          have h3 := h1 (k - 1) (by omega)
          have h4 : f (k - 1) ≠ m := fun h => by have := h2 (k - 1) i (by omega) hi (by rw [h, hfi]); omega
          omega
        · rename_i hxi
          have h3 := h1 x (by omega)
          have h4 : f x ≠ m := fun h => hxi (h2 x i (by omega) hi (by rw [h, hfi]))
          omega) (fun x y hxk hyk hxy => by
        (try dsimp only at hxy)
        split at hxy <;> split at hxy
        · omega
        · have := h2 _ _ (by omega) (by omega) hxy; omega
        · have := h2 _ _ (by omega) (by omega) hxy; omega
        · exact h2 _ _ (by omega) (by omega) hxy)
      omega
    · have := ih k f (fun i hi => by
        have h3 := h1 i hi
        have h4 : f i ≠ m := fun h => hx ⟨i, hi, h⟩
        omega) h2
      omega

/-- No more words are passed over than there are from L on. -/
theorem over_few (s t a : Int) (L j : Nat) (hL : 0 < L) (hL2 : L ≤ 18446744073709551616) (h : Over s t a L j) : j ≤ 18446744073709551616 - L := by
  have hw : ∀ k, k ≤ j → k ≤ 18446744073709551616 → k ≤ 18446744073709551616 - L := by
    intro k hkj hk64
    refine pigeons _ k (fun i => wn s t (a + i) - L) (fun i hi => ?_) (fun i i' hi hi' he => ?_)
    · have := h.1 i (by omega)
      have := wn_lt s t (a + i)
      (try dsimp only); omega
    · have h1 := h.1 i (by omega)
      have h2 := h.1 i' (by omega)
      (try dsimp only at he)
      have := wn_inj s t (a + i) (a + i') (by omega)
      omega
  rcases Nat.lt_or_ge 18446744073709551616 j with h64 | h64
  · have := hw 18446744073709551616 (by omega) (Nat.le_refl _); omega
  · exact hw j (Nat.le_refl _) h64

/-- Words below this one are taken, of n. -/
def lim (n : Nat) : Nat := 18446744073709551616 - 18446744073709551616 % n
theorem lim_pos (n : Nat) (h : 0 < n) (h2 : n < 9223372036854775808) : 9223372036854775808 < lim n := by
  have := Nat.mod_lt 18446744073709551616 h
  unfold lim; omega
theorem lim_le (n : Nat) : lim n ≤ 18446744073709551616 := by unfold lim; omega

def cntf (s t a : Int) (L : Nat) : Nat → Nat → Nat
  | 0, j => j
  | f + 1, j => if wn s t (a + j) < L then j else cntf s t a L f (j + 1)
theorem cntf_is (s t a : Int) (L j0 : Nat) (h : Over s t a L j0) : ∀ (f j : Nat), j ≤ j0 → j0 - j < f → cntf s t a L f j = j0
  | 0, j, _, h2 => absurd h2 (by omega)
  | f + 1, j, h1, h2 => by
    rw [cntf]
    by_cases e : j = j0
    · subst e
      rw [if_pos h.2]
    · rw [if_neg (Nat.not_lt.2 (h.1 j (by omega)))]
      exact cntf_is s t a L j0 h f (j + 1) (by omega) (by omega)
def cnt (s t a : Int) (n : Nat) : Nat := cntf s t a (lim n) n 0
theorem cnt_over (s t a : Int) (n : Nat) (h : 0 < n) (h2 : n < 9223372036854775808) : Over s t a (lim n) (cnt s t a n) := by
  have hL := lim_pos n h h2
  obtain ⟨j0, hj⟩ := over_some s t a (lim n) (by omega)
  have hf := over_few s t a (lim n) j0 (by omega) (lim_le n) hj
  have hm := Nat.mod_lt 18446744073709551616 h
  have hl : lim n = 18446744073709551616 - 18446744073709551616 % n := rfl
  have e : cnt s t a n = j0 := cntf_is s t a (lim n) j0 hj n 0 (Nat.zero_le _) (by
    generalize 18446744073709551616 % n = r at *
    omega)
  rw [e]
  exact hj
theorem cnt_lt (s t a : Int) (n : Nat) (h : 0 < n) (h2 : n < 9223372036854775808) : cnt s t a n < n := by
  have h3 := over_few s t a (lim n) _ (by have := lim_pos n h h2; omega) (lim_le n) (cnt_over s t a n h h2)
  have := Nat.mod_lt 18446744073709551616 h
  unfold lim at h3
  generalize cnt s t a n = c at *
  omega
/-- What Below tells, and the place behind it. -/
def bel (s t a : Int) (n : Nat) : Nat := wn s t (a + cnt s t a n) % n
def beh (s t a : Int) (n : Nat) : Int := sg64 (a + cnt s t a n + 1)
theorem bel_less (s t a : Int) (n : Nat) (h : 0 < n) : bel s t a n < n := Nat.mod_lt _ h

/-- The things at i and j exchanged. -/
def exch (l : List Int) (i j : Nat) : List Int := (l.set i (l.getD j 0)).set j (l.getD i 0)
theorem exch_length (l : List Int) (i j : Nat) : (exch l i j).length = l.length := by simp [exch]

def shf (s t : Int) : Nat → Int → List Int → List Int × Int
  | 0, a, l => (l, a)
  | i + 1, a, l => shf s t i (beh s t a (i + 2)) (exch l (i + 1) (bel s t a (i + 2)))

theorem shf_length (s t : Int) (i : Nat) : ∀ (a : Int) (l : List Int), (shf s t i a l).1.length = l.length := by
  induction i with
  | zero => intro a l; rfl
  | succ i ih => intro a l; rw [shf, ih, exch_length]

def ups (n : Nat) : List Int := (List.range n).map fun i => ((i : Nat) : Int)
theorem ups_length (n : Nat) : (ups n).length = n := by simp [ups]
def shuf (s t a : Int) (n : Nat) : List Int × Int := shf s t (n - 1) a (ups n)
theorem shuf_length (s t a : Int) (n : Nat) : (shuf s t a n).1.length = n := by rw [shuf, shf_length, ups_length]

end Go.Proofs.Ytedghjededicpaa
