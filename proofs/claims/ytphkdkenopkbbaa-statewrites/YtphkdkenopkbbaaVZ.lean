/- States and their bytes: there and back, without any program. -/
import Derived.Test.YtphkdkenopkbbaaVU
namespace Go.Proofs.Ytphkdkenopkbbaa
open Go.ChangeShapes Go.WideShapes Go.ChangeAt Go.RowKit
set_option linter.unusedVariables false
set_option linter.unusedSimpArgs false

theorem emod_step (n p : Int) (hp : 0 < p) : n % (p * 256) = n % p + (n / p % 256) * p := by
  have h1 := Int.emod_add_mul_ediv n p
  have h2 := Int.emod_add_mul_ediv (n / p) 256
  have h3 : n / (p * 256) = n / p / 256 := (Int.ediv_ediv_of_nonneg (by omega)).symm
  have h4 := Int.emod_add_mul_ediv n (p * 256)
  rw [h3] at h4
  generalize n / p / 256 = c at *
  generalize n / p % 256 = b at *
  have h5 : p * 256 * c + b * p = p * (n / p) := by rw [← h2, Int.mul_add, Int.mul_comm p b, Int.mul_assoc]; omega
  omega
theorem pow_step (k : Nat) : (2 : Int) ^ (8 * (k + 1)) = 2 ^ (8 * k) * 256 := by
  rw [show 8 * (k + 1) = 8 * k + 8 by omega, Int.pow_add]
  rfl
theorem pow_pos8 (k : Nat) : (0 : Int) < 2 ^ (8 * k) := Int.pow_pos (by decide)
theorem pow_256 (k : Nat) : (256 : Int) ^ k = 2 ^ (8 * k) := by
  induction k with
  | zero => rfl
  | succ k ih => rw [Int.pow_succ, ih, pow_step]
theorem un_eq (n : Int) (B : List Int) (i : Nat) : ∀ k, (∀ j, j < k → B.getD (i + j) 0 = n / 2 ^ (8 * j) % 256) → un k B i = n % 2 ^ (8 * k)
  | 0, _ => by show (0 : Int) = n % 2 ^ 0; rw [Int.pow_zero, Int.emod_one]
  | k + 1, h => by
    show un k B i + B.getD (i + k) 0 * (256 : Int) ^ k = _
    rw [un_eq n B i k (fun j hj => h j (by omega)), h k (by omega), pow_step, emod_step _ _ (pow_pos8 k), pow_256]
theorem le_get (k : Nat) (n : Int) (j : Nat) (hj : j < k) : (le k n).getD j 0 = n / 2 ^ (8 * j) % 256 := by
  induction k with
  | zero => omega
  | succ k ih =>
    show (le k n ++ [n / 2 ^ (8 * k) % 256]).getD j 0 = _
    rw [List.getD_eq_getElem?_getD, List.getElem?_append, le_len]
    by_cases h : j < k
    · rw [if_pos h, ← List.getD_eq_getElem?_getD]; exact ih h
    · obtain rfl : j = k := by omega
      rw [if_neg h, Nat.sub_self]; rfl
/-- What k bytes can hold. -/
def Hld (k : Nat) (n : Int) : Prop := (k = 8 ∧ -9223372036854775808 ≤ n ∧ n ≤ 9223372036854775807) ∨ (k ≤ 7 ∧ 0 ≤ n ∧ n < 2 ^ (8 * k))
theorem numv_le (k : Nat) (n : Int) (h : Hld k n) (A C : List Int) : numv k (A ++ le k n ++ C) A.length = n := by
  unfold numv
  rw [un_eq n _ _ k (fun j hj => by
    rw [← le_get k n j hj, List.getD_eq_getElem?_getD, List.getD_eq_getElem?_getD, List.append_assoc, List.getElem?_append_right (by omega), Nat.add_sub_cancel_left, List.getElem?_append_left (by rw [le_len]; exact hj)]), wrap_i64]
  rcases h with ⟨rfl, h1, h2⟩ | ⟨h1, h2, h3⟩
  · have : (2 : Int) ^ (8 * 8) = 18446744073709551616 := by decide
    rw [this]; omega
  · rw [Int.emod_eq_of_lt h2 h3]
    have : (2 : Int) ^ (8 * k) ≤ 2 ^ (8 * 7) := by
      have h9 := Int.ofNat_le.2 (Nat.pow_le_pow_right (n := 2) (by decide) (show 8 * k ≤ 8 * 7 by omega))
      rw [Int.natCast_pow, Int.natCast_pow] at h9
      exact h9
    have e7 : (2 : Int) ^ (8 * 7) = 72057594037927936 := by decide
    omega
/-- A piece reads what stands there. -/
def Enc {α : Type} (p : Ps α) (e : List Int) (a : α) : Prop := ∀ A C, p (A ++ e ++ C) A.length = .ok a (A.length + e.length)
theorem Enc.bind {α β : Type} {p : Ps α} {f : α → Ps β} {e e2 : List Int} {a : α} {b : β} (h : Enc p e a) (k : Enc (f a) e2 b) : Enc (pbind p f) (e ++ e2) b := fun A C => by
  show (p (A ++ (e ++ e2) ++ C) A.length).andTo _ = _
  have h1 := h A (e2 ++ C)
  have h2 := k (A ++ e) C
  rw [show A ++ (e ++ e2) ++ C = A ++ e ++ (e2 ++ C) by simp [List.append_assoc], h1, Res.andTo_ok]
  rw [show A ++ e ++ (e2 ++ C) = A ++ e ++ e2 ++ C by simp [List.append_assoc], ← List.length_append, h2, List.length_append, List.length_append, Nat.add_assoc]
theorem Enc.pure {α : Type} (a : α) : Enc (ppure a) [] a := fun A C => rfl
theorem Enc.num {k : Nat} {n : Int} {g : Int → Bool} (h : Hld k n) (hg : g n = true) : Enc (pnum k g) (le k n) n := fun A C => by
  unfold pnum
  rw [if_pos (by rw [List.length_append, List.length_append, le_len]; omega), numv_le k n h, if_pos hg, le_len]
theorem Enc.mk : ∀ (l : List Int), (∀ x ∈ l, 0 ≤ x ∧ x < 256) → Enc (pmk l) l ()
  | [], _ => Enc.pure ()
  | x :: l, h => by
    have hx := h x (List.mem_cons_self ..)
    have h1 : Enc (pnum 1 (fun n => n == x)) (le 1 x) x := Enc.num (.inr ⟨by decide, hx.1, by simpa using hx.2⟩) (by simp)
    have h2 : le 1 x = [x] := by show [] ++ [x / 2 ^ 0 % 256] = [x]; rw [Int.pow_zero, Int.ediv_one, Int.emod_eq_of_lt hx.1 hx.2]; rfl
    rw [h2] at h1
    exact h1.bind (Enc.mk l fun y hy => h y (List.mem_cons_of_mem _ hy))
theorem enc_bits (k : Nat) (g : Int → Bool) : ∀ L : List Int, (∀ x ∈ L, Hld k x ∧ g x = true) → Enc (prep L.length (pnum k g)) (wbits k L) L
  | [], _ => Enc.pure []
  | x :: L, h => by
    have hx := h x (List.mem_cons_self ..)
    have := (Enc.num (g := g) hx.1 hx.2).bind (f := fun a => pbind (prep L.length (pnum k g)) fun l => ppure (a :: l)) ((enc_bits k g L fun y hy => h y (List.mem_cons_of_mem _ hy)).bind (f := fun l => ppure (x :: l)) (Enc.pure (x :: L)))
    rw [List.append_nil] at this
    exact this
/-- The numbers of a matrix are ints. -/
def MRg (m : Mat) : Prop := ∀ x ∈ m.L, -9223372036854775808 ≤ x ∧ x ≤ 9223372036854775807
theorem enc_mat {m : Mat} (h : matOk m) (hr : MRg m) : Enc pmat (wm m) m := by
  obtain ⟨h1, h2, h3⟩ := ckM_ok h.1
  obtain ⟨h4, h5, h6, h7⟩ := ckS_ok h1
  have h8 := le_of_mul h5 h6
  have e1 : Enc (pnum 1 (fun n => val 0 n)) (le 1 m.n) m.n := Enc.num (.inr ⟨by decide, by omega, by show m.n < 256; omega⟩) (by rw [val_0]; simpa using h4)
  have e2 : Enc (pnum 2 (fun r => decide (r > 0))) (le 2 m.r) m.r := Enc.num (.inr ⟨by decide, by omega, by show m.r < 65536; omega⟩) (by simp; omega)
  have e3 : Enc (pnum 2 (fun c => ckS m.r c m.n == 0)) (le 2 m.c) m.c := Enc.num (.inr ⟨by decide, by omega, by show m.c < 65536; omega⟩) (by simp [h1])
  have e4 : Enc (prep m.L.length (pel m.n)) (wbits (Int.tdiv m.n 8).toNat m.L) m.L := enc_bits _ _ _ fun x hx => by
    obtain ⟨i, hi, rfl⟩ := List.getElem_of_mem hx
    have hv := h3 i hi
    have hf := h.2 i hi
    have hg := hr _ (List.getElem_mem hi)
    rw [List.getD_eq_getElem?_getD, List.getElem?_eq_getElem hi] at hv hf
    refine ⟨?_, hf⟩
    simp only [Option.getD_some] at hv
    unfold val at hv
    rw [decide_eq_true_eq] at hv
    rcases hv with e | ⟨e, hb⟩
    · rw [e]; exact .inl ⟨rfl, hg⟩
    · rw [e]; exact .inr ⟨by decide, hb.1, hb.2⟩
  have := e1.bind (f := fun n => pbind (pnum 2 (fun r => decide (r > 0))) fun r => pbind (pnum 2 (fun c => ckS r c n == 0)) fun c => pbind (prep (r * c).toNat (pel n)) fun L => ppure (⟨r, c, n, L⟩ : Mat)) (e2.bind (e3.bind (by
    rw [show (m.r * m.c).toNat = m.L.length by omega]
    exact e4.bind (Enc.pure (⟨m.r, m.c, m.n, m.L⟩ : Mat)))))
  unfold wm
  simp only [List.append_nil, List.append_assoc] at this ⊢
  exact this
theorem enc_mats : ∀ l : List Mat, (∀ m ∈ l, matOk m ∧ MRg m) → Enc (prep l.length pmat) (wls l) l
  | [], _ => Enc.pure []
  | x :: L, h => by
    have hx := h x (List.mem_cons_self ..)
    have := (enc_mat hx.1 hx.2).bind (f := fun a => pbind (prep L.length pmat) fun l => ppure (a :: l)) ((enc_mats L fun y hy => h y (List.mem_cons_of_mem _ hy)).bind (f := fun l => ppure (x :: l)) (Enc.pure (x :: L)))
    rw [List.append_nil] at this
    exact this
theorem enc_list (k : Nat) (mo : Int) (l : List Mat) (hk : Hld k l.length) (hm : (l.length : Int) ≤ mo) (h : ∀ m ∈ l, matOk m ∧ MRg m) : Enc (pmats k mo) (le k l.length ++ wls l) l := by
  have := (Enc.num (g := fun n => decide (n ≤ mo)) hk (by simpa using hm)).bind (f := fun n => prep n.toNat pmat) (by rw [Int.toNat_natCast]; exact enc_mats l h)
  exact this
theorem enc_lists : ∀ Q : List (List Mat), (∀ l ∈ Q, l.length ≤ 4 ∧ ∀ m ∈ l, matOk m ∧ MRg m) → Enc (prep Q.length (pmats 1 4)) (wqs Q) Q
  | [], _ => Enc.pure []
  | x :: L, h => by
    have hx := h x (List.mem_cons_self ..)
    have := (enc_list 1 4 x (.inr ⟨by decide, by omega, by show (x.length : Int) < 256; omega⟩) (by omega) hx.2).bind (f := fun a => pbind (prep L.length (pmats 1 4)) fun l => ppure (a :: l)) ((enc_lists L fun y hy => h y (List.mem_cons_of_mem _ hy)).bind (f := fun l => ppure (x :: l)) (Enc.pure (x :: L)))
    rw [List.append_nil] at this
    exact this
theorem mem_oks {l : List Mat} (h : Oks l) : ∀ m ∈ l, matOk m := fun m hm => by
  obtain ⟨i, hi, rfl⟩ := List.getElem_of_mem hm
  exact h i _ (List.getElem?_eq_getElem hi)
/-- The numbers of a state are ints. -/
structure SRg (s : Sta) : Prop where
  lo : -9223372036854775808 ≤ s.lo ∧ s.lo ≤ 9223372036854775807
  ra : -9223372036854775808 ≤ s.ra ∧ s.ra ≤ 9223372036854775807
  p : ∀ m ∈ s.P, MRg m
  q : ∀ l ∈ s.Q, ∀ m ∈ l, MRg m
theorem enc_body {s : Sta} (h : Frm s) (hr : SRg s) : Enc pbody (wbody s) s := by
  have st : ∀ n, stepB n = true → Hld 8 n := fun n hn => by unfold stepB at hn; rw [decide_eq_true_eq] at hn; exact .inl ⟨rfl, by omega, by omega⟩
  have e0 := Enc.mk mkL (by decide)
  have ea := Enc.num (g := stepB) (st _ h.a) h.a
  have eb := Enc.num (g := stepB) (st _ h.b) h.b
  have ed := Enc.num (g := stepB) (st _ h.d) h.d
  have el := Enc.num (k := 8) (g := anyB) (.inl ⟨rfl, hr.lo⟩) rfl
  have er := Enc.num (k := 8) (g := anyB) (.inl ⟨rfl, hr.ra⟩) rfl
  have hpl := h.pl
  have hql := h.ql
  have ep := enc_list 2 64 s.P (.inr ⟨by decide, by omega, by show (s.P.length : Int) < 65536; omega⟩) (by omega) (fun m hm => ⟨mem_oks h.p m hm, hr.p m hm⟩)
  have en := Enc.num (k := 2) (n := (s.Q.length : Int)) (g := fun n => decide (n ≤ 64)) (.inr ⟨by decide, by omega, by show (s.Q.length : Int) < 65536; omega⟩) (by simp; omega)
  have eq := enc_lists s.Q (fun l hl => by
    obtain ⟨i, hi, rfl⟩ := List.getElem_of_mem hl
    have hq := h.q i _ (List.getElem?_eq_getElem hi)
    exact ⟨hq.1, fun m hm => ⟨mem_oks hq.2 m hm, hr.q _ hl m hm⟩⟩)
  have := e0.bind (f := fun _ => pbind (pnum 8 stepB) fun a => pbind (pnum 8 stepB) fun b => pbind (pnum 8 stepB) fun d => pbind (pnum 8 anyB) fun lo => pbind (pnum 8 anyB) fun ra => pbind (pmats 2 64) fun P => pbind (pnum 2 (fun n => decide (n ≤ 64))) fun n => pbind (prep n.toNat (pmats 1 4)) fun Q => ppure (⟨a, b, d, P, Q, lo, ra⟩ : Sta)) (ea.bind (eb.bind (ed.bind (el.bind (er.bind (ep.bind (en.bind (by
    rw [Int.toNat_natCast]
    exact eq.bind (Enc.pure (⟨s.a, s.b, s.d, s.P, s.Q, s.lo, s.ra⟩ : Sta))))))))))
  unfold wbody wbits wbits wbits wbits wbits wbits
  simp only [List.append_nil, List.append_assoc] at this ⊢
  exact this
theorem sumB_rng (l : List Int) : 0 ≤ sumB l ∧ sumB l < 4294967296 := by unfold sumB; omega
theorem read_enc {s : Sta} (h : Frm s) (hr : SRg s) : rread (enc s) = .ok s (enc s).length := by
  have hsz := h.sz
  have hel := enc_len h
  have h1 := enc_body h hr [] (le 4 (sumB (wbody s)))
  have h2 := sumB_rng (wbody s)
  have h3 := numv_le 4 (sumB (wbody s)) (.inr ⟨by decide, h2.1, h2.2⟩) (wbody s) []
  rw [List.append_nil] at h3
  rw [List.nil_append, List.length_nil, Nat.zero_add] at h1
  have hl : (enc s).length = (wbody s).length + 4 := by unfold enc; rw [List.length_append, le_len]
  have ht : (enc s).take (wbody s).length = wbody s := by unfold enc; rw [List.take_left']; rfl
  have he : wbody s ++ le 4 (sumB (wbody s)) = enc s := rfl
  rw [he] at h1 h3
  have hle : (enc s).length ≤ 16777216 := by omega
  clear he hel hsz
  generalize enc s = E at *
  generalize wbody s = W at *
  unfold rread
  rw [if_pos hle]
  unfold pall pbind
  rw [h1, Res.andTo_ok]
  have h4 : pnum 4 anyB E W.length = .ok (sumB W) (W.length + 4) := by
    unfold pnum
    rw [if_pos (by omega), h3]
    exact if_pos rfl
  have h5 : pend E W.length = .ok () (W.length + 4) := by
    unfold pend
    rw [h4, Res.andTo_ok, if_pos (by rw [ht]), if_pos hl.symm]
  show (pend E W.length).andTo _ = _
  rw [h5, Res.andTo_ok, hl]
  rfl
end Go.Proofs.Ytphkdkenopkbbaa
