/- The program's and the document's Round, Quot, Root are one. What Round, Quot and Root answer, and that the document says so, in all cases. The walks of the laws' own Lent, LentNum, Back. Lists that were answered, kept: the walk of the laws' own Keep.Add. The walk of the laws' own Keep.Add. Append of noughts; the lists that were answered, marked and grown. The walk of the laws' own Keep.Apart. The walk of the laws' own Keep.Apart: no two lists that were answered share memory. -/
import Derived.Test.YtbffekcjdcihpaaDoorPk
import Derived.Test.YtbffekcjdcihpaaDoorPl
import Derived.Test.YtbffekcjdcihpaaDoorPm
import Derived.Test.YtbffekcjdcihpaaDoorPf
namespace Go.Proofs.YtbffekcjdcihpaaDoor
open Go.ChangeShapes Go.WideShapes Go.ChangeAt Go.RowKit
set_option linter.unusedVariables false
set_option linter.unusedSimpArgs false

theorem told_pz_64 (ng : Bool) (M : Nat) (hM : M ≤ 9218868437227405312) : (if (if ng = true then (-9223372036854775808 : Int) else 0) + (M : Int) = -9223372036854775808 then 0 else (if ng = true then (-9223372036854775808 : Int) else 0) + (M : Int)) = pz 64 (kyz ng M) := by
  unfold pz kyz
  cases ng
  · simp only [Bool.false_eq_true, if_false, if_true]
    (repeat' split) <;> first | omega | (exfalso; simp_all; done)
  · simp only [if_true]
    (repeat' split) <;> first | omega | (exfalso; simp_all; done)
theorem told_pz_32 (ng : Bool) (M : Nat) (hM : M ≤ 2139095040) : (if (if ng = true then (2147483648 : Int) else 0) + (M : Int) = 2147483648 then 0 else (if ng = true then (2147483648 : Int) else 0) + (M : Int)) = pz 32 (kyz ng M) := by
  unfold pz kyz
  cases ng
  · simp only [Bool.false_eq_true, if_false, if_true]
    (repeat' split) <;> first | omega | (exfalso; simp_all; done)
  · simp only [if_true]
    (repeat' split) <;> first | omega | (exfalso; simp_all; done)
theorem msq (a b : Nat) : (a * b) * (a * b) = (a * a) * (b * b) := Nat.mul_mul_mul_comm a b a b
theorem shl_len (A s z : Nat) (h : s ≤ 30 * z) : (digs (A * 2 ^ s)).length ≤ (digs A).length + z := by
  have h1 := digs_lt A _ (Nat.le_refl (digs A).length)
  have h2 : 2 ^ s ≤ 2 ^ (30 * z) := Nat.pow_le_pow_right (by omega) h
  have h3 : A * 2 ^ s < 2 ^ (30 * ((digs A).length + z)) := by
    rw [Nat.mul_add, Nat.pow_add]
    exact Nat.mul_lt_mul_of_lt_of_le h1 h2 (Nat.two_pow_pos _)
  exact digs_length_le _ _ h3
theorem bl_bound (r : Nm) (hv : vld r = true) (hne : r.mag ≠ []) : bl (nv r.mag) ≤ 60000 := by
  obtain ⟨hd, h0, hl, hx1, hx2⟩ := vld_digs r hv hne
  have := bl_le (nv r.mag) (30 * (digs (nv r.mag)).length) (digs_lt (nv r.mag) _ (Nat.le_refl _))
  rw [hd] at this
  omega
theorem kmax (n : Int) (hn : n = 64 ∨ n = 32) : kprec n ≤ 53 ∧ 24 ≤ kprec n ∧ -1074 ≤ kleast n ∧ kleast n ≤ -149 := by
  rcases hn with rfl | rfl <;> decide

theorem quot_both (n way : Int) (hn : n = 64 ∨ n = 32) (hw : way = 0 ∨ way = 1 ∨ way = 2) (a b : Nm) (ha : vld a = true) (hb : vld b = true) (ham : a.mag ≠ []) (hbm : b.mag ≠ []) : ∃ (q : Int) (o : Bool), (∀ (a1 a2 : Option Addr) (c1 c2 : Nat) (w : World), Tab w → Sl w (.slice a1 a.mag.length c1) a.mag → Sl w (.slice a2 b.mag.length c2) b.mag → Calls Tryd.prog 9 #[.agg #[.bool a.neg, .slice a1 a.mag.length c1, .int .i64 a.exp], .agg #[.bool b.neg, .slice a2 b.mag.length c2, .int .i64 b.exp], .int .i64 n, .int .i64 way] w fun e w' => e = .returned (.tuple #[.int .i64 q, .bool o, .int .i64 0]) ∧ Kept w w') ∧ (∀ (va vb : Value) (w : World), RL w va a.mag → RL w vb b.mag → Calls Tryd.prog 41 #[knd n, .agg #[.bool a.neg, va, .int .i64 a.exp], .agg #[.bool b.neg, vb, .int .i64 b.exp], .int .i64 way] w fun e w' => e = .returned (.tuple #[.int .i64 q, .bool o]) ∧ Kept w w') := by
  obtain ⟨da, a0, la, xa1, xa2⟩ := vld_digs a ha ham
  obtain ⟨db, b0, lb, xb1, xb2⟩ := vld_digs b hb hbm
  have hTa := bl_bound a ha ham
  have hTb := bl_bound b hb hbm
  obtain ⟨pm1, pm2, pm3, pm4⟩ := kmax n hn
  obtain ⟨sh, hsh⟩ : ∃ sh : Nat, (sh : Int) = max 0 ((bl (nv b.mag) : Int) - (bl (nv a.mag) : Int) + kprec n + 2) := ⟨(max 0 ((bl (nv b.mag) : Int) - (bl (nv a.mag) : Int) + kprec n + 2)).toNat, by omega⟩
  obtain ⟨k, Q, H, F, od, hf, rt, hC, hP⟩ := quotz_all n hn a b ha hb ham hbm (-5000000) (by omega) (by omega) (by omega) (by unfold qex; omega) (by omega)
  obtain ⟨e, he⟩ : ∃ e, e = a.exp - b.exp - sh := ⟨_, rfl⟩
  obtain ⟨u, hu⟩ : ∃ u, unz (kprec n).toNat (kleast n) (bl (nv a.mag * 2 ^ sh / nv b.mag)) e = u := ⟨_, rfl⟩
  obtain ⟨k', hk'⟩ : ∃ k', flo (nv a.mag * 2 ^ sh / nv b.mag) (e - u) = k' := ⟨_, rfl⟩
  obtain ⟨F', hF'⟩ : ∃ F', F' = (u - kleast n).toNat * cbn n + k' := ⟨_, rfl⟩
  obtain ⟨Q', H', hD⟩ := quot_cutz n hn (nv a.mag) (nv b.mag) a0 b0 a.exp b.exp (-5000000) e sh (by omega) he (by omega) (by omega) (by omega) u hu k' F' hk' hF'
  have hS := cutz_same hC hD (rv_lt n hn) way hw (a.neg != b.neg) (ifn n)
  refine ⟨_, _, fun a1 a2 c1 c2 w hT h1 h2 => hP way hw a1 a2 c1 c2 w hT h1 h2, fun va vb w h1 h2 => ?_⟩
  rw [hS.1, hS.2]
  obtain ⟨p1, -, -⟩ := kp_toNat n hn
  have hq := quot_bits (nv a.mag) (nv b.mag) sh (kprec n).toNat a0 b0 (by omega)
  have hq0 : nv a.mag * 2 ^ sh / nv b.mag ≠ 0 := by
    intro h0
    rw [h0, bl_zero] at hq
    omega
  have hl1 := shl_len (nv a.mag) sh 5000 (by omega)
  have hl2 := digs_len_le (nv a.mag * 2 ^ sh / nv b.mag) (nv a.mag * 2 ^ sh) (Nat.div_le_self _ _)
  rw [← da] at h1 la
  rw [← db] at h2 lb
  have hM := mgz_le way (a.neg != b.neg) (ifn n) F' (decide (k' % 2 = 1)) (decide (flo (nv a.mag * 2 ^ sh / nv b.mag) (e - u + 1) % 2 = 1)) (decide (nv a.mag * 2 ^ sh % nv b.mag ≠ 0) || rst (nv a.mag * 2 ^ sh / nv b.mag) (e - u + 1))
  rcases hn with rfl | rfl
  · refine rQuot_any 64 53 4503599627370496 2047 (-1074) 1024 9218868437227405312 (-9223372036854775808) 9221120237041090561 (by decide) (nv a.mag) (nv b.mag) a0 b0 a.neg b.neg a.exp b.exp ⟨xa1, xa2⟩ ⟨xb1, xb2⟩ va vb w h1 h2 la lb sh hsh way ((if (a.neg != b.neg) = true then (-9223372036854775808 : Int) else 0) + (mgz way (a.neg != b.neg) (ifn 64) F' (decide (k' % 2 = 1)) (decide (flo (nv a.mag * 2 ^ sh / nv b.mag) (e - u + 1) % 2 = 1)) (decide (nv a.mag * 2 ^ sh % nv b.mag ≠ 0) || rst (nv a.mag * 2 ^ sh / nv b.mag) (e - u + 1)) : Nat)) _ _ (fun v r1 hr => ?_) (fun v => ?_)
    · rw [← he]
      exact rcut_64 way hw (a.neg != b.neg) _ hq0 e _ r1 v hr (by omega) (by omega) (by omega) u hu k' hk' F' hF' _ _ _ rfl rfl rfl _ rfl
    · have := rtold_64 ((if (a.neg != b.neg) = true then (-9223372036854775808 : Int) else 0) + (mgz way (a.neg != b.neg) (ifn 64) F' (decide (k' % 2 = 1)) (decide (flo (nv a.mag * 2 ^ sh / nv b.mag) (e - u + 1) % 2 = 1)) (decide (nv a.mag * 2 ^ sh % nv b.mag ≠ 0) || rst (nv a.mag * 2 ^ sh / nv b.mag) (e - u + 1)) : Nat)) (odz way (a.neg != b.neg) (ifn 64) F' (decide (k' % 2 = 1)) (decide (flo (nv a.mag * 2 ^ sh / nv b.mag) (e - u + 1) % 2 = 1)) (decide (nv a.mag * 2 ^ sh % nv b.mag ≠ 0) || rst (nv a.mag * 2 ^ sh / nv b.mag) (e - u + 1))) v
      rw [told_pz_64 _ _ hM] at this
      exact this
  · refine rQuot_any 32 24 8388608 255 (-149) 128 2139095040 2147483648 2143289345 (by decide) (nv a.mag) (nv b.mag) a0 b0 a.neg b.neg a.exp b.exp ⟨xa1, xa2⟩ ⟨xb1, xb2⟩ va vb w h1 h2 la lb sh hsh way ((if (a.neg != b.neg) = true then (2147483648 : Int) else 0) + (mgz way (a.neg != b.neg) (ifn 32) F' (decide (k' % 2 = 1)) (decide (flo (nv a.mag * 2 ^ sh / nv b.mag) (e - u + 1) % 2 = 1)) (decide (nv a.mag * 2 ^ sh % nv b.mag ≠ 0) || rst (nv a.mag * 2 ^ sh / nv b.mag) (e - u + 1)) : Nat)) _ _ (fun v r1 hr => ?_) (fun v => ?_)
    · rw [← he]
      exact rcut_32 way hw (a.neg != b.neg) _ hq0 e _ r1 v hr (by omega) (by omega) (by omega) u hu k' hk' F' hF' _ _ _ rfl rfl rfl _ rfl
    · have := rtold_32 ((if (a.neg != b.neg) = true then (2147483648 : Int) else 0) + (mgz way (a.neg != b.neg) (ifn 32) F' (decide (k' % 2 = 1)) (decide (flo (nv a.mag * 2 ^ sh / nv b.mag) (e - u + 1) % 2 = 1)) (decide (nv a.mag * 2 ^ sh % nv b.mag ≠ 0) || rst (nv a.mag * 2 ^ sh / nv b.mag) (e - u + 1)) : Nat)) (odz way (a.neg != b.neg) (ifn 32) F' (decide (k' % 2 = 1)) (decide (flo (nv a.mag * 2 ^ sh / nv b.mag) (e - u + 1) % 2 = 1)) (decide (nv a.mag * 2 ^ sh % nv b.mag ≠ 0) || rst (nv a.mag * 2 ^ sh / nv b.mag) (e - u + 1))) v
      rw [told_pz_32 _ _ hM] at this
      exact this

/- the program's root: its lead, of the fine root -/
theorem root_prog (v : Nat) (x s la ex : Int) (h l : Nat) (hodd : v % 2 = 1) (hR : Rtz (flo v (x - la)) h l) (hla : la = 2 * ex) (hs1 : 2 * s ≤ x) (hs2 : s ≤ ex) : (h * 2 ^ (ex - s).toNat) * (h * 2 ^ (ex - s).toNat) ≤ v * 2 ^ (x - 2 * s).toNat ∧ v * 2 ^ (x - 2 * s).toNat < ((h + 1) * 2 ^ (ex - s).toNat) * ((h + 1) * 2 ^ (ex - s).toNat) ∧ (decide (l ≠ 0) || decide (x < la)) = decide (v * 2 ^ (x - 2 * s).toNat ≠ (h * 2 ^ (ex - s).toNat) * (h * 2 ^ (ex - s).toNat)) := by
  have hA := flo_at v x la (2 * s) hs1 (by omega)
  obtain ⟨Q, hQ⟩ : ∃ Q, 2 ^ (la - 2 * s).toNat = Q := ⟨_, rfl⟩
  have hQp : 0 < Q := by rw [← hQ]; exact Nat.two_pow_pos _
  have hQ2 : 2 ^ (ex - s).toNat * 2 ^ (ex - s).toNat = Q := by
    rw [← Nat.pow_add, ← hQ]; congr 1; omega
  have hVQ : x < la → v * 2 ^ (x - 2 * s).toNat % Q ≠ 0 := by
    intro hlt
    rw [← hQ, show (la - 2 * s).toNat = (x - 2 * s).toNat + (la - x).toNat by omega, Nat.pow_add, Nat.mul_comm v, Nat.mul_mod_mul_left]
    have hp := Nat.two_pow_pos (x - 2 * s).toNat
    obtain ⟨j, hj⟩ : ∃ j : Nat, (la - x).toNat = j + 1 := ⟨(la - x).toNat - 1, by omega⟩
    rw [hj]
    have h2 : v % 2 ^ (j + 1) % 2 = 1 := by
      rw [Nat.mod_mod_of_dvd _ (by rw [Nat.pow_succ]; exact Nat.dvd_mul_left _ _)]
      exact hodd
    intro h0
    rcases Nat.mul_eq_zero.1 h0 with h0 | h0
    · omega
    · rw [h0] at h2; simp at h2
  have hVQ2 : ¬ x < la → v * 2 ^ (x - 2 * s).toNat % Q = 0 := by
    intro hlt
    rw [← hQ, show (x - 2 * s).toNat = (x - la).toNat + (la - 2 * s).toNat by omega, Nat.pow_add, ← Nat.mul_assoc, Nat.mul_mod_left]
  rw [msq h, msq (h + 1), hQ2]
  rw [hQ] at hA
  generalize v * 2 ^ (x - 2 * s).toNat = T at *
  have hdm := Nat.div_add_mod T Q
  have hml : T % Q < Q := Nat.mod_lt _ hQp
  rw [← hA] at hdm
  have heq := hR.eq
  obtain ⟨b1, b2⟩ := hR.lt
  have c1 : h * h * Q ≤ flo v (x - la) * Q := Nat.mul_le_mul_right _ b1
  have c2 : (flo v (x - la) + 1) * Q ≤ (h + 1) * (h + 1) * Q := Nat.mul_le_mul_right _ b2
  have c3 : h * h * Q + l * Q = flo v (x - la) * Q := by rw [← Nat.add_mul, heq]
  rw [Nat.add_mul, Nat.one_mul] at c2
  rw [Nat.mul_comm] at hdm
  refine ⟨by omega, by omega, ?_⟩
  rw [← Bool.decide_or]
  congr 1
  apply propext
  constructor
  · rintro (h1 | h1)
    · have : Q ≤ l * Q := Nat.le_mul_of_pos_left _ (by omega)
      omega
    · have := hVQ h1
      have := Nat.zero_le (l * Q)
      omega
  · intro hne
    apply Decidable.byContradiction
    intro hn
    have n1 : l = 0 := by omega
    have n2 := hVQ2 (by omega)
    rw [n1] at c3
    omega
theorem root_bits (V q p : Nat) (h : 2 * p + 4 ≤ bl V) (hV : V ≠ 0) (hq : V < (q + 1) * (q + 1)) : p + 2 ≤ bl q := by
  obtain ⟨b1, b2, b3⟩ := bl_pos V hV
  have h1 : 2 ^ (p + 1) * 2 ^ (p + 1) ≤ V := by
    rw [← Nat.pow_add]
    exact Nat.le_trans (Nat.pow_le_pow_right (by decide) (by omega)) b1
  have h2 := sq_lt (Nat.lt_of_le_of_lt h1 hq)
  have hp := Nat.two_pow_pos (p + 1)
  obtain ⟨q1, q2, q3⟩ := bl_pos q (by omega)
  have := (Nat.pow_lt_pow_iff_right (by decide : 1 < 2)).1 (Nat.lt_of_le_of_lt (show 2 ^ (p + 1) ≤ q by omega) q2)
  omega

theorem root_both (n way : Int) (hn : n = 64 ∨ n = 32) (hw : way = 0 ∨ way = 1 ∨ way = 2) (a : Nm) (ha : vld a = true) (hng : a.neg = false) (ham : a.mag ≠ []) : ∃ (q : Int) (o : Bool), (∀ (a1 : Option Addr) (c1 : Nat) (w : World), Tab w → Sl w (.slice a1 a.mag.length c1) a.mag → Calls Tryd.prog 13 #[.agg #[.bool false, .slice a1 a.mag.length c1, .int .i64 a.exp], .int .i64 n, .int .i64 way] w fun e w' => e = .returned (.tuple #[.int .i64 q, .bool o, .int .i64 0]) ∧ Kept w w') ∧ (∀ (va : Value) (w : World), RL w va a.mag → Calls Tryd.prog 42 #[knd n, .agg #[.bool false, va, .int .i64 a.exp], .int .i64 way] w fun e w' => e = .returned (.tuple #[.int .i64 q, .bool o]) ∧ Kept w w') := by
  obtain ⟨da, a0, la, xa1, xa2⟩ := vld_digs a ha ham
  have hTa := bl_bound a ha ham
  obtain ⟨pm1, pm2, pm3, pm4⟩ := kmax n hn
  obtain ⟨p1, -, -⟩ := kp_toNat n hn
  obtain ⟨b1, b2, b3⟩ := bl_pos (nv a.mag) a0
  obtain ⟨v1, v2, v3, v4, v5, v6⟩ := vld_some a.neg a.mag a.exp ham ha
  have hodd := nv_odd a.mag v2 v4
  obtain ⟨h, l, rs, un, m, k, F, hR, hLd, hP⟩ := rootz_all n hn a ha hng ham
  obtain ⟨x, hx⟩ : ∃ x, a.exp = x := ⟨_, rfl⟩
  obtain ⟨V, hV⟩ : ∃ V, nv a.mag = V := ⟨_, rfl⟩
  obtain ⟨T, hT⟩ : ∃ T, V * 2 ^ (x - 2 * (-2000000)).toNat = T := ⟨_, rfl⟩
  obtain ⟨G, lG, hG⟩ := rtz_ex T
  obtain ⟨g1, g2⟩ := hG.lt
  -- the program
  have hrt := hR.rt
  have hev := hR.even
  have hrs := hR.rs
  have hla2 : rlast a = a.exp + (bl (nv a.mag) : Int) - 1 - (a.exp + (bl (nv a.mag) : Int) - 1) % 2 - 110 := rfl
  obtain ⟨ex, hex⟩ : ∃ ex, rlast a / 2 = ex := ⟨_, rfl⟩
  rw [hex] at hLd
  have hlae : rlast a = 2 * ex := by omega
  rw [hx, hV] at hrt
  rw [hx] at hrs
  rw [hV] at hodd
  obtain ⟨r1, r2, r3⟩ := root_prog V x (-2000000) (rlast a) ex h l hodd hrt hlae (by omega) (by omega)
  rw [hT] at r1 r2 r3
  obtain ⟨s1, s2⟩ := root_lead T G h (2 ^ (ex - (-2000000)).toNat) (Nat.two_pow_pos _) g1 g2 r1 r2
  obtain ⟨u1, u2, u3⟩ := ld_bounds hn hLd hR.low hR.high (by decide)
  obtain ⟨c1, c2⟩ := cbn_pow n hn
  have hcp : 0 < cbn n := by rw [c1]; exact Nat.two_pow_pos _
  have hce : cbn n % 2 = 0 := by rcases hn with rfl | rfl <;> rfl
  have hC := cutz_lead (cbn n) (2 * 2 ^ (kleast n - (-2000000)).toNat) (rtv T G) (2 * 2 ^ (ex - (-2000000)).toNat) h rs (un - kleast n).toNat m k F hcp hce (Nat.mul_pos (by decide) (Nat.two_pow_pos _)) s1 (by rw [hrs, r3, s2]) hLd.hk hLd.hF u2 (by rcases u3 with h | h; left; omega; right; exact h) (by
    have e1 := hLd.hm
    rw [Nat.mul_assoc, ← Nat.pow_add, Nat.mul_left_comm, ← Nat.pow_add]
    congr 2
    omega)
  -- the document
  obtain ⟨s0, hs0⟩ : ∃ s0 : Nat, (s0 : Int) = max 0 (2 * kprec n + 4 - (bl V : Int)) := ⟨(max 0 (2 * kprec n + 4 - (bl V : Int))).toNat, by omega⟩
  obtain ⟨sh, e, hs, he⟩ : ∃ (sh : Nat) (e : Int), (((x - s0) % 2 = 0 ∧ sh = s0) ∨ ((x - s0) % 2 = 1 ∧ sh = s0 + 1)) ∧ x - sh = 2 * e := by
    by_cases h2 : (x - (s0 : Int)) % 2 = 0
    · exact ⟨s0, (x - s0) / 2, Or.inl ⟨h2, rfl⟩, by omega⟩
    · exact ⟨s0 + 1, (x - s0 - 1) / 2, Or.inr ⟨by omega, rfl⟩, by omega⟩
  obtain ⟨q, lq, hq⟩ := rtz_ex (V * 2 ^ sh)
  obtain ⟨q1, q2⟩ := hq.lt
  have hTW : T = V * 2 ^ sh * (2 ^ (e - (-2000000)).toNat * 2 ^ (e - (-2000000)).toNat) := by
    rw [← hT, Nat.mul_assoc, ← Nat.pow_add, ← Nat.pow_add]; congr 2; omega
  have hWp : 0 < 2 ^ (e - (-2000000)).toNat * 2 ^ (e - (-2000000)).toNat := Nat.mul_pos (Nat.two_pow_pos _) (Nat.two_pow_pos _)
  obtain ⟨t1, t2⟩ := root_lead T G q (2 ^ (e - (-2000000)).toNat) (Nat.two_pow_pos _) g1 g2 (by rw [hTW, msq]; exact Nat.mul_le_mul_right _ q1) (by rw [hTW, msq]; exact Nat.mul_lt_mul_of_pos_right q2 hWp)
  have hmore : decide (V * 2 ^ sh ≠ q * q) = decide (rtv T G % (2 * 2 ^ (e - (-2000000)).toNat) ≠ 0) := by
    rw [← t2, hTW, msq]
    apply decide_eq_decide.2
    constructor
    · intro g h0
      exact g (Nat.eq_of_mul_eq_mul_right hWp h0)
    · intro g h0
      rw [h0] at g
      exact g rfl
  have hVs : V * 2 ^ sh ≠ 0 := Nat.mul_ne_zero (by rw [← hV]; exact a0) (Nat.ne_of_gt (Nat.two_pow_pos _))
  have hblV : bl (V * 2 ^ sh) = bl V + sh := bl_mul V sh (by rw [← hV]; exact a0)
  have hqb := root_bits (V * 2 ^ sh) q (kprec n).toNat (by rw [hblV]; omega) hVs q2
  obtain ⟨u, hu⟩ : ∃ u, unz (kprec n).toNat (kleast n) (bl q) e = u := ⟨_, rfl⟩
  obtain ⟨k', hk'⟩ : ∃ k', flo q (e - u) = k' := ⟨_, rfl⟩
  obtain ⟨F', hF'⟩ : ∃ F', F' = (u - kleast n).toNat * cbn n + k' := ⟨_, rfl⟩
  have hlu : kleast n ≤ u := by unfold unz at hu; omega
  have hue : e + 1 ≤ u := by unfold unz at hu; omega
  have hV60 : bl V ≤ 60000 := by rw [← hV]; exact hTa
  obtain ⟨Q', H', hD⟩ := doc_cutz n hn q e (by omega) u hu (rtv T G) (2 * 2 ^ (kleast n - (-2000000)).toNat) (2 * 2 ^ (e - (-2000000)).toNat) (decide (V * 2 ^ sh ≠ q * q)) (Nat.mul_pos (by decide) (Nat.two_pow_pos _)) t1 hmore (by
    rw [Nat.mul_assoc, ← Nat.pow_add, Nat.mul_left_comm, ← Nat.pow_add]
    congr 2
    omega) k' F' hk' hF'
  have hS := cutz_same hC hD (rv_lt n hn) way hw false (ifn n)
  refine ⟨_, _, fun a1 c1 w hT h1 => hP way hw a1 c1 w hT h1, fun va w h1 => ?_⟩
  rw [hS.1, hS.2]
  have hq0 : q ≠ 0 := by
    intro h0
    rw [h0, bl_zero] at hqb
    omega
  have hl1 := shl_len V sh 5000 (by omega)
  have hl2 := digs_len_le q (V * 2 ^ sh) (Nat.le_trans (Nat.le_mul_of_pos_left q (by omega)) q1)
  rw [← hV, da] at hl1
  rw [← hV] at hl2
  rw [← da, hV] at h1
  have hM := mgz_le way false (ifn n) F' (decide (k' % 2 = 1)) (decide (flo q (e - u + 1) % 2 = 1)) (decide (V * 2 ^ sh ≠ q * q) || rst q (e - u + 1))
  have hV0 : V ≠ 0 := by rw [← hV]; exact a0
  have laV : (digs V).length ≤ 2000 := by rw [← hV, da]; exact la
  rw [hx]
  rcases hn with rfl | rfl
  · refine rRoot_any 64 53 4503599627370496 2047 (-1074) 1024 9218868437227405312 (-9223372036854775808) 9221120237041090561 (by decide) V hV0 false x (by omega) va w h1 laV s0 sh hs0 e hs he q q1 q2 way ((if false = true then (-9223372036854775808 : Int) else 0) + (mgz way false (ifn 64) F' (decide (k' % 2 = 1)) (decide (flo q (e - u + 1) % 2 = 1)) (decide (V * 2 ^ sh ≠ q * q) || rst q (e - u + 1)) : Nat)) _ _ (fun v r1 hr => ?_) (fun v => ?_)
    · exact rcut_64 way hw false _ hq0 e _ r1 v hr (by omega) (by omega) (by omega) u hu k' hk' F' hF' _ _ _ rfl rfl rfl _ rfl
    · have := rtold_64 ((if false = true then (-9223372036854775808 : Int) else 0) + (mgz way false (ifn 64) F' (decide (k' % 2 = 1)) (decide (flo q (e - u + 1) % 2 = 1)) (decide (V * 2 ^ sh ≠ q * q) || rst q (e - u + 1)) : Nat)) (odz way false (ifn 64) F' (decide (k' % 2 = 1)) (decide (flo q (e - u + 1) % 2 = 1)) (decide (V * 2 ^ sh ≠ q * q) || rst q (e - u + 1))) v
      rw [told_pz_64 _ _ hM] at this
      exact this
  · refine rRoot_any 32 24 8388608 255 (-149) 128 2139095040 2147483648 2143289345 (by decide) V hV0 false x (by omega) va w h1 laV s0 sh hs0 e hs he q q1 q2 way ((if false = true then (2147483648 : Int) else 0) + (mgz way false (ifn 32) F' (decide (k' % 2 = 1)) (decide (flo q (e - u + 1) % 2 = 1)) (decide (V * 2 ^ sh ≠ q * q) || rst q (e - u + 1)) : Nat)) _ _ (fun v r1 hr => ?_) (fun v => ?_)
    · exact rcut_32 way hw false _ hq0 e _ r1 v hr (by omega) (by omega) (by omega) u hu k' hk' F' hF' _ _ _ rfl rfl rfl _ rfl
    · have := rtold_32 ((if false = true then (2147483648 : Int) else 0) + (mgz way false (ifn 32) F' (decide (k' % 2 = 1)) (decide (flo q (e - u + 1) % 2 = 1)) (decide (V * 2 ^ sh ≠ q * q) || rst q (e - u + 1)) : Nat)) (odz way false (ifn 32) F' (decide (k' % 2 = 1)) (decide (flo q (e - u + 1) % 2 = 1)) (decide (V * 2 ^ sh ≠ q * q) || rst q (e - u + 1))) v
      rw [told_pz_32 _ _ hM] at this
      exact this
end Go.Proofs.YtbffekcjdcihpaaDoor

namespace Go.Proofs.YtbffekcjdcihpaaDoor
open Go.ChangeShapes Go.WideShapes Go.ChangeAt Go.RowKit
set_option linter.unusedVariables false
set_option linter.unusedSimpArgs false

def QE (n way : Int) (a b : Nm) : Int := if FE n way (vld a && vld b) = 0 ∧ b.mag.length = 0 then 8 else FE n way (vld a && vld b)
def RE (n way : Int) (a : Nm) : Int := if FE n way (vld a) = 0 ∧ a.neg = true then 9 else FE n way (vld a)
theorem knd_lit (n : Int) (hn : n = 64 ∨ n = 32) : ∃ k0 p k2 k3 k4 k5 k6 k7 k8 : Int, knd n = .agg #[.int .i64 k0, .int .i64 p, .int .i64 k2, .int .i64 k3, .int .i64 k4, .int .i64 k5, .int .i64 k6, .int .i64 k7, .int .i64 k8] := knd_is n hn
theorem round_full (n way : Int) (a : Nm) (ra : Rg a.mag) (la : a.mag.length < 60000000) (f : Int) (hf : f = FE n way (vld a)) : ∃ (q : Int) (o : Bool), (∀ (a1 : Option Addr) (c1 : Nat) (w : World), Tab w → Sl w (.slice a1 a.mag.length c1) a.mag → Calls Tryd.prog 12 #[.agg #[.bool a.neg, .slice a1 a.mag.length c1, .int .i64 a.exp], .int .i64 n, .int .i64 way] w fun e w' => e = .returned (.tuple #[.int .i64 q, .bool o, .int .i64 f]) ∧ Kept w w') ∧ (f ≠ 0 → q = 0 ∧ o = false) ∧ (f = 0 → ∀ (a1 : Option Addr) (c1 : Nat) (w : World), (a1 = none → c1 = 0) → Sl w (.slice a1 a.mag.length c1) a.mag → Calls Tryd.prog 17 #[.agg #[.bool a.neg, .slice a1 a.mag.length c1, .int .i64 a.exp], .int .i64 n, .int .i64 way] w fun e w' => e = .returned (.tuple #[.int .i64 q, .bool o]) ∧ Kept w w') := by
  by_cases h0 : f = 0
  · obtain ⟨hn, hw, hv⟩ := fe_ok (hf.symm.trans h0)
    refine ⟨rzN n way a, oxN n way a, fun a1 c1 w hT h1 => round_ans n way a ra la a1 c1 w hT h1 _ _ f hf (fun g => absurd h0 g) (fun _ => ⟨rfl, rfl⟩), fun g => absurd h0 g, fun _ a1 c1 w hc h1 => ?_⟩
    refine ref2round n way hn a.neg a1 a.mag.length c1 a.exp _ _ w (fun u k => ?_)
    rcases hn with rfl | rfl
    · exact rto_64 way hw a hv _ u ⟨a1, c1, rfl, hc, h1.kept k⟩
    · exact rto_32 way hw a hv _ u ⟨a1, c1, rfl, hc, h1.kept k⟩
  · exact ⟨0, false, fun a1 c1 w hT h1 => round_ans n way a ra la a1 c1 w hT h1 _ _ f hf (fun _ => ⟨rfl, rfl⟩) (fun g => absurd g h0), fun _ => ⟨rfl, rfl⟩, fun g => absurd g h0⟩
theorem quot_full (n way : Int) (a b : Nm) (ra : Rg a.mag) (rb : Rg b.mag) (la : a.mag.length < 60000000) (lb : b.mag.length < 60000000) (f : Int) (hf : f = QE n way a b) : ∃ (q : Int) (o : Bool), (∀ (a1 a2 : Option Addr) (c1 c2 : Nat) (w : World), Tab w → Sl w (.slice a1 a.mag.length c1) a.mag → Sl w (.slice a2 b.mag.length c2) b.mag → Calls Tryd.prog 9 #[.agg #[.bool a.neg, .slice a1 a.mag.length c1, .int .i64 a.exp], .agg #[.bool b.neg, .slice a2 b.mag.length c2, .int .i64 b.exp], .int .i64 n, .int .i64 way] w fun e w' => e = .returned (.tuple #[.int .i64 q, .bool o, .int .i64 f]) ∧ Kept w w') ∧ (f ≠ 0 → q = 0 ∧ o = false) ∧ (f = 0 → ∀ (a1 a2 : Option Addr) (c1 c2 : Nat) (w : World), (a1 = none → c1 = 0) → (a2 = none → c2 = 0) → Sl w (.slice a1 a.mag.length c1) a.mag → Sl w (.slice a2 b.mag.length c2) b.mag → Calls Tryd.prog 19 #[.agg #[.bool a.neg, .slice a1 a.mag.length c1, .int .i64 a.exp], .agg #[.bool b.neg, .slice a2 b.mag.length c2, .int .i64 b.exp], .int .i64 n, .int .i64 way] w fun e w' => e = .returned (.tuple #[.int .i64 q, .bool o]) ∧ Kept w w') := by
  unfold QE at hf
  by_cases h0 : FE n way (vld a && vld b) = 0
  · obtain ⟨hn, hw, hv⟩ := fe_ok h0
    obtain ⟨ha, hb⟩ := (Bool.and_eq_true_iff).1 hv
    by_cases hbm : b.mag.length = 0
    · rw [if_pos ⟨h0, hbm⟩] at hf
      subst hf
      exact ⟨0, false, fun a1 a2 c1 c2 w hT h1 h2 => quot_div n way hn hw a b ra rb la lb a1 a2 c1 c2 w h1 h2 ha hb hbm, fun _ => ⟨rfl, rfl⟩, fun g => absurd g (by decide)⟩
    · rw [if_neg (fun g => hbm g.2), h0] at hf
      subst hf
      by_cases ham : a.mag.length = 0
      · refine ⟨0, false, fun a1 a2 c1 c2 w hT h1 h2 => quot_nought n way hn hw a b ra rb la lb a1 a2 c1 c2 w h1 h2 ha hb ham hbm, fun _ => ⟨rfl, rfl⟩, fun _ a1 a2 c1 c2 w hc1 hc2 h1 h2 => ?_⟩
        refine ref2quot n way hn a.neg b.neg a1 a2 a.mag.length c1 b.mag.length c2 a.exp b.exp _ _ w (fun u k => ?_)
        obtain ⟨k0, p, k2, k3, k4, k5, k6, k7, k8, hk⟩ := knd_lit n hn
        rw [ham]
        exact rQuot_nil _ k0 p k2 k3 k4 k5 k6 k7 k8 hk a.neg a1 c1 a.exp b.neg a2 b.mag.length c2 b.exp way u
      · have ham' : a.mag ≠ [] := fun g => ham (by rw [g]; rfl)
        have hbm' : b.mag ≠ [] := fun g => hbm (by rw [g]; rfl)
        obtain ⟨q, o, hP, hD⟩ := quot_both n way hn hw a b ha hb ham' hbm'
        refine ⟨q, o, fun a1 a2 c1 c2 w hT h1 h2 => hP a1 a2 c1 c2 w hT h1 h2, fun g => absurd rfl g, fun _ a1 a2 c1 c2 w hc1 hc2 h1 h2 => ?_⟩
        exact ref2quot n way hn a.neg b.neg a1 a2 a.mag.length c1 b.mag.length c2 a.exp b.exp _ _ w (fun u k => hD _ _ u ⟨a1, c1, rfl, hc1, h1.kept k⟩ ⟨a2, c2, rfl, hc2, h2.kept k⟩)
  · rw [if_neg (fun g => h0 g.1)] at hf
    have hf0 : f ≠ 0 := by rw [hf]; exact h0
    exact ⟨0, false, fun a1 a2 c1 c2 w hT h1 h2 => quot_no n way a b ra rb la lb a1 a2 c1 c2 w h1 h2 hT f hf hf0, fun _ => ⟨rfl, rfl⟩, fun g => absurd g hf0⟩
theorem root_full (n way : Int) (a : Nm) (ra : Rg a.mag) (la : a.mag.length < 60000000) (f : Int) (hf : f = RE n way a) : ∃ (q : Int) (o : Bool), (∀ (a1 : Option Addr) (c1 : Nat) (w : World), Tab w → Sl w (.slice a1 a.mag.length c1) a.mag → Calls Tryd.prog 13 #[.agg #[.bool a.neg, .slice a1 a.mag.length c1, .int .i64 a.exp], .int .i64 n, .int .i64 way] w fun e w' => e = .returned (.tuple #[.int .i64 q, .bool o, .int .i64 f]) ∧ Kept w w') ∧ (f ≠ 0 → q = 0 ∧ o = false) ∧ (f = 0 → ∀ (a1 : Option Addr) (c1 : Nat) (w : World), (a1 = none → c1 = 0) → Sl w (.slice a1 a.mag.length c1) a.mag → Calls Tryd.prog 20 #[.agg #[.bool a.neg, .slice a1 a.mag.length c1, .int .i64 a.exp], .int .i64 n, .int .i64 way] w fun e w' => e = .returned (.tuple #[.int .i64 q, .bool o]) ∧ Kept w w') := by
  unfold RE at hf
  by_cases h0 : FE n way (vld a) = 0
  · obtain ⟨hn, hw, ha⟩ := fe_ok h0
    by_cases hng : a.neg = true
    · rw [if_pos ⟨h0, hng⟩] at hf
      subst hf
      exact ⟨0, false, fun a1 c1 w hT h1 => root_below n way hn hw a ra la a1 c1 w h1 ha hng, fun _ => ⟨rfl, rfl⟩, fun g => absurd g (by decide)⟩
    · rw [if_neg (fun g => hng g.2), h0] at hf
      subst hf
      have hng' : a.neg = false := by simpa using hng
      by_cases ham : a.mag.length = 0
      · refine ⟨0, false, fun a1 c1 w hT h1 => root_nought n way hn hw a ra la a1 c1 w h1 ha ham hng', fun _ => ⟨rfl, rfl⟩, fun _ a1 c1 w hc1 h1 => ?_⟩
        refine ref2root n way hn a.neg a1 a.mag.length c1 a.exp _ _ w (fun u k => ?_)
        obtain ⟨k0, p, k2, k3, k4, k5, k6, k7, k8, hk⟩ := knd_lit n hn
        rw [ham]
        exact rRoot_nil _ k0 p k2 k3 k4 k5 k6 k7 k8 hk a.neg a1 c1 a.exp way u
      · have ham' : a.mag ≠ [] := fun g => ham (by rw [g]; rfl)
        obtain ⟨q, o, hP, hD⟩ := root_both n way hn hw a ha hng' ham'
        refine ⟨q, o, fun a1 c1 w hT h1 => ?_, fun g => absurd rfl g, fun _ a1 c1 w hc1 h1 => ?_⟩
        · rw [hng']
          exact hP a1 c1 w hT h1
        · rw [hng']
          exact ref2root n way hn false a1 a.mag.length c1 a.exp _ _ w (fun u k => hD _ u ⟨a1, c1, rfl, hc1, h1.kept k⟩)
  · rw [if_neg (fun g => h0 g.1)] at hf
    have hf0 : f ≠ 0 := by rw [hf]; exact h0
    exact ⟨0, false, fun a1 c1 w hT h1 => root_no n way a ra la a1 c1 w h1 f hf hf0, fun _ => ⟨rfl, rfl⟩, fun g => absurd g hf0⟩
end Go.Proofs.YtbffekcjdcihpaaDoor

namespace Go.Proofs.YtbffekcjdcihpaaDoor
open Go.ChangeShapes Go.WideShapes Go.ChangeAt Go.RowKit
set_option linter.unusedVariables false
set_option linter.unusedSimpArgs false

theorem getD_apr (A B : List Int) (k j : Nat) (h : A.length + j = k) : (A ++ B).getD k 0 = B.getD j 0 := by
  rw [List.getD_eq_getElem?_getD, List.getElem?_append_right (by omega), show k - A.length = j by omega, List.getD_eq_getElem?_getD]

set_option maxHeartbeats 1000000 in
set_option maxRecDepth 100000 in
theorem lent_any (L : List Int) (hlen : L.length < 10000000) (ao : Option Addr) (c : Nat) (w : World) (h : Sl w (.slice ao L.length c) L) : Calls Tryd.prog 34 #[.slice ao L.length c] w fun e w' => (∃ g cap, e = .returned (.slice (some ⟨g, 0, none⟩) (L.length + 3) cap) ∧ w.heap.size ≤ g ∧ Own w' g cap (L ++ [-71, -72, -73])) ∧ Kept w w' := by
  obtain ⟨v1, w1, hr1, k1, hrow⟩ := app_nil L (by omega) _ w h
  have k2 : Kept w1 (w1.alloc (.cells #[.int .i64 (-71), .int .i64 (-72), .int .i64 (-73)] 3)) := (Kept.refl w1).alloc _ _
  have hR : Rw (w1.alloc (.cells #[.int .i64 (-71), .int .i64 (-72), .int .i64 (-73)] 3)) v1 3 (L.map (Value.int .i64)) := by
    rcases hrow with ⟨rfl, rfl⟩ | ⟨g, cap, rfl, hg, hO⟩
    · exact .inl ⟨rfl, rfl⟩
    · exact .inr ⟨g, cap, by rw [List.length_map], own_v.1 (hO.kept k2)⟩
  obtain ⟨g, cap, w2, hr2, hO2, hk2⟩ := app_gen 22 3 li_under (.int .i64 0) 8 int_info (by simp [Value.cells]) (by omega) _ v1 (L.map (Value.int .i64)) [.int .i64 (-71), .int .i64 (-72), .int .i64 (-73)] hR ⟨w1.heap.size, 0, none⟩ 3 3 rfl (fun j u hj => by
    rw [Addr.add_lit, Nat.zero_add]
    rcases j with _ | _ | _ | j
    · cases hj; simp [go_sem]
    · cases hj; simp [go_sem]
    · cases hj; simp [go_sem]
    · simp at hj) (fun u hu => by simp at hu; rcases hu with rfl | rfl | rfl <;> rfl) (by omega) (by rw [List.length_map]; omega)
  rw [List.length_map] at hr2 hk2
  have hfin : (w.heap.size ≤ g ∧ Own w2 g cap (L ++ [-71, -72, -73])) ∧ Kept w w2 := by
    have hs1 := k1.below.size
    refine ⟨⟨?_, own_v.2 (by simpa using hO2)⟩, ?_⟩
    · rcases hk2 with ⟨rfl, -⟩ | ⟨e, -⟩
      · simp; omega
      · rcases hrow with ⟨-, rfl⟩ | ⟨g', cap', rfl, hg, -⟩
        · cases e
        · cases e; exact hg
    · rcases hk2 with ⟨-, k⟩ | ⟨e, k⟩
      · exact (k1.trans k2).trans k
      · rcases hrow with ⟨-, rfl⟩ | ⟨g', cap', rfl, hg, -⟩
        · cases e
        · cases e; exact (k1.trans k2).grw hg k
  have H1 : Hid (∀ ty, (Builtin.append_ #[22, 22] ty #[.slice none 0 0, .slice ao L.length c]).run Tryd.prog w = .ok v1 w1) := hr1
  have H2 : Hid (∀ ty, (Builtin.append_ #[22, 22] ty #[v1, .slice (some ⟨w1.heap.size, 0, none⟩) 3 3]).run Tryd.prog (w1.alloc (.cells #[.int .i64 (-71), .int .i64 (-72), .int .i64 (-73)] 3)) = .ok (.slice (some ⟨g, 0, none⟩) (L.length + 3) cap) w2) := hr2
  clear hr1 hr2 hrow hR hO2 hk2 h
  generalize L.length = n at *
  go_enter Tryd.func34, Tryd.ntmps34
  go_wp2_with (first | (at_builtin; refine wpList_append_run rfl _ _ _ rfl _ _ rfl rfl _ _ (H1.out _) ?_) | (at_builtin; refine wpList_append_run rfl _ _ _ rfl _ _ rfl rfl _ _ (H2.out _) ?_))
  go_ret
  exact ⟨⟨_, _, rfl, hfin.1⟩, hfin.2⟩

set_option maxHeartbeats 1000000 in
set_option maxRecDepth 100000 in
theorem lentNum_any (neg : Bool) (x : Int) (L : List Int) (hlen : L.length < 10000000) (ao : Option Addr) (c : Nat) (w : World) (h : Sl w (.slice ao L.length c) L) : Calls Tryd.prog 11 #[.agg #[.bool neg, .slice ao L.length c, .int .i64 x]] w fun e w' => (∃ g cap, e = .returned (.tuple #[.slice (some ⟨g, 0, none⟩) (L.length + 3) cap, .agg #[.bool neg, .slice (some ⟨g, 0, none⟩) L.length cap, .int .i64 x]]) ∧ w.heap.size ≤ g ∧ Own w' g cap (L ++ [-71, -72, -73])) ∧ Kept w w' := by
  have hW : Kept w ((w.alloc (.cells #[.bool neg, .slice ao L.length c, .int .i64 x] 24)).alloc nilNum) := ((Kept.refl w).alloc _ _).alloc _ _
  have KL : Hid (Calls Tryd.prog 34 #[.slice ao L.length c] ((w.alloc (.cells #[.bool neg, .slice ao L.length c, .int .i64 x] 24)).alloc nilNum) fun e w' => (∃ g cap, e = .returned (.slice (some ⟨g, 0, none⟩) (L.length + 3) cap) ∧ ((w.alloc (.cells #[.bool neg, .slice ao L.length c, .int .i64 x] 24)).alloc nilNum).heap.size ≤ g ∧ L.length ≤ cap ∧ Own w' g cap (L ++ [-71, -72, -73])) ∧ Kept ((w.alloc (.cells #[.bool neg, .slice ao L.length c, .int .i64 x] 24)).alloc nilNum) w') := by
    refine (lent_any L hlen ao c _ (h.kept hW)).mono ?_
    rintro e w1 ⟨⟨g, cap, rfl, hg, hO⟩, k1⟩
    exact ⟨⟨g, cap, rfl, hg, (by obtain ⟨_, _, h1, _⟩ := hO; simp at h1; omega), hO⟩, k1⟩
  generalize hM : L ++ [-71, -72, -73] = M at *
  generalize L.length = n at *
  go_enter Tryd.func11, Tryd.ntmps11
  go_wp2_with (first | (go_at_call 34; refine KL.out.mono ?_; rintro e w1 ⟨⟨g, cap, rfl, hg, hcap, hO⟩, hk1⟩; simp only [World.size_alloc] at hg; obtain ⟨f0, f1, f2, f3⟩ := res_cells (w.heap.size + 1) (by simp <;> omega) hk1 (by simp [go_sem]) (by simp [go_sem]) (by simp [go_sem]) (fun o => by simp [go_sem]); have b0 := (hk1.below.cell (p := ⟨w.heap.size, 0, none⟩) (by simp; omega)).trans (show _ = some (Value.bool neg) by simp [go_sem]); have b1 := (hk1.below.cell (p := ⟨w.heap.size, 1, none⟩) (by simp; omega)).trans (show _ = some (Value.slice ao n c) by simp [go_sem]); have b2 := (hk1.below.cell (p := ⟨w.heap.size, 2, none⟩) (by simp; omega)).trans (show _ = some (Value.int .i64 x) by simp [go_sem])))
  have kB0 : Kept (w.alloc (.cells #[.bool neg, .slice ao n c, .int .i64 x] 24)) ((w.alloc (.cells #[.bool neg, .slice ao n c, .int .i64 x] 24)).alloc nilNum) := (Kept.refl _).alloc _ _
  have HS : Hid (∀ u, Kept (w.alloc (.cells #[.bool neg, .slice ao n c, .int .i64 x] 24)) u → Kept w u ∧ u.cell? ⟨w.heap.size, 0, none⟩ = some (.bool neg) ∧ u.cell? ⟨w.heap.size, 1, none⟩ = some (.slice ao n c) ∧ u.cell? ⟨w.heap.size, 2, none⟩ = some (.int .i64 x)) := fun u k => ⟨((Kept.refl w).alloc _ _).trans k, (laid_cell k 0).trans (by simp [go_sem]), (laid_cell k 1).trans (by simp [go_sem]), (laid_cell k 2).trans (by simp [go_sem])⟩
  clear b0 b1 b2
  go_region_held (fun u => Kept w u ∧ u.cell? ⟨w.heap.size, 0, none⟩ = some (.bool neg) ∧ u.cell? ⟨w.heap.size, 1, none⟩ = some (.slice ao n c) ∧ u.cell? ⟨w.heap.size, 2, none⟩ = some (.int .i64 x)) (first | exact HS.out _ (kB0.trans hk1.drew) | assumption | exact HS.out _ (res_kept (w.heap.size + 1) (by simp) kB0 hk1.drew _ _ _)) (fail)
  all_goals
    go_wp2
    exact bodyPost_ret (v := .tuple #[.slice (some ⟨g, 0, none⟩) (n + 3) cap, .agg #[.bool neg, .slice (some ⟨g, 0, none⟩) n cap, .int .i64 x]]) (by simp [results, Tryd.results11, go_sem, f0, f1, f2]) rfl ⟨⟨g, cap, rfl, by omega, (((hO.kept (Kept.refl _).drew).setOther (by simp; omega) _).setOther (by simp; omega) _).setOther (by simp; omega) _⟩, res_kept (w.heap.size + 1) (by omega) hW hk1.drew _ _ _⟩

set_option maxHeartbeats 1000000 in
set_option maxRecDepth 100000 in
theorem back_any (L : List Int) (hlen : L.length < 10000000) (v : Value) (g cap : Nat) (w : World) (h : Sl w v L) (ho : Own w g cap (L ++ [-71, -72, -73])) : Calls Tryd.prog 14 #[.slice (some ⟨g, 0, none⟩) (L.length + 3) cap, v] w fun e w' => e = .returned (.bool true) ∧ Grw g w w' := by
  have hcap : L.length + 3 ≤ cap := by obtain ⟨_, _, h1, _⟩ := ho; simpa using h1
  have KS : Hid (Calls Tryd.prog 33 #[.slice (some ⟨g, 0, none⟩) L.length cap, v] w fun e w' => e = .returned (.bool true) ∧ Kept w w') := by
    have := ho.slTake L.length (by simp)
    rw [List.take_left'  rfl] at this
    exact same_true L (by omega) _ _ w this h
  have HO : Hid (∀ u, Kept w u → Own u g cap (L ++ [-71, -72, -73])) := fun u k => ho.kept k
  have HC : Hid (∀ u, Kept w u → u.cell? ⟨g, L.length, none⟩ = some (.int .i64 (-71)) ∧ u.cell? ⟨g, L.length + 1, none⟩ = some (.int .i64 (-72)) ∧ u.cell? ⟨g, L.length + 2, none⟩ = some (.int .i64 (-73))) := fun u k => by
    have hq := ho.kept k
    refine ⟨?_, ?_, ?_⟩
    · have := hq.cell L.length (by simp)
      rw [getD_apr L _ _ 0 (by omega)] at this
      exact this
    · have := hq.cell (L.length + 1) (by simp)
      rw [getD_apr L _ _ 1 (by omega)] at this
      exact this
    · have := hq.cell (L.length + 2) (by simp)
      rw [getD_apr L _ _ 2 (by omega)] at this
      exact this
  have HL : Hid ((L ++ [-71, -72, -73]).length = L.length + 3) := by simp [Hid]
  obtain ⟨ao, cp, rfl, -, -, -⟩ := h
  generalize hM : L ++ [-71, -72, -73] = M at *
  clear hM ho
  generalize L.length = n at *
  go_enter Tryd.func14, Tryd.ntmps14
  go_wp2_with (first | (go_at_call 33; refine KS.out.mono ?_; rintro e w1 ⟨rfl, k1⟩; obtain ⟨q0, q1, q2⟩ := HC.out _ k1))
  go_loopw [7] (fun i wr => ∃ (k : Nat) (M' : List Int), k ≤ n + 3 ∧ i = .int .i64 k ∧ M'.length = n + 3 ∧ Own wr g cap M' ∧ Grw g w wr) (fun i _ => n + 3 - (intOf i).toNat)
  case atStart => exact ⟨0, M, by omega, rfl, HL.out, HO.out _ k1, k1.toGrw g⟩
  case round =>
    obtain ⟨k, M', hk, rfl, hM', hO, hG⟩ := hrel
    have HO2 : Hid (Own wr g cap M') := hO
    by_cases hkn : k < n + 3
    · have hcell := hO.cell k (by omega)
      have hfree := hO.free k
      clear hO
      go_wp2
      go_roundw
      case rel => exact ⟨k + 1, M'.set k (-9), by omega, by go_num, by rw [List.length_set]; exact hM', HO2.out.set k (-9), hG.setCell _ _⟩
      case measure => simp [intOf]; omega
    · obtain rfl : k = n + 3 := by omega
      go_wp2
      go_ret
      exact ⟨rfl, hG⟩
end Go.Proofs.YtbffekcjdcihpaaDoor

namespace Go.Proofs.YtbffekcjdcihpaaDoor
open Go.ChangeShapes Go.WideShapes Go.ChangeAt Go.RowKit
set_option linter.unusedVariables false
set_option linter.unusedSimpArgs false

/-- What is turned between two worlds is in the listed blocks, or new. -/
structure GrwS (S : List Nat) (w w' : World) : Prop where
  os : w'.os = w.os
  tape : w'.tape = w.tape
  output : w'.output = w.output
  size : w.heap.size ≤ w'.heap.size
  block : ∀ i, i < w.heap.size → i ∉ S → w'.heap[i]? = w.heap[i]?
  frozen : ∀ a, w'.frozen? a = w.frozen? a
theorem GrwS.refl (S : List Nat) (w : World) : GrwS S w w := ⟨rfl, rfl, rfl, Nat.le_refl _, fun _ _ _ => rfl, fun _ => rfl⟩
theorem GrwS.trans {S : List Nat} {a b c : World} (h : GrwS S a b) (k : GrwS S b c) : GrwS S a c :=
  ⟨k.os.trans h.os, k.tape.trans h.tape, k.output.trans h.output, Nat.le_trans h.size k.size, fun i hi hn => (k.block i (Nat.lt_of_lt_of_le hi h.size) hn).trans (h.block i hi hn), fun x => (k.frozen x).trans (h.frozen x)⟩
theorem GrwS.mono {S S' : List Nat} {a b : World} (h : GrwS S a b) (hs : ∀ i ∈ S, i ∈ S') : GrwS S' a b :=
  ⟨h.os, h.tape, h.output, h.size, fun i hi hn => h.block i hi (fun hm => hn (hs i hm)), h.frozen⟩
/-- What is turned besides is new to the first world. -/
theorem GrwS.then {S S' : List Nat} {a b c : World} (h : GrwS S a b) (k : GrwS S' b c) (hs : ∀ i ∈ S', i ∈ S ∨ a.heap.size ≤ i) : GrwS S a c :=
  ⟨k.os.trans h.os, k.tape.trans h.tape, k.output.trans h.output, Nat.le_trans h.size k.size, fun i hi hn => (k.block i (Nat.lt_of_lt_of_le hi h.size) (fun hm => by rcases hs i hm with h1 | h1; exact hn h1; omega)).trans (h.block i hi hn), fun x => (k.frozen x).trans (h.frozen x)⟩
theorem Kept.toS {a b : World} (S : List Nat) (h : Kept a b) : GrwS S a b := ⟨h.below.os, h.below.tape, h.below.output, h.below.size, fun i hi _ => h.below.block i hi, h.frozen⟩
theorem Grw.toS {g : Nat} {a b : World} (h : Grw g a b) : GrwS [g] a b := ⟨h.grown.os, h.grown.tape, h.grown.output, h.grown.size, fun i hi hn => h.grown.block i hi (by simpa using hn), h.frozen⟩
theorem Kept.grwS {S : List Nat} {a b c : World} (h : Kept a b) (hS : ∀ i ∈ S, a.heap.size ≤ i) (k : GrwS S b c) : Kept a c :=
  ⟨⟨k.os.trans h.below.os, k.tape.trans h.below.tape, k.output.trans h.below.output, Nat.le_trans h.below.size k.size, fun i hi => (k.block i (Nat.lt_of_lt_of_le hi h.below.size) (fun hm => by have := hS i hm; omega)).trans (h.below.block i hi)⟩, fun x => (k.frozen x).trans (h.frozen x)⟩
theorem GrwS.setCell {S : List Nat} {a b : World} (h : GrwS S a b) {p : Addr} (hp : p.block ∈ S ∨ a.heap.size ≤ p.block) (u : Value) : GrwS S a (b.setCell p u) :=
  ⟨h.os, h.tape, h.output, by simpa using h.size, fun i hi hn => (Below.heap_setCell b p u i (fun e => by subst e; rcases hp with h1 | h1; exact hn h1; omega)).trans (h.block i hi hn), fun x => (World.frozen?_setCell _ _ _ _).trans (h.frozen x)⟩

def blk (v : Value) : List Nat := match v with
  | .slice (some a) _ _ => [a.block]
  | _ => []
theorem OwnV.grwS {S : List Nat} {w w' : World} {g cap : Nat} {e : TypeId} {V : List Value} (h : OwnV w g cap e V) (k : GrwS S w w') (hne : g ∉ S) : OwnV w' g cap e V := by
  have hl := h.lt
  obtain ⟨cur, hg, r⟩ := h
  exact ⟨cur, (k.block g hl hne).trans hg, r⟩
theorem Rw.lt {w : World} {v : Value} {e : TypeId} {V : List Value} (h : Rw w v e V) : ∀ b ∈ blk v, b < w.heap.size := by
  rcases h with ⟨-, rfl⟩ | ⟨g, cap, rfl, ho⟩
  · intro b hb; cases hb
  · intro b hb
    obtain rfl : b = g := by simpa [blk] using hb
    exact ho.lt
theorem Rw.grwS {S : List Nat} {w w' : World} {v : Value} {e : TypeId} {V : List Value} (h : Rw w v e V) (k : GrwS S w w') (hn : ∀ b ∈ blk v, b ∉ S) : Rw w' v e V := by
  rcases h with h | ⟨g, cap, rfl, ho⟩
  · exact .inl h
  · exact .inr ⟨g, cap, rfl, ho.grwS k (hn g (by simp [blk]))⟩
theorem Rw.kept {w w' : World} {v : Value} {e : TypeId} {V : List Value} (h : Rw w v e V) (k : Kept w w') : Rw w' v e V := h.grwS (k.toS []) (fun _ _ h => by cases h)
theorem Rw.sl {w : World} {v : Value} {L : List Int} (h : Rw w v 3 (L.map (Value.int .i64))) : Sl w v L := by
  rcases h with ⟨e, rfl⟩ | ⟨g, cap, rfl, ho⟩
  · obtain rfl : L = [] := by simpa using e
    exact ⟨none, 0, rfl, Nat.le_refl _, by simp [maxLen], fun h => absurd rfl h⟩
  · have := (own_v.2 ho).sl
    rw [List.length_map]
    exact this
theorem Rw.shape {w : World} {v : Value} {e : TypeId} {V : List Value} (h : Rw w v e V) : ∃ ao c, v = .slice ao V.length c := by
  rcases h with ⟨rfl, rfl⟩ | ⟨g, cap, rfl, ho⟩
  · exact ⟨_, _, rfl⟩
  · exact ⟨_, _, rfl⟩

abbrev ints (L : List Int) : List Value := L.map (Value.int .i64)
end Go.Proofs.YtbffekcjdcihpaaDoor

namespace Go.Proofs.YtbffekcjdcihpaaDoor
open Go.ChangeShapes Go.WideShapes Go.ChangeAt Go.RowKit
set_option linter.unusedVariables false
set_option linter.unusedSimpArgs false

theorem Sl.shape {w : World} {v : Value} {L : List Int} (h : Sl w v L) : ∃ ao c, v = .slice ao L.length c := by
  obtain ⟨ao, c, e, -⟩ := h
  exact ⟨ao, c, e⟩

end Go.Proofs.YtbffekcjdcihpaaDoor

namespace Go.Proofs.YtbffekcjdcihpaaDoor
open Go.ChangeShapes Go.WideShapes Go.ChangeAt Go.RowKit
set_option linter.unusedVariables false
set_option linter.unusedSimpArgs false

end Go.Proofs.YtbffekcjdcihpaaDoor

namespace Go.Proofs.YtbffekcjdcihpaaDoor
open Go.ChangeShapes Go.WideShapes Go.ChangeAt Go.RowKit
set_option linter.unusedVariables false
set_option linter.unusedSimpArgs false

def updM (M : Nat → List Int) (i : Nat) (L : List Int) : Nat → List Int := fun j => if j = i then L else M j
def Mk (n : Nat → Nat) (M : Nat → List Int) (k j : Nat) : Prop := (∀ i, i < k → ∀ t, t < n i → (M i).getD t 0 = -2 - (i : Int)) ∧ ∀ t, t < j → (M k).getD t 0 = -2 - (k : Int)
theorem Mk.start (n : Nat → Nat) (M : Nat → List Int) : Mk n M 0 0 := ⟨fun i h => by omega, fun t h => by omega⟩
theorem Mk.step {n : Nat → Nat} {M : Nat → List Int} {k j : Nat} (h : Mk n M k j) (hj : j < (M k).length) : Mk n (updM M k ((M k).set j (-2 - (k : Int)))) k (j + 1) := by
  refine ⟨fun i hi t ht => ?_, fun t ht => ?_⟩
  · unfold updM
    rw [if_neg (by omega)]
    exact h.1 i hi t ht
  · unfold updM
    rw [if_pos rfl, List.getD_eq_getElem?_getD, List.getElem?_set]
    split
    · rfl
    · rw [← List.getD_eq_getElem?_getD]
      exact h.2 t (by omega)
end Go.Proofs.YtbffekcjdcihpaaDoor

namespace Go.Proofs.YtbffekcjdcihpaaDoor
open Go.ChangeShapes Go.WideShapes Go.ChangeAt Go.RowKit
set_option linter.unusedVariables false
set_option linter.unusedSimpArgs false

end Go.Proofs.YtbffekcjdcihpaaDoor
