/- Values of floats by their keys; package span's Add. Package span: Add. -/
import Derived.Test.YtdhimkpfnhoagaaGreatDoorWh30
namespace Go.Proofs.YtdhimkpfnhoagaaGreatDoor
open Go.ChangeShapes Go.WideShapes Go.ChangeAt Go.RowKit Ieee
set_option linter.unusedVariables false
set_option linter.unusedSimpArgs false

theorem kvz_sv (n s : Int) (b : Bool) (r : Nat) : kvz n s (sv b r) = sv b (rv (cbn n) r * 2 ^ (kleast n - s).toNat) := by
  cases b
  · rw [sv_f, sv_f, kvz_nat]
  · rw [sv_t, sv_t, kvz_neg]
theorem rv_64 (r : Nat) : rv (cbn 64) r = rungVal FloatKind.f64.format r := by
  unfold rv rungVal
  rw [bin64]
  rfl
theorem rv_32 (r : Nat) : rv (cbn 32) r = rungVal FloatKind.f32.format r := by
  unfold rv rungVal
  rw [bin32]
  rfl
theorem kvz_zero (n s : Int) : kvz n s 0 = 0 := by
  have h := kvz_nat n s 0
  have e : rv (cbn n) 0 = 0 := by
    unfold rv cbn
    split <;> split <;> simp_all
  rw [e, Nat.zero_mul] at h
  exact h
theorem Fl.same64 {x : Nat} {q : Int} (hx : Fl 64 x q) : keyOf (of64 x) 64 = q := by
  obtain ⟨q', hq', hK, o1, o2, o3, o4, o5, o6⟩ := hx.wide
  obtain ⟨c, c1, c2, c3, c4⟩ := hx
  have e : pat64 c = x := by rw [c4]; simp [fl]
  rw [← c3, ← key_64 _ o4 o5, ← key_64 _ c2.1 c2.2, o6, e]
/- the value of a float is the same in both widths -/
theorem Fl.val64 {n : Int} {x : Nat} {k q : Int} (h : Fl n x k) (hq : Fl 64 x q) (h1 : -(ifn n : Int) < k) (h2 : k < (ifn n : Int)) (s : Int) (hs : s ≤ -1074) : kvz 64 s q = kvz n s k := by
  have hqq := hq.same64
  have hle := h.le
  have hlt := h.lt
  have ho : of64 x = wrap64 x := of64_num x hle
  obtain ⟨i1, i2⟩ := key_sv64 x hle hlt
  rw [ho, i2] at hqq
  obtain ⟨b, b1, b2, rfl, rfl⟩ := h
  rcases isnum_inv b n b1 with ⟨rfl, c⟩ | ⟨rfl, c⟩
  · have e : sv (below FloatKind.f64.format (fl b 64)) (rung FloatKind.f64.format (fl b 64)) = keyOf b 64 := by
      rw [← key_sv, ← key_64 b b2.1 b2.2]
      simp [fl]
    rw [← hqq, e]
  · have hv := cls_valid b c
    have hr : rung FloatKind.f32.format (pat32 b) ≤ FloatKind.f32.format.infRung := by have := mt (nan_32 b).2 c; omega
    have e : keyOf b 32 = sv (below FloatKind.f32.format (pat32 b)) (rung FloatKind.f32.format (pat32 b)) := by rw [← key_sv, key_32 b hv]
    have ex : fl b 32 = W (pat32 b) := by simp [fl]; rfl
    rw [ex] at hqq
    rw [e] at h1 h2 ⊢
    have hi : (ifn 32 : Int) = (FloatKind.f32.format.infRung : Int) := by rw [← ifn_32]
    have hlt2 : rung FloatKind.f32.format (pat32 b) < FloatKind.f32.format.infRung := by
      generalize below FloatKind.f32.format (pat32 b) = sb at *
      cases sb <;> simp only [sv_f, sv_t] at h1 h2 <;> omega
    obtain ⟨w1, w2, w3⟩ := W_num (pat32 b) hlt2
    rw [← hqq, kvz_sv, kvz_sv, w3, rv_64, rv_32, w2, Nat.mul_assoc, ← Nat.pow_add]
    congr 3
    have k1 : kleast 64 = -1074 := rfl
    have k2 : kleast 32 = -149 := rfl
    rw [k1, k2]
    unfold shiftE
    omega
/- a float's parts, by its key -/
theorem zk (q : Int) (h1 : -(ifn 64 : Int) < q) (h2 : q < (ifn 64 : Int)) : sg (pneg (pz 64 q) 64) (pmag (pz 64 q) 64 * 2 ^ (pexp (pz 64 q) 64 + 1074).toNat) = kvz 64 (-1074) q := by
  have hn : (64 : Int) = 64 ∨ (64 : Int) = 32 := .inl rfl
  have hc := (pz_cls 64 q hn (by omega) (by omega)).2 ⟨h1, h2⟩
  obtain ⟨f1, f2, f3, f4⟩ := fin_parts _ hc
  have hng := pz_neg 64 q hn h1 h2
  obtain ⟨r, hr⟩ : ∃ r, r = if q < 0 then -q else q := ⟨_, rfl⟩
  obtain ⟨q1, q2⟩ := pz_mag 64 q hn h1 h2 4503599627370496 rfl (-1074) rfl r hr
  have hcb : (cbn 64 : Int) = 4503599627370496 := rfl
  have hra : r = (q.natAbs : Int) := by rw [hr]; split <;> omega
  have hkl : kleast 64 = -1074 := rfl
  have hval : pmag (pz 64 q) 64 * 2 ^ (pexp (pz 64 q) 64 + 1074).toNat = ((rv (cbn 64) q.natAbs : Nat) : Int) := by
    unfold rv
    by_cases hb : r < 4503599627370496
    · rw [if_pos hb] at q1 q2
      rw [if_pos (by omega), q1, q2, hra]
      simp
    · rw [if_neg hb] at q1 q2
      have hcp : 0 < cbn 64 := by decide
      rw [if_neg (by omega), q1, q2]
      have hmod : (4503599627370496 + r % 4503599627370496 : Int) = ((cbn 64 + q.natAbs % cbn 64 : Nat) : Int) := by
        rw [Int.natCast_add, Int.natCast_emod, hcb, hra]
      have hdiv : r / 4503599627370496 = ((q.natAbs / cbn 64 : Nat) : Int) := by rw [hra, Int.natCast_ediv, hcb]
      have hge : 1 ≤ q.natAbs / cbn 64 := by
        rw [Nat.le_div_iff_mul_le hcp]; omega
      rw [hmod, hdiv, Int.natCast_mul, Int.natCast_pow]
      congr 2
      generalize q.natAbs / cbn 64 = D at *
      omega
  have hs0 : (kleast 64 - -1074).toNat = 0 := by rw [hkl]; rfl
  rw [hval, hng]
  unfold kvz sg
  rw [hs0, Nat.pow_zero, Nat.mul_one]
  by_cases hk : q < 0
  · rw [decide_eq_true hk, if_pos rfl, if_pos hk]
  · rw [decide_eq_false hk, if_neg (by decide), if_neg hk]
theorem zw_key {x : Nat} {q : Int} (hx : Fl 64 x q) (h1 : -(ifn 64 : Int) < q) (h2 : q < (ifn 64 : Int)) : zw x = kvz 64 (-1074) q ∧ (q ≠ 0 → of64 x = pz 64 q) ∧ cls (of64 x) 64 < 3 := by
  obtain ⟨q', hq', hK, o1, o2, o3, o4, o5, o6⟩ := hx.wide
  have e := hx.same64
  have hcan := can_pz (of64 x) 64 o2 o4 o5
  rw [e] at hcan
  have hf := fin_key (of64 x) 64 (.inl rfl) o2 ⟨o4, o5⟩
  rw [e, decide_eq_true (by omega)] at hf
  have hc : cls (of64 x) 64 < 3 := by
    unfold fin at hf
    rw [decide_eq_true_eq] at hf
    exact hf.2
  have hne : q ≠ 0 → of64 x = pz 64 q := fun h => by
    rw [← hcan]
    unfold can
    rw [if_pos o2, if_pos rfl, if_neg]
    intro g
    rw [g] at e
    exact h (e.symm.trans (by decide))
  refine ⟨?_, hne, hc⟩
  by_cases h0 : q = 0
  · subst h0
    rw [kvz_zero]
    rw [key64_is] at e
    have hb : of64 x = 0 ∨ of64 x = -9223372036854775808 := by
      split at e <;> omega
    unfold zw
    rcases hb with hb | hb <;> rw [hb] <;> decide +kernel
  · unfold zw
    rw [hne h0]
    exact zk q h1 h2
theorem zw_val {n : Int} {x : Nat} {k : Int} (h : Fl n x k) (h1 : -(ifn n : Int) < k) (h2 : k < (ifn n : Int)) : zw x = kvz n (-1074) k := by
  obtain ⟨q, hq, hK, -⟩ := h.wide
  have g1 := hq.rng
  have t := hK.top
  have bo := hK.bot
  have a1 : -(ifn 64 : Int) < q := by
    have : q ≠ -(ifn 64 : Int) := fun e => by have := bo.2 e; omega
    omega
  have a2 : q < (ifn 64 : Int) := by
    have : q ≠ (ifn 64 : Int) := fun e => by have := t.2 e; omega
    omega
  rw [(zw_key hq a1 a2).1]
  exact h.val64 hq h1 h2 (-1074) (by decide)
/- keys and values rise together -/
theorem kvz_lt (n s : Int) (hn : n = 64 ∨ n = 32) (a b : Int) (h : a < b) : kvz n s a < kvz n s b := by
  have hp : 0 < 2 ^ (kleast n - s).toNat := Nat.two_pow_pos _
  have hm : ∀ i j : Nat, i < j → rv (cbn n) i * 2 ^ (kleast n - s).toNat < rv (cbn n) j * 2 ^ (kleast n - s).toNat := fun i j hij => Nat.mul_lt_mul_of_pos_right (rv_lt n hn i j hij) hp
  have h0 : rv (cbn n) 0 = 0 := by
    unfold rv cbn
    split <;> split <;> simp_all
  unfold kvz
  by_cases ha : a < 0
  · rw [if_pos ha]
    have ha' := hm 0 a.natAbs (by omega)
    rw [h0, Nat.zero_mul] at ha'
    by_cases hb : b < 0
    · rw [if_pos hb]
      have := hm b.natAbs a.natAbs (by omega)
      omega
    · rw [if_neg hb]
      omega
  · rw [if_neg ha, if_neg (by omega)]
    have := hm a.natAbs b.natAbs (by omega)
    omega
theorem kvz_inj (n s : Int) (hn : n = 64 ∨ n = 32) (a b : Int) (h : kvz n s a = kvz n s b) : a = b := by
  rcases Int.lt_trichotomy a b with g | g | g
  · have := kvz_lt n s hn a b g; omega
  · exact g
  · have := kvz_lt n s hn b a g; omega
/- a number that is a float is rounded to it, in every way -/
theorem ky_float (n : Int) (hn : n = 64 ∨ n = 32) (r : Nm) (hv : vld r = true) (s : Int) (hs : r.mag ≠ [] → s ≤ r.exp) (hl : s < kleast n) (K : Int) (h1 : -(ifn n : Int) < K) (h2 : K < (ifn n : Int)) (hK : vz s r = kvz n s K) : kyN n 1 r = K ∧ kyN n 2 r = K ∧ kyN n 0 r = K ∧ oxN n 0 r = false := by
  obtain ⟨hN, e1, e2⟩ := nbrN n hn r hv s hs hl
  rw [hK] at hN
  cases ho : oxN n 1 r
  · obtain ⟨a1, a2, a3, a4, a5⟩ := hN.same ho
    have := kvz_inj n s hn _ _ a3
    exact ⟨this.symm, by rw [a1]; exact this.symm, by rw [a2]; exact this.symm, by rw [e2]; exact ho⟩
  · obtain ⟨a1, a2, a3, a4, a5, a6⟩ := hN.next ho
    exfalso
    have b1 : kyN n 1 r < K := by
      by_cases hd : -(ifn n : Int) < kyN n 1 r
      · have := a5 hd
        rcases Int.lt_trichotomy (kyN n 1 r) K with g | g | g
        · exact g
        · rw [g] at this; omega
        · have := kvz_lt n s hn _ _ g; omega
      · have := kyN_range n 1 r
        omega
    have b2 : K < kyN n 2 r := by
      by_cases hd : kyN n 2 r < (ifn n : Int)
      · have := a6 hd
        rcases Int.lt_trichotomy K (kyN n 2 r) with g | g | g
        · exact g
        · rw [g] at this; omega
        · have := kvz_lt n s hn _ _ g; omega
      · have := kyN_range n 2 r
        omega
    omega
end Go.Proofs.YtdhimkpfnhoagaaGreatDoor

namespace Go.Proofs.YtdhimkpfnhoagaaGreatDoor
open Go.ChangeShapes Go.WideShapes Go.ChangeAt Go.RowKit Ieee
set_option linter.unusedVariables false
set_option linter.unusedSimpArgs false

def two {α : Type} (a b : α) (i : Nat) : α := if i = 0 then a else b
theorem ivs_two {w u : World} {x1 y1 x2 y2 : Nat} {t : TypeId} (k : Kept (w.alloc (.cells #[.float .f64 x1, .float .f64 y1, .float .f64 x2, .float .f64 y2] t)) u) : Ivs u (some ⟨w.heap.size, 0, none⟩) 2 (two x1 x2) (two y1 y2) := fun v kv i hi => by
  have h : ∀ o, v.cell? ⟨w.heap.size, o, none⟩ = (w.alloc (.cells #[.float .f64 x1, .float .f64 y1, .float .f64 x2, .float .f64 y2] t)).cell? ⟨w.heap.size, o, none⟩ := fun o => laid_cell (k.trans kv) o
  refine ⟨_, _, rfl, ?_, ?_⟩
  · rw [h]
    rcases (show i = 0 ∨ i = 1 by omega) with rfl | rfl <;> simp [go_sem, two]
  · rw [h]
    rcases (show i = 0 ∨ i = 1 by omega) with rfl | rfl <;> simp [go_sem, two]

set_option maxHeartbeats 2000000 in
set_option maxRecDepth 100000 in
theorem add_walk (a1 b1 a2 b2 n : Int) (x1 y1 x2 y2 : Nat) (q p1 p2 : Int) (J : Nat → Nat → Prop) (w : World)
    (KB : Hid (∀ u, Calls Tryz.prog 67 #[sp2 a1 b1, sp2 a2 b2, .int .i64 n] u fun e w' => e = .returned (.tuple #[fv2 x1 y1, fv2 x2 y2, .int .i64 q]) ∧ Kept u w'))
    (KJ : Hid (∀ (u v : World) (B : Nat), Kept w u → B = v.heap.size → Kept (v.alloc (.cells #[.float .f64 x1, .float .f64 y1, .float .f64 x2, .float .f64 y2] 87)) u → Calls Tryz.prog 69 #[.int .i64 n, .slice (some ⟨B, 0, none⟩) 2 2] u fun e w' => ∃ x y, e = .returned (fv2 x y) ∧ J x y ∧ Kept u w'))
    (KT : Hid (∀ u x y, J x y → Calls Tryz.prog 68 #[fv2 x y, .int .i64 n, .int .i64 q] u fun e w' => e = .returned (.tuple #[sp2 p1 p2, .int .i64 q]) ∧ Kept u w')) :
    Calls Tryz.prog 17 #[sp2 a1 b1, sp2 a2 b2, .int .i64 n] w fun e w' => e = .returned (.tuple #[sp2 p1 p2, .int .i64 q]) ∧ Kept w w' := by
  obtain ⟨X, hX⟩ : ∃ X, X = ((w.alloc (.cells #[.int .i64 a1, .int .i64 b1] 23)).alloc (.cells #[.int .i64 a2, .int .i64 b2] 23)).alloc (.cells #[.int .i64 0, .int .i64 0] 23) := ⟨_, rfl⟩
  have hP1 : P2 X w.heap.size (.int .i64 a1) (.int .i64 b1) := by
    rw [hX]
    exact ((P2.new w _ _ _).alloc _ _).alloc _ _
  have hP2 : P2 X (w.heap.size + 1) (.int .i64 a2) (.int .i64 b2) := by
    rw [hX]
    have := (P2.new (w.alloc (.cells #[.int .i64 a1, .int .i64 b1] 23)) (.int .i64 a2) (.int .i64 b2) 23).alloc #[.int .i64 0, .int .i64 0] 23
    simpa using this
  have hQ : P2 X (w.heap.size + 1 + 1) (.int .i64 0) (.int .i64 0) := by
    rw [hX]
    have := P2.new ((w.alloc (.cells #[.int .i64 a1, .int .i64 b1] 23)).alloc (.cells #[.int .i64 a2, .int .i64 b2] 23)) (.int .i64 0) (.int .i64 0) 23
    simpa using this
  have hK : Kept w X := by
    rw [hX]
    exact (((Kept.refl w).alloc _ _).alloc _ _).alloc _ _
  obtain ⟨H1, hH1⟩ : ∃ H, H = w.heap.size + 1 := ⟨_, rfl⟩
  obtain ⟨H2, hH2⟩ : ∃ H, H = H1 + 1 := ⟨_, rfl⟩
  rw [← hH1] at hP2 hQ
  rw [← hH2] at hQ
  have o2 : w.heap.size ≤ H2 := by omega
  have hSF := sto_f
  go_enter Tryz.func17, Tryz.ntmps17
  go_upto_region 1 with fail
  rw [← hX, ← hH1, ← hH2]
  clear hX hH1 hH2
  obtain ⟨p10, p11, p1f⟩ := hP1
  obtain ⟨p20, p21, p2f⟩ := hP2
  go_upto_region 2 with (first | (go_at_call 67; refine (KB.out _).mono ?_; rintro e w1 ⟨rfl, k1⟩))
  have hQ1 := hQ.kept k1
  have kw1 := hK.trans k1
  clear p10 p11 p1f p20 p21 p2f KB hK hQ k1
  obtain ⟨Y, hY⟩ : ∃ Y, Y = (w1.alloc (.cells #[.float .f64 x1, .float .f64 y1] 87)).alloc (.cells #[.float .f64 x2, .float .f64 y2] 87) := ⟨_, rfl⟩
  have hC1 : P2 Y w1.heap.size (.float .f64 x1) (.float .f64 y1) := by
    rw [hY]
    exact (P2.new w1 _ _ _).alloc _ _
  have hC2 : P2 Y (w1.heap.size + 1) (.float .f64 x2) (.float .f64 y2) := by
    rw [hY]
    have := P2.new (w1.alloc (.cells #[.float .f64 x1, .float .f64 y1] 87)) (.float .f64 x2) (.float .f64 y2) 87
    simpa using this
  have kY : Kept w1 Y := by
    rw [hY]
    exact ((Kept.refl w1).alloc _ _).alloc _ _
  have hQY := hQ1.kept kY
  have kwY := kw1.trans kY
  rw [← hY]
  clear hY kw1 kY hQ1
  obtain ⟨b0, b1', bf⟩ := hC1
  obtain ⟨c0, c1, cf⟩ := hC2
  go_wp2_with (first | (go_at_call 69; refine (KJ.out _ _ _ (kwY.alloc _ _) rfl (Kept.refl _)).mono ?_; rintro e w2 ⟨x, y, rfl, hJ, k2⟩) | (go_at_call 68; refine (KT.out _ _ _ hJ).mono ?_; rintro e w3 ⟨rfl, k3⟩; have k4 := ((Kept.refl Y).alloc _ _).trans (k2.trans k3); have hz := (hQY.kept k4).put (.int .i64 p1) (.int .i64 p2); obtain ⟨d0, d1, df⟩ := hQY.kept k4; obtain ⟨e0, e1, ef⟩ := hz))
  refine bodyPost_ret (v := .tuple #[sp2 p1 p2, .int .i64 q]) ?_ rfl ⟨rfl, ?_⟩
  · simp [results, Tryz.results17, go_sem, *]
  · (repeat' first | exact kwY.trans k4 | refine Kept.setCell ?_ ?_ _ | exact o2)
/-- the sum of two ends of one side, rounded: its key -/
def Smk (n way k1 k2 K : Int) : Prop :=
  ((k1 = (ifn n : Int) ∨ k1 = -(ifn n : Int)) ∧ (k2 ≠ -k1) ∧ K = k1) ∨ ((k2 = (ifn n : Int) ∨ k2 = -(ifn n : Int)) ∧ (k1 ≠ -k2) ∧ K = k2) ∨
  ((-(ifn n : Int) < k1 ∧ k1 < (ifn n : Int)) ∧ (-(ifn n : Int) < k2 ∧ k2 < (ifn n : Int)) ∧ ∃ r, cfm (kvz n (-1074) k1 + kvz n (-1074) k2) (-1074) = some r ∧ K = kyN n way r)
theorem infq_key {n : Int} {x : Nat} {k q : Int} (h : Fl n x k) (hq : Fl 64 x q) : infq q ↔ (k = (ifn n : Int) ∨ k = -(ifn n : Int)) := by
  obtain ⟨q', hq', hK, -⟩ := h.wide
  have : q' = q := hq'.same64.symm.trans hq.same64
  subst this
  unfold infq
  rw [hK.top, hK.bot]
/- what summed tells of two ends, by their keys; an infinite end never meets its opposite -/
theorem rd_two (n way : Int) (hn : n = 64 ∨ n = 32) (x1 x2 : Nat) (k1 k2 : Int) (h1 : Fl n x1 k1) (h2 : Fl n x2 k2) (hop : ¬ ((k1 = (ifn n : Int) ∨ k1 = -(ifn n : Int)) ∧ k2 = -k1)) (q1 q2 : Int) (g1 : Fl 64 x1 q1) (g2 : Fl 64 x2 q2) : ∃ K, Smk n way k1 k2 K ∧ (-(ifn n : Int) ≤ K ∧ K ≤ (ifn n : Int)) ∧ ∀ x, Rd n way (two x1 x2) (two q1 q2) 2 x → Fl n x K := by
  have i1 := infq_key h1 g1
  have i2 := infq_key h2 g2
  have hr1 := h1.rng
  have hr2 := h2.rng
  have hpos := ifn_p n
  have e0 : two q1 q2 0 = q1 := rfl
  have e1 : two q1 q2 1 = q2 := rfl
  have hw : iW (two x1 x2) (two q1 q2) 2 = if infq q2 then x2 else (if infq q1 then x1 else 0) := rfl
  have hq : iQ (two q1 q2) 2 = if infq q2 then q2 else (if infq q1 then q1 else 0) := rfl
  by_cases a2 : infq q2
  · have := i2.1 a2
    refine ⟨k2, .inr (.inl ⟨this, fun e => hop ⟨by omega, by omega⟩, rfl⟩), hr2, fun x hx => ?_⟩
    rcases hx with ⟨hi, hx⟩ | ⟨hi, r, hr, hx⟩
    · rw [hx, hw, if_pos a2]
      exact h2
    · exact absurd (by rw [e1]; exact a2) (hi 1 (by decide))
  · by_cases a1 : infq q1
    · have := i1.1 a1
      refine ⟨k1, .inl ⟨this, fun e => hop ⟨this, e⟩, rfl⟩, hr1, fun x hx => ?_⟩
      rcases hx with ⟨hi, hx⟩ | ⟨hi, r, hr, hx⟩
      · rw [hx, hw, if_neg a2, if_pos a1]
        exact h1
      · exact absurd (by rw [e0]; exact a1) (hi 0 (by decide))
    · have b1 : -(ifn n : Int) < k1 ∧ k1 < (ifn n : Int) := by
        have c1 : k1 ≠ (ifn n : Int) := fun e => a1 (i1.2 (.inl e))
        have c2 : k1 ≠ -(ifn n : Int) := fun e => a1 (i1.2 (.inr e))
        omega
      have b2 : -(ifn n : Int) < k2 ∧ k2 < (ifn n : Int) := by
        have c1 : k2 ≠ (ifn n : Int) := fun e => a2 (i2.2 (.inl e))
        have c2 : k2 ≠ -(ifn n : Int) := fun e => a2 (i2.2 (.inr e))
        omega
      have hs : sV (two x1 x2) (two q1 q2) 2 = kvz n (-1074) k1 + kvz n (-1074) k2 := by
        have : sV (two x1 x2) (two q1 q2) 2 = 0 + (if infq q1 then 0 else zw x1) + (if infq q2 then 0 else zw x2) := rfl
        rw [this, if_neg a1, if_neg a2, zw_val h1 b1.1 b1.2, zw_val h2 b2.1 b2.2]
        omega
      obtain ⟨r, hr, -, -⟩ := sV_cfm (two x1 x2) (two q1 q2) 2 (by decide) (fun i hi => by
        rcases (show i = 0 ∨ i = 1 by omega) with rfl | rfl
        · exact g1
        · exact g2)
      refine ⟨kyN n way r, .inr (.inr ⟨b1, b2, r, by rw [← hs]; exact hr, rfl⟩), kyN_range n way r, fun x hx => ?_⟩
      rcases hx with ⟨hi, hx⟩ | ⟨hi, r', hr', hx⟩
      · rw [hq, if_neg a2, if_neg a1] at hi
        exact absurd hi (by decide)
      · rw [hr] at hr'
        cases hr'
        rw [hx]
        exact rz_fl n way hn r
theorem add5_ok (a1 b1 a2 b2 n : Int) (s1 : RB a1) (s2 : RB b1) (s3 : RB a2) (s4 : RB b2) (hv1 : vsp a1 b1 n = true) (hv2 : vsp a2 b2 n = true) : ∃ K1 K2, Smk n 1 (keyOf a1 n) (keyOf a2 n) K1 ∧ Smk n 2 (keyOf b1 n) (keyOf b2 n) K2 ∧ (-(ifn n : Int) ≤ K1 ∧ K1 ≤ (ifn n : Int)) ∧ (-(ifn n : Int) ≤ K2 ∧ K2 ≤ (ifn n : Int)) ∧ ∀ (w : World), Tab w → Calls Tryz.prog 17 #[sp2 a1 b1, sp2 a2 b2, .int .i64 n] w fun e w' => e = .returned (.tuple #[sp2 (pz n K1) (pz n K2), .int .i64 0]) ∧ Kept w w' := by
  obtain ⟨i1, i2, v3, v4, v5⟩ := vsp_num _ _ _ hv1
  obtain ⟨i3, i4, u3, u4, u5⟩ := vsp_num _ _ _ hv2
  have hn := isnum_wid _ _ i1
  obtain ⟨x1, y1, x2, y2, q, hB, KB⟩ := both_any a1 b1 a2 b2 n s1 s2 s3 s4
  have hq : q = 0 := hB.err.trans ((btE_zero _ _ _ _ _).2 ⟨hv1, hv2⟩)
  obtain ⟨f1, f2, f3, f4⟩ := hB.ok hq
  subst hq
  have hpos := ifn_p n
  obtain ⟨p1, P1, -⟩ := f1.wide
  obtain ⟨p2, P2, -⟩ := f2.wide
  obtain ⟨p3, P3, -⟩ := f3.wide
  obtain ⟨p4, P4, -⟩ := f4.wide
  obtain ⟨K1, S1, R1, F1⟩ := rd_two n 1 hn x1 x2 _ _ f1 f3 (by omega) p1 p3 P1 P3
  obtain ⟨K2, S2, R2, F2⟩ := rd_two n 2 hn y1 y2 _ _ f2 f4 (by omega) p2 p4 P2 P4
  refine ⟨K1, K2, S1, S2, R1, R2, fun w hT => ?_⟩
  refine add_walk a1 b1 a2 b2 n x1 y1 x2 y2 0 _ _ (fun x y => Fl n x K1 ∧ Fl n y K2) w KB (fun u v B kwu hBv k => ?_) (fun u x y h => told_ok5 h.1 h.2 u)
  subst hBv
  refine (summed_any n hn 2 (by decide) (two x1 x2) (two y1 y2) (two p1 p3) (two p2 p4) (fun i hi => ?_) _ _ u (hT.kept kwu) (ivs_two k)).mono ?_
  · rcases (show i = 0 ∨ i = 1 by omega) with rfl | rfl
    · exact ⟨P1, P2⟩
    · exact ⟨P3, P4⟩
  · rintro e w' ⟨x, y, rfl, hx, hy, k'⟩
    exact ⟨x, y, rfl, ⟨F1 x hx, F2 y hy⟩, k'⟩
end Go.Proofs.YtdhimkpfnhoagaaGreatDoor
