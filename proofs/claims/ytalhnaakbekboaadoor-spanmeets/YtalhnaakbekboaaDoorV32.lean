/- The ring's laws by values; the laws' own num. The walk of the statement on the ring. -/
import Derived.Test.YtalhnaakbekboaaDoorV27
import Derived.Test.YtalhnaakbekboaaDoorV20
import Derived.Test.YtalhnaakbekboaaDoorV31
namespace Go.Proofs.YtalhnaakbekboaaDoor
open Go.ChangeShapes Go.WideShapes Go.ChangeAt Go.RowKit
set_option linter.unusedVariables false
set_option linter.unusedSimpArgs false

theorem Lies.mono {s : Int} {B C : Nat} {a : Nm} (h : Lies s B a) (hBC : B ≤ C) : Lies s C a := ⟨h.ok, h.low, Nat.lt_of_lt_of_le h.lt (Nat.pow_le_pow_right (by decide) hBC)⟩
theorem vz_ng (s : Int) (a : Nm) : vz s (ng a) = -vz s a := by
  unfold vz ng
  dsimp only
  cases a.neg <;> simp [sg]
theorem sub_cfm (s : Int) (B : Nat) (hB : B ≤ 60000) (a b : Nm) (ha : Lies s B a) (hb : Lies s B b) : addZ a (ng b) = cfm (vz s a - vz s b) s := by
  by_cases hne : b.mag = []
  · obtain ⟨n2, L2, x2⟩ := b
    dsimp only at hne
    subst hne
    obtain ⟨n1, L1, x1⟩ := a
    rw [vz_nil, Int.sub_zero, vz_cfm s n1 L1 x1 ha.ok ha.low]
    unfold addZ ng
    dsimp only
    by_cases h1 : L1 = []
    · subst h1
      obtain ⟨rfl, rfl⟩ := vld_nil _ _ ha.ok
      simp
    · simp [h1]
  · have hb' : Lies s B (ng b) := ⟨vld_ng b.neg b.mag b.exp hb.ok hne, hb.low, by rw [vz_ng, Int.natAbs_neg]; exact hb.lt⟩
    rw [add_cfm s B hB a (ng b) ha hb', vz_ng, Int.sub_eq_add_neg]
theorem frm_cfm (n : Bool) (v : Nat) (y : Int) : frm n v y = cfm (sg n (v : Int)) y := by
  by_cases h : v = 0
  · subst h
    rw [show sg n ((0 : Nat) : Int) = 0 by cases n <;> rfl, cfm_zero]
    simp [frm]
  · have hsg := sg_neg n (v : Int) (by omega)
    unfold cfm
    rw [hsg.1, hsg.2, Int.toNat_natCast]
theorem num_lies (p q B : Nat) (hp : p = 600) (hq : q = 2600) (hB : B = p + q) (n : Bool) (M : List Int) (hM : Dg M) (hl : M.length ≤ 20) (y : Int) (h1 : -1300 ≤ y) (h2 : y ≤ 1300) : ∃ r, frm n (nv M) y = some r ∧ Lies (-1300) B r := by
  have hlt := nv_lt M hM
  have h6 : nv M < 2 ^ p := Nat.lt_of_lt_of_le hlt (Nat.pow_le_pow_right (by decide) (by omega))
  have hk : (sg n (nv M : Int) * 2 ^ (y + 1300).toNat).natAbs < 2 ^ B := by
    rw [Int.natAbs_mul]
    have e1 : (sg n (nv M : Int)).natAbs = nv M := by cases n <;> simp [sg]
    have e2 : ((2 : Int) ^ (y + 1300).toNat).natAbs = 2 ^ (y + 1300).toNat := by rw [Int.natAbs_pow]; rfl
    rw [e1, e2, hB, Nat.pow_add]
    have e3 : (2 : Nat) ^ (y + 1300).toNat ≤ 2 ^ q := Nat.pow_le_pow_right (by decide) (by omega)
    exact Nat.mul_lt_mul_of_lt_of_le h6 e3 (Nat.two_pow_pos _)
  obtain ⟨r, hr, hL, -⟩ := cfm_lies (-1300) B (by omega) (by decide) (by decide) _ hk
  refine ⟨r, ?_, hL⟩
  rw [frm_cfm, ← hr, cfm_shift]
  congr 1
  omega
theorem sgz_vz (s : Int) (r : Nm) (h : vld r = true) : sgz r.neg r.mag = cz (vz s r) 0 := by
  obtain ⟨n, L, x⟩ := r
  dsimp only
  by_cases e : L = []
  · subst e
    rw [vz_nil, sgz_nil]
    rfl
  · have p := vz_pos s n L x e h
    rw [vz_nat, sgz_some n L e]
    generalize nv L * 2 ^ (x - s).toNat = y at *
    cases n <;> simp [sg, cz] <;> omega
theorem cz_sub (a b : Int) : cz (a - b) 0 = cz a b := by
  unfold cz
  split <;> split <;> (try split) <;> (try split) <;> omega
theorem abs_add_lt (a b : Int) (n : Nat) (ha : a.natAbs < 2 ^ n) (hb : b.natAbs < 2 ^ n) : (a + b).natAbs < 2 ^ (n + 1) := by
  have := Int.natAbs_add_le a b
  rw [Nat.pow_succ]
  omega
theorem abs_sub_lt (a b : Int) (n : Nat) (ha : a.natAbs < 2 ^ n) (hb : b.natAbs < 2 ^ n) : (a - b).natAbs < 2 ^ (n + 1) := by
  rw [Int.sub_eq_add_neg]
  exact abs_add_lt a (-b) n ha (by rw [Int.natAbs_neg]; exact hb)
theorem abs_mul_lt (a b : Int) (n m : Nat) (ha : a.natAbs < 2 ^ n) (hb : b.natAbs < 2 ^ m) : (a * b).natAbs < 2 ^ (n + m) := by
  rw [Int.natAbs_mul, Nat.pow_add]
  exact Nat.mul_lt_mul'' ha hb
theorem pow_up (a : Int) (n m : Nat) (h : n ≤ m) (ha : a.natAbs < 2 ^ n) : a.natAbs < 2 ^ m := Nat.lt_of_lt_of_le ha (Nat.pow_le_pow_right (by decide) h)

structure RingN (B : Nat) (a b c r1 r2 r3 r4 r5 r6 r7 : Nm) : Prop where
  la : Lies (-1300) B a
  lb : Lies (-1300) B b
  lc : Lies (-1300) B c
  v1 : vld r1 = true
  v2 : vld r2 = true
  v3 : vld r3 = true
  v4 : vld r4 = true
  v5 : vld r5 = true
  v6 : vld r6 = true
  v7 : vld r7 = true
  s1 : addZ a b = some r1
  s2 : addZ b a = some r1
  s3 : addZ b c = some r2
  s4 : addZ r1 c = some r3
  s5 : addZ a r2 = some r3
  s6 : addZ r1 (ng b) = some a
  m1 : mulN a b = some r4
  m2 : mulN a c = some r5
  m3 : mulN a r2 = some r6
  s7 : addZ r4 r5 = some r6
  s8 : addZ a (ng b) = some r7
  sg : sgz r7.neg r7.mag = cz (vz (-1300) a) (vz (-1300) b)

theorem ring_is (B : Nat) (hB : B ≤ 3200) (a b c : Nm) (la : Lies (-1300) B a) (lb : Lies (-1300) B b) (lc : Lies (-1300) B c) : ∃ r1 r2 r3 r4 r5 r6 r7, RingN B a b c r1 r2 r3 r4 r5 r6 r7 := by
  have up : ∀ {x : Nm}, Lies (-1300) B x → Lies (-1300) 8000 x := fun h => h.mono (by omega)
  obtain ⟨r1, e1, l1, z1⟩ := cfm_lies (-1300) (B + 1) (by omega) (by decide) (by decide) _ (abs_add_lt _ _ _ la.lt lb.lt)
  obtain ⟨r2, e2, l2, z2⟩ := cfm_lies (-1300) (B + 1) (by omega) (by decide) (by decide) _ (abs_add_lt _ _ _ lb.lt lc.lt)
  obtain ⟨r3, e3, l3, z3⟩ := cfm_lies (-1300) (B + 1 + 1) (by omega) (by decide) (by decide) _ (abs_add_lt _ _ _ l1.lt (pow_up _ _ _ (Nat.le_succ _) lc.lt))
  obtain ⟨r4, e4, l4, z4⟩ := cfm_lies (-1300 + -1300) (B + B) (by omega) (by decide) (by decide) _ (abs_mul_lt _ _ _ _ la.lt lb.lt)
  obtain ⟨r5, e5, l5, z5⟩ := cfm_lies (-1300 + -1300) (B + B) (by omega) (by decide) (by decide) _ (abs_mul_lt _ _ _ _ la.lt lc.lt)
  obtain ⟨r6, e6, l6, z6⟩ := cfm_lies (-1300 + -1300) (B + (B + 1)) (by omega) (by decide) (by decide) _ (abs_mul_lt _ _ _ _ la.lt l2.lt)
  obtain ⟨r7, e7, l7, z7⟩ := cfm_lies (-1300) (B + 1) (by omega) (by decide) (by decide) _ (abs_sub_lt _ _ _ la.lt lb.lt)
  have u1 := l1.mono (show B + 1 ≤ 8000 by omega)
  have u2 := l2.mono (show B + 1 ≤ 8000 by omega)
  have u4 := l4.mono (show B + B ≤ 8000 by omega)
  have u5 := l5.mono (show B + B ≤ 8000 by omega)
  refine ⟨r1, r2, r3, r4, r5, r6, r7, la, lb, lc, l1.ok, l2.ok, l3.ok, l4.ok, l5.ok, l6.ok, l7.ok, ?_, ?_, ?_, ?_, ?_, ?_, ?_, ?_, ?_, ?_, ?_, ?_⟩
  · rw [add_cfm (-1300) 8000 (by decide) a b (up la) (up lb), e1]
  · rw [add_cfm (-1300) 8000 (by decide) b a (up lb) (up la), Int.add_comm, e1]
  · rw [add_cfm (-1300) 8000 (by decide) b c (up lb) (up lc), e2]
  · rw [add_cfm (-1300) 8000 (by decide) r1 c u1 (up lc), e3]
  · rw [add_cfm (-1300) 8000 (by decide) a r2 (up la) u2, z2, ← e3, z1, Int.add_assoc]
  · rw [sub_cfm (-1300) 8000 (by decide) r1 b u1 (up lb), z1, Int.add_sub_cancel]
    exact vz_cfm (-1300) a.neg a.mag a.exp la.ok la.low
  · rw [mul_cfm (-1300) 8000 (by decide) (by decide) (by decide) a b (up la) (up lb), e4]
  · rw [mul_cfm (-1300) 8000 (by decide) (by decide) (by decide) a c (up la) (up lc), e5]
  · rw [mul_cfm (-1300) 8000 (by decide) (by decide) (by decide) a r2 (up la) u2, e6]
  · rw [add_cfm (-1300 + -1300) 8000 (by decide) r4 r5 u4 u5, z4, z5, ← e6, z2, Int.mul_add]
  · rw [sub_cfm (-1300) 8000 (by decide) a b (up la) (up lb), e7]
  · rw [sgz_vz (-1300) r7 l7.ok, z7, cz_sub]

/-! ### Calls whose numbers lie somewhere -/
def Lay (u : World) (p : Nat) (ao : Option Addr) (c : Nat) (r : Nm) : Prop := ((u.cell? ⟨p, 0, none⟩ = some (.bool r.neg) ∧ u.cell? ⟨p, 1, none⟩ = some (.slice ao r.mag.length c)) ∧ u.cell? ⟨p, 2, none⟩ = some (.int .i64 r.exp)) ∧ Sl u (.slice ao r.mag.length c) r.mag
theorem lay_new {w0 w : World} {v : Value} {r : Nm} (h : New w0 w v r) : ∃ ao c, v = .agg #[.bool r.neg, .slice ao r.mag.length c, .int .i64 r.exp] ∧ Sl w (.slice ao r.mag.length c) r.mag := by
  obtain ⟨s, e, hs⟩ := h.numAt
  have hs' := hs
  obtain ⟨ao, c, e2, -⟩ := hs'
  subst e2
  exact ⟨ao, c, e, hs⟩
theorem lay_alloc {X u : World} {ao : Option Addr} {c : Nat} {r : Nm} (hs : Sl X (.slice ao r.mag.length c) r.mag) (k : Kept (X.alloc (.cells #[.bool r.neg, .slice ao r.mag.length c, .int .i64 r.exp] 26)) u) : Lay u X.heap.size ao c r :=
  ⟨⟨⟨(laid_cell k 0).trans (by simp [go_sem]), (laid_cell k 1).trans (by simp [go_sem])⟩, (laid_cell k 2).trans (by simp [go_sem])⟩, (hs.kept ((Kept.refl X).alloc _ _)).kept k⟩
theorem add_at (X : World) (hT : Tab X) (a b r : Nm) (ha : vld a = true) (hb : vld b = true) (a1 a2 : Option Addr) (c1 c2 : Nat) (h1 : Sl X (.slice a1 a.mag.length c1) a.mag) (h2 : Sl X (.slice a2 b.mag.length c2) b.mag) (hr : addZ a b = some r) : Calls Tryd.prog 8 #[.agg #[.bool a.neg, .slice a1 a.mag.length c1, .int .i64 a.exp], .agg #[.bool b.neg, .slice a2 b.mag.length c2, .int .i64 b.exp]] X fun e w' => ∃ ao c, e = .returned (.tuple #[.agg #[.bool r.neg, .slice ao r.mag.length c, .int .i64 r.exp], .int .i64 0]) ∧ Sl w' (.slice ao r.mag.length c) r.mag ∧ Kept X w' := by
  refine (addz_ok X hT a.neg a.mag a.exp ha a1 c1 b.neg b.mag b.exp hb a2 c2 h1 h2 r hr).mono ?_
  rintro e w' ⟨v, rfl, hN, hk⟩
  obtain ⟨ao, c, rfl, hs⟩ := lay_new hN
  exact ⟨ao, c, rfl, hs, hk⟩
theorem mul_at (X : World) (hT : Tab X) (a b r : Nm) (ha : vld a = true) (hb : vld b = true) (a1 a2 : Option Addr) (c1 c2 : Nat) (h1 : Sl X (.slice a1 a.mag.length c1) a.mag) (h2 : Sl X (.slice a2 b.mag.length c2) b.mag) (hr : mulN a b = some r) : Calls Tryd.prog 9 #[.agg #[.bool a.neg, .slice a1 a.mag.length c1, .int .i64 a.exp], .agg #[.bool b.neg, .slice a2 b.mag.length c2, .int .i64 b.exp]] X fun e w' => ∃ ao c, e = .returned (.tuple #[.agg #[.bool r.neg, .slice ao r.mag.length c, .int .i64 r.exp], .int .i64 0]) ∧ Sl w' (.slice ao r.mag.length c) r.mag ∧ Kept X w' := by
  refine (mulz_ok X hT a.neg a.mag a.exp ha a1 c1 b.neg b.mag b.exp hb a2 c2 h1 h2 r hr).mono ?_
  rintro e w' ⟨v, rfl, hN, hk⟩
  obtain ⟨ao, c, rfl, hs⟩ := lay_new hN
  exact ⟨ao, c, rfl, hs, hk⟩

end Go.Proofs.YtalhnaakbekboaaDoor

namespace Go.Proofs.YtalhnaakbekboaaDoor
open Go.ChangeShapes Go.WideShapes Go.ChangeAt Go.RowKit
set_option linter.unusedVariables false
set_option linter.unusedSimpArgs false

theorem valid_at (X : World) (a : Nm) (ha : vld a = true) (a1 : Option Addr) (c1 : Nat) (h1 : Sl X (.slice a1 a.mag.length c1) a.mag) : Calls Tryd.prog 79 #[.agg #[.bool a.neg, .slice a1 a.mag.length c1, .int .i64 a.exp]] X fun e w' => e = .returned (.bool true) ∧ Kept X w' := by
  have hd := vld_dg a.neg a.mag a.exp ha
  have := xvalid_any a hd.2.rg (by omega) (.agg #[.bool a.neg, .slice a1 a.mag.length c1, .int .i64 a.exp]) X ⟨_, rfl, h1⟩
  rw [ha] at this
  exact this
theorem tmod_1300 (x : Int) : -1300 ≤ x.tmod 1300 ∧ x.tmod 1300 ≤ 1300 := by
  have h1 := Int.natAbs_tmod x 1300
  have h2 : x.natAbs % (1300 : Int).natAbs < 1300 := Nat.mod_lt _ (by decide)
  omega
end Go.Proofs.YtalhnaakbekboaaDoor
