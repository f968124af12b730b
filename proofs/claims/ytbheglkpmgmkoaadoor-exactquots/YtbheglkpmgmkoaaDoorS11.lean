/- The ring's laws by values; the laws' own num. The walk of the statement on the ring. -/
import Derived.Test.YtbheglkpmgmkoaaDoorS8
import Derived.Test.YtbheglkpmgmkoaaDoorU1
import Derived.Test.YtbheglkpmgmkoaaDoorQ9
namespace Go.Proofs.YtbheglkpmgmkoaaDoor
open Go.ChangeShapes Go.WideShapes Go.ChangeAt Go.RowKit
set_option linter.unusedVariables false
set_option linter.unusedSimpArgs false

theorem Lies.mono {s : Int} {B C : Nat} {a : Nm} (h : Lies s B a) (hBC : B ≤ C) : Lies s C a := ⟨h.ok, h.low, Nat.lt_of_lt_of_le h.lt (Nat.pow_le_pow_right (by decide) hBC)⟩
theorem vz_ng (s : Int) (a : Nm) : vz s (ng a) = -vz s a := by
  unfold vz ng
  dsimp only
  cases a.neg <;> simp [sg]
theorem sub_cfm (s : Int) (B : Nat) (hB : B ≤ 60000) (a b : Nm) (ha : Lies s B a) (hb : Lies s B b) : addZ a (ng b) = cfm (vz s a - vz s b) s := by
  by_cases hne : b.mag = []
  · obtain ⟨n2, L2, x2⟩ := b
    dsimp only at hne
    subst hne
    obtain ⟨n1, L1, x1⟩ := a
    rw [vz_nil, Int.sub_zero, vz_cfm s n1 L1 x1 ha.ok ha.low]
    unfold addZ ng
    dsimp only
    by_cases h1 : L1 = []
    · subst h1
      obtain ⟨rfl, rfl⟩ := vld_nil _ _ ha.ok
      simp
    · simp [h1]
  · have hb' : Lies s B (ng b) := ⟨vld_ng b.neg b.mag b.exp hb.ok hne, hb.low, by rw [vz_ng, Int.natAbs_neg]; exact hb.lt⟩
    rw [add_cfm s B hB a (ng b) ha hb', vz_ng, Int.sub_eq_add_neg]
theorem frm_cfm (n : Bool) (v : Nat) (y : Int) : frm n v y = cfm (sg n (v : Int)) y := by
  by_cases h : v = 0
  · subst h
    rw [show sg n ((0 : Nat) : Int) = 0 by cases n <;> rfl, cfm_zero]
    simp [frm]
  · have hsg := sg_neg n (v : Int) (by omega)
    unfold cfm
    rw [hsg.1, hsg.2, Int.toNat_natCast]
theorem num_lies (p q B : Nat) (hp : p = 600) (hq : q = 2600) (hB : B = p + q) (n : Bool) (M : List Int) (hM : Dg M) (hl : M.length ≤ 20) (y : Int) (h1 : -1300 ≤ y) (h2 : y ≤ 1300) : ∃ r, frm n (nv M) y = some r ∧ Lies (-1300) B r := by
  have hlt := nv_lt M hM
  have h6 : nv M < 2 ^ p := Nat.lt_of_lt_of_le hlt (Nat.pow_le_pow_right (by decide) (by omega))
  have hk : (sg n (nv M : Int) * 2 ^ (y + 1300).toNat).natAbs < 2 ^ B := by
    rw [Int.natAbs_mul]
    have e1 : (sg n (nv M : Int)).natAbs = nv M := by cases n <;> simp [sg]
    have e2 : ((2 : Int) ^ (y + 1300).toNat).natAbs = 2 ^ (y + 1300).toNat := by rw [Int.natAbs_pow]; rfl
    rw [e1, e2, hB, Nat.pow_add]
    have e3 : (2 : Nat) ^ (y + 1300).toNat ≤ 2 ^ q := Nat.pow_le_pow_right (by decide) (by omega)
    exact Nat.mul_lt_mul_of_lt_of_le h6 e3 (Nat.two_pow_pos _)
  obtain ⟨r, hr, hL, -⟩ := cfm_lies (-1300) B (by omega) (by decide) (by decide) _ hk
  refine ⟨r, ?_, hL⟩
  rw [frm_cfm, ← hr, cfm_shift]
  congr 1
  omega
theorem abs_add_lt (a b : Int) (n : Nat) (ha : a.natAbs < 2 ^ n) (hb : b.natAbs < 2 ^ n) : (a + b).natAbs < 2 ^ (n + 1) := by
  have := Int.natAbs_add_le a b
  rw [Nat.pow_succ]
  omega
theorem abs_sub_lt (a b : Int) (n : Nat) (ha : a.natAbs < 2 ^ n) (hb : b.natAbs < 2 ^ n) : (a - b).natAbs < 2 ^ (n + 1) := by
  rw [Int.sub_eq_add_neg]
  exact abs_add_lt a (-b) n ha (by rw [Int.natAbs_neg]; exact hb)
theorem abs_mul_lt (a b : Int) (n m : Nat) (ha : a.natAbs < 2 ^ n) (hb : b.natAbs < 2 ^ m) : (a * b).natAbs < 2 ^ (n + m) := by
  rw [Int.natAbs_mul, Nat.pow_add]
  exact Nat.mul_lt_mul'' ha hb
/-! ### Calls whose numbers lie somewhere -/
def Lay (u : World) (p : Nat) (ao : Option Addr) (c : Nat) (r : Nm) : Prop := ((u.cell? ⟨p, 0, none⟩ = some (.bool r.neg) ∧ u.cell? ⟨p, 1, none⟩ = some (.slice ao r.mag.length c)) ∧ u.cell? ⟨p, 2, none⟩ = some (.int .i64 r.exp)) ∧ Sl u (.slice ao r.mag.length c) r.mag
theorem lay_new {w0 w : World} {v : Value} {r : Nm} (h : New w0 w v r) : ∃ ao c, v = .agg #[.bool r.neg, .slice ao r.mag.length c, .int .i64 r.exp] ∧ Sl w (.slice ao r.mag.length c) r.mag := by
  obtain ⟨s, e, hs⟩ := h.numAt
  have hs' := hs
  obtain ⟨ao, c, e2, -⟩ := hs'
  subst e2
  exact ⟨ao, c, e, hs⟩
theorem lay_alloc {X u : World} {ao : Option Addr} {c : Nat} {r : Nm} (hs : Sl X (.slice ao r.mag.length c) r.mag) (k : Kept (X.alloc (.cells #[.bool r.neg, .slice ao r.mag.length c, .int .i64 r.exp] 24)) u) : Lay u X.heap.size ao c r :=
  ⟨⟨⟨(laid_cell k 0).trans (by simp [go_sem]), (laid_cell k 1).trans (by simp [go_sem])⟩, (laid_cell k 2).trans (by simp [go_sem])⟩, (hs.kept ((Kept.refl X).alloc _ _)).kept k⟩
theorem sub_at (X : World) (hT : Tab X) (a b r : Nm) (ha : vld a = true) (hb : vld b = true) (a1 a2 : Option Addr) (c1 c2 : Nat) (h1 : Sl X (.slice a1 a.mag.length c1) a.mag) (h2 : Sl X (.slice a2 b.mag.length c2) b.mag) (hr : addZ a (ng b) = some r) : Calls Tryd.prog 16 #[.agg #[.bool a.neg, .slice a1 a.mag.length c1, .int .i64 a.exp], .agg #[.bool b.neg, .slice a2 b.mag.length c2, .int .i64 b.exp]] X fun e w' => ∃ ao c, e = .returned (.tuple #[.agg #[.bool r.neg, .slice ao r.mag.length c, .int .i64 r.exp], .int .i64 0]) ∧ Sl w' (.slice ao r.mag.length c) r.mag ∧ Kept X w' := by
  refine (subz_ok X hT a.neg a.mag a.exp ha a1 c1 b.neg b.mag b.exp hb a2 c2 h1 h2 r hr).mono ?_
  rintro e w' ⟨v, rfl, hN, hk⟩
  obtain ⟨ao, c, rfl, hs⟩ := lay_new hN
  exact ⟨ao, c, rfl, hs, hk⟩
theorem mul_at (X : World) (hT : Tab X) (a b r : Nm) (ha : vld a = true) (hb : vld b = true) (a1 a2 : Option Addr) (c1 c2 : Nat) (h1 : Sl X (.slice a1 a.mag.length c1) a.mag) (h2 : Sl X (.slice a2 b.mag.length c2) b.mag) (hr : mulN a b = some r) : Calls Tryd.prog 23 #[.agg #[.bool a.neg, .slice a1 a.mag.length c1, .int .i64 a.exp], .agg #[.bool b.neg, .slice a2 b.mag.length c2, .int .i64 b.exp]] X fun e w' => ∃ ao c, e = .returned (.tuple #[.agg #[.bool r.neg, .slice ao r.mag.length c, .int .i64 r.exp], .int .i64 0]) ∧ Sl w' (.slice ao r.mag.length c) r.mag ∧ Kept X w' := by
  refine (mulz_ok X hT a.neg a.mag a.exp ha a1 c1 b.neg b.mag b.exp hb a2 c2 h1 h2 r hr).mono ?_
  rintro e w' ⟨v, rfl, hN, hk⟩
  obtain ⟨ao, c, rfl, hs⟩ := lay_new hN
  exact ⟨ao, c, rfl, hs, hk⟩

end Go.Proofs.YtbheglkpmgmkoaaDoor

namespace Go.Proofs.YtbheglkpmgmkoaaDoor
open Go.ChangeShapes Go.WideShapes Go.ChangeAt Go.RowKit
set_option linter.unusedVariables false
set_option linter.unusedSimpArgs false

theorem cmp_at (s : Int) (X : World) (a b : Nm) (ha : vld a = true) (hb : vld b = true) (ga : a.mag ≠ [] → s ≤ a.exp) (gb : b.mag ≠ [] → s ≤ b.exp) (a1 a2 : Option Addr) (c1 c2 : Nat) (h1 : Sl X (.slice a1 a.mag.length c1) a.mag) (h2 : Sl X (.slice a2 b.mag.length c2) b.mag) (G : Int) (hG : cz (vz s a) (vz s b) = G) : Calls Tryd.prog 17 #[.agg #[.bool a.neg, .slice a1 a.mag.length c1, .int .i64 a.exp], .agg #[.bool b.neg, .slice a2 b.mag.length c2, .int .i64 b.exp]] X fun e w' => e = .returned (.tuple #[.int .i64 G, .int .i64 0]) ∧ Kept X w' := by
  have := cmp_any s X a.neg a.mag a.exp ha a1 c1 b.neg b.mag b.exp hb a2 c2 ga gb h1 h2
  rw [hG] at this
  exact this
theorem tmod_1300 (x : Int) : -1300 ≤ x.tmod 1300 ∧ x.tmod 1300 ≤ 1300 := by
  have h1 := Int.natAbs_tmod x 1300
  have h2 : x.natAbs % (1300 : Int).natAbs < 1300 := Nat.mod_lt _ (by decide)
  omega
end Go.Proofs.YtbheglkpmgmkoaaDoor
