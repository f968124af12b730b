/- The sum of any two numbers, noughts too. -/
import Derived.Test.YtkmengfmiamdaaaDoorD16
import Derived.Test.YtkmengfmiamdaaaDoorD15
import Derived.Test.YtkmengfmiamdaaaDoorD11
namespace Go.Proofs.YtkmengfmiamdaaaDoor
open Go.ChangeShapes Go.WideShapes Go.ChangeAt Go.RowKit
set_option linter.unusedVariables false
set_option linter.unusedSimpArgs false

def addZ (a b : Nm) : Option Nm := if a.mag = [] then (if b.mag = [] then some ⟨false, [], 0⟩ else some b) else if b.mag = [] then some a else addN a b

theorem sg_neg (n : Bool) (a : Int) (h : 0 < a) : decide (sg n a < 0) = n ∧ (sg n a).natAbs = a.toNat := by
  cases n <;> simp [sg] <;> omega

theorem wrap64_id (x : Int) (h1 : -1048576 ≤ x) (h2 : x ≤ 1048576) : wrap64 x = x := by unfold wrap64; omega
theorem vld_zero (n : Bool) (L : List Int) (x : Int) (h : vld ⟨n, L, x⟩ = true) : L = [] → x = 0 := by
  rintro rfl
  simp [vld] at h
  exact h.2

/-- A number that lies alone in its columns. -/
theorem alone (n1 : Bool) (L1 : List Int) (x1 : Int) (hne1 : L1 ≠ []) (hv1 : vld ⟨n1, L1, x1⟩ = true) (n : Nat) (hn : L1.length < n) (C : List Int) (hC : layL (List.replicate n 0) 0 (dsh n1 0 L1) = C) :
    C.length = n ∧ (∀ j, -2147483648 ≤ C.getD j 0 ∧ C.getD j 0 ≤ 2147483648) ∧ cv C = sg n1 (nv L1) ∧ -(2 : Int) ^ (30 * n) < sg n1 (nv L1) ∧ sg n1 (nv L1) < (2 : Int) ^ (30 * n) ∧ frm (decide (sg n1 (nv L1) < 0)) (sg n1 (nv L1)).natAbs x1 = some ⟨n1, L1, x1⟩ := by
  obtain ⟨p1, p2, p3, p4, p5, p6⟩ := vld_some n1 L1 x1 hne1 hv1
  have l1 := List.length_pos_iff.2 hne1
  have b1 := len_bl L1 p2 hne1 p3
  have hpos : 0 < nv L1 := by
    rcases Nat.eq_zero_or_pos (nv L1) with h | h
    · exact absurd ((nv_zero L1 p2).1 h (L1.length - 1)) p3
    · exact h
  have hsg := sg_neg n1 (nv L1 : Int) (by omega)
  have hlt := nv_lt L1 p2
  have hP := pow_le_int (30 * L1.length) (30 * n) (by omega)
  have e : ((2 ^ (30 * L1.length) : Nat) : Int) = (2 : Int) ^ (30 * L1.length) := by rw [Int.natCast_pow]; rfl
  have hlt2 : (nv L1 : Int) < (2 : Int) ^ (30 * L1.length) := by rw [← e]; omega
  have hS := sg_abs n1 (nv L1 : Int) _ (by omega) hlt2
  refine ⟨by rw [← hC, layL_length, List.length_replicate], ?_, ?_, by omega, by omega, ?_⟩
  · have := layL_bound (List.replicate n 0) 0 (dsh n1 0 L1) 0 (by omega) (by rw [dsh_length, List.length_replicate]; omega) (dsh_bound n1 0 (by omega) L1 p2) (fun j _ => by rw [getD_replicate]; omega) (by rw [getD_replicate]; omega) (fun j _ => by rw [getD_replicate]; omega)
    rw [hC] at this
    intro j
    have := this j
    omega
  · rw [← hC, layL_val _ _ _ (by rw [dsh_length, List.length_replicate]; omega), nv_replicate, dsh_val _ _ _ p2]
    simp
  · rw [hsg.1, hsg.2, Int.toNat_natCast]
    rw [frm_odd n1 n1 L1 x1 x1 hne1 hv1, wrap64_id x1 p5 p6, if_pos ⟨p5, p6⟩]

theorem sum_any (w : World) (T : Nat) (hTw : T < w.heap.size) (hTab : Tab w)
    (n1 : Bool) (L1 : List Int) (x1 : Int) (hv1 : L1 ≠ [] → vld ⟨n1, L1, x1⟩ = true) (hz1 : L1 = [] → x1 = 0) (a1 : Option Addr) (c1 : Nat) (h1 : Sl w (.slice a1 L1.length c1) L1)
    (n2 : Bool) (L2 : List Int) (x2 : Int) (hv2 : L2 ≠ [] → vld ⟨n2, L2, x2⟩ = true) (hz2 : L2 = [] → x2 = 0) (a2 : Option Addr) (c2 : Nat) (h2 : Sl w (.slice a2 L2.length c2) L2)
    (d0 : w.cell? ⟨T, 0, none⟩ = some (.bool n1)) (d1 : w.cell? ⟨T, 1, none⟩ = some (.slice a1 L1.length c1)) (d2 : w.cell? ⟨T, 2, none⟩ = some (.int .i64 x1))
    (d3 : w.cell? ⟨T, 3, none⟩ = some (.bool n2)) (d4 : w.cell? ⟨T, 4, none⟩ = some (.slice a2 L2.length c2)) (d5 : w.cell? ⟨T, 5, none⟩ = some (.int .i64 x2)) (Res : Option Nm) (hRes : addZ ⟨n1, L1, x1⟩ ⟨n2, L2, x2⟩ = Res) :
    Calls Tryd.prog 41 #[.slice (some ⟨T, 0, none⟩) 2 2] w fun e w' => ToldR Res w w' e ∧ Kept w w' := by
  unfold addZ at hRes
  dsimp only at hRes
  by_cases e1 : L1 = []
  · rw [if_pos e1] at hRes
    by_cases e2 : L2 = []
    · rw [if_pos e2] at hRes
      have hx1 := hz1 e1
      have hx2 := hz2 e2
      subst e1 e2 hx1 hx2
      refine sum_EE w T hTw n1 a1 0 c1 0 0 (by omega) (by omega) rfl n2 a2 0 c2 0 0 (by omega) (by omega) rfl (List.replicate 2 0) (List.replicate 2 0) rfl rfl Res ?_ d0 d1 d2 d3 d4 d5
      intro u0 u g k0 k1 hg ho
      exact settled_any u 2 2 g 1048576 (List.replicate 2 0) (by simp) (by omega) (fun j => by rw [getD_replicate]; omega) 0 (nv_replicate 2) (by decide) (by decide) u0 (hTab.kept k0) k1 hg ho Res (by rw [← hRes]; simp [frm])
    · rw [if_neg e2] at hRes
      have hx1 := hz1 e1
      have hv := hv2 e2
      obtain ⟨q1, q2, q3, q4, q5, q6⟩ := vld_some n2 L2 x2 e2 hv
      have b2 := len_bl L2 q2 e2 q3
      have l2 := List.length_pos_iff.2 e2
      have KT2 : Hid (∀ u, Kept w u → Calls Tryd.prog 72 #[.agg #[.bool n2, .slice a2 L2.length c2, .int .i64 x2]] u fun e w' => e = .returned (.int .i64 (x2 + (bl (nv L2) : Int))) ∧ Kept u w') := fun u k => top_any n2 L2 ⟨q2, fun _ => q3⟩ (by omega) a2 c2 x2 q5 q6 u (h2.kept k)
      subst e1 hx1
      obtain ⟨n, hn⟩ : ∃ n : Nat, ((bl (nv L2) : Nat) : Int) / 30 + 2 = (n : Int) := ⟨bl (nv L2) / 30 + 2, by omega⟩
      obtain ⟨C, hC⟩ : ∃ C, layL (List.replicate n 0) 0 (dsh n2 0 L2) = C := ⟨_, rfl⟩
      obtain ⟨lC, bC, vC, tC1, tC2, fC⟩ := alone n2 L2 x2 e2 hv n (by omega) C hC
      refine sum_EN w T hTw n1 a1 0 c1 0 0 (by omega) (by omega) rfl n2 a2 L2.length c2 x2 _ ⟨q5, q6⟩ ⟨by omega, by omega⟩ l2 (by omega) KT2 (bl (nv L2)) n (by omega) (by omega) hn (List.replicate n 0) C rfl ?_ Res ?_ d0 d1 d2 d3 d4 d5
      · intro u g k hg ho
        obtain ⟨ao, cap, e, hc, hm, hr⟩ := h2.kept k
        cases e
        obtain ⟨b, off, rfl, hb, hr⟩ := hr e2
        obtain ⟨ao', cap', e', -, -, hr0⟩ := h2
        cases e'
        obtain ⟨b', off', e2', hb', -⟩ := hr0 e2
        cases e2'
        have := lay_some (List.replicate n 0) g n n2 L2 q2 b off c2 x2 0 0 0 (by omega) (by omega) (by rw [List.length_replicate]; omega) (by rw [List.length_replicate]; omega) (fun j => by rw [getD_replicate]; omega) (by omega) u hb hr ho
        rw [List.length_replicate, hC] at this
        exact this
      · intro u0 u g k0 k1 hg ho
        exact settled_any u n n g x2 C lC (by omega) (fun j => by have := bC j; omega) _ vC tC1 tC2 u0 (hTab.kept k0) k1 hg ho Res (by rw [← hRes]; exact fC)
  · rw [if_neg e1] at hRes
    by_cases e2 : L2 = []
    · rw [if_pos e2] at hRes
      have hx2 := hz2 e2
      have hv := hv1 e1
      obtain ⟨q1, q2, q3, q4, q5, q6⟩ := vld_some n1 L1 x1 e1 hv
      have b2 := len_bl L1 q2 e1 q3
      have l2 := List.length_pos_iff.2 e1
      have KT1 : Hid (∀ u, Kept w u → Calls Tryd.prog 72 #[.agg #[.bool n1, .slice a1 L1.length c1, .int .i64 x1]] u fun e w' => e = .returned (.int .i64 (x1 + (bl (nv L1) : Int))) ∧ Kept u w') := fun u k => top_any n1 L1 ⟨q2, fun _ => q3⟩ (by omega) a1 c1 x1 q5 q6 u (h1.kept k)
      subst e2 hx2
      obtain ⟨n, hn⟩ : ∃ n : Nat, ((bl (nv L1) : Nat) : Int) / 30 + 2 = (n : Int) := ⟨bl (nv L1) / 30 + 2, by omega⟩
      obtain ⟨C, hC⟩ : ∃ C, layL (List.replicate n 0) 0 (dsh n1 0 L1) = C := ⟨_, rfl⟩
      obtain ⟨lC, bC, vC, tC1, tC2, fC⟩ := alone n1 L1 x1 e1 hv n (by omega) C hC
      refine sum_NE w T hTw n1 a1 L1.length c1 x1 _ ⟨q5, q6⟩ ⟨by omega, by omega⟩ l2 (by omega) KT1 n2 a2 0 c2 0 0 (by omega) (by omega) rfl (bl (nv L1)) n (by omega) (by omega) hn C C ?_ rfl Res ?_ d0 d1 d2 d3 d4 d5
      · intro u g k hg ho
        obtain ⟨ao, cap, e, hc, hm, hr⟩ := h1.kept k
        cases e
        obtain ⟨b, off, rfl, hb, hr⟩ := hr e1
        obtain ⟨ao', cap', e', -, -, hr0⟩ := h1
        cases e'
        obtain ⟨b', off', e2', hb', -⟩ := hr0 e1
        cases e2'
        have := lay_some (List.replicate n 0) g n n1 L1 q2 b off c1 x1 0 0 0 (by omega) (by omega) (by rw [List.length_replicate]; omega) (by rw [List.length_replicate]; omega) (fun j => by rw [getD_replicate]; omega) (by omega) u hb hr ho
        rw [List.length_replicate, hC] at this
        exact this
      · intro u0 u g k0 k1 hg ho
        exact settled_any u n n g x1 C lC (by omega) (fun j => by have := bC j; omega) _ vC tC1 tC2 u0 (hTab.kept k0) k1 hg ho Res (by rw [← hRes]; exact fC)
    · rw [if_neg e2] at hRes
      exact sum_main w T hTw hTab n1 L1 x1 e1 (hv1 e1) a1 c1 h1 n2 L2 x2 e2 (hv2 e2) a2 c2 h2 d0 d1 d2 d3 d4 d5 Res hRes
end Go.Proofs.YtkmengfmiamdaaaDoor
