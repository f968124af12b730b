/- exact's Cmp, product and Mul of any two numbers. -/
import Derived.Test.YtjdehcndejejcaaDoorS7
import Derived.Test.YtjdehcndejejcaaDoorS2
namespace Go.Proofs.YtjdehcndejejcaaDoor
open Go.ChangeShapes Go.WideShapes Go.ChangeAt Go.RowKit
set_option linter.unusedVariables false
set_option linter.unusedSimpArgs false

def sgz (n : Bool) (L : List Int) : Int := if L.length = 0 then 0 else if n = true then -1 else 1
theorem sgz_nil (n : Bool) : sgz n [] = 0 := rfl
theorem sgz_some (n : Bool) (L : List Int) (h : L ≠ []) : sgz n L = if n = true then -1 else 1 := by rw [sgz, if_neg (fun g => h (List.length_eq_zero_iff.1 g))]
theorem vz_nat (s : Int) (n : Bool) (L : List Int) (x : Int) : vz s ⟨n, L, x⟩ = sg n ((nv L * 2 ^ (x - s).toNat : Nat) : Int) := by
  unfold vz
  rw [Int.natCast_mul, Int.natCast_pow]
  rfl
theorem vz_pos (s : Int) (n : Bool) (L : List Int) (x : Int) (hne : L ≠ []) (hv : vld ⟨n, L, x⟩ = true) : 0 < nv L * 2 ^ (x - s).toNat := Nat.mul_pos (nv_pos_of n L x hne hv) (Nat.two_pow_pos _)
theorem cz_range (a b : Int) : cz a b = -1 ∨ cz a b = 0 ∨ cz a b = 1 := by unfold cz; split <;> (try split) <;> omega

theorem cmp_any (s : Int) (w : World) (n1 : Bool) (L1 : List Int) (x1 : Int) (hv1 : vld ⟨n1, L1, x1⟩ = true) (a1 : Option Addr) (c1 : Nat) (n2 : Bool) (L2 : List Int) (x2 : Int) (hv2 : vld ⟨n2, L2, x2⟩ = true) (a2 : Option Addr) (c2 : Nat) (g1 : L1 ≠ [] → s ≤ x1) (g2 : L2 ≠ [] → s ≤ x2)  (h1 : Sl w (.slice a1 L1.length c1) L1) (h2 : Sl w (.slice a2 L2.length c2) L2) : Calls Tryd.prog 15 #[.agg #[.bool n1, .slice a1 L1.length c1, .int .i64 x1], .agg #[.bool n2, .slice a2 L2.length c2, .int .i64 x2]] w fun e w' => e = .returned (.tuple #[.int .i64 (cz (vz s ⟨n1, L1, x1⟩) (vz s ⟨n2, L2, x2⟩)), .int .i64 0]) ∧ Kept w w' := by
  have hK : Kept w (((w.alloc (.cells #[.bool n1, .slice a1 L1.length c1, .int .i64 x1] 31)).alloc (.cells #[.bool n2, .slice a2 L2.length c2, .int .i64 x2] 31)).alloc (.cells (pairC n1 (.slice a1 L1.length c1) x1 n2 (.slice a2 L2.length c2) x2) 31)) := (((Kept.refl w).alloc _ _).alloc _ _).alloc _ _
  have hd1 := vld_dg _ _ _ hv1
  have hd2 := vld_dg _ _ _ hv2
  have hx : ∀ (n : Bool) (L : List Int) (x : Int), vld ⟨n, L, x⟩ = true → -1048576 ≤ x ∧ x ≤ 1048576 := by
    intro n L x h
    by_cases e : L = []
    · subst e
      obtain ⟨-, rfl⟩ := vld_nil _ _ h
      omega
    · have := vld_some n L x e h
      omega
  refine cmp_walk n1 n2 a1 a2 L1.length c1 L2.length c2 x1 x2 (sgz n1 L1) (sgz n2 L2) (if L1 = [] then 0 else cz ((nv L1 * 2 ^ (x1 - s).toNat : Nat) : Int) ((nv L2 * 2 ^ (x2 - s).toNat : Nat) : Int)) _ ?_ ?_ w ?_ (fun u k => signOf_any n1 a1 L1.length c1 x1 u) (fun u k => signOf_any n2 a2 L2.length c2 x2 u) ?_ ?_ ?_
  · unfold sgz; split <;> (try split) <;> omega
  · split
    · omega
    · exact cz_range _ _
  · have := allValid_2 (((w.alloc (.cells #[.bool n1, .slice a1 L1.length c1, .int .i64 x1] 31)).alloc (.cells #[.bool n2, .slice a2 L2.length c2, .int .i64 x2] 31)).alloc (.cells (pairC n1 (.slice a1 L1.length c1) x1 n2 (.slice a2 L2.length c2) x2) 31)) (w.heap.size + 2) 2 n1 n2 a1 a2 L1.length c1 L2.length c2 x1 x2 true true (by simp) (by simp [go_sem]) (by simp [go_sem]) (by simp [go_sem]) (by simp [go_sem]) (by simp [go_sem]) (by simp [go_sem]) (fun v kv => ?_) (fun v kv => ?_)
    · exact this
    · have := xvalid_any ⟨n1, L1, x1⟩ hd1.2.rg (by dsimp only; omega) (.agg #[.bool n1, .slice a1 L1.length c1, .int .i64 x1]) v ⟨_, rfl, (h1.kept hK).kept kv⟩
      rw [hv1] at this
      exact this
    · have := xvalid_any ⟨n2, L2, x2⟩ hd2.2.rg (by dsimp only; omega) (.agg #[.bool n2, .slice a2 L2.length c2, .int .i64 x2]) v ⟨_, rfl, (h2.kept hK).kept kv⟩
      rw [hv2] at this
      exact this
  · intro hG u k
    by_cases e1 : L1 = []
    · subst e1
      by_cases e2 : L2 = []
      · subst e2
        obtain ⟨rfl, rfl⟩ := vld_nil _ _ hv1
        obtain ⟨rfl, rfl⟩ := vld_nil _ _ hv2
        rw [if_pos rfl]
        exact order_nil false false a1 a2 c1 c2 0 0 rfl (by omega) (by omega) u (h1.kept k) (h2.kept k)
      · rw [sgz_nil, sgz_some n2 L2 e2] at hG
        split at hG <;> omega
    · by_cases e2 : L2 = []
      · subst e2
        rw [sgz_nil, sgz_some n1 L1 e1] at hG
        split at hG <;> omega
      · rw [if_neg e1]
        exact order_any s u n1 L1 x1 hv1 a1 c1 n2 L2 x2 hv2 a2 c2 e1 e2 (g1 e1) (g2 e2) (h1.kept k) (h2.kept k)
  · intro hG
    rw [vz_nat, vz_nat]
    by_cases e1 : L1 = []
    · subst e1
      by_cases e2 : L2 = []
      · subst e2
        exact absurd rfl hG
      · have p2 := vz_pos s n2 L2 x2 e2 hv2
        rw [sgz_nil, sgz_some n2 L2 e2]
        generalize nv L2 * 2 ^ (x2 - s).toNat = y at *
        have z0 : sg n1 ((nv [] * 2 ^ (x1 - s).toNat : Nat) : Int) = 0 := by cases n1 <;> simp [sg, nv]
        rw [z0]
        cases n2 <;> simp [sg, cz] <;> omega
    · have p1 := vz_pos s n1 L1 x1 e1 hv1
      by_cases e2 : L2 = []
      · subst e2
        rw [sgz_nil, sgz_some n1 L1 e1]
        generalize nv L1 * 2 ^ (x1 - s).toNat = y at *
        have z0 : sg n2 ((nv [] * 2 ^ (x2 - s).toNat : Nat) : Int) = 0 := by cases n2 <;> simp [sg, nv]
        rw [z0]
        cases n1 <;> simp [sg, cz] <;> omega
      · have p2 := vz_pos s n2 L2 x2 e2 hv2
        rw [sgz_some n1 L1 e1, sgz_some n2 L2 e2] at hG ⊢
        generalize nv L1 * 2 ^ (x1 - s).toNat = y1 at *
        generalize nv L2 * 2 ^ (x2 - s).toNat = y2 at *
        cases n1 <;> cases n2 <;> simp [sg, cz] at hG ⊢ <;> omega
  · intro hG
    rw [vz_nat, vz_nat]
    by_cases e1 : L1 = []
    · subst e1
      rw [sgz_nil, Int.zero_mul]
      have e2 : L2 = [] := by
        by_cases e2 : L2 = []
        · exact e2
        · rw [sgz_nil, sgz_some n2 L2 e2] at hG
          split at hG <;> omega
      subst e2
      have z1 : sg n1 ((nv [] * 2 ^ (x1 - s).toNat : Nat) : Int) = 0 := by cases n1 <;> simp [sg, nv]
      have z2 : sg n2 ((nv [] * 2 ^ (x2 - s).toNat : Nat) : Int) = 0 := by cases n2 <;> simp [sg, nv]
      rw [z1, z2]
      rfl
    · have e2 : L2 ≠ [] := by
        intro e2
        subst e2
        rw [sgz_nil, sgz_some n1 L1 e1] at hG
        split at hG <;> omega
      rw [if_neg e1]
      rw [sgz_some n1 L1 e1, sgz_some n2 L2 e2] at hG
      rw [sgz_some n1 L1 e1]
      generalize nv L1 * 2 ^ (x1 - s).toNat = y1 at *
      generalize nv L2 * 2 ^ (x2 - s).toNat = y2 at *
      cases n1 <;> cases n2 <;> simp [sg, cz] at hG ⊢ <;> (repeat' split) <;> omega

theorem sl_reads {w u : World} {a : Option Addr} {L : List Int} {c : Nat} (h : Sl w (.slice a L.length c) L) (k : Kept w u) (i : Nat) (hi : i < L.length) : ∃ b off, a = some ⟨b, off, none⟩ ∧ u.cell? ⟨b, off + i, none⟩ = some (.int .i64 (L.getD i 0)) := by
  obtain ⟨ao, cap, e, hc, hm, hr⟩ := h.kept k
  cases e
  have hne : L ≠ [] := by
    intro e
    subst e
    simp at hi
  obtain ⟨b, off, rfl, hb, hr⟩ := hr hne
  exact ⟨b, off, rfl, hr i hi⟩

theorem product_any (w : World) (hT : Tab w) (n1 : Bool) (L1 : List Int) (x1 : Int) (hv1 : vld ⟨n1, L1, x1⟩ = true) (a1 : Option Addr) (c1 : Nat) (n2 : Bool) (L2 : List Int) (x2 : Int) (hv2 : vld ⟨n2, L2, x2⟩ = true) (a2 : Option Addr) (c2 : Nat)  (h1 : Sl w (.slice a1 L1.length c1) L1) (h2 : Sl w (.slice a2 L2.length c2) L2) (Res : Option Nm) (hRes : mulN ⟨n1, L1, x1⟩ ⟨n2, L2, x2⟩ = Res) : Calls Tryd.prog 44 #[.agg #[.bool n1, .slice a1 L1.length c1, .int .i64 x1], .agg #[.bool n2, .slice a2 L2.length c2, .int .i64 x2]] w fun e w' => ToldR Res w w' e ∧ Kept w w' := by
  have hb : ∀ (n : Bool) (L : List Int) (x : Int), vld ⟨n, L, x⟩ = true → Dg L ∧ Cn L ∧ bl (nv L) ≤ 60000 ∧ L.length ≤ 2000 ∧ -1048576 ≤ x ∧ x ≤ 1048576 := by
    intro n L x h
    by_cases e : L = []
    · subst e
      obtain ⟨-, rfl⟩ := vld_nil _ _ h
      exact ⟨Dg.nil, ⟨Dg.nil, fun h => absurd rfl h⟩, by simp [nv, bl], by simp, by omega, by omega⟩
    · obtain ⟨p1, p2, p3, p4, p5, p6⟩ := vld_some n L x e h
      have := len_bl L p2 e p3
      exact ⟨p2, ⟨p2, fun _ => p3⟩, by omega, p1, p5, p6⟩
  obtain ⟨d1, k1, b1, l1, p1, q1⟩ := hb n1 L1 x1 hv1
  obtain ⟨d2, k2, b2, l2, p2, q2⟩ := hb n2 L2 x2 hv2
  unfold mulN at hRes
  dsimp only at hRes
  by_cases hfit : (bl (nv L1) : Int) + (bl (nv L2) : Int) - 1 ≤ 60000 ∧ -1048576 ≤ x1 + x2 ∧ x1 + x2 ≤ 1048576
  · rw [if_pos hfit] at hRes
    refine product_walk n1 n2 a1 a2 L1.length c1 L2.length c2 x1 x2 (bl (nv L1)) (bl (nv L2)) _ rfl ⟨p1, q1⟩ ⟨p2, q2⟩ b1 b2 hfit.1 hfit.2.1 hfit.2.2 w l1 l2 L1 L2 rfl rfl d1 d2 (fun u k => length_any L1 k1 (by omega) _ u (h1.kept k)) (fun u k => length_any L2 k2 (by omega) _ u (h2.kept k)) (fun u k i hi => sl_reads h1 k i hi) (fun u k i hi => sl_reads h2 k i hi) Res ?_
    intro u0 u g D k0 k hg ho hD hl hnv
    have hf : frm (!(n1 == n2)) (nv D) (x1 + x2) = Res := by rw [hnv]; exact hRes
    rw [← hl] at ho ⊢
    cases Res with
    | some r =>
      refine (form_ok _ D hD (by omega) g D.length _ u0 u k hg ho ((hT.kept k0).kept k) r hf).mono ?_
      rintro e w' ⟨⟨v, rfl, hN⟩, kk⟩
      exact ⟨⟨v, rfl, hN⟩, kk⟩
    | none =>
      refine (form_no _ D hD (by omega) g D.length _ u ho ((hT.kept k0).kept k) hf).mono ?_
      rintro e w' ⟨rfl, kk⟩
      exact ⟨rfl, k.trans kk⟩
  · rw [if_neg hfit] at hRes
    subst hRes
    refine (product_far n1 n2 a1 a2 L1.length c1 L2.length c2 x1 x2 _ _ ⟨p1, q1⟩ ⟨p2, q2⟩ b1 b2 (by omega) w (fun u k => length_any L1 k1 (by omega) _ u (h1.kept k)) (fun u k => length_any L2 k2 (by omega) _ u (h2.kept k))).mono ?_
    rintro e w' ⟨rfl, kk⟩
    exact ⟨rfl, kk⟩

set_option maxHeartbeats 1000000 in
set_option maxRecDepth 100000 in
theorem mulz_in_ok (w : World) (hT : Tab w) (n1 : Bool) (L1 : List Int) (x1 : Int) (hv1 : vld ⟨n1, L1, x1⟩ = true) (a1 : Option Addr) (c1 : Nat) (n2 : Bool) (L2 : List Int) (x2 : Int) (hv2 : vld ⟨n2, L2, x2⟩ = true) (a2 : Option Addr) (c2 : Nat)  (h1 : Sl w (.slice a1 L1.length c1) L1) (h2 : Sl w (.slice a2 L2.length c2) L2) (r : Nm) (hf : mulN ⟨n1, L1, x1⟩ ⟨n2, L2, x2⟩ = some r) (p q : Nat) (hp : p < w.heap.size) (hq : q < w.heap.size)  (cp0 : w.cell? ⟨p, 0, none⟩ = some (.bool n1)) (cp1 : w.cell? ⟨p, 1, none⟩ = some (.slice a1 L1.length c1)) (cp2 : w.cell? ⟨p, 2, none⟩ = some (.int .i64 x1)) (cq0 : w.cell? ⟨q, 0, none⟩ = some (.bool n2)) (cq1 : w.cell? ⟨q, 1, none⟩ = some (.slice a2 L2.length c2)) (cq2 : w.cell? ⟨q, 2, none⟩ = some (.int .i64 x2)) : Calls Tryd.prog 43 #[.pointer (some ⟨p, 0, none⟩), .pointer (some ⟨q, 0, none⟩)] w fun e w' => (∃ v, e = .returned v ∧ New w w' v r) ∧ Kept w w' := by
  have hK : Kept w (numW w) := (Kept.refl w).alloc _ _
  have KS : Hid (Calls Tryd.prog 44 #[.agg #[.bool n1, .slice a1 L1.length c1, .int .i64 x1], .agg #[.bool n2, .slice a2 L2.length c2, .int .i64 x2]] (numW w) fun e w' => ToldR (some r) (numW w) w' e ∧ Kept (numW w) w') := product_any (numW w) (hT.kept hK) n1 L1 x1 hv1 a1 c1 n2 L2 x2 hv2 a2 c2 (h1.kept hK) (h2.kept hK) (some r) hf
  have ep0 : (numW w).cell? ⟨p, 0, none⟩ = some (.bool n1) := (hK.below.cell (p := ⟨p, 0, none⟩) hp).trans cp0
  have ep1 : (numW w).cell? ⟨p, 1, none⟩ = some (.slice a1 L1.length c1) := (hK.below.cell (p := ⟨p, 1, none⟩) hp).trans cp1
  have ep2 : (numW w).cell? ⟨p, 2, none⟩ = some (.int .i64 x1) := (hK.below.cell (p := ⟨p, 2, none⟩) hp).trans cp2
  have eq0 : (numW w).cell? ⟨q, 0, none⟩ = some (.bool n2) := (hK.below.cell (p := ⟨q, 0, none⟩) hq).trans cq0
  have eq1 : (numW w).cell? ⟨q, 1, none⟩ = some (.slice a2 L2.length c2) := (hK.below.cell (p := ⟨q, 1, none⟩) hq).trans cq1
  have eq2 : (numW w).cell? ⟨q, 2, none⟩ = some (.int .i64 x2) := (hK.below.cell (p := ⟨q, 2, none⟩) hq).trans cq2
  clear h1 h2 hT hf hv1 hv2 cp0 cp1 cp2 cq0 cq1 cq2
  generalize L1.length = l1 at *
  generalize L2.length = l2 at *
  go_enter Tryd.func43, Tryd.ntmps43
  go_wp2_with (first | (go_at_call 44; refine KS.out.mono ?_; rintro e w1 ⟨⟨v, rfl, hN⟩, hk1⟩; obtain ⟨vn, va, vl, vc, vx, rfl⟩ := hN.shape; obtain ⟨f0, f1, f2, f3⟩ := num_cells hk1))
  have := num_done hN hk1 (.bool vn) (.slice va vl vc) (.int .i64 vx)
  exact bodyPost_ret (v := .agg #[.bool vn, .slice va vl vc, .int .i64 vx]) (by simp [results, Tryd.results43, go_sem, f0, f1, f2]) rfl ⟨⟨_, rfl, this.1⟩, this.2⟩

set_option maxHeartbeats 1000000 in
set_option maxRecDepth 100000 in
theorem mulz_in_no (w : World) (hT : Tab w) (n1 : Bool) (L1 : List Int) (x1 : Int) (hv1 : vld ⟨n1, L1, x1⟩ = true) (a1 : Option Addr) (c1 : Nat) (n2 : Bool) (L2 : List Int) (x2 : Int) (hv2 : vld ⟨n2, L2, x2⟩ = true) (a2 : Option Addr) (c2 : Nat)  (h1 : Sl w (.slice a1 L1.length c1) L1) (h2 : Sl w (.slice a2 L2.length c2) L2)  (hf : mulN ⟨n1, L1, x1⟩ ⟨n2, L2, x2⟩ = none) (p q : Nat) (hp : p < w.heap.size) (hq : q < w.heap.size)  (cp0 : w.cell? ⟨p, 0, none⟩ = some (.bool n1)) (cp1 : w.cell? ⟨p, 1, none⟩ = some (.slice a1 L1.length c1)) (cp2 : w.cell? ⟨p, 2, none⟩ = some (.int .i64 x1)) (cq0 : w.cell? ⟨q, 0, none⟩ = some (.bool n2)) (cq1 : w.cell? ⟨q, 1, none⟩ = some (.slice a2 L2.length c2)) (cq2 : w.cell? ⟨q, 2, none⟩ = some (.int .i64 x2)) : Calls Tryd.prog 43 #[.pointer (some ⟨p, 0, none⟩), .pointer (some ⟨q, 0, none⟩)] w fun e w' => e = .panicked gaveUp ∧ Kept w w' := by
  have hK : Kept w (numW w) := (Kept.refl w).alloc _ _
  have KS : Hid (Calls Tryd.prog 44 #[.agg #[.bool n1, .slice a1 L1.length c1, .int .i64 x1], .agg #[.bool n2, .slice a2 L2.length c2, .int .i64 x2]] (numW w) fun e w' => ToldR (none) (numW w) w' e ∧ Kept (numW w) w') := product_any (numW w) (hT.kept hK) n1 L1 x1 hv1 a1 c1 n2 L2 x2 hv2 a2 c2 (h1.kept hK) (h2.kept hK) (none) hf
  have ep0 : (numW w).cell? ⟨p, 0, none⟩ = some (.bool n1) := (hK.below.cell (p := ⟨p, 0, none⟩) hp).trans cp0
  have ep1 : (numW w).cell? ⟨p, 1, none⟩ = some (.slice a1 L1.length c1) := (hK.below.cell (p := ⟨p, 1, none⟩) hp).trans cp1
  have ep2 : (numW w).cell? ⟨p, 2, none⟩ = some (.int .i64 x1) := (hK.below.cell (p := ⟨p, 2, none⟩) hp).trans cp2
  have eq0 : (numW w).cell? ⟨q, 0, none⟩ = some (.bool n2) := (hK.below.cell (p := ⟨q, 0, none⟩) hq).trans cq0
  have eq1 : (numW w).cell? ⟨q, 1, none⟩ = some (.slice a2 L2.length c2) := (hK.below.cell (p := ⟨q, 1, none⟩) hq).trans cq1
  have eq2 : (numW w).cell? ⟨q, 2, none⟩ = some (.int .i64 x2) := (hK.below.cell (p := ⟨q, 2, none⟩) hq).trans cq2
  clear h1 h2 hT hf hv1 hv2 cp0 cp1 cp2 cq0 cq1 cq2
  generalize L1.length = l1 at *
  generalize L2.length = l2 at *
  go_enter Tryd.func43, Tryd.ntmps43
  go_wp2_with (first | (go_at_call 44; refine KS.out.mono ?_; rintro e w1 ⟨hr, hk1⟩; obtain rfl : e = .panicked gaveUp := hr))
  exact ⟨rfl, rfl, hK.trans hk1⟩


set_option maxHeartbeats 1000000 in
set_option maxRecDepth 100000 in
theorem mulz_ok (w : World) (hT : Tab w) (n1 : Bool) (L1 : List Int) (x1 : Int) (hv1 : vld ⟨n1, L1, x1⟩ = true) (a1 : Option Addr) (c1 : Nat) (n2 : Bool) (L2 : List Int) (x2 : Int) (hv2 : vld ⟨n2, L2, x2⟩ = true) (a2 : Option Addr) (c2 : Nat)  (h1 : Sl w (.slice a1 L1.length c1) L1) (h2 : Sl w (.slice a2 L2.length c2) L2) (r : Nm) (hf : mulN ⟨n1, L1, x1⟩ ⟨n2, L2, x2⟩ = some r) : Calls Tryd.prog 14 #[.agg #[.bool n1, .slice a1 L1.length c1, .int .i64 x1], .agg #[.bool n2, .slice a2 L2.length c2, .int .i64 x2]] w fun e w' => ∃ v, e = .returned (.tuple #[v, .int .i64 0]) ∧ New w w' v r ∧ Kept w w' := by
  have hW := addW_kept w #[.bool n1, .slice a1 L1.length c1, .int .i64 x1] #[.bool n2, .slice a2 L2.length c2, .int .i64 x2] (pairC n1 (.slice a1 L1.length c1) x1 n2 (.slice a2 L2.length c2) x2)
  have hd1 := vld_dg _ _ _ hv1
  have hd2 := vld_dg _ _ _ hv2
  have KV : Hid (∀ w', Kept (addW w #[.bool n1, .slice a1 L1.length c1, .int .i64 x1] #[.bool n2, .slice a2 L2.length c2, .int .i64 x2] (pairC n1 (.slice a1 L1.length c1) x1 n2 (.slice a2 L2.length c2) x2)) w' → Calls Tryd.prog 45 #[.slice (some ⟨w.heap.size + 3, 0, none⟩) 2 2] w' fun e w'' => e = .returned (.bool true) ∧ Kept w' w'') := fun u k => by
    have hb : w.heap.size + 3 < (addW w #[.bool n1, .slice a1 L1.length c1, .int .i64 x1] #[.bool n2, .slice a2 L2.length c2, .int .i64 x2] (pairC n1 (.slice a1 L1.length c1) x1 n2 (.slice a2 L2.length c2) x2)).heap.size := by simp
    have := allValid_2 u (w.heap.size + 3) 2 n1 n2 a1 a2 L1.length c1 L2.length c2 x1 x2 true true (Nat.lt_of_lt_of_le hb k.below.size) ((k.below.cell (p := ⟨w.heap.size + 3, 0, none⟩) hb).trans (by simp [go_sem])) ((k.below.cell (p := ⟨w.heap.size + 3, 1, none⟩) hb).trans (by simp [go_sem])) ((k.below.cell (p := ⟨w.heap.size + 3, 2, none⟩) hb).trans (by simp [go_sem])) ((k.below.cell (p := ⟨w.heap.size + 3, 3, none⟩) hb).trans (by simp [go_sem])) ((k.below.cell (p := ⟨w.heap.size + 3, 4, none⟩) hb).trans (by simp [go_sem])) ((k.below.cell (p := ⟨w.heap.size + 3, 5, none⟩) hb).trans (by simp [go_sem])) (fun v kv => ?_) (fun v kv => ?_)
    · exact this
    · have := xvalid_any ⟨n1, L1, x1⟩ hd1.2.rg (by dsimp only; omega) (.agg #[.bool n1, .slice a1 L1.length c1, .int .i64 x1]) v ⟨_, rfl, ((h1.kept hW).kept k).kept kv⟩
      rw [hv1] at this
      exact this
    · have := xvalid_any ⟨n2, L2, x2⟩ hd2.2.rg (by dsimp only; omega) (.agg #[.bool n2, .slice a2 L2.length c2, .int .i64 x2]) v ⟨_, rfl, ((h2.kept hW).kept k).kept kv⟩
      rw [hv2] at this
      exact this
  have KT : Hid (Calls Tryd.prog 39 #[.func (.func 43) #[] #[.pointer (some ⟨w.heap.size, 0, none⟩), .pointer (some ⟨w.heap.size + 1, 0, none⟩)], .slice (some ⟨w.heap.size + 3, 0, none⟩) 2 2] (addW w #[.bool n1, .slice a1 L1.length c1, .int .i64 x1] #[.bool n2, .slice a2 L2.length c2, .int .i64 x2] (pairC n1 (.slice a1 L1.length c1) x1 n2 (.slice a2 L2.length c2) x2)) fun e w' => ∃ v, e = .returned (.tuple #[v, .int .i64 0]) ∧ New (addW w #[.bool n1, .slice a1 L1.length c1, .int .i64 x1] #[.bool n2, .slice a2 L2.length c2, .int .i64 x2] (pairC n1 (.slice a1 L1.length c1) x1 n2 (.slice a2 L2.length c2) x2)) w' v r ∧ Kept (addW w #[.bool n1, .slice a1 L1.length c1, .int .i64 x1] #[.bool n2, .slice a2 L2.length c2, .int .i64 x2] (pairC n1 (.slice a1 L1.length c1) x1 n2 (.slice a2 L2.length c2) x2)) w') := by
    refine told_ok 43 _ (fun w => call_of Tryd.func43 (by kernel_rfl) (by kernel_rfl) _ w) _ r _ KV (fun u k => ?_)
    have hs := k.below.size
    simp only [addW, World.size_alloc] at hs
    exact mulz_in_ok u ((hT.kept hW).kept k) n1 L1 x1 hv1 a1 c1 n2 L2 x2 hv2 a2 c2 ((h1.kept hW).kept k) ((h2.kept hW).kept k) r hf _ _ (by omega) (by omega) ((k.below.cell (p := ⟨w.heap.size, 0, none⟩) (by simp <;> omega)).trans (by simp [go_sem])) ((k.below.cell (p := ⟨w.heap.size, 1, none⟩) (by simp <;> omega)).trans (by simp [go_sem])) ((k.below.cell (p := ⟨w.heap.size, 2, none⟩) (by simp <;> omega)).trans (by simp [go_sem])) ((k.below.cell (p := ⟨w.heap.size + 1, 0, none⟩) (by simp <;> omega)).trans (by simp [go_sem])) ((k.below.cell (p := ⟨w.heap.size + 1, 1, none⟩) (by simp <;> omega)).trans (by simp [go_sem])) ((k.below.cell (p := ⟨w.heap.size + 1, 2, none⟩) (by simp <;> omega)).trans (by simp [go_sem]))
  have hmf : ∀ (fn : Fn) (first cap : Array Value) (w : World), (Instr.makeFunc fn first cap).run Tryd.prog w = .ok (.func fn first cap) w := fun _ _ _ _ => rfl
  clear h1 h2 hT hf hv1 hv2 KV hd1 hd2
  generalize L1.length = l1 at *
  generalize L2.length = l2 at *
  go_enter Tryd.func14, Tryd.ntmps14
  go_wp2_with (first | (go_at_call 39; refine KT.out.mono ?_; rintro e w1 ⟨v, rfl, hN, hk1⟩; obtain ⟨vn, va, vl, vc, vx, rfl⟩ := hN.shape; obtain ⟨f0, f1, f2, f3⟩ := res_cells (w.heap.size + 2) (by simp <;> omega) hk1 (by simp [go_sem]) (by simp [go_sem]) (by simp [go_sem]) (fun o => by simp [go_sem])))
  have := res_done (w.heap.size + 2) (by omega) (by simp <;> omega) hW hN hk1 (.bool vn) (.slice va vl vc) (.int .i64 vx)
  refine bodyPost_ret (v := .tuple #[.agg #[.bool vn, .slice va vl vc, .int .i64 vx], .int .i64 0]) (by simp [results, Tryd.results14, go_sem, f0, f1, f2]) rfl ⟨_, rfl, this.1, this.2⟩

set_option maxHeartbeats 1000000 in
set_option maxRecDepth 100000 in
theorem mulz_no (w : World) (hT : Tab w) (n1 : Bool) (L1 : List Int) (x1 : Int) (hv1 : vld ⟨n1, L1, x1⟩ = true) (a1 : Option Addr) (c1 : Nat) (n2 : Bool) (L2 : List Int) (x2 : Int) (hv2 : vld ⟨n2, L2, x2⟩ = true) (a2 : Option Addr) (c2 : Nat)  (h1 : Sl w (.slice a1 L1.length c1) L1) (h2 : Sl w (.slice a2 L2.length c2) L2)  (hf : mulN ⟨n1, L1, x1⟩ ⟨n2, L2, x2⟩ = none) : Calls Tryd.prog 14 #[.agg #[.bool n1, .slice a1 L1.length c1, .int .i64 x1], .agg #[.bool n2, .slice a2 L2.length c2, .int .i64 x2]] w fun e w' => e = .returned (.tuple #[zeroNum, .int .i64 2]) ∧ Kept w w' := by
  have hW := addW_kept w #[.bool n1, .slice a1 L1.length c1, .int .i64 x1] #[.bool n2, .slice a2 L2.length c2, .int .i64 x2] (pairC n1 (.slice a1 L1.length c1) x1 n2 (.slice a2 L2.length c2) x2)
  have hd1 := vld_dg _ _ _ hv1
  have hd2 := vld_dg _ _ _ hv2
  have KV : Hid (∀ w', Kept (addW w #[.bool n1, .slice a1 L1.length c1, .int .i64 x1] #[.bool n2, .slice a2 L2.length c2, .int .i64 x2] (pairC n1 (.slice a1 L1.length c1) x1 n2 (.slice a2 L2.length c2) x2)) w' → Calls Tryd.prog 45 #[.slice (some ⟨w.heap.size + 3, 0, none⟩) 2 2] w' fun e w'' => e = .returned (.bool true) ∧ Kept w' w'') := fun u k => by
    have hb : w.heap.size + 3 < (addW w #[.bool n1, .slice a1 L1.length c1, .int .i64 x1] #[.bool n2, .slice a2 L2.length c2, .int .i64 x2] (pairC n1 (.slice a1 L1.length c1) x1 n2 (.slice a2 L2.length c2) x2)).heap.size := by simp
    have := allValid_2 u (w.heap.size + 3) 2 n1 n2 a1 a2 L1.length c1 L2.length c2 x1 x2 true true (Nat.lt_of_lt_of_le hb k.below.size) ((k.below.cell (p := ⟨w.heap.size + 3, 0, none⟩) hb).trans (by simp [go_sem])) ((k.below.cell (p := ⟨w.heap.size + 3, 1, none⟩) hb).trans (by simp [go_sem])) ((k.below.cell (p := ⟨w.heap.size + 3, 2, none⟩) hb).trans (by simp [go_sem])) ((k.below.cell (p := ⟨w.heap.size + 3, 3, none⟩) hb).trans (by simp [go_sem])) ((k.below.cell (p := ⟨w.heap.size + 3, 4, none⟩) hb).trans (by simp [go_sem])) ((k.below.cell (p := ⟨w.heap.size + 3, 5, none⟩) hb).trans (by simp [go_sem])) (fun v kv => ?_) (fun v kv => ?_)
    · exact this
    · have := xvalid_any ⟨n1, L1, x1⟩ hd1.2.rg (by dsimp only; omega) (.agg #[.bool n1, .slice a1 L1.length c1, .int .i64 x1]) v ⟨_, rfl, ((h1.kept hW).kept k).kept kv⟩
      rw [hv1] at this
      exact this
    · have := xvalid_any ⟨n2, L2, x2⟩ hd2.2.rg (by dsimp only; omega) (.agg #[.bool n2, .slice a2 L2.length c2, .int .i64 x2]) v ⟨_, rfl, ((h2.kept hW).kept k).kept kv⟩
      rw [hv2] at this
      exact this
  have KT : Hid (Calls Tryd.prog 39 #[.func (.func 43) #[] #[.pointer (some ⟨w.heap.size, 0, none⟩), .pointer (some ⟨w.heap.size + 1, 0, none⟩)], .slice (some ⟨w.heap.size + 3, 0, none⟩) 2 2] (addW w #[.bool n1, .slice a1 L1.length c1, .int .i64 x1] #[.bool n2, .slice a2 L2.length c2, .int .i64 x2] (pairC n1 (.slice a1 L1.length c1) x1 n2 (.slice a2 L2.length c2) x2)) fun e w' => e = .returned (.tuple #[zeroNum, .int .i64 2]) ∧ Kept (addW w #[.bool n1, .slice a1 L1.length c1, .int .i64 x1] #[.bool n2, .slice a2 L2.length c2, .int .i64 x2] (pairC n1 (.slice a1 L1.length c1) x1 n2 (.slice a2 L2.length c2) x2)) w') := by
    refine told_no 43 _ (fun w => call_of Tryd.func43 (by kernel_rfl) (by kernel_rfl) _ w) _  _ KV (fun u k => ?_)
    have hs := k.below.size
    simp only [addW, World.size_alloc] at hs
    exact mulz_in_no u ((hT.kept hW).kept k) n1 L1 x1 hv1 a1 c1 n2 L2 x2 hv2 a2 c2 ((h1.kept hW).kept k) ((h2.kept hW).kept k)  hf _ _ (by omega) (by omega) ((k.below.cell (p := ⟨w.heap.size, 0, none⟩) (by simp <;> omega)).trans (by simp [go_sem])) ((k.below.cell (p := ⟨w.heap.size, 1, none⟩) (by simp <;> omega)).trans (by simp [go_sem])) ((k.below.cell (p := ⟨w.heap.size, 2, none⟩) (by simp <;> omega)).trans (by simp [go_sem])) ((k.below.cell (p := ⟨w.heap.size + 1, 0, none⟩) (by simp <;> omega)).trans (by simp [go_sem])) ((k.below.cell (p := ⟨w.heap.size + 1, 1, none⟩) (by simp <;> omega)).trans (by simp [go_sem])) ((k.below.cell (p := ⟨w.heap.size + 1, 2, none⟩) (by simp <;> omega)).trans (by simp [go_sem]))
  have hmf : ∀ (fn : Fn) (first cap : Array Value) (w : World), (Instr.makeFunc fn first cap).run Tryd.prog w = .ok (.func fn first cap) w := fun _ _ _ _ => rfl
  clear h1 h2 hT hf hv1 hv2 KV hd1 hd2
  generalize L1.length = l1 at *
  generalize L2.length = l2 at *
  go_enter Tryd.func14, Tryd.ntmps14
  go_wp2_with (first | (go_at_call 39; refine KT.out.mono ?_; rintro e w1 ⟨rfl, hk1⟩; obtain ⟨f0, f1, f2, f3⟩ := res_cells (w.heap.size + 2) (by simp <;> omega) hk1 (by simp [go_sem]) (by simp [go_sem]) (by simp [go_sem]) (fun o => by simp [go_sem])))
  refine bodyPost_ret (v := .tuple #[zeroNum, .int .i64 2]) (by simp [results, Tryd.results14, go_sem, f0, f1, f2]) rfl ⟨rfl, res_kept (w.heap.size + 2) (by omega) hW hk1 _ _ _⟩


end Go.Proofs.YtjdehcndejejcaaDoor
