/- AccNearest: of finite floats what is told is the float nearest to the exact sum. -/
import Derived.Test.YtoflafgbbjinpaaGreatDoorZm42
import Derived.Test.YtoflafgbbjinpaaGreatDoorZm41
namespace Go.Proofs.YtoflafgbbjinpaaGreatDoor
open Go.ChangeShapes Go.WideShapes Go.ChangeAt Go.RowKit
set_option linter.unusedVariables false
set_option linter.unusedSimpArgs false
set_option maxHeartbeats 16000000
set_option maxRecDepth 100000
theorem mask16 (s : Int) : bits .and .i64 s 65535 = s % 65536 := by
 have e : (BitVec.ofInt 64 65535 : BitVec 64).toNat = 2 ^ 16 - 1 := by decide
 have h := ofInt_toNat s
 rw [bits_and, BitVec.toNat_and, e, Nat.and_two_pow_sub_one_eq_mod, wrap_i64]
 omega
/- what exact.Of answers at a pattern -/
theorem of_all (b n : Int) (b1 : -9223372036854775808 ≤ b) (b2 : b ≤ 9223372036854775807) (hn : n = 64 ∨ n = 32) : ∃ (r : Nm) (f : Int), (cls b n < 3 → r = ofN b n ∧ f = 0) ∧ (¬ cls b n < 3 → f = 6) ∧
  ∀ w, Tab w → Calls Tryz.prog 16 #[.int .i64 b, .int .i64 n] w fun e w' => ∃ a c, e = .returned (.tuple #[.agg #[.bool r.neg, .slice a r.mag.length c, .int .i64 r.exp], .int .i64 f]) ∧ Hid (Sl w' (.slice a r.mag.length c) r.mag) ∧ Kept w w' := by
 by_cases h : cls b n < 3
 ·refine ⟨ofN b n, 0, fun _ => ⟨rfl, rfl⟩, fun g => absurd h g, fun w hT => ?_⟩
  refine (of_fin b n b1 b2 hn h w hT).mono ?_
  rintro e w' ⟨v, rfl, hN, k⟩
  obtain ⟨vn, va, vl, vc, vx, rfl⟩ := hN.shape
  obtain ⟨rfl, rfl, rfl, -, hs⟩ := hN.parts
  exact ⟨va, vc, rfl, hs, k⟩
 ·refine ⟨⟨false, [], 0⟩, 6, fun g => absurd g h, fun _ => rfl, fun w hT => ?_⟩
  refine (of_bits b n b1 b2 hn (by omega) w).mono ?_
  rintro e w' ⟨rfl, k⟩
  exact ⟨none, 0, rfl, sl_none _, k⟩
/- the product of two, exactly -/
theorem mul_fin (n x y : Int) (hn : n = 64 ∨ n = 32) (x1 : -9223372036854775808 ≤ x) (x2 : x ≤ 9223372036854775807) (y1 : -9223372036854775808 ≤ y) (y2 : y ≤ 9223372036854775807) (cx : cls x n < 3) (cy : cls y n < 3) {q : Nm} (hq : DN (pvl n x y) q) (ao bo : Option Addr) (c d : Nat) (w : World) (hT : Tab w) (h : Sl w (.slice ao (ofN x n).mag.length c) (ofN x n).mag) (h' : Sl w (.slice bo (ofN y n).mag.length d) (ofN y n).mag) :
  Calls Tryz.prog 17 #[.agg #[.bool (ofN x n).neg, .slice ao (ofN x n).mag.length c, .int .i64 (ofN x n).exp], .agg #[.bool (ofN y n).neg, .slice bo (ofN y n).mag.length d, .int .i64 (ofN y n).exp]] w fun e w' => ∃ va vc, e = .returned (.tuple #[.agg #[.bool q.neg, .slice va q.mag.length vc, .int .i64 q.exp], .int .i64 0]) ∧ Hid (Sl w' (.slice va q.mag.length vc) q.mag) ∧ Kept w w' := by
 have hx := finP_of x n x1 x2 hn cx
 have hy := finP_of y n y1 y2 hn cy
 obtain ⟨l1, z1⟩ := of_lies n x hn cx hx
 obtain ⟨l2, z2⟩ := of_lies n y hn cy hy
 have hm : mulN (ofN x n) (ofN y n) = some q := by
  rw [mul_cfm (-1074) 2200 (by decide) (by decide) (by decide) _ _ l1 l2, z1, z2, ← pval_zv n x y hx hy]
  have := hq.is
  unfold pvl at this
  rw [if_pos (by unfold bth; rw [decide_eq_true cx, decide_eq_true cy]; rfl)] at this
  exact this
 refine (mulz_ok w hT (ofN x n).neg (ofN x n).mag (ofN x n).exp l1.ok ao c (ofN y n).neg (ofN y n).mag (ofN y n).exp l2.ok bo d h h' q hm).mono ?_
 rintro e w' ⟨v, rfl, hN, k⟩
 obtain ⟨vn, va, vl, vc, vx, rfl⟩ := hN.shape
 obtain ⟨rfl, rfl, rfl, -, hs⟩ := hN.parts
 exact ⟨va, vc, rfl, hs, k⟩
theorem xadd_dn {S T : Int} {r t q : Nm} (hr : DN S r) (ht : DN T t) (hq : DN (S + T) q) (ao bo : Option Addr) (c d : Nat) (w : World) (hT : Tab w) (h : Sl w (.slice ao r.mag.length c) r.mag) (h' : Sl w (.slice bo t.mag.length d) t.mag) :
  Calls Tryz.prog 18 #[.agg #[.bool r.neg, .slice ao r.mag.length c, .int .i64 r.exp], .agg #[.bool t.neg, .slice bo t.mag.length d, .int .i64 t.exp]] w fun e w' => ∃ un ua ul uc ux, e = .returned (.tuple #[.agg #[.bool un, .slice ua ul uc, .int .i64 ux], .int .i64 0]) ∧ New w w' (.agg #[.bool un, .slice ua ul uc, .int .i64 ux]) q ∧ Kept w w' := by
 obtain ⟨q', hq', ha⟩ := dn_add hr ht hq.bd
 obtain rfl := hq'.one hq
 refine (addz_ok w hT r.neg r.mag r.exp hr.vld ao c t.neg t.mag t.exp ht.vld bo d h h' q' ha).mono ?_
 rintro e w' ⟨v, rfl, hN, k⟩
 obtain ⟨vn, va, vl, vc, vx, rfl⟩ := hN.shape
 exact ⟨_, _, _, _, _, rfl, hN, k⟩
theorem nz_any (n : Int) (hn : n = 64 ∨ n = 32) (r : Nm) : ∃ z : Int, rzN n 0 r ≠ z ∧ ∀ u, Calls Tryz.prog 25 #[.int .i64 0, .int .i64 n] u fun e w' => e = .returned (.int .i64 z) ∧ Kept u w' := by
 refine ⟨ngt 0 n, ?_, fun u => neg_any 0 n (by decide) (by decide) u⟩
 have hm := mgN_le n 0 r
 rcases hn with rfl | rfl
 ·rw [show ngt 0 64 = -9223372036854775808 by decide +kernel]
  unfold rzN pz kyN
  simp only [if_true]
  split <;> split <;> omega
 ·rw [show ngt 0 32 = 2147483648 by decide +kernel]
  have hi : ifn 32 = 2139095040 := by decide
  rw [hi] at hm
  unfold rzN pz kyN
  simp only [show ¬ ((32 : Int) = 64) by decide, if_false]
  split <;> split <;> omega
/- a number that lies in a block of its own -/
structure Box3 (u : World) (lo B : Nat) (r : Nm) (ao : Option Addr) (c : Nat) : Prop where
 c0 : u.cell? ⟨B, 0, none⟩ = some (.bool r.neg)
 c1 : u.cell? ⟨B, 1, none⟩ = some (.slice ao r.mag.length c)
 c2 : u.cell? ⟨B, 2, none⟩ = some (.int .i64 r.exp)
 fz : ∀ o, u.frozen? ⟨B, o, none⟩ = false
 lt : B < u.heap.size
 sl : Sl u (.slice ao r.mag.length c) r.mag
 hi : ∀ b off, ao = some ⟨b, off, none⟩ → r.mag ≠ [] → lo ≤ b
theorem Box3.kept {u u' : World} {lo B : Nat} {r : Nm} {ao : Option Addr} {c : Nat} (h : Box3 u lo B r ao c) (k : Kept u u') : Box3 u' lo B r ao c :=
 ⟨(k.below.cell (p := ⟨B, 0, none⟩) h.lt).trans h.c0, (k.below.cell (p := ⟨B, 1, none⟩) h.lt).trans h.c1, (k.below.cell (p := ⟨B, 2, none⟩) h.lt).trans h.c2, fun o => (k.frozen _).trans (h.fz o), Nat.lt_of_lt_of_le h.lt k.below.size, h.sl.kept k, h.hi⟩
theorem Box3.other {u : World} {lo B : Nat} {r : Nm} {ao : Option Addr} {c : Nat} (h : Box3 u lo B r ao c) (q o : Nat) (hq : q ≠ B) (hl : q < lo) (v : Value) : Box3 (u.setCell ⟨q, o, none⟩ v) lo B r ao c := by
 have hB : B ≠ (⟨q, o, none⟩ : Addr).block := fun e => hq e.symm
 have hcell : ∀ i, (u.setCell ⟨q, o, none⟩ v).cell? ⟨B, i, none⟩ = u.cell? ⟨B, i, none⟩ := fun i => World.cell?_of_block (a := ⟨B, i, none⟩) (Below.heap_setCell u ⟨q, o, none⟩ v B hB)
 exact ⟨(hcell 0).trans h.c0, (hcell 1).trans h.c1, (hcell 2).trans h.c2, fun i => by simpa using h.fz i, by simpa using h.lt, sl_other h.sl _ (fun b off e hne => by have := h.hi b off e hne; dsimp only; omega) v, h.hi⟩
theorem Box3.six {u : World} {lo B : Nat} {r : Nm} {ao : Option Addr} {c : Nat} (h : Box3 u lo B r ao c) (q : Nat) (hq : q ≠ B) (hl : q < lo) (v0 v1 v2 v3 v4 v5 : Value) : Box3 (Go.Proofs.YtoflafgbbjinpaaGreatDoor.six u q v0 v1 v2 v3 v4 v5) lo B r ao c :=
 (((((h.other q 0 hq hl v0).other q 1 hq hl v1).other q 2 hq hl v2).other q 3 hq hl v3).other q 4 hq hl v4).other q 5 hq hl v5
abbrev tri (u : World) (B : Nat) (v0 v1 v2 : Value) : World := ((u.setCell ⟨B, 0, none⟩ v0).setCell ⟨B, 1, none⟩ v1).setCell ⟨B, 2, none⟩ v2
theorem Box.tri {u : World} {lo B : Nat} {r : Nm} {p m z : Bool} {ao : Option Addr} {c : Nat} (h : Box u lo B r p m z ao c) (q : Nat) (hq : q ≠ B) (hl : q < lo) (v0 v1 v2 : Value) : Box (tri u q v0 v1 v2) lo B r p m z ao c :=
 ((h.other q 0 hq hl v0).other q 1 hq hl v1).other q 2 hq hl v2
theorem kept_tri {w w5 : World} (B : Nat) (h : w.heap.size ≤ B) (k : Kept w w5) (v0 v1 v2 : Value) : Kept w (tri w5 B v0 v1 v2) :=
 ((k.setCell (p := ⟨B, 0, none⟩) h v0).setCell (p := ⟨B, 1, none⟩) h v1).setCell (p := ⟨B, 2, none⟩) h v2
theorem Box3.new {x u : World} {lo B : Nat} {r q : Nm} {ao : Option Addr} {c : Nat} (h : Box3 u lo B r ao c) (hB : B < lo) (hx : lo ≤ x.heap.size) (vn : Bool) (va : Option Addr) (vl vc : Nat) (vx : Int) (hN : New x u (.agg #[.bool vn, .slice va vl vc, .int .i64 vx]) q) : Box3 (tri u B (.bool vn) (.slice va vl vc) (.int .i64 vx)) lo B q va vc := by
 obtain ⟨e1, e2, e3, e4, hs⟩ := hN.parts
 have hb : ∀ b off, va = some ⟨b, off, none⟩ → q.mag ≠ [] → lo ≤ b := fun b off e hne => by
  rcases hN with ⟨rfl, -⟩ | ⟨g, cap, e5, hg, ho, -⟩
  ·exact absurd rfl hne
  ·simp only [Value.agg.injEq, Array.mk.injEq, List.cons.injEq, Value.slice.injEq] at e5
   rw [e] at e5
   have := e5.2.1.1
   simp at this
   omega
 subst e1 e2 e3
 have hne : ∀ b off, va = some ⟨b, off, none⟩ → q.mag ≠ [] → b ≠ B := fun b off e hn => by have := hb b off e hn; omega
 have c0 := h.c0
 have c1 := h.c1
 have c2 := h.c2
 refine ⟨by simp [go_sem, c0, c1, c2], by simp [go_sem, c0, c1, c2], by simp [go_sem, c0, c1, c2], fun o => by simpa using h.fz o, by simpa using h.lt, ?_, hb⟩
 exact sl_other (sl_other (sl_other hs _ hne _) _ hne _) _ hne _
theorem laid3n {w X : World} (a b c : Value) (t : TypeId) (B : Nat) (hB : B = w.heap.size) (hX : Kept (w.alloc (.cells #[a, b, c] t)) X) (u : World) (k : Kept X u) : u.cell? ⟨B, 0, none⟩ = some a ∧ u.cell? ⟨B, 1, none⟩ = some b ∧ u.cell? ⟨B, 2, none⟩ = some c := by
 subst hB
 have kk := hX.trans k
 refine ⟨?_, ?_, ?_⟩
 all_goals exact (kk.below.cell (by simp)).trans (by simp [go_sem])
theorem accNearest_true (w : World) (hT : Tab w) (ar : Option Addr) (N cap : Nat) (fk fx fy fw : Nat → Int) (hx : ∀ j, -9223372036854775808 ≤ fx j ∧ fx j ≤ 9223372036854775807) (hy : ∀ j, -9223372036854775808 ≤ fy j ∧ fy j ≤ 9223372036854775807) (HI0 : ∀ u, Kept w u → ∀ i, i < N → ItemAt u ar i (fk i) (fx i) (fy i) (fw i)) (n0 w0 : Int) :
  Calls Tryz.prog 6 #[.slice ar N cap, .int .i64 n0, .int .i64 w0] w fun e w' => e = .returned (.bool true) ∧ Kept w w' := by
 have KL : Hid (∀ u, Kept w u → Calls Tryz.prog 9 #[] u fun e w' => e = .returned (.bool true) ∧ Kept u w') := fun u k => alive3 u (hT.kept k)
 by_cases h200 : 100 < N
 ·have h2 : (100 : Int) < (N : Int) := by omega
  go_enter Tryz.func6, Tryz.ntmps6
  go_wp2_with fail
  refine (KL.out _ (Kept.refl _)).mono ?_
  rintro e w1 ⟨rfl, k1⟩
  go_wp2_with fail
  go_ret
  exact ⟨rfl, k1⟩
 have h2 : ¬ (100 : Int) < (N : Int) := by omega
 obtain ⟨v, hv⟩ : ∃ v : Nat → Int, v = fun j => pvl (wdI (fw j)) (ptI (fx j) (fw j)) (ptI (fy j) (fw j)) := ⟨_, rfl⟩
 have hvb : ∀ j, (v j).natAbs < 2 ^ expJ := fun j => by
  rw [hv]
  obtain ⟨a1, a2, -⟩ := ptI_ok (fx j) (fw j) (hx j).1 (hx j).2
  obtain ⟨b1, b2, -⟩ := ptI_ok (fy j) (fw j) (hy j).1 (hy j).2
  exact pvl_lt _ _ _ (wdI_ok _) a1 a2 b1 b2
 have HB : Hid (∀ k, k ≤ N → (sI v k).natAbs < 2 ^ expK) := fun k hk => sI_bd v hvb k (by omega)
 have HI : Hid (∀ u, Kept w u → ∀ i, i < N → ItemAt u ar i (fk i) (fx i) (fy i) (fw i)) := HI0
 have KP : Hid (∀ (x z : Int) (u : World), Calls Tryz.prog 15 #[.int .i64 x, .int .i64 z] u fun e w' => e = .returned (.int .i64 (ptI x z)) ∧ Kept u w') := fun x z u => pattern3 x z u
 /- what a round asks, where both are finite or not -/
 have KK : Hid (∀ k, k < N → ∀ (S : Int) (r q : Nm), DN S r → DN (S + v k) q → ∃ (rx ry rm : Nm) (ex ey : Int),
   (∀ u, Kept w u → Calls Tryz.prog 16 #[.int .i64 (ptI (fx k) (fw k)), .int .i64 (wdI (fw k))] u fun e w' => ∃ a c, e = .returned (.tuple #[.agg #[.bool rx.neg, .slice a rx.mag.length c, .int .i64 rx.exp], .int .i64 ex]) ∧ Hid (Sl w' (.slice a rx.mag.length c) rx.mag) ∧ Kept u w') ∧
   (∀ u, Kept w u → Calls Tryz.prog 16 #[.int .i64 (ptI (fy k) (fw k)), .int .i64 (wdI (fw k))] u fun e w' => ∃ a c, e = .returned (.tuple #[.agg #[.bool ry.neg, .slice a ry.mag.length c, .int .i64 ry.exp], .int .i64 ey]) ∧ Hid (Sl w' (.slice a ry.mag.length c) ry.mag) ∧ Kept u w') ∧
   ((ex ≠ 0 ∨ ey ≠ 0) ∧ v k = 0 ∨ (ex = 0 ∧ ey = 0) ∧
    (∀ u ao bo c d, Kept w u → Sl u (.slice ao rx.mag.length c) rx.mag → Sl u (.slice bo ry.mag.length d) ry.mag → Calls Tryz.prog 17 #[.agg #[.bool rx.neg, .slice ao rx.mag.length c, .int .i64 rx.exp], .agg #[.bool ry.neg, .slice bo ry.mag.length d, .int .i64 ry.exp]] u fun e w' => ∃ va vc, e = .returned (.tuple #[.agg #[.bool rm.neg, .slice va rm.mag.length vc, .int .i64 rm.exp], .int .i64 0]) ∧ Hid (Sl w' (.slice va rm.mag.length vc) rm.mag) ∧ Kept u w') ∧
    (∀ u ao bo c d, Kept w u → Sl u (.slice ao r.mag.length c) r.mag → Sl u (.slice bo rm.mag.length d) rm.mag → Calls Tryz.prog 18 #[.agg #[.bool r.neg, .slice ao r.mag.length c, .int .i64 r.exp], .agg #[.bool rm.neg, .slice bo rm.mag.length d, .int .i64 rm.exp]] u fun e w' => ∃ un ua ul uc ux, e = .returned (.tuple #[.agg #[.bool un, .slice ua ul uc, .int .i64 ux], .int .i64 0]) ∧ New u w' (.agg #[.bool un, .slice ua ul uc, .int .i64 ux]) q ∧ Kept u w') ∧
    (∀ u ao c, Kept w u → Sl u (.slice ao r.mag.length c) r.mag → Calls Tryz.prog 19 #[accV r.neg (.slice ao r.mag.length c) r.exp false false false, .int .i64 (ptI (fx k) (fw k)), .int .i64 (ptI (fy k) (fw k)), .int .i64 (wdI (fw k))] u fun e w' => ∃ un ua ul uc ux, e = .returned (.tuple #[accV un (.slice ua ul uc) ux false false false, .int .i64 0]) ∧ New u w' (.agg #[.bool un, .slice ua ul uc, .int .i64 ux]) q ∧ Kept u w'))) := fun k hk S r q hr hq => by
  obtain ⟨a1, a2, a3⟩ := ptI_ok (fx k) (fw k) (hx k).1 (hx k).2
  obtain ⟨b1, b2, b3⟩ := ptI_ok (fy k) (fw k) (hy k).1 (hy k).2
  have hn := wdI_ok (fw k)
  rw [hv] at hq
  simp only at hq
  rw [hv]
  simp only
  obtain ⟨n, hnn⟩ : ∃ n, n = wdI (fw k) := ⟨_, rfl⟩
  obtain ⟨px, hpx⟩ : ∃ t, t = ptI (fx k) (fw k) := ⟨_, rfl⟩
  obtain ⟨py, hpy⟩ : ∃ t, t = ptI (fy k) (fw k) := ⟨_, rfl⟩
  rw [← hnn, ← hpx, ← hpy] at hq
  rw [← hnn, ← hpx] at a3
  rw [← hnn, ← hpy] at b3
  rw [← hpx] at a1 a2
  rw [← hpy] at b1 b2
  rw [← hnn] at hn
  rw [← hnn, ← hpx, ← hpy]
  clear hnn hpx hpy
  obtain ⟨rx, ex, fx1, fx2, hX⟩ := of_all px n a1 a2 hn
  obtain ⟨ry, ey, fy1, fy2, hY⟩ := of_all py n b1 b2 hn
  by_cases cx : cls px n < 3
  ·by_cases cy : cls py n < 3
   ·obtain ⟨rfl, rfl⟩ := fx1 cx
    obtain ⟨rfl, rfl⟩ := fy1 cy
    obtain ⟨rm, hrm⟩ := dn_some (pvl n px py) (big_lt (pvl_lt n px py hn a1 a2 b1 b2))
    obtain ⟨f1, f2, f3⟩ := fin_flags n px py cx cy
    refine ⟨ofN px n, ofN py n, rm, 0, 0, fun u k => hX u (hT.kept k), fun u k => hY u (hT.kept k), .inr ⟨⟨rfl, rfl⟩, fun u ao bo c d k h h' => mul_fin n px py hn a1 a2 b1 b2 cx cy hrm ao bo c d u (hT.kept k) h h', fun u ao bo c d k h h' => xadd_dn hr hrm hq ao bo c d u (hT.kept k) h h', fun u ao c k h => ?_⟩⟩
    have := product_dn n px py hn a1 a2 b1 b2 a3 b3 hr hq false false false ao c u (hT.kept k) h
    rw [f1, f2, f3] at this
    exact this
   ·have hb : bth n px py = false := by unfold bth; rw [decide_eq_false cy, Bool.and_false]
    exact ⟨rx, ry, ry, ex, ey, fun u k => hX u (hT.kept k), fun u k => hY u (hT.kept k), .inl ⟨.inr (by rw [fy2 cy]; decide), by unfold pvl; rw [hb]; rfl⟩⟩
  ·have hb : bth n px py = false := by unfold bth; rw [decide_eq_false cx, Bool.false_and]
   exact ⟨rx, ry, ry, ex, ey, fun u k => hX u (hT.kept k), fun u k => hY u (hT.kept k), .inl ⟨.inl (by rw [fx2 cx]; decide), by unfold pvl; rw [hb]; rfl⟩⟩
 /- what is asked at the end -/
 obtain ⟨W2, hW2⟩ : ∃ W, W = wdI w0 := ⟨_, rfl⟩
 have hW : W2 = 64 ∨ W2 = 32 := by rw [hW2]; exact wdI_ok w0
 obtain ⟨m, hm⟩ : ∃ m, m = 1 + n0 % 65536 := ⟨_, rfl⟩
 have m1 : 0 < m := by omega
 have m2 : m ≤ 9223372036854775807 := by omega
 have KE : Hid (∀ (S : Int) (r : Nm), DN S r → ∃ (bv dv zv : Int) (o o2 : Bool) (rn : Nm), bv ≠ zv ∧
   (∀ u ao c, Kept w u → Sl u (.slice ao r.mag.length c) r.mag → Calls Tryz.prog 20 #[accV r.neg (.slice ao r.mag.length c) r.exp false false false, .int .i64 W2] u fun e w' => e = .returned (.tuple #[.int .i64 bv, .int .i64 0]) ∧ Kept u w') ∧
   (∀ u ao c, Kept w u → Sl u (.slice ao r.mag.length c) r.mag → Calls Tryz.prog 21 #[.agg #[.bool r.neg, .slice ao r.mag.length c, .int .i64 r.exp], .int .i64 W2, .int .i64 0] u fun e w' => e = .returned (.tuple #[.int .i64 bv, .bool o, .int .i64 0]) ∧ Kept u w') ∧
   (∀ u ao c, Kept w u → Sl u (.slice ao r.mag.length c) r.mag → Calls Tryz.prog 22 #[accV r.neg (.slice ao r.mag.length c) r.exp false false false, .int .i64 m, .int .i64 W2] u fun e w' => e = .returned (.tuple #[.int .i64 dv, .int .i64 0]) ∧ Kept u w') ∧
   (∀ u, Kept w u → Calls Tryz.prog 24 #[.int .i64 m] u fun e w' => ∃ va vc, e = .returned (.agg #[.bool rn.neg, .slice va rn.mag.length vc, .int .i64 rn.exp]) ∧ Hid (Sl w' (.slice va rn.mag.length vc) rn.mag) ∧ Kept u w') ∧
   (∀ u ao bo c d, Kept w u → Sl u (.slice ao r.mag.length c) r.mag → Sl u (.slice bo rn.mag.length d) rn.mag → Calls Tryz.prog 23 #[.agg #[.bool r.neg, .slice ao r.mag.length c, .int .i64 r.exp], .agg #[.bool rn.neg, .slice bo rn.mag.length d, .int .i64 rn.exp], .int .i64 W2, .int .i64 0] u fun e w' => e = .returned (.tuple #[.int .i64 dv, .bool o2, .int .i64 0]) ∧ Kept u w') ∧
   (∀ u, Calls Tryz.prog 25 #[.int .i64 0, .int .i64 W2] u fun e w' => e = .returned (.int .i64 zv) ∧ Kept u w')) := fun S r hr => by
  obtain ⟨zv, hz, hZ⟩ := nz_any W2 hW r
  obtain ⟨dv, o2, rn, h1, h3, h4⟩ := mean_all hr W2 m hW m1 m2
  refine ⟨rzN W2 0 r, dv, zv, oxN W2 0 r, o2, rn, hz, fun u ao c k h => ?_, fun u ao c k h => roundz W2 0 hW (.inl rfl) r hr.vld ao c u (hT.kept k) h, fun u ao c k h => ?_, fun u k => h1 u (hT.kept k), fun u ao bo c d k h h' => h3 ao bo c d u (hT.kept k) h h', hZ⟩
  ·have := round_all hr W2 hW false false false ao c u (hT.kept k) h
   rw [nf_ok] at this
   exact this
  ·have := h4 false false false ao c u (hT.kept k) h
   rw [nf_ok] at this
   exact this
 have ewm1 : bits .and .i64 n0 65535 = m - 1 := by rw [mask16, hm]; omega
 have ewm2 : IntKind.i64.wrap (1 + (m - 1)) = m := by rw [wrap_i64]; omega
 obtain ⟨t0, ht0⟩ : ∃ t, t = w0 % 2 := ⟨_, rfl⟩
 have eww1 : bits .and .i64 w0 1 = t0 := by rw [and_one, ht0]
 have eww2 : IntKind.i64.wrap (32 * t0) = 32 * t0 := by rw [wrap_i64]; omega
 have eww3 : IntKind.i64.wrap (32 + 32 * t0) = W2 := by
  rw [hW2, ht0, wrap_i64]
  unfold wdI
  split <;> omega
 clear hT HI0 hvb hx hy hv hW2 hm ht0 hW
 obtain ⟨D, hD⟩ : ∃ D, D = (w.alloc (.cells #[.bool false, .slice none 0 0, .int .i64 0, .bool false, .bool false, .bool false] 26)).alloc (.cells #[.bool false, .slice none 0 0, .int .i64 0] 24) := ⟨_, rfl⟩
 have kD : Kept w D := by rw [hD]; exact ((Kept.refl w).alloc _ _).alloc _ _
 obtain ⟨Ba, hBa⟩ : ∃ B, B = w.heap.size := ⟨_, rfl⟩
 obtain ⟨Bs, hBs⟩ : ∃ B, B = w.heap.size + 1 := ⟨_, rfl⟩
 obtain ⟨lo, hlo⟩ : ∃ B, B = w.heap.size + 2 := ⟨_, rfl⟩
 have hDs : D.heap.size = lo := by rw [hD, hlo]; simp
 have ba : Box D lo Ba ⟨false, [], 0⟩ false false false none 0 := by
  have hlt : Ba < D.heap.size := by omega
  refine ⟨?_, ?_, ?_, ?_, ?_, ?_, fun o => ?_, hlt, fun _ => rfl, sl_none _, fun b off e => by cases e⟩
  all_goals
   rw [hD, hBa]
   simp [go_sem]
 have bs : Box3 D lo Bs ⟨false, [], 0⟩ none 0 := by
  have hlt : Bs < D.heap.size := by omega
  refine ⟨?_, ?_, ?_, fun o => ?_, hlt, sl_none _, fun b off e => by cases e⟩
  all_goals
   rw [hD, hBs]
   simp [go_sem]
 have o1 : w.heap.size ≤ Ba := by omega
 have o2 : w.heap.size ≤ Bs := by omega
 have l1 : Ba < lo := by omega
 have l2 : Bs < lo := by omega
 have ne1 : Ba ≠ Bs := by omega
 go_enter Tryz.func6, Tryz.ntmps6
 go_upto_region 7 with fail
 rw [← hD, ← hBs, ← hBa]
 clear hD hBa hBs hlo
 go_wp2_with fail
 go_loopw [9] (fun t9 wr => ∃ (k : Nat) (r : Nm) (aa ab : Option Addr) (ca cs : Nat), k ≤ N ∧ t9 = .int .i64 k ∧ Kept w wr ∧ lo ≤ wr.heap.size ∧ Box wr lo Ba r false false false aa ca ∧ Box3 wr lo Bs r ab cs ∧ DN (sI v k) r) (fun i _ => N - (intOf i).toNat)
 case atStart => exact ⟨0, _, _, _, _, _, Nat.zero_le _, rfl, kD, Nat.le_of_eq hDs.symm, ba, bs, dn_zero⟩
 case round =>
  obtain ⟨k, r, aa, ab, ca, cs, hk, rfl, kr, hsz, ba1, bs1, da⟩ := hrel
  clear ba bs kD hDs
  by_cases hkn : k < N
  ·obtain ⟨q, hq⟩ := dn_some (sI v (k + 1)) (HB.out (k + 1) hkn)
   obtain ⟨b, off, rfl, -⟩ := HI.out _ kr k hkn
   have HIk : Hid (∀ u, Kept w u → Kept w u ∧ u.cell? ⟨b, off + k * 4, none⟩ = some (.int .i64 (fk k)) ∧ u.cell? ⟨b, off + k * 4 + 1, none⟩ = some (.int .i64 (fx k)) ∧ u.cell? ⟨b, off + k * 4 + 2, none⟩ = some (.int .i64 (fy k)) ∧ u.cell? ⟨b, off + k * 4 + 3, none⟩ = some (.int .i64 (fw k))) := fun u ku => by
    obtain ⟨b', off', e, hh⟩ := HI.out u ku k hkn
    cases e
    exact ⟨ku, hh⟩
   obtain ⟨rx, ry, rm, ex, ey, hX, hY, hE⟩ := KK.out k hkn (sI v k) r q da hq
   have KPx : Hid (∀ (u : World), Calls Tryz.prog 15 #[.int .i64 (fx k), .int .i64 (fw k)] u fun e w' => e = .returned (.int .i64 (ptI (fx k) (fw k))) ∧ Kept u w') := fun u => KP.out _ _ u
   have KPy : Hid (∀ (u : World), Calls Tryz.prog 15 #[.int .i64 (fy k), .int .i64 (fw k)] u fun e w' => e = .returned (.int .i64 (ptI (fy k) (fw k))) ∧ Kept u w') := fun u => KP.out _ _ u
   have vk0 : Hid (v k = 0 → DN (sI v (k + 1)) r) := fun h => by simp only [sI]; rw [h, Int.add_zero]; exact da
   clear HI KP HB KE KL KK
   obtain ⟨X1, hX1⟩ : ∃ t, t = fx k := ⟨_, rfl⟩
   obtain ⟨X2, hX2⟩ : ∃ t, t = fy k := ⟨_, rfl⟩
   obtain ⟨X3, hX3⟩ : ∃ t, t = fw k := ⟨_, rfl⟩
   obtain ⟨px, hpx⟩ : ∃ t, t = ptI X1 X3 := ⟨_, rfl⟩
   obtain ⟨py, hpy⟩ : ∃ t, t = ptI X2 X3 := ⟨_, rfl⟩
   obtain ⟨n, hn⟩ : ∃ t, t = wdI X3 := ⟨_, rfl⟩
   rw [← hX1, ← hX3, ← hpx] at KPx
   rw [← hX2, ← hX3, ← hpy] at KPy
   rw [← hX1, ← hX2, ← hX3] at HIk
   rw [← hX1, ← hX3, ← hpx, ← hn] at hX
   rw [← hX2, ← hX3, ← hpy, ← hn] at hY
   rw [← hX1, ← hX2, ← hX3, ← hpx, ← hpy, ← hn] at hE
   obtain ⟨t, ht⟩ : ∃ t, t = X3 % 2 := ⟨_, rfl⟩
   have ew1 : bits .and .i64 X3 1 = t := by rw [and_one, ht]
   have ew2 : IntKind.i64.wrap (32 * t) = 32 * t := by rw [wrap_i64]; omega
   have ew3 : IntKind.i64.wrap (32 + 32 * t) = n := by
    rw [hn, ht, wrap_i64]
    unfold wdI
    split <;> omega
   clear hX1 hX2 hX3 hpx hpy hn ht
   have HX : Hid (∀ u, Kept w u → _) := hX
   have HY : Hid (∀ u, Kept w u → _) := hY
   clear hX hY
   obtain ⟨-, i0, i1, i2, i3⟩ := HIk.out _ kr
   go_upto_region 11 with fail
   clear i0 i1 i2 i3
   have HSa : Hid (∀ u, Kept wr u → (Kept w u ∧ Kept wr u) ∧ u.cell? ⟨b, off + k * 4, none⟩ = some (.int .i64 (fk k)) ∧ u.cell? ⟨b, off + k * 4 + 1, none⟩ = some (.int .i64 X1) ∧ u.cell? ⟨b, off + k * 4 + 2, none⟩ = some (.int .i64 X2) ∧ u.cell? ⟨b, off + k * 4 + 3, none⟩ = some (.int .i64 X3)) := fun u ku => ⟨⟨kr.trans ku, ku⟩, (HIk.out u (kr.trans ku)).2⟩
   refine wp_region_held_drew (S := fun u => (Kept w u ∧ Kept wr u) ∧ u.cell? ⟨b, off + k * 4, none⟩ = some (.int .i64 (fk k)) ∧ u.cell? ⟨b, off + k * 4 + 1, none⟩ = some (.int .i64 X1) ∧ u.cell? ⟨b, off + k * 4 + 2, none⟩ = some (.int .i64 X2) ∧ u.cell? ⟨b, off + k * 4 + 3, none⟩ = some (.int .i64 X3)) (by kernel_rfl) (HSa.out _ (Kept.refl _).drew) (fun hHeld => ?_)
   refine tk (i := 0) (v := ?_) rfl ?_
   simp only [Act.put, zA, zB, zC, zD, zE, zF]
   refine tk (i := 1) (v := ?_) rfl ?_
   simp only [Act.put, zA, zB, zC, zD, zE, zF]
   refine tk (i := 2) (v := ?_) rfl ?_
   simp only [Act.put, zA, zB, zC, zD, zE, zF]
   refine tk (i := 3) (v := ?_) rfl ?_
   simp only [Act.put, zA, zB, zC, zD, zE, zF]
   refine tk (i := 4) (v := ?_) rfl ?_
   simp only [Act.put, zA, zB, zC, zD, zE, zF]
   refine tk (i := 5) (v := ?_) rfl ?_
   simp only [Act.put, zA, zB, zC, zD, zE, zF]
   refine tk (i := 6) (v := ?_) rfl ?_
   simp only [Act.put, zA, zB, zC, zD, zE, zF]
   refine tk (i := 7) (v := ?_) rfl ?_
   simp only [Act.put, zA, zB, zC, zD, zE, zF]
   refine tk (i := 8) (v := ?_) rfl ?_
   simp only [Act.put, zA, zB, zC, zD, zE, zF]
   refine tk (i := 9) (v := ?_) rfl ?_
   simp only [Act.put, zA, zB, zC, zD, zE, zF]
   refine wpAnyH_ready (rs := [10]) (by kernel_rfl) (by simp) ?_
   refine AllReadyH.cons rfl (fun K hK9 => ?_) AllReadyH.nil
   go_simp
   go_wp2_with fail
   refine (KPx.out _).mono ?_
   rintro e ua ⟨rfl, ka⟩
   have ea := HSa.out _ (hHeld.1.2.trans ka)
   refine hK9.out _ _ ea (fun hHelda => ?_)
   clear hK9 K
   refine tk (i := 11) (v := ?_) rfl ?_
   simp only [Act.put, zA, zB, zC, zD, zE, zF]
   refine wpAnyH_done (by kernel_rfl) ?_ _
   have kwa : Kept wr ua := hHelda.1.2
   have kza : Kept w ua := hHelda.1.1
   clear hHeld hHelda ea ka HSa
   go_upto_region 12 with fail
   have HSb : Hid (∀ u, Kept ua u → (Kept w u ∧ Kept ua u) ∧ u.cell? ⟨b, off + k * 4, none⟩ = some (.int .i64 (fk k)) ∧ u.cell? ⟨b, off + k * 4 + 1, none⟩ = some (.int .i64 X1) ∧ u.cell? ⟨b, off + k * 4 + 2, none⟩ = some (.int .i64 X2) ∧ u.cell? ⟨b, off + k * 4 + 3, none⟩ = some (.int .i64 X3)) := fun u ku => ⟨⟨kza.trans ku, ku⟩, (HIk.out u (kza.trans ku)).2⟩
   refine wp_region_held_drew (S := fun u => (Kept w u ∧ Kept ua u) ∧ u.cell? ⟨b, off + k * 4, none⟩ = some (.int .i64 (fk k)) ∧ u.cell? ⟨b, off + k * 4 + 1, none⟩ = some (.int .i64 X1) ∧ u.cell? ⟨b, off + k * 4 + 2, none⟩ = some (.int .i64 X2) ∧ u.cell? ⟨b, off + k * 4 + 3, none⟩ = some (.int .i64 X3)) (by kernel_rfl) (HSb.out _ (Kept.refl _).drew) (fun hHeld => ?_)
   refine tk (i := 0) (v := ?_) rfl ?_
   simp only [Act.put, zA, zB, zC, zD, zE, zF]
   refine tk (i := 1) (v := ?_) rfl ?_
   simp only [Act.put, zA, zB, zC, zD, zE, zF]
   refine tk (i := 2) (v := ?_) rfl ?_
   simp only [Act.put, zA, zB, zC, zD, zE, zF]
   refine tk (i := 3) (v := ?_) rfl ?_
   simp only [Act.put, zA, zB, zC, zD, zE, zF]
   refine tk (i := 4) (v := ?_) rfl ?_
   simp only [Act.put, zA, zB, zC, zD, zE, zF]
   refine tk (i := 5) (v := ?_) rfl ?_
   simp only [Act.put, zA, zB, zC, zD, zE, zF]
   refine tk (i := 6) (v := ?_) rfl ?_
   simp only [Act.put, zA, zB, zC, zD, zE, zF]
   refine tk (i := 7) (v := ?_) rfl ?_
   simp only [Act.put, zA, zB, zC, zD, zE, zF]
   refine tk (i := 8) (v := ?_) rfl ?_
   simp only [Act.put, zA, zB, zC, zD, zE, zF]
   refine tk (i := 9) (v := ?_) rfl ?_
   simp only [Act.put, zA, zB, zC, zD, zE, zF]
   refine wpAnyH_ready (rs := [10]) (by kernel_rfl) (by simp) ?_
   refine AllReadyH.cons rfl (fun K hK9 => ?_) AllReadyH.nil
   go_simp
   go_wp2_with fail
   refine (KPy.out _).mono ?_
   rintro e ub ⟨rfl, kb⟩
   have eb := HSb.out _ (hHeld.1.2.trans kb)
   refine hK9.out _ _ eb (fun hHeldb => ?_)
   clear hK9 K
   refine tk (i := 11) (v := ?_) rfl ?_
   simp only [Act.put, zA, zB, zC, zD, zE, zF]
   refine wpAnyH_done (by kernel_rfl) ?_ _
   have kwb : Kept ua ub := hHeldb.1.2
   have kzb : Kept w ub := hHeldb.1.1
   clear hHeld hHeldb eb kb HSb
   have kub : Kept wr ub := kwa.trans kwb
   clear kwa kwb kza KPx KPy HIk
   go_wp2_with fail
   refine (HX.out _ kzb).mono ?_
   rintro e u1 ⟨xa, xc, rfl, sx, k1⟩
   obtain ⟨Bx, hBx⟩ : ∃ B, B = u1.heap.size := ⟨_, rfl⟩
   obtain ⟨E1, hE1⟩ : ∃ D, D = u1.alloc (.cells #[.bool rx.neg, .slice xa rx.mag.length xc, .int .i64 rx.exp] 24) := ⟨_, rfl⟩
   have kE1 : Kept ub E1 := by rw [hE1]; exact k1.alloc _ _
   have HRx : Hid (∀ u, Kept E1 u → _) := fun u ku => laid3n (.bool rx.neg) (.slice xa rx.mag.length xc) (.int .i64 rx.exp) 24 Bx hBx (by rw [hE1]; exact Kept.refl _) u ku
   have sx1 : Hid (∀ u, Kept E1 u → Sl u (.slice xa rx.mag.length xc) rx.mag) := fun u ku => (sx.out.kept (by rw [hE1]; exact (Kept.refl _).alloc _ _)).kept ku
   go_upto_region 14 with fail
   rw [← hBx, ← hE1]
   clear hBx hE1 sx k1 HX
   go_wp2_with fail
   refine (HY.out _ (kzb.trans kE1)).mono ?_
   rintro e u2 ⟨ya, yc, rfl, sy, k2⟩
   obtain ⟨By, hBy⟩ : ∃ B, B = u2.heap.size := ⟨_, rfl⟩
   obtain ⟨E2, hE2⟩ : ∃ D, D = u2.alloc (.cells #[.bool ry.neg, .slice ya ry.mag.length yc, .int .i64 ry.exp] 24) := ⟨_, rfl⟩
   have kE2 : Kept E1 E2 := by rw [hE2]; exact k2.alloc _ _
   have HRy : Hid (∀ u, Kept E2 u → _) := fun u ku => laid3n (.bool ry.neg) (.slice ya ry.mag.length yc) (.int .i64 ry.exp) 24 By hBy (by rw [hE2]; exact Kept.refl _) u ku
   have sy1 : Hid (∀ u, Kept E2 u → Sl u (.slice ya ry.mag.length yc) ry.mag) := fun u ku => (sy.out.kept (by rw [hE2]; exact (Kept.refl _).alloc _ _)).kept ku
   go_upto_region 15 with fail
   rw [← hBy, ← hE2]
   clear hBy hE2 sy k2 HY
   have kwE : Kept wr E2 := kub.trans (kE1.trans kE2)
   have kzE : Kept w E2 := kzb.trans (kE1.trans kE2)
   have bx2 := ba1.kept kwE
   have by2 := bs1.kept kwE
   have hs2 : lo ≤ E2.heap.size := Nat.le_trans hsz kwE.below.size
   clear ba1 bs1 kub kzb kE1 kwE
   rcases hE with ⟨hne, hv0⟩ | ⟨⟨rfl, rfl⟩, hM, hA, hP⟩
   ·have hgo : (ex != 0 || ey != 0) = true := by rcases hne with h | h <;> simp [h]
    have da2 := vk0.out hv0
    cases hx0 : (ex != 0)
    ·have hy0 : (ey != 0) = true := by rw [hx0] at hgo; simpa using hgo
     go_wp2_with fail
     go_roundw
     case rel => exact ⟨k + 1, r, aa, ab, ca, cs, hkn, by go_num, kzE, hs2, bx2, by2, da2⟩
     case measure => simp [intOf]; omega
    ·go_wp2_with fail
     go_roundw
     case rel => exact ⟨k + 1, r, aa, ab, ca, cs, hkn, by go_num, kzE, hs2, bx2, by2, da2⟩
     case measure => simp [intOf]; omega
   ·have HM : Hid (∀ u ao bo c d, Kept w u → _) := hM
    have HA : Hid (∀ u ao bo c d, Kept w u → _) := hA
    have HP : Hid (∀ u ao c, Kept w u → _) := hP
    clear hM hA hP
    obtain ⟨x0, x1, x2⟩ := HRx.out _ kE2
    obtain ⟨y0, y1, y2⟩ := HRy.out _ (Kept.refl _)
    go_wp2_with fail
    refine (HM.out _ _ _ _ _ kzE (sx1.out _ kE2) (sy1.out _ (Kept.refl _))).mono ?_
    rintro e u3 ⟨ma, mc, rfl, sm, k3⟩
    clear x0 x1 x2 y0 y1 y2 HRx HRy sx1 sy1 HM
    obtain ⟨Bm, hBm⟩ : ∃ B, B = u3.heap.size := ⟨_, rfl⟩
    obtain ⟨E3, hE3⟩ : ∃ D, D = u3.alloc (.cells #[.bool rm.neg, .slice ma rm.mag.length mc, .int .i64 rm.exp] 24) := ⟨_, rfl⟩
    have kE3 : Kept E2 E3 := by rw [hE3]; exact k3.alloc _ _
    have HRm : Hid (∀ u, Kept E3 u → _) := fun u ku => laid3n (.bool rm.neg) (.slice ma rm.mag.length mc) (.int .i64 rm.exp) 24 Bm hBm (by rw [hE3]; exact Kept.refl _) u ku
    have sm1 : Hid (∀ u, Kept E3 u → Sl u (.slice ma rm.mag.length mc) rm.mag) := fun u ku => (sm.out.kept (by rw [hE3]; exact (Kept.refl _).alloc _ _)).kept ku
    go_upto_region 17 with fail
    rw [← hBm, ← hE3]
    clear hBm hE3 sm k3
    have bx3 := bx2.kept kE3
    have by3 := by2.kept kE3
    have hs3 : lo ≤ E3.heap.size := Nat.le_trans hs2 kE3.below.size
    have kz3 : Kept w E3 := kzE.trans kE3
    clear bx2 by2
    obtain ⟨y0, y1, y2⟩ := HRm.out _ (Kept.refl _)
    have g0 := by3.c0
    have g1 := by3.c1
    have g2 := by3.c2
    go_wp2_with fail
    refine (HA.out _ _ _ _ _ kz3 by3.sl (sm1.out _ (Kept.refl _))).mono ?_
    rintro e u4 ⟨un, ua4, ul, uc4, ux, rfl, hN4, k4⟩
    clear y0 y1 y2 g0 g1 g2 HRm sm1 HA
    have bx4 := bx3.kept k4
    have by4 := by3.kept k4
    have g0 := by4.c0
    have g1 := by4.c1
    have g2 := by4.c2
    have g3 := by4.fz
    go_upto_region 18 with fail
    obtain ⟨E4, hE4⟩ : ∃ D, D = tri u4 Bs (.bool un) (.slice ua4 ul uc4) (.int .i64 ux) := ⟨_, rfl⟩
    have e4 := hE4
    unfold tri at e4
    rw [← e4]
    have by5 : Box3 E4 lo Bs q ua4 uc4 := by rw [hE4]; exact by4.new l2 hs3 un ua4 ul uc4 ux hN4
    have bx5 : Box E4 lo Ba r false false false aa ca := by rw [hE4]; exact bx4.tri Bs (Ne.symm ne1) l2 _ _ _
    have kz5 : Kept w E4 := by rw [hE4]; exact kept_tri Bs o2 (kz3.trans k4) _ _ _
    have hs5 : lo ≤ E4.heap.size := by
     have := k4.below.size
     rw [hE4]
     simp
     omega
    clear hE4 e4 by4 bx4 by3 bx3 g0 g1 g2 g3 hN4 k4
    have g0 := bx5.c0
    have g1 := bx5.c1
    have g2 := bx5.c2
    have g3 := bx5.c3
    have g4 := bx5.c4
    have g5 := bx5.c5
    go_wp2_with fail
    refine (HP.out _ _ _ kz5 bx5.sl).mono ?_
    rintro e u6 ⟨vn, va, vl, vc, vx, rfl, hN6, k6⟩
    clear g0 g1 g2 g3 g4 g5
    have bx6 := bx5.kept k6
    have by6 := by5.kept k6
    have g0 := bx6.c0
    have g1 := bx6.c1
    have g2 := bx6.c2
    have g3 := bx6.c3
    have g4 := bx6.c4
    have g5 := bx6.c5
    have g6 := bx6.fz
    go_wp2_with fail
    go_roundw
    case rel =>
     refine ⟨k + 1, q, va, ua4, vc, uc4, hkn, by go_num, kept_six1 Ba o1 (kz5.trans k6) _ _ _ _ _ _, ?_, bx6.new l1 hs5 vn va vl vc vx hN6 false false false, by6.six Ba ne1 l1 _ _ _ _ _ _, hq⟩
     have := k6.below.size
     simp
     omega
    case measure => simp [intOf]; omega
  ·obtain rfl : k = N := by omega
   obtain ⟨bv, dv, zv, o, o2', rn, hbz, hR, hX, hMe, hI, hQ, hZ⟩ := KE.out _ r da
   have HR : Hid (∀ u ao c, Kept w u → _) := hR
   have HXr : Hid (∀ u ao c, Kept w u → _) := hX
   have HMe : Hid (∀ u ao c, Kept w u → _) := hMe
   have HIn : Hid (∀ u, Kept w u → _) := hI
   have HQ : Hid (∀ u ao bo c d, Kept w u → _) := hQ
   have HZ : Hid (∀ u, _) := hZ
   have hbz2 : (bv != zv) = true := by simpa using hbz
   clear KE HB HI KP KK da hR hX hMe hI hQ hZ hbz
   have sl0 : Hid (∀ u, Kept wr u → Sl u (.slice aa r.mag.length ca) r.mag) := fun u ku => ba1.sl.kept ku
   have sl3 : Hid (∀ u, Kept wr u → Sl u (.slice ab r.mag.length cs) r.mag) := fun u ku => bs1.sl.kept ku
   have HB0 : Hid (∀ u, Kept wr u → u.cell? ⟨Ba, 0, none⟩ = some (.bool r.neg) ∧ u.cell? ⟨Ba, 1, none⟩ = some (.slice aa r.mag.length ca) ∧ u.cell? ⟨Ba, 2, none⟩ = some (.int .i64 r.exp) ∧ u.cell? ⟨Ba, 3, none⟩ = some (.bool false) ∧ u.cell? ⟨Ba, 4, none⟩ = some (.bool false) ∧ u.cell? ⟨Ba, 5, none⟩ = some (.bool false)) := fun u ku => ⟨(ba1.kept ku).c0, (ba1.kept ku).c1, (ba1.kept ku).c2, (ba1.kept ku).c3, (ba1.kept ku).c4, (ba1.kept ku).c5⟩
   have HB3 : Hid (∀ u, Kept wr u → Kept wr u ∧ u.cell? ⟨Bs, 0, none⟩ = some (.bool r.neg) ∧ u.cell? ⟨Bs, 1, none⟩ = some (.slice ab r.mag.length cs) ∧ u.cell? ⟨Bs, 2, none⟩ = some (.int .i64 r.exp)) := fun u ku => ⟨ku, (bs1.kept ku).c0, (bs1.kept ku).c1, (bs1.kept ku).c2⟩
   clear ba1 bs1
   obtain ⟨c0, c1, c2, c3, c4, c5⟩ := HB0.out _ (Kept.refl _)
   go_wp2_with fail
   refine (HR.out _ _ _ kr (sl0.out _ (Kept.refl _))).mono ?_
   rintro e w1 ⟨rfl, k1⟩
   clear c0 c1 c2 c3 c4 c5
   obtain ⟨-, c0, c1, c2⟩ := HB3.out _ k1
   go_wp2_with fail
   refine (HXr.out _ _ _ (kr.trans k1) (sl3.out _ k1)).mono ?_
   rintro e w2 ⟨rfl, k2⟩
   clear c0 c1 c2
   have k12 := k1.trans k2
   obtain ⟨c0, c1, c2, c3, c4, c5⟩ := HB0.out _ k12
   go_wp2_with fail
   refine (HMe.out _ _ _ (kr.trans k12) (sl0.out _ k12)).mono ?_
   rintro e w3 ⟨rfl, k3⟩
   have k13 := k12.trans k3
   clear c0 c1 c2 c3 c4 c5 HB0
   go_upto_region 22 with fail
   refine wp_region_held_drew (S := fun u => Kept wr u ∧ u.cell? ⟨Bs, 0, none⟩ = some (.bool r.neg) ∧ u.cell? ⟨Bs, 1, none⟩ = some (.slice ab r.mag.length cs) ∧ u.cell? ⟨Bs, 2, none⟩ = some (.int .i64 r.exp)) (by kernel_rfl) (HB3.out _ k13.drew) (fun hHeld => ?_)
   refine tk (i := 0) (v := ?_) rfl ?_
   simp only [Act.put, zA, zB, zC, zD, zE, zF]
   refine tk (i := 1) (v := ?_) rfl ?_
   simp only [Act.put, zA, zB, zC, zD, zE, zF]
   refine tk (i := 3) (v := ?_) rfl ?_
   simp only [Act.put, zA, zB, zC, zD, zE, zF]
   refine wpAnyH_ready (rs := [2]) (by kernel_rfl) (by simp) ?_
   refine AllReadyH.cons rfl (fun K hK9 => ?_) AllReadyH.nil
   go_simp
   go_wp2_with fail
   refine (HIn.out _ (kr.trans hHeld.1)).mono ?_
   rintro e ux ⟨ia, ic, rfl, si, kx⟩
   have ex := HB3.out _ (hHeld.1.trans kx)
   refine hK9.out _ _ ex (fun hHeldx => ?_)
   clear hK9 K
   refine wpAnyH_ready (rs := [4]) (by kernel_rfl) (by simp) ?_
   refine AllReadyH.cons rfl (fun K hK9 => ?_) AllReadyH.nil
   go_simp
   go_wp2_with fail
   refine (HQ.out _ _ _ _ _ (kr.trans hHeldx.1) (sl3.out _ hHeldx.1) si.out).mono ?_
   rintro e uy ⟨rfl, ky⟩
   have ey := HB3.out _ (hHeldx.1.trans ky)
   refine hK9.out _ _ ey (fun hHeldy => ?_)
   clear hK9 K
   refine tk (i := 5) (v := ?_) rfl ?_
   simp only [Act.put, zA, zB, zC, zD, zE, zF]
   refine tk (i := 6) (v := ?_) rfl ?_
   simp only [Act.put, zA, zB, zC, zD, zE, zF]
   refine tk (i := 7) (v := ?_) rfl ?_
   simp only [Act.put, zA, zB, zC, zD, zE, zF]
   refine tk (i := 8) (v := ?_) rfl ?_
   simp only [Act.put, zA, zB, zC, zD, zE, zF]
   refine tk (i := 9) (v := ?_) rfl ?_
   simp only [Act.put, zA, zB, zC, zD, zE, zF]
   refine tk (i := 10) (v := ?_) rfl ?_
   simp only [Act.put, zA, zB, zC, zD, zE, zF]
   refine tk (i := 11) (v := ?_) rfl ?_
   simp only [Act.put, zA, zB, zC, zD, zE, zF]
   refine wpAnyH_done (by kernel_rfl) ?_ _
   have k14 : Kept wr uy := hHeldy.1
   clear hHeld hHeldx hHeldy ex ey kx ky k13 k12 k1 k2 k3 si
   go_wp2_with fail
   refine (KL.out _ (kr.trans k14)).mono ?_
   rintro e w9 ⟨rfl, k9⟩
   go_wp2_with fail
   refine (HZ.out _).mono ?_
   rintro e w10 ⟨rfl, k10⟩
   go_wp2_with fail
   go_ret
   exact ⟨rfl, ((kr.trans k14).trans k9).trans k10⟩
end Go.Proofs.YtoflafgbbjinpaaGreatDoor
