/- AccTimes: a sum times a float is the sum of all parts times it; times 0 it is 0; twice by -1 it is itself. -/
import Derived.Test.YtoflafgbbjinpaaGreatDoorZm46
namespace Go.Proofs.YtoflafgbbjinpaaGreatDoor
open Go.ChangeShapes Go.WideShapes Go.ChangeAt Go.RowKit
set_option linter.unusedVariables false
set_option linter.unusedSimpArgs false
set_option maxHeartbeats 16000000
set_option maxRecDepth 100000
theorem new_hi {x u : World} {vn : Bool} {va : Option Addr} {vl vc : Nat} {vx : Int} {q : Nm} (hN : New x u (.agg #[.bool vn, .slice va vl vc, .int .i64 vx]) q) : ∀ b off, va = some ⟨b, off, none⟩ → q.mag ≠ [] → x.heap.size ≤ b := fun b off e hne => by
 rcases hN with ⟨rfl, -⟩ | ⟨g, cap, e5, hg, ho, -⟩
 ·exact absurd rfl hne
 ·simp only [Value.agg.injEq, Array.mk.injEq, List.cons.injEq, Value.slice.injEq] at e5
  rw [e] at e5
  have := e5.2.1.1
  simp at this
  omega
theorem sl_six {u : World} {ao : Option Addr} {l c : Nat} {L : List Int} (h : Sl u (.slice ao l c) L) (B : Nat) (hp : ∀ b off, ao = some ⟨b, off, none⟩ → L ≠ [] → b ≠ B) (v0 v1 v2 v3 v4 v5 : Value) : Sl (six u B v0 v1 v2 v3 v4 v5) (.slice ao l c) L :=
 sl_other (sl_other (sl_other (sl_other (sl_other (sl_other h _ hp _) _ hp _) _ hp _) _ hp _) _ hp _) _ hp _
section
variable {P : Program} {ops : Array Oper} {Q : Exit → Act → World → Prop} {md : Region.Mode} {S T : World → Prop} {D : List Nat}
theorem wpAnyT_fork {i j : Nat} {o o' : Oper} {fuel : Nat} {listed : Array Bool} {a : Act} {w : World} (hr : Region.ready md ops listed = [i, j]) (ho : ops[i]? = some o) (ho' : ops[j]? = some o')
  (h : ∀ K' : Act → World → Prop, Shut (∀ a w, S w → T w → (S w → T w → wpAnyT P md ops Q S T D fuel (listed.setIfInBounds i true) a w) → K' a w) → if Region.wanted o (yielded ops a.tmps) = true then Oper.wp P o a w K' Q else K' (a.put o.dst undef) w)
  (h' : ∀ K' : Act → World → Prop, Shut (∀ a w, S w → T w → (S w → T w → wpAnyT P md ops Q S T D fuel (listed.setIfInBounds j true) a w) → K' a w) → if Region.wanted o' (yielded ops a.tmps) = true then Oper.wp P o' a w K' Q else K' (a.put o'.dst undef) w) :
  wpAnyT P md ops Q S T D (fuel + 1) listed a w := by
 refine ⟨fun h0 => (by rw [h0] at hr; cases hr), fun k hk => ?_⟩
 rw [hr] at hk
 rcases List.mem_cons.1 hk with rfl | hk
 ·exact wpOp_step ho (fun K' hK => h K' (fun a w hS hT hW => hK a w ⟨⟨fun _ => hS, hT⟩, hW hS hT⟩))
 ·obtain rfl := List.mem_singleton.1 hk
  exact wpOp_step ho' (fun K' hK => h' K' (fun a w hS hT hW => hK a w ⟨⟨fun _ => hS, hT⟩, hW hS hT⟩))
end
theorem six_cells {u : World} {B : Nat} (h : B < u.heap.size) {x0 x1 x2 x3 x4 x5 : Value} (c0 : u.cell? ⟨B, 0, none⟩ = some x0) (c1 : u.cell? ⟨B, 1, none⟩ = some x1) (c2 : u.cell? ⟨B, 2, none⟩ = some x2) (c3 : u.cell? ⟨B, 3, none⟩ = some x3) (c4 : u.cell? ⟨B, 4, none⟩ = some x4) (c5 : u.cell? ⟨B, 5, none⟩ = some x5) (v0 v1 v2 v3 v4 v5 : Value) (x : World) (k : Kept (six u B v0 v1 v2 v3 v4 v5) x) : x.cell? ⟨B, 0, none⟩ = some v0 ∧ x.cell? ⟨B, 1, none⟩ = some v1 ∧ x.cell? ⟨B, 2, none⟩ = some v2 ∧ x.cell? ⟨B, 3, none⟩ = some v3 ∧ x.cell? ⟨B, 4, none⟩ = some v4 ∧ x.cell? ⟨B, 5, none⟩ = some v5 := by
 refine ⟨?_, ?_, ?_, ?_, ?_, ?_⟩
 all_goals exact (k.below.cell (by simpa using h)).trans (by simp [go_sem, c0, c1, c2, c3, c4, c5])
/- an item's float, in units of 2^-1074, where both are finite -/
def zI (x w b n : Int) : Int := if cls (ptI x w) (wdI w) < 3 ∧ cls b n < 3 then zv (wdI w) (ptI x w) else 0
theorem zI_lt (x w b n : Int) (x1 : -9223372036854775808 ≤ x) (x2 : x ≤ 9223372036854775807) : (zI x w b n).natAbs < 2 ^ expH := by
 unfold zI
 split
 ·next h =>
  obtain ⟨a1, a2, -⟩ := ptI_ok x w x1 x2
  exact zv_lt2 _ _ (finP_of _ _ a1 a2 (wdI_ok w) h.1)
 ·exact Nat.two_pow_pos _
theorem ttimes_walk (w : World) (hT : Tab w) (ar : Option Addr) (N cap : Nat) (fk fx fy fw : Nat → Int) (hN : N ≤ 60) (hx : ∀ j, -9223372036854775808 ≤ fx j ∧ fx j ≤ 9223372036854775807) (HI0 : ∀ u, Kept w u → ∀ i, i < N → ItemAt u ar i (fk i) (fx i) (fy i) (fw i)) (b0 w0 B W : Int) (hW : W = 64 ∨ W = 32) (eW : W = wdI w0) (eB : B = if W = 32 then b0 % 4294967296 else b0) (B1 : -9223372036854775808 ≤ B) (B2 : B ≤ 9223372036854775807) (vB : val B W = true) :
  Calls Tryz.prog 8 #[.slice ar N cap, .int .i64 b0, .int .i64 w0] w fun e w' => e = .returned (.bool true) ∧ Kept w w' := by
 have KL : Hid (∀ u, Kept w u → Calls Tryz.prog 9 #[] u fun e w' => e = .returned (.bool true) ∧ Kept u w') := fun u k => alive3 u (hT.kept k)
 have h2 : ¬ (60 : Int) < (N : Int) := by omega
 obtain ⟨z, hz⟩ : ∃ v : Nat → Int, v = fun j => zI (fx j) (fw j) B W := ⟨_, rfl⟩
 obtain ⟨V, hV⟩ : ∃ V, V = if cls B W < 3 then zv W B else 0 := ⟨_, rfl⟩
 have hVb : V.natAbs < 2 ^ expG := by
  rw [hV]
  split
  ·next h => exact zv_bd _ _ (finP_of _ _ B1 B2 hW h)
  ·exact Nat.two_pow_pos _
 have hzb : ∀ j, (z j).natAbs < 2 ^ expH := fun j => by rw [hz]; exact zI_lt _ _ _ _ (hx j).1 (hx j).2
 have HZ : Hid (∀ k, k ≤ N → (sI z k).natAbs < 2 ^ expG) := fun k hk => sI_small2 z hzb k (by omega)
 obtain ⟨p74, hp74⟩ : ∃ t : Int, t = 2 ^ k74 := ⟨_, rfl⟩
 have HB : Hid (∀ k, k ≤ N → (sI z k * p74).natAbs < 2 ^ expK ∧ (sI z k * V).natAbs < 2 ^ expK ∧ (-(sI z k * p74)).natAbs < 2 ^ expK) := fun k hk => by
  have h1 := prod_bd (sI z k) p74 (HZ.out k hk) (by rw [hp74]; exact pow_bd)
  exact ⟨h1, prod_bd _ _ (HZ.out k hk) hVb, by rw [Int.natAbs_neg]; exact h1⟩
 have HI : Hid (∀ u, Kept w u → ∀ i, i < N → ItemAt u ar i (fk i) (fx i) (fy i) (fw i)) := HI0
 have KP : Hid (∀ (x z : Int) (u : World), Calls Tryz.prog 15 #[.int .i64 x, .int .i64 z] u fun e w' => e = .returned (.int .i64 (ptI x z)) ∧ Kept u w') := fun x z u => pattern3 x z u
 obtain ⟨ry, ey, fy1, fy2, hY⟩ := of_all B W B1 B2 hW
 have KY : Hid (∀ u, Kept w u → Calls Tryz.prog 16 #[.int .i64 B, .int .i64 W] u fun e w' => ∃ a c, e = .returned (.tuple #[.agg #[.bool ry.neg, .slice a ry.mag.length c, .int .i64 ry.exp], .int .i64 ey]) ∧ Hid (Sl w' (.slice a ry.mag.length c) ry.mag) ∧ Kept u w') := fun u k => hY u (hT.kept k)
 /- what a round asks -/
 have KK : Hid (∀ k, k < N → ∀ (r q t s : Nm), DN (sI z k * p74) r → DN (sI z (k + 1) * p74) q → DN (sI z k * V) t → DN (sI z (k + 1) * V) s → ∃ (rx rm : Nm) (ex : Int),
   (∀ u, Kept w u → Calls Tryz.prog 16 #[.int .i64 (ptI (fx k) (fw k)), .int .i64 (wdI (fw k))] u fun e w' => ∃ a c, e = .returned (.tuple #[.agg #[.bool rx.neg, .slice a rx.mag.length c, .int .i64 rx.exp], .int .i64 ex]) ∧ Hid (Sl w' (.slice a rx.mag.length c) rx.mag) ∧ Kept u w') ∧
   ((ex ≠ 0 ∨ ey ≠ 0) ∧ z k = 0 ∨ (ex = 0 ∧ ey = 0) ∧
    (∀ u ao bo c d, Kept w u → Sl u (.slice ao rx.mag.length c) rx.mag → Sl u (.slice bo ry.mag.length d) ry.mag → Calls Tryz.prog 17 #[.agg #[.bool rx.neg, .slice ao rx.mag.length c, .int .i64 rx.exp], .agg #[.bool ry.neg, .slice bo ry.mag.length d, .int .i64 ry.exp]] u fun e w' => ∃ un ua ul uc ux, e = .returned (.tuple #[.agg #[.bool un, .slice ua ul uc, .int .i64 ux], .int .i64 0]) ∧ New u w' (.agg #[.bool un, .slice ua ul uc, .int .i64 ux]) rm ∧ Kept u w') ∧
    (∀ u ao c, Kept w u → Sl u (.slice ao r.mag.length c) r.mag → Calls Tryz.prog 28 #[accV r.neg (.slice ao r.mag.length c) r.exp false false false, .int .i64 (ptI (fx k) (fw k)), .int .i64 (wdI (fw k))] u fun e w' => ∃ un ua ul uc ux, e = .returned (.tuple #[accV un (.slice ua ul uc) ux false false false, .int .i64 0]) ∧ New u w' (.agg #[.bool un, .slice ua ul uc, .int .i64 ux]) q ∧ Kept u w') ∧
    (∀ u ao bo c d, Kept w u → Sl u (.slice ao t.mag.length c) t.mag → Sl u (.slice bo rm.mag.length d) rm.mag → Calls Tryz.prog 30 #[accV t.neg (.slice ao t.mag.length c) t.exp false false false, .agg #[.bool rm.neg, .slice bo rm.mag.length d, .int .i64 rm.exp]] u fun e w' => ∃ un ua ul uc ux, e = .returned (.tuple #[accV un (.slice ua ul uc) ux false false false, .int .i64 0]) ∧ New u w' (.agg #[.bool un, .slice ua ul uc, .int .i64 ux]) s ∧ Kept u w'))) := fun k hk r q t s hr hq ht hs => by
  obtain ⟨a1, a2, a3⟩ := ptI_ok (fx k) (fw k) (hx k).1 (hx k).2
  have hn := wdI_ok (fw k)
  have hzk : z k = zI (fx k) (fw k) B W := by rw [hz]
  obtain ⟨n, hnn⟩ : ∃ n, n = wdI (fw k) := ⟨_, rfl⟩
  obtain ⟨px, hpx⟩ : ∃ t, t = ptI (fx k) (fw k) := ⟨_, rfl⟩
  unfold zI at hzk
  rw [← hnn, ← hpx] at hzk
  rw [← hnn, ← hpx] at a3
  rw [← hpx] at a1 a2
  rw [← hnn] at hn
  rw [← hnn, ← hpx]
  clear hnn hpx
  obtain ⟨rx, ex, fx1, fx2, hX⟩ := of_all px n a1 a2 hn
  by_cases cx : cls px n < 3
  ·by_cases cy : cls B W < 3
   ·obtain ⟨rfl, rfl⟩ := fx1 cx
    obtain ⟨rfl, rfl⟩ := fy1 cy
    rw [if_pos ⟨cx, cy⟩] at hzk
    rw [if_pos cy] at hV
    have Fx := finP_of px n a1 a2 hn cx
    have Fy := finP_of B W B1 B2 hW cy
    obtain ⟨o1, o2, o3⟩ := oneN_ok n hn
    have Fo := finP_of (oneN n) n o1 o2 hn (one_fin n hn)
    have hb : bth n px (oneN n) = true := by unfold bth; rw [decide_eq_true cx, decide_eq_true (one_fin n hn)]; rfl
    have hpv : pvl n px (oneN n) = z k * p74 := by
     unfold pvl
     rw [if_pos hb, pval_zv n px (oneN n) Fx Fo, one_zv9 n hn, hzk, hp74]
    obtain ⟨f1, f2, f3⟩ := fin_flags n px (oneN n) cx (one_fin n hn)
    obtain ⟨rm, hrm⟩ := dn_some (z k * V) (prod_bd _ _ (by rw [hzk]; exact zv_bd n px Fx) hVb)
    have hq' : DN (sI z k * p74 + pvl n px (oneN n)) q := by
     rw [hpv, ← Int.add_mul]
     exact hq
    have hs' : DN (sI z k * V + z k * V) s := by
     rw [← Int.add_mul]
     exact hs
    have hrm' : DN (zv n px * zv W B) rm := by
     rw [← hzk, ← hV]
     exact hrm
    refine ⟨ofN px n, rm, 0, fun u k => hX u (hT.kept k), .inr ⟨⟨rfl, rfl⟩, fun u ao bo c d k h h' => mul_units (of_lies n px hn cx Fx) (of_lies W B hW cy Fy) hrm' ao bo c d u (hT.kept k) h h', fun u ao c k h => ?_, fun u ao bo c d k h h' => addNum_dn ht hrm hs' ao bo c d u (hT.kept k) h h'⟩⟩
    have := one_dn n px hn a1 a2 a3 hr hq' false false false ao c u (hT.kept k) h
    rw [f1, f2, f3] at this
    exact this
   ·rw [if_neg (fun h => cy h.2)] at hzk
    exact ⟨rx, ry, ex, fun u k => hX u (hT.kept k), .inl ⟨.inr (by rw [fy2 cy]; decide), hzk⟩⟩
  ·rw [if_neg (fun h => cx h.1)] at hzk
   exact ⟨rx, ry, ex, fun u k => hX u (hT.kept k), .inl ⟨.inl (by rw [fx2 cx]; decide), hzk⟩⟩
 /- what is asked at the end -/
 have KE : Hid (∀ (r t : Nm), DN (sI z N * p74) r → DN (sI z N * V) t → ∃ (s g : Nm) (P M Z : Bool) (mv : Int),
   (∀ u ao c, Kept w u → Sl u (.slice ao r.mag.length c) r.mag → Calls Tryz.prog 31 #[accV r.neg (.slice ao r.mag.length c) r.exp false false false, .int .i64 B, .int .i64 W] u fun e w' => ∃ va vc, e = .returned (.tuple #[accV s.neg (.slice va s.mag.length vc) s.exp P M Z, .int .i64 0]) ∧ Hid (Sl w' (.slice va s.mag.length vc) s.mag) ∧ Kept u w') ∧
   (∀ u ao c, Kept w u → Sl u (.slice ao r.mag.length c) r.mag → Calls Tryz.prog 31 #[accV r.neg (.slice ao r.mag.length c) r.exp false false false, .int .i64 0, .int .i64 W] u fun e w' => e = .returned (.tuple #[accV false (.slice none 0 0) 0 false false false, .int .i64 0]) ∧ Kept u w') ∧
   (∀ u, Calls Tryz.prog 32 #[.int .i64 (-1), .int .i64 W] u fun e w' => e = .returned (.int .i64 mv) ∧ Kept u w') ∧
   (∀ u ao c, Kept w u → Sl u (.slice ao r.mag.length c) r.mag → Calls Tryz.prog 31 #[accV r.neg (.slice ao r.mag.length c) r.exp false false false, .int .i64 mv, .int .i64 W] u fun e w' => ∃ un ua ul uc ux, e = .returned (.tuple #[accV un (.slice ua ul uc) ux false false false, .int .i64 0]) ∧ New u w' (.agg #[.bool un, .slice ua ul uc, .int .i64 ux]) g ∧ Kept u w') ∧
   (∀ u ao c, Kept w u → Sl u (.slice ao g.mag.length c) g.mag → Calls Tryz.prog 31 #[accV g.neg (.slice ao g.mag.length c) g.exp false false false, .int .i64 mv, .int .i64 W] u fun e w' => ∃ un ua ul uc ux, e = .returned (.tuple #[accV un (.slice ua ul uc) ux false false false, .int .i64 0]) ∧ New u w' (.agg #[.bool un, .slice ua ul uc, .int .i64 ux]) r ∧ Kept u w') ∧
   (∀ u ao c, (ao = none → c = 0) → Kept w u → Sl u (.slice ao r.mag.length c) r.mag → Calls Tryz.prog 33 #[accV r.neg (.slice ao r.mag.length c) r.exp false false false] u fun e w' => ∃ va vc, e = .returned (.tuple #[accV g.neg (.slice va g.mag.length vc) g.exp false false false, .int .i64 0]) ∧ Hid (Sl w' (.slice va g.mag.length vc) g.mag) ∧ Kept u w') ∧
   (∀ u, Calls Tryz.prog 34 #[accV false (.slice none 0 0) 0 false false false, accV false (.slice none 0 0) 0 false false false] u fun e w' => e = .returned (.bool true) ∧ Kept u w') ∧
   (∀ u ao bo c d, Sl u (.slice ao r.mag.length c) r.mag → Sl u (.slice bo r.mag.length d) r.mag → Calls Tryz.prog 34 #[accV r.neg (.slice ao r.mag.length c) r.exp false false false, accV r.neg (.slice bo r.mag.length d) r.exp false false false] u fun e w' => e = .returned (.bool true) ∧ Kept u w') ∧
   (∀ u ao bo c d, Sl u (.slice ao g.mag.length c) g.mag → Sl u (.slice bo g.mag.length d) g.mag → Calls Tryz.prog 34 #[accV g.neg (.slice ao g.mag.length c) g.exp false false false, accV g.neg (.slice bo g.mag.length d) g.exp false false false] u fun e w' => e = .returned (.bool true) ∧ Kept u w') ∧
   (∀ u ao bo c d, cls B W ≤ 2 → Sl u (.slice ao s.mag.length c) s.mag → Sl u (.slice bo t.mag.length d) t.mag → Calls Tryz.prog 34 #[accV s.neg (.slice ao s.mag.length c) s.exp P M Z, accV t.neg (.slice bo t.mag.length d) t.exp false false false] u fun e w' => e = .returned (.bool true) ∧ Kept u w')) := fun r t hr ht => by
  have hZN := HZ.out N (Nat.le_refl _)
  rw [hp74] at hr
  obtain ⟨g, hg⟩ := dn_some (-(sI z N * p74)) (HB.out N (Nat.le_refl _)).2.2
  rw [hp74] at hg
  have hg2 : DN (sI z N * zv W (mnsN W)) g := by
   rw [mns_zv W hW, Int.mul_neg]
   exact hg
  have hg3 : DN (-(sI z N) * 2 ^ k74) g := by
   rw [Int.neg_mul]
   exact hg
  have hr2 : DN (-(sI z N) * zv W (mnsN W)) r := by
   rw [mns_zv W hW, Int.mul_neg, Int.neg_mul, Int.neg_neg]
   exact hr
  obtain ⟨q1, q2, q3, q4⟩ := mnsN_ok W hW
  have v0 : val 0 W = true := by rcases hW with rfl | rfl <;> decide
  have c0 : cls 0 W = 0 := by rcases hW with rfl | rfl <;> decide
  have key : ∃ (s : Nm) (P M Z : Bool), (∀ u ao c, Kept w u → Sl u (.slice ao r.mag.length c) r.mag → Calls Tryz.prog 31 #[accV r.neg (.slice ao r.mag.length c) r.exp false false false, .int .i64 B, .int .i64 W] u fun e w' => ∃ va vc, e = .returned (.tuple #[accV s.neg (.slice va s.mag.length vc) s.exp P M Z, .int .i64 0]) ∧ Hid (Sl w' (.slice va s.mag.length vc) s.mag) ∧ Kept u w') ∧ (cls B W ≤ 2 → s = t ∧ P = false ∧ M = false ∧ Z = false) := by
   by_cases hc3 : cls B W < 3
   ·rw [if_pos hc3] at hV
    by_cases hc0 : cls B W = 0
    ·have hV0 : V = 0 := by rw [hV]; exact zv_nought W B hW B1 B2 hc0
     have e0 : t = ⟨false, [], 0⟩ := by
      have h := ht
      rw [hV0, Int.mul_zero] at h
      exact h.one dn_zero
     refine ⟨⟨false, [], 0⟩, false, false, false, fun u ao c k h => ?_, fun _ => ⟨e0.symm, rfl, rfl, rfl⟩⟩
     refine (times_nought W B hW vB hc0 hr ao c u h).mono ?_
     rintro e w' ⟨rfl, k9⟩
     exact ⟨none, 0, rfl, sl_none _, k9⟩
    ·have ht2 : DN (sI z N * zv W B) t := by rw [← hV]; exact ht
     refine ⟨t, false, false, false, fun u ao c k h => ?_, fun _ => ⟨rfl, rfl, rfl, rfl⟩⟩
     refine (times_dn W B hW B1 B2 vB (by have := (cls_range9 B W).1; omega) hr hZN ht2 ao c u (hT.kept k) h).mono ?_
     rintro e w' ⟨un, ua, ul, uc, ux, rfl, hN, k9⟩
     obtain ⟨rfl, rfl, rfl, -, h9⟩ := hN.parts
     exact ⟨ua, uc, rfl, h9, k9⟩
   ·obtain ⟨P, M, Z, hS⟩ := times_special W B hW B1 B2 vB hc3
    have hz0 : ∀ k, sI z k = 0 := fun k => by
     have : z = fun _ => 0 := by
      rw [hz]
      funext j
      unfold zI
      rw [if_neg (fun h => hc3 h.2)]
     rw [this]
     induction k with
     | zero => rfl
     | succ k ih => simp only [sI]; rw [ih]; rfl
    have e0 : r = ⟨false, [], 0⟩ := by
     have h := hr
     rw [hz0, Int.zero_mul] at h
     exact h.one dn_zero
    refine ⟨⟨false, [], 0⟩, P, M, Z, fun u ao c k h => ?_, fun h => absurd h (by omega)⟩
    subst e0
    refine (hS ao c u h).mono ?_
    rintro e w' ⟨rfl, k9⟩
    exact ⟨none, 0, rfl, sl_none _, k9⟩
  obtain ⟨s, P, M, Z, hS, hE⟩ := key
  refine ⟨s, g, P, M, Z, mnsN W, hS, fun u ao c k h => times_nought W 0 hW v0 c0 hr ao c u h, fun u => fromMns W hW u, fun u ao c k h => times_dn W (mnsN W) hW q1 q2 q3 (.inr q4) hr hZN hg2 ao c u (hT.kept k) h, fun u ao c k h => times_dn W (mnsN W) hW q1 q2 q3 (.inr q4) hg3 (by rw [Int.natAbs_neg]; exact hZN) hr2 ao c u (hT.kept k) h, fun u ao c hc k h => accNeg_dn hr hg ao c hc u (hT.kept k) h, fun u => accSame_true ⟨false, [], 0⟩ (by decide) false false false none none 0 0 u (sl_none u) (sl_none u), fun u ao bo c d h h' => accSame_true r (by have := hr.rg.2; omega) false false false ao bo c d u h h', fun u ao bo c d h h' => accSame_true g (by have := hg.rg.2; omega) false false false ao bo c d u h h', fun u ao bo c d hc h h' => ?_⟩
  obtain ⟨rfl, rfl, rfl, rfl⟩ := hE hc
  exact accSame_true s (by have := ht.rg.2; omega) false false false ao bo c d u h h'
 clear hT HI0 hzb hx hz hVb hV hY fy1 fy2 hp74
 obtain ⟨t0, ht0⟩ : ∃ t, t = w0 % 2 := ⟨_, rfl⟩
 have eww1 : bits .and .i64 w0 1 = t0 := by rw [and_one, ht0]
 have eww2 : IntKind.i64.wrap (32 * t0) = 32 * t0 := by rw [wrap_i64]; omega
 have eww3 : IntKind.i64.wrap (32 + 32 * t0) = W := by
  rw [eW, ht0, wrap_i64]
  unfold wdI
  split <;> omega
 have KCB : Hid (∀ u, Calls Tryz.prog 26 #[.int .i64 B, .int .i64 W] u fun e w' => e = .returned (.int .i64 (cls B W)) ∧ Kept u w') := fun u => class_any B W u
 obtain ⟨cB, hcB⟩ : ∃ c, c = cls B W := ⟨_, rfl⟩
 rw [← hcB] at KE KCB
 have hgo : (W = 64 ∧ b0 = B) ∨ (W = 32 ∧ bits .and .i64 b0 4294967295 = B) := by
  rcases hW with h | h
  ·rw [if_neg (by omega)] at eB
   exact .inl ⟨h, eB.symm⟩
  ·rw [if_pos h] at eB
   exact .inr ⟨h, by rw [mask32, eB]⟩
 clear eW eB ht0 hW B1 B2 vB hcB
 obtain ⟨D, hD⟩ : ∃ D, D = (w.alloc (.cells #[.bool false, .slice none 0 0, .int .i64 0, .bool false, .bool false, .bool false] 26)).alloc (.cells #[.bool false, .slice none 0 0, .int .i64 0, .bool false, .bool false, .bool false] 26) := ⟨_, rfl⟩
 have kD : Kept w D := by rw [hD]; exact ((Kept.refl w).alloc _ _).alloc _ _
 obtain ⟨Ba, hBa⟩ : ∃ B, B = w.heap.size := ⟨_, rfl⟩
 obtain ⟨Bc, hBc⟩ : ∃ B, B = w.heap.size + 1 := ⟨_, rfl⟩
 obtain ⟨lo, hlo⟩ : ∃ B, B = w.heap.size + 2 := ⟨_, rfl⟩
 have hDs : D.heap.size = lo := by rw [hD, hlo]; simp
 have box0 : ∀ B, (B = Ba ∨ B = Bc) → Box D lo B ⟨false, [], 0⟩ false false false none 0 := fun B hB => by
  have hlt : B < D.heap.size := by omega
  refine ⟨?_, ?_, ?_, ?_, ?_, ?_, fun o => ?_, hlt, fun _ => rfl, sl_none _, fun b off e => by cases e⟩
  all_goals
   rw [hD]
   rcases hB with rfl | rfl
   ·rw [hBa]; simp [go_sem]
   ·rw [hBc]; simp [go_sem]
 have ba := box0 Ba (.inl rfl)
 have bc := box0 Bc (.inr rfl)
 have o1 : w.heap.size ≤ Ba := by omega
 have o2 : w.heap.size ≤ Bc := by omega
 have l1 : Ba < lo := by omega
 have l2 : Bc < lo := by omega
 have ne1 : Ba ≠ Bc := by omega
 have dz : ∀ c : Int, DN (sI z 0 * c) ⟨false, [], 0⟩ := fun c => by rw [show sI z 0 = 0 from rfl, Int.zero_mul]; exact dn_zero
 clear box0
 rcases hgo with ⟨rfl, rfl⟩ | ⟨rfl, ebB⟩
 all_goals
  go_enter Tryz.func8, Tryz.ntmps8
  go_upto_region 7 with fail
  rw [← hD, ← hBc, ← hBa]
  clear hD hBa hBc hlo
  go_wp2_with fail
  go_loopw [9] (fun t9 wr => ∃ (k : Nat) (r t : Nm) (aa ac : Option Addr) (ca cc : Nat), k ≤ N ∧ t9 = .int .i64 k ∧ Kept w wr ∧ lo ≤ wr.heap.size ∧ Box wr lo Ba r false false false aa ca ∧ Box wr lo Bc t false false false ac cc ∧ DN (sI z k * p74) r ∧ DN (sI z k * V) t) (fun i _ => N - (intOf i).toNat)
  case atStart => exact ⟨0, _, _, _, _, _, _, Nat.zero_le _, rfl, kD, Nat.le_of_eq hDs.symm, ba, bc, dz _, dz _⟩
  case round =>
   obtain ⟨k, r, t, aa, ac, ca, cc, hk, rfl, kr, hsz, ba1, bc1, da, dc⟩ := hrel
   clear ba bc kD hDs
   by_cases hkn : k < N
   ·obtain ⟨q, hq⟩ := dn_some (sI z (k + 1) * p74) (HB.out (k + 1) hkn).1
    obtain ⟨s, hs⟩ := dn_some (sI z (k + 1) * V) (HB.out (k + 1) hkn).2.1
    obtain ⟨b, off, rfl, -⟩ := HI.out _ kr k hkn
    have HIk : Hid (∀ u, Kept w u → Kept w u ∧ u.cell? ⟨b, off + k * 4, none⟩ = some (.int .i64 (fk k)) ∧ u.cell? ⟨b, off + k * 4 + 1, none⟩ = some (.int .i64 (fx k)) ∧ u.cell? ⟨b, off + k * 4 + 2, none⟩ = some (.int .i64 (fy k)) ∧ u.cell? ⟨b, off + k * 4 + 3, none⟩ = some (.int .i64 (fw k))) := fun u ku => by
     obtain ⟨b', off', e, hh⟩ := HI.out u ku k hkn
     cases e
     exact ⟨ku, hh⟩
    obtain ⟨rx, rm, ex, hX, hE⟩ := KK.out k hkn r q t s da hq dc hs
    have KPx : Hid (∀ (u : World), Calls Tryz.prog 15 #[.int .i64 (fx k), .int .i64 (fw k)] u fun e w' => e = .returned (.int .i64 (ptI (fx k) (fw k))) ∧ Kept u w') := fun u => KP.out _ _ u
    have vk0 : Hid (z k = 0 → DN (sI z (k + 1) * p74) r ∧ DN (sI z (k + 1) * V) t) := fun h => by simp only [sI]; rw [h, Int.add_zero]; exact ⟨da, dc⟩
    clear HI KP HB KE KL KK HZ KCB dz
    obtain ⟨X1, hX1⟩ : ∃ t, t = fx k := ⟨_, rfl⟩
    obtain ⟨X2, hX2⟩ : ∃ t, t = fy k := ⟨_, rfl⟩
    obtain ⟨X3, hX3⟩ : ∃ t, t = fw k := ⟨_, rfl⟩
    obtain ⟨px, hpx⟩ : ∃ t, t = ptI X1 X3 := ⟨_, rfl⟩
    obtain ⟨n, hn⟩ : ∃ t, t = wdI X3 := ⟨_, rfl⟩
    rw [← hX1, ← hX3, ← hpx] at KPx
    rw [← hX1, ← hX2, ← hX3] at HIk
    rw [← hX1, ← hX3, ← hpx, ← hn] at hX
    rw [← hX1, ← hX3, ← hpx, ← hn] at hE
    obtain ⟨t', ht⟩ : ∃ t, t = X3 % 2 := ⟨_, rfl⟩
    have ew1 : bits .and .i64 X3 1 = t' := by rw [and_one, ht]
    have ew2 : IntKind.i64.wrap (32 * t') = 32 * t' := by rw [wrap_i64]; omega
    have ew3 : IntKind.i64.wrap (32 + 32 * t') = n := by
     rw [hn, ht, wrap_i64]
     unfold wdI
     split <;> omega
    clear hX1 hX2 hX3 hpx hn ht
    have HX : Hid (∀ u, Kept w u → _) := hX
    clear hX
    go_upto_region 10 with fail
    have HSa : Hid (∀ u, Kept wr u → (Kept w u ∧ Kept wr u) ∧ u.cell? ⟨b, off + k * 4, none⟩ = some (.int .i64 (fk k)) ∧ u.cell? ⟨b, off + k * 4 + 1, none⟩ = some (.int .i64 X1) ∧ u.cell? ⟨b, off + k * 4 + 2, none⟩ = some (.int .i64 X2) ∧ u.cell? ⟨b, off + k * 4 + 3, none⟩ = some (.int .i64 X3)) := fun u ku => ⟨⟨kr.trans ku, ku⟩, (HIk.out u (kr.trans ku)).2⟩
    refine wp_region_held_drew (S := fun u => (Kept w u ∧ Kept wr u) ∧ u.cell? ⟨b, off + k * 4, none⟩ = some (.int .i64 (fk k)) ∧ u.cell? ⟨b, off + k * 4 + 1, none⟩ = some (.int .i64 X1) ∧ u.cell? ⟨b, off + k * 4 + 2, none⟩ = some (.int .i64 X2) ∧ u.cell? ⟨b, off + k * 4 + 3, none⟩ = some (.int .i64 X3)) (by kernel_rfl) (HSa.out _ (Kept.refl _).drew) (fun hHeld => ?_)
    refine tk (i := 0) (v := ?_) rfl ?_
    simp only [Act.put, zA, zB, zC, zD, zE, zF]
    refine tk (i := 1) (v := ?_) rfl ?_
    simp only [Act.put, zA, zB, zC, zD, zE, zF]
    refine tk (i := 2) (v := ?_) rfl ?_
    simp only [Act.put, zA, zB, zC, zD, zE, zF]
    refine tk (i := 3) (v := ?_) rfl ?_
    simp only [Act.put, zA, zB, zC, zD, zE, zF]
    refine tk (i := 4) (v := ?_) rfl ?_
    simp only [Act.put, zA, zB, zC, zD, zE, zF]
    refine tk (i := 5) (v := ?_) rfl ?_
    simp only [Act.put, zA, zB, zC, zD, zE, zF]
    refine tk (i := 6) (v := ?_) rfl ?_
    simp only [Act.put, zA, zB, zC, zD, zE, zF]
    refine tk (i := 7) (v := ?_) rfl ?_
    simp only [Act.put, zA, zB, zC, zD, zE, zF]
    refine tk (i := 8) (v := ?_) rfl ?_
    simp only [Act.put, zA, zB, zC, zD, zE, zF]
    refine tk (i := 9) (v := ?_) rfl ?_
    simp only [Act.put, zA, zB, zC, zD, zE, zF]
    refine wpAnyH_ready (rs := [10]) (by kernel_rfl) (by simp) ?_
    refine AllReadyH.cons rfl (fun K hK9 => ?_) AllReadyH.nil
    go_simp
    go_wp2_with fail
    refine (KPx.out _).mono ?_
    rintro e ua ⟨rfl, ka⟩
    have ea := HSa.out _ (hHeld.1.2.trans ka)
    refine hK9.out _ _ ea (fun hHelda => ?_)
    clear hK9 K
    refine tk (i := 11) (v := ?_) rfl ?_
    simp only [Act.put, zA, zB, zC, zD, zE, zF]
    refine wpAnyH_done (by kernel_rfl) ?_ _
    have kub : Kept wr ua := hHelda.1.2
    have kzb : Kept w ua := hHelda.1.1
    obtain ⟨-, i0, i1, i2, i3⟩ := hHelda
    clear hHeld ka ea HSa HIk KPx
    go_upto_region 12 with fail
    clear i0 i1 i2 i3
    go_wp2_with fail
    refine (HX.out _ kzb).mono ?_
    rintro e u1 ⟨xa, xc, rfl, sx, k1⟩
    obtain ⟨Bx, hBx⟩ : ∃ B, B = u1.heap.size := ⟨_, rfl⟩
    obtain ⟨E1, hE1⟩ : ∃ D, D = u1.alloc (.cells #[.bool rx.neg, .slice xa rx.mag.length xc, .int .i64 rx.exp] 24) := ⟨_, rfl⟩
    have kE1 : Kept ua E1 := by rw [hE1]; exact k1.alloc _ _
    have HRx : Hid (∀ u, Kept E1 u → _) := fun u ku => laid3n (.bool rx.neg) (.slice xa rx.mag.length xc) (.int .i64 rx.exp) 24 Bx hBx (by rw [hE1]; exact Kept.refl _) u ku
    have sx1 : Hid (∀ u, Kept E1 u → Sl u (.slice xa rx.mag.length xc) rx.mag) := fun u ku => (sx.out.kept (by rw [hE1]; exact (Kept.refl _).alloc _ _)).kept ku
    go_upto_region 13 with fail
    rw [← hBx, ← hE1]
    clear hBx hE1 sx k1 HX
    go_wp2_with fail
    refine (KY.out _ (kzb.trans kE1)).mono ?_
    rintro e u2 ⟨ya, yc, rfl, sy, k2⟩
    obtain ⟨By, hBy⟩ : ∃ B, B = u2.heap.size := ⟨_, rfl⟩
    obtain ⟨E2, hE2⟩ : ∃ D, D = u2.alloc (.cells #[.bool ry.neg, .slice ya ry.mag.length yc, .int .i64 ry.exp] 24) := ⟨_, rfl⟩
    have kE2 : Kept E1 E2 := by rw [hE2]; exact k2.alloc _ _
    have HRy : Hid (∀ u, Kept E2 u → _) := fun u ku => laid3n (.bool ry.neg) (.slice ya ry.mag.length yc) (.int .i64 ry.exp) 24 By hBy (by rw [hE2]; exact Kept.refl _) u ku
    have sy1 : Hid (∀ u, Kept E2 u → Sl u (.slice ya ry.mag.length yc) ry.mag) := fun u ku => (sy.out.kept (by rw [hE2]; exact (Kept.refl _).alloc _ _)).kept ku
    go_upto_region 14 with fail
    rw [← hBy, ← hE2]
    clear hBy hE2 sy k2 KY
    have kwE : Kept wr E2 := kub.trans (kE1.trans kE2)
    have kzE : Kept w E2 := kzb.trans (kE1.trans kE2)
    have bx2 := ba1.kept kwE
    have by2 := bc1.kept kwE
    have hs2 : lo ≤ E2.heap.size := Nat.le_trans hsz kwE.below.size
    clear ba1 bc1 kub kzb kE1 kwE
    rcases hE with ⟨hne, hv0⟩ | ⟨⟨rfl, rfl⟩, hM, hA, hP⟩
    ·have hgo : (ex != 0 || ey != 0) = true := by rcases hne with h | h <;> simp [h]
     obtain ⟨da2, dc2⟩ := vk0.out hv0
     cases hx0 : (ex != 0)
     ·have hy0 : (ey != 0) = true := by rw [hx0] at hgo; simpa using hgo
      go_wp2_with fail
      go_roundw
      case rel => exact ⟨k + 1, r, t, aa, ac, ca, cc, hkn, by go_num, kzE, hs2, bx2, by2, da2, dc2⟩
      case measure => simp [intOf]; omega
     ·go_wp2_with fail
      go_roundw
      case rel => exact ⟨k + 1, r, t, aa, ac, ca, cc, hkn, by go_num, kzE, hs2, bx2, by2, da2, dc2⟩
      case measure => simp [intOf]; omega
    ·have HM : Hid (∀ u ao bo c d, Kept w u → _) := hM
     have HA : Hid (∀ u ao c, Kept w u → _) := hA
     have HP : Hid (∀ u ao bo c d, Kept w u → _) := hP
     clear hM hA hP
     obtain ⟨x0, x1, x2⟩ := HRx.out _ kE2
     obtain ⟨y0, y1, y2⟩ := HRy.out _ (Kept.refl _)
     go_wp2_with fail
     refine (HM.out _ _ _ _ _ kzE (sx1.out _ kE2) (sy1.out _ (Kept.refl _))).mono ?_
     rintro e u3 ⟨mn, ma, ml, mc, mx, rfl, hNm, k3⟩
     have hmb := new_hi hNm
     obtain ⟨rfl, rfl, rfl, -, sm0⟩ := hNm.parts
     have sm : Hid (Sl u3 (.slice ma rm.mag.length mc) rm.mag) := sm0
     clear hNm sm0
     clear x0 x1 x2 y0 y1 y2 HRx HRy sx1 sy1 HM
     obtain ⟨Bm, hBm⟩ : ∃ B, B = u3.heap.size := ⟨_, rfl⟩
     obtain ⟨E3, hE3⟩ : ∃ D, D = u3.alloc (.cells #[.bool rm.neg, .slice ma rm.mag.length mc, .int .i64 rm.exp] 24) := ⟨_, rfl⟩
     have kE3 : Kept E2 E3 := by rw [hE3]; exact k3.alloc _ _
     have HRm : Hid (∀ u, Kept E3 u → _) := fun u ku => laid3n (.bool rm.neg) (.slice ma rm.mag.length mc) (.int .i64 rm.exp) 24 Bm hBm (by rw [hE3]; exact Kept.refl _) u ku
     have sm1 : Hid (∀ u, Kept E3 u → Sl u (.slice ma rm.mag.length mc) rm.mag) := fun u ku => (sm.out.kept (by rw [hE3]; exact (Kept.refl _).alloc _ _)).kept ku
     go_upto_region 16 with fail
     rw [← hBm, ← hE3]
     have hBlo : lo ≤ Bm := by rw [hBm]; exact Nat.le_trans hs2 k3.below.size
     clear hBm hE3 sm k3
     have bx3 := bx2.kept kE3
     have by3 := by2.kept kE3
     have hs3 : lo ≤ E3.heap.size := Nat.le_trans hs2 kE3.below.size
     have kz3 : Kept w E3 := kzE.trans kE3
     clear bx2 by2
     have g0 := bx3.c0
     have g1 := bx3.c1
     have g2 := bx3.c2
     have g3 := bx3.c3
     have g4 := bx3.c4
     have g5 := bx3.c5
     go_wp2_with fail
     refine (HA.out _ _ _ kz3 bx3.sl).mono ?_
     rintro e u4 ⟨un, ua4, ul, uc4, ux, rfl, hN4, k4⟩
     clear g0 g1 g2 g3 g4 g5 HA
     have bx4 := bx3.kept k4
     have by4 := by3.kept k4
     have g0 := bx4.c0
     have g1 := bx4.c1
     have g2 := bx4.c2
     have g3 := bx4.c3
     have g4 := bx4.c4
     have g5 := bx4.c5
     have g6 := bx4.fz
     go_upto_region 17 with fail
     obtain ⟨E4, hE4⟩ : ∃ D, D = Go.Proofs.YtoflafgbbjinpaaGreatDoor.six u4 Ba (.bool un) (.slice ua4 ul uc4) (.int .i64 ux) (.bool false) (.bool false) (.bool false) := ⟨_, rfl⟩
     have e4 := hE4
     unfold Go.Proofs.YtoflafgbbjinpaaGreatDoor.six at e4
     rw [← e4]
     have bx5 : Box E4 lo Ba q false false false ua4 uc4 := by rw [hE4]; exact bx4.new l1 hs3 un ua4 ul uc4 ux hN4 false false false
     have by5 : Box E4 lo Bc t false false false ac cc := by rw [hE4]; exact by4.six Ba ne1 l1 _ _ _ _ _ _
     have kz5 : Kept w E4 := by rw [hE4]; exact kept_six1 Ba o1 (kz3.trans k4) _ _ _ _ _ _
     have HR5 : Hid (E4.cell? ⟨Bm, 0, none⟩ = some (.bool rm.neg) ∧ E4.cell? ⟨Bm, 1, none⟩ = some (.slice ma rm.mag.length mc) ∧ E4.cell? ⟨Bm, 2, none⟩ = some (.int .i64 rm.exp)) := by
      have hne : Bm ≠ Ba := by omega
      rw [hE4]
      obtain ⟨q0, q1, q2⟩ := HRm.out _ k4
      refine ⟨?_, ?_, ?_⟩
      ·simp [go_sem, hne, q0]
      ·simp [go_sem, hne, q1]
      ·simp [go_sem, hne, q2]
     have sm5 : Sl E4 (.slice ma rm.mag.length mc) rm.mag := by
      rw [hE4]
      exact sl_six (sm1.out _ k4) Ba (fun b off e hne => by have := hmb b off e hne; omega) _ _ _ _ _ _
     have hs5 : lo ≤ E4.heap.size := by
      have := k4.below.size
      rw [hE4]
      simp
      omega
     clear hE4 e4 by4 bx4 by3 bx3 g0 g1 g2 g3 g4 g5 g6 hN4 k4 HRm sm1
     have g0 := by5.c0
     have g1 := by5.c1
     have g2 := by5.c2
     have g3 := by5.c3
     have g4 := by5.c4
     have g5 := by5.c5
     obtain ⟨y0, y1, y2⟩ := HR5.out
     go_wp2_with fail
     refine (HP.out _ _ _ _ _ kz5 by5.sl sm5).mono ?_
     rintro e u6 ⟨vn, va, vl, vc, vx, rfl, hN6, k6⟩
     clear g0 g1 g2 g3 g4 g5 y0 y1 y2
     have bx6 := bx5.kept k6
     have by6 := by5.kept k6
     have g0 := by6.c0
     have g1 := by6.c1
     have g2 := by6.c2
     have g3 := by6.c3
     have g4 := by6.c4
     have g5 := by6.c5
     have g6 := by6.fz
     go_wp2_with fail
     go_roundw
     case rel =>
      refine ⟨k + 1, q, s, ua4, va, uc4, vc, hkn, by go_num, kept_six1 Bc o2 (kz5.trans k6) _ _ _ _ _ _, ?_, bx6.six Bc (Ne.symm ne1) l2 _ _ _ _ _ _, by6.new l2 hs5 vn va vl vc vx hN6 false false false, hq, hs⟩
      have := k6.below.size
      simp
      omega
     case measure => simp [intOf]; omega
   ·obtain rfl : k = N := by omega
    obtain ⟨s, g, P, M, Z, mv, hS, hO, hFm, hTm, hTb, hNg, hS0, hS1, hS2, hS3⟩ := KE.out r t da dc
    have HS : Hid (∀ u ao c, Kept w u → _) := hS
    have HO : Hid (∀ u ao c, Kept w u → _) := hO
    have HFm : Hid (∀ u, _) := hFm
    have HTm : Hid (∀ u ao c, Kept w u → _) := hTm
    have HTb : Hid (∀ u ao c, Kept w u → _) := hTb
    have HNg : Hid (∀ u ao c, (ao = none → c = 0) → Kept w u → _) := hNg
    have HS0 : Hid (∀ u, _) := hS0
    have HS1 : Hid (∀ u ao bo c d, _) := hS1
    have HS2 : Hid (∀ u ao bo c d, _) := hS2
    have HS3 : Hid (∀ u ao bo c d, cB ≤ 2 → _) := hS3
    clear KE HB HI KP KK HZ dz hS hO hFm hTm hTb hNg hS0 hS1 hS2 hS3 KY da dc
    have hca := ba1.hc
    have sl0 : Hid (∀ u, Kept wr u → Sl u (.slice aa r.mag.length ca) r.mag) := fun u ku => ba1.sl.kept ku
    have sl3 : Hid (∀ u, Kept wr u → Sl u (.slice ac t.mag.length cc) t.mag) := fun u ku => bc1.sl.kept ku
    have HB0 : Hid (∀ u, Kept wr u → u.cell? ⟨Ba, 0, none⟩ = some (.bool r.neg) ∧ u.cell? ⟨Ba, 1, none⟩ = some (.slice aa r.mag.length ca) ∧ u.cell? ⟨Ba, 2, none⟩ = some (.int .i64 r.exp) ∧ u.cell? ⟨Ba, 3, none⟩ = some (.bool false) ∧ u.cell? ⟨Ba, 4, none⟩ = some (.bool false) ∧ u.cell? ⟨Ba, 5, none⟩ = some (.bool false)) := fun u ku => ⟨(ba1.kept ku).c0, (ba1.kept ku).c1, (ba1.kept ku).c2, (ba1.kept ku).c3, (ba1.kept ku).c4, (ba1.kept ku).c5⟩
    have HB3 : Hid (∀ u, Kept wr u → u.cell? ⟨Bc, 0, none⟩ = some (.bool t.neg) ∧ u.cell? ⟨Bc, 1, none⟩ = some (.slice ac t.mag.length cc) ∧ u.cell? ⟨Bc, 2, none⟩ = some (.int .i64 t.exp) ∧ u.cell? ⟨Bc, 3, none⟩ = some (.bool false) ∧ u.cell? ⟨Bc, 4, none⟩ = some (.bool false) ∧ u.cell? ⟨Bc, 5, none⟩ = some (.bool false)) := fun u ku => ⟨(bc1.kept ku).c0, (bc1.kept ku).c1, (bc1.kept ku).c2, (bc1.kept ku).c3, (bc1.kept ku).c4, (bc1.kept ku).c5⟩
    clear ba1 bc1
    obtain ⟨c0, c1, c2, c3, c4, c5⟩ := HB0.out _ (Kept.refl _)
    go_wp2_with fail
    refine (HS.out _ _ _ kr (sl0.out _ (Kept.refl _))).mono ?_
    rintro e w1 ⟨ta, tc, rfl, st, k1⟩
    clear c0 c1 c2 c3 c4 c5
    obtain ⟨Bt, hBt⟩ : ∃ B, B = w1.heap.size := ⟨_, rfl⟩
    obtain ⟨D1, hD1⟩ : ∃ D, D = w1.alloc (.cells #[.bool s.neg, .slice ta s.mag.length tc, .int .i64 s.exp, .bool P, .bool M, .bool Z] 26) := ⟨_, rfl⟩
    have kD1 : Kept wr D1 := by rw [hD1]; exact k1.alloc _ _
    have HRt : Hid (∀ u, Kept D1 u → _) := fun u ku => acc_cells1 s.neg (.slice ta s.mag.length tc) s.exp P M Z 26 Bt hBt (by rw [hD1]; exact Kept.refl _) u ku
    have st1 : Hid (∀ u, Kept D1 u → Sl u (.slice ta s.mag.length tc) s.mag) := fun u ku => (st.out.kept (by rw [hD1]; exact (Kept.refl _).alloc _ _)).kept ku
    go_upto_region 19 with fail
    rw [← hBt, ← hD1]
    clear hBt hD1 st k1
    obtain ⟨c0, c1, c2, c3, c4, c5⟩ := HB0.out _ kD1
    go_wp2_with fail
    refine (HO.out _ _ _ (kr.trans kD1) (sl0.out _ kD1)).mono ?_
    rintro e w2 ⟨rfl, k2⟩
    clear c0 c1 c2 c3 c4 c5
    obtain ⟨Bz, hBz⟩ : ∃ B, B = w2.heap.size := ⟨_, rfl⟩
    obtain ⟨D2, hD2⟩ : ∃ D, D = w2.alloc (.cells #[.bool false, .slice none 0 0, .int .i64 0, .bool false, .bool false, .bool false] 26) := ⟨_, rfl⟩
    have kD2 : Kept D1 D2 := by rw [hD2]; exact k2.alloc _ _
    have HRz : Hid (∀ u, Kept D2 u → _) := fun u ku => acc_cells1 false (.slice none 0 0) 0 false false false 26 Bz hBz (by rw [hD2]; exact Kept.refl _) u ku
    go_upto_region 20 with fail
    rw [← hBz, ← hD2]
    clear hBz hD2 k2
    have k02 : Kept wr D2 := kD1.trans kD2
    have HQm : Hid (∀ u, Kept D2 u → Kept D2 u ∧ u.cell? ⟨Ba, 0, none⟩ = some (.bool r.neg) ∧ u.cell? ⟨Ba, 1, none⟩ = some (.slice aa r.mag.length ca) ∧ u.cell? ⟨Ba, 2, none⟩ = some (.int .i64 r.exp) ∧ u.cell? ⟨Ba, 3, none⟩ = some (.bool false) ∧ u.cell? ⟨Ba, 4, none⟩ = some (.bool false) ∧ u.cell? ⟨Ba, 5, none⟩ = some (.bool false)) := fun u ku => ⟨ku, HB0.out u (k02.trans ku)⟩
    go_cut [22, 23] from 115 to 122 (fun p e wx => ∃ (Bk : Nat) (ka : Option Addr) (kc : Nat), p = .pointer (some ⟨Bk, 0, none⟩) ∧ e = .int .i64 0 ∧ Kept D2 wx ∧ Hid (∀ u, Kept wx u → u.cell? ⟨Bk, 0, none⟩ = some (.bool g.neg) ∧ u.cell? ⟨Bk, 1, none⟩ = some (.slice ka g.mag.length kc) ∧ u.cell? ⟨Bk, 2, none⟩ = some (.int .i64 g.exp) ∧ u.cell? ⟨Bk, 3, none⟩ = some (.bool false) ∧ u.cell? ⟨Bk, 4, none⟩ = some (.bool false) ∧ u.cell? ⟨Bk, 5, none⟩ = some (.bool false)) ∧ Hid (∀ u, Kept wx u → Sl u (.slice ka g.mag.length kc) g.mag))
    case first =>
     refine wp_region_lateT [9] (fun u => Kept D2 u ∧ u.cell? ⟨Ba, 0, none⟩ = some (.bool r.neg) ∧ u.cell? ⟨Ba, 1, none⟩ = some (.slice aa r.mag.length ca) ∧ u.cell? ⟨Ba, 2, none⟩ = some (.int .i64 r.exp) ∧ u.cell? ⟨Ba, 3, none⟩ = some (.bool false) ∧ u.cell? ⟨Ba, 4, none⟩ = some (.bool false) ∧ u.cell? ⟨Ba, 5, none⟩ = some (.bool false)) (fun _ => True) (by kernel_rfl) (HQm.out _ (Kept.refl _).drew) trivial (fun hHeld _ => ?_)
     refine wpAnyT_take (i := 0) (v := ?_) rfl (by kernel_rfl) (by kernel_rfl) (by kernel_rfl) (by kernel_rfl) (fun _ _ _ h => h) (Or.inl ⟨by rfl, ?hym0⟩) hHeld trivial ?_
     case hym0 => (intro w hSw; (try dsimp only at hSw); go_simp; try (with_reducible rfl))
     (try simp only [Act.put, zA, zB, zC, zD, zE, zF])
     refine wpAnyT_take (i := 1) (v := ?_) rfl (by kernel_rfl) (by kernel_rfl) (by kernel_rfl) (by kernel_rfl) (fun _ _ _ h => h) (Or.inl ⟨by rfl, ?hym1⟩) hHeld trivial ?_
     case hym1 => (intro w hSw; (try dsimp only at hSw); go_simp; try (with_reducible rfl))
     (try simp only [Act.put, zA, zB, zC, zD, zE, zF])
     refine wpAnyT_take (i := 3) (v := ?_) rfl (by kernel_rfl) (by kernel_rfl) (by kernel_rfl) (by kernel_rfl) (fun _ _ _ h => h) (Or.inl ⟨by rfl, ?hym3⟩) hHeld trivial ?_
     case hym3 => (intro w hSw; (try dsimp only at hSw); go_simp; try (with_reducible rfl))
     (try simp only [Act.put, zA, zB, zC, zD, zE, zF])
     refine wpAnyT_fork (i := 2) (j := 8) (by kernel_rfl) rfl rfl (fun K hK9 => ?_) (fun K hK9 => ?_)
     ·skip
      go_simp
      go_wp2_with fail
      refine (HFm.out _).mono ?_
      rintro e uc2 ⟨rfl, kc2⟩
      refine hK9.out _ _ (HQm.out _ (hHeld.1.trans kc2)) trivial (fun hc2 _ => ?_)
      clear hK9 K
      refine wpAnyT_fork (i := 4) (j := 8) (by kernel_rfl) rfl rfl (fun K hK9 => ?_) (fun K hK9 => ?_)
      ·skip
       go_simp
       go_wp2_with fail
       refine (HTm.out _ _ _ ((kr.trans k02).trans hc2.1) (sl0.out _ (k02.trans hc2.1))).mono ?_
       rintro e uc4 ⟨xn, xa, xl, xc, xx, rfl, hNc4, kc4⟩
       refine hK9.out _ _ (HQm.out _ (hc2.1.trans kc4)) trivial (fun hc4 _ => ?_)
       clear hK9 K
       refine wpAnyT_take (i := 5) (v := ?_) rfl (by kernel_rfl) (by kernel_rfl) (by kernel_rfl) (by kernel_rfl) (fun _ _ _ h => h) (Or.inl ⟨by rfl, ?hymm5⟩) hc4 trivial ?_
       case hymm5 => (intro w hSw; (try dsimp only at hSw); go_simp; try (with_reducible rfl))
       (try simp only [Act.put, zA, zB, zC, zD, zE, zF])
       refine wpAnyT_take (i := 6) (v := ?_) rfl (by kernel_rfl) (by kernel_rfl) (by kernel_rfl) (by kernel_rfl) (fun _ _ _ h => h) (Or.inl ⟨by rfl, ?hymm6⟩) hc4 trivial ?_
       case hymm6 => (intro w hSw; (try dsimp only at hSw); go_simp; try (with_reducible rfl))
       (try simp only [Act.put, zA, zB, zC, zD, zE, zF])
       refine wpAnyT_take2 (i := 7) (v := ?_) rfl (by kernel_rfl) (by kernel_rfl) (by kernel_rfl) (by kernel_rfl) (fun _ _ _ h => h) (Or.inl ⟨by rfl, ?hymm7⟩) (fun _ => hc4) trivial ?_
       case hymm7 => (intro w hSw; (try dsimp only at hSw); go_simp; try (with_reducible rfl))
       (try simp only [Act.put, zA, zB, zC, zD, zE, zF])
       refine wpAnyT_step (i := 8) (by kernel_rfl) rfl (fun K hK9 => ?_)
       go_simp
       refine hK9.out _ _ (HQm.out _ (hc4.1.alloc _ _)) trivial (fun hc8 _ => ?_)
       clear hK9 K
       refine wpAnyT_late (i := 9) (by kernel_rfl) rfl (by kernel_rfl) (fun K hK9 => ?_)
       go_simp
       refine hK9.out _ _ trivial (fun _ => ?_)
       clear hK9 K
       (try simp only [Act.put, zA, zB, zC, zD, zE, zF])
       refine wpAnyT_take2 (i := 10) (v := ?_) rfl (by kernel_rfl) (by kernel_rfl) (by kernel_rfl) (by kernel_rfl) (fun _ _ _ h => h) (Or.inl ⟨by rfl, ?hymz10⟩) (fun h => Bool.noConfusion (Eq.trans (Eq.symm (show anyL _ _ = true by kernel_rfl)) h)) trivial ?_
       case hymz10 => (intro w hSw; (try dsimp only at hSw); go_simp; try (with_reducible rfl))
       (try simp only [Act.put, zA, zB, zC, zD, zE, zF])
       refine wpAnyT_done (by kernel_rfl) ?_ _
       (try simp only [Act.put, zA, zB, zC, zD, zE, zF])
       obtain ⟨rfl, rfl, rfl, -, s9⟩ := hNc4.parts
       go_wp2_with fail
       go_meet
       case rel =>
        refine ⟨uc4.heap.size, xa, xc, rfl, rfl, hc4.1.alloc _ _, fun u ku => acc_cells1 g.neg (.slice xa g.mag.length xc) g.exp false false false 26 uc4.heap.size rfl (Kept.refl _) u ku, fun u ku => (s9.kept ((Kept.refl _).alloc _ _)).kept ku⟩
      ·skip
       go_simp
       refine hK9.out _ _ (HQm.out _ (hc2.1.alloc _ _)) trivial (fun hc8 _ => ?_)
       clear hK9 K
       obtain ⟨Bk, hBk⟩ : ∃ B, B = uc2.heap.size := ⟨_, rfl⟩
       obtain ⟨X9, hX9⟩ : ∃ D, D = uc2.alloc (.cells #[.bool false, .slice none 0 0, .int .i64 0, .bool false, .bool false, .bool false] 26) := ⟨_, rfl⟩
       have HR9 : Hid (∀ u, Kept X9 u → _) := acc_res1 (w := uc2) 26 Bk hBk (by rw [hX9]; exact Kept.refl _)
       have hB9 : Hid (Bk < X9.heap.size ∧ D2.heap.size ≤ Bk) := ⟨by rw [hX9, hBk]; simp, by rw [hBk]; exact hc2.1.below.size⟩
       rw [← hX9] at hc8
       rw [← hX9, ← hBk]
       clear hX9 hBk
       refine wpAnyT_step (i := 4) (by kernel_rfl) rfl (fun K hK9 => ?_)
       go_simp
       go_wp2_with fail
       refine (HTm.out _ _ _ ((kr.trans k02).trans hc8.1) (sl0.out _ (k02.trans hc8.1))).mono ?_
       rintro e uc4 ⟨xn, xa, xl, xc, xx, rfl, hNc4, kc4⟩
       refine hK9.out _ _ (HQm.out _ (hc8.1.trans kc4)) trivial (fun hc4 _ => ?_)
       clear hK9 K
       have HZ9 : Hid (X9.heap.size ≤ X9.heap.size) := Nat.le_refl X9.heap.size
       refine wpAnyT_take (i := 5) (v := ?_) rfl (by kernel_rfl) (by kernel_rfl) (by kernel_rfl) (by kernel_rfl) (fun _ _ _ h => h) (Or.inl ⟨by rfl, ?hymn5⟩) hc4 trivial ?_
       case hymn5 => (intro w hSw; (try dsimp only at hSw); go_simp; try (with_reducible rfl))
       (try simp only [Act.put, zA, zB, zC, zD, zE, zF])
       refine wpAnyT_take (i := 6) (v := ?_) rfl (by kernel_rfl) (by kernel_rfl) (by kernel_rfl) (by kernel_rfl) (fun _ _ _ h => h) (Or.inl ⟨by rfl, ?hymn6⟩) hc4 trivial ?_
       case hymn6 => (intro w hSw; (try dsimp only at hSw); go_simp; try (with_reducible rfl))
       (try simp only [Act.put, zA, zB, zC, zD, zE, zF])
       refine wpAnyT_take2 (i := 7) (v := ?_) rfl (by kernel_rfl) (by kernel_rfl) (by kernel_rfl) (by kernel_rfl) (fun _ _ _ h => h) (Or.inl ⟨by rfl, ?hymn7⟩) (fun _ => hc4) trivial ?_
       case hymn7 => (intro w hSw; (try dsimp only at hSw); go_simp; try (with_reducible rfl))
       (try simp only [Act.put, zA, zB, zC, zD, zE, zF])
       have KY9 : Kept X9 uc4 := kc4
       have hu9 : Bk < uc4.heap.size := Nat.lt_of_lt_of_le hB9.out.1 KY9.below.size
       obtain ⟨r0, r1, r2, r3, r4, r5, r6⟩ := HR9.out _ KY9
       refine wpAnyT_late (i := 9) (by kernel_rfl) rfl (by kernel_rfl) (fun K hK9 => ?_)
       go_simp
       refine hK9.out _ _ trivial (fun _ => ?_)
       clear hK9 K
       (try simp only [Act.put, zA, zB, zC, zD, zE, zF])
       refine wpAnyT_take2 (i := 10) (v := ?_) rfl (by kernel_rfl) (by kernel_rfl) (by kernel_rfl) (by kernel_rfl) (fun _ _ _ h => h) (Or.inl ⟨by rfl, ?hymz10⟩) (fun h => Bool.noConfusion (Eq.trans (Eq.symm (show anyL _ _ = true by kernel_rfl)) h)) trivial ?_
       case hymz10 => (intro w hSw; (try dsimp only at hSw); go_simp; try (with_reducible rfl))
       (try simp only [Act.put, zA, zB, zC, zD, zE, zF])
       refine wpAnyT_done (by kernel_rfl) ?_ _
       (try simp only [Act.put, zA, zB, zC, zD, zE, zF])
       have hb9 := new_hi hNc4
       obtain ⟨rfl, rfl, rfl, -, s9⟩ := hNc4.parts
       have hne9 : ∀ b off, xa = some ⟨b, off, none⟩ → g.mag ≠ [] → b ≠ Bk := fun b off e hn => by have := hb9 b off e hn; have := hB9.out; have := HZ9.out; omega
       go_wp2_with fail
       go_meet
       case rel =>
        refine ⟨Bk, xa, xc, rfl, rfl, kept_six1 Bk hB9.out.2 hc4.1 _ _ _ _ _ _, fun u ku => six_cells hu9 r0 r1 r2 r3 r4 r5 _ _ _ _ _ _ u ku, fun u ku => (sl_six s9 Bk hne9 _ _ _ _ _ _).kept ku⟩
     ·skip
      go_simp
      refine hK9.out _ _ (HQm.out _ (hHeld.1.alloc _ _)) trivial (fun hc8 _ => ?_)
      clear hK9 K
      obtain ⟨Bk, hBk⟩ : ∃ B, B = D2.heap.size := ⟨_, rfl⟩
      obtain ⟨X9, hX9⟩ : ∃ D, D = (D2.alloc (.cells #[.bool false, .slice none 0 0, .int .i64 0, .bool false, .bool false, .bool false] 26)).drew := ⟨_, rfl⟩
      have HR9 : Hid (∀ u, Kept X9 u → _) := acc_res1 (w := D2) 26 Bk hBk (by rw [hX9]; exact (Kept.refl _).drew)
      have hB9 : Hid (Bk < X9.heap.size ∧ D2.heap.size ≤ Bk) := ⟨by rw [hX9, hBk]; simp, by rw [hBk]; exact (Kept.refl D2).below.size⟩
      have kX9 : Kept D2 X9 := by rw [hX9]; exact ((Kept.refl _).alloc _ _).drew
      clear hc8
      have hc8 := HQm.out _ kX9
      rw [← hX9, ← hBk]
      clear hX9 hBk
      refine wpAnyT_step (i := 2) (by kernel_rfl) rfl (fun K hK9 => ?_)
      go_simp
      go_wp2_with fail
      refine (HFm.out _).mono ?_
      rintro e uc2 ⟨rfl, kc2⟩
      refine hK9.out _ _ (HQm.out _ (hc8.1.trans kc2)) trivial (fun hc2 _ => ?_)
      clear hK9 K
      have HZ9 : Hid (X9.heap.size ≤ uc2.heap.size) := kc2.below.size
      refine wpAnyT_step (i := 4) (by kernel_rfl) rfl (fun K hK9 => ?_)
      go_simp
      go_wp2_with fail
      refine (HTm.out _ _ _ ((kr.trans k02).trans hc2.1) (sl0.out _ (k02.trans hc2.1))).mono ?_
      rintro e uc4 ⟨xn, xa, xl, xc, xx, rfl, hNc4, kc4⟩
      refine hK9.out _ _ (HQm.out _ (hc2.1.trans kc4)) trivial (fun hc4 _ => ?_)
      clear hK9 K
      refine wpAnyT_take (i := 5) (v := ?_) rfl (by kernel_rfl) (by kernel_rfl) (by kernel_rfl) (by kernel_rfl) (fun _ _ _ h => h) (Or.inl ⟨by rfl, ?hymo5⟩) hc4 trivial ?_
      case hymo5 => (intro w hSw; (try dsimp only at hSw); go_simp; try (with_reducible rfl))
      (try simp only [Act.put, zA, zB, zC, zD, zE, zF])
      refine wpAnyT_take (i := 6) (v := ?_) rfl (by kernel_rfl) (by kernel_rfl) (by kernel_rfl) (by kernel_rfl) (fun _ _ _ h => h) (Or.inl ⟨by rfl, ?hymo6⟩) hc4 trivial ?_
      case hymo6 => (intro w hSw; (try dsimp only at hSw); go_simp; try (with_reducible rfl))
      (try simp only [Act.put, zA, zB, zC, zD, zE, zF])
      refine wpAnyT_take2 (i := 7) (v := ?_) rfl (by kernel_rfl) (by kernel_rfl) (by kernel_rfl) (by kernel_rfl) (fun _ _ _ h => h) (Or.inl ⟨by rfl, ?hymo7⟩) (fun _ => hc4) trivial ?_
      case hymo7 => (intro w hSw; (try dsimp only at hSw); go_simp; try (with_reducible rfl))
      (try simp only [Act.put, zA, zB, zC, zD, zE, zF])
      have KY9 : Kept X9 uc4 := kc2.trans kc4
      have hu9 : Bk < uc4.heap.size := Nat.lt_of_lt_of_le hB9.out.1 KY9.below.size
      obtain ⟨r0, r1, r2, r3, r4, r5, r6⟩ := HR9.out _ KY9
      refine wpAnyT_late (i := 9) (by kernel_rfl) rfl (by kernel_rfl) (fun K hK9 => ?_)
      go_simp
      refine hK9.out _ _ trivial (fun _ => ?_)
      clear hK9 K
      (try simp only [Act.put, zA, zB, zC, zD, zE, zF])
      refine wpAnyT_take2 (i := 10) (v := ?_) rfl (by kernel_rfl) (by kernel_rfl) (by kernel_rfl) (by kernel_rfl) (fun _ _ _ h => h) (Or.inl ⟨by rfl, ?hymz10⟩) (fun h => Bool.noConfusion (Eq.trans (Eq.symm (show anyL _ _ = true by kernel_rfl)) h)) trivial ?_
      case hymz10 => (intro w hSw; (try dsimp only at hSw); go_simp; try (with_reducible rfl))
      (try simp only [Act.put, zA, zB, zC, zD, zE, zF])
      refine wpAnyT_done (by kernel_rfl) ?_ _
      (try simp only [Act.put, zA, zB, zC, zD, zE, zF])
      have hb9 := new_hi hNc4
      obtain ⟨rfl, rfl, rfl, -, s9⟩ := hNc4.parts
      have hne9 : ∀ b off, xa = some ⟨b, off, none⟩ → g.mag ≠ [] → b ≠ Bk := fun b off e hn => by have := hb9 b off e hn; have := hB9.out; have := HZ9.out; omega
      go_wp2_with fail
      go_meet
      case rel =>
       refine ⟨Bk, xa, xc, rfl, rfl, kept_six1 Bk hB9.out.2 hc4.1 _ _ _ _ _ _, fun u ku => six_cells hu9 r0 r1 r2 r3 r4 r5 _ _ _ _ _ _ u ku, fun u ku => (sl_six s9 Bk hne9 _ _ _ _ _ _).kept ku⟩
    case rest =>
     obtain ⟨Bm, ma, mc, rfl, rfl, kD3, HRm, sm1⟩ := hcut
     obtain ⟨D3, hD3⟩ : ∃ D, D = wc := ⟨_, rfl⟩
     rw [← hD3] at kD3 HRm sm1
     rw [← hD3]
     clear hD3
     have k03 : Kept wr D3 := k02.trans kD3
     go_upto_region 21 with fail
     have HQb : Hid (∀ u, Kept D3 u → Kept D3 u ∧ u.cell? ⟨Bm, 0, none⟩ = some (.bool g.neg) ∧ u.cell? ⟨Bm, 1, none⟩ = some (.slice ma g.mag.length mc) ∧ u.cell? ⟨Bm, 2, none⟩ = some (.int .i64 g.exp) ∧ u.cell? ⟨Bm, 3, none⟩ = some (.bool false) ∧ u.cell? ⟨Bm, 4, none⟩ = some (.bool false) ∧ u.cell? ⟨Bm, 5, none⟩ = some (.bool false)) := fun u ku => ⟨ku, HRm.out u ku⟩
     go_cut [24, 25] from 123 to 130 (fun p e wx => ∃ (Bk : Nat) (ka : Option Addr) (kc : Nat), p = .pointer (some ⟨Bk, 0, none⟩) ∧ e = .int .i64 0 ∧ Kept D3 wx ∧ Hid (∀ u, Kept wx u → u.cell? ⟨Bk, 0, none⟩ = some (.bool r.neg) ∧ u.cell? ⟨Bk, 1, none⟩ = some (.slice ka r.mag.length kc) ∧ u.cell? ⟨Bk, 2, none⟩ = some (.int .i64 r.exp) ∧ u.cell? ⟨Bk, 3, none⟩ = some (.bool false) ∧ u.cell? ⟨Bk, 4, none⟩ = some (.bool false) ∧ u.cell? ⟨Bk, 5, none⟩ = some (.bool false)) ∧ Hid (∀ u, Kept wx u → Sl u (.slice ka r.mag.length kc) r.mag))
     case first =>
      refine wp_region_lateT [9] (fun u => Kept D3 u ∧ u.cell? ⟨Bm, 0, none⟩ = some (.bool g.neg) ∧ u.cell? ⟨Bm, 1, none⟩ = some (.slice ma g.mag.length mc) ∧ u.cell? ⟨Bm, 2, none⟩ = some (.int .i64 g.exp) ∧ u.cell? ⟨Bm, 3, none⟩ = some (.bool false) ∧ u.cell? ⟨Bm, 4, none⟩ = some (.bool false) ∧ u.cell? ⟨Bm, 5, none⟩ = some (.bool false)) (fun _ => True) (by kernel_rfl) (HQb.out _ (Kept.refl _).drew) trivial (fun hHeld _ => ?_)
      refine wpAnyT_take (i := 0) (v := ?_) rfl (by kernel_rfl) (by kernel_rfl) (by kernel_rfl) (by kernel_rfl) (fun _ _ _ h => h) (Or.inl ⟨by rfl, ?hyb0⟩) hHeld trivial ?_
      case hyb0 => (intro w hSw; (try dsimp only at hSw); go_simp; try (with_reducible rfl))
      (try simp only [Act.put, zA, zB, zC, zD, zE, zF])
      refine wpAnyT_take (i := 1) (v := ?_) rfl (by kernel_rfl) (by kernel_rfl) (by kernel_rfl) (by kernel_rfl) (fun _ _ _ h => h) (Or.inl ⟨by rfl, ?hyb1⟩) hHeld trivial ?_
      case hyb1 => (intro w hSw; (try dsimp only at hSw); go_simp; try (with_reducible rfl))
      (try simp only [Act.put, zA, zB, zC, zD, zE, zF])
      refine wpAnyT_take (i := 3) (v := ?_) rfl (by kernel_rfl) (by kernel_rfl) (by kernel_rfl) (by kernel_rfl) (fun _ _ _ h => h) (Or.inl ⟨by rfl, ?hyb3⟩) hHeld trivial ?_
      case hyb3 => (intro w hSw; (try dsimp only at hSw); go_simp; try (with_reducible rfl))
      (try simp only [Act.put, zA, zB, zC, zD, zE, zF])
      refine wpAnyT_fork (i := 2) (j := 8) (by kernel_rfl) rfl rfl (fun K hK9 => ?_) (fun K hK9 => ?_)
      ·skip
       go_simp
       go_wp2_with fail
       refine (HFm.out _).mono ?_
       rintro e uc2 ⟨rfl, kc2⟩
       refine hK9.out _ _ (HQb.out _ (hHeld.1.trans kc2)) trivial (fun hc2 _ => ?_)
       clear hK9 K
       refine wpAnyT_fork (i := 4) (j := 8) (by kernel_rfl) rfl rfl (fun K hK9 => ?_) (fun K hK9 => ?_)
       ·skip
        go_simp
        go_wp2_with fail
        refine (HTb.out _ _ _ ((kr.trans k03).trans hc2.1) (sm1.out _ hc2.1)).mono ?_
        rintro e uc4 ⟨xn, xa, xl, xc, xx, rfl, hNc4, kc4⟩
        refine hK9.out _ _ (HQb.out _ (hc2.1.trans kc4)) trivial (fun hc4 _ => ?_)
        clear hK9 K
        refine wpAnyT_take (i := 5) (v := ?_) rfl (by kernel_rfl) (by kernel_rfl) (by kernel_rfl) (by kernel_rfl) (fun _ _ _ h => h) (Or.inl ⟨by rfl, ?hybm5⟩) hc4 trivial ?_
        case hybm5 => (intro w hSw; (try dsimp only at hSw); go_simp; try (with_reducible rfl))
        (try simp only [Act.put, zA, zB, zC, zD, zE, zF])
        refine wpAnyT_take (i := 6) (v := ?_) rfl (by kernel_rfl) (by kernel_rfl) (by kernel_rfl) (by kernel_rfl) (fun _ _ _ h => h) (Or.inl ⟨by rfl, ?hybm6⟩) hc4 trivial ?_
        case hybm6 => (intro w hSw; (try dsimp only at hSw); go_simp; try (with_reducible rfl))
        (try simp only [Act.put, zA, zB, zC, zD, zE, zF])
        refine wpAnyT_take2 (i := 7) (v := ?_) rfl (by kernel_rfl) (by kernel_rfl) (by kernel_rfl) (by kernel_rfl) (fun _ _ _ h => h) (Or.inl ⟨by rfl, ?hybm7⟩) (fun _ => hc4) trivial ?_
        case hybm7 => (intro w hSw; (try dsimp only at hSw); go_simp; try (with_reducible rfl))
        (try simp only [Act.put, zA, zB, zC, zD, zE, zF])
        refine wpAnyT_step (i := 8) (by kernel_rfl) rfl (fun K hK9 => ?_)
        go_simp
        refine hK9.out _ _ (HQb.out _ (hc4.1.alloc _ _)) trivial (fun hc8 _ => ?_)
        clear hK9 K
        refine wpAnyT_late (i := 9) (by kernel_rfl) rfl (by kernel_rfl) (fun K hK9 => ?_)
        go_simp
        refine hK9.out _ _ trivial (fun _ => ?_)
        clear hK9 K
        (try simp only [Act.put, zA, zB, zC, zD, zE, zF])
        refine wpAnyT_take2 (i := 10) (v := ?_) rfl (by kernel_rfl) (by kernel_rfl) (by kernel_rfl) (by kernel_rfl) (fun _ _ _ h => h) (Or.inl ⟨by rfl, ?hybz10⟩) (fun h => Bool.noConfusion (Eq.trans (Eq.symm (show anyL _ _ = true by kernel_rfl)) h)) trivial ?_
        case hybz10 => (intro w hSw; (try dsimp only at hSw); go_simp; try (with_reducible rfl))
        (try simp only [Act.put, zA, zB, zC, zD, zE, zF])
        refine wpAnyT_done (by kernel_rfl) ?_ _
        (try simp only [Act.put, zA, zB, zC, zD, zE, zF])
        obtain ⟨rfl, rfl, rfl, -, s9⟩ := hNc4.parts
        go_wp2_with fail
        go_meet
        case rel =>
         refine ⟨uc4.heap.size, xa, xc, rfl, rfl, hc4.1.alloc _ _, fun u ku => acc_cells1 r.neg (.slice xa r.mag.length xc) r.exp false false false 26 uc4.heap.size rfl (Kept.refl _) u ku, fun u ku => (s9.kept ((Kept.refl _).alloc _ _)).kept ku⟩
       ·skip
        go_simp
        refine hK9.out _ _ (HQb.out _ (hc2.1.alloc _ _)) trivial (fun hc8 _ => ?_)
        clear hK9 K
        obtain ⟨Bk, hBk⟩ : ∃ B, B = uc2.heap.size := ⟨_, rfl⟩
        obtain ⟨X9, hX9⟩ : ∃ D, D = uc2.alloc (.cells #[.bool false, .slice none 0 0, .int .i64 0, .bool false, .bool false, .bool false] 26) := ⟨_, rfl⟩
        have HR9 : Hid (∀ u, Kept X9 u → _) := acc_res1 (w := uc2) 26 Bk hBk (by rw [hX9]; exact Kept.refl _)
        have hB9 : Hid (Bk < X9.heap.size ∧ D3.heap.size ≤ Bk) := ⟨by rw [hX9, hBk]; simp, by rw [hBk]; exact hc2.1.below.size⟩
        rw [← hX9] at hc8
        rw [← hX9, ← hBk]
        clear hX9 hBk
        refine wpAnyT_step (i := 4) (by kernel_rfl) rfl (fun K hK9 => ?_)
        go_simp
        go_wp2_with fail
        refine (HTb.out _ _ _ ((kr.trans k03).trans hc8.1) (sm1.out _ hc8.1)).mono ?_
        rintro e uc4 ⟨xn, xa, xl, xc, xx, rfl, hNc4, kc4⟩
        refine hK9.out _ _ (HQb.out _ (hc8.1.trans kc4)) trivial (fun hc4 _ => ?_)
        clear hK9 K
        have HZ9 : Hid (X9.heap.size ≤ X9.heap.size) := Nat.le_refl X9.heap.size
        refine wpAnyT_take (i := 5) (v := ?_) rfl (by kernel_rfl) (by kernel_rfl) (by kernel_rfl) (by kernel_rfl) (fun _ _ _ h => h) (Or.inl ⟨by rfl, ?hybn5⟩) hc4 trivial ?_
        case hybn5 => (intro w hSw; (try dsimp only at hSw); go_simp; try (with_reducible rfl))
        (try simp only [Act.put, zA, zB, zC, zD, zE, zF])
        refine wpAnyT_take (i := 6) (v := ?_) rfl (by kernel_rfl) (by kernel_rfl) (by kernel_rfl) (by kernel_rfl) (fun _ _ _ h => h) (Or.inl ⟨by rfl, ?hybn6⟩) hc4 trivial ?_
        case hybn6 => (intro w hSw; (try dsimp only at hSw); go_simp; try (with_reducible rfl))
        (try simp only [Act.put, zA, zB, zC, zD, zE, zF])
        refine wpAnyT_take2 (i := 7) (v := ?_) rfl (by kernel_rfl) (by kernel_rfl) (by kernel_rfl) (by kernel_rfl) (fun _ _ _ h => h) (Or.inl ⟨by rfl, ?hybn7⟩) (fun _ => hc4) trivial ?_
        case hybn7 => (intro w hSw; (try dsimp only at hSw); go_simp; try (with_reducible rfl))
        (try simp only [Act.put, zA, zB, zC, zD, zE, zF])
        have KY9 : Kept X9 uc4 := kc4
        have hu9 : Bk < uc4.heap.size := Nat.lt_of_lt_of_le hB9.out.1 KY9.below.size
        obtain ⟨r0, r1, r2, r3, r4, r5, r6⟩ := HR9.out _ KY9
        refine wpAnyT_late (i := 9) (by kernel_rfl) rfl (by kernel_rfl) (fun K hK9 => ?_)
        go_simp
        refine hK9.out _ _ trivial (fun _ => ?_)
        clear hK9 K
        (try simp only [Act.put, zA, zB, zC, zD, zE, zF])
        refine wpAnyT_take2 (i := 10) (v := ?_) rfl (by kernel_rfl) (by kernel_rfl) (by kernel_rfl) (by kernel_rfl) (fun _ _ _ h => h) (Or.inl ⟨by rfl, ?hybz10⟩) (fun h => Bool.noConfusion (Eq.trans (Eq.symm (show anyL _ _ = true by kernel_rfl)) h)) trivial ?_
        case hybz10 => (intro w hSw; (try dsimp only at hSw); go_simp; try (with_reducible rfl))
        (try simp only [Act.put, zA, zB, zC, zD, zE, zF])
        refine wpAnyT_done (by kernel_rfl) ?_ _
        (try simp only [Act.put, zA, zB, zC, zD, zE, zF])
        have hb9 := new_hi hNc4
        obtain ⟨rfl, rfl, rfl, -, s9⟩ := hNc4.parts
        have hne9 : ∀ b off, xa = some ⟨b, off, none⟩ → r.mag ≠ [] → b ≠ Bk := fun b off e hn => by have := hb9 b off e hn; have := hB9.out; have := HZ9.out; omega
        go_wp2_with fail
        go_meet
        case rel =>
         refine ⟨Bk, xa, xc, rfl, rfl, kept_six1 Bk hB9.out.2 hc4.1 _ _ _ _ _ _, fun u ku => six_cells hu9 r0 r1 r2 r3 r4 r5 _ _ _ _ _ _ u ku, fun u ku => (sl_six s9 Bk hne9 _ _ _ _ _ _).kept ku⟩
      ·skip
       go_simp
       refine hK9.out _ _ (HQb.out _ (hHeld.1.alloc _ _)) trivial (fun hc8 _ => ?_)
       clear hK9 K
       obtain ⟨Bk, hBk⟩ : ∃ B, B = D3.heap.size := ⟨_, rfl⟩
       obtain ⟨X9, hX9⟩ : ∃ D, D = (D3.alloc (.cells #[.bool false, .slice none 0 0, .int .i64 0, .bool false, .bool false, .bool false] 26)).drew := ⟨_, rfl⟩
       have HR9 : Hid (∀ u, Kept X9 u → _) := acc_res1 (w := D3) 26 Bk hBk (by rw [hX9]; exact (Kept.refl _).drew)
       have hB9 : Hid (Bk < X9.heap.size ∧ D3.heap.size ≤ Bk) := ⟨by rw [hX9, hBk]; simp, by rw [hBk]; exact (Kept.refl D3).below.size⟩
       have kX9 : Kept D3 X9 := by rw [hX9]; exact ((Kept.refl _).alloc _ _).drew
       clear hc8
       have hc8 := HQb.out _ kX9
       rw [← hX9, ← hBk]
       clear hX9 hBk
       refine wpAnyT_step (i := 2) (by kernel_rfl) rfl (fun K hK9 => ?_)
       go_simp
       go_wp2_with fail
       refine (HFm.out _).mono ?_
       rintro e uc2 ⟨rfl, kc2⟩
       refine hK9.out _ _ (HQb.out _ (hc8.1.trans kc2)) trivial (fun hc2 _ => ?_)
       clear hK9 K
       have HZ9 : Hid (X9.heap.size ≤ uc2.heap.size) := kc2.below.size
       refine wpAnyT_step (i := 4) (by kernel_rfl) rfl (fun K hK9 => ?_)
       go_simp
       go_wp2_with fail
       refine (HTb.out _ _ _ ((kr.trans k03).trans hc2.1) (sm1.out _ hc2.1)).mono ?_
       rintro e uc4 ⟨xn, xa, xl, xc, xx, rfl, hNc4, kc4⟩
       refine hK9.out _ _ (HQb.out _ (hc2.1.trans kc4)) trivial (fun hc4 _ => ?_)
       clear hK9 K
       refine wpAnyT_take (i := 5) (v := ?_) rfl (by kernel_rfl) (by kernel_rfl) (by kernel_rfl) (by kernel_rfl) (fun _ _ _ h => h) (Or.inl ⟨by rfl, ?hybo5⟩) hc4 trivial ?_
       case hybo5 => (intro w hSw; (try dsimp only at hSw); go_simp; try (with_reducible rfl))
       (try simp only [Act.put, zA, zB, zC, zD, zE, zF])
       refine wpAnyT_take (i := 6) (v := ?_) rfl (by kernel_rfl) (by kernel_rfl) (by kernel_rfl) (by kernel_rfl) (fun _ _ _ h => h) (Or.inl ⟨by rfl, ?hybo6⟩) hc4 trivial ?_
       case hybo6 => (intro w hSw; (try dsimp only at hSw); go_simp; try (with_reducible rfl))
       (try simp only [Act.put, zA, zB, zC, zD, zE, zF])
       refine wpAnyT_take2 (i := 7) (v := ?_) rfl (by kernel_rfl) (by kernel_rfl) (by kernel_rfl) (by kernel_rfl) (fun _ _ _ h => h) (Or.inl ⟨by rfl, ?hybo7⟩) (fun _ => hc4) trivial ?_
       case hybo7 => (intro w hSw; (try dsimp only at hSw); go_simp; try (with_reducible rfl))
       (try simp only [Act.put, zA, zB, zC, zD, zE, zF])
       have KY9 : Kept X9 uc4 := kc2.trans kc4
       have hu9 : Bk < uc4.heap.size := Nat.lt_of_lt_of_le hB9.out.1 KY9.below.size
       obtain ⟨r0, r1, r2, r3, r4, r5, r6⟩ := HR9.out _ KY9
       refine wpAnyT_late (i := 9) (by kernel_rfl) rfl (by kernel_rfl) (fun K hK9 => ?_)
       go_simp
       refine hK9.out _ _ trivial (fun _ => ?_)
       clear hK9 K
       (try simp only [Act.put, zA, zB, zC, zD, zE, zF])
       refine wpAnyT_take2 (i := 10) (v := ?_) rfl (by kernel_rfl) (by kernel_rfl) (by kernel_rfl) (by kernel_rfl) (fun _ _ _ h => h) (Or.inl ⟨by rfl, ?hybz10⟩) (fun h => Bool.noConfusion (Eq.trans (Eq.symm (show anyL _ _ = true by kernel_rfl)) h)) trivial ?_
       case hybz10 => (intro w hSw; (try dsimp only at hSw); go_simp; try (with_reducible rfl))
       (try simp only [Act.put, zA, zB, zC, zD, zE, zF])
       refine wpAnyT_done (by kernel_rfl) ?_ _
       (try simp only [Act.put, zA, zB, zC, zD, zE, zF])
       have hb9 := new_hi hNc4
       obtain ⟨rfl, rfl, rfl, -, s9⟩ := hNc4.parts
       have hne9 : ∀ b off, xa = some ⟨b, off, none⟩ → r.mag ≠ [] → b ≠ Bk := fun b off e hn => by have := hb9 b off e hn; have := hB9.out; have := HZ9.out; omega
       go_wp2_with fail
       go_meet
       case rel =>
        refine ⟨Bk, xa, xc, rfl, rfl, kept_six1 Bk hB9.out.2 hc4.1 _ _ _ _ _ _, fun u ku => six_cells hu9 r0 r1 r2 r3 r4 r5 _ _ _ _ _ _ u ku, fun u ku => (sl_six s9 Bk hne9 _ _ _ _ _ _).kept ku⟩
     case rest =>
      obtain ⟨Bb, ba, bc, rfl, rfl, kD4, HRb, sb1⟩ := hcut
      obtain ⟨D4, hD4⟩ : ∃ D, D = wc := ⟨_, rfl⟩
      rw [← hD4] at kD4 HRb sb1
      rw [← hD4]
      clear hD4
      have k04 : Kept wr D4 := k03.trans kD4
      obtain ⟨c0, c1, c2, c3, c4, c5⟩ := HB0.out _ k04
      go_wp2_with fail
      refine (HNg.out _ _ _ hca (kr.trans k04) (sl0.out _ k04)).mono ?_
      rintro e w5 ⟨na, nc, rfl, sn, k5⟩
      clear c0 c1 c2 c3 c4 c5
      obtain ⟨Bn, hBn⟩ : ∃ B, B = w5.heap.size := ⟨_, rfl⟩
      obtain ⟨D5, hD5⟩ : ∃ D, D = w5.alloc (.cells #[.bool g.neg, .slice na g.mag.length nc, .int .i64 g.exp, .bool false, .bool false, .bool false] 26) := ⟨_, rfl⟩
      have kD5 : Kept D4 D5 := by rw [hD5]; exact k5.alloc _ _
      have HRn : Hid (∀ u, Kept D5 u → _) := fun u ku => acc_cells1 g.neg (.slice na g.mag.length nc) g.exp false false false 26 Bn hBn (by rw [hD5]; exact Kept.refl _) u ku
      have sn1 : Hid (∀ u, Kept D5 u → Sl u (.slice na g.mag.length nc) g.mag) := fun u ku => (sn.out.kept (by rw [hD5]; exact (Kept.refl _).alloc _ _)).kept ku
      go_upto_region 23 with fail
      rw [← hBn, ← hD5]
      clear hBn hD5 sn k5
      have k05 : Kept wr D5 := k04.trans kD5
      have kw5 : Kept w D5 := kr.trans k05
      go_wp2_with fail
      refine (KL.out _ kw5).mono ?_
      rintro e w6 ⟨rfl, k6⟩
      obtain ⟨c0, c1, c2, c3, c4, c5⟩ := HRz.out _ (((kD3.trans kD4).trans kD5).trans k6)
      go_wp2_with fail
      refine (HS0.out _).mono ?_
      rintro e w7 ⟨rfl, k7⟩
      have k67 := k6.trans k7
      clear c0 c1 c2 c3 c4 c5
      obtain ⟨c0, c1, c2, c3, c4, c5⟩ := HRb.out _ (kD5.trans k67)
      obtain ⟨d0, d1, d2, d3, d4, d5⟩ := HB0.out _ (k05.trans k67)
      go_wp2_with fail
      refine (HS1.out _ _ _ _ _ (sb1.out _ (kD5.trans k67)) (sl0.out _ (k05.trans k67))).mono ?_
      rintro e w8 ⟨rfl, k8⟩
      have k68 := k67.trans k8
      clear c0 c1 c2 c3 c4 c5 d0 d1 d2 d3 d4 d5
      obtain ⟨c0, c1, c2, c3, c4, c5⟩ := HRm.out _ ((kD4.trans kD5).trans k68)
      obtain ⟨d0, d1, d2, d3, d4, d5⟩ := HRn.out _ k68
      go_wp2_with fail
      refine (HS2.out _ _ _ _ _ (sm1.out _ ((kD4.trans kD5).trans k68)) (sn1.out _ k68)).mono ?_
      rintro e w9 ⟨rfl, k9⟩
      have k69 := k68.trans k9
      clear c0 c1 c2 c3 c4 c5 d0 d1 d2 d3 d4 d5
      go_wp2_with fail
      refine (KCB.out _).mono ?_
      rintro e w10 ⟨rfl, k10⟩
      have k610 := k69.trans k10
      by_cases hc2 : 2 < cB
      ·go_wp2_with fail
       go_ret
       exact ⟨rfl, kw5.trans k610⟩
      ·have hc3 : cB ≤ 2 := by omega
       have kt : Kept D1 w10 := (((kD2.trans kD3).trans kD4).trans kD5).trans k610
       obtain ⟨c0, c1, c2, c3, c4, c5⟩ := HRt.out _ kt
       obtain ⟨d0, d1, d2, d3, d4, d5⟩ := HB3.out _ (k05.trans k610)
       go_wp2_with fail
       refine (HS3.out _ _ _ _ _ hc3 (st1.out _ kt) (sl3.out _ (k05.trans k610))).mono ?_
       rintro e w11 ⟨rfl, k11⟩
       go_wp2_with fail
       go_ret
       exact ⟨rfl, kw5.trans (k610.trans k11)⟩
theorem accTimes_true (w : World) (hT : Tab w) (ar : Option Addr) (N cap : Nat) (fk fx fy fw : Nat → Int) (hx : ∀ j, -9223372036854775808 ≤ fx j ∧ fx j ≤ 9223372036854775807) (hy : ∀ j, -9223372036854775808 ≤ fy j ∧ fy j ≤ 9223372036854775807) (HI0 : ∀ u, Kept w u → ∀ i, i < N → ItemAt u ar i (fk i) (fx i) (fy i) (fw i)) (b0 w0 : Int) (b1 : -9223372036854775808 ≤ b0) (b2 : b0 ≤ 9223372036854775807) :
  Calls Tryz.prog 8 #[.slice ar N cap, .int .i64 b0, .int .i64 w0] w fun e w' => e = .returned (.bool true) ∧ Kept w w' := by
 have KL : Hid (∀ u, Kept w u → Calls Tryz.prog 9 #[] u fun e w' => e = .returned (.bool true) ∧ Kept u w') := fun u k => alive3 u (hT.kept k)
 by_cases h200 : 60 < N
 ·have h2 : (60 : Int) < (N : Int) := by omega
  go_enter Tryz.func8, Tryz.ntmps8
  go_wp2_with fail
  refine (KL.out _ (Kept.refl _)).mono ?_
  rintro e w1 ⟨rfl, k1⟩
  go_wp2_with fail
  go_ret
  exact ⟨rfl, k1⟩
 ·refine ttimes_walk w hT ar N cap fk fx fy fw (by omega) hx HI0 b0 w0 _ (wdI w0) (wdI_ok w0) rfl rfl ?_ ?_ ?_
  ·split <;> omega
  ·split <;> omega
  ·unfold val
   rw [decide_eq_true_eq]
   rcases wdI_ok w0 with h | h
   ·exact .inl h
   ·rw [if_pos h]
    exact .inr ⟨h, by omega, by omega⟩
end Go.Proofs.YtoflafgbbjinpaaGreatDoor
