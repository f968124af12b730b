/- The document's Around and Has,by keys. -/
import Derived.Test.YtdhimkpfnhoagaaGreatDoorWo48
namespace Go.Proofs.YtdhimkpfnhoagaaGreatDoor
open Go.ChangeShapes Go.WideShapes Go.ChangeAt Go.RowKit
set_option linter.unusedVariables false
set_option linter.unusedSimpArgs false
set_option maxHeartbeats 16000000
set_option maxRecDepth 100000
theorem tk_zero (n way : Int) (x : Nm) : Tk n way 0 x = kyN n way x:=by unfold Tk; rw [if_neg (by decide),if_neg (by decide)]
theorem rwhole6 (x : Nm) (ao : Option Addr) (c : Nat) (hc : ao = none → c = 0) (u : World) (h : Sl u (.slice ao x.mag.length c) x.mag) : Calls Tryz.prog 96 #[.agg #[.bool x.neg,.slice ao x.mag.length c,.int .i64 x.exp]] u fun e w' => ∃ v,e = .returned v ∧ EnAt Top w' v 0 x oneN5 ∧ Kept u w':=by
 refine (rwhole_any Top u x _ ⟨_,rfl,ao,c,rfl,hc,h,fun _ _ _ _ => trivial⟩).mono ?_
 rintro e w' ⟨⟨v,rfl,hv⟩,k⟩
 exact ⟨v,rfl,hv.imp (fun _ _ => trivial),k⟩
theorem raround5 (n : Int) (hn : n = 64 ∨ n = 32) (x : Nm) (hx : vld x = true) (ao : Option Addr) (c : Nat) (hc : ao = none → c = 0) (w : World) (h : Sl w (.slice ao x.mag.length c) x.mag) : Calls Tryz.prog 41 #[.agg #[.bool x.neg,.slice ao x.mag.length c,.int .i64 x.exp],.int .i64 n] w fun e w' => e = .returned (.agg #[.int .i64 (pz n (kyN n 1 x)),.int .i64 (pz n (kyN n 2 x))]) ∧ Kept w w':=by
 refine raround_walk5 n _ _ _ _ _ _ _ (fun u v => EnAt Top u v 0 x oneN5) (fun u u' v h k => EnAt.kept h k) w (fun u k => rwhole6 x ao c hc u (h.kept k)) (fun u v1 v2 k e1 e2 => ?_)
 have:=rmade5 n hn 0 0 x x (.inr (.inl rfl)) (.inr (.inl rfl)) hx hx v1 v2 u e1 e2
 rw [tk_zero,tk_zero] at this
 exact this
/- a float is not above a number just where it is not above what that is rounded down to -/
theorem le_down (n s k : Int) (hn : n = 64 ∨ n = 32) (x : Nm) (hx : vld x = true) (hs : x.mag ≠ [] → s ≤ x.exp) (hl : s < kleast n) (b1 : -(ifn n : Int) < k) (b2 : k < (ifn n : Int)) : (kvz n s k ≤ vz s x ↔ k ≤ kyN n 1 x) ∧ (vz s x ≤ kvz n s k ↔ kyN n 2 x ≤ k):=by
 obtain ⟨hN,-,-⟩:=nbrN n hn x hx s hs hl
 have mono : ∀ p q : Int,p ≤ q → kvz n s p ≤ kvz n s q:=fun p q h => by
  rcases Int.lt_or_eq_of_le h with h | h
  ·exact Int.le_of_lt (kvz_lt n s hn p q h)
  ·rw [h]; exact Int.le_refl _
 have lt : ∀ p q : Int,p < q → kvz n s p < kvz n s q:=fun p q h => kvz_lt n s hn p q h
 generalize kyN n 1 x = d at *
 generalize kyN n 2 x = u at *
 generalize kyN n 0 x = e at *
 generalize vz s x = Z at *
 have m1:=mono k d
 have m2:=mono d k
 have m3:=mono k u
 have m4:=mono u k
 have l1:=lt d k
 have l2:=lt k u
 cases ho : oxN n 1 x
 ·obtain ⟨a1,a2,a3,a4,a5⟩:=hN.same ho
  subst a1
  refine ⟨⟨fun h => ?_,fun h => ?_⟩,⟨fun h => ?_,fun h => ?_⟩⟩
  ·apply Classical.not_not.1; intro g; have:=l1 (by omega); omega
  ·have:=m1 h; omega
  ·apply Classical.not_not.1; intro g; have:=l2 (by omega); omega
  ·have:=m4 h; omega
 ·obtain ⟨a1,a2,a3,a4,a5,a6⟩:=hN.next ho
  refine ⟨⟨fun h => ?_,fun h => ?_⟩,⟨fun h => ?_,fun h => ?_⟩⟩
  ·apply Classical.not_not.1
   intro g
   have:=m4 (by omega)
   have:=a6 (by omega)
   omega
  ·have:=m1 h
   have:=a5 (by omega)
   omega
  ·apply Classical.not_not.1
   intro g
   have:=m1 (by omega)
   have:=a5 (by omega)
   omega
  ·have:=m4 h
   have:=a6 (by omega)
   omega
theorem rhas5 (lo hi n : Int) (h1 : RB lo) (h2 : RB hi) (hv : vsp lo hi n = true) (x : Nm) (hx : vld x = true) (ao : Option Addr) (c : Nat) (hc : ao = none → c = 0) (w : World) (h : Sl w (.slice ao x.mag.length c) x.mag) : Calls Tryz.prog 43 #[.agg #[.int .i64 lo,.int .i64 hi],.agg #[.bool x.neg,.slice ao x.mag.length c,.int .i64 x.exp],.int .i64 n] w fun e w' => e = .returned (.bool (decide (keyOf lo n ≤ kyN n 1 x ∧ kyN n 2 x ≤ keyOf hi n))) ∧ Kept w w':=by
 obtain ⟨i1,i2,v3,v4,v5⟩:=vsp_num _ _ _ hv
 have hn:=isnum_wid lo n i1
 have hpos:=ifn_p n
 have r1:=key_rng lo n i1 h1.1 h1.2
 have r2:=key_rng hi n i2 h2.1 h2.2
 have hkl : (-1074 : Int) ≤ kleast n:=by rcases hn with rfl | rfl <;> decide
 obtain ⟨s,hs⟩ : ∃ s : Int,s = min (-1075) x.exp:=⟨_,rfl⟩
 obtain ⟨vl,ll⟩:=num_vld n lo h1 i1
 obtain ⟨vh,lh⟩:=num_vld n hi h2 i2
 obtain ⟨p1,p2⟩:=num_vz n lo s (by omega) h1 i1
 obtain ⟨q1,q2⟩:=num_vz n hi s (by omega) h2 i2
 obtain ⟨T,hT⟩ : ∃ T : Int,T = (vz s (numOf lo n)).natAbs + (vz s (numOf hi n)).natAbs + (vz s x).natAbs + 1:=⟨_,rfl⟩
 have KO : Hid (∀ u b,(b = lo ∨ b = hi) → Kept w u → Calls Tryz.prog 88 #[.int .i64 b,.int .i64 n] u fun e w' => ∃ v,e = .returned v ∧ PE n b w' v ∧ Kept u w'):=fun u b g k => by
  rcases g with rfl | rfl
  ·exact rof6 n _ h1 i1 u
  ·exact rof6 n _ h2 i2 u
 have KW : Hid (∀ u,Kept w u → Calls Tryz.prog 96 #[.agg #[.bool x.neg,.slice ao x.mag.length c,.int .i64 x.exp]] u fun e w' => ∃ v,e = .returned v ∧ EnAt Top w' v 0 x oneN5 ∧ Kept u w'):=fun u k => rwhole6 x ao c hc u (h.kept k)
 have K1 : Hid (∀ u v1 v2,Kept w u → PE n lo u v1 → EnAt Top u v2 0 x oneN5 → Calls Tryz.prog 89 #[v1,v2] u fun e w' => e = .returned (.int .i64 (cz (Rh T s (infS n (keyOf lo n)) (numOf lo n)) (vz s x))) ∧ Kept u w'):=fun u v1 v2 k e1 e2 => by
  have:=rorder5 Top v1 v2 _ 0 _ x s T (infS_is n _) (.inr (.inl rfl)) vl hx (fun g => by have:=ll g; omega) (fun g => by omega) (by omega) (by omega) u e1 e2
  have e : Rh T s 0 x = vz s x:=by unfold Rh; rw [if_neg (by decide),if_neg (by decide)]
  rw [e] at this
  exact this
 have K2 : Hid (∀ u v1 v2,Kept w u → EnAt Top u v1 0 x oneN5 → PE n hi u v2 → Calls Tryz.prog 89 #[v1,v2] u fun e w' => e = .returned (.int .i64 (cz (vz s x) (Rh T s (infS n (keyOf hi n)) (numOf hi n)))) ∧ Kept u w'):=fun u v1 v2 k e1 e2 => by
  have:=rorder5 Top v1 v2 0 _ x _ s T (.inr (.inl rfl)) (infS_is n _) hx vh (fun g => by omega) (fun g => by have:=lh g; omega) (by omega) (by omega) u e1 e2
  have e : Rh T s 0 x = vz s x:=by unfold Rh; rw [if_neg (by decide),if_neg (by decide)]
  rw [e] at this
  exact this
 have d1 : decide (cz (Rh T s (infS n (keyOf lo n)) (numOf lo n)) (vz s x) ≤ 0) = decide (keyOf lo n ≤ kyN n 1 x):=by
  apply decide_eq_decide.2
  obtain ⟨c1,c2,c3⟩:=cz_cases5 (Rh T s (infS n (keyOf lo n)) (numOf lo n)) (vz s x)
  have hr:=kyN_range n 1 x
  by_cases hk : keyOf lo n = -(ifn n : Int)
  ·have e : Rh T s (infS n (keyOf lo n)) (numOf lo n) = -T:=by
    unfold Rh infS
    rw [if_neg v4,if_pos hk,if_neg (by decide),if_pos (by decide)]
   rw [e] at c1 c2 c3 ⊢
   omega
  ·have hi0 : infS n (keyOf lo n) = 0:=by unfold infS; rw [if_neg v4,if_neg hk]
   have e : Rh T s (infS n (keyOf lo n)) (numOf lo n) = kvz n s (keyOf lo n):=by
    rw [← p1 hi0,hi0]
    unfold Rh
    rw [if_neg (by decide),if_neg (by decide)]
   rw [e] at c1 c2 c3 ⊢
   have:=(le_down n s (keyOf lo n) hn x hx (fun _ => by omega) (by omega) (by omega) (by omega)).1
   omega
 have d2 : decide (cz (vz s x) (Rh T s (infS n (keyOf hi n)) (numOf hi n)) ≤ 0) = decide (kyN n 2 x ≤ keyOf hi n):=by
  apply decide_eq_decide.2
  obtain ⟨c1,c2,c3⟩:=cz_cases5 (vz s x) (Rh T s (infS n (keyOf hi n)) (numOf hi n))
  have hr:=kyN_range n 2 x
  by_cases hk : keyOf hi n = (ifn n : Int)
  ·have e : Rh T s (infS n (keyOf hi n)) (numOf hi n) = T:=by
    unfold Rh infS
    rw [if_pos hk,if_pos (by decide)]
   rw [e] at c1 c2 c3 ⊢
   omega
  ·have hi0 : infS n (keyOf hi n) = 0:=by unfold infS; rw [if_neg hk,if_neg v5]
   have e : Rh T s (infS n (keyOf hi n)) (numOf hi n) = kvz n s (keyOf hi n):=by
    rw [← q1 hi0,hi0]
    unfold Rh
    rw [if_neg (by decide),if_neg (by decide)]
   rw [e] at c1 c2 c3 ⊢
   have:=(le_down n s (keyOf hi n) hn x hx (fun _ => by omega) (by omega) (by omega) (by omega)).2
   omega
 have ed : decide (keyOf lo n ≤ kyN n 1 x ∧ kyN n 2 x ≤ keyOf hi n) = (decide (keyOf lo n ≤ kyN n 1 x) && decide (kyN n 2 x ≤ keyOf hi n)):=by
  rw [Bool.eq_iff_iff]
  simp
 rw [ed]
 cases hg : decide (keyOf lo n ≤ kyN n 1 x)
 ·rw [Bool.false_and]
  exact rhas_walk5_false lo hi n _ _ _ _ _ _ _ (d1.trans hg) (PE n) (PE.kept n) (fun u v => EnAt Top u v 0 x oneN5) (fun u u' v h k => EnAt.kept h k) w KO KW K1 K2
 ·rw [Bool.true_and,← d2]
  exact rhas_walk5_true lo hi n _ _ _ _ _ _ _ (d1.trans hg) (PE n) (PE.kept n) (fun u v => EnAt Top u v 0 x oneN5) (fun u u' v h k => EnAt.kept h k) w KO KW K1 K2
end Go.Proofs.YtdhimkpfnhoagaaGreatDoor
