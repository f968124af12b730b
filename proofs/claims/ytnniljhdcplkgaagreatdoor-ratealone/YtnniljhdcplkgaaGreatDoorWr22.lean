/- The walk of exact's root: the leading bits of a square root,bit by bit. -/
import Derived.Test.YtnniljhdcplkgaaGreatDoorWr10
import Derived.Test.YtnniljhdcplkgaaGreatDoorWr21
namespace Go.Proofs.YtnniljhdcplkgaaGreatDoor
open Go.ChangeShapes Go.WideShapes Go.ChangeAt Go.RowKit
set_option maxHeartbeats 16000000
set_option maxRecDepth 100000
set_option linter.unusedVariables false
set_option linter.unusedSimpArgs false
theorem flo_four (v : Nat) (t : Int) : flo v t / 4 = flo v (t - 2):=by
 unfold flo
 by_cases h : 0 ≤ t - 2
 ·rw [if_pos h,if_pos (by omega),show t.toNat = (t - 2).toNat + 2 by omega,Nat.pow_add,← Nat.mul_assoc]
  exact Nat.mul_div_cancel _ (by decide)
 ·rw [if_neg h]
  by_cases h1 : 0 ≤ t
  ·rw [if_pos h1]
   have : t = 0 ∨ t = 1:=by omega
   rcases this with rfl | rfl
   ·simp
   ·show v * 2 ^ 1 / 4 = v / 2 ^ 1
    omega
  ·rw [if_neg h1,show (-(t - 2)).toNat = (-t).toNat + 2 by omega,Nat.pow_add,← Nat.div_div_eq_div_mul]
structure Rtz (A h l : Nat) : Prop where
 eq : h * h + l = A
 le : l ≤ 2 * h
theorem Rtz.zero : Rtz 0 0 0:=⟨rfl,Nat.le_refl _⟩
theorem sq_two (h : Nat) : 2 * h * (2 * h) = 4 * (h * h):=by
 rw [Nat.mul_mul_mul_comm]
theorem sq_odd (h : Nat) : (2 * h + 1) * (2 * h + 1) = 4 * (h * h) + 4 * h + 1:=by
 rw [Nat.add_mul,Nat.mul_add,sq_two]
 omega
theorem Rtz.step {A h l : Nat} (R : Rtz A h l) (A' : Nat) (hA : A' / 4 = A) : (4 * h + 1 ≤ 4 * l + A' % 4 → Rtz A' (2 * h + 1) (4 * l + A' % 4 - (4 * h + 1))) ∧ (¬ 4 * h + 1 ≤ 4 * l + A' % 4 → Rtz A' (2 * h) (4 * l + A' % 4)):=by
 obtain ⟨e,le⟩:=R
 refine ⟨fun hh => ⟨?_,?_⟩,fun hh => ⟨?_,?_⟩⟩
 ·rw [sq_odd]; omega
 ·omega
 ·rw [sq_two]; omega
 ·omega
theorem Rtz.lt {A h l : Nat} (R : Rtz A h l) : h * h ≤ A ∧ A < (h + 1) * (h + 1):=by
 obtain ⟨e,le⟩:=R
 have : (h + 1) * (h + 1) = h * h + 2 * h + 1:=by rw [Nat.add_mul,Nat.mul_add]; omega
 omega
theorem sq_lt {a b : Nat} (h : a * a < b * b) : a < b:=by
 apply Decidable.byContradiction
 intro hn
 have:=Nat.mul_le_mul (show b ≤ a by omega) (show b ≤ a by omega)
 omega
theorem pcz_flo (v : Nat) (p : Int) : pcz v p = ((flo v (-p) % 1073741824 : Nat) : Int):=by
 unfold pcz flo
 by_cases h : 0 ≤ p
 ·rw [if_pos h]
  by_cases h0 : p = 0
  ·subst h0; simp
  ·rw [if_neg (by omega),Int.neg_neg]
 ·rw [if_neg h,if_pos (by omega)]
theorem mask_2 (s : Int) : bits .and .i64 s 3 = s % 4:=by
 have e : (BitVec.ofInt 64 3 : BitVec 64).toNat = 2 ^ 2 - 1:=by decide
 have h:=ofInt_toNat s
 rw [bits_and,BitVec.toNat_and,e,Nat.and_two_pow_sub_one_eq_mod,wrap_i64]
 omega
theorem or_low (x y k : Nat) (h : x < 2 ^ k) (hb : x + y * 2 ^ k < 9223372036854775808) : bits .or .i64 ((y * 2 ^ k : Nat) : Int) (x : Int) = ((x + y * 2 ^ k : Nat) : Int):=by
 rw [← or_sum x y k h hb]
 unfold bits
 simp [BitVec.or_comm]
theorem andNot_1 (t : Int) (h1 : -9223372036854775808 ≤ t) (h2 : t ≤ 9223372036854775807) : bits .andNot .i64 t 1 = t - t % 2:=by
 have e : (BitVec.ofInt 64 t &&& ~~~ BitVec.ofInt 64 1 : BitVec 64).toNat = (BitVec.ofInt 64 t).toNat / 2 * 2:=by
  have : (BitVec.ofInt 64 t &&& ~~~ BitVec.ofInt 64 1 : BitVec 64) = (BitVec.ofInt 64 t >>> 1) <<< 1:=by
   apply BitVec.eq_of_getLsbD_eq
   intro i hi
   rw [BitVec.getLsbD_and,BitVec.getLsbD_not,BitVec.getLsbD_shiftLeft,BitVec.getLsbD_ushiftRight]
   have h01 : (BitVec.ofInt 64 1).getLsbD i = decide (i = 0):=by
    rw [show BitVec.ofInt 64 1 = 1#64 by decide,BitVec.getLsbD_one]
    simp
   rw [h01]
   by_cases h0 : i = 0
   ·subst h0; simp
   ·simp [h0,hi,show ¬ i < 1 by omega,show 1 + (i - 1) = i by omega]
  rw [this]
  simp only [BitVec.toNat_shiftLeft,BitVec.toNat_ushiftRight,Nat.shiftRight_eq_div_pow,Nat.shiftLeft_eq,Nat.pow_one]
  have:=(BitVec.ofInt 64 t).isLt
  omega
 have h:=ofInt_toNat t
 rw [bits_andNot,e,wrap_i64]
 omega
theorem root_walk (ng : Bool) (ao : Option Addr) (n c : Nat) (hn : 0 < n) (x T f : Int) (v : Nat) (hx1 : -1048576 ≤ x) (hx2 : x ≤ 1048576) (hT1 : x ≤ T) (hT2 : T ≤ x + 90000) (hf : bits .andNot .i64 (T - 1) 1 = f) (hf1 : T - 2 ≤ f) (hf2 : f ≤ T - 1) (w : World)
  (HV : Hid (flo v (x - f - 2) = 0))
  (KT : Hid (∀ u,Kept w u → Calls Tryz.prog 159 #[.agg #[.bool ng,.slice ao n c,.int .i64 x]] u fun e w' => e = .returned (.int .i64 T) ∧ Kept u w'))
  (KP : Hid (∀ u p,Kept w u → -1000000000 < p → p < 1000000000 → Calls Tryz.prog 114 #[.slice ao n c,.int .i64 p] u fun e w' => e = .returned (.int .i64 (pcz v p)) ∧ Kept u w')) :
  Calls Tryz.prog 158 #[.agg #[.bool ng,.slice ao n c,.int .i64 x]] w fun e w' => ∃ h l : Nat,e = .returned (.agg #[.bool false,.int .i64 (h : Int),.int .i64 ((f - 110).tdiv 2),.bool (decide (l ≠ 0) || decide (x < f - 110))]) ∧ Rtz (flo v (x - (f - 110))) h l ∧ Kept w w':=by
 have hK : Kept w ((w.alloc (.cells #[.bool ng,.slice ao n c,.int .i64 x] 43)).alloc (.cells #[.bool false,.int .i64 0,.int .i64 0,.bool false] 117)):=((Kept.refl w).alloc _ _).alloc _ _
 obtain ⟨W,hW⟩ : ∃ W,W = ((w.alloc (.cells #[.bool ng,.slice ao n c,.int .i64 x] 43)).alloc (.cells #[.bool false,.int .i64 0,.int .i64 0,.bool false] 117)):=⟨_,rfl⟩
 have HS : Hid (∀ u,Kept W u → (u.cell? ⟨w.heap.size,0,none⟩ = some (.bool ng) ∧ u.cell? ⟨w.heap.size,1,none⟩ = some (.slice ao n c) ∧ u.cell? ⟨w.heap.size,2,none⟩ = some (.int .i64 x)) ∧ u.cell? ⟨w.heap.size + 1,0,none⟩ = some (.bool false) ∧ u.cell? ⟨w.heap.size + 1,1,none⟩ = some (.int .i64 0) ∧ u.cell? ⟨w.heap.size + 1,2,none⟩ = some (.int .i64 0) ∧ u.cell? ⟨w.heap.size + 1,3,none⟩ = some (.bool false) ∧ ∀ o,u.frozen? ⟨w.heap.size + 1,o,none⟩ = false):=fun u k => by rw [hW] at k; exact ⟨⟨(k.below.cell (p:=⟨w.heap.size,0,none⟩) (by simp <;> omega)).trans (by simp [go_sem]),(k.below.cell (p:=⟨w.heap.size,1,none⟩) (by simp <;> omega)).trans (by simp [go_sem]),(k.below.cell (p:=⟨w.heap.size,2,none⟩) (by simp <;> omega)).trans (by simp [go_sem])⟩,(k.below.cell (p:=⟨w.heap.size + 1,0,none⟩) (by simp)).trans (by simp [go_sem]),(k.below.cell (p:=⟨w.heap.size + 1,1,none⟩) (by simp)).trans (by simp [go_sem]),(k.below.cell (p:=⟨w.heap.size + 1,2,none⟩) (by simp)).trans (by simp [go_sem]),(k.below.cell (p:=⟨w.heap.size + 1,3,none⟩) (by simp)).trans (by simp [go_sem]),fun o => (k.frozen _).trans (by simp [go_sem])⟩
 rw [← hW] at hK
 have hn0 : ((n : Int) == 0) = false:=by simp; omega
 have zT : IntKind.i64.wrap (T - 1) = T - 1:=by rw [wrap_i64]; omega
 have zf : IntKind.i64.wrap (f - 110) = f - 110:=by rw [wrap_i64]; omega
 go_enter Tryz.func158,Tryz.ntmps158
 go_upto_region 3 with fail
 rw [← hW]
 clear hW
 obtain ⟨⟨p0,p1,p2⟩,r0,r1,r2,r3,rf⟩:=HS.out _ (Kept.refl W)
 go_wp2_with fail
 refine (KT.out _ hK).mono ?_
 rintro e w1 ⟨rfl,k1⟩
 clear p0 p1 p2 r0 r1 r2 r3 rf
 go_wp2_with fail
 go_loopw [5,6,20] (fun hv lv iv wr => ∃ (k h l : Nat),k ≤ 56 ∧ iv = .int .i64 k ∧ hv = .int .i64 h ∧ lv = .int .i64 l ∧ Rtz (flo v (x - f - 2 + 2 * (k : Int))) h l ∧ h < 2 ^ k ∧ Kept W wr) (fun _ _ iv _ => 56 - (intOf iv).toNat)
 case atStart => exact ⟨0,0,0,Nat.zero_le _,rfl,rfl,rfl,by rw [Int.natCast_zero,Int.mul_zero,Int.add_zero,HV.out]; exact Rtz.zero,by decide,k1⟩
 case round =>
  obtain ⟨k,h,l,hk,rfl,rfl,rfl,hR,hh,hKr⟩:=hrel
  have hl:=hR.le
  have HR : Hid (Rtz (flo v (x - f - 2 + 2 * (k : Int))) h l):=hR
  clear hR
  by_cases hk56 : k < 56
  ·have hp55 : (2 : Nat) ^ k ≤ 2 ^ 55:=Nat.pow_le_pow_right (by decide) (by omega)
   have h55 : (2 : Nat) ^ 55 = 36028797018963968:=by decide
   obtain ⟨⟨p0,p1,p2⟩,r0,r1,r2,r3,rf⟩:=HS.out _ hKr
   obtain ⟨q,hq⟩ : ∃ q : Nat,q = flo v (x - f + 2 * (k : Int)) % 4:=⟨_,rfl⟩
   have HQ : Hid (q = flo v (x - f + 2 * (k : Int)) % 4):=hq
   have hq4 : q < 4:=by rw [hq]; omega
   obtain ⟨pv,hpv⟩ : ∃ pv,pcz v (f - 2 * (k : Int) - x) = pv:=⟨_,rfl⟩
   have hand : bits .and .i64 pv 3 = (q : Int):=by
    rw [← hpv,mask_2,pcz_flo,hq,show -(f - 2 * (k : Int) - x) = x - f + 2 * (k : Int) by omega]
    omega
   have KP2 : Hid (Calls Tryz.prog 114 #[.slice ao n c,.int .i64 (f - 2 * (k : Int) - x)] wr fun e w' => e = .returned (.int .i64 pv) ∧ Kept wr w'):=by
    have:=KP.out wr (f - 2 * (k : Int) - x) (hK.trans hKr) (by omega) (by omega)
    rw [hpv] at this
    exact this
   clear hq hpv
   have HH : Hid (h < 2 ^ k):=hh
   clear hh
   have hh : h < 36028797018963968:=by have:=HH.out; omega
   clear hp55 h55
   have z2 : IntKind.i64.wrap (2 * (k : Int)) = 2 * (k : Int):=by rw [wrap_i64]; omega
   have z3 : IntKind.i64.wrap (f - 2 * (k : Int)) = f - 2 * (k : Int):=by rw [wrap_i64]; omega
   have z4 : IntKind.i64.wrap (f - 2 * (k : Int) - x) = f - 2 * (k : Int) - x:=by rw [wrap_i64]; omega
   obtain ⟨A1,hA1⟩ : ∃ A1 : Nat,4 * l + q = A1:=⟨_,rfl⟩
   obtain ⟨T1,hT1'⟩ : ∃ T1 : Nat,4 * h + 1 = T1:=⟨_,rfl⟩
   obtain ⟨H1,hH1⟩ : ∃ H1 : Nat,2 * h + 1 = H1:=⟨_,rfl⟩
   have o1 : bits .or .i64 ((l : Int) * 4) (q : Int) = (A1 : Int):=by
    have:=or_low q l 2 hq4 (by omega)
    rw [show ((l * 2 ^ 2 : Nat) : Int) = (l : Int) * 4 by omega,show ((q + l * 2 ^ 2 : Nat) : Int) = (A1 : Int) by omega] at this
    exact this
   have o2 : bits .or .i64 ((h : Int) * 2 * 2) 1 = (T1 : Int):=by
    have:=or_low 1 (2 * h) 1 (by decide) (by omega)
    rw [show ((2 * h * 2 ^ 1 : Nat) : Int) = (h : Int) * 2 * 2 by omega,show ((1 + 2 * h * 2 ^ 1 : Nat) : Int) = (T1 : Int) by omega] at this
    exact this
   have o3 : bits .or .i64 ((h : Int) * 2) 1 = (H1 : Int):=by
    have:=or_low 1 h 1 (by decide) (by omega)
    rw [show ((h * 2 ^ 1 : Nat) : Int) = (h : Int) * 2 by omega,show ((1 + h * 2 ^ 1 : Nat) : Int) = (H1 : Int) by omega] at this
    exact this
   have HA : Hid (4 * l + q = A1 ∧ 4 * h + 1 = T1 ∧ 2 * h + 1 = H1):=⟨hA1,hT1',hH1⟩
   have b1 : A1 < 1000000000000000000:=by omega
   have b2 : T1 < 1000000000000000000:=by omega
   clear hA1 hT1' hH1
   by_cases hfit : (T1 : Int) ≤ (A1 : Int)
   ·go_wp2_with fail
    refine KP2.out.mono ?_
    rintro e w2 ⟨rfl,k2⟩
    go_wp2
    go_roundw
    case rel =>
     obtain ⟨a1,a2,a3⟩:=HA.out
     have hs:=(HR.out.step (flo v (x - f + 2 * (k : Int))) (by rw [flo_four]; congr 1; omega)).1 (by rw [← HQ.out]; omega)
     refine ⟨k + 1,H1,A1 - T1,by omega,by go_num,rfl,by go_num,?_,?_,hKr.trans k2⟩
     ·rw [← HQ.out,a2,a1,a3] at hs
      rw [show x - f - 2 + 2 * ((k + 1 : Nat) : Int) = x - f + 2 * (k : Int) by omega]
      exact hs
     ·have:=HH.out
      rw [Nat.pow_succ]
      omega
    case measure => simp [intOf]; omega
   ·go_wp2_with fail
    refine KP2.out.mono ?_
    rintro e w2 ⟨rfl,k2⟩
    go_wp2
    go_roundw
    case rel =>
     obtain ⟨a1,a2,a3⟩:=HA.out
     have hs:=(HR.out.step (flo v (x - f + 2 * (k : Int))) (by rw [flo_four]; congr 1; omega)).2 (by rw [← HQ.out]; omega)
     refine ⟨k + 1,2 * h,A1,by omega,by go_num,by go_num,by go_num,?_,?_,hKr.trans k2⟩
     ·rw [← HQ.out,a1] at hs
      rw [show x - f - 2 + 2 * ((k + 1 : Nat) : Int) = x - f + 2 * (k : Int) by omega]
      exact hs
     ·have:=HH.out
      rw [Nat.pow_succ]
      omega
    case measure => simp [intOf]; omega
  ·obtain rfl : k = 56:=by omega
   have hR:=HR.out
   rw [show x - f - 2 + 2 * ((56 : Nat) : Int) = x - (f - 110) by omega] at hR
   have HR2 : Hid (Rtz (flo v (x - (f - 110))) h l):=hR
   clear hR hh
   obtain ⟨⟨p0,p1,p2⟩,r0,r1,r2,r3,rf⟩:=HS.out _ hKr
   by_cases hl0 : l = 0
   ·subst hl0
    go_wp2
    refine bodyPost_ret (v:=.agg #[.bool false,.int .i64 (h : Int),.int .i64 ((f - 110).tdiv 2),.bool (decide (x < f - 110))]) (by simp [results,Tryz.results158,go_sem,r0,r1,r2,r3]) rfl ⟨h,0,by simp,HR2.out,?_⟩
    exact (hK.trans hKr).setCell (by simp) _ |>.setCell (by simp) _ |>.setCell (by simp) _ |>.setCell (by simp) _
   ·have hl0' : ((l : Int) == 0) = false:=by simp; omega
    go_wp2
    refine bodyPost_ret (v:=.agg #[.bool false,.int .i64 (h : Int),.int .i64 ((f - 110).tdiv 2),.bool true]) (by simp [results,Tryz.results158,go_sem,r0,r1,r2,r3]) rfl ⟨h,l,by simp [hl0],HR2.out,?_⟩
    exact (hK.trans hKr).setCell (by simp) _ |>.setCell (by simp) _ |>.setCell (by simp) _ |>.setCell (by simp) _
end Go.Proofs.YtnniljhdcplkgaaGreatDoor
