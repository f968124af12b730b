/- For AccAdds: AddProduct,Add,Of of any sum and any patterns. For AccAdds: Times of any sum and any pattern. For AccAdds: the document's AddOne,AddPair,Times of any sum and any patterns. -/
import Derived.Test.YtoflafgbbjinpaaGreatDoorX41
import Derived.Test.YtoflafgbbjinpaaGreatDoorX42
import Derived.Test.YtoflafgbbjinpaaGreatDoorX43
namespace Go.Proofs.YtoflafgbbjinpaaGreatDoor
open Go.ChangeShapes Go.WideShapes Go.ChangeAt Go.RowKit
set_option linter.unusedVariables false
set_option linter.unusedSimpArgs false
set_option maxHeartbeats 16000000
set_option maxRecDepth 100000
theorem pls_zero (a : Nm) (hv : vld a = true) : pls a ⟨false,[],0⟩ = a:=by
 unfold pls
 by_cases h : a.mag = []
 ·rw [if_pos h]
  unfold vld at hv
  rw [if_pos h] at hv
  obtain ⟨n,L,x⟩:=a
  simp at hv h
  obtain ⟨rfl,rfl⟩:=hv
  rw [h]
 ·rw [if_neg h,if_pos rfl]
theorem lk_ok {n : Int} {v : Bool} {L : List Int} (h : lkE n v L = 0) : (n = 64 ∨ n = 32) ∧ v = true ∧ L.all (val · n) = true:=by
 unfold lkE at h
 by_cases h1 : val 0 n = false
 ·rw [if_pos h1] at h; cases h
 rw [if_neg h1] at h
 by_cases h2 : v = false
 ·rw [if_pos h2] at h; cases h
 rw [if_neg h2] at h
 by_cases h3 : L.all (val · n) = true
 ·refine ⟨?_,by simpa using h2,h3⟩
  simp [val] at h1
  omega
 ·rw [if_neg h3] at h; cases h
/- what a product makes of a sum -/
def qPr (n x y : Int) (a : Nm) : Nm:=if bth n x y = true then pls a (tms (ofN x n) (ofN y n)) else a
theorem addProduct_all (n x y : Int) (x1 : -9223372036854775808 ≤ x) (x2 : x ≤ 9223372036854775807) (y1 : -9223372036854775808 ≤ y) (y2 : y ≤ 9223372036854775807) (a : Nm) (ra : Rg a.mag) (la : a.mag.length < 60000000) (p m z : Bool) : ∃ (rp : Nm) (pe : Int) (P M Z : Bool),(∀ (u : World) (ao : Option Addr) (c : Nat),Tab u → Sl u (.slice ao a.mag.length c) a.mag → Calls Tryz.prog 19 #[accV a.neg (.slice ao a.mag.length c) a.exp p m z,.int .i64 x,.int .i64 y,.int .i64 n] u fun e w' => ∃ un ua ul uc ux,e = .returned (.tuple #[accV un (.slice ua ul uc) ux P M Z,.int .i64 pe]) ∧ New u w' (.agg #[.bool un,.slice ua ul uc,.int .i64 ux]) rp ∧ Kept u w') ∧ (lkE n (vld a) [x,y] ≠ 0 → rp = ⟨false,[],0⟩ ∧ pe = lkE n (vld a) [x,y] ∧ P = false ∧ M = false ∧ Z = false) ∧ (lkE n (vld a) [x,y] = 0 → if vld (qPr n x y a) = true then rp = qPr n x y a ∧ pe = 0 ∧ P = (p || fP n x y) ∧ M = (m || fM n x y) ∧ Z = (z || fN n x y) else rp = ⟨false,[],0⟩ ∧ pe = 2 ∧ P = false ∧ M = false ∧ Z = false):=by
 by_cases h0 : lkE n (vld a) [x,y] = 0
 ·obtain ⟨hn,hv,hL⟩:=lk_ok h0
  simp only [List.all_cons,List.all_nil,Bool.and_true,Bool.and_eq_true] at hL
  obtain ⟨vx,vy⟩:=hL
  obtain ⟨t,ht⟩:=dn_some (pvl n x y) (big_lt (pvl_lt n x y hn x1 x2 y1 y2))
  have hpl : pls a t = qPr n x y a:=by
   unfold qPr
   by_cases hb : bth n x y = true
   ·rw [if_pos hb]
    have hb':=hb
    unfold bth at hb'
    rw [Bool.and_eq_true,decide_eq_true_eq,decide_eq_true_eq] at hb'
    rw [ht.one (dn_tms n x y hn x1 x2 y1 y2 hb'.1 hb'.2)]
   ·rw [if_neg hb]
    have h9:=ht
    unfold pvl at h9
    rw [if_neg hb] at h9
    rw [h9.one dn_zero]
    exact pls_zero a hv
  obtain ⟨rp,pe,P,M,Z,hM,-,ho⟩:=merge_all a t ra ht.rg.1 la (by have:=ht.rg.2; omega) p m z (fP n x y) (fM n x y) (fN n x y)
  refine ⟨rp,pe,P,M,Z,fun u ao c hT h => ?_,fun h => absurd h0 h,fun _ => ?_⟩
  ·refine addProduct_ok n x y a.neg ao a.mag.length c a.exp p m z u (PhiA (pvl n x y) (fP n x y) (fM n x y) (fN n x y) 1) t rp (fP n x y) (fM n x y) (fN n x y) P M Z pe (fun b v k2 hb g0 g1 => ?_) (fun b v hM => ?_) (fun b v fl C lo hi k2 hM hΦ => phi_told n _ _ _ _ 1 (by decide) b v (hT.kept k2) fl C lo hi hM hΦ _ ht.is) (fun v vn va vl vc vx k2 e1 e2 e3 e4 hs => ?_)
   ·have:=look_any n a.neg a.mag a.exp ra (by omega) ao c p m z [x,y] (by simp) v (h.kept k2) _ (sl_two hb g0 g1)
    rw [show lkE n (vld ⟨a.neg,a.mag,a.exp⟩) [x,y] = 0 from h0] at this
    exact this
   ·have:=phi_any n x y hn x1 x2 y1 y2 vx vy 0 false false false 0 (by decide) b v acc0 C0 141 0 hM phi_start
    simp only [Int.zero_add,Bool.false_or,Nat.zero_add] at this
    exact this
   ·subst e1 e2 e3
    exact hM v ao va c vc (hT.kept k2) (h.kept k2) hs
  ·have:=ho (by rw [hv,ht.vld]; rfl)
   rw [hpl] at this
   exact this
 ·refine ⟨⟨false,[],0⟩,lkE n (vld a) [x,y],false,false,false,fun u ao c hT h => ?_,fun _ => ⟨rfl,rfl,rfl,rfl,rfl⟩,fun g => absurd g h0⟩
  refine (addProduct_no n x y a.neg ao a.mag.length c a.exp p m z u _ h0 (fun b v k2 hb g0 g1 => look_any n a.neg a.mag a.exp ra (by omega) ao c p m z [x,y] (by simp) v (h.kept k2) _ (sl_two hb g0 g1))).mono ?_
  rintro e w' ⟨rfl,k2⟩
  exact ⟨false,none,0,0,0,rfl,new_zero _ _,k2⟩
theorem from_width (n : Int) (h1 : (n == 32) = false) (h2 : (n == 64) = false) (w : World) : Calls Tryz.prog 32 #[.int .i64 1,.int .i64 n] w fun e w' => e = .returned (.int .i64 0) ∧ Kept w w':=by
 go_enter Tryz.func32,Tryz.ntmps32
 go_wp2_with fail
 go_ret
 exact ⟨rfl,Kept.refl _⟩
def qOn (n x : Int) (a : Nm) : Nm:=if cls x n < 3 then pls a (ofN x n) else a
theorem qOn_is (n x : Int) (hn : n = 64 ∨ n = 32) (x1 : -9223372036854775808 ≤ x) (x2 : x ≤ 9223372036854775807) (a : Nm) : qPr n x (oneN n) a = qOn n x a:=by
 have o1:=(one_cls n hn).1
 obtain ⟨o2,o3,o4⟩:=oneN_ok n hn
 unfold qPr qOn
 by_cases h : cls x n < 3
 ·rw [if_pos h,if_pos (by unfold bth; rw [decide_eq_true h,decide_eq_true (by omega)]; rfl)]
  rw [(dn_tms n x (oneN n) hn x1 x2 o2 o3 h (by omega)).one (dn_of n x hn x1 x2 h)]
 ·rw [if_neg h,if_neg (by unfold bth; rw [decide_eq_false h]; simp)]
theorem lk_one (n x : Int) (v : Bool) (hn : n = 64 ∨ n = 32) : lkE n v [x,oneN n] = lkE n v [x]:=by
 have:=(oneN_ok n hn).2.2
 unfold lkE
 simp [this]
theorem lk_bad (n : Int) (v : Bool) (L : List Int) (hn : ¬ (n = 64 ∨ n = 32)) : lkE n v L = 3:=by
 unfold lkE
 rw [if_pos]
 unfold val
 rw [decide_eq_false_iff_not]
 omega
theorem addOne_all (n x : Int) (x1 : -9223372036854775808 ≤ x) (x2 : x ≤ 9223372036854775807) (a : Nm) (ra : Rg a.mag) (la : a.mag.length < 60000000) (p m z : Bool) : ∃ (rp : Nm) (pe : Int) (P M Z : Bool),(∀ (u : World) (ao : Option Addr) (c : Nat),Tab u → Sl u (.slice ao a.mag.length c) a.mag → Calls Tryz.prog 28 #[accV a.neg (.slice ao a.mag.length c) a.exp p m z,.int .i64 x,.int .i64 n] u fun e w' => ∃ un ua ul uc ux,e = .returned (.tuple #[accV un (.slice ua ul uc) ux P M Z,.int .i64 pe]) ∧ New u w' (.agg #[.bool un,.slice ua ul uc,.int .i64 ux]) rp ∧ Kept u w') ∧ (lkE n (vld a) [x] ≠ 0 → rp = ⟨false,[],0⟩ ∧ pe = lkE n (vld a) [x] ∧ P = false ∧ M = false ∧ Z = false) ∧ (lkE n (vld a) [x] = 0 → if vld (qOn n x a) = true then rp = qOn n x a ∧ pe = 0 ∧ P = (p || fP n x (oneN n)) ∧ M = (m || fM n x (oneN n)) ∧ Z = (z || fN n x (oneN n)) else rp = ⟨false,[],0⟩ ∧ pe = 2 ∧ P = false ∧ M = false ∧ Z = false):=by
 by_cases hn : n = 64 ∨ n = 32
 ·obtain ⟨o2,o3,o4⟩:=oneN_ok n hn
  obtain ⟨rp,pe,P,M,Z,hA,hb,ho⟩:=addProduct_all n x (oneN n) x1 x2 o2 o3 a ra la p m z
  rw [lk_one n x _ hn] at hb ho
  rw [qOn_is n x hn x1 x2] at ho
  exact ⟨rp,pe,P,M,Z,fun u ao c hT h => addOne_ok n x (oneN n) a.neg ao a.mag.length c a.exp p m z u rp P M Z pe (fun v => fromOne n hn v) (fun v k => hA v ao c (hT.kept k) (h.kept k)),hb,ho⟩
 ·obtain ⟨rp,pe,P,M,Z,hA,hb,-⟩:=addProduct_all n x 0 x1 x2 (by decide) (by decide) a ra la p m z
  rw [lk_bad n _ _ hn] at hb
  refine ⟨rp,pe,P,M,Z,fun u ao c hT h => addOne_ok n x 0 a.neg ao a.mag.length c a.exp p m z u rp P M Z pe (fun v => from_width n (by simp; omega) (by simp; omega) v) (fun v k => hA v ao c (hT.kept k) (h.kept k)),?_,?_⟩
  ·rw [lk_bad n _ _ hn]
   exact hb
  ·rw [lk_bad n _ _ hn]
   intro h
   cases h
theorem ofAcc_all (n x : Int) (x1 : -9223372036854775808 ≤ x) (x2 : x ≤ 9223372036854775807) : ∃ (rp : Nm) (pe : Int) (P M Z : Bool),(∀ (u : World),Tab u → Calls Tryz.prog 38 #[.int .i64 x,.int .i64 n] u fun e w' => ∃ un ua ul uc ux,e = .returned (.tuple #[accV un (.slice ua ul uc) ux P M Z,.int .i64 pe]) ∧ New u w' (.agg #[.bool un,.slice ua ul uc,.int .i64 ux]) rp ∧ Kept u w') ∧ (lkE n true [x] ≠ 0 → rp = ⟨false,[],0⟩ ∧ pe = lkE n true [x] ∧ P = false ∧ M = false ∧ Z = false) ∧ (lkE n true [x] = 0 → if vld (qOn n x ⟨false,[],0⟩) = true then rp = qOn n x ⟨false,[],0⟩ ∧ pe = 0 ∧ P = fP n x (oneN n) ∧ M = fM n x (oneN n) ∧ Z = fN n x (oneN n) else rp = ⟨false,[],0⟩ ∧ pe = 2 ∧ P = false ∧ M = false ∧ Z = false):=by
 obtain ⟨rp,pe,P,M,Z,hA,hb,ho⟩:=addOne_all n x x1 x2 ⟨false,[],0⟩ (by intro d hd; cases hd) (by decide) false false false
 rw [vldz] at hb ho
 simp only [Bool.false_or] at ho
 exact ⟨rp,pe,P,M,Z,fun u hT => accOf_ok n x u rp P M Z pe (fun v k => hA v none 0 (hT.kept k) (sl_none v)),hb,ho⟩
theorem first3_no (n : Int) (po : Option Addr) (l c : Nat) (w : World) : Calls Tryz.prog 42 #[.int .i64 n,.bool false,.slice po l c] w fun e w' => e = .returned (.int .i64 (if n = 64 ∨ n = 32 then 7 else 3)) ∧ Kept w w':=by
 by_cases hn : n = 64 ∨ n = 32
 ·rw [if_pos hn]
  rcases hn with rfl | rfl
  all_goals
   go_enter Tryz.func42,Tryz.ntmps42
   go_wp2_with fail
   go_ret
   exact ⟨rfl,Kept.refl _⟩
 ·rw [if_neg hn]
  have h1 : (n != 32) = true:=by simp; omega
  have h2 : (n != 64) = true:=by simp; omega
  go_enter Tryz.func42,Tryz.ntmps42
  go_wp2_with fail
  go_ret
  exact ⟨rfl,Kept.refl _⟩
theorem first3_all (n : Int) (v : Bool) (X : List Int) (hR : Rg X) (hl : X.length < 100000000) (ao : Option Addr) (c : Nat) (w : World) (h : Sl w (.slice ao X.length c) X) : Calls Tryz.prog 42 #[.int .i64 n,.bool v,.slice ao X.length c] w fun e w' => e = .returned (.int .i64 (lkE n v X)) ∧ Kept w w':=by
 cases v
 ·have:=first3_no n ao X.length c w
  rw [show lkE n false X = if n = 64 ∨ n = 32 then 7 else 3 by
   by_cases hn : n = 64 ∨ n = 32
   ·rw [if_pos hn]
    unfold lkE
    rw [if_neg (by simp [val]; omega),if_pos rfl]
   ·rw [if_neg hn,lk_bad n _ _ hn]]
  exact this
 ·exact first3_any n X hR hl ao c w h
def mnsM (n : Int) : Int:=if n = 64 then -4616189618054758400 else 3212836864
/- the sign of a sum: of what is infinite,else of the number -/
def sgA (a : Nm) (p m : Bool) : Int:=if (p != m) = true then (if m = true then -1 else 1) else (if a.mag.length = 0 then 0 else if a.neg = true then -1 else 1)
def nnA (a : Nm) (p m z : Bool) : Bool:=z || (p && m) || (sgA a p m == 0)
def svA (n : Int) (a : Nm) (p m z : Bool) : Int:=bif (nfE (ivn n) (nvn n) (gvn n) p m z).2 then (nfE (ivn n) (nvn n) (gvn n) p m z).1 else (if a.mag.length = 0 then 0 else if a.neg = true then mnsM n else oneN n)
theorem sv_facts (n : Int) (hn : n = 64 ∨ n = 32) (a : Nm) (p m z : Bool) : (decide (cls (svA n a p m z) n = 4 ∨ cls (svA n a p m z) n = 0) = nnA a p m z) ∧ (nnA a p m z = false → sgn (svA n a p m z) n = decide (sgA a p m < 0)) ∧ -9223372036854775808 ≤ svA n a p m z ∧ svA n a p m z ≤ 9223372036854775807 ∧ val (svA n a p m z) n = true:=by
 unfold nnA svA sgA
 by_cases hl : a.mag.length = 0
 ·rw [if_pos hl,if_pos hl]
  rcases hn with rfl | rfl <;> cases p <;> cases m <;> cases z <;> decide +kernel
 ·rw [if_neg hl,if_neg hl]
  generalize a.neg = ng
  rcases hn with rfl | rfl <;> cases p <;> cases m <;> cases z <;> cases ng <;> decide +kernel
theorem signOf_gen (n : Int) (ng : Bool) (ao : Option Addr) (l cap : Nat) (x : Int) (p m z : Bool) (w : World) (bv : Int) (ok : Bool) (s f iv : Int)
  (KF : Hid (∀ u,Calls Tryz.prog 71 #[accV ng (.slice ao l cap) x p m z,.int .i64 n] u fun e w' => e = .returned (.tuple #[.int .i64 bv,.bool ok]) ∧ Kept u w'))
  (KS : Hid (∀ u,Kept w u → Calls Tryz.prog 127 #[.agg #[.bool ng,.slice ao l cap,.int .i64 x]] u fun e w' => e = .returned (.tuple #[.int .i64 s,.int .i64 f]) ∧ Kept u w'))
  (KI : Hid (∀ u,Calls Tryz.prog 32 #[.int .i64 s,.int .i64 n] u fun e w' => e = .returned (.int .i64 iv) ∧ Kept u w')) :
  Calls Tryz.prog 82 #[accV ng (.slice ao l cap) x p m z,.int .i64 n] w fun e w' => e = .returned (.int .i64 (bif ok then bv else iv)) ∧ Kept w w':=by
 obtain ⟨X,hX⟩ : ∃ X,X = w.alloc (.cells #[.bool ng,.slice ao l cap,.int .i64 x,.bool p,.bool m,.bool z] 26):=⟨_,rfl⟩
 have k0 : Kept w X:=by rw [hX]; exact (Kept.refl w).alloc _ _
 obtain ⟨B,hB⟩ : ∃ R,R = w.heap.size:=⟨_,rfl⟩
 have HA : Hid (∀ u,Kept X u → _):=acc_cells1 ng (.slice ao l cap) x p m z 26 B hB (X:=X) (by rw [hX]; exact Kept.refl _)
 go_enter Tryz.func82,Tryz.ntmps82
 go_upto_region 1 with fail
 rw [← hX,← hB]
 clear hX hB
 obtain ⟨c0,c1,c2,c3,c4,c5⟩:=HA.out _ (Kept.refl _)
 go_wp2_with fail
 refine (KF.out _).mono ?_
 rintro e w1 ⟨rfl,k1⟩
 clear c0 c1 c2 c3 c4 c5
 cases ok
 ·obtain ⟨c0,c1,c2,c3,c4,c5⟩:=HA.out _ k1
  go_wp2_with fail
  refine (KS.out _ (k0.trans k1)).mono ?_
  rintro e w2 ⟨rfl,k2⟩
  go_wp2_with fail
  refine (KI.out _).mono ?_
  rintro e w3 ⟨rfl,k3⟩
  go_wp2_with fail
  go_ret
  exact ⟨rfl,((k0.trans k1).trans k2).trans k3⟩
 ·go_wp2_with fail
  go_ret
  exact ⟨rfl,k0.trans k1⟩
theorem from_sign (n : Int) (hn : n = 64 ∨ n = 32) (l : Nat) (ng : Bool) (u : World) : Calls Tryz.prog 32 #[.int .i64 (if l = 0 then 0 else if ng = true then -1 else 1),.int .i64 n] u fun e w' => e = .returned (.int .i64 (if l = 0 then 0 else if ng = true then mnsM n else oneN n)) ∧ Kept u w':=by
 by_cases hl : l = 0
 ·rw [if_pos hl,if_pos hl]
  rcases hn with rfl | rfl
  ·exact (fromZero_64 u).mono (by rintro e w' ⟨rfl,rfl⟩; exact ⟨rfl,Kept.refl _⟩)
  ·exact (fromZero_32 u).mono (by rintro e w' ⟨rfl,rfl⟩; exact ⟨rfl,Kept.refl _⟩)
 ·rw [if_neg hl,if_neg hl]
  cases ng
  ·exact fromOne n hn u
  ·rcases hn with rfl | rfl
   ·exact (fromLess_64 u).mono (by rintro e w' ⟨rfl,rfl⟩; exact ⟨rfl,Kept.refl _⟩)
   ·exact (fromLess_32 u).mono (by rintro e w' ⟨rfl,rfl⟩; exact ⟨rfl,Kept.refl _⟩)
theorem signOf_all (n : Int) (hn : n = 64 ∨ n = 32) (a : Nm) (ra : Rg a.mag) (la : a.mag.length < 60000000) (hv : vld a = true) (p m z : Bool) (ao : Option Addr) (c : Nat) (w : World) (h : Sl w (.slice ao a.mag.length c) a.mag) : Calls Tryz.prog 82 #[accV a.neg (.slice ao a.mag.length c) a.exp p m z,.int .i64 n] w fun e w' => e = .returned (.int .i64 (svA n a p m z)) ∧ Kept w w' :=
 signOf_gen n a.neg ao a.mag.length c a.exp p m z w _ _ _ 0 _ (fun u => notFin n hn a.neg ao a.mag.length c a.exp p m z u) (fun u k => sign_ok a.neg a.mag ra la ao c a.exp hv u (h.kept k)) (fun u => from_sign n hn a.mag.length a.neg u)
/- what Times makes of a sum: the number,and the three flags -/
def qTm (n b : Int) (a : Nm) : Nm:=if cls b n = 1 ∨ cls b n = 2 then tms a (ofN b n) else ⟨false,[],0⟩
def tP (n b : Int) (a : Nm) (p m z : Bool) : Bool:=if cls b n = 1 ∨ cls b n = 2 then (bif sgn b n then m else p) else decide (cls b n = 3) && !nnA a p m z && !(decide (sgA a p m < 0) != sgn b n)
def tM (n b : Int) (a : Nm) (p m z : Bool) : Bool:=if cls b n = 1 ∨ cls b n = 2 then (bif sgn b n then p else m) else decide (cls b n = 3) && !nnA a p m z && (decide (sgA a p m < 0) != sgn b n)
def tZ (n b : Int) (a : Nm) (p m z : Bool) : Bool:=if cls b n = 1 ∨ cls b n = 2 then z else if cls b n = 0 then (p || m || z) else if cls b n = 3 then nnA a p m z else true
theorem of_neg (n b : Int) (hn : n = 64 ∨ n = 32) (hc : cls b n = 1 ∨ cls b n = 2) : (ofN b n).neg = sgn b n:=by
 have hc3 : cls b n < 3:=by omega
 have h0 : pmag b n ≠ 0:=fun h => by
  unfold pmag fin at h
  rw [if_pos (decide_eq_true ⟨hn,hc3⟩)] at h
  rcases hn with rfl | rfl
  ·unfold cls clsOf at hc
   simp only [if_true] at h hc
   split at h <;> (repeat' (split at hc)) <;> omega
  ·unfold cls clsOf at hc
   simp only [show ¬ ((32 : Int) = 64) by decide,if_false,if_true] at h hc
   split at h <;> (repeat' (split at hc)) <;> omega
 rw [(of_some b n hn hc3 h0).2]
 show pneg b n = sgn b n
 unfold pneg fin
 rw [decide_eq_true ⟨hn,hc3⟩]
 rfl
theorem times_all (n b : Int) (b1 : -9223372036854775808 ≤ b) (b2 : b ≤ 9223372036854775807) (a : Nm) (ra : Rg a.mag) (la : a.mag.length < 60000000) (p m z : Bool) : ∃ (rp : Nm) (pe : Int) (P M Z : Bool),(∀ (u : World) (ao : Option Addr) (c : Nat),Tab u → Sl u (.slice ao a.mag.length c) a.mag → Calls Tryz.prog 31 #[accV a.neg (.slice ao a.mag.length c) a.exp p m z,.int .i64 b,.int .i64 n] u fun e w' => ∃ un ua ul uc ux,e = .returned (.tuple #[accV un (.slice ua ul uc) ux P M Z,.int .i64 pe]) ∧ New u w' (.agg #[.bool un,.slice ua ul uc,.int .i64 ux]) rp ∧ Kept u w') ∧ (lkE n (vld a) [b] ≠ 0 → rp = ⟨false,[],0⟩ ∧ pe = lkE n (vld a) [b] ∧ P = false ∧ M = false ∧ Z = false) ∧ (lkE n (vld a) [b] = 0 → if vld (qTm n b a) = true then rp = qTm n b a ∧ pe = 0 ∧ P = tP n b a p m z ∧ M = tM n b a p m z ∧ Z = tZ n b a p m z else rp = ⟨false,[],0⟩ ∧ pe = 2 ∧ P = false ∧ M = false ∧ Z = false):=by
 have KL : ∀ (w : World) (ao : Option Addr) (c : Nat),Sl w (.slice ao a.mag.length c) a.mag → ∀ q u,Kept w u → q < u.heap.size → u.cell? ⟨q,0,none⟩ = some (.int .i64 b) → Calls Tryz.prog 67 #[.int .i64 n,accV a.neg (.slice ao a.mag.length c) a.exp p m z,.slice (some ⟨q,0,none⟩) 1 1] u fun e w' => e = .returned (.int .i64 (lkE n (vld a) [b])) ∧ Kept u w':=fun w ao c h q u k hq h0 => by
  have hs : Sl u (.slice (some ⟨q,0,none⟩) 1 1) [b]:=by
   refine ⟨_,1,rfl,by simp,by simp [maxLen],fun _ => ⟨q,0,rfl,hq,fun i hi => ?_⟩⟩
   have : i = 0:=by simp at hi; omega
   subst this
   simpa using h0
  exact look_any n a.neg a.mag a.exp ra (by omega) ao c p m z [b] (by simp) u (h.kept k) _ hs
 by_cases h0 : lkE n (vld a) [b] = 0
 ·obtain ⟨hn,hv,hL⟩:=lk_ok h0
  simp only [List.all_cons,List.all_nil,Bool.and_true] at hL
  rw [h0] at KL
  have hcr:=cls_range b n
  by_cases hc12 : cls b n = 1 ∨ cls b n = 2
  ·have hc3 : cls b n < 3:=by omega
   have hF:=finP_of b n b1 b2 hn hc3
   have hlo:=of_lies n b hn hc3 hF
   have hvo : vld (ofN b n) = true:=hlo.1.ok
   obtain ⟨hlen,hdg⟩:=vld_dg (ofN b n).neg (ofN b n).mag (ofN b n).exp hvo
   obtain ⟨rp,pe,hA,hb,ho⟩:=mul_all a (ofN b n) ra hdg.rg la (by omega)
   have ho:=ho (by rw [hv,hvo]; rfl)
   have KO : ∀ u,Tab u → Calls Tryz.prog 16 #[.int .i64 b,.int .i64 n] u fun e w' => ∃ ya yc,e = .returned (.tuple #[.agg #[.bool (ofN b n).neg,.slice ya (ofN b n).mag.length yc,.int .i64 (ofN b n).exp],.int .i64 0]) ∧ Hid (Sl w' (.slice ya (ofN b n).mag.length yc) (ofN b n).mag) ∧ Kept u w':=fun u hT => by
    refine (of_fin b n b1 b2 hn hc3 u hT).mono ?_
    rintro e w' ⟨v,rfl,hN,k⟩
    obtain ⟨vn,va,vl,vc,vx,rfl⟩:=hN.shape
    obtain ⟨rfl,rfl,rfl,-,hs⟩:=hN.parts
    exact ⟨va,vc,rfl,hs,k⟩
   have hneg:=of_neg n b hn hc12
   unfold qTm tP tM tZ
   rw [if_pos hc12,if_pos hc12,if_pos hc12,if_pos hc12]
   by_cases hq : vld (tms a (ofN b n)) = true
   ·rw [if_pos hq] at ho
    obtain ⟨rfl,rfl⟩:=ho
    refine ⟨tms a (ofN b n),0,_,_,z,fun u ao c hT h => times_fin n b a.neg ao a.mag.length c a.exp p m z u (cls b n) hc12 (ofN b n) (tms a (ofN b n)) (KL u ao c h) (fun v => class_any b n v) (fun v k => KO v (hT.kept k)) (fun v ya yc k hs => ?_),fun h => absurd h0 h,fun _ => ?_⟩
    ·refine (hA v ao ya c yc (hT.kept k) (h.kept k) hs).mono ?_
     rintro e w' ⟨x,rfl,hN,k2⟩
     obtain ⟨vn,va,vl,vc,vx,rfl⟩:=hN.shape
     exact ⟨_,_,_,_,_,rfl,hN,k2⟩
    ·rw [if_pos hq,hneg]
     exact ⟨rfl,rfl,rfl,rfl,rfl⟩
   ·rw [if_neg hq] at ho
    obtain ⟨rfl,rfl⟩:=ho
    refine ⟨⟨false,[],0⟩,2,false,false,false,fun u ao c hT h => ?_,fun h => absurd h0 h,fun _ => ?_⟩
    ·refine (times_no n b a.neg ao a.mag.length c a.exp p m z u (cls b n) 2 hc12 (by decide) (ofN b n) (KL u ao c h) (fun v => class_any b n v) (fun v k => KO v (hT.kept k)) (fun v ya yc k hs => ?_)).mono ?_
     ·refine (hA v ao ya c yc (hT.kept k) (h.kept k) hs).mono ?_
      rintro e w' ⟨x,rfl,hN,k2⟩
      obtain rfl:=new_nil hN
      exact ⟨rfl,k2⟩
     ·rintro e w' ⟨rfl,k2⟩
      exact ⟨false,none,0,0,0,rfl,new_zero _ _,k2⟩
    ·rw [if_neg hq]
     exact ⟨rfl,rfl,rfl,rfl,rfl⟩
  ·have hqz : qTm n b a = ⟨false,[],0⟩:=by unfold qTm; rw [if_neg hc12]
   rw [hqz,vldz]
   by_cases hc0 : cls b n = 0
   ·refine ⟨⟨false,[],0⟩,0,false,false,(p || m || z),fun u ao c hT h => ?_,fun h => absurd h0 h,fun _ => ?_⟩
    ·refine (times_zero n b a.neg ao a.mag.length c a.exp p m z u (KL u ao c h) (fun v => by rw [← hc0]; exact class_any b n v)).mono ?_
     rintro e w' ⟨rfl,k2⟩
     exact ⟨false,none,0,0,0,rfl,new_zero _ _,k2⟩
    ·unfold tP tM tZ
     rw [if_neg hc12,if_neg hc12,if_neg hc12,if_pos hc0,hc0]
     exact ⟨rfl,rfl,rfl,rfl,rfl⟩
   ·have hc34 : cls b n = 3 ∨ cls b n = 4:=by omega
    obtain ⟨s1,s2,s3,s4,s5⟩:=sv_facts n hn a p m z
    have hbt : bth n (svA n a p m z) b = false:=by unfold bth; rw [decide_eq_false (by omega : ¬ cls b n < 3),Bool.and_false]
    obtain ⟨f1,f2,f3,r1,r2⟩:=flags_are n (svA n a p m z) b hn hbt
    refine ⟨⟨false,[],0⟩,0,fP n (svA n a p m z) b,fM n (svA n a p m z) b,fN n (svA n a p m z) b,fun u ao c hT h => ?_,fun h => absurd h0 h,fun _ => ?_⟩
    ·refine (times_inf n b a.neg ao a.mag.length c a.exp p m z u (cls b n) (svA n a p m z) (mlS n (svA n a p m z) b) hc34 (fP n (svA n a p m z) b) (fM n (svA n a p m z) b) (fN n (svA n a p m z) b) (KL u ao c h) (fun v => class_any b n v) (fun v k => signOf_all n hn a ra la hv p m z ao c v (h.kept k)) (fun v => mul_special n hn (svA n a p m z) b s3 s4 b1 b2 s5 hL (.inr (by omega)) v) (fun v => ?_)).mono ?_
     ·have:=flag_any (mlS n (svA n a p m z) b) n r1 r2 v
      rw [f1,f2,f3] at this
      exact this
     ·rintro e w' ⟨rfl,k2⟩
      exact ⟨false,none,0,0,0,rfl,new_zero _ _,k2⟩
    ·rw [if_pos rfl]
     unfold tP tM tZ fP fM fN
     rw [if_neg hc12,if_neg hc12,if_neg hc12,if_neg hc0,hbt]
     rcases hc34 with h3 | h4
     ·have e1 : decide (cls (svA n a p m z) n = 4 ∨ cls b n = 4 ∨ cls (svA n a p m z) n = 0 ∨ cls b n = 0) = nnA a p m z:=by
       rw [← s1]
       congr 1
       apply propext
       omega
      rw [e1,if_pos h3,decide_eq_true h3]
      cases hnn : nnA a p m z
      ·rw [s2 hnn]
       cases decide (sgA a p m < 0) <;> cases sgn b n <;> simp
      ·simp
     ·have e1 : decide (cls (svA n a p m z) n = 4 ∨ cls b n = 4 ∨ cls (svA n a p m z) n = 0 ∨ cls b n = 0) = true:=decide_eq_true (.inr (.inl h4))
      rw [e1,if_neg (by omega),decide_eq_false (by omega)]
      simp
 ·refine ⟨⟨false,[],0⟩,lkE n (vld a) [b],false,false,false,fun u ao c hT h => ?_,fun _ => ⟨rfl,rfl,rfl,rfl,rfl⟩,fun g => absurd g h0⟩
  refine (times_err n b a.neg ao a.mag.length c a.exp p m z u _ h0 (KL u ao c h)).mono ?_
  rintro e w' ⟨rfl,k2⟩
  exact ⟨false,none,0,0,0,rfl,new_zero _ _,k2⟩
theorem rplus_in (P : Nat → Prop) (u : World) (r t : Nm) (hv : vld r = true) (ht : vld t = true) (va vb : Value) (ha : RNp P u va r) (hb : RNp P u vb t) (hP : ∀ c,u.heap.size ≤ c → P c) : Calls Tryz.prog 94 #[va,vb] u fun e w' => ∃ ua uc,e = .returned (.agg #[.bool (pls r t).neg,.slice ua (pls r t).mag.length uc,.int .i64 (pls r t).exp]) ∧ Hid (RLp P w' (.slice ua (pls r t).mag.length uc) (pls r t).mag) ∧ Kept u w':=by
 have c1:=vld_cn r hv
 have c2:=vld_cn t ht
 refine (plus_any P u r t va vb ha hb c1.1 c2.1 (by omega) (by omega) (by omega) (by omega)).mono ?_
 rintro e w' ⟨⟨v,rfl,hv⟩,k⟩
 obtain ⟨s',rfl,hs⟩:=hv
 have hs':=hs.imp (fun c h => h.elim id (hP c))
 obtain ⟨ao,c,rfl,-,-,-⟩:=hs
 exact ⟨ao,c,rfl,hs',k⟩
theorem raddone_gen (Pin : Nat → Prop) (n b : Int) (hn : n = 64 ∨ n = 32) (b1 : -9223372036854775808 ≤ b) (b2 : b ≤ 9223372036854775807) (r : Nm) (hv : vld r = true) (p m z : Bool) (ao : Option Addr) (d : Nat) (w : World) (hPin : ∀ c,Pin c → c < w.heap.size) (h : RLp Pin w (.slice ao r.mag.length d) r.mag) :
  Calls Tryz.prog 43 #[accV r.neg (.slice ao r.mag.length d) r.exp p m z,.int .i64 b,.int .i64 n] w fun e w' => ∃ ua uc,e = .returned (accV (qOn n b r).neg (.slice ua (qOn n b r).mag.length uc) (qOn n b r).exp (p || fP n b (oneN n)) (m || fM n b (oneN n)) (z || fN n b (oneN n))) ∧ Hid (RLp (fun c => Pin c ∨ w.heap.size ≤ c) w' (.slice ua (qOn n b r).mag.length uc) (qOn n b r).mag) ∧ Kept w w':=by
 have KC : Hid (∀ u,Calls Tryz.prog 91 #[.int .i64 b,.int .i64 n] u fun e w' => e = .returned (.int .i64 (cls b n)) ∧ Kept u w'):=fun u => rclass_any b n b1 b2 u
 have hcl:=cls_range b n
 unfold qOn
 by_cases h4 : cls b n = 4
 ·obtain ⟨f1,f2,f3,f4⟩:=one_nan n b hn h4
  rw [if_neg (by omega),f1,f2,f3,Bool.or_false,Bool.or_false,Bool.or_true]
  rw [h4] at KC
  refine (raddone_nan n b r ao r.mag.length d p m z w KC).mono ?_
  rintro e w' ⟨rfl,k⟩
  exact ⟨ao,d,rfl,(h.kept k).imp (fun c hc => .inl hc),k⟩
 by_cases h3 : cls b n = 3
 ·obtain ⟨f1,f2,f3,f4⟩:=one_inf n b hn h3
  rw [if_neg (by omega),f1,f2,f3,Bool.or_false]
  rw [h3] at KC
  refine (raddone_inf n b (sgn b n) r ao r.mag.length d p m z _ _ w KC (fun u => rneg_any b n hn h4 b1 b2 u) (fun u => rinf (sgn b n) r.neg ao r.mag.length d r.exp p m z u)).mono ?_
  rintro e w' ⟨rfl,k⟩
  exact ⟨ao,d,rfl,(h.kept k).imp (fun c hc => .inl hc),k⟩
 have hc : cls b n < 3:=by omega
 obtain ⟨f1,f2,f3⟩:=one_fin n b hn hc
 rw [if_pos hc,f1,f2,f3,Bool.or_false,Bool.or_false,Bool.or_false]
 have ht : vld (ofN b n) = true:=(of_lies n b hn hc (finP_of b n b1 b2 hn hc)).1.ok
 have hN:=(ofN_nrm b n hn hc).2
 refine (raddone_fin n b (cls b n) r (pls r (ofN b n)) ao r.mag.length d p m z w (fun c => Pin c ∨ w.heap.size + 2 ≤ c) (fun x hx => by rcases hx with hx | hx; (have:=hPin x hx; omega); omega) (fun x hx => by rcases hx with hx | hx; (have:=hPin x hx; omega); omega) (by simpa using h4) (by simpa using h3) KC (fun u k hs => ?_) (fun u v k hs hv' => ?_)).mono ?_
 ·refine (rexact_any b n b1 b2 hn hc u).mono ?_
  rintro e w' ⟨⟨v,rfl,hv2⟩,k'⟩
  refine ⟨v,rfl,?_,k'⟩
  rw [hN]
  exact hv2.imp (fun c hc => .inr (Nat.le_trans hs hc))
 ·exact rplus_in _ u r (ofN b n) hv ht _ v ⟨_,rfl,(h.imp (fun c hc => .inl hc)).kept k⟩ hv'.out (fun c hc => .inr (Nat.le_trans hs hc))
 ·rintro e w' ⟨ua,uc,rfl,hs,k⟩
  exact ⟨ua,uc,rfl,hs.out.imp (fun c hc => hc.elim .inl (fun hc => .inr (by omega))),k⟩
theorem raddpair_gen (Pin : Nat → Prop) (n x y : Int) (hn : n = 64 ∨ n = 32) (x1 : -9223372036854775808 ≤ x) (x2 : x ≤ 9223372036854775807) (y1 : -9223372036854775808 ≤ y) (y2 : y ≤ 9223372036854775807) (r : Nm) (hv : vld r = true) (p m z : Bool) (ao : Option Addr) (d : Nat) (w : World) (hPin : ∀ c,Pin c → c < w.heap.size) (h : RLp Pin w (.slice ao r.mag.length d) r.mag) :
  Calls Tryz.prog 46 #[accV r.neg (.slice ao r.mag.length d) r.exp p m z,.int .i64 x,.int .i64 y,.int .i64 n] w fun e w' => ∃ ua uc,e = .returned (accV (qPr n x y r).neg (.slice ua (qPr n x y r).mag.length uc) (qPr n x y r).exp (p || fP n x y) (m || fM n x y) (z || fN n x y)) ∧ Hid (RLp (fun c => Pin c ∨ w.heap.size ≤ c) w' (.slice ua (qPr n x y r).mag.length uc) (qPr n x y r).mag) ∧ Kept w w':=by
 have KC : Hid (∀ u,Calls Tryz.prog 91 #[.int .i64 x,.int .i64 n] u fun e w' => e = .returned (.int .i64 (cls x n)) ∧ Kept u w'):=fun u => rclass_any x n x1 x2 u
 have KD : Hid (∀ u,Calls Tryz.prog 91 #[.int .i64 y,.int .i64 n] u fun e w' => e = .returned (.int .i64 (cls y n)) ∧ Kept u w'):=fun u => rclass_any y n y1 y2 u
 have hcx:=cls_range x n
 have hcy:=cls_range y n
 unfold qPr
 by_cases hnan : cls x n = 4 ∨ cls y n = 4 ∨ (cls x n = 3 ∧ cls y n = 0) ∨ (cls x n = 0 ∧ cls y n = 3)
 ·obtain ⟨f1,f2,f3,f4⟩:=pair_nan n x y hnan
  have hb : ¬ bth n x y = true:=by unfold bth; rw [Bool.and_eq_true,decide_eq_true_eq,decide_eq_true_eq]; omega
  rw [if_neg hb,f1,f2,f3,Bool.or_false,Bool.or_false,Bool.or_true]
  have hw : Calls Tryz.prog 46 #[accV r.neg (.slice ao r.mag.length d) r.exp p m z,.int .i64 x,.int .i64 y,.int .i64 n] w fun e w' => e = .returned (accV r.neg (.slice ao r.mag.length d) r.exp p m true) ∧ Kept w w':=by
   by_cases h4 : cls x n = 4
   ·rw [h4] at KC
    exact raddpair_nan1 n x y (cls y n) r ao r.mag.length d p m z w KC KD
   rcases hnan with g | g | ⟨g,g'⟩ | ⟨g,g'⟩
   ·exact absurd g h4
   ·rw [g] at KD
    exact raddpair_nan2 n x y (cls x n) r ao r.mag.length d p m z w (by simpa using h4) KC KD
   ·rw [g] at KC
    rw [g'] at KD
    exact raddpair_nan3 n x y r ao r.mag.length d p m z w KC KD
   ·rw [g] at KC
    rw [g'] at KD
    exact raddpair_nan4 n x y r ao r.mag.length d p m z w KC KD
  refine hw.mono ?_
  rintro e w' ⟨rfl,k⟩
  exact ⟨ao,d,rfl,(h.kept k).imp (fun c hc => .inl hc),k⟩
 have h4 : cls x n ≠ 4:=fun e => hnan (.inl e)
 have g4 : cls y n ≠ 4:=fun e => hnan (.inr (.inl e))
 by_cases hinf : cls x n = 3 ∨ cls y n = 3
 ·have h0 : cls x n ≠ 0:=fun e => by rcases hinf with h | h <;> omega
  have g0 : cls y n ≠ 0:=fun e => by rcases hinf with h | h <;> omega
  obtain ⟨f1,f2,f3,f4⟩:=pair_inf n x y h4 g4 h0 g0 hinf
  have hb : ¬ bth n x y = true:=by unfold bth; rw [Bool.and_eq_true,decide_eq_true_eq,decide_eq_true_eq]; omega
  rw [if_neg hb,f1,f2,f3,Bool.or_false]
  have hw : Calls Tryz.prog 46 #[accV r.neg (.slice ao r.mag.length d) r.exp p m z,.int .i64 x,.int .i64 y,.int .i64 n] w fun e w' => e = .returned (accV r.neg (.slice ao r.mag.length d) r.exp (p || !(sgn x n != sgn y n)) (m || (sgn x n != sgn y n)) z) ∧ Kept w w':=by
   by_cases h3 : cls x n = 3
   ·rw [h3] at KC
    exact raddpair_inf1 n x y (cls y n) (sgn x n) (sgn y n) r ao r.mag.length d p m z _ _ w (by simpa using g4) (by simpa using g0) KC KD (fun u => rneg_any x n hn h4 x1 x2 u) (fun u => rneg_any y n hn g4 y1 y2 u) (fun u => rinf _ r.neg ao r.mag.length d r.exp p m z u)
   ·have g3 : cls y n = 3:=hinf.resolve_left h3
    rw [g3] at KD
    exact raddpair_inf2 n x y (cls x n) (sgn x n) (sgn y n) r ao r.mag.length d p m z _ _ w (by simpa using h4) (by simpa using h3) (by simpa using h0) KC KD (fun u => rneg_any x n hn h4 x1 x2 u) (fun u => rneg_any y n hn g4 y1 y2 u) (fun u => rinf _ r.neg ao r.mag.length d r.exp p m z u)
  refine hw.mono ?_
  rintro e w' ⟨rfl,k⟩
  exact ⟨ao,d,rfl,(h.kept k).imp (fun c hc => .inl hc),k⟩
 have hc : cls x n < 3:=by omega
 have hd : cls y n < 3:=by omega
 have hb : bth n x y = true:=by unfold bth; rw [Bool.and_eq_true,decide_eq_true_eq,decide_eq_true_eq]; omega
 obtain ⟨f1,f2,f3⟩:=pair_fin n x y hc hd
 rw [if_pos hb,f1,f2,f3,Bool.or_false,Bool.or_false,Bool.or_false]
 have ht:=(dn_tms n x y hn x1 x2 y1 y2 hc hd).vld
 have hN:=ofN_nrm x n hn hc
 have hM:=ofN_nrm y n hn hd
 refine (raddpair_fin n x y (cls x n) (cls y n) r (tms (ofN x n) (ofN y n)) (pls r (tms (ofN x n) (ofN y n))) (ofN x n) (ofN y n) ao r.mag.length d p m z (cls x n == 0) w (fun c => Pin c ∨ w.heap.size + 2 ≤ c) (fun x hx => by rcases hx with hx | hx; (have:=hPin x hx; omega); omega) (fun x hx => by rcases hx with hx | hx; (have:=hPin x hx; omega); omega) (by simpa using h4) (by simp; omega) (by simpa using g4) (by simp; omega) rfl KC KD (fun u k hs => ?_) (fun u k hs => ?_) (fun u v v' k hs hv hv' => ?_) (fun u v k hs hv' => ?_)).mono ?_
 ·refine (rexact_any x n x1 x2 hn hc u).mono ?_
  rintro e w' ⟨⟨v,rfl,hv⟩,k'⟩
  refine ⟨v,rfl,?_,k'⟩
  rw [hN.2]
  exact hv.imp (fun c hc => .inr (Nat.le_trans hs hc))
 ·refine (rexact_any y n y1 y2 hn hd u).mono ?_
  rintro e w' ⟨⟨v,rfl,hv⟩,k'⟩
  refine ⟨v,rfl,?_,k'⟩
  rw [hM.2]
  exact hv.imp (fun c hc => .inr (Nat.le_trans hs hc))
 ·refine (times_any _ u (ofN x n) (ofN y n) v v' hv hv' (by rw [hN.2]; exact hN.1) (by rw [hM.2]; exact hM.1)).mono ?_
  rintro e w' ⟨⟨v2,rfl,hv2⟩,k'⟩
  exact ⟨v2,rfl,hv2.imp (fun c hc => hc.elim id (fun hc => .inr (Nat.le_trans hs hc))),k'⟩
 ·exact rplus_in _ u r (tms (ofN x n) (ofN y n)) hv ht _ v ⟨_,rfl,(h.imp (fun c hc => .inl hc)).kept k⟩ hv'.out (fun c hc => .inr (Nat.le_trans hs hc))
 ·rintro e w' ⟨ua,uc,rfl,hs,k⟩
  exact ⟨ua,uc,rfl,hs.out.imp (fun c hc => hc.elim .inl (fun hc => .inr (by omega))),k⟩
end Go.Proofs.YtoflafgbbjinpaaGreatDoor
