/- A finite float's value as an exact number: the walk of exact's Of; the numbers that round meets there. The walk of exact's Round at the value of a float,in every way. The walk of exact's Round at the value of a float,in every way. The state of a sum as it is made; finite floats. The walks of cmp.Compare of ints,of exact's below and take of one digit. The walks of exact's Mul where the product is too long,and of Cmp of numbers with two signs. -/
import Derived.Test.YtoflafgbbjinpaaGreatDoorX20
import Derived.Test.YtoflafgbbjinpaaGreatDoorX18
import Derived.Test.YtoflafgbbjinpaaGreatDoorX08
import Derived.BigRegion
namespace Go.Proofs.YtoflafgbbjinpaaGreatDoor
open Go.ChangeShapes Go.WideShapes Go.ChangeAt Go.RowKit
set_option linter.unusedVariables false
set_option linter.unusedSimpArgs false
set_option maxHeartbeats 16000000
set_option maxRecDepth 100000
def ofN (b n : Int) : Nm:=(frm (pneg b n) (pmag b n).toNat (pexp b n)).getD ⟨false,[],0⟩
theorem fin_of (b n : Int) (hn : n = 64 ∨ n = 32) (hc : cls b n < 3) : fin b n = true:=by simp [fin,hn,hc]
theorem fl_64 (b : Int) (hc : cls b 64 < 3) : 0 ≤ pmag b 64 ∧ pmag b 64 < 9007199254740992 ∧ -1074 ≤ pexp b 64 ∧ pexp b 64 ≤ 971 ∧ (pmag b 64 < 4503599627370496 → pexp b 64 = -1074):=by
 have hf:=fin_of b 64 (.inl rfl) hc
 have hs : b % 9223372036854775808 < 9218868437227405312:=by
  unfold cls clsOf at hc
  simp only [if_true] at hc
  (repeat' split at hc) <;> omega
 unfold pmag pexp
 rw [if_pos hf,if_pos rfl,if_pos hf,if_pos rfl]
 (repeat' split) <;> omega
theorem fl_32 (b : Int) (hc : cls b 32 < 3) : 0 ≤ pmag b 32 ∧ pmag b 32 < 16777216 ∧ -149 ≤ pexp b 32 ∧ pexp b 32 ≤ 104 ∧ (pmag b 32 < 8388608 → pexp b 32 = -149):=by
 have hf:=fin_of b 32 (.inr rfl) hc
 have hs : b % 2147483648 < 2139095040:=by
  unfold cls clsOf at hc
  rw [if_neg (by decide),if_pos rfl] at hc
  (repeat' split at hc) <;> omega
 unfold pmag pexp
 simp only [hf,if_true,show ¬ ((32 : Int) = 64) by decide,if_false]
 (repeat' split) <;> omega
theorem fl_any (b n : Int) (hn : n = 64 ∨ n = 32) (hc : cls b n < 3) : 0 ≤ pmag b n ∧ pmag b n < 2 ^ (kprec n).toNat ∧ kleast n ≤ pexp b n ∧ pexp b n ≤ 1000 ∧ -1074 ≤ pexp b n ∧ (pmag b n < 2 ^ ((kprec n).toNat - 1) → pexp b n = kleast n):=by
 rcases hn with rfl | rfl
 ·obtain ⟨h1,h2,h3,h4,h5⟩:=fl_64 b hc
  refine ⟨h1,?_,h3,by omega,h3,fun h => h5 ?_⟩
  ·exact h2
  ·exact h
 ·obtain ⟨h1,h2,h3,h4,h5⟩:=fl_32 b hc
  refine ⟨h1,?_,h3,by omega,by omega,fun h => h5 ?_⟩
  ·exact h2
  ·exact h
theorem bl_mag (b n : Int) (hn : n = 64 ∨ n = 32) (hc : cls b n < 3) : bl (pmag b n).toNat ≤ (kprec n).toNat ∧ bl (pmag b n).toNat ≤ 53:=by
 obtain ⟨h1,h2,-⟩:=fl_any b n hn hc
 have:=bl_le (pmag b n).toNat (kprec n).toNat (by
  have e : (((pmag b n).toNat : Nat) : Int) < ((2 ^ (kprec n).toNat : Nat) : Int):=by push_cast; rw [Int.toNat_of_nonneg h1]; exact h2
  exact_mod_cast e)
 refine ⟨this,?_⟩
 rcases hn with rfl | rfl
 ·exact this
 ·exact Nat.le_trans this (by decide)
theorem of_zero (b n : Int) (h : pmag b n = 0) : frm (pneg b n) (pmag b n).toNat (pexp b n) = some ⟨false,[],0⟩ ∧ ofN b n = ⟨false,[],0⟩:=by
 have : frm (pneg b n) (pmag b n).toNat (pexp b n) = some ⟨false,[],0⟩:=by rw [h]; simp [frm]
 exact ⟨this,by unfold ofN; rw [this]; rfl⟩
theorem tzn_le_bl (v : Nat) (hv : v ≠ 0) : tzn v < bl v:=by
 have h:=bl_sub v hv
 have:=(bl_pos _ h.2).2.2
 omega
theorem of_some (b n : Int) (hn : n = 64 ∨ n = 32) (hc : cls b n < 3) (h0 : pmag b n ≠ 0) : frm (pneg b n) (pmag b n).toNat (pexp b n) = some (ofN b n) ∧ ofN b n = ⟨pneg b n,digs ((pmag b n).toNat / 2 ^ tzn (pmag b n).toNat),pexp b n + (tzn (pmag b n).toNat : Int)⟩:=by
 obtain ⟨h1,h2,h3,h4,h5,h6⟩:=fl_any b n hn hc
 have hb:=(bl_mag b n hn hc).2
 have hv : (pmag b n).toNat ≠ 0:=by omega
 have ht:=tzn_le_bl _ hv
 have hw : wrap64 (pexp b n + (tzn (pmag b n).toNat : Int)) = pexp b n + (tzn (pmag b n).toNat : Int):=by unfold wrap64; omega
 have : frm (pneg b n) (pmag b n).toNat (pexp b n) = some ⟨pneg b n,digs ((pmag b n).toNat / 2 ^ tzn (pmag b n).toNat),pexp b n + (tzn (pmag b n).toNat : Int)⟩:=by
  unfold frm
  rw [if_neg hv,hw,if_pos ⟨by omega,by omega,by omega⟩]
 exact ⟨by rw [this]; unfold ofN; rw [this]; rfl,by unfold ofN; rw [this]; rfl⟩
theorem of_frm (b n : Int) (hn : n = 64 ∨ n = 32) (hc : cls b n < 3) : frm (pneg b n) (pmag b n).toNat (pexp b n) = some (ofN b n):=by
 by_cases h : pmag b n = 0
 ·obtain ⟨h1,h2⟩:=of_zero b n h
  rw [h1,h2]
 ·exact (of_some b n hn hc h).1
theorem of_fin (b n : Int) (hb1 : -9223372036854775808 ≤ b) (hb2 : b ≤ 9223372036854775807) (hn : n = 64 ∨ n = 32) (hc : cls b n < 3) (w : World) (hT : Tab w) : Calls Tryz.prog 16 #[.int .i64 b,.int .i64 n] w fun e w' => ∃ v,e = .returned (.tuple #[v,.int .i64 0]) ∧ New w w' v (ofN b n) ∧ Kept w w':=by
 have hK : Kept w (numW w):=(Kept.refl w).alloc _ _
 obtain ⟨h1,h2,h3,h4,h5,h6⟩:=fl_any b n hn hc
 have hbl:=(bl_mag b n hn hc).2
 have hlt:=bl_lt (pmag b n).toNat
 have hm53 : (pmag b n).toNat < 2 ^ 53:=Nat.lt_of_lt_of_le hlt (Nat.pow_le_pow_right (by decide) hbl)
 have hm : pmag b n < 9007199254740992:=by
  have : (2 : Nat) ^ 53 = 9007199254740992:=by decide
  omega
 have KK : Hid (∀ u,Calls Tryz.prog 58 #[.int .i64 n] u fun e w' => e = .returned (.tuple #[.agg #[.int .i64 n,.int .i64 (kprec n),.int .i64 (kleast n),.int .i64 (kinf n)],.bool true]) ∧ Kept u w'):=fun u => kindOf_ok n hn u
 have KP : Hid (∀ u,Calls Tryz.prog 59 #[.int .i64 b,.int .i64 n] u fun e w' => e = .returned (.tuple #[.bool (pneg b n),.int .i64 (pmag b n),.int .i64 (pexp b n),.bool true]) ∧ Kept u w'):=fun u => by
  have:=parts_any b n hb1 hb2 u
  rw [fin_of b n hn hc] at this
  exact this
 have hf:=of_frm b n hn hc
 generalize pmag b n = s at *
 have hw1 : IntKind.u64.wrap s = s:=by rw [IntKind.wrap_u64]; omega
 have KD : Hid (∀ u,Calls Tryz.prog 61 #[.int .u64 s] u fun e w' => e = .returned (.slice (some ⟨u.heap.size,0,none⟩) 3 3) ∧ w' = u.alloc (.cells #[.int .i64 (s % 1073741824),.int .i64 (s / 1073741824 % 1073741824),.int .i64 (s / 1152921504606846976)] 3)):=fun u => digitsOf_any s h1 (by omega) u
 have hDg : Dg [s % 1073741824,s / 1073741824 % 1073741824,s / 1152921504606846976]:=Dg.cons (by omega) (by omega) (Dg.cons (by omega) (by omega) (Dg.cons (by omega) (by omega) Dg.nil))
 have hnv : nv [s % 1073741824,s / 1073741824 % 1073741824,s / 1152921504606846976] = s.toNat:=by
  show (s % 1073741824).toNat + 1073741824 * ((s / 1073741824 % 1073741824).toNat + 1073741824 * ((s / 1152921504606846976).toNat + 1073741824 * 0)) = s.toNat
  omega
 have KF : Hid (∀ u,Kept (numW w) u → Calls Tryz.prog 60 #[.bool (pneg b n),.slice (some ⟨u.heap.size,0,none⟩) 3 3,.int .i64 (pexp b n)] (u.alloc (.cells #[.int .i64 (s % 1073741824),.int .i64 (s / 1073741824 % 1073741824),.int .i64 (s / 1152921504606846976)] 3)) fun e w' => (∃ v,e = .returned v ∧ New (numW w) w' v (ofN b n)) ∧ Kept (numW w) w'):=fun u k => form_ok _ _ hDg (by simp) _ 3 (pexp b n) (numW w) _ (k.alloc _ _) k.below.size (own_three u _ _ _) (hT.kept (hK.trans (k.alloc _ _))) _ (by rw [hnv]; exact hf)
 generalize kprec n = pr at *
 generalize kleast n = le at *
 generalize kinf n = fi at *
 generalize pneg b n = ng at *
 generalize pexp b n = ex at *
 generalize ofN b n = r at *
 clear hDg hnv hf hT h1 h2 h3 h4 h5 h6 hbl hlt hm53 hm
 go_enter Tryz.func16,Tryz.ntmps16
 go_wp2_with fail
 refine (KK.out _).mono ?_
 rintro e w1 ⟨rfl,k1⟩
 have k1':=k1.alloc #[.int .i64 n,.int .i64 pr,.int .i64 le,.int .i64 fi] 85
 go_wp2_with fail
 refine (KP.out _).mono ?_
 rintro e w2 ⟨rfl,k2⟩
 have kk:=k1'.trans k2
 go_wp2_with fail
 refine (KD.out _).mono ?_
 rintro e w3 ⟨rfl,rfl⟩
 go_wp2_with fail
 refine (KF.out _ kk).mono ?_
 rintro e w4 ⟨⟨v,rfl,hN⟩,k4⟩
 obtain ⟨vn,va,vl,vc,vx,rfl⟩:=hN.shape
 obtain ⟨f0,f1,f2,f3⟩:=num_cells k4
 go_wp2_with fail
 have:=num_done hN k4 (.bool vn) (.slice va vl vc) (.int .i64 vx)
 exact bodyPost_ret (v:=.tuple #[.agg #[.bool vn,.slice va vl vc,.int .i64 vx],.int .i64 0]) (by simp [results,Tryz.results16,go_sem,f0,f1,f2]) rfl ⟨_,rfl,this.1,this.2⟩
theorem and_nat (a b : Nat) (ha : a < 9223372036854775808) (hb : b < 9223372036854775808) : bits .and .i64 (a : Int) (b : Int) = ((a &&& b : Nat) : Int):=by
 rw [bits_and,BitVec.toNat_and]
 have h1:=ofInt_toNat (a : Int)
 have h2:=ofInt_toNat (b : Int)
 have e1 : (BitVec.ofInt 64 (a : Int)).toNat = a:=by omega
 have e2 : (BitVec.ofInt 64 (b : Int)).toNat = b:=by omega
 have h3 : a &&& b ≤ a:=Nat.and_le_left
 rw [e1,e2,wrap_i64]
 omega
theorem and_mask (a m : Nat) (ha : a < 9223372036854775808) (hm : m < 62) : bits .and .i64 (a : Int) (((2 ^ m - 1 : Nat)) : Int) = ((a % 2 ^ m : Nat) : Int):=by
 have hp : (2 : Nat) ^ m ≤ 2 ^ 62:=Nat.pow_le_pow_right (by decide) (by omega)
 have h62 : (2 : Nat) ^ 62 = 4611686018427387904:=by decide
 rw [and_nat _ _ ha (by omega),Nat.and_two_pow_sub_one_eq_mod]
theorem leading_nil (ng : Bool) (ao : Option Addr) (c : Nat) (x : Int) (w : World) : Calls Tryz.prog 74 #[.agg #[.bool ng,.slice ao 0 c,.int .i64 x]] w fun e w' => e = .returned (.agg #[.bool false,.int .i64 0,.int .i64 0,.bool false]) ∧ Kept w w':=by
 go_enter Tryz.func74,Tryz.ntmps74
 go_wp2
 exact bodyPost_ret (v:=.agg #[.bool false,.int .i64 0,.int .i64 0,.bool false]) (by simp [results,Tryz.results74,go_sem]) rfl ⟨rfl,((Kept.refl w).alloc _ _).alloc _ _⟩
abbrev flg (p m z : Bool) : List Value:=[.bool false,.slice none 0 0,.int .i64 0,.bool p,.bool m,.bool z]
/- what was added so far,in i steps -/
def PhiA (S : Int) (p m z : Bool) (i : Nat) (fl : List Value) (C : List Int) (lo hi : Int) : Prop:=fl = flg p m z ∧ Inv C lo hi ∧ cv C = S ∧ ∀ k,-((i : Int) * 12884901888) ≤ C.getD k 0 ∧ C.getD k 0 ≤ (i : Int) * 12884901888
theorem C0_nought (k : Nat) : C0.getD k 0 = 0:=by
 unfold C0
 rw [List.getD_eq_getElem?_getD,List.getElem?_replicate]
 split <;> rfl
theorem phi_start : PhiA 0 false false false 0 acc0 C0 141 0 :=
 ⟨rfl,⟨by omega,by omega,fun k _ => C0_nought k⟩,cv_nought C0 C0_nought,fun k => by rw [C0_nought]; simp⟩
theorem finP_of (x n : Int) (h1 : -9223372036854775808 ≤ x) (h2 : x ≤ 9223372036854775807) (hn : n = 64 ∨ n = 32) (hc : cls x n < 3) : FinP n x:=by
 refine ⟨h1,h2,fin_of x n hn hc,?_,?_⟩
 ·rcases hn with rfl | rfl
  ·exact ⟨(fl_64 x hc).1,(fl_64 x hc).2.1⟩
  ·have:=(fl_32 x hc).2.1
   exact ⟨(fl_32 x hc).1,by omega⟩
 ·rcases hn with rfl | rfl
  ·exact ⟨(fl_64 x hc).2.2.1,(fl_64 x hc).2.2.2.1⟩
  ·have h:=fl_32 x hc
   exact ⟨by have:=h.2.2.1; omega,by have:=h.2.2.2.1; omega⟩
theorem phi_fin (n x y : Int) (hx : FinP n x) (hy : FinP n y) (cx : cls x n < 3) (cy : cls y n < 3) (S : Int) (p m z : Bool) (i : Nat) (hi : i < 65536) (b : Nat) (u : World) (fl : List Value) (C : List Int) (lo hi' : Int) (hM : MkAt u b fl n C lo hi') (hΦ : PhiA S p m z i fl C lo hi') :
  Calls Tryz.prog 69 #[.pointer (some ⟨b,0,none⟩),.int .i64 x,.int .i64 y] u fun e w' => e = .returned (.tuple #[]) ∧ (∃ fl' C' lo' hi',MkAt w' b fl' n C' lo' hi' ∧ PhiA (S + pval n x y) p m z (i + 1) fl' C' lo' hi') ∧ Grw b u w':=by
 obtain ⟨rfl,hI,hS,hb⟩:=hΦ
 refine add_fin u b _ n x y C lo hi' hM (cls x n) (cls y n) cx cy _ (fun v => class_any x n v) (fun v => class_any y n v) (fun v k => ?_)
 refine (lay_fin v b _ n x y C (fun k => by have:=hb k; omega) lo hi' (hM.kept k) hI hx hy).mono ?_
 rintro e w' ⟨rfl,C',lo',hi2,hM',hI',hv,hnear,hg⟩
 refine ⟨rfl,⟨_,C',lo',hi2,hM',rfl,hI',by rw [hv,hS],fun k => ?_⟩,(k.toGrw b).trans hg⟩
 have h1:=hnear k
 have h2:=hb k
 rw [Int.natCast_add,Int.add_mul]
 omega
/- how long such sums may be -/
def expK : Nat:=4300
theorem expK_is : expK = 4300:=rfl
theorem cfm_some (S : Int) (h : S.natAbs < 2 ^ expK) : ∃ r,cfm S (-2148) = some r:=by
 unfold cfm frm
 by_cases h0 : S.natAbs = 0
 ·exact ⟨_,if_pos h0⟩
 ·rw [if_neg h0]
  have h1:=bl_le _ _ h
  rw [expK_is] at h1
  have h2:=tzn_le_bl _ h0
  have h3 : wrap64 (-2148 + (tzn S.natAbs : Int)) = -2148 + (tzn S.natAbs : Int):=by unfold wrap64; omega
  rw [h3]
  exact ⟨_,if_pos ⟨by omega,by omega,by omega⟩⟩
theorem phi_told (n S : Int) (p m z : Bool) (i : Nat) (hi : i ≤ 65536) (b : Nat) (u : World) (hT : Tab u) (fl : List Value) (C : List Int) (lo hi' : Int) (hM : MkAt u b fl n C lo hi') (hΦ : PhiA S p m z i fl C lo hi') (r : Nm) (hr : cfm S (-2148) = some r) :
  Calls Tryz.prog 70 #[.pointer (some ⟨b,0,none⟩)] u fun e w' => ∃ vn va vl vc vx,e = .returned (accV vn (.slice va vl vc) vx p m z) ∧ New u w' (.agg #[.bool vn,.slice va vl vc,.int .i64 vx]) r ∧ Grw b u w':=by
 obtain ⟨rfl,hI,rfl,hb⟩:=hΦ
 exact told_any u hT b false (.slice none 0 0) 0 p m z n C lo hi' hM hI (fun j => by have:=hb j; omega) r hr
set_option linter.unnecessarySimpa false
theorem product_far (n1 n2 : Bool) (a1 a2 : Option Addr) (l1 c1 l2 c2 : Nat) (x1 x2 : Int) (b1 b2 : Nat) (hx1 : -1048576 ≤ x1 ∧ x1 ≤ 1048576) (hx2 : -1048576 ≤ x2 ∧ x2 ≤ 1048576) (hb1 : b1 ≤ 60000) (hb2 : b2 ≤ 60000) (hno : 60000 < (b1 : Int) + b2 - 1 ∨ x1 + x2 < -1048576 ∨ 1048576 < x1 + x2) (w : World)
  (K1 : Hid (∀ u,Kept w u → Calls Tryz.prog 106 #[.slice a1 l1 c1] u fun e w' => e = .returned (.int .i64 (b1 : Int)) ∧ u = w')) (K2 : Hid (∀ u,Kept w u → Calls Tryz.prog 106 #[.slice a2 l2 c2] u fun e w' => e = .returned (.int .i64 (b2 : Int)) ∧ u = w')) :
  Calls Tryz.prog 64 #[.agg #[.bool n1,.slice a1 l1 c1,.int .i64 x1],.agg #[.bool n2,.slice a2 l2 c2,.int .i64 x2]] w fun e w' => e = .panicked gaveUp ∧ Kept w w':=by
 have hK : Kept w (((w.alloc (.cells #[.bool n1,.slice a1 l1 c1,.int .i64 x1] 24)).alloc (.cells #[.bool n2,.slice a2 l2 c2,.int .i64 x2] 24)).alloc nilNum):=(((Kept.refl w).alloc _ _).alloc _ _).alloc _ _
 have z1 : IntKind.i64.wrap ((b1 : Int) + (b2 : Int)) = (b1 : Int) + (b2 : Int):=by rw [wrap_i64]; omega
 have z2 : IntKind.i64.wrap ((b1 : Int) + (b2 : Int) - 1) = (b1 : Int) + (b2 : Int) - 1:=by rw [wrap_i64]; omega
 have z3 : IntKind.i64.wrap (x1 + x2) = x1 + x2:=by rw [wrap_i64]; omega
 have hS : ∀ u,Kept (((w.alloc (.cells #[.bool n1,.slice a1 l1 c1,.int .i64 x1] 24)).alloc (.cells #[.bool n2,.slice a2 l2 c2,.int .i64 x2] 24)).alloc nilNum) u → (u.cell? ⟨w.heap.size,1,none⟩ = some (.slice a1 l1 c1) ∧ u.cell? ⟨w.heap.size,2,none⟩ = some (.int .i64 x1)) ∧ u.cell? ⟨w.heap.size + 1,1,none⟩ = some (.slice a2 l2 c2) ∧ u.cell? ⟨w.heap.size + 1,2,none⟩ = some (.int .i64 x2):=fun u k => ⟨⟨(k.below.cell (p:=⟨w.heap.size,1,none⟩) (by simp <;> omega)).trans (by simp [go_sem]),(k.below.cell (p:=⟨w.heap.size,2,none⟩) (by simp <;> omega)).trans (by simp [go_sem])⟩,(k.below.cell (p:=⟨w.heap.size + 1,1,none⟩) (by simp <;> omega)).trans (by simp [go_sem]),(k.below.cell (p:=⟨w.heap.size + 1,2,none⟩) (by simp <;> omega)).trans (by simp [go_sem])⟩
 have HS:=hS _ (Kept.refl _).drew
 have HSS : Hid (∀ u,Kept (((w.alloc (.cells #[.bool n1,.slice a1 l1 c1,.int .i64 x1] 24)).alloc (.cells #[.bool n2,.slice a2 l2 c2,.int .i64 x2] 24)).alloc nilNum) u → (u.cell? ⟨w.heap.size,1,none⟩ = some (.slice a1 l1 c1) ∧ u.cell? ⟨w.heap.size,2,none⟩ = some (.int .i64 x1)) ∧ u.cell? ⟨w.heap.size + 1,1,none⟩ = some (.slice a2 l2 c2) ∧ u.cell? ⟨w.heap.size + 1,2,none⟩ = some (.int .i64 x2)):=hS
 clear hS
 go_enter Tryz.func64,Tryz.ntmps64
 go_wp2_with fail
 refine wp_region_held_drew (S:=fun u => (u.cell? ⟨w.heap.size,1,none⟩ = some (.slice a1 l1 c1) ∧ u.cell? ⟨w.heap.size,2,none⟩ = some (.int .i64 x1)) ∧ u.cell? ⟨w.heap.size + 1,1,none⟩ = some (.slice a2 l2 c2) ∧ u.cell? ⟨w.heap.size + 1,2,none⟩ = some (.int .i64 x2)) (by kernel_rfl) HS (fun hHeld => ?_)
 refine tk (i:=0) (v:=?_) rfl ?_
 simp only [Act.put,zA,zB,zC,zD,zE,zF]
 refine tk (i:=1) (v:=?_) rfl ?_
 simp only [Act.put,zA,zB,zC,zD,zE,zF]
 refine tk (i:=3) (v:=?_) rfl ?_
 simp only [Act.put,zA,zB,zC,zD,zE,zF]
 refine tk (i:=4) (v:=?_) rfl ?_
 simp only [Act.put,zA,zB,zC,zD,zE,zF]
 refine tk (i:=8) (v:=?_) rfl ?_
 simp only [Act.put,zA,zB,zC,zD,zE,zF]
 refine tk (i:=9) (v:=?_) rfl ?_
 simp only [Act.put,zA,zB,zC,zD,zE,zF]
 refine tk (i:=10) (v:=?_) rfl ?_
 simp only [Act.put,zA,zB,zC,zD,zE,zF]
 refine tk (i:=11) (v:=?_) rfl ?_
 simp only [Act.put,zA,zB,zC,zD,zE,zF]
 refine tk (i:=12) (v:=?_) rfl ?_
 simp only [Act.put,zA,zB,zC,zD,zE,zF]
 refine wpAnyH_ready (rs:=[2]) (by kernel_rfl) (by simp) ?_
 refine AllReadyH.cons rfl (fun K hK9 => ?_) AllReadyH.nil
 go_simp
 go_wp2_with fail
 refine (K1.out _ hK.drew).mono ?_
 rintro e u1 ⟨rfl,rfl⟩
 refine hK9.out _ _ HS (fun hHeld2 => ?_)
 clear hK9 K
 refine wpAnyH_ready (rs:=[5]) (by kernel_rfl) (by simp) ?_
 refine AllReadyH.cons rfl (fun K hK9 => ?_) AllReadyH.nil
 go_simp
 go_wp2_with fail
 refine (K2.out _ hK.drew).mono ?_
 rintro e u1 ⟨rfl,rfl⟩
 refine hK9.out _ _ HS (fun hHeld3 => ?_)
 clear hK9 K
 refine tk (i:=6) (v:=?_) rfl ?_
 simp only [Act.put,zA,zB,zC,zD,zE,zF]
 refine tk (i:=7) (v:=?_) rfl ?_
 simp only [Act.put,zA,zB,zC,zD,zE,zF]
 refine wpAnyH_ready (rs:=[13]) (by kernel_rfl) (by simp) ?_
 refine AllReadyH.cons rfl (fun K hK9 => ?_) AllReadyH.nil
 go_simp
 go_wp2_with fail
 refine (fit_no _ _ hno _).mono ?_
 rintro e u1 ⟨rfl,rfl⟩
 exact ⟨rfl,rfl,hK.drew⟩
end Go.Proofs.YtoflafgbbjinpaaGreatDoor
