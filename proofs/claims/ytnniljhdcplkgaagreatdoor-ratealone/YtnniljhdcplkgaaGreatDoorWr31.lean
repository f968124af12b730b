/- A finite float's value as an exact number: the walk of exact's Of; the numbers that round meets there. The walk of exact's Round at the value of a float,in every way. The walk of exact's Round at the value of a float,in every way. What a valid number rounds to,plainly: its rung,its pattern; order is kept,signs are mirrored,the nearest is the nearest. -/
import Derived.Test.YtnniljhdcplkgaaGreatDoorWr30
import Derived.Test.YtnniljhdcplkgaaGreatDoorWr16
import Derived.Test.YtnniljhdcplkgaaGreatDoorWr21
import Derived.Test.YtnniljhdcplkgaaGreatDoorWr29
namespace Go.Proofs.YtnniljhdcplkgaaGreatDoor
open Go.ChangeShapes Go.WideShapes Go.ChangeAt Go.RowKit
set_option maxHeartbeats 16000000
set_option maxRecDepth 100000
set_option linter.unusedVariables false
set_option linter.unusedSimpArgs false
def ofN (b n : Int) : Nm:=(frm (pneg b n) (pmag b n).toNat (pexp b n)).getD ⟨false,[],0⟩
theorem fin_of (b n : Int) (hn : n = 64 ∨ n = 32) (hc : cls b n < 3) : fin b n = true:=by simp [fin,hn,hc]
theorem fl_64 (b : Int) (hc : cls b 64 < 3) : 0 ≤ pmag b 64 ∧ pmag b 64 < 9007199254740992 ∧ -1074 ≤ pexp b 64 ∧ pexp b 64 ≤ 971 ∧ (pmag b 64 < 4503599627370496 → pexp b 64 = -1074):=by
 have hf:=fin_of b 64 (.inl rfl) hc
 have hs : b % 9223372036854775808 < 9218868437227405312:=by
  unfold cls clsOf at hc
  simp only [if_true] at hc
  (repeat' split at hc) <;> omega
 unfold pmag pexp
 rw [if_pos hf,if_pos rfl,if_pos hf,if_pos rfl]
 (repeat' split) <;> omega
theorem fl_32 (b : Int) (hc : cls b 32 < 3) : 0 ≤ pmag b 32 ∧ pmag b 32 < 16777216 ∧ -149 ≤ pexp b 32 ∧ pexp b 32 ≤ 104 ∧ (pmag b 32 < 8388608 → pexp b 32 = -149):=by
 have hf:=fin_of b 32 (.inr rfl) hc
 have hs : b % 2147483648 < 2139095040:=by
  unfold cls clsOf at hc
  rw [if_neg (by decide),if_pos rfl] at hc
  (repeat' split at hc) <;> omega
 unfold pmag pexp
 simp only [hf,if_true,show ¬ ((32 : Int) = 64) by decide,if_false]
 (repeat' split) <;> omega
theorem fl_any (b n : Int) (hn : n = 64 ∨ n = 32) (hc : cls b n < 3) : 0 ≤ pmag b n ∧ pmag b n < 2 ^ (kprec n).toNat ∧ kleast n ≤ pexp b n ∧ pexp b n ≤ 1000 ∧ -1074 ≤ pexp b n ∧ (pmag b n < 2 ^ ((kprec n).toNat - 1) → pexp b n = kleast n):=by
 rcases hn with rfl | rfl
 ·obtain ⟨h1,h2,h3,h4,h5⟩:=fl_64 b hc
  refine ⟨h1,?_,h3,by omega,h3,fun h => h5 ?_⟩
  ·exact h2
  ·exact h
 ·obtain ⟨h1,h2,h3,h4,h5⟩:=fl_32 b hc
  refine ⟨h1,?_,h3,by omega,by omega,fun h => h5 ?_⟩
  ·exact h2
  ·exact h
theorem bl_mag (b n : Int) (hn : n = 64 ∨ n = 32) (hc : cls b n < 3) : bl (pmag b n).toNat ≤ (kprec n).toNat ∧ bl (pmag b n).toNat ≤ 53:=by
 obtain ⟨h1,h2,-⟩:=fl_any b n hn hc
 have:=bl_le (pmag b n).toNat (kprec n).toNat (by
  have e : (((pmag b n).toNat : Nat) : Int) < ((2 ^ (kprec n).toNat : Nat) : Int):=by push_cast; rw [Int.toNat_of_nonneg h1]; exact h2
  exact_mod_cast e)
 refine ⟨this,?_⟩
 rcases hn with rfl | rfl
 ·exact this
 ·exact Nat.le_trans this (by decide)
theorem of_zero (b n : Int) (h : pmag b n = 0) : frm (pneg b n) (pmag b n).toNat (pexp b n) = some ⟨false,[],0⟩ ∧ ofN b n = ⟨false,[],0⟩:=by
 have : frm (pneg b n) (pmag b n).toNat (pexp b n) = some ⟨false,[],0⟩:=by rw [h]; simp [frm]
 exact ⟨this,by unfold ofN; rw [this]; rfl⟩
theorem tzn_le_bl (v : Nat) (hv : v ≠ 0) : tzn v < bl v:=by
 have h:=bl_sub v hv
 have:=(bl_pos _ h.2).2.2
 omega
theorem of_some (b n : Int) (hn : n = 64 ∨ n = 32) (hc : cls b n < 3) (h0 : pmag b n ≠ 0) : frm (pneg b n) (pmag b n).toNat (pexp b n) = some (ofN b n) ∧ ofN b n = ⟨pneg b n,digs ((pmag b n).toNat / 2 ^ tzn (pmag b n).toNat),pexp b n + (tzn (pmag b n).toNat : Int)⟩:=by
 obtain ⟨h1,h2,h3,h4,h5,h6⟩:=fl_any b n hn hc
 have hb:=(bl_mag b n hn hc).2
 have hv : (pmag b n).toNat ≠ 0:=by omega
 have ht:=tzn_le_bl _ hv
 have hw : wrap64 (pexp b n + (tzn (pmag b n).toNat : Int)) = pexp b n + (tzn (pmag b n).toNat : Int):=by unfold wrap64; omega
 have : frm (pneg b n) (pmag b n).toNat (pexp b n) = some ⟨pneg b n,digs ((pmag b n).toNat / 2 ^ tzn (pmag b n).toNat),pexp b n + (tzn (pmag b n).toNat : Int)⟩:=by
  unfold frm
  rw [if_neg hv,hw,if_pos ⟨by omega,by omega,by omega⟩]
 exact ⟨by rw [this]; unfold ofN; rw [this]; rfl,by unfold ofN; rw [this]; rfl⟩
theorem of_frm (b n : Int) (hn : n = 64 ∨ n = 32) (hc : cls b n < 3) : frm (pneg b n) (pmag b n).toNat (pexp b n) = some (ofN b n):=by
 by_cases h : pmag b n = 0
 ·obtain ⟨h1,h2⟩:=of_zero b n h
  rw [h1,h2]
 ·exact (of_some b n hn hc h).1
theorem of_fin (b n : Int) (hb1 : -9223372036854775808 ≤ b) (hb2 : b ≤ 9223372036854775807) (hn : n = 64 ∨ n = 32) (hc : cls b n < 3) (w : World) (hT : Tab w) : Calls Tryz.prog 73 #[.int .i64 b,.int .i64 n] w fun e w' => ∃ v,e = .returned (.tuple #[v,.int .i64 0]) ∧ New w w' v (ofN b n) ∧ Kept w w':=by
 have hK : Kept w (numW w):=(Kept.refl w).alloc _ _
 obtain ⟨h1,h2,h3,h4,h5,h6⟩:=fl_any b n hn hc
 have hbl:=(bl_mag b n hn hc).2
 have hlt:=bl_lt (pmag b n).toNat
 have hm53 : (pmag b n).toNat < 2 ^ 53:=Nat.lt_of_lt_of_le hlt (Nat.pow_le_pow_right (by decide) hbl)
 have hm : pmag b n < 9007199254740992:=by
  have : (2 : Nat) ^ 53 = 9007199254740992:=by decide
  omega
 have KK : Hid (∀ u,Calls Tryz.prog 109 #[.int .i64 n] u fun e w' => e = .returned (.tuple #[.agg #[.int .i64 n,.int .i64 (kprec n),.int .i64 (kleast n),.int .i64 (kinf n)],.bool true]) ∧ Kept u w'):=fun u => kindOf_ok n hn u
 have KP : Hid (∀ u,Calls Tryz.prog 110 #[.int .i64 b,.int .i64 n] u fun e w' => e = .returned (.tuple #[.bool (pneg b n),.int .i64 (pmag b n),.int .i64 (pexp b n),.bool true]) ∧ Kept u w'):=fun u => by
  have:=parts_any b n hb1 hb2 u
  rw [fin_of b n hn hc] at this
  exact this
 have hf:=of_frm b n hn hc
 generalize pmag b n = s at *
 have hw1 : IntKind.u64.wrap s = s:=by rw [IntKind.wrap_u64]; omega
 have KD : Hid (∀ u,Calls Tryz.prog 75 #[.int .u64 s] u fun e w' => e = .returned (.slice (some ⟨u.heap.size,0,none⟩) 3 3) ∧ w' = u.alloc (.cells #[.int .i64 (s % 1073741824),.int .i64 (s / 1073741824 % 1073741824),.int .i64 (s / 1152921504606846976)] 3)):=fun u => digitsOf_any s h1 (by omega) u
 have hDg : Dg [s % 1073741824,s / 1073741824 % 1073741824,s / 1152921504606846976]:=Dg.cons (by omega) (by omega) (Dg.cons (by omega) (by omega) (Dg.cons (by omega) (by omega) Dg.nil))
 have hnv : nv [s % 1073741824,s / 1073741824 % 1073741824,s / 1152921504606846976] = s.toNat:=by
  show (s % 1073741824).toNat + 1073741824 * ((s / 1073741824 % 1073741824).toNat + 1073741824 * ((s / 1152921504606846976).toNat + 1073741824 * 0)) = s.toNat
  omega
 have KF : Hid (∀ u,Kept (numW w) u → Calls Tryz.prog 74 #[.bool (pneg b n),.slice (some ⟨u.heap.size,0,none⟩) 3 3,.int .i64 (pexp b n)] (u.alloc (.cells #[.int .i64 (s % 1073741824),.int .i64 (s / 1073741824 % 1073741824),.int .i64 (s / 1152921504606846976)] 3)) fun e w' => (∃ v,e = .returned v ∧ New (numW w) w' v (ofN b n)) ∧ Kept (numW w) w'):=fun u k => form_ok _ _ hDg (by simp) _ 3 (pexp b n) (numW w) _ (k.alloc _ _) k.below.size (own_three u _ _ _) (hT.kept (hK.trans (k.alloc _ _))) _ (by rw [hnv]; exact hf)
 generalize kprec n = pr at *
 generalize kleast n = le at *
 generalize kinf n = fi at *
 generalize pneg b n = ng at *
 generalize pexp b n = ex at *
 generalize ofN b n = r at *
 clear hDg hnv hf hT h1 h2 h3 h4 h5 h6 hbl hlt hm53 hm
 go_enter Tryz.func73,Tryz.ntmps73
 go_wp2_with fail
 refine (KK.out _).mono ?_
 rintro e w1 ⟨rfl,k1⟩
 have k1':=k1.alloc #[.int .i64 n,.int .i64 pr,.int .i64 le,.int .i64 fi] 107
 go_wp2_with fail
 refine (KP.out _).mono ?_
 rintro e w2 ⟨rfl,k2⟩
 have kk:=k1'.trans k2
 go_wp2_with fail
 refine (KD.out _).mono ?_
 rintro e w3 ⟨rfl,rfl⟩
 go_wp2_with fail
 refine (KF.out _ kk).mono ?_
 rintro e w4 ⟨⟨v,rfl,hN⟩,k4⟩
 obtain ⟨vn,va,vl,vc,vx,rfl⟩:=hN.shape
 obtain ⟨f0,f1,f2,f3⟩:=num_cells k4
 go_wp2_with fail
 have:=num_done hN k4 (.bool vn) (.slice va vl vc) (.int .i64 vx)
 exact bodyPost_ret (v:=.tuple #[.agg #[.bool vn,.slice va vl vc,.int .i64 vx],.int .i64 0]) (by simp [results,Tryz.results73,go_sem,f0,f1,f2]) rfl ⟨_,rfl,this.1,this.2⟩
end Go.Proofs.YtnniljhdcplkgaaGreatDoor
namespace Go.Proofs.YtnniljhdcplkgaaGreatDoor
open Go.ChangeShapes Go.WideShapes Go.ChangeAt Go.RowKit
set_option maxHeartbeats 16000000
set_option maxRecDepth 100000
set_option linter.unusedVariables false
set_option linter.unusedSimpArgs false
theorem and_nat (a b : Nat) (ha : a < 9223372036854775808) (hb : b < 9223372036854775808) : bits .and .i64 (a : Int) (b : Int) = ((a &&& b : Nat) : Int):=by
 rw [bits_and,BitVec.toNat_and]
 have h1:=ofInt_toNat (a : Int)
 have h2:=ofInt_toNat (b : Int)
 have e1 : (BitVec.ofInt 64 (a : Int)).toNat = a:=by omega
 have e2 : (BitVec.ofInt 64 (b : Int)).toNat = b:=by omega
 have h3 : a &&& b ≤ a:=Nat.and_le_left
 rw [e1,e2,wrap_i64]
 omega
theorem and_mask (a m : Nat) (ha : a < 9223372036854775808) (hm : m < 62) : bits .and .i64 (a : Int) (((2 ^ m - 1 : Nat)) : Int) = ((a % 2 ^ m : Nat) : Int):=by
 have hp : (2 : Nat) ^ m ≤ 2 ^ 62:=Nat.pow_le_pow_right (by decide) (by omega)
 have h62 : (2 : Nat) ^ 62 = 4611686018427387904:=by decide
 rw [and_nat _ _ ha (by omega),Nat.and_two_pow_sub_one_eq_mod]
theorem leading_nil (ng : Bool) (ao : Option Addr) (c : Nat) (x : Int) (w : World) : Calls Tryz.prog 140 #[.agg #[.bool ng,.slice ao 0 c,.int .i64 x]] w fun e w' => e = .returned (.agg #[.bool false,.int .i64 0,.int .i64 0,.bool false]) ∧ Kept w w':=by
 go_enter Tryz.func140,Tryz.ntmps140
 go_wp2
 exact bodyPost_ret (v:=.agg #[.bool false,.int .i64 0,.int .i64 0,.bool false]) (by simp [results,Tryz.results140,go_sem]) rfl ⟨rfl,((Kept.refl w).alloc _ _).alloc _ _⟩
end Go.Proofs.YtnniljhdcplkgaaGreatDoor
namespace Go.Proofs.YtnniljhdcplkgaaGreatDoor
open Go.ChangeShapes Go.WideShapes Go.ChangeAt Go.RowKit
set_option maxHeartbeats 16000000
set_option maxRecDepth 100000
set_option linter.unusedVariables false
set_option linter.unusedSimpArgs false
theorem frm_vld (neg : Bool) (v : Nat) (x : Int) (r : Nm) (h : frm neg v x = some r) : vld r = true ∧ Rg r.mag ∧ r.mag.length ≤ 2000:=by
 unfold frm at h
 split at h
 ·cases h
  exact ⟨rfl,fun d hd => (by cases hd),by simp⟩
 ·rename_i hv
  split at h
  ·rename_i hy
   cases h
   have hs:=bl_sub v hv
   have hq:=(bl_pos _ hs.2).2.2
   have hl:=digs_len _ hs.2
   have hne : digs (v / 2 ^ tzn v) ≠ []:=by
    intro he
    rw [he] at hl
    simp only [List.length_nil] at hl
    omega
   have hdg:=dg_digs (v / 2 ^ tzn v)
   have hodd : (digs (v / 2 ^ tzn v)).getD 0 0 % 2 = 1:=by
    have h1:=(tzn_div v hv).1
    have h2:=nv_getD _ hdg 0
    rw [nv_digs,Nat.mul_zero,Nat.pow_zero,Nat.div_one] at h2
    have h3:=hdg.getD 0
    omega
   refine ⟨?_,hdg.rg,by dsimp only; omega⟩
   unfold vld
   dsimp only
   rw [if_neg hne]
   unfold vldN
   rw [(dgb_iff _).2 hdg,and_one]
   simp only [Bool.and_eq_true,decide_eq_true_eq,bne_iff_ne,beq_iff_eq]
   exact ⟨⟨⟨⟨⟨by omega,trivial⟩,digs_last _ hs.2⟩,hodd⟩,hy.2.1⟩,hy.2.2⟩
  ·cases h
end Go.Proofs.YtnniljhdcplkgaaGreatDoor

namespace Go.Proofs.YtnniljhdcplkgaaGreatDoor
open Go.ChangeShapes Go.WideShapes Go.ChangeAt Go.RowKit
set_option maxHeartbeats 16000000
set_option maxRecDepth 100000
set_option linter.unusedVariables false
set_option linter.unusedSimpArgs false
def cbn (n : Int) : Nat:=if n = 64 then 4503599627370496 else 8388608
theorem cbn_pow (n : Int) (hn : n = 64 ∨ n = 32) : cbn n = 2 ^ ((kprec n).toNat - 1) ∧ 2 ≤ (kprec n).toNat:=by
 rcases hn with rfl | rfl <;> decide
theorem rv_lt (n : Int) (hn : n = 64 ∨ n = 32) (r s : Nat) (h : r < s) : rv (cbn n) r < rv (cbn n) s:=by
 rcases hn with rfl | rfl
 ·have:=rungVal_lt FloatKind.f64.format h
  unfold rungVal at this
  rw [bin64] at this
  exact this
 ·have:=rungVal_lt FloatKind.f32.format h
  unfold rungVal at this
  rw [bin32] at this
  exact this
def unN (n : Int) (r : Nm) : Int:=unz (kprec n).toNat (kleast n) (bl (nv r.mag)) r.exp
def kpN (n : Int) (r : Nm) : Nat:=flo (nv r.mag) (r.exp - unN n r)
def flN (n : Int) (r : Nm) : Nat:=(unN n r - kleast n).toNat * cbn n + kpN n r
def odN (n : Int) (r : Nm) : Bool:=decide (kpN n r % 2 = 1)
def hfN (n : Int) (r : Nm) : Bool:=decide (flo (nv r.mag) (r.exp - unN n r + 1) % 2 = 1)
def rtN (n : Int) (r : Nm) : Bool:=rst (nv r.mag) (r.exp - unN n r + 1)
def mgN (n way : Int) (r : Nm) : Nat:=if r.mag = [] then 0 else mgz way r.neg (ifn n) (flN n r) (odN n r) (hfN n r) (rtN n r)
def oxN (n way : Int) (r : Nm) : Bool:=if r.mag = [] then false else odz way r.neg (ifn n) (flN n r) (odN n r) (hfN n r) (rtN n r)
def kyN (n way : Int) (r : Nm) : Int:=if r.neg = true then -(mgN n way r : Int) else (mgN n way r : Int)
def rzN (n way : Int) (r : Nm) : Int:=pz n (kyN n way r)
theorem nv_ne (r : Nm) (hv : vld r = true) (hne : r.mag ≠ []) : nv r.mag ≠ 0:=by
 obtain ⟨n,L,x⟩:=r
 exact Nat.pos_iff_ne_zero.1 (nv_pos_of n L x hne hv)
theorem vz_sign (s : Int) (r : Nm) (hv : vld r = true) : (r.neg = true → vz s r < 0) ∧ (r.neg = false → 0 ≤ vz s r) ∧ (r.mag = [] → r.neg = false ∧ vz s r = 0):=by
 by_cases hne : r.mag = []
 ·obtain ⟨n,L,x⟩:=r
  simp only at hne
  subst hne
  have hn : n = false:=by
   simp only [vld,if_pos,Bool.and_eq_true] at hv
   simpa using hv.1
  subst hn
  rw [vz_nil]
  simp
 ·have h0:=nv_ne r hv hne
  have hp:=Nat.two_pow_pos (r.exp - s).toNat
  have hm : 0 < nv r.mag * 2 ^ (r.exp - s).toNat:=Nat.mul_pos (by omega) hp
  have ha:=vz_abs s r
  refine ⟨fun h => ?_,fun h => ?_,fun h => absurd h hne⟩
  ·unfold vz sg
   rw [h,if_pos rfl]
   have : ((nv r.mag : Int) * 2 ^ (r.exp - s).toNat) = ((nv r.mag * 2 ^ (r.exp - s).toNat : Nat) : Int):=by push_cast; rfl
   omega
  ·unfold vz sg
   rw [h,if_neg (by decide)]
   have : ((nv r.mag : Int) * 2 ^ (r.exp - s).toNat) = ((nv r.mag * 2 ^ (r.exp - s).toNat : Nat) : Int):=by push_cast; rfl
   omega
/- the neighbours,by keys -/
/- a float's value,by its key -/
end Go.Proofs.YtnniljhdcplkgaaGreatDoor
