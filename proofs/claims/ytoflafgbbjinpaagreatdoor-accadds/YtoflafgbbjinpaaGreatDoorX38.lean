/- A sum as it is made,of any patterns: what is finite,and the flags. The values of floats,of their products,and what the document's sums come to. acc's Merge,AddProduct,Add,Of by values: sums of which the finite part is a whole number of 2^-2148. The laws' pattern; acc's Of and Neg by values; slices.Equal and Same where both are one. For AccMerges: Merge,Neg,AddNum,Same of any sums,and the document's. acc's Same of one sum; the laws' added,by values. Sums over a list,in both directions and in parts; a sum that lies in a block of its own. The walks of the document's own Neg,Abs,Canon,Next,Prev. The document's own Neg,Abs,Canon,Next,Prev: one contract each,the same as package bits'. The walk of numbers of package bits,called with two patterns. The walks of place,Order,Min,Max of package bits,and of cmp.Compare at int. -/
import Derived.Test.YtoflafgbbjinpaaGreatDoorX37
import Derived.Test.YtoflafgbbjinpaaGreatDoorX35
import Derived.Test.YtoflafgbbjinpaaGreatDoorX34
import Derived.Test.YtoflafgbbjinpaaGreatDoorX36
import Derived.Test.YtoflafgbbjinpaaGreatDoorX32
import Derived.Test.YtoflafgbbjinpaaGreatDoorX11
import Derived.Test.YtoflafgbbjinpaaGreatDoorX30
import Derived.Test.YtoflafgbbjinpaaGreatDoorX16
import Derived.Outline
namespace Go.Proofs.YtoflafgbbjinpaaGreatDoor
open Go.ChangeShapes Go.WideShapes Go.ChangeAt Go.RowKit
set_option linter.unusedVariables false
set_option linter.unusedSimpArgs false
set_option maxHeartbeats 16000000
set_option maxRecDepth 100000
/- what a product brings: its value,if it is finite; +Inf,-Inf,or no number,if not -/
def bth (n x y : Int) : Bool:=decide (cls x n < 3) && decide (cls y n < 3)
def pvl (n x y : Int) : Int:=if bth n x y = true then pval n x y else 0
def fP (n x y : Int) : Bool:=!bth n x y && !(decide (cls x n = 4 ∨ cls y n = 4 ∨ cls x n = 0 ∨ cls y n = 0)) && !(sgn x n ^^ sgn y n)
def fM (n x y : Int) : Bool:=!bth n x y && !(decide (cls x n = 4 ∨ cls y n = 4 ∨ cls x n = 0 ∨ cls y n = 0)) && (sgn x n ^^ sgn y n)
def fN (n x y : Int) : Bool:=!bth n x y && decide (cls x n = 4 ∨ cls y n = 4 ∨ cls x n = 0 ∨ cls y n = 0)
theorem flags_are (n x y : Int) (hn : n = 64 ∨ n = 32) (h : bth n x y = false) : lss 0 (mlS n x y) n = fP n x y ∧ lss (mlS n x y) 0 n = fM n x y ∧ decide (cls (mlS n x y) n = 4) = fN n x y ∧ -9223372036854775808 ≤ mlS n x y ∧ mlS n x y ≤ 9223372036854775807:=by
 unfold fP fM fN mlS
 rw [h]
 by_cases hc : cls x n = 4 ∨ cls y n = 4 ∨ cls x n = 0 ∨ cls y n = 0
 ·rw [if_pos hc,decide_eq_true hc]
  generalize (sgn x n ^^ sgn y n) = s
  rcases hn with rfl | rfl <;> cases s <;> decide +kernel
 ·rw [if_neg hc,decide_eq_false hc]
  generalize (sgn x n ^^ sgn y n) = s
  rcases hn with rfl | rfl <;> cases s <;> decide +kernel
theorem phi_any (n x y : Int) (hn : n = 64 ∨ n = 32) (x1 : -9223372036854775808 ≤ x) (x2 : x ≤ 9223372036854775807) (y1 : -9223372036854775808 ≤ y) (y2 : y ≤ 9223372036854775807) (vx : val x n = true) (vy : val y n = true) (S : Int) (p m z : Bool) (i : Nat) (hi : i < 65536) (b : Nat) (u : World) (fl : List Value) (C : List Int) (lo hi' : Int) (hM : MkAt u b fl n C lo hi') (hΦ : PhiA S p m z i fl C lo hi') :
  Calls Tryz.prog 69 #[.pointer (some ⟨b,0,none⟩),.int .i64 x,.int .i64 y] u fun e w' => e = .returned (.tuple #[]) ∧ (∃ fl' C' lo' hi',MkAt w' b fl' n C' lo' hi' ∧ PhiA (S + pvl n x y) (p || fP n x y) (m || fM n x y) (z || fN n x y) (i + 1) fl' C' lo' hi') ∧ Grw b u w':=by
 by_cases h : bth n x y = true
 ·have h':=h
  unfold bth at h'
  rw [Bool.and_eq_true,decide_eq_true_eq,decide_eq_true_eq] at h'
  have:=phi_fin n x y (finP_of x n x1 x2 hn h'.1) (finP_of y n y1 y2 hn h'.2) h'.1 h'.2 S p m z i hi b u fl C lo hi' hM hΦ
  unfold pvl fP fM fN
  rw [if_pos h,h]
  simp only [Bool.not_true,Bool.false_and,Bool.or_false]
  exact this
 ·have hf : bth n x y = false:=by simpa using h
  have hs : 3 ≤ cls x n ∨ 3 ≤ cls y n:=by
   unfold bth at hf
   rw [Bool.and_eq_false_iff,decide_eq_false_iff_not,decide_eq_false_iff_not] at hf
   omega
  obtain ⟨f1,f2,f3,r1,r2⟩:=flags_are n x y hn hf
  obtain ⟨rfl,hI,hS,hb⟩:=hΦ
  refine (add_spec u b n x y p m z C lo hi' hM (cls x n) (cls y n) hs (mlS n x y) (fP n x y) (fM n x y) (fN n x y) (fun v => class_any x n v) (fun v => class_any y n v) (fun v => mul_special n hn x y x1 x2 y1 y2 vx vy hs v) (fun v => ?_)).mono ?_
  ·have:=flag_any (mlS n x y) n r1 r2 v
   rw [f1,f2,f3] at this
   exact this
  ·rintro e w' ⟨rfl,hM',hg⟩
   refine ⟨rfl,⟨_,C,lo,hi',hM',rfl,hI,?_,fun k => ?_⟩,hg⟩
   ·unfold pvl
    rw [if_neg h,Int.add_zero]
    exact hS
   ·have:=hb k
    rw [Int.natCast_add,Int.add_mul]
    omega
def k74 : Nat:=1074
theorem k74_is : k74 = 1074:=rfl
/- a finite float in units of 2^-1074 -/
def zv (n b : Int) : Int:=sg (pneg b n) (pmag b n * 2 ^ (pexp b n + 1074).toNat)
theorem sgl_mul (s : Bool) (a b : Int) : sg s (a * b) = sg s a * b:=by cases s <;> simp [sg,Int.neg_mul]
theorem sgl_two (s t : Bool) (a b : Int) : sg (s != t) (a * b) = sg s a * sg t b:=by cases s <;> cases t <;> simp [sg,Int.neg_mul,Int.mul_neg]
theorem sgl_abs (s : Bool) (a : Int) : (sg s a).natAbs = a.natAbs:=by cases s <;> simp [sg]
theorem zv_lt (n b : Int) (h : FinP n b) : (zv n b).natAbs < 2 ^ 2200:=by
 unfold zv
 rw [sgl_abs,Int.natAbs_mul,Int.natAbs_pow]
 have h1:=h.m
 have h2:=h.e
 obtain ⟨e,he⟩ : ∃ e,e = (pexp b n + 1074).toNat:=⟨_,rfl⟩
 rw [← he]
 have h3 : (pmag b n).natAbs < 2 ^ 53:=by
  have : (2 : Nat) ^ 53 = 9007199254740992:=by decide
  omega
 have h4 : (2 : Int).natAbs = 2:=rfl
 rw [h4]
 have hp : 0 < 2 ^ e:=Nat.two_pow_pos e
 have h5 : (pmag b n).natAbs * 2 ^ e < 2 ^ (53 + e):=by
  rw [Nat.pow_add]
  exact Nat.mul_lt_mul_of_pos_right h3 hp
 obtain ⟨K,hK⟩ : ∃ K : Nat,K = 2200:=⟨_,rfl⟩
 rw [← hK]
 have h6 : (2 : Nat) ^ (53 + e) ≤ 2 ^ K:=Nat.pow_le_pow_right (by decide) (by omega)
 omega
theorem of_zv (n b : Int) (hn : n = 64 ∨ n = 32) (hc : cls b n < 3) (hF : FinP n b) : cfm (zv n b) (-1074) = some (ofN b n):=by
 have h2:=hF.e
 have h:=of_frm b n hn hc
 rw [frm_cfm] at h
 unfold zv
 rw [sgl_mul,cfm_shift,show (-1074 : Int) + ((pexp b n + 1074).toNat : Int) = pexp b n by omega]
 have h1:=hF.m
 rw [show ((pmag b n).toNat : Int) = pmag b n by omega] at h
 exact h
theorem of_lies (n b : Int) (hn : n = 64 ∨ n = 32) (hc : cls b n < 3) (hF : FinP n b) : Lies (-1074) 2200 (ofN b n) ∧ vz (-1074) (ofN b n) = zv n b:=by
 obtain ⟨r,h1,h2,h3⟩:=cfm_lies (-1074) 2200 (by decide) (by decide) (by decide) (zv n b) (zv_lt n b hF)
 rw [of_zv n b hn hc hF] at h1
 cases h1
 exact ⟨h2,h3⟩
theorem pval_zv (n x y : Int) (hx : FinP n x) (hy : FinP n y) : pval n x y = zv n x * zv n y:=by
 have h1:=hx.e
 have h2:=hy.e
 unfold pval zv
 rw [← sgl_two]
 congr 1
 rw [show (pexp x n + pexp y n + 2148).toNat = (pexp x n + 1074).toNat + (pexp y n + 1074).toNat by omega,Int.pow_add]
 simp only [Int.mul_assoc,Int.mul_comm,Int.mul_left_comm]
/- a product,as the document has it -/
theorem tms_is (n x y : Int) (hn : n = 64 ∨ n = 32) (cx : cls x n < 3) (cy : cls y n < 3) (hx : FinP n x) (hy : FinP n y) : cfm (pval n x y) (-2148) = some (tms (ofN x n) (ofN y n)) ∧ vld (tms (ofN x n) (ofN y n)) = true:=by
 obtain ⟨lx,vx⟩:=of_lies n x hn cx hx
 obtain ⟨ly,vy⟩:=of_lies n y hn cy hy
 have h:=mul_cfm (-1074) 2200 (by decide) (by decide) (by decide) _ _ lx ly
 rw [vx,vy,← pval_zv n x y hx hy,mul_ans _ _ lx.ok ly.ok] at h
 have hb : (pval n x y).natAbs < 2 ^ expK:=by
  rw [pval_zv n x y hx hy,Int.natAbs_mul]
  have h1:=zv_lt n x hx
  have h2:=zv_lt n y hy
  clear h1 h2
  unfold zv
  have g1:=hx.m
  have g2:=hy.m
  have g3:=hx.e
  have g4:=hy.e
  obtain ⟨e,he⟩ : ∃ e,e = (pexp x n + 1074).toNat:=⟨_,rfl⟩
  obtain ⟨f,hf⟩ : ∃ e,e = (pexp y n + 1074).toNat:=⟨_,rfl⟩
  rw [sgl_abs,sgl_abs,Int.natAbs_mul,Int.natAbs_mul,Int.natAbs_pow,Int.natAbs_pow,← he,← hf]
  have h4 : (2 : Int).natAbs = 2:=rfl
  rw [h4]
  have h3 : (pmag x n).natAbs < 2 ^ 53:=by
   have : (2 : Nat) ^ 53 = 9007199254740992:=by decide
   omega
  have h5 : (pmag y n).natAbs < 2 ^ 53:=by
   have : (2 : Nat) ^ 53 = 9007199254740992:=by decide
   omega
  have a1 : (pmag x n).natAbs * 2 ^ e < 2 ^ (53 + e):=by
   rw [Nat.pow_add]
   exact Nat.mul_lt_mul_of_pos_right h3 (Nat.two_pow_pos e)
  have a2 : (pmag y n).natAbs * 2 ^ f < 2 ^ (53 + f):=by
   rw [Nat.pow_add]
   exact Nat.mul_lt_mul_of_pos_right h5 (Nat.two_pow_pos f)
  have a3 : (2 : Nat) ^ (53 + e) * 2 ^ (53 + f) ≤ 2 ^ expK:=by
   rw [← Nat.pow_add]
   exact Nat.pow_le_pow_right (by decide) (by rw [expK_is]; omega)
  exact Nat.lt_of_lt_of_le (Nat.mul_lt_mul'' a1 a2) a3
 obtain ⟨r,hr⟩:=cfm_some _ hb
 rw [show (-1074 : Int) + -1074 = -2148 by decide,hr] at h
 by_cases hv : vld (tms (ofN x n) (ofN y n)) = true
 ·rw [if_pos hv] at h
  rw [hr]
  exact ⟨by rw [← h],hv⟩
 ·rw [if_neg hv] at h
  cases h
/- a number that is S in units of 2^-2148 -/
structure DN (S : Int) (r : Nm) : Prop where
 bd : S.natAbs < 2 ^ expK
 is : cfm S (-2148) = some r
theorem dn_some (S : Int) (h : S.natAbs < 2 ^ expK) : ∃ r,DN S r:=by
 obtain ⟨r,hr⟩:=cfm_some S h
 exact ⟨r,h,hr⟩
theorem DN.one {S : Int} {r t : Nm} (h : DN S r) (h' : DN S t) : r = t:=by
 have:=h.is.symm.trans h'.is
 cases this
 rfl
theorem DN.lies {S : Int} {r : Nm} (h : DN S r) : Lies (-2148) expK r ∧ vz (-2148) r = S:=by
 obtain ⟨r',h1,h2,h3⟩:=cfm_lies (-2148) expK (by rw [expK_is]; decide) (by decide) (by decide) S h.bd
 rw [h.is] at h1
 cases h1
 exact ⟨h2,h3⟩
theorem DN.vld {S : Int} {r : Nm} (h : DN S r) : vld r = true:=h.lies.1.ok
theorem DN.rg {S : Int} {r : Nm} (h : DN S r) : Rg r.mag ∧ r.mag.length ≤ 2000:=by
 obtain ⟨hl,hd⟩:=vld_dg r.neg r.mag r.exp h.vld
 exact ⟨hd.rg,hl⟩
theorem dn_zero : DN 0 ⟨false,[],0⟩:=⟨by simp; exact Nat.two_pow_pos _,cfm_zero _⟩
def expJ : Nat:=4200
theorem expJ_is : expJ = 4200:=rfl
theorem pval_lt (n x y : Int) (hx : FinP n x) (hy : FinP n y) : (pval n x y).natAbs < 2 ^ expJ:=by
 have g1:=hx.m
 have g2:=hy.m
 have g3:=hx.e
 have g4:=hy.e
 rw [pval_zv n x y hx hy,Int.natAbs_mul]
 unfold zv
 obtain ⟨e,he⟩ : ∃ e,e = (pexp x n + 1074).toNat:=⟨_,rfl⟩
 obtain ⟨f,hf⟩ : ∃ e,e = (pexp y n + 1074).toNat:=⟨_,rfl⟩
 rw [sgl_abs,sgl_abs,Int.natAbs_mul,Int.natAbs_mul,Int.natAbs_pow,Int.natAbs_pow,← he,← hf]
 have h4 : (2 : Int).natAbs = 2:=rfl
 rw [h4]
 have h3 : (pmag x n).natAbs < 2 ^ 53:=by
  have : (2 : Nat) ^ 53 = 9007199254740992:=by decide
  omega
 have h5 : (pmag y n).natAbs < 2 ^ 53:=by
  have : (2 : Nat) ^ 53 = 9007199254740992:=by decide
  omega
 have a1 : (pmag x n).natAbs * 2 ^ e < 2 ^ (53 + e):=by
  rw [Nat.pow_add]
  exact Nat.mul_lt_mul_of_pos_right h3 (Nat.two_pow_pos e)
 have a2 : (pmag y n).natAbs * 2 ^ f < 2 ^ (53 + f):=by
  rw [Nat.pow_add]
  exact Nat.mul_lt_mul_of_pos_right h5 (Nat.two_pow_pos f)
 have a3 : (2 : Nat) ^ (53 + e) * 2 ^ (53 + f) ≤ 2 ^ expJ:=by
  rw [← Nat.pow_add]
  exact Nat.pow_le_pow_right (by decide) (by rw [expJ_is]; omega)
 exact Nat.lt_of_lt_of_le (Nat.mul_lt_mul'' a1 a2) a3
theorem pvl_lt (n x y : Int) (hn : n = 64 ∨ n = 32) (x1 : -9223372036854775808 ≤ x) (x2 : x ≤ 9223372036854775807) (y1 : -9223372036854775808 ≤ y) (y2 : y ≤ 9223372036854775807) : (pvl n x y).natAbs < 2 ^ expJ:=by
 unfold pvl
 by_cases h : bth n x y = true
 ·rw [if_pos h]
  unfold bth at h
  rw [Bool.and_eq_true,decide_eq_true_eq,decide_eq_true_eq] at h
  exact pval_lt n x y (finP_of x n x1 x2 hn h.1) (finP_of y n y1 y2 hn h.2)
 ·rw [if_neg h]
  exact Nat.two_pow_pos _
theorem big_lt {a : Nat} (h : a < 2 ^ expJ) : a < 2 ^ expK:=by
 exact Nat.lt_of_lt_of_le h (Nat.pow_le_pow_right (by decide) (by rw [expK_is,expJ_is]; omega))
def oneN (n : Int) : Int:=if n = 64 then 4607182418800017408 else 1065353216
theorem oneN_ok (n : Int) (hn : n = 64 ∨ n = 32) : -9223372036854775808 ≤ oneN n ∧ oneN n ≤ 9223372036854775807 ∧ val (oneN n) n = true:=by
 rcases hn with rfl | rfl <;> decide +kernel
theorem fromOne (n : Int) (hn : n = 64 ∨ n = 32) (u : World) : Calls Tryz.prog 32 #[.int .i64 1,.int .i64 n] u fun e w' => e = .returned (.int .i64 (oneN n)) ∧ Kept u w':=by
 rcases hn with rfl | rfl
 ·exact (fromOne_64 u).mono (by rintro e w' ⟨rfl,rfl⟩; exact ⟨rfl,Kept.refl _⟩)
 ·exact (fromOne_32 u).mono (by rintro e w' ⟨rfl,rfl⟩; exact ⟨rfl,Kept.refl _⟩)
/- an item's width,its patterns -/
theorem accOf_ok (n x : Int) (w : World) (r : Nm) (P M Z : Bool) (f : Int)
  (KP : Hid (∀ u,Kept w u → Calls Tryz.prog 28 #[accZ,.int .i64 x,.int .i64 n] u fun e w' => ∃ un ua ul uc ux,e = .returned (.tuple #[accV un (.slice ua ul uc) ux P M Z,.int .i64 f]) ∧ New u w' (.agg #[.bool un,.slice ua ul uc,.int .i64 ux]) r ∧ Kept u w')) :
  Calls Tryz.prog 38 #[.int .i64 x,.int .i64 n] w fun e w' => ∃ un ua ul uc ux,e = .returned (.tuple #[accV un (.slice ua ul uc) ux P M Z,.int .i64 f]) ∧ New w w' (.agg #[.bool un,.slice ua ul uc,.int .i64 ux]) r ∧ Kept w w':=by
 obtain ⟨X,hX⟩ : ∃ X,X = w.alloc (.cells #[.bool false,.slice none 0 0,.int .i64 0,.bool false,.bool false,.bool false] 26):=⟨_,rfl⟩
 have k0 : Kept w X:=by rw [hX]; exact (Kept.refl w).alloc _ _
 have hXs : Hid (X.heap.size = w.heap.size + 1):=by rw [hX]; simp [Hid]
 have HR : Hid (∀ u,Kept X u → _):=acc_res hX
 go_enter Tryz.func38,Tryz.ntmps38
 go_upto_region 1 with fail
 rw [← hX]
 clear hX
 go_wp2_with fail
 refine (KP.out _ k0).mono ?_
 rintro e w5 ⟨un,ua,ul,uc,ux,rfl,hN5,k5⟩
 obtain ⟨r0,r1,r2',r3,r4,r5,r6⟩:=HR.out _ k5
 go_wp2_with fail
 refine bodyPost_ret (v:=.tuple #[accV un (.slice ua ul uc) ux P M Z,.int .i64 f]) (by simp [results,Tryz.results38,go_sem,r0,r1,r2',r3,r4,r5]) rfl ⟨un,ua,ul,uc,ux,rfl,?_,?_⟩
 ·exact new_six hN5 (by rw [hXs.out]; omega) _ _ _ _ _ _
 ·exact kept_six (k0.trans k5) _ _ _ _ _ _
theorem new_nil {w w' : World} {v : Value} (h : New w w' v ⟨false,[],0⟩) : v = zeroNum:=by
 rcases h with ⟨-,rfl⟩ | ⟨g,cap,e,hg,ho,hne⟩
 ·rfl
 ·exact absurd rfl hne
/- Merge of any two -/
theorem merge_all (a b : Nm) (ra : Rg a.mag) (rb : Rg b.mag) (la : a.mag.length < 60000000) (lb : b.mag.length < 60000000) (p1 m1 z1 p2 m2 z2 : Bool) : ∃ (rp : Nm) (pe : Int) (P M Z : Bool),(∀ (u : World) (a1 a2 : Option Addr) (c1 c2 : Nat),Tab u → Sl u (.slice a1 a.mag.length c1) a.mag → Sl u (.slice a2 b.mag.length c2) b.mag → Calls Tryz.prog 29 #[accV a.neg (.slice a1 a.mag.length c1) a.exp p1 m1 z1,accV b.neg (.slice a2 b.mag.length c2) b.exp p2 m2 z2] u fun e w' => ∃ un ua ul uc ux,e = .returned (.tuple #[accV un (.slice ua ul uc) ux P M Z,.int .i64 pe]) ∧ New u w' (.agg #[.bool un,.slice ua ul uc,.int .i64 ux]) rp ∧ Kept u w') ∧ ((vld a && vld b) = false → rp = ⟨false,[],0⟩ ∧ pe = 7 ∧ P = false ∧ M = false ∧ Z = false) ∧ ((vld a && vld b) = true → if vld (pls a b) = true then rp = pls a b ∧ pe = 0 ∧ P = (p1 || p2) ∧ M = (m1 || m2) ∧ Z = (z1 || z2) else rp = ⟨false,[],0⟩ ∧ pe = 2 ∧ P = false ∧ M = false ∧ Z = false):=by
 obtain ⟨rp,pe,hA,hb,ho⟩:=add_all a b ra rb la lb
 by_cases h0 : pe = 0
 ·subst h0
  refine ⟨rp,0,(p1 || p2),(m1 || m2),(z1 || z2),fun u a1 a2 c1 c2 hT h1 h2 => merge_ok a.neg a1 a.mag.length c1 a.exp p1 m1 z1 b.neg a2 b.mag.length c2 b.exp p2 m2 z2 u rp (fun v k => hA v a1 a2 c1 c2 (hT.kept k) (h1.kept k) (h2.kept k)),fun h => absurd (hb h).2 (by decide),fun h => ?_⟩
  have:=ho h
  by_cases hv : vld (pls a b) = true
  ·rw [if_pos hv] at this ⊢
   exact ⟨this.1,rfl,rfl,rfl,rfl⟩
  ·rw [if_neg hv] at this
   exact absurd this.2 (by decide)
 ·have hz : rp = ⟨false,[],0⟩:=by
   cases hok : (vld a && vld b) with
   | false => exact (hb hok).1
   | true =>
    have:=ho hok
    by_cases hv : vld (pls a b) = true
    ·rw [if_pos hv] at this
     exact absurd this.2 h0
    ·rw [if_neg hv] at this
     exact this.1
  subst hz
  refine ⟨⟨false,[],0⟩,pe,false,false,false,fun u a1 a2 c1 c2 hT h1 h2 => ?_,fun h => ⟨rfl,(hb h).2,rfl,rfl,rfl⟩,fun h => ?_⟩
  ·refine (merge_no a.neg a1 a.mag.length c1 a.exp p1 m1 z1 b.neg a2 b.mag.length c2 b.exp p2 m2 z2 u pe h0 (fun v k => ?_)).mono ?_
   ·refine (hA v a1 a2 c1 c2 (hT.kept k) (h1.kept k) (h2.kept k)).mono ?_
    rintro e w' ⟨x,rfl,hN,k2⟩
    obtain rfl:=new_nil hN
    exact ⟨rfl,k2⟩
   ·rintro e w' ⟨rfl,k2⟩
    exact ⟨false,none,0,0,0,rfl,new_zero _ _,k2⟩
  ·have:=ho h
   by_cases hv : vld (pls a b) = true
   ·rw [if_pos hv] at this
    exact absurd this.2 h0
   ·rw [if_neg hv] at this ⊢
    exact ⟨rfl,this.2,rfl,rfl,rfl⟩
/- what an item brings -/
/- a sum that lies in a block of its own,its digits above a mark -/
structure Box (u : World) (lo B : Nat) (r : Nm) (p m z : Bool) (ao : Option Addr) (c : Nat) : Prop where
 c0 : u.cell? ⟨B,0,none⟩ = some (.bool r.neg)
 c1 : u.cell? ⟨B,1,none⟩ = some (.slice ao r.mag.length c)
 c2 : u.cell? ⟨B,2,none⟩ = some (.int .i64 r.exp)
 c3 : u.cell? ⟨B,3,none⟩ = some (.bool p)
 c4 : u.cell? ⟨B,4,none⟩ = some (.bool m)
 c5 : u.cell? ⟨B,5,none⟩ = some (.bool z)
 fz : ∀ o,u.frozen? ⟨B,o,none⟩ = false
 lt : B < u.heap.size
 hc : ao = none → c = 0
 sl : Sl u (.slice ao r.mag.length c) r.mag
 hi : ∀ b off,ao = some ⟨b,off,none⟩ → r.mag ≠ [] → lo ≤ b
theorem Box.kept {u u' : World} {lo B : Nat} {r : Nm} {p m z : Bool} {ao : Option Addr} {c : Nat} (h : Box u lo B r p m z ao c) (k : Kept u u') : Box u' lo B r p m z ao c :=
 ⟨(k.below.cell (p:=⟨B,0,none⟩) h.lt).trans h.c0,(k.below.cell (p:=⟨B,1,none⟩) h.lt).trans h.c1,(k.below.cell (p:=⟨B,2,none⟩) h.lt).trans h.c2,(k.below.cell (p:=⟨B,3,none⟩) h.lt).trans h.c3,(k.below.cell (p:=⟨B,4,none⟩) h.lt).trans h.c4,(k.below.cell (p:=⟨B,5,none⟩) h.lt).trans h.c5,fun o => (k.frozen _).trans (h.fz o),Nat.lt_of_lt_of_le h.lt k.below.size,h.hc,h.sl.kept k,h.hi⟩
theorem sl_other {u : World} {ao : Option Addr} {l c : Nat} {L : List Int} (h : Sl u (.slice ao l c) L) (p : Addr) (hp : ∀ b off,ao = some ⟨b,off,none⟩ → L ≠ [] → b ≠ p.block) (v : Value) : Sl (u.setCell p v) (.slice ao l c) L:=by
 obtain ⟨a',c',e,h1,h2,hr⟩:=h
 cases e
 refine ⟨_,_,rfl,h1,h2,fun hne => ?_⟩
 obtain ⟨b,off,rfl,hb,hr⟩:=hr hne
 have hbp:=hp b off rfl hne
 refine ⟨b,off,rfl,by simpa using hb,fun i hi => ?_⟩
 exact (World.cell?_of_block (a:=⟨b,off + i,none⟩) (Below.heap_setCell u p v b hbp)).trans (hr i hi)
theorem Box.other {u : World} {lo B : Nat} {r : Nm} {p m z : Bool} {ao : Option Addr} {c : Nat} (h : Box u lo B r p m z ao c) (q o : Nat) (hq : q ≠ B) (hl : q < lo) (v : Value) : Box (u.setCell ⟨q,o,none⟩ v) lo B r p m z ao c:=by
 have hB : B ≠ (⟨q,o,none⟩ : Addr).block:=fun e => hq e.symm
 have hcell : ∀ i,(u.setCell ⟨q,o,none⟩ v).cell? ⟨B,i,none⟩ = u.cell? ⟨B,i,none⟩:=fun i => World.cell?_of_block (a:=⟨B,i,none⟩) (Below.heap_setCell u ⟨q,o,none⟩ v B hB)
 exact ⟨(hcell 0).trans h.c0,(hcell 1).trans h.c1,(hcell 2).trans h.c2,(hcell 3).trans h.c3,(hcell 4).trans h.c4,(hcell 5).trans h.c5,fun i => by simpa using h.fz i,by simpa using h.lt,h.hc,sl_other h.sl _ (fun b off e hne => by have:=h.hi b off e hne; dsimp only; omega) v,h.hi⟩
abbrev six (u : World) (B : Nat) (v0 v1 v2 v3 v4 v5 : Value) : World:=(((((u.setCell ⟨B,0,none⟩ v0).setCell ⟨B,1,none⟩ v1).setCell ⟨B,2,none⟩ v2).setCell ⟨B,3,none⟩ v3).setCell ⟨B,4,none⟩ v4).setCell ⟨B,5,none⟩ v5
theorem Box.six {u : World} {lo B : Nat} {r : Nm} {p m z : Bool} {ao : Option Addr} {c : Nat} (h : Box u lo B r p m z ao c) (q : Nat) (hq : q ≠ B) (hl : q < lo) (v0 v1 v2 v3 v4 v5 : Value) : Box (six u q v0 v1 v2 v3 v4 v5) lo B r p m z ao c :=
 (((((h.other q 0 hq hl v0).other q 1 hq hl v1).other q 2 hq hl v2).other q 3 hq hl v3).other q 4 hq hl v4).other q 5 hq hl v5
theorem Box.new {x u : World} {lo B : Nat} {r q : Nm} {p m z : Bool} {ao : Option Addr} {c : Nat} (h : Box u lo B r p m z ao c) (hB : B < lo) (hx : lo ≤ x.heap.size) (vn : Bool) (va : Option Addr) (vl vc : Nat) (vx : Int) (hN : New x u (.agg #[.bool vn,.slice va vl vc,.int .i64 vx]) q) (P M Z : Bool) : Box (Go.Proofs.YtoflafgbbjinpaaGreatDoor.six u B (.bool vn) (.slice va vl vc) (.int .i64 vx) (.bool P) (.bool M) (.bool Z)) lo B q P M Z va vc:=by
 obtain ⟨e1,e2,e3,e4,hs⟩:=hN.parts
 have hb : ∀ b off,va = some ⟨b,off,none⟩ → q.mag ≠ [] → lo ≤ b:=fun b off e hne => by
  rcases hN with ⟨rfl,-⟩ | ⟨g,cap,e5,hg,ho,-⟩
  ·exact absurd rfl hne
  ·simp only [Value.agg.injEq,Array.mk.injEq,List.cons.injEq,Value.slice.injEq] at e5
   rw [e] at e5
   have:=e5.2.1.1
   simp at this
   omega
 subst e1 e2 e3
 have hne : ∀ b off,va = some ⟨b,off,none⟩ → q.mag ≠ [] → b ≠ B:=fun b off e hn => by have:=hb b off e hn; omega
 have c0:=h.c0
 have c1:=h.c1
 have c2:=h.c2
 have c3:=h.c3
 have c4:=h.c4
 have c5:=h.c5
 refine ⟨by simp [go_sem,c0,c1,c2,c3,c4,c5],by simp [go_sem,c0,c1,c2,c3,c4,c5],by simp [go_sem,c0,c1,c2,c3,c4,c5],by simp [go_sem,c0,c1,c2,c3,c4,c5],by simp [go_sem,c0,c1,c2,c3,c4,c5],by simp [go_sem,c0,c1,c2,c3,c4,c5],fun o => by simpa using h.fz o,by simpa using h.lt,e4,?_,hb⟩
 exact sl_other (sl_other (sl_other (sl_other (sl_other (sl_other hs _ hne _) _ hne _) _ hne _) _ hne _) _ hne _) _ hne _
theorem negative_64 (b : Int) (hb1 : -9223372036854775808 ≤ b) (hb2 : b ≤ 9223372036854775807) (w : World) : Calls Tryz.prog 178 #[.agg #[.int .i64 64,.int .i64 53,.int .i64 4503599627370496,.int .i64 2047,.int .i64 (-1074),.int .i64 1024,.int .i64 9218868437227405312,.int .i64 (-9223372036854775808),.int .i64 9221120237041090561],.int .i64 b] w fun e w' => e = .returned (.bool (sgn b 64)) ∧ Kept w w':=by
 go_enter Tryz.func178,Tryz.ntmps178
 go_wp2_with (first | (go_at_call 135; refine (cut_64 _ hb1 hb2 _).mono ?_; rintro e w2 ⟨rfl,hk2⟩))
 go_ret
 exact ⟨rfl,((Kept.refl _).alloc _ _).trans hk2⟩
theorem negative_32 (b : Int)  (w : World) : Calls Tryz.prog 178 #[.agg #[.int .i64 32,.int .i64 24,.int .i64 8388608,.int .i64 255,.int .i64 (-149),.int .i64 128,.int .i64 2139095040,.int .i64 2147483648,.int .i64 2143289345],.int .i64 b] w fun e w' => e = .returned (.bool (sg32 b)) ∧ Kept w w':=by
 go_enter Tryz.func178,Tryz.ntmps178
 go_wp2_with (first | (go_at_call 135; refine (cut_32 _ _).mono ?_; rintro e w2 ⟨rfl,hk2⟩))
 go_ret
 exact ⟨rfl,((Kept.refl _).alloc _ _).trans hk2⟩
/-- The place of a pattern in the order of all: -0 just below 0,all that is no number at the top. -/
def plc (b n : Int) : Int :=
 if isnum b n = true then
  if n = 64 then (if b < 0 then -1 - b % 9223372036854775808 else b) else (if 2147483648 ≤ b then -1 - b % 2147483648 else b)
 else 9223372036854775807
def cmpI (x y : Int) : Int:=if x < y then -1 else if y < x then 1 else 0
def ord (a b n : Int) : Int:=cmpI (plc a n) (plc b n)
end Go.Proofs.YtoflafgbbjinpaaGreatDoor
