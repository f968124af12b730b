/- The walk of exact's round where the number is a float's value. The sum of two numbers that are not 0. The sum of any two numbers,noughts too. Numbers by their values: a valid number is a whole number at a scale; sums and products are those of whole numbers. The rows of a product: what the double loop of exact's product does to its digits. The order of two numbers,signs aside: what exact's orderOfSizes reckons; and that of their values. The walks of exact's Add of two numbers that are not 0,and Int. -/
import Derived.Test.YtdhimkpfnhoagaaGreatDoorWo10
import Derived.Test.YtdhimkpfnhoagaaGreatDoorWo08
namespace Go.Proofs.YtdhimkpfnhoagaaGreatDoor
open Go.ChangeShapes Go.WideShapes Go.ChangeAt Go.RowKit
set_option linter.unusedVariables false
set_option linter.unusedSimpArgs false
set_option maxHeartbeats 16000000
set_option maxRecDepth 100000
theorem round_zero (n pr le fi : Int) (f : Value) (ex : Int) (ng rs : Bool) (w : World) : Calls Tryz.prog 82 #[.agg #[.int .i64 n,.int .i64 pr,.int .i64 le,.int .i64 fi,f],.agg #[.bool ng,.int .i64 0,.int .i64 ex,.bool rs]] w fun e w' => e = .returned (.tuple #[.int .i64 0,.bool false]) ∧ Kept w w':=by
 go_enter Tryz.func82,Tryz.ntmps82
 go_wp2
 go_ret2
 exact ⟨rfl,((Kept.refl _).alloc _ _).alloc _ _⟩
def tot (a b : Nm) (lo : Int) : Int:=sg a.neg ((nv a.mag : Int) * 2 ^ (a.exp - lo).toNat) + sg b.neg ((nv b.mag : Int) * 2 ^ (b.exp - lo).toNat)
def tp (a : Nm) : Int:=a.exp + (bl (nv a.mag) : Int)
theorem pow_le_int (a b : Nat) (h : a ≤ b) : (2 : Int) ^ a ≤ 2 ^ b:=by
 have h1 : 2 ^ a ≤ 2 ^ b:=Nat.pow_le_pow_right (by decide) h
 have e : ((2 ^ a : Nat) : Int) ≤ ((2 ^ b : Nat) : Int):=by omega
 rw [Int.natCast_pow,Int.natCast_pow] at e
 exact e
theorem len_bl (L : List Int) (hL : Dg L) (hne : L ≠ []) (hl : L.getD (L.length - 1) 0 ≠ 0) : 30 * L.length ≤ bl (nv L) + 29 ∧ bl (nv L) ≤ 30 * L.length:=by
 have h1:=le_bl _ _ (nv_ge L hL hl)
 have h2:=bl_le _ _ (nv_lt L hL)
 have:=List.length_pos_iff.2 hne
 omega
theorem sg_neg (n : Bool) (a : Int) (h : 0 < a) : decide (sg n a < 0) = n ∧ (sg n a).natAbs = a.toNat:=by
 cases n <;> simp [sg] <;> omega
theorem wrap64_id (x : Int) (h1 : -1048576 ≤ x) (h2 : x ≤ 1048576) : wrap64 x = x:=by unfold wrap64; omega
/-- A number that lies alone in its columns. -/
theorem alone (n1 : Bool) (L1 : List Int) (x1 : Int) (hne1 : L1 ≠ []) (hv1 : vld ⟨n1,L1,x1⟩ = true) (n : Nat) (hn : L1.length < n) (C : List Int) (hC : layL (List.replicate n 0) 0 (dsh n1 0 L1) = C) :
  C.length = n ∧ (∀ j,-2147483648 ≤ C.getD j 0 ∧ C.getD j 0 ≤ 2147483648) ∧ cv C = sg n1 (nv L1) ∧ -(2 : Int) ^ (30 * n) < sg n1 (nv L1) ∧ sg n1 (nv L1) < (2 : Int) ^ (30 * n) ∧ frm (decide (sg n1 (nv L1) < 0)) (sg n1 (nv L1)).natAbs x1 = some ⟨n1,L1,x1⟩:=by
 obtain ⟨p1,p2,p3,p4,p5,p6⟩:=vld_some n1 L1 x1 hne1 hv1
 have l1:=List.length_pos_iff.2 hne1
 have b1:=len_bl L1 p2 hne1 p3
 have hpos : 0 < nv L1:=by
  rcases Nat.eq_zero_or_pos (nv L1) with h | h
  ·exact absurd ((nv_zero L1 p2).1 h (L1.length - 1)) p3
  ·exact h
 have hsg:=sg_neg n1 (nv L1 : Int) (by omega)
 have hlt:=nv_lt L1 p2
 have hP:=pow_le_int (30 * L1.length) (30 * n) (by omega)
 have e : ((2 ^ (30 * L1.length) : Nat) : Int) = (2 : Int) ^ (30 * L1.length):=by rw [Int.natCast_pow]; rfl
 have hlt2 : (nv L1 : Int) < (2 : Int) ^ (30 * L1.length):=by rw [← e]; omega
 have hS:=sg_abs n1 (nv L1 : Int) _ (by omega) hlt2
 refine ⟨by rw [← hC,layL_length,List.length_replicate],?_,?_,by omega,by omega,?_⟩
 ·have:=layL_bound (List.replicate n 0) 0 (dsh n1 0 L1) 0 (by omega) (by rw [dsh_length,List.length_replicate]; omega) (dsh_bound n1 0 (by omega) L1 p2) (fun j _ => by rw [getD_replicate]; omega) (by rw [getD_replicate]; omega) (fun j _ => by rw [getD_replicate]; omega)
  rw [hC] at this
  intro j
  have:=this j
  omega
 ·rw [← hC,layL_val _ _ _ (by rw [dsh_length,List.length_replicate]; omega),nv_replicate,dsh_val _ _ _ p2]
  simp
 ·rw [hsg.1,hsg.2,Int.toNat_natCast]
  rw [frm_odd n1 n1 L1 x1 x1 hne1 hv1,wrap64_id x1 p5 p6,if_pos ⟨p5,p6⟩]
def cfm (z x : Int) : Option Nm:=frm (decide (z < 0)) z.natAbs x
def vz (s : Int) (a : Nm) : Int:=sg a.neg ((nv a.mag : Int) * 2 ^ (a.exp - s).toNat)
structure Lies (s : Int) (B : Nat) (a : Nm) : Prop where
 ok : vld a = true
 low : a.mag ≠ [] → s ≤ a.exp
 lt : (vz s a).natAbs < 2 ^ B
theorem frm_shift (neg : Bool) (v k : Nat) (x : Int) (hv : v ≠ 0) : frm neg (v * 2 ^ k) x = frm neg v (x + (k : Int)):=by
 obtain ⟨o,ho,e⟩:=tzn_spec v hv
 have hp:=Nat.two_pow_pos k
 have hne : v * 2 ^ k ≠ 0:=Nat.mul_ne_zero hv (by omega)
 have ht : tzn (v * 2 ^ k) = tzn v + k:=by
  have : v * 2 ^ k = o * 2 ^ (tzn v + k):=by rw [Nat.pow_add,← Nat.mul_assoc,← e]
  rw [this,tzn_mul o _ ho]
 have hb:=bl_mul v k hv
 have hw : wrap64 (x + ((tzn v + k : Nat) : Int)) = wrap64 (x + (k : Int) + (tzn v : Int)):=by congr 1; push_cast; omega
 have hd : v * 2 ^ k / 2 ^ (tzn v + k) = v / 2 ^ tzn v:=by
  rw [Nat.pow_add,Nat.mul_div_mul_right _ _ hp]
 unfold frm
 rw [if_neg hne,if_neg hv,ht,hb,hw,hd,show bl v + k - (tzn v + k) = bl v - tzn v by omega]
theorem cfm_zero (x : Int) : cfm 0 x = some ⟨false,[],0⟩:=by simp [cfm,frm]
theorem cfm_shift (z : Int) (k : Nat) (x : Int) : cfm (z * 2 ^ k) x = cfm z (x + (k : Int)):=by
 by_cases hz : z = 0
 ·subst hz
  rw [Int.zero_mul,cfm_zero,cfm_zero]
 ·have hp : (0 : Int) < 2 ^ k:=Int.pow_pos (by decide)
  have hn : (z * 2 ^ k).natAbs = z.natAbs * 2 ^ k:=by
   rw [Int.natAbs_mul]
   congr 1
  have hd : decide (z * 2 ^ k < 0) = decide (z < 0):=by
   congr 1
   apply propext
   constructor
   ·intro h
    rcases Int.lt_or_le z 0 with g | g
    ·exact g
    ·exact absurd (Int.mul_nonneg g (Int.le_of_lt hp)) (by omega)
   ·intro h
    exact Int.mul_neg_of_neg_of_pos h hp
  unfold cfm
  rw [hn,hd]
  exact frm_shift _ _ _ _ (by omega)
theorem nv_pos_of (n : Bool) (L : List Int) (x : Int) (hne : L ≠ []) (hv : vld ⟨n,L,x⟩ = true) : 0 < nv L:=by
 obtain ⟨p1,p2,p3,p4,p5,p6⟩:=vld_some n L x hne hv
 rcases Nat.eq_zero_or_pos (nv L) with h | h
 ·exact absurd ((nv_zero L p2).1 h (L.length - 1)) p3
 ·exact h
theorem vz_nil (s : Int) (n : Bool) (x : Int) : vz s ⟨n,[],x⟩ = 0:=by cases n <;> simp [vz,nv,sg]
theorem vz_abs (s : Int) (a : Nm) : (vz s a).natAbs = nv a.mag * 2 ^ (a.exp - s).toNat:=by
 have e : ((nv a.mag * 2 ^ (a.exp - s).toNat : Nat) : Int) = (nv a.mag : Int) * 2 ^ (a.exp - s).toNat:=by rw [Int.natCast_mul,Int.natCast_pow]; rfl
 unfold vz
 rw [← e]
 cases a.neg <;> simp [sg] <;> omega
theorem vz_cfm (s : Int) (n : Bool) (L : List Int) (x : Int) (hv : vld ⟨n,L,x⟩ = true) (hs : L ≠ [] → s ≤ x) : cfm (vz s ⟨n,L,x⟩) s = some ⟨n,L,x⟩:=by
 by_cases hne : L = []
 ·subst hne
  rw [vz_nil,cfm_zero]
  obtain ⟨rfl,rfl⟩:=vld_nil _ _ hv
  rfl
 ·obtain ⟨p1,p2,p3,p4,p5,p6⟩:=vld_some n L x hne hv
  have hpos:=nv_pos_of n L x hne hv
  have hs:=hs hne
  have e : vz s ⟨n,L,x⟩ = sg n (nv L : Int) * 2 ^ (x - s).toNat:=by
   unfold vz
   cases n <;> simp [sg,Int.neg_mul]
  have hsg:=sg_neg n (nv L : Int) (by omega)
  rw [e,cfm_shift,show s + ((x - s).toNat : Int) = x by omega]
  unfold cfm
  rw [hsg.1,hsg.2,Int.toNat_natCast,frm_odd n n L x x hne hv,wrap64_id x p5 p6,if_pos ⟨p5,p6⟩]
theorem tp_le (s : Int) (B : Nat) (a : Nm) (h : Lies s B a) (hne : a.mag ≠ []) : tp a ≤ s + (B : Int):=by
 obtain ⟨n,L,x⟩:=a
 have hpos:=nv_pos_of n L x hne h.ok
 have hl:=h.low hne
 have h1:=h.lt
 rw [vz_abs] at h1
 have h2:=bl_mul (nv L) (x - s).toNat (by omega)
 have h3:=bl_le _ _ h1
 dsimp only at h3 hl
 rw [h2] at h3
 unfold tp
 dsimp only
 omega
theorem cfm_lies (s : Int) (B : Nat) (hB : B ≤ 20000) (h1 : -20000 ≤ s) (h2 : s ≤ 0) (z : Int) (hz : z.natAbs < 2 ^ B) : ∃ r,cfm z s = some r ∧ Lies s B r ∧ vz s r = z:=by
 by_cases h0 : z = 0
 ·subst h0
  exact ⟨_,cfm_zero s,⟨rfl,fun h => absurd rfl h,by rw [vz_nil]; exact Nat.two_pow_pos B⟩,vz_nil _ _ _⟩
 ·have hn : z.natAbs ≠ 0:=by omega
  obtain ⟨v,hv⟩ : ∃ v,z.natAbs = v:=⟨_,rfl⟩
  rw [hv] at hz hn
  have hb:=bl_le _ _ hz
  obtain ⟨hbt,hne⟩:=bl_sub v hn
  obtain ⟨hodd,hm⟩:=tzn_div v hn
  obtain ⟨t,ht⟩ : ∃ t,tzn v = t:=⟨_,rfl⟩
  obtain ⟨q,hq⟩ : ∃ q,v / 2 ^ t = q:=⟨_,rfl⟩
  rw [ht] at hbt hodd hm hne
  rw [hq] at hbt hodd hm hne
  have hw : wrap64 (s + (t : Int)) = s + (t : Int):=wrap64_id _ (by omega) (by omega)
  have hr : cfm z s = some ⟨decide (z < 0),digs q,s + (t : Int)⟩:=by
   unfold cfm frm
   rw [hv,if_neg hn,ht,hw,hq,if_pos ⟨by omega,by omega,by omega⟩]
  have hdn : digs q ≠ []:=by
   intro h
   have:=nv_digs q
   rw [h] at this
   exact hne this.symm
  have hlen : (digs q).length ≤ 2000:=by rw [digs_len q hne]; omega
  have hval : vz s ⟨decide (z < 0),digs q,s + (t : Int)⟩ = z:=by
   unfold vz
   dsimp only
   rw [nv_digs,show (s + (t : Int) - s).toNat = t by omega]
   have e : ((q * 2 ^ t : Nat) : Int) = (q : Int) * 2 ^ t:=by rw [Int.natCast_mul,Int.natCast_pow]; rfl
   rw [← e,← hm,← hv]
   unfold sg
   by_cases hneg : z < 0
   ·rw [if_pos (by simpa using hneg)]; omega
   ·rw [if_neg (by simpa using hneg)]; omega
  refine ⟨_,hr,⟨?_,fun _ => by dsimp only; omega,by rw [hval]; omega⟩,hval⟩
  unfold vld
  rw [if_neg hdn]
  unfold vldN
  dsimp only
  have g1:=digs_last q hne
  have g2 : dgb (digs q) = true:=(dgb_iff _).2 (dg_digs q)
  have g3 : bits .and .i64 ((digs q).getD 0 0) 1 = 1:=by
   rw [digs_pos q hne,List.getD_cons_zero]
   have e : bits .and .i64 (((q % 1073741824 : Nat)) : Int) 1 = ((q % 1073741824 % 2 : Nat) : Int):=by
    have:=and_one ((q % 1073741824 : Nat) : Int)
    rw [this]
    omega
   rw [e]
   omega
  simp only [g2,g3,Bool.and_true,Bool.and_eq_true,bne_iff_ne,ne_eq,beq_self_eq_true,decide_eq_true_eq]
  refine ⟨⟨⟨by omega,g1⟩,by omega⟩,by omega⟩
theorem cv_take (L : List Int) (j : Nat) (hj : j < L.length) : cv (L.take (j + 1)) = cv (L.take j) + L.getD j 0 * 2 ^ (30 * j):=by
 induction L generalizing j with
 | nil => simp at hj
 | cons d L ih =>
  cases j with
  | zero => simp [cv]
  | succ j =>
   have e:=pow30i j
   simp only [List.take_succ_cons,cv,List.getD_cons_succ]
   rw [ih j (by simpa using hj),e,Int.mul_left_comm (L.getD j 0)]
   generalize L.getD j 0 * 2 ^ (30 * j) = z
   omega
theorem cv_put (D : List Int) (i : Nat) (hi : i < D.length) (d : Int) : cv (D.set i d) = cv D + (d - D.getD i 0) * 2 ^ (30 * i):=by
 have:=cv_set D i hi (d - D.getD i 0)
 rw [show D.getD i 0 + (d - D.getD i 0) = d by omega] at this
 exact this
theorem Dg.put {D : List Int} (h : Dg D) (i : Nat) (d : Int) (h0 : 0 ≤ d) (h1 : d < 1073741824) : Dg (D.set i d):=fun x hx => by
 rcases List.mem_or_eq_of_mem_set hx with h2 | h2
 ·exact h x h2
 ·rw [h2]; exact ⟨h0,h1⟩
structure PRow (A B : List Int) (n i j : Nat) (D : List Int) (o : Int) : Prop where
 len : D.length = n
 dg : Dg D
 o0 : 0 ≤ o
 o1 : o < 1073741824
 val : cv D + o * 2 ^ (30 * (i + j)) = cv (A.take i) * cv B + A.getD i 0 * cv (B.take j) * 2 ^ (30 * i)
 zero : ∀ k,i + B.length ≤ k → D.getD k 0 = 0
theorem PRow.start {A B : List Int} {n i : Nat} {D : List Int} (h1 : D.length = n) (h2 : Dg D) (h3 : cv D = cv (A.take i) * cv B) (h4 : ∀ k,i + B.length ≤ k → D.getD k 0 = 0) : PRow A B n i 0 D 0 :=
 ⟨h1,h2,by omega,by omega,by simp [cv,h3],h4⟩
theorem mul_lt_60 (a b : Int) (h0 : 0 ≤ a) (h1 : a < 1073741824) (g0 : 0 ≤ b) (g1 : b < 1073741824) : 0 ≤ a * b ∧ a * b ≤ 1152921502459363329:=by
 have e1 : 0 ≤ a * b:=Int.mul_nonneg h0 g0
 have e2 : a * b ≤ 1073741823 * 1073741823:=Int.mul_le_mul (by omega) (by omega) g0 (by omega)
 exact ⟨e1,by omega⟩
theorem PRow.step {A B : List Int} {n i j : Nat} {D : List Int} {o : Int} (h : PRow A B n i j D o) (hA : Dg A) (hB : Dg B) (hj : j < B.length) (hn : i + j < n) (T : Int) (hT : o + D.getD (i + j) 0 + A.getD i 0 * B.getD j 0 = T) :
  PRow A B n i (j + 1) (D.set (i + j) (T % 1073741824)) (T / 1073741824):=by
 have hd:=h.dg.getD (i + j)
 have ha:=hA.getD i
 have hb:=hB.getD j
 have hm:=mul_lt_60 _ _ ha.1 ha.2 hb.1 hb.2
 have o0:=h.o0
 have o1:=h.o1
 refine ⟨by rw [List.length_set]; exact h.len,h.dg.put _ _ (by omega) (by omega),by omega,by omega,?_,?_⟩
 ·rw [cv_put D (i + j) (by rw [h.len]; exact hn),cv_take B j hj]
  have hv:=h.val
  have e1 : (2 : Int) ^ (30 * (i + (j + 1))) = 1073741824 * 2 ^ (30 * (i + j)):=pow30i (i + j)
  have e2 : (2 : Int) ^ (30 * (i + j)) = 2 ^ (30 * j) * 2 ^ (30 * i):=by rw [show 30 * (i + j) = 30 * j + 30 * i by omega,Int.pow_add]
  have e3 : A.getD i 0 * (cv (B.take j) + B.getD j 0 * 2 ^ (30 * j)) * 2 ^ (30 * i) = A.getD i 0 * cv (B.take j) * 2 ^ (30 * i) + A.getD i 0 * B.getD j 0 * 2 ^ (30 * (i + j)):=by
   rw [e2,Int.mul_add,Int.add_mul]
   congr 1
   simp only [Int.mul_assoc]
  rw [e3,e1]
  generalize A.getD i 0 * B.getD j 0 = m at *
  generalize (2 : Int) ^ (30 * (i + j)) = P at *
  generalize D.getD (i + j) 0 = d at *
  have hTT : T = 1073741824 * (T / 1073741824) + T % 1073741824:=by omega
  have e4 : (T % 1073741824 - d) * P + T / 1073741824 * (1073741824 * P) = (T - d) * P:=by
   rw [← Int.mul_assoc,← Int.add_mul]
   congr 1
   omega
  have e5 : (T - d) * P = o * P + m * P:=by
   rw [← Int.add_mul]
   congr 1
   omega
  omega
 ·intro k hk
  rw [getD_set D (i + j) k _ (by rw [h.len]; exact hn),if_neg (by omega)]
  exact h.zero k hk
theorem PRow.finish {A B : List Int} {n i : Nat} {D : List Int} {o : Int} (h : PRow A B n i B.length D o) (hi : i < A.length) (hn : i + B.length < n) :
  PRow A B n (i + 1) 0 (D.set (i + B.length) o) 0:=by
 refine .start (by rw [List.length_set]; exact h.len) (h.dg.put _ _ h.o0 h.o1) ?_ ?_
 ·have hv:=h.val
  rw [cv_put D _ (by rw [h.len]; exact hn),h.zero _ (Nat.le_refl _),cv_take A i hi]
  rw [List.take_length] at hv
  rw [Int.sub_zero,hv,Int.add_mul]
  congr 1
  rw [Int.mul_right_comm]
 ·intro k hk
  rw [getD_set D _ k _ (by rw [h.len]; exact hn),if_neg (by omega)]
  exact h.zero k (by omega)
theorem PRow.last {A B : List Int} {n : Nat} {D : List Int} {o : Int} (h : PRow A B n A.length 0 D o) (ho : o = 0) (hA : Dg A) (hB : Dg B) : Dg D ∧ nv D = nv A * nv B:=by
 refine ⟨h.dg,?_⟩
 have hv:=h.val
 subst ho
 rw [List.take_length,cv_nv D h.dg,cv_nv A hA,cv_nv B hB] at hv
 simp only [List.take_zero,cv,Int.zero_mul,Int.mul_zero,Int.add_zero] at hv
 have : ((nv D : Nat) : Int) = ((nv A * nv B : Nat) : Int):=by rw [hv,Int.natCast_mul]
 omega
def mulN (a b : Nm) : Option Nm :=
 if (bl (nv a.mag) : Int) + (bl (nv b.mag) : Int) - 1 ≤ 60000 ∧ -1048576 ≤ a.exp + b.exp ∧ a.exp + b.exp ≤ 1048576 then frm (a.neg != b.neg) (nv a.mag * nv b.mag) (a.exp + b.exp) else none
theorem vz_sg (s : Int) (a : Nm) : vz s a = sg a.neg (nv a.mag : Int) * 2 ^ (a.exp - s).toNat:=by
 unfold vz
 cases a.neg <;> simp [sg,Int.neg_mul]
theorem mul_cfm (s : Int) (B : Nat) (hB : B ≤ 20000) (h1 : -20000 ≤ s) (h2 : s ≤ 0) (a b : Nm) (ha : Lies s B a) (hb : Lies s B b) : mulN a b = cfm (vz s a * vz s b) (s + s):=by
 obtain ⟨n1,L1,x1⟩:=a
 obtain ⟨n2,L2,x2⟩:=b
 have hz : ∀ (n : Bool) (L : List Int) (x : Int),Lies s B ⟨n,L,x⟩ → (bl (nv L) ≤ 20000 ∧ -20000 ≤ x ∧ x ≤ 20000):=by
  intro n L x h
  by_cases hne : L = []
  ·subst hne
   obtain ⟨rfl,rfl⟩:=vld_nil _ _ h.ok
   exact ⟨by simp [nv,bl],by omega,by omega⟩
  ·have g1:=h.low hne
   have g2:=tp_le s B _ h hne
   unfold tp at g2
   dsimp only at g1 g2
   omega
 have z1:=hz _ _ _ ha
 have z2:=hz _ _ _ hb
 have c1:=vz_sg s ⟨n1,L1,x1⟩
 have c2:=vz_sg s ⟨n2,L2,x2⟩
 dsimp only at c1 c2
 unfold mulN
 dsimp only
 rw [if_pos ⟨by omega,by omega,by omega⟩]
 by_cases e1 : L1 = []
 ·subst e1
  rw [vz_nil,Int.zero_mul,cfm_zero]
  simp [frm,nv]
 by_cases e2 : L2 = []
 ·subst e2
  rw [vz_nil,Int.mul_zero,cfm_zero]
  simp [frm,nv]
 have l1:=ha.low e1
 have l2:=hb.low e2
 dsimp only at l1 l2
 have p1:=nv_pos_of n1 L1 x1 e1 ha.ok
 have p2:=nv_pos_of n2 L2 x2 e2 hb.ok
 have e : vz s ⟨n1,L1,x1⟩ * vz s ⟨n2,L2,x2⟩ = sg n1 (nv L1 : Int) * sg n2 (nv L2 : Int) * 2 ^ ((x1 - s).toNat + (x2 - s).toNat):=by
  rw [c1,c2,Int.pow_add]
  simp only [Int.mul_assoc,Int.mul_left_comm]
 rw [e,cfm_shift,show s + s + (((x1 - s).toNat + (x2 - s).toNat : Nat) : Int) = x1 + x2 by omega]
 have hp : 0 < nv L1 * nv L2:=Nat.mul_pos p1 p2
 have e3 : sg n1 (nv L1 : Int) * sg n2 (nv L2 : Int) = sg (n1 != n2) ((nv L1 * nv L2 : Nat) : Int):=by
  rw [Int.natCast_mul]
  cases n1 <;> cases n2 <;> simp [sg,Int.neg_mul,Int.mul_neg]
 have hsg:=sg_neg (n1 != n2) ((nv L1 * nv L2 : Nat) : Int) (by omega)
 rw [e3]
 unfold cfm
 rw [hsg.1,hsg.2,Int.toNat_natCast]
def cz (a b : Int) : Int:=if a < b then -1 else if b < a then 1 else 0
theorem cz_lt {a b : Int} (h : a < b) : cz a b = -1:=by rw [cz,if_pos h]
theorem cz_gt {a b : Int} (h : b < a) : cz a b = 1:=by rw [cz,if_neg (by omega),if_pos h]
theorem cz_eq {a b : Int} (h : a = b) : cz a b = 0:=by rw [cz,if_neg (by omega),if_neg (by omega)]
/-! ### Plain -/
theorem lt_of_div (F G P : Nat) (h : F / P < G / P) : F < G:=by
 rcases Nat.lt_or_ge F G with g | g
 ·exact g
 ·exact absurd (Nat.div_le_div_right (c:=P) g) (by omega)
theorem cz_mul (a b : Int) (k : Nat) : cz (a * 2 ^ k) (b * 2 ^ k) = cz a b:=by
 have hp : (0 : Int) < 2 ^ k:=Int.pow_pos (by decide)
 rcases Int.lt_trichotomy a b with h | h | h
 ·rw [cz_lt h,cz_lt (Int.mul_lt_mul_of_pos_right h hp)]
 ·rw [cz_eq h,cz_eq (by rw [h])]
 ·rw [cz_gt h,cz_gt (Int.mul_lt_mul_of_pos_right h hp)]
abbrev pairC (n1 : Bool) (s1 : Value) (x1 : Int) (n2 : Bool) (s2 : Value) (x2 : Int) : Array Value:=#[.bool n1,s1,.int .i64 x1,.bool n2,s2,.int .i64 x2]
abbrev addW (w : World) (v1 v2 c : Array Value) : World:=(((w.alloc (.cells v1 26)).alloc (.cells v2 26)).alloc nilNum).alloc (.cells c 26)
theorem addW_kept (w : World) (v1 v2 c : Array Value) : Kept w (addW w v1 v2 c):=((((Kept.refl w).alloc _ _).alloc _ _).alloc _ _).alloc _ _
/-! ### Int -/
theorem own_three (w : World) (a b c : Int) : Own (w.alloc (.cells #[.int .i64 a,.int .i64 b,.int .i64 c] 3)) w.heap.size 3 [a,b,c] :=
 ⟨_,heap_alloc_new w _,Nat.le_refl _,by simp [maxLen],by simp,by simp⟩
end Go.Proofs.YtdhimkpfnhoagaaGreatDoor
