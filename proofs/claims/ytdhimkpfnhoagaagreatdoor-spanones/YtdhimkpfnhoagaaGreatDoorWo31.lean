/- What a valid number rounds to,plainly: its rung,its pattern; order is kept,signs are mirrored,the nearest is the nearest. Package span: what a float adds to a sum,by values. -/
import Derived.Test.YtdhimkpfnhoagaaGreatDoorWo23
import Derived.Test.YtdhimkpfnhoagaaGreatDoorWo20
import Derived.Test.YtdhimkpfnhoagaaGreatDoorWo12
import Derived.Test.YtdhimkpfnhoagaaGreatDoorWo30
namespace Go.Proofs.YtdhimkpfnhoagaaGreatDoor
open Go.ChangeShapes Go.WideShapes Go.ChangeAt Go.RowKit
set_option linter.unusedVariables false
set_option linter.unusedSimpArgs false
set_option maxHeartbeats 16000000
set_option maxRecDepth 100000
def cbn (n : Int) : Nat:=if n = 64 then 4503599627370496 else 8388608
theorem cbn_pow (n : Int) (hn : n = 64 ∨ n = 32) : cbn n = 2 ^ ((kprec n).toNat - 1) ∧ 2 ≤ (kprec n).toNat:=by
 rcases hn with rfl | rfl <;> decide
theorem rv_lt (n : Int) (hn : n = 64 ∨ n = 32) (r s : Nat) (h : r < s) : rv (cbn n) r < rv (cbn n) s:=by
 rcases hn with rfl | rfl
 ·have:=rungVal_lt FloatKind.f64.format h
  unfold rungVal at this
  rw [bin64] at this
  exact this
 ·have:=rungVal_lt FloatKind.f32.format h
  unfold rungVal at this
  rw [bin32] at this
  exact this
theorem rv_le (n : Int) (hn : n = 64 ∨ n = 32) (r s : Nat) (h : r ≤ s) : rv (cbn n) r ≤ rv (cbn n) s:=by
 rcases Nat.lt_or_ge r s with hl | hg
 ·exact Nat.le_of_lt (rv_lt n hn r s hl)
 ·rw [show r = s by omega]
  exact Nat.le_refl _
def unN (n : Int) (r : Nm) : Int:=unz (kprec n).toNat (kleast n) (bl (nv r.mag)) r.exp
def kpN (n : Int) (r : Nm) : Nat:=flo (nv r.mag) (r.exp - unN n r)
def flN (n : Int) (r : Nm) : Nat:=(unN n r - kleast n).toNat * cbn n + kpN n r
def odN (n : Int) (r : Nm) : Bool:=decide (kpN n r % 2 = 1)
def hfN (n : Int) (r : Nm) : Bool:=decide (flo (nv r.mag) (r.exp - unN n r + 1) % 2 = 1)
def rtN (n : Int) (r : Nm) : Bool:=rst (nv r.mag) (r.exp - unN n r + 1)
def mgN (n way : Int) (r : Nm) : Nat:=if r.mag = [] then 0 else mgz way r.neg (ifn n) (flN n r) (odN n r) (hfN n r) (rtN n r)
def oxN (n way : Int) (r : Nm) : Bool:=if r.mag = [] then false else odz way r.neg (ifn n) (flN n r) (odN n r) (hfN n r) (rtN n r)
def kyN (n way : Int) (r : Nm) : Int:=if r.neg = true then -(mgN n way r : Int) else (mgN n way r : Int)
def rzN (n way : Int) (r : Nm) : Int:=pz n (kyN n way r)
theorem nv_ne (r : Nm) (hv : vld r = true) (hne : r.mag ≠ []) : nv r.mag ≠ 0:=by
 obtain ⟨n,L,x⟩:=r
 exact Nat.pos_iff_ne_zero.1 (nv_pos_of n L x hne hv)
theorem cutN (n : Int) (hn : n = 64 ∨ n = 32) (r : Nm) (hv : vld r = true) (hne : r.mag ≠ []) (s : Int) (hs : s ≤ r.exp) (hl : s < kleast n) : Cutz (cbn n) (2 ^ (kleast n - s).toNat) (vz s r).natAbs (kpN n r) (2 ^ (unN n r - s).toNat) (2 ^ (unN n r - 1 - s).toNat) (flN n r) (odN n r) (hfN n r) (rtN n r):=by
 have h0:=nv_ne r hv hne
 obtain ⟨b1,b2,b3⟩:=bl_pos (nv r.mag) h0
 obtain ⟨c1,c2⟩:=cbn_pow n hn
 rw [vz_abs]
 exact cutz_is (kprec n).toNat (cbn n) (kleast n) (nv r.mag) (bl (nv r.mag)) r.exp s c2 c1 b1 b2 b3 hs hl (unN n r) rfl (kpN n r) (flN n r) rfl rfl
theorem mgN_le (n way : Int) (r : Nm) : mgN n way r ≤ ifn n:=by
 unfold mgN
 split
 ·omega
 ·exact mgz_le _ _ _ _ _ _ _
theorem kyN_range (n way : Int) (r : Nm) : -(ifn n : Int) ≤ kyN n way r ∧ kyN n way r ≤ (ifn n : Int):=by
 have:=mgN_le n way r
 unfold kyN
 split <;> omega
theorem vz_sign (s : Int) (r : Nm) (hv : vld r = true) : (r.neg = true → vz s r < 0) ∧ (r.neg = false → 0 ≤ vz s r) ∧ (r.mag = [] → r.neg = false ∧ vz s r = 0):=by
 by_cases hne : r.mag = []
 ·obtain ⟨n,L,x⟩:=r
  simp only at hne
  subst hne
  have hn : n = false:=by
   simp only [vld,if_pos,Bool.and_eq_true] at hv
   simpa using hv.1
  subst hn
  rw [vz_nil]
  simp
 ·have h0:=nv_ne r hv hne
  have hp:=Nat.two_pow_pos (r.exp - s).toNat
  have hm : 0 < nv r.mag * 2 ^ (r.exp - s).toNat:=Nat.mul_pos (by omega) hp
  have ha:=vz_abs s r
  refine ⟨fun h => ?_,fun h => ?_,fun h => absurd h hne⟩
  ·unfold vz sg
   rw [h,if_pos rfl]
   have : ((nv r.mag : Int) * 2 ^ (r.exp - s).toNat) = ((nv r.mag * 2 ^ (r.exp - s).toNat : Nat) : Int):=by push_cast; rfl
   omega
  ·unfold vz sg
   rw [h,if_neg (by decide)]
   have : ((nv r.mag : Int) * 2 ^ (r.exp - s).toNat) = ((nv r.mag * 2 ^ (r.exp - s).toNat : Nat) : Int):=by push_cast; rfl
   omega
def ngv (r : Nm) : Nm:=if r.mag = [] then ⟨false,[],0⟩ else ng r
theorem kyN_mir (n way : Int) (hw : way = 0 ∨ way = 1 ∨ way = 2) (r : Nm) (hv : vld r = true) : kyN n (mir way) (ngv r) = -kyN n way r ∧ oxN n (mir way) (ngv r) = oxN n way r:=by
 by_cases h : r.mag = []
 ·have hn:=((vz_sign 0 r hv).2.2 h).1
  simp [ngv,h,kyN,oxN,mgN,hn]
 ·have hg : ngv r = ng r:=by simp [ngv,h]
  have h1 : (ng r).mag = r.mag:=rfl
  have h2 : (ng r).exp = r.exp:=rfl
  have h3 : (ng r).neg = !r.neg:=rfl
  have e1 : unN n (ng r) = unN n r:=by unfold unN; rw [h1,h2]
  have e2 : kpN n (ng r) = kpN n r:=by unfold kpN; rw [h1,h2,e1]
  have e3 : flN n (ng r) = flN n r:=by unfold flN; rw [e1,e2]
  have e4 : odN n (ng r) = odN n r:=by unfold odN; rw [e2]
  have e5 : hfN n (ng r) = hfN n r:=by unfold hfN; rw [h1,h2,e1]
  have e6 : rtN n (ng r) = rtN n r:=by unfold rtN; rw [h1,h2,e1]
  rw [hg]
  unfold kyN oxN mgN
  rw [h1,h3,e3,e4,e5,e6]
  simp only [if_neg h]
  obtain ⟨m1,m2⟩:=mgz_mir way hw r.neg (ifn n) (flN n r) (odN n r) (hfN n r) (rtN n r)
  rw [m1,m2]
  cases r.neg <;> simp
/- the neighbours,by keys -/
def kvz (n s k : Int) : Int:=if k < 0 then -((rv (cbn n) k.natAbs * 2 ^ (kleast n - s).toNat : Nat) : Int) else ((rv (cbn n) k.natAbs * 2 ^ (kleast n - s).toNat : Nat) : Int)
structure Nbr (n s Z d u e : Int) (o : Bool) : Prop where
 same : o = false → u = d ∧ e = d ∧ Z = kvz n s d ∧ -(ifn n : Int) < d ∧ d < (ifn n : Int)
 next : o = true → u = d + 1 ∧ (e = d ∨ e = u) ∧ d < (ifn n : Int) ∧ -(ifn n : Int) < u ∧ (-(ifn n : Int) < d → kvz n s d < Z) ∧ (u < (ifn n : Int) → Z < kvz n s u)
 near : o = true → -(ifn n : Int) < d → u < (ifn n : Int) → (Z - kvz n s d < kvz n s u - Z → e = d) ∧ (kvz n s u - Z < Z - kvz n s d → e = u) ∧ (Z - kvz n s d = kvz n s u - Z → e % 2 = 0)
theorem ifn_pos (n : Int) : 0 < ifn n:=by unfold ifn; split <;> decide
theorem kvz_nat (n s : Int) (k : Nat) : kvz n s (k : Int) = ((rv (cbn n) k * 2 ^ (kleast n - s).toNat : Nat) : Int):=by
 unfold kvz
 rw [if_neg (by omega),Int.natAbs_natCast]
theorem kvz_neg (n s : Int) (k : Nat) : kvz n s (-(k : Int)) = -((rv (cbn n) k * 2 ^ (kleast n - s).toNat : Nat) : Int):=by
 unfold kvz
 rw [Int.natAbs_neg,Int.natAbs_natCast]
 by_cases h : k = 0
 ·subst h
  have : rv (cbn n) 0 = 0:=by
   unfold rv cbn
   split <;> split <;> simp_all
  rw [this]
  simp
 ·rw [if_pos (by omega)]
theorem nbrN (n : Int) (hn : n = 64 ∨ n = 32) (r : Nm) (hv : vld r = true) (s : Int) (hs : r.mag ≠ [] → s ≤ r.exp) (hl : s < kleast n) : Nbr n s (vz s r) (kyN n 1 r) (kyN n 2 r) (kyN n 0 r) (oxN n 1 r) ∧ oxN n 2 r = oxN n 1 r ∧ oxN n 0 r = oxN n 1 r:=by
 obtain ⟨s1,s2,s3⟩:=vz_sign s r hv
 have hip:=ifn_pos n
 by_cases h : r.mag = []
 ·obtain ⟨e1,e2⟩:=s3 h
  have hk : ∀ way,kyN n way r = 0:=fun way => by simp [kyN,mgN,h,e1]
  have ho : ∀ way,oxN n way r = false:=fun way => by simp [oxN,h]
  rw [hk,hk,hk,ho,ho,ho,e2]
  refine ⟨⟨fun _ => ⟨rfl,rfl,?_,by omega,by omega⟩,fun hh => (by cases hh),fun hh => (by cases hh)⟩,rfl,rfl⟩
  have:=kvz_neg n s 0
  have h2:=kvz_nat n s 0
  rw [show (-((0 : Nat) : Int)) = ((0 : Nat) : Int) by rfl] at this
  rw [show (0 : Int) = ((0 : Nat) : Int) by rfl]
  omega
 ·have hC:=cutN n hn r hv h s (hs h) hl
  obtain ⟨B,o1,o2⟩:=hC.btw (ifn n) hip (rv_le n hn) (rv_lt n hn) (Nat.two_pow_pos _) r.neg
  obtain ⟨N1,N2,N3⟩:=B
  have hox : ∀ way,oxN n way r = odz way r.neg (ifn n) (flN n r) (odN n r) (hfN n r) (rtN n r):=fun way => by simp [oxN,h]
  have hmg : ∀ way,mgN n way r = mgz way r.neg (ifn n) (flN n r) (odN n r) (hfN n r) (rtN n r):=fun way => by simp [mgN,h]
  rw [hox,hox,hox]
  unfold kyN
  rw [hmg,hmg,hmg]
  cases hng : r.neg
  ·rw [hng] at N1 N2 N3 o2
   have hZ : vz s r = ((vz s r).natAbs : Int):=by have:=s2 hng; omega
   simp only [Bool.false_eq_true,if_false]
   rw [o1,o2]
   generalize (vz s r).natAbs = V at *
   generalize mgz 1 false (ifn n) (flN n r) (odN n r) (hfN n r) (rtN n r) = lo at *
   generalize mgz 2 false (ifn n) (flN n r) (odN n r) (hfN n r) (rtN n r) = hi at *
   generalize mgz 0 false (ifn n) (flN n r) (odN n r) (hfN n r) (rtN n r) = ne at *
   generalize odz 1 false (ifn n) (flN n r) (odN n r) (hfN n r) (rtN n r) = o at *
   rw [hZ]
   refine ⟨⟨fun ho => ?_,fun ho => ?_,fun ho h1 h2 => ?_⟩,rfl,rfl⟩
   ·have:=N1 ho
    rw [kvz_nat]
    omega
   ·have:=N2 ho
    rw [kvz_nat,kvz_nat]
    omega
   ·have:=N3 ho (by omega)
    have:=N2 ho
    rw [kvz_nat,kvz_nat]
    omega
  ·obtain ⟨m1,m2⟩:=mgz_mir 1 (by omega) false (ifn n) (flN n r) (odN n r) (hfN n r) (rtN n r)
   obtain ⟨m3,m4⟩:=mgz_mir 2 (by omega) false (ifn n) (flN n r) (odN n r) (hfN n r) (rtN n r)
   rw [show mir 1 = 2 by decide,show (!false) = true by rfl] at m1 m2
   rw [show mir 2 = 1 by decide,show (!false) = true by rfl] at m3 m4
   rw [hng] at N1 N2 N3 o2
   have hZ : vz s r = -((vz s r).natAbs : Int):=by have:=s1 hng; omega
   simp only [if_true]
   rw [m1,m3,m2,m4,o1,o2]
   generalize (vz s r).natAbs = V at *
   generalize mgz 1 false (ifn n) (flN n r) (odN n r) (hfN n r) (rtN n r) = lo at *
   generalize mgz 2 false (ifn n) (flN n r) (odN n r) (hfN n r) (rtN n r) = hi at *
   generalize mgz 0 true (ifn n) (flN n r) (odN n r) (hfN n r) (rtN n r) = ne at *
   generalize odz 1 false (ifn n) (flN n r) (odN n r) (hfN n r) (rtN n r) = o at *
   rw [hZ]
   refine ⟨⟨fun ho => ?_,fun ho => ?_,fun ho h1 h2 => ?_⟩,rfl,rfl⟩
   ·obtain ⟨t1,t2,t3,t4⟩:=N1 ho
    subst t2
    rw [kvz_neg]
    omega
   ·have:=N2 ho
    rw [kvz_neg,kvz_neg]
    omega
   ·have:=N3 ho (by omega)
    have:=N2 ho
    rw [kvz_neg,kvz_neg]
    omega
/- a float's value,by its key -/
theorem of_key (n k : Int) (hn : n = 64 ∨ n = 32) (h1 : -(ifn n : Int) < k) (h2 : k < (ifn n : Int)) (s : Int) (hs : s < -1074) (hs2 : -2000 ≤ s) : Lies s 5000 (ofN (pz n k) n) ∧ vz s (ofN (pz n k) n) = kvz n s k:=by
 have hc:=(pz_cls n k hn (by omega) (by omega)).2 ⟨h1,h2⟩
 have hf:=of_frm (pz n k) n hn hc
 obtain ⟨f1,f2,f3,f4,f5,f6⟩:=fl_any (pz n k) n hn hc
 obtain ⟨g1,g2⟩:=bl_mag (pz n k) n hn hc
 have hng:=pz_neg n k hn h1 h2
 obtain ⟨c,hcc⟩ : ∃ c,c = if n = 64 then (4503599627370496 : Int) else 8388608:=⟨_,rfl⟩
 obtain ⟨l,hll⟩ : ∃ l,l = if n = 64 then (-1074 : Int) else -149:=⟨_,rfl⟩
 obtain ⟨r,hr⟩ : ∃ r,r = if k < 0 then -k else k:=⟨_,rfl⟩
 obtain ⟨q1,q2⟩:=pz_mag n k hn h1 h2 c hcc l hll r hr
 have hkl : kleast n = l:=by rw [hll]; rfl
 have hcb : (cbn n : Int) = c:=by rw [hcc]; unfold cbn; split <;> rfl
 have hra : r = (k.natAbs : Int):=by rw [hr]; split <;> omega
 have hval : (pmag (pz n k) n).toNat * 2 ^ (pexp (pz n k) n - s).toNat = rv (cbn n) k.natAbs * 2 ^ (kleast n - s).toNat:=by
  unfold rv
  by_cases hb : r < c
  ·rw [if_pos hb] at q1 q2
   rw [if_pos (by omega),q1,q2,hkl,hra,Int.toNat_natCast]
  ·rw [if_neg hb] at q1 q2
   have hcp : 0 < cbn n:=by unfold cbn; split <;> decide
   rw [if_neg (by omega),q1,q2,hkl,Nat.mul_assoc,← Nat.pow_add]
   have hmod : (c + r % c).toNat = cbn n + k.natAbs % cbn n:=by
    rw [← hcb,hra,← Int.natCast_emod,← Int.natCast_add,Int.toNat_natCast]
   have hdiv : r / c = ((k.natAbs / cbn n : Nat) : Int):=by rw [← hcb,hra,Int.natCast_ediv]
   have hge : 1 ≤ k.natAbs / cbn n:=by
    rw [Nat.le_div_iff_mul_le hcp]; omega
   rw [hmod]
   congr 2
   rw [hdiv]
   omega
 rw [frm_cfm] at hf
 have hsh:=cfm_shift (sg (pneg (pz n k) n) ((pmag (pz n k) n).toNat : Int)) (pexp (pz n k) n - s).toNat s
 rw [show s + ((pexp (pz n k) n - s).toNat : Int) = pexp (pz n k) n by omega] at hsh
 rw [← hsh] at hf
 have hz : sg (pneg (pz n k) n) ((pmag (pz n k) n).toNat : Int) * 2 ^ (pexp (pz n k) n - s).toNat = kvz n s k:=by
  unfold kvz sg
  rw [hng]
  by_cases hk : k < 0
  ·rw [decide_eq_true hk,if_pos rfl,if_pos hk,← hval,Int.neg_mul]
   push_cast
   rfl
  ·rw [decide_eq_false hk,if_neg (by decide),if_neg hk,← hval]
   push_cast
   rfl
 rw [hz] at hf
 obtain ⟨B,hB⟩ : ∃ B : Nat,B = 5000:=⟨_,rfl⟩
 rw [← hB]
 have hlt : (kvz n s k).natAbs < 2 ^ B:=by
  have : (kvz n s k).natAbs = (pmag (pz n k) n).toNat * 2 ^ (pexp (pz n k) n - s).toNat:=by
   rw [hval]; unfold kvz; split <;> omega
  rw [this]
  calc (pmag (pz n k) n).toNat * 2 ^ (pexp (pz n k) n - s).toNat < 2 ^ 53 * 2 ^ (pexp (pz n k) n - s).toNat:=Nat.mul_lt_mul_of_pos_right (Nat.lt_of_lt_of_le (bl_lt _) (Nat.pow_le_pow_right (by decide) g2)) (Nat.two_pow_pos _)
   _ = 2 ^ (53 + (pexp (pz n k) n - s).toNat):=by rw [Nat.pow_add]
   _ ≤ 2 ^ B:=Nat.pow_le_pow_right (by decide) (by omega)
 obtain ⟨r',hr1,hr2,hr3⟩:=cfm_lies s B (by omega) (by omega) (by omega) (kvz n s k) hlt
 rw [hr1] at hf
 injection hf with hf
 rw [← hf]
 exact ⟨hr2,hr3⟩
end Go.Proofs.YtdhimkpfnhoagaaGreatDoor
namespace Go.Proofs.YtdhimkpfnhoagaaGreatDoor
open Go.ChangeShapes Go.WideShapes Go.ChangeAt Go.RowKit Ieee
set_option linter.unusedVariables false
set_option linter.unusedSimpArgs false
set_option maxHeartbeats 16000000
set_option maxRecDepth 100000
/-- a finite binary64 in units of 2^-1074 -/
def zw (x : Nat) : Int:=sg (pneg (of64 x) 64) (pmag (of64 x) 64 * 2 ^ (pexp (of64 x) 64 + 1074).toNat)
theorem tadd_no (w : World) (b : Nat) (C : List Int) (f : Nat) (hT : TotAt w b C f) (x : Nat) (p : Int) (ng : Bool) (a ex : Int)
  (KO : Hid (∀ u,Calls Tryz.prog 159 #[.float .f64 x] u fun e w' => e = .returned (.int .i64 p) ∧ u = w'))
  (KP : Hid (∀ u,Calls Tryz.prog 104 #[.int .i64 p,.int .i64 64] u fun e w' => e = .returned (.tuple #[.bool ng,.int .i64 a,.int .i64 ex,.bool false]) ∧ Kept u w')) :
  Calls Tryz.prog 118 #[.pointer (some ⟨b,0,none⟩),.float .f64 x] w fun e w' => e = .returned (.tuple #[]) ∧ TotAt w' b C x ∧ Grw b w w':=by
 have HM : Hid (∀ u,Kept w u → TotAt u b C f):=fun u k => hT.kept k
 have hSF:=sto_f
 clear hT
 go_enter Tryz.func118,Tryz.ntmps118
 go_wp2_with (first | (go_at_call 159; refine (KO.out _).mono ?_; rintro e w1 ⟨rfl,rfl⟩) | (go_at_call 104; refine (KP.out _).mono ?_; rintro e w2 ⟨rfl,k2⟩; have hi:=(HM.out _ k2).inf; have hf:=(HM.out _ k2).fz 71))
 exact bodyPost_ret (v:=.tuple #[]) (by simp [results,Tryz.results118,go_sem]) rfl ⟨rfl,(HM.out _ k2).setInf x,(k2.toGrw b).setCell _ _⟩
theorem fin_parts (p : Int) (hc : cls p 64 < 3) : 0 ≤ pmag p 64 ∧ pmag p 64 < 9007199254740992 ∧ -1074 ≤ pexp p 64 ∧ pexp p 64 ≤ 971:=by
 obtain ⟨h1,h2,h3,h4,-⟩:=fl_64 p hc
 exact ⟨h1,h2,h3,h4⟩
/-- the columns behind a float -/
structure Clm (C C' : List Int) (V : Int) : Prop where
 len : C'.length = 71
 val : cv C' = cv C + V
 near : ∀ k,-1073741824 ≤ C'.getD k 0 - C.getD k 0 ∧ C'.getD k 0 - C.getD k 0 ≤ 1073741824
theorem cl_three (C : List Int) (hl : C.length = 71) (fs : Nat) (hf : fs + 3 ≤ 71) (S M0 M1 M2 : Int) (hS : S = 1 ∨ S = -1) (hb0 : 0 ≤ M0 ∧ M0 < 1073741824) (hb1 : 0 ≤ M1 ∧ M1 < 1073741824) (hb2 : 0 ≤ M2 ∧ M2 < 1073741824) : Clm C (((C.set fs (C.getD fs 0 + S * M0)).set (fs + 1) (C.getD (fs + 1) 0 + S * M1)).set (fs + 2) (C.getD (fs + 2) 0 + S * M2)) (S * ws M0 M1 M2 3 * 2 ^ (30 * fs)):=by
 have g1 : (C.set fs (C.getD fs 0 + S * M0)).getD (fs + 1) 0 = C.getD (fs + 1) 0:=by rw [getD_set _ _ _ _ (by omega),if_neg (by omega)]
 have g2 : ((C.set fs (C.getD fs 0 + S * M0)).set (fs + 1) (C.getD (fs + 1) 0 + S * M1)).getD (fs + 2) 0 = C.getD (fs + 2) 0:=by rw [getD_set _ _ _ _ (by simp; omega),if_neg (by omega),getD_set _ _ _ _ (by omega),if_neg (by omega)]
 refine ⟨by simp [hl],?_,fun k => ?_⟩
 ·rw [cv_put _ _ (by simp; omega),cv_put _ _ (by simp; omega),cv_put _ _ (by omega),g1,g2]
  have e1 : (2 : Int) ^ (30 * (fs + 1)) = 1073741824 * 2 ^ (30 * fs):=by rw [show 30 * (fs + 1) = 30 + 30 * fs by omega,Int.pow_add]; rfl
  have e2 : (2 : Int) ^ (30 * (fs + 2)) = 1152921504606846976 * 2 ^ (30 * fs):=by rw [show 30 * (fs + 2) = 60 + 30 * fs by omega,Int.pow_add]; rfl
  rw [e1,e2]
  show _ = cv C + S * (M0 + M1 * 1073741824 + M2 * 1152921504606846976) * 2 ^ (30 * fs)
  generalize (2 : Int) ^ (30 * fs) = Q
  rw [show C.getD fs 0 + S * M0 - C.getD fs 0 = S * M0 by omega,show C.getD (fs + 1) 0 + S * M1 - C.getD (fs + 1) 0 = S * M1 by omega,show C.getD (fs + 2) 0 + S * M2 - C.getD (fs + 2) 0 = S * M2 by omega]
  simp only [Int.mul_add,Int.add_mul,Int.mul_assoc,Int.mul_comm,Int.mul_left_comm]
  omega
 ·have m0 : -1073741824 ≤ S * M0 ∧ S * M0 ≤ 1073741824:=by rcases hS with rfl | rfl <;> omega
  have m1 : -1073741824 ≤ S * M1 ∧ S * M1 ≤ 1073741824:=by rcases hS with rfl | rfl <;> omega
  have m2 : -1073741824 ≤ S * M2 ∧ S * M2 ≤ 1073741824:=by rcases hS with rfl | rfl <;> omega
  rw [getD_set _ _ _ _ (by simp; omega),getD_set _ _ _ _ (by simp; omega),getD_set _ _ _ _ (by omega)]
  by_cases h2 : fs + 2 = k
  ·rw [if_pos h2,← h2]; omega
  ·rw [if_neg h2]
   by_cases h1 : fs + 1 = k
   ·rw [if_pos h1,← h1]; omega
   ·rw [if_neg h1]
    by_cases h0 : fs = k
    ·rw [if_pos h0,← h0]; omega
    ·rw [if_neg h0]; omega
theorem tadd_any (w : World) (b : Nat) (C : List Int) (f : Nat) (hT : TotAt w b C f) (hC : ∀ k,-1152921504606846976 ≤ C.getD k 0 ∧ C.getD k 0 ≤ 1152921504606846976) (x : Nat) (q : Int) (hx : Fl 64 x q) :
  Calls Tryz.prog 118 #[.pointer (some ⟨b,0,none⟩),.float .f64 x] w fun e w' => e = .returned (.tuple #[]) ∧ (∃ C',Clm C C' (if q = (ifn 64 : Int) ∨ q = -(ifn 64 : Int) then 0 else zw x) ∧ TotAt w' b C' (if q = (ifn 64 : Int) ∨ q = -(ifn 64 : Int) then x else f)) ∧ Grw b w w':=by
 obtain ⟨q',hq',hK,o1,o2,o3,o4,o5,o6⟩:=hx.wide
 have hqq : q' = q:=by
  have h1:=hx.ord hx
  obtain ⟨c,c1,c2,c3,c4⟩:=hx
  have e : pat64 c = x:=by rw [c4]; simp [fl]
  have e2 : keyOf (of64 x) 64 = keyOf c 64:=by rw [← key_64 _ o4 o5,← key_64 _ c2.1 c2.2,o6,e]
  omega
 rw [hqq] at o3
 have KO : Hid (∀ u,Calls Tryz.prog 159 #[.float .f64 x] u fun e w' => e = .returned (.int .i64 (of64 x)) ∧ u = w'):=fun u => of64_any x u
 have KP:=fun u => parts_any (of64 x) 64 o4 o5 u
 have hf:=fin_key (of64 x) 64 (.inl rfl) o2 ⟨o4,o5⟩
 rw [o3] at hf
 by_cases hi : q = (ifn 64 : Int) ∨ q = -(ifn 64 : Int)
 ·simp only [if_pos hi]
  rw [decide_eq_false (fun h => h hi)] at hf
  rw [hf] at KP
  refine (tadd_no w b C f hT x _ _ _ _ KO (fun u => KP u)).mono ?_
  rintro e w' ⟨rfl,h1,h2⟩
  exact ⟨rfl,⟨C,⟨hT.len,by omega,fun k => by omega⟩,h1⟩,h2⟩
 ·simp only [if_neg hi]
  rw [decide_eq_true hi] at hf
  rw [hf] at KP
  have hc : cls (of64 x) 64 < 3:=by
   unfold fin at hf
   rw [decide_eq_true_eq] at hf
   exact hf.2
  obtain ⟨p1,p2,p3,p4⟩:=fin_parts _ hc
  obtain ⟨fs,hfs⟩ : ∃ fs : Nat,(fs : Int) = (pexp (of64 x) 64 + 1074) / 30:=⟨((pexp (of64 x) 64 + 1074) / 30).toNat,by omega⟩
  obtain ⟨s,hs⟩ : ∃ s : Nat,(s : Int) = (pexp (of64 x) 64 + 1074) % 30:=⟨((pexp (of64 x) 64 + 1074) % 30).toNat,by omega⟩
  have hs30 : s < 30:=by omega
  have hpe : pexp (of64 x) 64 + 1074 = 30 * (fs : Int) + s:=by omega
  have hfl : fs + 3 ≤ 71:=by omega
  obtain ⟨b0,b1,b2⟩:=moved_bound0 _ ⟨p1,p2⟩ s hs30 _ _ _ rfl rfl rfl
  have hws:=moved_sum (pmag (of64 x) 64) s hs30 _ _ _ rfl rfl rfl
  have hz : ∀ S : Int,S * (pmag (of64 x) 64 * 2 ^ s) * 2 ^ (30 * fs) = S * (pmag (of64 x) 64 * 2 ^ (pexp (of64 x) 64 + 1074).toNat):=fun S => by
   rw [show (pexp (of64 x) 64 + 1074).toNat = s + 30 * fs by omega,Int.pow_add]
   simp only [Int.mul_assoc]
  cases hng : pneg (of64 x) 64
  ·rw [hng] at KP
   refine (tadd_pos w b C f hT hC x _ _ _ fs s hs30 hpe hfl ⟨p3,p4⟩ _ _ _ b0 b1 b2 rfl rfl rfl KO (fun u => KP u)).mono ?_
   rintro e w' ⟨rfl,h1,h2⟩
   have hcl:=cl_three C hT.len fs hfl 1 _ _ _ (.inl rfl) b0 b1 b2
   rw [hws,hz] at hcl
   refine ⟨rfl,⟨_,?_,h1⟩,h2⟩
   have : zw x = 1 * (pmag (of64 x) 64 * 2 ^ (pexp (of64 x) 64 + 1074).toNat):=by unfold zw; rw [hng]; simp [sg]
   rw [this]
   exact hcl
  ·rw [hng] at KP
   refine (tadd_neg w b C f hT hC x _ _ _ fs s hs30 hpe hfl ⟨p3,p4⟩ _ _ _ b0 b1 b2 rfl rfl rfl KO (fun u => KP u)).mono ?_
   rintro e w' ⟨rfl,h1,h2⟩
   have hcl:=cl_three C hT.len fs hfl (-1) _ _ _ (.inr rfl) b0 b1 b2
   rw [hws,hz] at hcl
   refine ⟨rfl,⟨_,?_,h1⟩,h2⟩
   have : zw x = -1 * (pmag (of64 x) 64 * 2 ^ (pexp (of64 x) 64 + 1074).toNat):=by unfold zw; rw [hng]; simp [sg]
   rw [this]
   exact hcl
end Go.Proofs.YtdhimkpfnhoagaaGreatDoor
