/- Package sure,by values: Int,Scale,Sign,Round; package start: times. A word's parts,as a float and back. A whole number times 2^-53 (2^-24): Go's float and the document's own Join. Words mixed: as whole numbers below 2^64. No two words become one; every number below 2^64 is some place's word; how many words are passed over; a shuffle as a list. -/
import Derived.Test.YtelbefihigkhjaaGreatDoorWa26
import Derived.Test.YtelbefihigkhjaaGreatDoorWa06
import Derived.Laws.Bits64b
namespace Go.Proofs.YtelbefihigkhjaaGreatDoor
open Go.ChangeShapes Go.WideShapes Go.ChangeAt Go.RowKit
set_option maxHeartbeats 16000000
set_option maxRecDepth 100000
set_option linter.unusedVariables false
set_option linter.unusedSimpArgs false
theorem shl_lt (z : Int) (k e : Nat) (h : z.natAbs < 2 ^ k) : (z * 2 ^ e).natAbs < 2 ^ (k + e):=by
 rw [Int.natAbs_mul,Int.natAbs_pow,Nat.pow_add]
 exact Nat.mul_lt_mul_of_pos_right h (Nat.two_pow_pos _)
theorem sint_any (p : Int) (h1 : -9223372036854775808 ≤ p) (h2 : p ≤ 9223372036854775807) (y : Nm) (hy : cfm p 0 = some y) (w : World) (hT : Tab w) : Calls Tryz.prog 188 #[.int .i64 p] w fun e w' => ∃ v,e = .returned v ∧ New w w' v y ∧ Kept w w':=by
 refine sint_walk p y w (fun u k => ?_)
 by_cases h0 : 0 ≤ p
 ·refine (int_pos p h0 h2 y hy u (hT.kept k)).mono ?_
  rintro e w' ⟨⟨v,rfl,hN⟩,kk⟩
  exact ⟨v,rfl,hN,kk⟩
 ·refine (int_neg p h1 (by omega) y hy u (hT.kept k)).mono ?_
  rintro e w' ⟨⟨v,rfl,hN⟩,kk⟩
  exact ⟨v,rfl,hN,kk⟩
theorem New.formS {w0 w : World} {v : Value} {x : Nm} (h : New w0 w v x) : ∃ ao c,v = .agg #[.bool x.neg,.slice ao x.mag.length c,.int .i64 x.exp] ∧ Sl w (.slice ao x.mag.length c) x.mag ∧ (ao = none → c = 0):=by
 rcases h with ⟨rfl,rfl⟩ | ⟨g,cap,rfl,hg,ho,hne⟩
 ·exact ⟨none,0,rfl,⟨none,0,rfl,Nat.le_refl _,by simp [maxLen],fun h => absurd rfl h⟩,fun _ => rfl⟩
 ·exact ⟨_,_,rfl,ho.sl,fun h => by cases h⟩
theorem Vz.scale {s Z : Int} {x r : Nm} (h : Vz s Z x) (k : Int) (hr : cfm Z (s + k) = some r) : frm x.neg (nv x.mag) (x.exp + k) = some r:=by
 rw [frm_cfm,← hr]
 by_cases hne : x.mag = []
 ·have hz : Z = 0:=by
   rw [← h.val]
   unfold vz
   rw [hne]
   cases x.neg <;> simp [sg,nv]
  rw [hz,hne,show sg x.neg ((nv [] : Nat) : Int) = 0 by cases x.neg <;> rfl,cfm_zero,cfm_zero]
 ·have hl:=h.lies.low hne
  have e : Z = sg x.neg (nv x.mag : Int) * 2 ^ (x.exp - s).toNat:=by
   rw [← h.val]
   unfold vz
   cases x.neg <;> simp [sg,Int.neg_mul]
  rw [e,cfm_shift,show s + k + ((x.exp - s).toNat : Int) = x.exp + k by omega]
theorem vld_exp (x : Nm) (h : vld x = true) : -1048576 ≤ x.exp ∧ x.exp ≤ 1048576:=by
 obtain ⟨n,L,e⟩:=x
 by_cases hL : L = []
 ·subst hL
  obtain ⟨-,rfl⟩:=vld_nil _ _ h
  exact ⟨by dsimp only; omega,by dsimp only; omega⟩
 ·obtain ⟨p1,p2,p3,p4,p5,p6⟩:=vld_some n L e hL h
  exact ⟨p5,p6⟩
theorem sscale_any {s Z : Int} {x r : Nm} (h : Vz s Z x) (k : Int) (hk1 : -1000 ≤ k) (hk2 : k ≤ 1000) (hr : cfm Z (s + k) = some r) (w0 : World) (v1 : Value) (w : World) (hT : Tab w) (h1 : New w0 w v1 x) : Calls Tryz.prog 187 #[v1,.int .i64 k] w fun e w' => ∃ v,e = .returned v ∧ New w w' v r ∧ Kept w w':=by
 obtain ⟨a1,c1,rfl,s1,hcap⟩:=h1.formS
 have hv:=h.ok
 obtain ⟨hlen,hDg⟩:=vld_dg x.neg x.mag x.exp hv
 have hx:=vld_exp x hv
 have e1 : wrap64 (x.exp + k) = x.exp + k:=by unfold wrap64; omega
 exact sscale_walk _ _ _ _ _ k r w (fun u kk => scale_ok x.neg x.mag hDg.rg (by omega) a1 c1 hcap x.exp k (x.exp + k) (by rw [wrap_i64]; omega) e1 hv r (h.scale k hr) u (s1.kept kk) (hT.kept kk))
theorem sround_any (n : Int) (hn : n = 64 ∨ n = 32) (x : Nm) (hv : vld x = true) (v1 : Value) (w : World) (hT : Tab w) (h1 : NumAt w v1 x) : Calls Tryz.prog 100 #[v1,.int .i64 n] w fun e w' => e = .returned (.int .i64 (rzN n 0 x)) ∧ Kept w w':=by
 obtain ⟨a1,c1,rfl,s1⟩:=h1.form
 exact sround_walk _ _ _ _ _ n _ 0 _ w (fun u kk => roundz n 0 hn (.inl rfl) x hv a1 c1 u (hT.kept kk) (s1.kept kk))
theorem times_walk (n1 : Bool) (a1 : Option Addr) (l1 c1 : Nat) (x1 : Int) (p : Int) (y m r : Nm) (w : World)
  (KI : Hid (∀ u,Kept w u → Calls Tryz.prog 188 #[.int .i64 p] u fun e w' => ∃ v,e = .returned v ∧ New u w' v y ∧ Kept u w'))
  (KM : Hid (∀ u v2,Kept w u → NumAt u v2 y → Calls Tryz.prog 165 #[.agg #[.bool n1,.slice a1 l1 c1,.int .i64 x1],v2] u fun e w' => ∃ v,e = .returned v ∧ New u w' v m ∧ Kept u w'))
  (KS : Hid (∀ u0 u v2,Kept w u → New u0 u v2 m → Calls Tryz.prog 187 #[v2,.int .i64 (-53)] u fun e w' => ∃ v,e = .returned v ∧ New u w' v r ∧ Kept u w')) :
  Calls Tryz.prog 106 #[.agg #[.bool n1,.slice a1 l1 c1,.int .i64 x1],.int .i64 p] w fun e w' => ∃ v,e = .returned v ∧ New w w' v r ∧ Kept w w':=by
 obtain ⟨X,hX⟩ : ∃ X,X = (w.alloc (.cells #[.bool n1,.slice a1 l1 c1,.int .i64 x1] 78)).alloc (.cells #[.bool false,.slice none 0 0,.int .i64 0] 78):=⟨_,rfl⟩
 have hK : Kept w X:=by rw [hX]; exact ((Kept.refl w).alloc _ _).alloc _ _
 have hXs : X.heap.size = w.heap.size + 2:=by rw [hX]; simp
 have hP0 : N3 X (w.heap.size) (.bool n1) (.slice a1 l1 c1) (.int .i64 x1):=by
  rw [hX]
  have:=((N3.new (w) (.bool n1) (.slice a1 l1 c1) (.int .i64 x1) 78).alloc #[.bool false,.slice none 0 0,.int .i64 0] 78)
  simpa using this
 have hP1 : N3 X (w.heap.size + 1) (.bool false) (.slice none 0 0) (.int .i64 0):=by
  rw [hX]
  have:=(N3.new (w.alloc (.cells #[.bool n1,.slice a1 l1 c1,.int .i64 x1] 78)) (.bool false) (.slice none 0 0) (.int .i64 0) 78)
  simpa using this
 obtain ⟨B0,hB0⟩ : ∃ B,B = w.heap.size:=⟨_,rfl⟩
 obtain ⟨B1,hB1⟩ : ∃ B,B = B0 + 1:=⟨_,rfl⟩
 rw [← hB0] at hP0
 rw [← hB0,← hB1] at hP1
 have oB : Hid (w.heap.size ≤ B0 ∧ B0 < X.heap.size ∧ w.heap.size ≤ B1 ∧ B1 < X.heap.size):=(show _ ∧ _ ∧ _ ∧ _ from by omega)
 have HS : Hid (∀ u,Kept X u → Kept X u ∧ u.cell? ⟨B0,0,none⟩ = some (.bool n1) ∧ u.cell? ⟨B0,1,none⟩ = some (.slice a1 l1 c1) ∧ u.cell? ⟨B0,2,none⟩ = some (.int .i64 x1)):=fun u k => ⟨k,(hP0.kept k).c0,(hP0.kept k).c1,(hP0.kept k).c2⟩
 have HR : Hid (∀ u,Kept X u → N3 u B1 (.bool false) (.slice none 0 0) (.int .i64 0)):=fun u k => hP1.kept k
 go_enter Tryz.func106,Tryz.ntmps106
 go_upto_region 1 with fail
 rw [← hX,← hB0,← hB1]
 clear hX hXs hB0 hB1
 refine wp_region_late [5] (fun u => Kept X u ∧ u.cell? ⟨B0,0,none⟩ = some (.bool n1) ∧ u.cell? ⟨B0,1,none⟩ = some (.slice a1 l1 c1) ∧ u.cell? ⟨B0,2,none⟩ = some (.int .i64 x1)) (by kernel_rfl) (HS.out _ (Kept.refl X).drew) (fun hHeld => ?_)
 refine tkD (i:=0) (v:=?_) rfl hHeld ?_
 (try simp only [Act.put,zA,zB,zC,zD,zE,zF])
 refine tkD (i:=1) (v:=?_) rfl hHeld ?_
 (try simp only [Act.put,zA,zB,zC,zD,zE,zF])
 refine wpAnyD_step (i:=2) (by kernel_rfl) rfl (fun K hK9 => ?_)
 go_simp
 go_wp2_with fail
 refine (KI.out _ (hK.trans hHeld.1)).mono ?_
 rintro e u1 ⟨v1,rfl,g1,k1⟩
 refine hK9.out _ _ (HS.out _ (hHeld.1.trans k1)) (fun hH1 => ?_)
 clear hK9 K
 (try simp only [Act.put,zA,zB,zC,zD,zE,zF])
 refine wpAnyD_step (i:=3) (by kernel_rfl) rfl (fun K hK9 => ?_)
 go_simp
 go_wp2_with fail
 refine (KM.out _ _ (hK.trans hH1.1) g1.numAt).mono ?_
 rintro e u2 ⟨v2,rfl,g2,k2⟩
 refine hK9.out _ _ (HS.out _ (hH1.1.trans k2)) (fun hH2 => ?_)
 clear hK9 K
 (try simp only [Act.put,zA,zB,zC,zD,zE,zF])
 refine wpAnyD_step (i:=4) (by kernel_rfl) rfl (fun K hK9 => ?_)
 go_simp
 go_wp2_with fail
 refine (KS.out _ _ _ (hK.trans hH2.1) g2).mono ?_
 rintro e u3 ⟨v3,rfl,g3,k3⟩
 refine hK9.out _ _ (HS.out _ (hH2.1.trans k3)) (fun hH3 => ?_)
 clear hK9 K
 (try simp only [Act.put,zA,zB,zC,zD,zE,zF])
 obtain ⟨vn,va,vl,vc,vx,rfl⟩:=g3.shape
 obtain ⟨f0,f1,f2,f3⟩:=HR.out _ hH3.1
 refine wpAnyD_late (i:=5) (by kernel_rfl) rfl rfl (fun K hK9 => ?_)
 go_simp
 refine hK9.out _ _ ?_
 clear hK9 K
 (try simp only [Act.put,zA,zB,zC,zD,zE,zF])
 refine wpAnyD_done (by kernel_rfl) ?_ _
 (try simp only [Act.put,zA,zB,zC,zD,zE,zF])
 go_wp2_with fail
 have:=res_done B1 oB.out.2.2.1 oB.out.2.2.2 hK (g3.from hH2.1) hH3.1 (.bool vn) (.slice va vl vc) (.int .i64 vx)
 exact bodyPost_ret (v:=.agg #[.bool vn,.slice va vl vc,.int .i64 vx]) (by simp [results,Tryz.results106,go_sem,f0,f1,f2]) rfl ⟨_,rfl,this.1,this.2⟩
theorem times_any {s X : Int} {x : Nm} (hx : Vz s X x) (p : Int) (h1 : -9223372036854775808 ≤ p) (h2 : p ≤ 9223372036854775807) (hs1 : -2000 ≤ s) (hs2 : s ≤ 0) (hp : (p * 2 ^ (-s).toNat).natAbs < 2 ^ expS) (hb : (X * p).natAbs < 2 ^ expS) (r : Nm) (hr : cfm (X * p) (s + -53) = some r) (v1 : Value) (w : World) (hT : Tab w) (hv : NumAt w v1 x) : Calls Tryz.prog 106 #[v1,.int .i64 p] w fun e w' => ∃ v,e = .returned v ∧ New w w' v r ∧ Kept w w':=by
 have hpb : p.natAbs < 2 ^ expS:=by
  refine Nat.lt_of_le_of_lt ?_ hp
  rw [Int.natAbs_mul]
  have : 1 ≤ ((2 : Int) ^ (-s).toNat).natAbs:=by
   rw [Int.natAbs_pow]
   exact Nat.one_le_two_pow
  exact Nat.le_mul_of_pos_right _ this
 obtain ⟨y,hy⟩:=vz_mk 0 p (by decide) (by decide) hpb
 have hy2:=hy.down (-s).toNat (t:=s) (by omega) (by omega) hs2 hp
 obtain ⟨m,hm⟩:=vz_mk s (X * p) (by omega) hs2 hb
 have hmul : mulN x y = some m:=by
  refine Vz.mul (by omega) hs2 hx hy2 rfl ?_
  rw [← Int.mul_assoc,cfm_shift,show s + s + ((-s).toNat : Int) = s by omega]
  exact hm.eq
 obtain ⟨a1,c1,rfl,s1⟩:=hv.form
 refine times_walk _ _ _ _ _ p y m r w (fun u k => sint_any p h1 h2 y hy.eq u (hT.kept k)) (fun u v2 k hv2 => smul_any x y m _ v2 u (hT.kept k) (hv.keptS k) hv2 hx.ok hy.ok hmul) (fun u0 u v2 k hN => sscale_any hm (-53) (by decide) (by decide) hr u0 v2 u (hT.kept k) hN)
end Go.Proofs.YtelbefihigkhjaaGreatDoor

namespace Go.Proofs.YtelbefihigkhjaaGreatDoor
open Go.ChangeShapes Go.WideShapes Go.ChangeAt Go.RowKit Ieee
set_option maxHeartbeats 16000000
set_option maxRecDepth 100000
set_option linter.unusedVariables false
set_option linter.unusedSimpArgs false
theorem cut_zero (neg : Bool) (m k d : Nat) (hm : m ≠ 0) (hd : d ≤ k) : Toward.zero.cut neg (m * 2 ^ k) d = m * 2 ^ (k - d):=by
 have hl:=log2_scale m k hm
 unfold Toward.cut
 simp only [Nat.one_shiftLeft]
 rw [hl,Nat.min_eq_left (by omega)]
 have e : m * 2 ^ k = m * 2 ^ (k - d) * 2 ^ d:=by rw [Nat.mul_assoc,← Nat.pow_add]; congr 2; omega
 rw [e,Nat.mul_div_cancel _ (Nat.two_pow_pos d)]
 simp
/-- a whole number below 2^53,told as a float,is told as an int again -/
theorem whole_int (m q K : Nat) (hK : K = 1074) (hm : m ≠ 0) (hm2 : m < 9007199254740992) (hq : q < FloatKind.f64.format.infRung) (hv : rungVal FloatKind.f64.format q = m * 2 ^ K) : floatToIntVal .f64 q .i64 = some (m : Int):=by
 have hsw : FloatKind.f64.format.infRung < FloatKind.f64.format.signWeight:=by decide +kernel
 have hr : rung FloatKind.f64.format q = q:=by unfold rung; exact Nat.mod_eq_of_lt (by omega)
 have hb : below FloatKind.f64.format q = false:=by
  unfold below
  rw [Nat.div_eq_of_lt (by omega)]
  rfl
 obtain ⟨m',i,h1,h2,h3,h4⟩:=read_num FloatKind.f64.format q (by rw [hr]; exact hq)
 rw [hr,hv] at h3
 rw [hb] at h1
 have hl : FloatKind.f64.format.leastPlace = -(K : Int):=by rw [hK]; exact least64
 rw [hl] at h2 h3
 have hcut : Toward.zero.cut false (m' <<< i.toNat) (-i).toNat = m:=by
  by_cases hi : 0 ≤ i
  ·obtain ⟨j,hj⟩ : ∃ j : Nat,i = (j : Int):=⟨i.toNat,by omega⟩
   subst hj
   have e : m' * 2 ^ j = m:=by
    have : m' * 2 ^ j * 2 ^ K = m * 2 ^ K:=by
     rw [Nat.mul_assoc,← Nat.pow_add,← h3]
     congr 2
     omega
    exact Nat.eq_of_mul_eq_mul_right (Nat.two_pow_pos K) this
   have h0 : (-(j : Int)).toNat = 0:=by omega
   rw [h0,Int.toNat_natCast,Nat.shiftLeft_eq,e]
   have:=cut_zero false m 0 0 hm (Nat.le_refl _)
   simpa using this
  ·obtain ⟨d,hd⟩ : ∃ d : Nat,i = -(d : Int):=⟨(-i).toNat,by omega⟩
   subst hd
   have e : m' = m * 2 ^ d:=by
    have h5 : (-(d : Int) - -(K : Int)).toNat = K - d:=by omega
    rw [h5] at h3
    have : m' * 2 ^ (K - d) = m * 2 ^ d * 2 ^ (K - d):=by
     rw [h3,Nat.mul_assoc,← Nat.pow_add]
     congr 2
     omega
    exact Nat.eq_of_mul_eq_mul_right (Nat.two_pow_pos _) this
   have h0 : (-(d : Int)).toNat = 0:=by omega
   have h1' : (- -(d : Int)).toNat = d:=by omega
   rw [h0,h1',Nat.shiftLeft_zero,e,cut_zero false m d d hm (Nat.le_refl _),Nat.sub_self]
   simp
 unfold floatToIntVal
 have : (FloatKind.f64.decode q).toInt .zero = some (m : Int):=by
  show (FloatKind.f64.format.read q).toInt .zero = _
  rw [h1]
  unfold Datum.toInt Datum.integral
  simp only [hcut]
  simp [signed]
 rw [this]
 have hmin : IntKind.i64.min = -9223372036854775808:=by decide
 have hmax : IntKind.i64.max = 9223372036854775807:=by decide
 simp only [hmin,hmax]
 rw [if_pos (by omega)]
theorem part_back (m : Nat) (hm2 : m < 9007199254740992) : ∃ r q : Nat, r < 9218868437227405312 ∧ FloatKind.f64.format.mul (floatOfInt .f64 (m : Int)) 4368491638549381120 = some r ∧ FloatKind.f64.format.mul r 4845873199050653696 = some q ∧ floatToIntVal .f64 q .i64 = some (m : Int) := by
  by_cases hm : m = 0
  · subst hm
    exact ⟨0, 0, by decide, by decide +kernel, by decide +kernel, by decide +kernel⟩
  · obtain ⟨K, hK⟩ : ∃ K : Nat, K = 1074 := ⟨_, rfl⟩
    obtain ⟨fb, hfb⟩ : ∃ fb : Nat, fb = 52 := ⟨_, rfl⟩
    have hsw : FloatKind.f64.format.infRung < FloatKind.f64.format.signWeight := by decide +kernel
    have hinf : 2 ^ (K + (fb + 1)) ≤ rungVal FloatKind.f64.format FloatKind.f64.format.infRung := by rw [rungVal_inf64]; exact Nat.pow_le_pow_right (by decide) (by rw [hK, hfb]; decide)
    obtain ⟨r, g1, g2, g3⟩ := frac_word FloatKind.f64.format m 4368491638549381120 (fb + 1) fb K (by rw [hfb]; decide +kernel) (by rw [hK]; exact least64) hm (by rw [hfb]; exact hm2) rfl (by omega) (by rw [hfb]; decide +kernel) hinf hsw
    have e0 : floatOfInt .f64 (m : Int) = FloatKind.f64.format.nearest false m 0 := by
      have : decide ((m : Int) < 0) = false := decide_eq_false (by omega)
      show FloatKind.f64.format.nearest (decide ((m : Int) < 0)) (m : Int).natAbs 0 = _
      rw [this, Int.natAbs_natCast]
    have hr : rung FloatKind.f64.format r = r := by unfold rung; exact Nat.mod_eq_of_lt (by omega)
    have hb : below FloatKind.f64.format r = false := by
      unfold below
      rw [Nat.div_eq_of_lt (by omega)]
      rfl
    obtain ⟨m', i, h1, h2, h3, h4⟩ := read_num FloatKind.f64.format r (by rw [hr]; exact g2)
    rw [hr, g3] at h3
    rw [hb] at h1
    have hl : FloatKind.f64.format.leastPlace = -(K : Int) := by rw [hK]; exact least64
    rw [hl] at h2 h3
    have hm' : m' ≠ 0 := by
      intro h0
      rw [h0, Nat.zero_mul] at h3
      exact absurd h3.symm (Nat.ne_of_gt (Nat.mul_pos (Nat.pos_of_ne_zero hm) (Nat.two_pow_pos _)))
    have hbin : FloatKind.f64.format.binade = 2 ^ fb := by rw [hfb]; decide +kernel
    have hfr : FloatKind.f64.format.fractionBits = fb := by rw [hfb]; decide +kernel
    have hml' : m'.log2 ≤ FloatKind.f64.format.fractionBits := by rw [hfr]; exact log2_lt m' fb hm' (by rw [Nat.pow_succ, Nat.mul_comm, ← hbin]; exact h4)
    have hval : m' * 2 ^ (i + ((fb + 1 : Nat) : Int) - FloatKind.f64.format.leastPlace).toNat = m * 2 ^ K := by
      have e1 : (i + ((fb + 1 : Nat) : Int) - FloatKind.f64.format.leastPlace).toNat = (i - -(K : Int)).toNat + (fb + 1) := by rw [hl]; omega
      rw [e1, Nat.pow_add, ← Nat.mul_assoc, h3, Nat.mul_assoc, ← Nat.pow_add]
      congr 2
      omega
    have hmK : m * 2 ^ K < rungVal FloatKind.f64.format FloatKind.f64.format.infRung := by
      refine Nat.lt_of_lt_of_le ?_ hinf
      rw [Nat.add_comm, Nat.pow_add]
      exact Nat.mul_lt_mul_of_pos_right (by rw [hfb]; exact hm2) (Nat.two_pow_pos _)
    obtain ⟨q, k1, k2, k3⟩ := nearest_exact FloatKind.f64.format false m' (i + ((fb + 1 : Nat) : Int)) hm' hml' (by rw [hl]; omega) (by rw [hval]; exact hmK)
    rw [hval] at k3
    have hw : FloatKind.f64.format.word false q = q := by unfold Format.word; simp
    rw [hw] at k1
    refine ⟨r, q, by have : FloatKind.f64.format.infRung = 9218868437227405312 := by decide +kernel
                     omega, by rw [e0]; exact g1, ?_, whole_int m q K hK hm hm2 k2 k3⟩
    have hc : FloatKind.f64.format.read 4845873199050653696 = .number false (2 ^ fb) 1 := by rw [hfb]; decide +kernel
    unfold Format.mul
    rw [h1, hc]
    show some (FloatKind.f64.format.nearest (false ^^ false) (m' * 2 ^ fb) (i + 1)) = some q
    rw [show (false ^^ false) = false from rfl, nearest_scale FloatKind.f64.format false m' fb _ hm' hml' (by rw [hl]; omega), show i + 1 + (fb : Int) = i + ((fb + 1 : Nat) : Int) by omega, k1]
end Go.Proofs.YtelbefihigkhjaaGreatDoor

namespace Go.Proofs.YtelbefihigkhjaaGreatDoor
open Go.ChangeShapes Go.WideShapes Go.ChangeAt Go.RowKit Ieee
set_option maxHeartbeats 16000000
set_option maxRecDepth 100000
set_option linter.unusedVariables false
set_option linter.unusedSimpArgs false
theorem ofr_64 (r : Nat) (h : r < 9218868437227405312) : of64 r = (r : Int):=by
 have h2 : rung FloatKind.f64.format r = r:=by unfold rung; rw [sw64]; exact Nat.mod_eq_of_lt (by omega)
 unfold of64
 rw [self_64,h2,inf64,decide_eq_false (by omega),if_neg (by decide)]
 unfold wrap64
 omega
end Go.Proofs.YtelbefihigkhjaaGreatDoor

namespace Go.Proofs.YtelbefihigkhjaaGreatDoor
set_option maxHeartbeats 16000000
set_option maxRecDepth 100000
set_option linter.unusedVariables false
def xsh (s z : Nat) : Nat:=z ^^^ z / 2 ^ s
def mixn (z : Nat) : Nat:=xsh 31 (xsh 27 (xsh 30 z * 13787848793156543929 % 18446744073709551616) * 10723151780598845931 % 18446744073709551616)
theorem xsh_lt (s z : Nat) (h : z < 18446744073709551616) : xsh s z < 18446744073709551616:=by
 have : z / 2 ^ s < 2 ^ 64:=Nat.lt_of_le_of_lt (Nat.div_le_self _ _) (by simpa using h)
 have:=Nat.xor_lt_two_pow (n:=64) (x:=z) (y:=z / 2 ^ s) (by simpa using h) this
 simpa [xsh] using this
theorem mixn_lt (z : Nat) : mixn z < 18446744073709551616:=xsh_lt _ _ (Nat.mod_lt _ (by decide))
/-- An int's word. -/
def un (x : Int) : Nat:=(x % 18446744073709551616).toNat
theorem un_lt (x : Int) : un x < 18446744073709551616:=by unfold un; omega
theorem un_cast (x : Int) : (un x : Int) = x % 18446744073709551616:=by unfold un; omega
def keyn (s t : Int) : Nat:=mixn (un s ^^^ mixn ((un t + 7146057691288625177) % 18446744073709551616))
def wn (s t a : Int) : Nat:=mixn ((keyn s t + (un a + 1) % 18446744073709551616 * 11400714819323198485 % 18446744073709551616) % 18446744073709551616)
theorem wn_lt (s t a : Int) : wn s t a < 18446744073709551616:=mixn_lt _
theorem xor_lt64 {a b : Nat} (ha : a < 18446744073709551616) (hb : b < 18446744073709551616) : a ^^^ b < 18446744073709551616:=by
 have:=Nat.xor_lt_two_pow (n:=64) (x:=a) (y:=b) (by simpa using ha) (by simpa using hb)
 simpa using this
theorem least (P : Nat → Prop) (n : Nat) (h : P n) : ∃ j,(∀ i,i < j → ¬ P i) ∧ P j:=by
 induction n using Nat.strongRecOn with
 | ind n ih =>
  by_cases hx : ∃ i,i < n ∧ P i
  ·obtain ⟨i,hi,hP⟩:=hx; exact ih i hi hP
  ·exact ⟨n,fun i hi hp => hx ⟨i,hi,hp⟩,h⟩
end Go.Proofs.YtelbefihigkhjaaGreatDoor
