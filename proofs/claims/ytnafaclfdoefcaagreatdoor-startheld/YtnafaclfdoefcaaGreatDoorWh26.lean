/- Package sure,by values: Int,Scale,Sign,Round; package start: times. The walks of the document's own Of,cut,Valid,Class,Parts: what each call gives,for every int and every width. The walk of the document's own shifted: two loops. The walks of the document's own Join,way by way; and the ways of package bits' Join that refuse. A whole number times a power of two,as a float: exactly. The document's own Join of it. -/
import Derived.Test.YtnafaclfdoefcaaGreatDoorWh25
import Derived.Test.YtnafaclfdoefcaaGreatDoorWh04
import Derived.Test.YtnafaclfdoefcaaGreatDoorWh05
import Derived.Test.YtnafaclfdoefcaaGreatDoorWh20
namespace Go.Proofs.YtnafaclfdoefcaaGreatDoor
open Go.ChangeShapes Go.WideShapes Go.ChangeAt Go.RowKit
set_option linter.unusedVariables false
set_option linter.unusedSimpArgs false
set_option maxHeartbeats 16000000
set_option maxRecDepth 100000
theorem shl_lt (z : Int) (k e : Nat) (h : z.natAbs < 2 ^ k) : (z * 2 ^ e).natAbs < 2 ^ (k + e):=by
 rw [Int.natAbs_mul,Int.natAbs_pow,Nat.pow_add]
 exact Nat.mul_lt_mul_of_pos_right h (Nat.two_pow_pos _)
theorem sint_any (p : Int) (h1 : -9223372036854775808 ≤ p) (h2 : p ≤ 9223372036854775807) (y : Nm) (hy : cfm p 0 = some y) (w : World) (hT : Tab w) : Calls Tryz.prog 213 #[.int .i64 p] w fun e w' => ∃ v,e = .returned v ∧ New w w' v y ∧ Kept w w':=by
 refine sint_walk p y w (fun u k => ?_)
 by_cases h0 : 0 ≤ p
 ·refine (int_pos p h0 h2 y hy u (hT.kept k)).mono ?_
  rintro e w' ⟨⟨v,rfl,hN⟩,kk⟩
  exact ⟨v,rfl,hN,kk⟩
 ·refine (int_neg p h1 (by omega) y hy u (hT.kept k)).mono ?_
  rintro e w' ⟨⟨v,rfl,hN⟩,kk⟩
  exact ⟨v,rfl,hN,kk⟩
theorem New.formS {w0 w : World} {v : Value} {x : Nm} (h : New w0 w v x) : ∃ ao c,v = .agg #[.bool x.neg,.slice ao x.mag.length c,.int .i64 x.exp] ∧ Sl w (.slice ao x.mag.length c) x.mag ∧ (ao = none → c = 0):=by
 rcases h with ⟨rfl,rfl⟩ | ⟨g,cap,rfl,hg,ho,hne⟩
 ·exact ⟨none,0,rfl,⟨none,0,rfl,Nat.le_refl _,by simp [maxLen],fun h => absurd rfl h⟩,fun _ => rfl⟩
 ·exact ⟨_,_,rfl,ho.sl,fun h => by cases h⟩
theorem Vz.scale {s Z : Int} {x r : Nm} (h : Vz s Z x) (k : Int) (hr : cfm Z (s + k) = some r) : frm x.neg (nv x.mag) (x.exp + k) = some r:=by
 rw [frm_cfm,← hr]
 by_cases hne : x.mag = []
 ·have hz : Z = 0:=by
   rw [← h.val]
   unfold vz
   rw [hne]
   cases x.neg <;> simp [sg,nv]
  rw [hz,hne,show sg x.neg ((nv [] : Nat) : Int) = 0 by cases x.neg <;> rfl,cfm_zero,cfm_zero]
 ·have hl:=h.lies.low hne
  have e : Z = sg x.neg (nv x.mag : Int) * 2 ^ (x.exp - s).toNat:=by
   rw [← h.val]
   unfold vz
   cases x.neg <;> simp [sg,Int.neg_mul]
  rw [e,cfm_shift,show s + k + ((x.exp - s).toNat : Int) = x.exp + k by omega]
theorem vld_exp (x : Nm) (h : vld x = true) : -1048576 ≤ x.exp ∧ x.exp ≤ 1048576:=by
 obtain ⟨n,L,e⟩:=x
 by_cases hL : L = []
 ·subst hL
  obtain ⟨-,rfl⟩:=vld_nil _ _ h
  exact ⟨by dsimp only; omega,by dsimp only; omega⟩
 ·obtain ⟨p1,p2,p3,p4,p5,p6⟩:=vld_some n L e hL h
  exact ⟨p5,p6⟩
theorem sscale_any {s Z : Int} {x r : Nm} (h : Vz s Z x) (k : Int) (hk1 : -1000 ≤ k) (hk2 : k ≤ 1000) (hr : cfm Z (s + k) = some r) (w0 : World) (v1 : Value) (w : World) (hT : Tab w) (h1 : New w0 w v1 x) : Calls Tryz.prog 212 #[v1,.int .i64 k] w fun e w' => ∃ v,e = .returned v ∧ New w w' v r ∧ Kept w w':=by
 obtain ⟨a1,c1,rfl,s1,hcap⟩:=h1.formS
 have hv:=h.ok
 obtain ⟨hlen,hDg⟩:=vld_dg x.neg x.mag x.exp hv
 have hx:=vld_exp x hv
 have e1 : wrap64 (x.exp + k) = x.exp + k:=by unfold wrap64; omega
 exact sscale_walk _ _ _ _ _ k r w (fun u kk => scale_ok x.neg x.mag hDg.rg (by omega) a1 c1 hcap x.exp k (x.exp + k) (by rw [wrap_i64]; omega) e1 hv r (h.scale k hr) u (s1.kept kk) (hT.kept kk))
theorem sround_any (n : Int) (hn : n = 64 ∨ n = 32) (x : Nm) (hv : vld x = true) (v1 : Value) (w : World) (hT : Tab w) (h1 : NumAt w v1 x) : Calls Tryz.prog 114 #[v1,.int .i64 n] w fun e w' => e = .returned (.int .i64 (rzN n 0 x)) ∧ Kept w w':=by
 obtain ⟨a1,c1,rfl,s1⟩:=h1.form
 exact sround_walk _ _ _ _ _ n _ 0 _ w (fun u kk => roundz n 0 hn (.inl rfl) x hv a1 c1 u (hT.kept kk) (s1.kept kk))
theorem times_walk (n1 : Bool) (a1 : Option Addr) (l1 c1 : Nat) (x1 : Int) (p : Int) (y m r : Nm) (w : World)
  (KI : Hid (∀ u,Kept w u → Calls Tryz.prog 213 #[.int .i64 p] u fun e w' => ∃ v,e = .returned v ∧ New u w' v y ∧ Kept u w'))
  (KM : Hid (∀ u v2,Kept w u → NumAt u v2 y → Calls Tryz.prog 171 #[.agg #[.bool n1,.slice a1 l1 c1,.int .i64 x1],v2] u fun e w' => ∃ v,e = .returned v ∧ New u w' v m ∧ Kept u w'))
  (KS : Hid (∀ u0 u v2,Kept w u → New u0 u v2 m → Calls Tryz.prog 212 #[v2,.int .i64 (-53)] u fun e w' => ∃ v,e = .returned v ∧ New u w' v r ∧ Kept u w')) :
  Calls Tryz.prog 120 #[.agg #[.bool n1,.slice a1 l1 c1,.int .i64 x1],.int .i64 p] w fun e w' => ∃ v,e = .returned v ∧ New w w' v r ∧ Kept w w':=by
 obtain ⟨X,hX⟩ : ∃ X,X = (w.alloc (.cells #[.bool n1,.slice a1 l1 c1,.int .i64 x1] 88)).alloc (.cells #[.bool false,.slice none 0 0,.int .i64 0] 88):=⟨_,rfl⟩
 have hK : Kept w X:=by rw [hX]; exact ((Kept.refl w).alloc _ _).alloc _ _
 have hXs : X.heap.size = w.heap.size + 2:=by rw [hX]; simp
 have hP0 : N3 X (w.heap.size) (.bool n1) (.slice a1 l1 c1) (.int .i64 x1):=by
  rw [hX]
  have:=((N3.new (w) (.bool n1) (.slice a1 l1 c1) (.int .i64 x1) 88).alloc #[.bool false,.slice none 0 0,.int .i64 0] 88)
  simpa using this
 have hP1 : N3 X (w.heap.size + 1) (.bool false) (.slice none 0 0) (.int .i64 0):=by
  rw [hX]
  have:=(N3.new (w.alloc (.cells #[.bool n1,.slice a1 l1 c1,.int .i64 x1] 88)) (.bool false) (.slice none 0 0) (.int .i64 0) 88)
  simpa using this
 obtain ⟨B0,hB0⟩ : ∃ B,B = w.heap.size:=⟨_,rfl⟩
 obtain ⟨B1,hB1⟩ : ∃ B,B = B0 + 1:=⟨_,rfl⟩
 rw [← hB0] at hP0
 rw [← hB0,← hB1] at hP1
 have oB : Hid (w.heap.size ≤ B0 ∧ B0 < X.heap.size ∧ w.heap.size ≤ B1 ∧ B1 < X.heap.size):=(show _ ∧ _ ∧ _ ∧ _ from by omega)
 have HS : Hid (∀ u,Kept X u → Kept X u ∧ u.cell? ⟨B0,0,none⟩ = some (.bool n1) ∧ u.cell? ⟨B0,1,none⟩ = some (.slice a1 l1 c1) ∧ u.cell? ⟨B0,2,none⟩ = some (.int .i64 x1)):=fun u k => ⟨k,(hP0.kept k).c0,(hP0.kept k).c1,(hP0.kept k).c2⟩
 have HR : Hid (∀ u,Kept X u → N3 u B1 (.bool false) (.slice none 0 0) (.int .i64 0)):=fun u k => hP1.kept k
 go_enter Tryz.func120,Tryz.ntmps120
 go_upto_region 1 with fail
 rw [← hX,← hB0,← hB1]
 clear hX hXs hB0 hB1
 refine wp_region_late [5] (fun u => Kept X u ∧ u.cell? ⟨B0,0,none⟩ = some (.bool n1) ∧ u.cell? ⟨B0,1,none⟩ = some (.slice a1 l1 c1) ∧ u.cell? ⟨B0,2,none⟩ = some (.int .i64 x1)) (by kernel_rfl) (HS.out _ (Kept.refl X).drew) (fun hHeld => ?_)
 refine tkD (i:=0) (v:=?_) rfl hHeld ?_
 (try simp only [Act.put,zA,zB,zC,zD,zE,zF])
 refine tkD (i:=1) (v:=?_) rfl hHeld ?_
 (try simp only [Act.put,zA,zB,zC,zD,zE,zF])
 refine wpAnyD_step (i:=2) (by kernel_rfl) rfl (fun K hK9 => ?_)
 go_simp
 go_wp2_with fail
 refine (KI.out _ (hK.trans hHeld.1)).mono ?_
 rintro e u1 ⟨v1,rfl,g1,k1⟩
 refine hK9.out _ _ (HS.out _ (hHeld.1.trans k1)) (fun hH1 => ?_)
 clear hK9 K
 (try simp only [Act.put,zA,zB,zC,zD,zE,zF])
 refine wpAnyD_step (i:=3) (by kernel_rfl) rfl (fun K hK9 => ?_)
 go_simp
 go_wp2_with fail
 refine (KM.out _ _ (hK.trans hH1.1) g1.numAt).mono ?_
 rintro e u2 ⟨v2,rfl,g2,k2⟩
 refine hK9.out _ _ (HS.out _ (hH1.1.trans k2)) (fun hH2 => ?_)
 clear hK9 K
 (try simp only [Act.put,zA,zB,zC,zD,zE,zF])
 refine wpAnyD_step (i:=4) (by kernel_rfl) rfl (fun K hK9 => ?_)
 go_simp
 go_wp2_with fail
 refine (KS.out _ _ _ (hK.trans hH2.1) g2).mono ?_
 rintro e u3 ⟨v3,rfl,g3,k3⟩
 refine hK9.out _ _ (HS.out _ (hH2.1.trans k3)) (fun hH3 => ?_)
 clear hK9 K
 (try simp only [Act.put,zA,zB,zC,zD,zE,zF])
 obtain ⟨vn,va,vl,vc,vx,rfl⟩:=g3.shape
 obtain ⟨f0,f1,f2,f3⟩:=HR.out _ hH3.1
 refine wpAnyD_late (i:=5) (by kernel_rfl) rfl rfl (fun K hK9 => ?_)
 go_simp
 refine hK9.out _ _ ?_
 clear hK9 K
 (try simp only [Act.put,zA,zB,zC,zD,zE,zF])
 refine wpAnyD_done (by kernel_rfl) ?_ _
 (try simp only [Act.put,zA,zB,zC,zD,zE,zF])
 go_wp2_with fail
 have:=res_done B1 oB.out.2.2.1 oB.out.2.2.2 hK (g3.from hH2.1) hH3.1 (.bool vn) (.slice va vl vc) (.int .i64 vx)
 exact bodyPost_ret (v:=.agg #[.bool vn,.slice va vl vc,.int .i64 vx]) (by simp [results,Tryz.results120,go_sem,f0,f1,f2]) rfl ⟨_,rfl,this.1,this.2⟩
theorem times_any {s X : Int} {x : Nm} (hx : Vz s X x) (p : Int) (h1 : -9223372036854775808 ≤ p) (h2 : p ≤ 9223372036854775807) (hs1 : -2000 ≤ s) (hs2 : s ≤ 0) (hp : (p * 2 ^ (-s).toNat).natAbs < 2 ^ expS) (hb : (X * p).natAbs < 2 ^ expS) (r : Nm) (hr : cfm (X * p) (s + -53) = some r) (v1 : Value) (w : World) (hT : Tab w) (hv : NumAt w v1 x) : Calls Tryz.prog 120 #[v1,.int .i64 p] w fun e w' => ∃ v,e = .returned v ∧ New w w' v r ∧ Kept w w':=by
 have hpb : p.natAbs < 2 ^ expS:=by
  refine Nat.lt_of_le_of_lt ?_ hp
  rw [Int.natAbs_mul]
  have : 1 ≤ ((2 : Int) ^ (-s).toNat).natAbs:=by
   rw [Int.natAbs_pow]
   exact Nat.one_le_two_pow
  exact Nat.le_mul_of_pos_right _ this
 obtain ⟨y,hy⟩:=vz_mk 0 p (by decide) (by decide) hpb
 have hy2:=hy.down (-s).toNat (t:=s) (by omega) (by omega) hs2 hp
 obtain ⟨m,hm⟩:=vz_mk s (X * p) (by omega) hs2 hb
 have hmul : mulN x y = some m:=by
  refine Vz.mul (by omega) hs2 hx hy2 rfl ?_
  rw [← Int.mul_assoc,cfm_shift,show s + s + ((-s).toNat : Int) = s by omega]
  exact hm.eq
 obtain ⟨a1,c1,rfl,s1⟩:=hv.form
 refine times_walk _ _ _ _ _ p y m r w (fun u k => sint_any p h1 h2 y hy.eq u (hT.kept k)) (fun u v2 k hv2 => smul_any x y m _ v2 u (hT.kept k) (hv.keptS k) hv2 hx.ok hy.ok hmul) (fun u0 u v2 k hN => sscale_any hm (-53) (by decide) (by decide) hr u0 v2 u (hT.kept k) hN)
/-! ### One contract a width,for every pattern -/
end Go.Proofs.YtnafaclfdoefcaaGreatDoor
namespace Go.Proofs.YtnafaclfdoefcaaGreatDoor
open Go.ChangeShapes Go.WideShapes Go.ChangeAt Go.RowKit Ieee
set_option linter.unusedVariables false
set_option linter.unusedSimpArgs false
set_option maxHeartbeats 16000000
set_option maxRecDepth 100000
theorem log2_scale (m k : Nat) (hm : m ≠ 0) : (m * 2 ^ k).log2 = m.log2 + k:=by
 have hp : 0 < 2 ^ k:=Nat.two_pow_pos k
 rw [Nat.log2_eq_iff (Nat.ne_of_gt (Nat.mul_pos (Nat.pos_of_ne_zero hm) hp))]
 have l1 : 2 ^ m.log2 ≤ m:=Nat.log2_self_le hm
 have l2 : m < 2 ^ (m.log2 + 1):=Nat.lt_log2_self
 constructor
 ·rw [Nat.pow_add]; exact Nat.mul_le_mul_right _ l1
 ·rw [show m.log2 + k + 1 = (m.log2 + 1) + k by omega,Nat.pow_add]; exact Nat.mul_lt_mul_of_pos_right l2 hp
theorem cut_even (neg : Bool) (m k d : Nat) (hm : m ≠ 0) (hd : d ≤ k) : Toward.even.cut neg (m * 2 ^ k) d = m * 2 ^ (k - d):=by
 have hn : (m * 2 ^ k).log2 = m.log2 + k:=log2_scale m k hm
 have hmin : min d ((m * 2 ^ k).log2 + 2) = d:=by rw [hn]; omega
 have hpd : 0 < 2 ^ d:=Nat.two_pow_pos d
 have hs : m * 2 ^ k = m * 2 ^ (k - d) * 2 ^ d:=by rw [Nat.mul_assoc,← Nat.pow_add]; congr 2; omega
 unfold Toward.cut
 simp only [hmin,Nat.shiftLeft_eq,Nat.one_mul]
 rw [hs,Nat.mul_div_cancel _ hpd,Nat.mul_mod_left]
 have h1 : ¬ 2 ^ d < 2 * 0:=by omega
 have h2 : ¬ 2 ^ d = 2 * 0:=by omega
 simp [h1,h2]
theorem nearest_scale (f : Format) (s : Bool) (m k : Nat) (p : Int) (hm : m ≠ 0) (hl : m.log2 ≤ f.fractionBits) (hp : f.leastPlace ≤ p + k) : f.nearest s (m * 2 ^ k) p = f.nearest s m (p + k):=by
 have hp2 : 0 < 2 ^ k:=Nat.two_pow_pos k
 have hmk : m * 2 ^ k ≠ 0:=Nat.ne_of_gt (Nat.mul_pos (Nat.pos_of_ne_zero hm) hp2)
 unfold Format.nearest
 rw [if_neg hm,if_neg hmk]
 simp only
 rw [log2_scale m k hm]
 obtain ⟨last,hlast⟩ : ∃ last,last = max (p + (k : Int) + (m.log2 : Int) - (f.fractionBits : Int)) f.leastPlace:=⟨_,rfl⟩
 rw [show p + ((m.log2 + k : Nat) : Int) - (f.fractionBits : Int) = p + (k : Int) + (m.log2 : Int) - (f.fractionBits : Int) by omega,← hlast]
 have hle : last ≤ p + k:=by omega
 rw [show (last - (p + (k : Int))).toNat = 0 by omega,cut_none]
 congr 3
 by_cases h : last ≤ p
 ·rw [show (last - p).toNat = 0 by omega,cut_none,Nat.shiftLeft_eq,Nat.shiftLeft_eq,Nat.mul_assoc,← Nat.pow_add]
  congr 2; omega
 ·rw [show (p - last).toNat = 0 by omega,Nat.shiftLeft_zero,cut_even s m k _ hm (by omega),Nat.shiftLeft_eq]
  congr 2; omega
theorem log2_lt (m n : Nat) (hm : m ≠ 0) (h : m < 2 ^ (n + 1)) : m.log2 ≤ n:=by
 have l1 : 2 ^ m.log2 ≤ m:=Nat.log2_self_le hm
 have : 2 ^ m.log2 < 2 ^ (n + 1):=Nat.lt_of_le_of_lt l1 h
 have:=(Nat.pow_lt_pow_iff_right (by decide : 1 < 2)).1 this
 omega
/-- m times 2^-e,exactly: its rung. -/
theorem frac_word (f : Format) (m c e fb K : Nat) (hfb : f.fractionBits = fb) (hK : f.leastPlace = -(K : Int)) (hm : m ≠ 0) (hm2 : m < 2 ^ e) (he : e = fb + 1) (hKe : e + e ≤ K)
  (hc : f.read c = .number false (2 ^ fb) (-((e + fb : Nat) : Int))) (hinf : 2 ^ (K + e) ≤ rungVal f f.infRung) (hsw : f.infRung < f.signWeight) :
  ∃ r,f.mul (f.nearest false m 0) c = some r ∧ r < f.infRung ∧ rungVal f r = m * 2 ^ (K - e):=by
 have hbin : f.binade = 2 ^ fb:=by unfold Format.binade; rw [hfb]
 have hK0 : (0 - f.leastPlace).toNat = K:=by omega
 have hml : m.log2 ≤ f.fractionBits:=by rw [hfb]; exact log2_lt m fb hm (by rw [← he]; exact hm2)
 have hmK : m * 2 ^ K < rungVal f f.infRung:=Nat.lt_of_lt_of_le (by rw [Nat.add_comm,Nat.pow_add]; exact Nat.mul_lt_mul_of_pos_right hm2 (Nat.two_pow_pos _)) hinf
 obtain ⟨r1,h1,h2,h3⟩:=nearest_exact f false m 0 hm hml (by omega) (by rw [hK0]; exact hmK)
 rw [hK0] at h3
 have hr1 : rung f (f.word false r1) = r1:=rung_word f false r1 (by omega)
 obtain ⟨m',i,h4,h5,h6,h7⟩:=read_num f (f.word false r1) (by rw [hr1]; exact h2)
 rw [below_word f false r1 (by omega)] at h4
 rw [hr1,h3] at h6
 obtain ⟨I,hI⟩ : ∃ I : Nat,(i - f.leastPlace).toNat = I:=⟨_,rfl⟩
 rw [hI] at h6
 have hm' : m' ≠ 0:=by
  intro h0
  rw [h0,Nat.zero_mul] at h6
  exact absurd h6.symm (Nat.ne_of_gt (Nat.mul_pos (Nat.pos_of_ne_zero hm) (Nat.two_pow_pos K)))
 have h7' : m' < 2 ^ e:=by rw [he,Nat.pow_succ,Nat.mul_comm,← hbin]; exact h7
 -- the last digit's place
 have hIK : K < I + e:=by
  apply (Nat.pow_lt_pow_iff_right (by decide : 1 < 2)).1
  have a1 : 2 ^ K ≤ m * 2 ^ K:=Nat.le_mul_of_pos_left _ (Nat.pos_of_ne_zero hm)
  have a2 : m' * 2 ^ I < 2 ^ e * 2 ^ I:=Nat.mul_lt_mul_of_pos_right h7' (Nat.two_pow_pos _)
  rw [Nat.add_comm I e,Nat.pow_add]
  omega
 have hml' : m'.log2 ≤ f.fractionBits:=by rw [hfb]; exact log2_lt m' fb hm' (by rw [← he]; exact h7')
 have hiI : i = (I : Int) - K:=by omega
 have hval : m' * 2 ^ (I - e) = m * 2 ^ (K - e):=by
  have e1 : m' * 2 ^ I = m' * 2 ^ (I - e) * 2 ^ e:=by rw [Nat.mul_assoc,← Nat.pow_add]; congr 2; omega
  have e2 : m * 2 ^ K = m * 2 ^ (K - e) * 2 ^ e:=by rw [Nat.mul_assoc,← Nat.pow_add]; congr 2; omega
  rw [e1,e2] at h6
  exact Nat.eq_of_mul_eq_mul_right (Nat.two_pow_pos e) h6
 have hpl : (i - (e : Int) - f.leastPlace).toNat = I - e:=by omega
 obtain ⟨r2,g1,g2,g3⟩:=nearest_exact f false m' (i - (e : Int)) hm' hml' (by omega) (by
  rw [hpl,hval]
  refine Nat.lt_of_le_of_lt ?_ hmK
  exact Nat.mul_le_mul_left _ (Nat.pow_le_pow_right (by decide) (by omega)))
 refine ⟨r2,?_,g2,by rw [g3,hpl,hval]⟩
 unfold Format.mul
 rw [h1,h4,hc]
 show some (f.nearest (false ^^ false) (m' * 2 ^ fb) (i + -((e + fb : Nat) : Int))) = some r2
 rw [show (false ^^ false) = false from rfl,nearest_scale f false m' fb _ hm' hml' (by omega),show i + -((e + fb : Nat) : Int) + (fb : Int) = i - (e : Int) by omega,g1]
 rfl
end Go.Proofs.YtnafaclfdoefcaaGreatDoor
