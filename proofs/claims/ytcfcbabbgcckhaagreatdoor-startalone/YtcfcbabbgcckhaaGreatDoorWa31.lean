/- Package sure,by values: Int,Scale,Sign,Round; package start: times. The walks of the document's own Of,cut,Valid,Class,Parts: what each call gives,for every int and every width. The walk of the document's own shifted: two loops. The walks of the document's own Join,way by way; and the ways of package bits' Join that refuse. -/
import Derived.Test.YtcfcbabbgcckhaaGreatDoorWa29
import Derived.Test.YtcfcbabbgcckhaaGreatDoorWa30
import Derived.Test.YtcfcbabbgcckhaaGreatDoorWa05
import Derived.Test.YtcfcbabbgcckhaaGreatDoorWa06
namespace Go.Proofs.YtcfcbabbgcckhaaGreatDoor
open Go.ChangeShapes Go.WideShapes Go.ChangeAt Go.RowKit
set_option maxHeartbeats 16000000
set_option maxRecDepth 100000
set_option linter.unusedVariables false
set_option linter.unusedSimpArgs false
theorem sint_any (p : Int) (h1 : -9223372036854775808 ≤ p) (h2 : p ≤ 9223372036854775807) (y : Nm) (hy : cfm p 0 = some y) (w : World) (hT : Tab w) : Calls Tryz.prog 153 #[.int .i64 p] w fun e w' => ∃ v,e = .returned v ∧ New w w' v y ∧ Kept w w':=by
 refine sint_walk p y w (fun u k => ?_)
 by_cases h0 : 0 ≤ p
 ·refine (int_pos p h0 h2 y hy u (hT.kept k)).mono ?_
  rintro e w' ⟨⟨v,rfl,hN⟩,kk⟩
  exact ⟨v,rfl,hN,kk⟩
 ·refine (int_neg p h1 (by omega) y hy u (hT.kept k)).mono ?_
  rintro e w' ⟨⟨v,rfl,hN⟩,kk⟩
  exact ⟨v,rfl,hN,kk⟩
theorem New.formS {w0 w : World} {v : Value} {x : Nm} (h : New w0 w v x) : ∃ ao c,v = .agg #[.bool x.neg,.slice ao x.mag.length c,.int .i64 x.exp] ∧ Sl w (.slice ao x.mag.length c) x.mag ∧ (ao = none → c = 0):=by
 rcases h with ⟨rfl,rfl⟩ | ⟨g,cap,rfl,hg,ho,hne⟩
 ·exact ⟨none,0,rfl,⟨none,0,rfl,Nat.le_refl _,by simp [maxLen],fun h => absurd rfl h⟩,fun _ => rfl⟩
 ·exact ⟨_,_,rfl,ho.sl,fun h => by cases h⟩
theorem Vz.scale {s Z : Int} {x r : Nm} (h : Vz s Z x) (k : Int) (hr : cfm Z (s + k) = some r) : frm x.neg (nv x.mag) (x.exp + k) = some r:=by
 rw [frm_cfm,← hr]
 by_cases hne : x.mag = []
 ·have hz : Z = 0:=by
   rw [← h.val]
   unfold vz
   rw [hne]
   cases x.neg <;> simp [sg,nv]
  rw [hz,hne,show sg x.neg ((nv [] : Nat) : Int) = 0 by cases x.neg <;> rfl,cfm_zero,cfm_zero]
 ·have hl:=h.lies.low hne
  have e : Z = sg x.neg (nv x.mag : Int) * 2 ^ (x.exp - s).toNat:=by
   rw [← h.val]
   unfold vz
   cases x.neg <;> simp [sg,Int.neg_mul]
  rw [e,cfm_shift,show s + k + ((x.exp - s).toNat : Int) = x.exp + k by omega]
theorem vld_exp (x : Nm) (h : vld x = true) : -1048576 ≤ x.exp ∧ x.exp ≤ 1048576:=by
 obtain ⟨n,L,e⟩:=x
 by_cases hL : L = []
 ·subst hL
  obtain ⟨-,rfl⟩:=vld_nil _ _ h
  exact ⟨by dsimp only; omega,by dsimp only; omega⟩
 ·obtain ⟨p1,p2,p3,p4,p5,p6⟩:=vld_some n L e hL h
  exact ⟨p5,p6⟩
theorem sscale_any {s Z : Int} {x r : Nm} (h : Vz s Z x) (k : Int) (hk1 : -1000 ≤ k) (hk2 : k ≤ 1000) (hr : cfm Z (s + k) = some r) (w0 : World) (v1 : Value) (w : World) (hT : Tab w) (h1 : New w0 w v1 x) : Calls Tryz.prog 151 #[v1,.int .i64 k] w fun e w' => ∃ v,e = .returned v ∧ New w w' v r ∧ Kept w w':=by
 obtain ⟨a1,c1,rfl,s1,hcap⟩:=h1.formS
 have hv:=h.ok
 obtain ⟨hlen,hDg⟩:=vld_dg x.neg x.mag x.exp hv
 have hx:=vld_exp x hv
 have e1 : wrap64 (x.exp + k) = x.exp + k:=by unfold wrap64; omega
 exact sscale_walk _ _ _ _ _ k r w (fun u kk => scale_ok x.neg x.mag hDg.rg (by omega) a1 c1 hcap x.exp k (x.exp + k) (by rw [wrap_i64]; omega) e1 hv r (h.scale k hr) u (s1.kept kk) (hT.kept kk))
theorem ssign_any {s Z : Int} {x : Nm} (h : Vz s Z x) (v1 : Value) (w : World) (h1 : NumAt w v1 x) : Calls Tryz.prog 197 #[v1] w fun e w' => e = .returned (.int .i64 (if Z = 0 then 0 else if Z < 0 then -1 else 1)) ∧ Kept w w':=by
 obtain ⟨a1,c1,rfl,s1⟩:=h1.form
 have hv:=h.ok
 obtain ⟨hlen,hDg⟩:=vld_dg x.neg x.mag x.exp hv
 have e : (if x.mag.length = 0 then (0 : Int) else if x.neg = true then -1 else 1) = (if Z = 0 then 0 else if Z < 0 then -1 else 1):=by
  obtain ⟨z1,z2,z3⟩:=vz_sign s x hv
  rw [h.val] at z1 z2 z3
  by_cases hm : x.mag = []
  ·rw [hm,if_pos (by rfl),if_pos (z3 hm).2]
  ·have hZ : Z ≠ 0:=fun e => by
    have h':=h.eq
    rw [e,cfm_zero] at h'
    cases h'
    exact hm rfl
   rw [if_neg (by simpa using hm),if_neg hZ]
   cases hn : x.neg
   ·have:=z2 hn
    rw [if_neg (by decide),if_neg (by omega)]
   ·rw [if_pos rfl,if_pos (z1 hn)]
 rw [← e]
 exact ssign_walk _ _ _ _ _ _ 0 w (fun u kk => sign_ok x.neg x.mag hDg.rg (by omega) a1 c1 x.exp hv u (s1.kept kk))
theorem sround_any (n : Int) (hn : n = 64 ∨ n = 32) (x : Nm) (hv : vld x = true) (v1 : Value) (w : World) (hT : Tab w) (h1 : NumAt w v1 x) : Calls Tryz.prog 86 #[v1,.int .i64 n] w fun e w' => e = .returned (.int .i64 (rzN n 0 x)) ∧ Kept w w':=by
 obtain ⟨a1,c1,rfl,s1⟩:=h1.form
 exact sround_walk _ _ _ _ _ n _ 0 _ w (fun u kk => roundz n 0 hn (.inl rfl) x hv a1 c1 u (hT.kept kk) (s1.kept kk))
theorem times_walk (n1 : Bool) (a1 : Option Addr) (l1 c1 : Nat) (x1 : Int) (p : Int) (y m r : Nm) (w : World)
  (KI : Hid (∀ u,Kept w u → Calls Tryz.prog 153 #[.int .i64 p] u fun e w' => ∃ v,e = .returned v ∧ New u w' v y ∧ Kept u w'))
  (KM : Hid (∀ u v2,Kept w u → NumAt u v2 y → Calls Tryz.prog 152 #[.agg #[.bool n1,.slice a1 l1 c1,.int .i64 x1],v2] u fun e w' => ∃ v,e = .returned v ∧ New u w' v m ∧ Kept u w'))
  (KS : Hid (∀ u0 u v2,Kept w u → New u0 u v2 m → Calls Tryz.prog 151 #[v2,.int .i64 (-53)] u fun e w' => ∃ v,e = .returned v ∧ New u w' v r ∧ Kept u w')) :
  Calls Tryz.prog 93 #[.agg #[.bool n1,.slice a1 l1 c1,.int .i64 x1],.int .i64 p] w fun e w' => ∃ v,e = .returned v ∧ New w w' v r ∧ Kept w w':=by
 obtain ⟨X,hX⟩ : ∃ X,X = (w.alloc (.cells #[.bool n1,.slice a1 l1 c1,.int .i64 x1] 74)).alloc (.cells #[.bool false,.slice none 0 0,.int .i64 0] 74):=⟨_,rfl⟩
 have hK : Kept w X:=by rw [hX]; exact ((Kept.refl w).alloc _ _).alloc _ _
 have hXs : X.heap.size = w.heap.size + 2:=by rw [hX]; simp
 have hP0 : N3 X (w.heap.size) (.bool n1) (.slice a1 l1 c1) (.int .i64 x1):=by
  rw [hX]
  have:=((N3.new (w) (.bool n1) (.slice a1 l1 c1) (.int .i64 x1) 74).alloc #[.bool false,.slice none 0 0,.int .i64 0] 74)
  simpa using this
 have hP1 : N3 X (w.heap.size + 1) (.bool false) (.slice none 0 0) (.int .i64 0):=by
  rw [hX]
  have:=(N3.new (w.alloc (.cells #[.bool n1,.slice a1 l1 c1,.int .i64 x1] 74)) (.bool false) (.slice none 0 0) (.int .i64 0) 74)
  simpa using this
 obtain ⟨B0,hB0⟩ : ∃ B,B = w.heap.size:=⟨_,rfl⟩
 obtain ⟨B1,hB1⟩ : ∃ B,B = B0 + 1:=⟨_,rfl⟩
 rw [← hB0] at hP0
 rw [← hB0,← hB1] at hP1
 have oB : Hid (w.heap.size ≤ B0 ∧ B0 < X.heap.size ∧ w.heap.size ≤ B1 ∧ B1 < X.heap.size):=(show _ ∧ _ ∧ _ ∧ _ from by omega)
 have HS : Hid (∀ u,Kept X u → Kept X u ∧ u.cell? ⟨B0,0,none⟩ = some (.bool n1) ∧ u.cell? ⟨B0,1,none⟩ = some (.slice a1 l1 c1) ∧ u.cell? ⟨B0,2,none⟩ = some (.int .i64 x1)):=fun u k => ⟨k,(hP0.kept k).c0,(hP0.kept k).c1,(hP0.kept k).c2⟩
 have HR : Hid (∀ u,Kept X u → N3 u B1 (.bool false) (.slice none 0 0) (.int .i64 0)):=fun u k => hP1.kept k
 go_enter Tryz.func93,Tryz.ntmps93
 go_upto_region 1 with fail
 rw [← hX,← hB0,← hB1]
 clear hX hXs hB0 hB1
 refine wp_region_late [5] (fun u => Kept X u ∧ u.cell? ⟨B0,0,none⟩ = some (.bool n1) ∧ u.cell? ⟨B0,1,none⟩ = some (.slice a1 l1 c1) ∧ u.cell? ⟨B0,2,none⟩ = some (.int .i64 x1)) (by kernel_rfl) (HS.out _ (Kept.refl X).drew) (fun hHeld => ?_)
 refine tkD (i:=0) (v:=?_) rfl hHeld ?_
 (try simp only [Act.put,zA,zB,zC,zD,zE,zF])
 refine tkD (i:=1) (v:=?_) rfl hHeld ?_
 (try simp only [Act.put,zA,zB,zC,zD,zE,zF])
 refine wpAnyD_step (i:=2) (by kernel_rfl) rfl (fun K hK9 => ?_)
 go_simp
 go_wp2_with fail
 refine (KI.out _ (hK.trans hHeld.1)).mono ?_
 rintro e u1 ⟨v1,rfl,g1,k1⟩
 refine hK9.out _ _ (HS.out _ (hHeld.1.trans k1)) (fun hH1 => ?_)
 clear hK9 K
 (try simp only [Act.put,zA,zB,zC,zD,zE,zF])
 refine wpAnyD_step (i:=3) (by kernel_rfl) rfl (fun K hK9 => ?_)
 go_simp
 go_wp2_with fail
 refine (KM.out _ _ (hK.trans hH1.1) g1.numAt).mono ?_
 rintro e u2 ⟨v2,rfl,g2,k2⟩
 refine hK9.out _ _ (HS.out _ (hH1.1.trans k2)) (fun hH2 => ?_)
 clear hK9 K
 (try simp only [Act.put,zA,zB,zC,zD,zE,zF])
 refine wpAnyD_step (i:=4) (by kernel_rfl) rfl (fun K hK9 => ?_)
 go_simp
 go_wp2_with fail
 refine (KS.out _ _ _ (hK.trans hH2.1) g2).mono ?_
 rintro e u3 ⟨v3,rfl,g3,k3⟩
 refine hK9.out _ _ (HS.out _ (hH2.1.trans k3)) (fun hH3 => ?_)
 clear hK9 K
 (try simp only [Act.put,zA,zB,zC,zD,zE,zF])
 obtain ⟨vn,va,vl,vc,vx,rfl⟩:=g3.shape
 obtain ⟨f0,f1,f2,f3⟩:=HR.out _ hH3.1
 refine wpAnyD_late (i:=5) (by kernel_rfl) rfl rfl (fun K hK9 => ?_)
 go_simp
 refine hK9.out _ _ ?_
 clear hK9 K
 (try simp only [Act.put,zA,zB,zC,zD,zE,zF])
 refine wpAnyD_done (by kernel_rfl) ?_ _
 (try simp only [Act.put,zA,zB,zC,zD,zE,zF])
 go_wp2_with fail
 have:=res_done B1 oB.out.2.2.1 oB.out.2.2.2 hK (g3.from hH2.1) hH3.1 (.bool vn) (.slice va vl vc) (.int .i64 vx)
 exact bodyPost_ret (v:=.agg #[.bool vn,.slice va vl vc,.int .i64 vx]) (by simp [results,Tryz.results93,go_sem,f0,f1,f2]) rfl ⟨_,rfl,this.1,this.2⟩
theorem times_any {s X : Int} {x : Nm} (hx : Vz s X x) (p : Int) (h1 : -9223372036854775808 ≤ p) (h2 : p ≤ 9223372036854775807) (hs1 : -2000 ≤ s) (hs2 : s ≤ 0) (hp : (p * 2 ^ (-s).toNat).natAbs < 2 ^ expS) (hb : (X * p).natAbs < 2 ^ expS) (r : Nm) (hr : cfm (X * p) (s + -53) = some r) (v1 : Value) (w : World) (hT : Tab w) (hv : NumAt w v1 x) : Calls Tryz.prog 93 #[v1,.int .i64 p] w fun e w' => ∃ v,e = .returned v ∧ New w w' v r ∧ Kept w w':=by
 have hpb : p.natAbs < 2 ^ expS:=by
  refine Nat.lt_of_le_of_lt ?_ hp
  rw [Int.natAbs_mul]
  have : 1 ≤ ((2 : Int) ^ (-s).toNat).natAbs:=by
   rw [Int.natAbs_pow]
   exact Nat.one_le_two_pow
  exact Nat.le_mul_of_pos_right _ this
 obtain ⟨y,hy⟩:=vz_mk 0 p (by decide) (by decide) hpb
 have hy2:=hy.down (-s).toNat (t:=s) (by omega) (by omega) hs2 hp
 obtain ⟨m,hm⟩:=vz_mk s (X * p) (by omega) hs2 hb
 have hmul : mulN x y = some m:=by
  refine Vz.mul (by omega) hs2 hx hy2 rfl ?_
  rw [← Int.mul_assoc,cfm_shift,show s + s + ((-s).toNat : Int) = s by omega]
  exact hm.eq
 obtain ⟨a1,c1,rfl,s1⟩:=hv.form
 refine times_walk _ _ _ _ _ p y m r w (fun u k => sint_any p h1 h2 y hy.eq u (hT.kept k)) (fun u v2 k hv2 => smul_any x y m _ v2 u (hT.kept k) (hv.keptS k) hv2 hx.ok hy.ok hmul) (fun u0 u v2 k hN => sscale_any hm (-53) (by decide) (by decide) hr u0 v2 u (hT.kept k) hN)
end Go.Proofs.YtcfcbabbgcckhaaGreatDoor

namespace Go.Proofs.YtcfcbabbgcckhaaGreatDoor
open Go.ChangeShapes Go.WideShapes Go.ChangeAt Go.RowKit
set_option maxHeartbeats 16000000
set_option maxRecDepth 100000
/-! ### One contract a width,for every pattern -/
end Go.Proofs.YtcfcbabbgcckhaaGreatDoor

namespace Go.Proofs.YtcfcbabbgcckhaaGreatDoor
open Go.ChangeShapes Go.WideShapes Go.ChangeAt Go.RowKit
set_option maxHeartbeats 16000000
set_option maxRecDepth 100000
set_option linter.unusedVariables false
end Go.Proofs.YtcfcbabbgcckhaaGreatDoor

namespace Go.Proofs.YtcfcbabbgcckhaaGreatDoor
open Go.ChangeShapes Go.WideShapes Go.ChangeAt Go.RowKit
set_option maxHeartbeats 16000000
set_option maxRecDepth 100000
set_option linter.unusedVariables false
set_option linter.unusedSimpArgs false
end Go.Proofs.YtcfcbabbgcckhaaGreatDoor
