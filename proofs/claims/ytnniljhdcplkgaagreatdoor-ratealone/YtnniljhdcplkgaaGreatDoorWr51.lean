/- Package rate: one answer of At,whatever the world. The laws' own test of life for chapter 18. How arguments are read: exact numbers,lists of ints; and that they read behind the call as before. -/
import Derived.Test.YtnniljhdcplkgaaGreatDoorWr50
import Derived.Test.YtnniljhdcplkgaaGreatDoorWr07
import Derived.ProofKit
import Derived.OpenShut
import Derived.Carry
import Derived.Lib.SmallJoins
import Derived.ChangeSlices
namespace Go.Proofs.YtnniljhdcplkgaaGreatDoor
open Go.ChangeShapes Go.WideShapes Go.ChangeAt Go.RowKit
set_option maxHeartbeats 16000000
set_option maxRecDepth 100000
set_option linter.unusedVariables false
set_option linter.unusedSimpArgs false
theorem cnt_iff {n : Int} (h : cnt n = true) : 0 ≤ n ∧ n ≤ 1099511627776:=of_decide_eq_true h
theorem at_det (kd ba fa wa ev tt : Int) (hb1 : -9223372036854775808 ≤ ba) (hb2 : ba ≤ 9223372036854775807) (hbc : cls ba 64 < 3) (hf1 : -9223372036854775808 ≤ fa) (hf2 : fa ≤ 9223372036854775807) (hfc : cls fa 64 < 3) (st : Int) (hk : kd = 0 ∨ kd = 1 ∨ kd = 2 ∨ kd = 3 ∨ kd = 4 ∨ kd = 5) (c1 : cnt wa = true) (c2 : cnt ev = true) (c3 : cnt tt = true) (c4 : cnt st = true) (hc : cok kd ev tt = true) : ∃ s : Int,∀ u,Tab u → Calls Tryz.prog 10 #[.agg #[.int .i64 kd,.int .i64 ba,.int .i64 fa,.int .i64 wa,.int .i64 ev,.int .i64 tt],.int .i64 st,kFn kd] u fun e w' => e = .returned (.int .i64 s) ∧ Kept u w':=by
 have d1:=cnt_iff c1
 have d2:=cnt_iff c2
 have d3:=cnt_iff c3
 have d4:=cnt_iff c4
 by_cases hw : st < wa
 ·obtain ⟨y1,v1,-,h1⟩:=int_det (st + 1) (by omega) (by omega)
  obtain ⟨y2,v2,g2,h2⟩:=int_det wa (by omega) (by omega)
  obtain ⟨s,hs⟩:=share_det ba hb1 hb2 hbc y1 y2 v1 v2 (g2 (by omega)).1
  exact ⟨s,fun u hT => at_warm kd ba fa wa ev tt st (st + 1) _ hw (by rw [wrap_i64]; omega) y1 y2 s u (fun u2 k => h1 u2 (hT.kept k)) (fun u2 k => h2 u2 (hT.kept k)) (fun u2 v v' k nv nv' => hs u2 v v' (hT.kept k) nv nv')⟩
 ·have hd : IntKind.i64.wrap (st - wa) = st - wa:=by rw [wrap_i64]; omega
  rcases hk with rfl | rfl | rfl | rfl | rfl | rfl
  ·obtain ⟨s,hs⟩:=constant_det 0 ba fa wa ev tt hb1 hb2 hbc hf1 hf2 hfc (st - wa)
   exact ⟨s,fun u hT => at_beh0 0 ba fa wa ev tt st _ hw hd s u (fun u2 k => hs u2 (hT.kept k))⟩
  ·have he : 0 < ev:=by simpa [cok] using hc
   obtain ⟨s,hs⟩:=steps_det 1 ba fa wa ev tt hb1 hb2 hbc hf1 hf2 hfc (st - wa) (by omega) (by omega) he (by omega)
   exact ⟨s,fun u hT => at_beh1 1 ba fa wa ev tt st _ hw hd s u (fun u2 k => hs u2 (hT.kept k))⟩
  ·have he : 0 < tt:=by simpa [cok] using hc
   obtain ⟨s,hs⟩:=fading_det 2 ba fa wa ev tt hb1 hb2 hbc hf1 hf2 hfc (st - wa) 1 (by omega) (by omega) he (by omega) (by decide) (by decide)
   exact ⟨s,fun u hT => at_beh2 2 ba fa wa ev tt st _ hw hd s u (fun u2 k => linear_walk 2 ba fa wa ev tt (st - wa) s u2 (fun u3 k3 => hs u3 ((hT.kept k).kept k3)))⟩
  ·have he : 0 < ev:=by simpa [cok] using hc
   obtain ⟨s,hs⟩:=rroot_det 3 ba fa wa ev tt hb1 hb2 hbc hf1 hf2 hfc (st - wa) (by omega) (by omega) he (by omega)
   exact ⟨s,fun u hT => at_beh3 3 ba fa wa ev tt st _ hw hd s u (fun u2 k => hs u2 (hT.kept k))⟩
  ·have he : 0 < ev:=by simpa [cok] using hc
   obtain ⟨s,hs⟩:=triangle_det 4 ba fa wa ev tt hb1 hb2 hbc hf1 hf2 hfc (st - wa) (by omega) (by omega) he (by omega)
   exact ⟨s,fun u hT => at_beh4 4 ba fa wa ev tt st _ hw hd s u (fun u2 k => hs u2 (hT.kept k))⟩
  ·have he : (0 < ev ∧ ev ≤ 8) ∧ 0 < tt:=by simpa [cok] using hc
   obtain ⟨s,hs⟩:=fading_det 5 ba fa wa ev tt hb1 hb2 hbc hf1 hf2 hfc (st - wa) ev (by omega) (by omega) he.2 (by omega) he.1.1 he.1.2
   exact ⟨s,fun u hT => at_beh5 5 ba fa wa ev tt st _ hw hd s u (fun u2 k => power_walk 5 ba fa wa ev tt (st - wa) s u2 (fun u3 k3 => hs u3 ((hT.kept k).kept k3)))⟩
theorem At_det (kd ba fa wa ev tt : Int) (hb1 : -9223372036854775808 ≤ ba) (hb2 : ba ≤ 9223372036854775807) (hf1 : -9223372036854775808 ≤ fa) (hf2 : fa ≤ 9223372036854775807) (st : Int) : ∃ V : Value,(∃ a e : Int,V = .tuple #[.int .i64 a,.int .i64 e]) ∧ ∀ u,Tab u → Calls Tryz.prog 6 #[.agg #[.int .i64 kd,.int .i64 ba,.int .i64 fa,.int .i64 wa,.int .i64 ev,.int .i64 tt],.int .i64 st] u fun e w' => e = .returned V ∧ Kept u w':=by
 obtain ⟨z1,hz1,KB⟩:=size_det ba hb1 hb2
 obtain ⟨z2,hz2,KF⟩:=size_det fa hf1 hf2
 obtain ⟨b3,hb3,KC⟩ : ∃ b3 : Bool,(b3 = true → cnt wa = true ∧ cnt ev = true ∧ cnt tt = true ∧ cok kd ev tt = true) ∧ ∀ u : World,decide (0 ≤ kd ∧ kd ≤ 5) = true → Calls Tryz.prog 21 #[.agg #[.int .i64 kd,.int .i64 ba,.int .i64 fa,.int .i64 wa,.int .i64 ev,.int .i64 tt]] u fun e w' => e = .returned (.bool b3) ∧ Kept u w':=by
  by_cases h : (cnt wa && cnt ev && cnt tt) = true
  ·simp only [Bool.and_eq_true] at h
   refine ⟨cok kd ev tt,fun hh => ⟨h.1.1,h.1.2,h.2,hh⟩,fun u hk => counts_yes kd ba fa wa ev tt (by have:=of_decide_eq_true hk; omega) u (fun u2 => ?_) (fun u2 => ?_) (fun u2 => ?_)⟩
   ·have:=isCount_any wa u2; rwa [h.1.1] at this
   ·have:=isCount_any ev u2; rwa [h.1.2] at this
   ·have:=isCount_any tt u2; rwa [h.2] at this
  ·exact ⟨false,fun hh => (by cases hh),fun u _ => counts_no kd ba fa wa ev tt _ _ _ (by simpa using h) u (fun u2 => isCount_any wa u2) (fun u2 => isCount_any ev u2) (fun u2 => isCount_any tt u2)⟩
 have KH : ∀ u : World,_:=fun u => checked_walk kd ba fa wa ev tt (kFn kd) (decide (0 ≤ kd ∧ kd ≤ 5)) z1 z2 b3 u (fun u2 => kindOf_any kd u2) KB KF KC
 by_cases h : (decide (0 ≤ kd ∧ kd ≤ 5) && z1 && z2 && b3) = true
 ·rw [if_pos h] at KH
  simp only [Bool.and_eq_true] at h
  obtain ⟨⟨⟨h0,h1⟩,h2⟩,h3⟩:=h
  obtain ⟨e1,e2,e3,e4⟩:=hb3 h3
  have hk:=of_decide_eq_true h0
  obtain ⟨s,hs⟩ : ∃ s : Int,∀ u,Tab u → cnt st = true → Calls Tryz.prog 10 #[.agg #[.int .i64 kd,.int .i64 ba,.int .i64 fa,.int .i64 wa,.int .i64 ev,.int .i64 tt],.int .i64 st,kFn kd] u fun e w' => e = .returned (.int .i64 s) ∧ Kept u w':=by
   by_cases hst : cnt st = true
   ·obtain ⟨s,hs⟩:=at_det kd ba fa wa ev tt hb1 hb2 (hz1 h1) hf1 hf2 (hz2 h2) st (by omega) e1 e2 e3 hst e4
    exact ⟨s,fun u hT _ => hs u hT⟩
   ·exact ⟨0,fun u hT hh => absurd hh hst⟩
  refine ⟨_,?_,fun u hT => At_yes kd ba fa wa ev tt st (kFn kd) (cnt st) s u (fun u2 _ => KH u2) (fun u2 => isCount_any st u2) (fun u2 k hh => hs u2 (hT.kept k) hh)⟩
  split
  ·split
   ·exact ⟨_,_,rfl⟩
   ·exact ⟨_,_,rfl⟩
  ·exact ⟨_,_,rfl⟩
 ·rw [if_neg h] at KH
  exact ⟨_,⟨_,_,rfl⟩,fun u hT => At_no kd ba fa wa ev tt st u KH⟩
end Go.Proofs.YtnniljhdcplkgaaGreatDoor

namespace Go.Proofs.YtnniljhdcplkgaaGreatDoor
open Go.ChangeShapes Go.WideShapes Go.ChangeAt Go.RowKit
set_option maxHeartbeats 16000000
set_option maxRecDepth 100000
set_option linter.unusedVariables false
set_option linter.unusedSimpArgs false
theorem cutz_same {c D V k Q H F k' Q' H' F' : Nat} {od hf rt od' hf' rt' : Bool} (h : Cutz c D V k Q H F od hf rt) (h' : Cutz c D V k' Q' H' F' od' hf' rt') (hm : ∀ r s,r < s → rv c r < rv c s) (way : Int) (hw : way = 0 ∨ way = 1 ∨ way = 2) (ng : Bool) (inf : Nat) : mgz way ng inf F od hf rt = mgz way ng inf F' od' hf' rt' ∧ odz way ng inf F od hf rt = odz way ng inf F' od' hf' rt':=by
 have hF : F = F':=by
  obtain ⟨a1,a2⟩:=h.floor
  obtain ⟨b1,b2⟩:=h'.floor
  have mono : ∀ r s,r ≤ s → rv c r * D ≤ rv c s * D:=fun r s g => by
   rcases Nat.lt_or_eq_of_le g with g | g
   ·exact Nat.mul_le_mul_right D (Nat.le_of_lt (hm r s g))
   ·rw [g]; exact Nat.le_refl _
  rcases Nat.lt_trichotomy F F' with g | g | g
  ·have:=mono (F + 1) F' g; omega
  ·exact g
  ·have:=mono (F' + 1) F g; omega
 subst hF
 have e1:=h.cut.trans h'.cut.symm
 have e2:=h.near.trans h'.near.symm
 have ea : awz way ng od hf rt = awz way ng od' hf' rt':=by
  unfold awz
  rw [e1,e2]
 unfold mgz odz
 rw [ea,e1]
 exact ⟨rfl,rfl⟩
theorem quarter_cut : Cutz (cbn 64) (2 ^ (kleast 64 - (-1075)).toNat * (1 * 2 ^ (2 - (-1075) : Int).toNat)) (1 * 2 ^ (0 - 2 * (-1075) : Int).toNat) 4503599627370496 (2 ^ 1020 * (2 ^ (kleast 64 - (-1075)).toNat * (1 * 2 ^ (2 - (-1075) : Int).toNat))) (2 ^ 1019 * (2 ^ (kleast 64 - (-1075)).toNat * (1 * 2 ^ (2 - (-1075) : Int).toNat))) 4598175219545276416 false false false :=
 ⟨by decide +kernel,by decide +kernel,by decide +kernel,by decide +kernel,by decide +kernel,by decide +kernel,by decide +kernel,by decide +kernel,by decide +kernel⟩
theorem one_num : mulT (ofN 4607182418800017408 64) ⟨false,[1],0⟩ = ⟨false,[1],0⟩:=by kernel_rfl
theorem one_back : rzN 64 0 (ofN 4607182418800017408 64) = 4607182418800017408:=by decide +kernel
theorem one_cfm : cfm 1 0 = some ⟨false,[1],0⟩:=by kernel_rfl
theorem four_cfm : cfm 4 0 = some ⟨false,[1],2⟩:=by kernel_rfl
theorem n1_vld : vld ⟨false,[1],0⟩ = true:=by decide
theorem n4_vld : vld ⟨false,[1],2⟩ = true:=by decide
theorem quarter (v1 v2 : Value) (w : World) (hT : Tab w) (h1 : NumAt w v1 ⟨false,[1],0⟩) (h2 : NumAt w v2 ⟨false,[1],2⟩) : Calls Tryz.prog 40 #[v1,v2,.int .i64 64] w fun e w' => e = .returned (.int .i64 4598175219545276416) ∧ Kept w w':=by
 obtain ⟨a1,c1,rfl,s1⟩:=h1.form
 obtain ⟨a2,c2,rfl,s2⟩:=h2.form
 obtain ⟨k,Q,H,F,od,hf,rt,hC,hP⟩:=quotz_all 64 (.inl rfl) ⟨false,[1],0⟩ ⟨false,[1],2⟩ n1_vld n4_vld (by decide) (by decide) (-1075) (by decide) (by decide) (by decide +kernel) (by decide +kernel) (by decide)
 have e1 : nv [1] = 1:=by decide +kernel
 dsimp only at hC
 rw [e1] at hC
 have hS:=cutz_same hC quarter_cut (rv_lt 64 (.inl rfl)) 0 (.inl rfl) false (ifn 64)
 refine squot_walk _ _ _ _ _ _ _ _ _ _ 64 4598175219545276416 false w (fun u k => ?_)
 have:=hP 0 (.inl rfl) a1 a2 c1 c2 u (hT.kept k) (s1.kept k) (s2.kept k)
 dsimp only [bne_self_eq_false] at this
 rw [show (false != false) = false from rfl,hS.1,hS.2] at this
 exact this
theorem size_true (b : Int) (h1 : -9223372036854775808 ≤ b) (h2 : b ≤ 9223372036854775807) (hc : cls b 64 < 3) (hl : lss b 0 64 = false) (w : World) : Calls Tryz.prog 20 #[.int .i64 b] w fun e w' => e = .returned (.bool true) ∧ Kept w w':=by
 have:=isSize_walk b false (fun w => by have:=less_any b 0 64 h1 h2 (by decide) (by decide) w; rwa [hl] at this) w
 rwa [decide_eq_true hc] at this
theorem checked_one (w : World) : Calls Tryz.prog 8 #[.agg #[.int .i64 0,.int .i64 4607182418800017408,.int .i64 0,.int .i64 4,.int .i64 0,.int .i64 0]] w fun e w' => e = .returned (.tuple #[.func (.func 61) #[] #[],.int .i64 0]) ∧ Kept w w':=by
 have:=checked_walk 0 4607182418800017408 0 4 0 0 (kFn 0) (decide ((0 : Int) ≤ 0 ∧ (0 : Int) ≤ 5)) true true (cok 0 0 0) w (fun u => kindOf_any 0 u) (fun u => size_true _ (by decide) (by decide) (by decide +kernel) (by decide +kernel) u) (fun u => size_true _ (by decide) (by decide) (by decide +kernel) (by decide +kernel) u) (fun u _ => counts_yes 0 4607182418800017408 0 4 0 0 (.inl rfl) u (fun u => isCount_any 4 u) (fun u => isCount_any 0 u) (fun u => isCount_any 0 u))
 rw [if_pos (by decide)] at this
 exact this
theorem At_quarter (w : World) (hT : Tab w) : Calls Tryz.prog 6 #[.agg #[.int .i64 0,.int .i64 4607182418800017408,.int .i64 0,.int .i64 4,.int .i64 0,.int .i64 0],.int .i64 0] w fun e w' => e = .returned (.tuple #[.int .i64 4598175219545276416,.int .i64 0]) ∧ Kept w w':=by
 have:=At_yes 0 4607182418800017408 0 4 0 0 0 (.func (.func 61) #[] #[]) true 4598175219545276416 w (fun u _ => checked_one u) (fun u => isCount_any 0 u) (fun u k _ => at_warm 0 4607182418800017408 0 4 0 0 0 1 _ (by decide) (by decide) ⟨false,[1],0⟩ ⟨false,[1],2⟩ _ u (fun u2 k2 => sint_any 1 (by decide) (by decide) _ one_cfm u2 ((hT.kept k).kept k2)) (fun u2 k2 => sint_any 4 (by decide) (by decide) _ four_cfm u2 ((hT.kept k).kept k2)) (fun u2 v v' k2 nv nv' => ?_))
 ·rw [if_pos rfl,if_neg (by decide +kernel)] at this
  exact this
 ·have hT2:=(hT.kept k).kept k2
  obtain ⟨a1,c1,rfl,s1⟩:=nv.form
  obtain ⟨a2,c2,rfl,s2⟩:=nv'.form
  exact share_walk 4607182418800017408 _ _ _ _ _ _ _ _ _ _ (ofN 4607182418800017408 64) ⟨false,[1],0⟩ _ u2 (fun u3 k3 => sof_any _ 64 (by decide) (by decide) (.inl rfl) (by decide +kernel) u3 (hT2.kept k3)) (fun u3 v k3 nv => by
   have:=smulT (ofN 4607182418800017408 64) ⟨false,[1],0⟩ (zf_vz 4607182418800017408 64 (.inl rfl) (by decide +kernel)).1.ok n1_vld v _ u3 (hT2.kept k3) nv ⟨_,rfl,s1.kept k3⟩
   rwa [one_num] at this) (fun u3 v k3 nv => quarter v _ u3 (hT2.kept k3) nv ⟨_,rfl,s2.kept k3⟩)
theorem At_one (w : World) (hT : Tab w) : Calls Tryz.prog 6 #[.agg #[.int .i64 0,.int .i64 4607182418800017408,.int .i64 0,.int .i64 4,.int .i64 0,.int .i64 0],.int .i64 9] w fun e w' => e = .returned (.tuple #[.int .i64 4607182418800017408,.int .i64 0]) ∧ Kept w w':=by
 have:=At_yes 0 4607182418800017408 0 4 0 0 9 (.func (.func 61) #[] #[]) true 4607182418800017408 w (fun u _ => checked_one u) (fun u => isCount_any 9 u) (fun u k _ => at_beh0 0 4607182418800017408 0 4 0 0 9 5 (by decide) (by decide) _ u (fun u2 k2 => constant_walk 0 4607182418800017408 0 4 0 0 5 (ofN 4607182418800017408 64) _ u2 (fun u3 k3 => sof_any _ 64 (by decide) (by decide) (.inl rfl) (by decide +kernel) u3 (((hT.kept k).kept k2).kept k3)) (fun u3 v k3 nv => by
  have:=sround_any 64 (.inl rfl) (ofN 4607182418800017408 64) (zf_vz 4607182418800017408 64 (.inl rfl) (by decide +kernel)).1.ok v u3 (((hT.kept k).kept k2).kept k3) nv
  rwa [one_back] at this)))
 rw [if_pos rfl,if_neg (by decide +kernel)] at this
 exact this
theorem alive18 (w : World) (hT : Tab w) : Calls Tryz.prog 5 #[] w fun e w' => e = .returned (.bool true) ∧ Kept w w':=by
 obtain ⟨X,hX⟩ : ∃ X,X = w.alloc (.cells #[.int .i64 0,.int .i64 4607182418800017408,.int .i64 0,.int .i64 4,.int .i64 0,.int .i64 0] 23):=⟨_,rfl⟩
 have hK : Kept w X:=by rw [hX]; exact (Kept.refl w).alloc _ _
 have HS0 : Hid (∀ u,Kept X u → _):=fun u k => sch_cells w 0 4607182418800017408 0 4 0 0 _ X hX u k
 have HT:=hidr hT
 obtain ⟨B0,hB0⟩ : ∃ B,B = w.heap.size:=⟨_,rfl⟩
 rw [← hB0] at HS0
 clear hT
 go_enter Tryz.func5,Tryz.ntmps5
 go_upto_region 2 with fail
 rw [← hX,← hB0]
 clear hX hB0
 obtain ⟨c0,c1,c2,c3,c4,c5⟩:=HS0.out _ (Kept.refl X)
 go_wp2_with fail
 refine (At_quarter _ (HT.out.kept hK)).mono ?_
 rintro e w1 ⟨rfl,k1⟩
 clear c0 c1 c2 c3 c4 c5
 obtain ⟨c0,c1,c2,c3,c4,c5⟩:=HS0.out _ k1
 go_wp2_with fail
 refine (At_one _ (HT.out.kept (hK.trans k1))).mono ?_
 rintro e w2 ⟨rfl,k2⟩
 go_wp2_with fail
 go_ret
 exact ⟨rfl,hK.trans (k1.trans k2)⟩
end Go.Proofs.YtnniljhdcplkgaaGreatDoor

namespace Go.Proofs.YtnniljhdcplkgaaGreatDoor
open Go.ChangeShapes Go.WideShapes Go.ChangeAt Go.RowKit Go.Joins
set_option maxHeartbeats 16000000
set_option maxRecDepth 100000
set_option linter.unusedVariables false
theorem laid_out : laidOutB Tryz.prog = true:=by kernel_rfl
theorem cells_int : Tryz.prog.cellsOf 3 = 1:=by kernel_rfl
theorem wf_rng (n : Int) (h : (Lit.int .i64 n).wf = true) : -9223372036854775808 ≤ n ∧ n ≤ 9223372036854775807:=by
 have e1 : IntKind.i64.min = -9223372036854775808:=rfl
 have e2 : IntKind.i64.max = 9223372036854775807:=rfl
 simp [Lit.wf] at h
 omega
section
variable {H : Type} {enc : TypeId × Value → H} {W : World}
theorem open_lst {fuel : Nat} {cs : List Value} {x : DataW H × List MemPlace} (h : DataW.trod enc Tryz.prog W 0 (fun _ => true) true fuel 24 cs = some x) :
  ∃ (L : List Int) (ar : Option Addr) (cr : Nat),cs = [.slice ar L.length cr] ∧ (ar = none → cr = 0) ∧ Rg L ∧ Sl W (.slice ar L.length cr) L:=by
 rcases open_ints Tryz.underlying24 Tryz.underlying3 cells_int h with ⟨rfl,-⟩ | ⟨a,len,cap,zs,rfl,-,hl,hm,hz,-,hcell,hwf⟩
 ·exact ⟨[],none,0,rfl,fun _ => rfl,fun d hd => (by cases hd),none,0,rfl,Nat.le_refl _,by simp [maxLen],fun h => absurd rfl h⟩
 ·have hlen : (zs.take len).length = len:=by
   rw [List.length_take,hz]
   simp
   omega
  refine ⟨zs.take len,some a,cap,by rw [hlen],fun h => (by cases h),fun d hd => wf_rng d (hwf d (List.mem_of_mem_take hd)),some a,cap,by rw [hlen],by rw [hlen]; exact hl,hm,fun hne => ?_⟩
  have hpos : 0 < len:=by
   rcases Nat.eq_zero_or_pos len with h0 | h0
   ·subst h0; simp at hne
   ·exact h0
  have hzl : len ≤ zs.length:=by rw [hz]; simp; omega
  have h0:=hcell 0 (by omega)
  have hs:=World.cell?_spot h0
  have hb:=World.block_lt_of_cell? W _ h0
  obtain ⟨ab,ao,asp⟩:=a
  simp [Addr.add] at hs hb
  subst hs
  refine ⟨ab,ao,rfl,hb,fun i hi => ?_⟩
  rw [hlen] at hi
  have:=hcell i (by omega)
  rw [Addr.add_lit] at this
  rw [this,List.getD_eq_getElem?_getD,List.getD_eq_getElem?_getD,List.getElem?_take,if_pos hi]
theorem trodAll_stays {W' : World} {sp : Nat → Bool} : ∀ {ts : List TypeId} {vs : List Value} {ds : List (DataW H)} {p : List MemPlace},(∀ t ∈ ts,Tryz.prog.readableRec t = true ∧ t < Tryz.prog.types.size) → DataW.TrodAll enc Tryz.prog W 0 (fun _ => true) true ts vs ds p → (∀ x ∈ p,W.sameAt W' x) → (∀ x ∈ p,sp x.block = true) → DataW.TrodAll enc Tryz.prog W' 0 sp true ts vs ds p
 | [],_,_,_,_,h,_,_ => by
  obtain ⟨rfl,rfl,rfl⟩:=trodAll_nil h
  exact trodAll_mk0
 | t :: ts,_,_,_,hr,h,hs,hp => by
  obtain ⟨v,vs1,d,ds1,a,b,rfl,rfl,rfl,h1,h2⟩:=trodAll_cons h
  obtain ⟨r1,r2⟩:=hr t (by simp)
  exact trodAll_cons_mk (WideElems.Trod_stays laid_out r1 r2 h1 (fun x hx => hs x (by simp [hx])) (fun x hx => hp x (by simp [hx]))) (trodAll_stays (fun t' ht' => hr t' (by simp [ht'])) h2 (fun x hx => hs x (by simp [hx])) (fun x hx => hp x (by simp [hx])))
end
end Go.Proofs.YtnniljhdcplkgaaGreatDoor
