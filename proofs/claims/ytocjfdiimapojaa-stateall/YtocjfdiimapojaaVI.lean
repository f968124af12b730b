/- Package state: the end of the bytes. -/
import Derived.Test.YtocjfdiimapojaaVG
import Derived.Test.YtocjfdiimapojaaVH
namespace Go.Proofs.Ytocjfdiimapojaa
open Go.ChangeShapes Go.WideShapes Go.ChangeAt Go.RowKit
set_option maxHeartbeats 16000000
set_option maxRecDepth 100000
set_option linter.unusedVariables false
set_option linter.unusedSimpArgs false
abbrev UnitV : World → Value → Unit → Prop:=fun _ v _ => v = .tuple #[]
theorem rend_any (q cap R : Nat) (ao : Option Addr) (B : List Int) (w : World) (hR : RV w R ao B cap q) (hB : Byt B) :
  Calls Try.prog 54 #[.pointer (some ⟨R,0,none⟩)] w (Gv R ao B cap w (pend B q) UnitV):=by
 obtain ⟨X,hX⟩ : ∃ X,pend B q = X:=⟨_,rfl⟩
 rw [hX]
 replace hX : ((pnum 4 anyB B q).andTo fun n p => if n = sumB (B.take q) then (if p = B.length then .ok () p else .no 51 p) else .no 52 q) = X:=hX
 have hTl : (B.take q).length = q:=by rw [List.length_take]; exact Nat.min_eq_left hR.le
 have hTB : Byt (B.take q):=fun i hi => by
  rw [hTl] at hi
  have:=hB.at i
  rw [show (B.take q).getD i 0 = B.getD i 0 by rw [List.getD_eq_getElem?_getD,List.getD_eq_getElem?_getD,List.getElem?_take,if_pos hi]]
  exact this
 have HS : Hid (∀ u,Kept w u → Calls Try.prog 15 #[.slice ao q cap] u fun e w' => e = .returned (.int .i64 (sumB (B.take q))) ∧ Kept u w'):=fun u ku => by
  have:=sum_any ao cap (B.take q) hTB (by rw [hTl]; have:=hR.le; have:=hR.sm; omega) u (fun hne => by
   have hne2 : B ≠ []:=fun e => hne (by rw [e]; simp)
   obtain ⟨b,off,e,hb,hr⟩:=(hR.kept ku).bd hne2
   refine ⟨b,off,e,Nat.lt_trans hb (hR.kept ku).lt,fun i hi => ?_⟩
   rw [hTl] at hi
   have hl:=hR.le
   rw [hr i (by omega)]
   rw [show (B.take q).getD i 0 = B.getD i 0 by rw [List.getD_eq_getElem?_getD,List.getD_eq_getElem?_getD,List.getElem?_take,if_pos hi]])
  rw [hTl] at this
  exact this
 generalize sumB (B.take q) = sm at *
 have HN : Hid (∀ u,RV u R ao B cap q → Calls Try.prog 49 #[.pointer (some ⟨R,0,none⟩),.int .i64 4,.func (.func 51) #[] #[]] u (Gv R ao B cap u (pnum 4 anyB B q) IntV)):=fun u hr =>
  number_any0 4 q cap R 51 ao B (by decide) (by decide) anyB u 4 rfl hr hB (fun x wx => rfl) (fun u2 _ => isAny_any _ u2)
 have hlc:=hR.lc
 have hle:=hR.le
 have HR:=hid hR
 have HRK : Hid (∀ u,Kept w u → u.cell? ⟨R,0,none⟩ = some (.slice ao B.length cap) ∧ u.cell? ⟨R,1,none⟩ = some (.int .i64 (q : Int))):=fun u ku => ⟨(hR.kept ku).c0,(hR.kept ku).c1⟩
 obtain ⟨c0,c1⟩:=HRK.out w (Kept.refl w)
 have HX:=hid hX
 obtain ⟨m,hm⟩ : ∃ m,B.length = m:=⟨_,rfl⟩
 rw [hm] at c0 HRK hlc hle HX
 have hql : (0 : Int) ≤ (q : Int) ∧ (q : Int) ≤ (cap : Int):=by omega
 have hql2 : q ≤ cap:=by omega
 have HM:=hid hm
 clear hX hTl hTB hR hlc hle hm
 go_enter Try.func54,Try.ntmps54
 go_wp2_with fail
 refine wp_region_held_drew (S:=fun u => Kept w u ∧ u.cell? ⟨R,0,none⟩ = some (.slice ao m cap) ∧ u.cell? ⟨R,1,none⟩ = some (.int .i64 (q : Int))) (by kernel_rfl) (⟨(Kept.refl w).drew,c0,c1⟩) (fun hHeld => ?_)
 refine tk (i:=0) (v:=?_) rfl ?_
 simp only [Act.put,zA,zB,zC,zD,zE,zF]
 refine tk (i:=1) (v:=?_) rfl ?_
 simp only [Act.put,zA,zB,zC,zD,zE,zF]
 refine tk (i:=2) (v:=?_) rfl ?_
 simp only [Act.put,zA,zB,zC,zD,zE,zF]
 refine tk (i:=3) (v:=?_) rfl ?_
 simp only [Act.put,zA,zB,zC,zD,zE,zF]
 refine tk (i:=4) (v:=?_) rfl ?_
 simp only [Act.put,zA,zB,zC,zD,zE,zF]
 refine tk (i:=5) (v:=?_) rfl ?_
 simp only [Act.put,zA,zB,zC,zD,zE,zF]
 refine tk (i:=6) (v:=?_) rfl ?_
 simp only [Act.put,zA,zB,zC,zD,zE,zF]
 refine tk (i:=7) (v:=?_) rfl ?_
 simp only [Act.put,zA,zB,zC,zD,zE,zF]
 refine tk (i:=8) (v:=?_) rfl ?_
 simp only [Act.put,zA,zB,zC,zD,zE,zF]
 refine tk (i:=9) (v:=?_) rfl ?_
 simp only [Act.put,zA,zB,zC,zD,zE,zF]
 refine tk (i:=10) (v:=?_) rfl ?_
 simp only [Act.put,zA,zB,zC,zD,zE,zF]
 refine tk (i:=11) (v:=?_) rfl ?_
 simp only [Act.put,zA,zB,zC,zD,zE,zF]
 refine tk (i:=12) (v:=?_) rfl ?_
 simp only [Act.put,zA,zB,zC,zD,zE,zF]
 refine wpAnyH_ready (rs:=[13]) (by kernel_rfl) (by simp) ?_
 refine AllReadyH.cons rfl (fun K9 hK9 => ?_) AllReadyH.nil
 go_simp
 go_wp2_with fail
 refine (HS.out _ ((Kept.refl w).drew)).mono ?_
 rintro e u1 ⟨rfl,ka⟩
 have kb : Kept w u1:=((Kept.refl w).drew).trans ka
 obtain ⟨d0,d1⟩:=HRK.out _ kb
 refine hK9.out _ _ ⟨kb,d0,d1⟩ (fun hHeld1 => ?_)
 clear hK9 K9 hHeld c0 c1 ka d0 d1
 refine tk (i:=14) (v:=?_) rfl ?_
 simp only [Act.put,zA,zB,zC,zD,zE,zF]
 refine tk (i:=15) (v:=?_) rfl ?_
 simp only [Act.put,zA,zB,zC,zD,zE,zF]
 refine wpAnyH_done (by kernel_rfl) ?_ _
 clear hHeld1
 have r1:=HR.out.kept kb
 have HN1:=hid (HN.out u1 r1)
 have hkb:=hid kb
 clear r1 kb
 have HQ:=hid (numv_len 4 anyB B q)
 rcases hx : pnum 4 anyB B q with ⟨er,pl⟩ | ⟨n,q1⟩
 ·rw [hx] at HN1
  have hXe : X = .no er pl:=by rw [← HX.out,hx]; rfl
  subst hXe
  go_wp2_with fail
  go_at_call 49
  refine HN1.out.mono ?_
  intro e w5 h1
  obtain ⟨rfl,g5⟩:=gv_no h1
  go_wp2_with fail
  exact ⟨rfl,rfl,(hkb.out.toGrw R).trans g5⟩
 rw [hx] at HN1
 have hXe : (if n = sm then (if q1 = m then (.ok () q1 : Res Unit) else .no 51 q1) else .no 52 q) = X:=by rw [← HX.out,hx]; rfl
 have HXe:=hid hXe
 clear hXe hx HX
 go_wp2_with fail
 go_at_call 49
 refine HN1.out.mono ?_
 intro e w5 h1
 obtain ⟨v,rfl,g5,r5,ev⟩:=gv_ok h1
 obtain rfl : v = .int .i64 n:=ev
 have hg5:=hid ((hkb.out.toGrw R).trans g5)
 have hr5:=hid r5
 clear h1 g5 r5 HN1 HN
 by_cases hns : n = sm
 ·have hb1 : (n == sm) = true:=by simp [hns]
  have hx2:=HXe.out
  rw [if_pos hns] at hx2
  have HXf:=hid hx2
  clear hx2 HXe hns
  go_wp2_with (first | (go_at_call 28; refine (want_ok _ _ _).mono ?_; rintro e w6 ⟨rfl,k6⟩))
  have hr6:=hid (hr5.out.kept k6)
  have hg6:=hid (hg5.out.trans (k6.toGrw R))
  have HRL : Hid (∀ u,Kept w6 u → u.cell? ⟨R,0,none⟩ = some (.slice ao m cap) ∧ u.cell? ⟨R,1,none⟩ = some (.int .i64 (q1 : Int))):=fun u ku => by rw [← HM.out]; exact ⟨(hr6.out.kept ku).c0,(hr6.out.kept ku).c1⟩
  obtain ⟨c0,c1⟩:=HRL.out w6 (Kept.refl w6)
  clear hr5 hg5 k6
  by_cases hqm : q1 = m
  ·have hb2 : ((q1 : Int) == (m : Int)) = true:=by simp [hqm]
   have hXg : X = .ok () q1:=by rw [← HXf.out,if_pos hqm]
   subst hXg
   clear HXf hqm
   refine wp_region_held_drew (S:=fun u => Kept w6 u ∧ u.cell? ⟨R,0,none⟩ = some (.slice ao m cap) ∧ u.cell? ⟨R,1,none⟩ = some (.int .i64 (q1 : Int))) (by kernel_rfl) (⟨(Kept.refl w6).drew,c0,c1⟩) (fun hHeld => ?_)
   refine tk (i:=0) (v:=?_) rfl ?_
   simp only [Act.put,zA,zB,zC,zD,zE,zF]
   refine tk (i:=1) (v:=?_) rfl ?_
   simp only [Act.put,zA,zB,zC,zD,zE,zF]
   refine tk (i:=2) (v:=?_) rfl ?_
   simp only [Act.put,zA,zB,zC,zD,zE,zF]
   refine tk (i:=3) (v:=?_) rfl ?_
   simp only [Act.put,zA,zB,zC,zD,zE,zF]
   refine tk (i:=4) (v:=?_) rfl ?_
   simp only [Act.put,zA,zB,zC,zD,zE,zF]
   refine tk (i:=5) (v:=?_) rfl ?_
   simp only [Act.put,zA,zB,zC,zD,zE,zF]
   refine tk (i:=6) (v:=?_) rfl ?_
   simp only [Act.put,zA,zB,zC,zD,zE,zF]
   refine tk (i:=7) (v:=?_) rfl ?_
   simp only [Act.put,zA,zB,zC,zD,zE,zF]
   refine tk (i:=8) (v:=?_) rfl ?_
   simp only [Act.put,zA,zB,zC,zD,zE,zF]
   refine tk (i:=9) (v:=?_) rfl ?_
   simp only [Act.put,zA,zB,zC,zD,zE,zF]
   refine tk (i:=10) (v:=?_) rfl ?_
   simp only [Act.put,zA,zB,zC,zD,zE,zF]
   refine tk (i:=11) (v:=?_) rfl ?_
   simp only [Act.put,zA,zB,zC,zD,zE,zF]
   refine tk (i:=12) (v:=?_) rfl ?_
   simp only [Act.put,zA,zB,zC,zD,zE,zF]
   refine tk (i:=13) (v:=?_) rfl ?_
   simp only [Act.put,zA,zB,zC,zD,zE,zF]
   refine tk (i:=14) (v:=?_) rfl ?_
   simp only [Act.put,zA,zB,zC,zD,zE,zF]
   refine wpAnyH_ready (rs:=[15]) (by kernel_rfl) (by simp) ?_
   refine AllReadyH.cons rfl (fun K9 hK9 => ?_) AllReadyH.nil
   go_simp
   go_wp2_with fail
   refine (want_ok _ _ _).mono ?_
   rintro e u9 ⟨rfl,k9⟩
   have k5 : Kept w6 u9:=((Kept.refl w6).drew).trans k9
   obtain ⟨d0,d1⟩:=HRL.out _ k5
   refine hK9.out _ _ ⟨k5,d0,d1⟩ (fun hHeld9 => ?_)
   clear hK9 K9
   refine wpAnyH_done (by kernel_rfl) ?_ _
   go_wp2_with fail
   go_end0
   exact ⟨_,rfl,hg6.out.trans (k5.toGrw R),hr6.out.kept k5,rfl⟩
  ·have hb2 : ((q1 : Int) == (m : Int)) = false:=by simp; omega
   have hXg : X = .no 51 q1:=by rw [← HXf.out,if_neg hqm]
   subst hXg
   clear HXf hqm
   refine wp_region_held_drew (S:=fun u => Kept w6 u ∧ u.cell? ⟨R,0,none⟩ = some (.slice ao m cap) ∧ u.cell? ⟨R,1,none⟩ = some (.int .i64 (q1 : Int))) (by kernel_rfl) (⟨(Kept.refl w6).drew,c0,c1⟩) (fun hHeld => ?_)
   refine tk (i:=0) (v:=?_) rfl ?_
   simp only [Act.put,zA,zB,zC,zD,zE,zF]
   refine tk (i:=1) (v:=?_) rfl ?_
   simp only [Act.put,zA,zB,zC,zD,zE,zF]
   refine tk (i:=2) (v:=?_) rfl ?_
   simp only [Act.put,zA,zB,zC,zD,zE,zF]
   refine tk (i:=3) (v:=?_) rfl ?_
   simp only [Act.put,zA,zB,zC,zD,zE,zF]
   refine tk (i:=4) (v:=?_) rfl ?_
   simp only [Act.put,zA,zB,zC,zD,zE,zF]
   refine tk (i:=5) (v:=?_) rfl ?_
   simp only [Act.put,zA,zB,zC,zD,zE,zF]
   refine tk (i:=6) (v:=?_) rfl ?_
   simp only [Act.put,zA,zB,zC,zD,zE,zF]
   refine tk (i:=7) (v:=?_) rfl ?_
   simp only [Act.put,zA,zB,zC,zD,zE,zF]
   refine tk (i:=8) (v:=?_) rfl ?_
   simp only [Act.put,zA,zB,zC,zD,zE,zF]
   refine tk (i:=9) (v:=?_) rfl ?_
   simp only [Act.put,zA,zB,zC,zD,zE,zF]
   refine tk (i:=10) (v:=?_) rfl ?_
   simp only [Act.put,zA,zB,zC,zD,zE,zF]
   refine tk (i:=11) (v:=?_) rfl ?_
   simp only [Act.put,zA,zB,zC,zD,zE,zF]
   refine tk (i:=12) (v:=?_) rfl ?_
   simp only [Act.put,zA,zB,zC,zD,zE,zF]
   refine tk (i:=13) (v:=?_) rfl ?_
   simp only [Act.put,zA,zB,zC,zD,zE,zF]
   refine tk (i:=14) (v:=?_) rfl ?_
   simp only [Act.put,zA,zB,zC,zD,zE,zF]
   refine wpAnyH_ready (rs:=[15]) (by kernel_rfl) (by simp) ?_
   refine AllReadyH.cons rfl (fun K hK9 => ?_) AllReadyH.nil
   go_simp
   go_wp2_with fail
   refine (want_no _ _ _).mono ?_
   rintro e u9 ⟨rfl,k9⟩
   exact ⟨rfl,rfl,hg6.out.trans ((((Kept.refl w6).drew).trans k9).toGrw R)⟩
 ·have hb1 : (n == sm) = false:=by simp [hns]
  have hXg : X = .no 52 q:=by rw [← HXe.out,if_neg hns]
  subst hXg
  clear HXe hns
  go_wp2_with (first | (go_at_call 28; refine (want_no _ _ _).mono ?_; rintro e w6 ⟨rfl,k6⟩))
  exact ⟨rfl,rfl,hg5.out.trans (k6.toGrw R)⟩
end Go.Proofs.Ytocjfdiimapojaa
