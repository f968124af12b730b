/- The shapes of what was read are what they were. -/
import Derived.Test.YtocjfdiimapojaaND
import Derived.Test.YtocjfdiimapojaaTD
namespace Go.Proofs.Ytocjfdiimapojaa
open Go.ChangeShapes Go.WideShapes Go.ChangeAt Go.RowKit
set_option maxHeartbeats 16000000
set_option maxRecDepth 100000
set_option linter.unusedVariables false
set_option linter.unusedSimpArgs false
theorem shapes_any (K S1 C1 S2 C2 : Nat) (r0 r1 : Value) (xs ys : List KE) (hln : xs.length = ys.length) (hl9 : xs.length ≤ 1000) (hsm : ∀ (i : Nat) (x y : KE),xs[i]? = some x → ys[i]? = some y → x.ms.length = y.ms.length ∧ ∀ j c,j < x.ms.length → c < 3 → ∃ z : Int,x.V[j * 4 + c]? = some (.int .i64 z) ∧ y.V[j * 4 + c]? = some (.int .i64 z)) (u : World)
  (hk : Bk u K [r0,r1,.slice (some ⟨S1,0,none⟩) xs.length C1,.slice (some ⟨S2,0,none⟩) ys.length C2]) (hs1 : OwnS u S1 C1 7 35 (xs.flatMap row7)) (hs2 : OwnS u S2 C2 7 35 (ys.flatMap row7)) (hx : ∀ z ∈ xs ++ ys,z.ok u) :
  Calls Try.prog 37 #[.pointer (some ⟨K,0,none⟩)] u fun e w' => e = .returned (.bool true) ∧ Kept u w':=by
 rw [← hln] at hk
 obtain ⟨n,hn⟩ : ∃ n,xs.length = n:=⟨_,rfl⟩
 rw [hn] at hk hl9
 have HNN:=hid (show xs.length = n ∧ ys.length = n ∧ n ≤ 1000 by omega)
 have HP0 : Hid (∀ w,Kept u w → Bk w K [r0,r1,.slice (some ⟨S1,0,none⟩) n C1,.slice (some ⟨S2,0,none⟩) n C2] ∧ OwnS w S1 C1 7 35 (xs.flatMap row7) ∧ OwnS w S2 C2 7 35 (ys.flatMap row7) ∧ (∀ z ∈ xs ++ ys,z.ok w)):=fun w k => ⟨hk.kept k,hs1.kept k,hs2.kept k,fun z hz => (hx z hz).kept k⟩
 have HSm:=hid hsm
 clear hk hs1 hs2 hx hsm hln hl9 hn
 go_enter Try.func37,Try.ntmps37
 go_wp2_with fail
 go_loopw [3] (fun iv wr => ∃ i : Nat,i ≤ n ∧ iv = .int .i64 (i : Int) ∧ Kept u wr) (fun iv _ => n - (intOf iv).toNat)
 case atStart => exact ⟨0,Nat.zero_le _,rfl,Kept.refl _⟩
 case round =>
  obtain ⟨i,hi,rfl,kr⟩:=hrel
  obtain ⟨qk,qs,qt,qx⟩:=HP0.out wr kr
  have cK:=qk.c 2 _ rfl
  have KR:=hid kr
  by_cases hin : i < n
  ·obtain ⟨x,hxi⟩ : ∃ x,xs[i]? = some x:=⟨_,List.getElem?_eq_getElem (by have:=HNN.out; omega)⟩
   obtain ⟨y,hyi⟩ : ∃ y,ys[i]? = some y:=⟨_,List.getElem?_eq_getElem (by have:=HNN.out; omega)⟩
   have HMt:=hid (matrices_any x wr (qx x (List.mem_append_left _ (List.mem_of_getElem? hxi))))
   have HMy:=hid (fun w (k : Kept u w) => matrices_any y w ((HP0.out w k).2.2.2 y (List.mem_append_right _ (List.mem_of_getElem? hyi))))
   obtain ⟨e0,e1,e2,e3,e4,e5,e6⟩ : _ ∧ _ ∧ _ ∧ _ ∧ _ ∧ _ ∧ _:=⟨qs.cell (i * 7 + 0) _ (rows7_get xs i x 0 hxi (by decide)),qs.cell (i * 7 + 1) _ (rows7_get xs i x 1 hxi (by decide)),qs.cell (i * 7 + 2) _ (rows7_get xs i x 2 hxi (by decide)),qs.cell (i * 7 + 3) _ (rows7_get xs i x 3 hxi (by decide)),qs.cell (i * 7 + 4) _ (rows7_get xs i x 4 hxi (by decide)),qs.cell (i * 7 + 5) _ (rows7_get xs i x 5 hxi (by decide)),qs.cell (i * 7 + 6) _ (rows7_get xs i x 6 hxi (by decide))⟩
   rw [Nat.add_zero] at e0
   have d1 : decide ((i : Int) < (n : Int)) = true:=decide_eq_true (by omega)
   have d2 : decide (i < n) = true:=decide_eq_true hin
   have hbd : (0 : Int) ≤ (i : Int) ∧ (i : Int) < (n : Int):=by omega
   have z9 : IntKind.i64.wrap ((i : Int) + 1) = (i : Int) + 1:=by have:=HNN.out; rw [wrap_i64]; omega
   have HSi:=hid (HSm.out i x y hxi hyi)
   have HYi:=hid hyi
   have HII:=hid hin
   have HXn : Hid (x.ms.length ≤ 320):=by
    have h1:=(qx x (List.mem_append_left _ (List.mem_of_getElem? hxi))).n
    have h2:=flat_take_le x.s.Q h1.2.2 x.s.Q.length
    rw [List.take_length] at h2
    have h3 : x.ms.length = x.s.P.length + x.s.Q.flatten.length:=List.length_append
    show x.ms.length ≤ 320
    omega
   clear hin hi qk qs qt qx kr hxi hyi
   go_wp2_with fail
   go_at_call 36
   refine HMt.out.mono ?_
   rintro e w2 ⟨k2,v,rfl,hv⟩
   obtain ⟨mk,hmk⟩ : ∃ mk,x.ms.length = mk:=⟨_,rfl⟩
   rw [hmk] at hv
   obtain ⟨va,vc,rfl⟩:=hv.form
   have KR2:=hid (KR.out.trans k2)
   have HV:=hid hv
   have HMk:=hid hmk
   obtain ⟨qk,-,qt,-⟩:=HP0.out w2 KR2.out
   clear hv k2 hmk cK e0 e1 e2 e3 e4 e5 e6 HMt KR d1 d2
   have cK:=qk.c 3 _ rfl
   have hyi:=HYi.out
   obtain ⟨e0,e1,e2,e3,e4,e5,e6⟩ : _ ∧ _ ∧ _ ∧ _ ∧ _ ∧ _ ∧ _:=⟨qt.cell (i * 7 + 0) _ (rows7_get ys i y 0 hyi (by decide)),qt.cell (i * 7 + 1) _ (rows7_get ys i y 1 hyi (by decide)),qt.cell (i * 7 + 2) _ (rows7_get ys i y 2 hyi (by decide)),qt.cell (i * 7 + 3) _ (rows7_get ys i y 3 hyi (by decide)),qt.cell (i * 7 + 4) _ (rows7_get ys i y 4 hyi (by decide)),qt.cell (i * 7 + 5) _ (rows7_get ys i y 5 hyi (by decide)),qt.cell (i * 7 + 6) _ (rows7_get ys i y 6 hyi (by decide))⟩
   rw [Nat.add_zero] at e0
   clear qk qt hyi
   go_wp2_with fail
   go_at_call 36
   refine (HMy.out _ KR2.out).mono ?_
   rintro e w3 ⟨k3,v,rfl,hv⟩
   rw [← HSi.out.1,HMk.out] at hv
   obtain ⟨vb,vd,rfl⟩:=hv.form
   have KR3:=hid (KR2.out.trans k3)
   have HVx:=hid (HV.out.kept k3)
   have HVy:=hid hv
   have HCl : Hid (∀ j,j < mk → ∃ z0 z1 z2 : Int,x.V[j * 4]? = some (.int .i64 z0) ∧ y.V[j * 4]? = some (.int .i64 z0) ∧ x.V[j * 4 + 1]? = some (.int .i64 z1) ∧ y.V[j * 4 + 1]? = some (.int .i64 z1) ∧ x.V[j * 4 + 2]? = some (.int .i64 z2) ∧ y.V[j * 4 + 2]? = some (.int .i64 z2)):=fun j hj => by
    have hj2 : j < x.ms.length:=by rw [HMk.out]; exact hj
    obtain ⟨z0,h1,h2⟩:=HSi.out.2 j 0 hj2 (by decide)
    obtain ⟨z1,h3,h4⟩:=HSi.out.2 j 1 hj2 (by decide)
    obtain ⟨z2,h5,h6⟩:=HSi.out.2 j 2 hj2 (by decide)
    exact ⟨z0,z1,z2,h1,h2,h3,h4,h5,h6⟩
   clear hv k3 cK e0 e1 e2 e3 e4 e5 e6 HMy KR2 HV hbd
   have HM3:=hid (show mk ≤ 320 by rw [← HMk.out]; exact HXn.out)
   go_wp2_with fail
   go_loopw [6] (fun jv wr => ∃ j : Nat,j ≤ mk ∧ jv = .int .i64 (j : Int) ∧ Kept w3 wr) (fun jv _ => mk - (intOf jv).toNat)
   case atStart => exact ⟨0,Nat.zero_le _,rfl,Kept.refl _⟩
   case round =>
    obtain ⟨j,hj,rfl,kr⟩:=hrel
    have KR4:=hid kr
    by_cases hjm : j < mk
    ·obtain ⟨z0,z1,z2,h1,h2,h3,h4,h5,h6⟩:=HCl.out j hjm
     have hva : ∃ ga,va = some ⟨ga,0,none⟩ ∧ wr.cell? ⟨ga,j * 4,none⟩ = some (.int .i64 z0) ∧ wr.cell? ⟨ga,j * 4 + 1,none⟩ = some (.int .i64 z1) ∧ wr.cell? ⟨ga,j * 4 + 2,none⟩ = some (.int .i64 z2):=by
      rcases HVx.out.kept kr with ⟨h0,-,-⟩ | ⟨g,cap,e,-,-,-,ho⟩
      ·omega
      ·cases e
       exact ⟨g,rfl,ho.cell _ _ h1,ho.cell _ _ h3,ho.cell _ _ h5⟩
     have hvb : ∃ gb,vb = some ⟨gb,0,none⟩ ∧ wr.cell? ⟨gb,j * 4,none⟩ = some (.int .i64 z0) ∧ wr.cell? ⟨gb,j * 4 + 1,none⟩ = some (.int .i64 z1) ∧ wr.cell? ⟨gb,j * 4 + 2,none⟩ = some (.int .i64 z2):=by
      rcases HVy.out.kept kr with ⟨h0,-,-⟩ | ⟨g,cap,e,-,-,-,ho⟩
      ·omega
      ·cases e
       exact ⟨g,rfl,ho.cell _ _ h2,ho.cell _ _ h4,ho.cell _ _ h6⟩
     obtain ⟨ga,rfl,a0,a1,a2⟩:=hva
     obtain ⟨gb,rfl,b0,b1,b2⟩:=hvb
     have d3 : decide ((j : Int) < (mk : Int)) = true:=decide_eq_true (by omega)
     have d4 : decide (j < mk) = true:=decide_eq_true hjm
     have hbj : (0 : Int) ≤ (j : Int) ∧ (j : Int) < (mk : Int):=by omega
     have z8 : IntKind.i64.wrap ((j : Int) + 1) = (j : Int) + 1:=by have:=HM3.out; rw [wrap_i64]; omega
     have HJJ:=hid hjm
     clear h1 h2 h3 h4 h5 h6 hjm hj kr
     go_wp2_with fail
     refine wp_region_late [] (fun u => u.cell? ⟨ga,j * 4,none⟩ = some (.int .i64 z0) ∧ u.cell? ⟨gb,j * 4,none⟩ = some (.int .i64 z0) ∧ u.cell? ⟨ga,j * 4 + 1,none⟩ = some (.int .i64 z1) ∧ u.cell? ⟨gb,j * 4 + 1,none⟩ = some (.int .i64 z1) ∧ u.cell? ⟨ga,j * 4 + 2,none⟩ = some (.int .i64 z2) ∧ u.cell? ⟨gb,j * 4 + 2,none⟩ = some (.int .i64 z2)) (by kernel_rfl) (show wr.drew.cell? _ = _ ∧ wr.drew.cell? _ = _ ∧ wr.drew.cell? _ = _ ∧ wr.drew.cell? _ = _ ∧ wr.drew.cell? _ = _ ∧ wr.drew.cell? _ = _ from ⟨a0,b0,a1,b1,a2,b2⟩) (fun hHeld => ?_)
     refine tkD (i:=0) (v:=?_) rfl hHeld ?_
     (try simp only [Act.put,zA,zB,zC,zD,zE,zF])
     refine tkD (i:=1) (v:=?_) rfl hHeld ?_
     (try simp only [Act.put,zA,zB,zC,zD,zE,zF])
     refine tkD (i:=2) (v:=?_) rfl hHeld ?_
     (try simp only [Act.put,zA,zB,zC,zD,zE,zF])
     refine tkD (i:=3) (v:=?_) rfl hHeld ?_
     (try simp only [Act.put,zA,zB,zC,zD,zE,zF])
     refine tkD (i:=4) (v:=?_) rfl hHeld ?_
     (try simp only [Act.put,zA,zB,zC,zD,zE,zF])
     refine tkD (i:=5) (v:=?_) rfl hHeld ?_
     (try simp only [Act.put,zA,zB,zC,zD,zE,zF])
     refine tkD (i:=6) (v:=?_) rfl hHeld ?_
     (try simp only [Act.put,zA,zB,zC,zD,zE,zF])
     refine tkD (i:=7) (v:=?_) rfl hHeld ?_
     (try simp only [Act.put,zA,zB,zC,zD,zE,zF])
     refine tkD (i:=8) (v:=?_) rfl hHeld ?_
     (try simp only [Act.put,zA,zB,zC,zD,zE,zF])
     refine tkD (i:=9) (v:=?_) rfl hHeld ?_
     (try simp only [Act.put,zA,zB,zC,zD,zE,zF])
     refine tkD (i:=10) (v:=?_) rfl hHeld ?_
     (try simp only [Act.put,zA,zB,zC,zD,zE,zF])
     refine tkD (i:=11) (v:=?_) rfl hHeld ?_
     (try simp only [Act.put,zA,zB,zC,zD,zE,zF])
     refine tkD (i:=12) (v:=?_) rfl hHeld ?_
     (try simp only [Act.put,zA,zB,zC,zD,zE,zF])
     refine tkD (i:=13) (v:=?_) rfl hHeld ?_
     (try simp only [Act.put,zA,zB,zC,zD,zE,zF])
     refine tkD (i:=14) (v:=?_) rfl hHeld ?_
     (try simp only [Act.put,zA,zB,zC,zD,zE,zF])
     refine tkD (i:=15) (v:=?_) rfl hHeld ?_
     (try simp only [Act.put,zA,zB,zC,zD,zE,zF])
     refine tkD (i:=16) (v:=?_) rfl hHeld ?_
     (try simp only [Act.put,zA,zB,zC,zD,zE,zF])
     refine tkD (i:=17) (v:=?_) rfl hHeld ?_
     (try simp only [Act.put,zA,zB,zC,zD,zE,zF])
     refine tkD (i:=18) (v:=?_) rfl hHeld ?_
     (try simp only [Act.put,zA,zB,zC,zD,zE,zF])
     refine tkD (i:=19) (v:=?_) rfl hHeld ?_
     (try simp only [Act.put,zA,zB,zC,zD,zE,zF])
     refine tkD (i:=20) (v:=?_) rfl hHeld ?_
     (try simp only [Act.put,zA,zB,zC,zD,zE,zF])
     refine tkD (i:=21) (v:=?_) rfl hHeld ?_
     (try simp only [Act.put,zA,zB,zC,zD,zE,zF])
     refine tkD (i:=22) (v:=?_) rfl hHeld ?_
     (try simp only [Act.put,zA,zB,zC,zD,zE,zF])
     refine tkD (i:=23) (v:=?_) rfl hHeld ?_
     (try simp only [Act.put,zA,zB,zC,zD,zE,zF])
     refine tkD (i:=24) (v:=?_) rfl hHeld ?_
     (try simp only [Act.put,zA,zB,zC,zD,zE,zF])
     refine tkD (i:=25) (v:=?_) rfl hHeld ?_
     (try simp only [Act.put,zA,zB,zC,zD,zE,zF])
     refine tkD (i:=26) (v:=?_) rfl hHeld ?_
     (try simp only [Act.put,zA,zB,zC,zD,zE,zF])
     refine tkD (i:=27) (v:=?_) rfl hHeld ?_
     (try simp only [Act.put,zA,zB,zC,zD,zE,zF])
     refine tkD (i:=28) (v:=?_) rfl hHeld ?_
     (try simp only [Act.put,zA,zB,zC,zD,zE,zF])
     refine tkD (i:=29) (v:=?_) rfl hHeld ?_
     (try simp only [Act.put,zA,zB,zC,zD,zE,zF])
     refine tkD (i:=30) (v:=?_) rfl hHeld ?_
     (try simp only [Act.put,zA,zB,zC,zD,zE,zF])
     refine tkD (i:=31) (v:=?_) rfl hHeld ?_
     (try simp only [Act.put,zA,zB,zC,zD,zE,zF])
     refine tkD (i:=32) (v:=?_) rfl hHeld ?_
     (try simp only [Act.put,zA,zB,zC,zD,zE,zF])
     refine tkD (i:=33) (v:=?_) rfl hHeld ?_
     (try simp only [Act.put,zA,zB,zC,zD,zE,zF])
     refine tkD (i:=34) (v:=?_) rfl hHeld ?_
     (try simp only [Act.put,zA,zB,zC,zD,zE,zF])
     refine tkD (i:=35) (v:=?_) rfl hHeld ?_
     (try simp only [Act.put,zA,zB,zC,zD,zE,zF])
     refine tkD (i:=36) (v:=?_) rfl hHeld ?_
     (try simp only [Act.put,zA,zB,zC,zD,zE,zF])
     refine wpAnyD_done (by kernel_rfl) ?_ _
     (try simp only [Act.put,zA,zB,zC,zD,zE,zF])
     have KR5:=hid (KR4.out.trans (Kept.refl wr).drew)
     clear hHeld a0 a1 a2 b0 b1 b2
     go_wp2_with fail
     go_roundw
     case rel => exact ⟨j + 1,by have:=HJJ.out; omega,by go_num,KR5.out⟩
     case measure => have:=HJJ.out; simp [intOf]; omega
    ·obtain rfl : mk = j:=by omega
     have d3 : decide ((mk : Int) < (mk : Int)) = false:=decide_eq_false (by omega)
     have d4 : decide (mk < mk) = false:=decide_eq_false (by omega)
     clear hj hjm kr
     go_wp2_with fail
     go_roundw
     case rel => exact ⟨i + 1,by have:=HII.out; omega,by go_num,KR3.out.trans KR4.out⟩
     case measure => have:=HII.out; simp [intOf]; omega
  ·obtain rfl : n = i:=by omega
   have d1 : decide ((n : Int) < (n : Int)) = false:=decide_eq_false (by omega)
   have d2 : decide (n < n) = false:=decide_eq_false (by omega)
   clear hin hi qk qs qt qx kr
   go_wp2_with fail
   go_ret
   exact ⟨rfl,KR.out⟩
end Go.Proofs.Ytocjfdiimapojaa
