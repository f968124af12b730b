/- The lists of bits of what was read are marked,grown,looked at; all lists are grown. -/
import Derived.Test.YtocjfdiimapojaaND
import Derived.Test.YtocjfdiimapojaaMF
namespace Go.Proofs.Ytocjfdiimapojaa
open Go.ChangeShapes Go.WideShapes Go.ChangeAt Go.RowKit
set_option maxHeartbeats 16000000
set_option maxRecDepth 100000
set_option linter.unusedVariables false
set_option linter.unusedSimpArgs false
theorem lli_under : Try.prog.underlying 75 = some (.slice 52):=by kernel_rfl
theorem lli_info : (Try.prog.info? 52).map (fun i => (i.zero,i.size,i.bytes)) = some (some (.slice none 0 0),1,24):=by kernel_rfl
theorem li_undery : Try.prog.underlying 52 = some (.slice 3):=by kernel_rfl
theorem li_infoy : (Try.prog.info? 3).map (fun i => (i.zero,i.size,i.bytes)) = some (some (.int .i64 0),1,8):=by kernel_rfl
theorem Pic.hdr {E : Env} {P : Nat → List Int → Prop} {w : World} (h : Pic E P w) (i : Nat) (v : Value) (hi : E.bs[i]? = some v) : ∃ gb c,E.bv = .slice (some ⟨gb,0,none⟩) E.bs.length c ∧ w.cell? ⟨gb,i,none⟩ = some v:=by
 rcases h.bl with ⟨h0,-,-⟩ | ⟨g,cap,e,-,-,-,ho⟩
 ·rw [List.getElem?_eq_none (by omega)] at hi
  cases hi
 ·exact ⟨g,cap,e,ho.cell i v hi⟩
theorem Pic.row {E : Env} {P : Nat → List Int → Prop} {w : World} (h : Pic E P w) (i : Nat) (x : KE) (hi : E.xs[i]? = some x) (c : Nat) (hc : c < 7) (v : Value) (hv : (row7 x)[c]? = some v) : w.cell? ⟨E.S1,i * 7 + c,none⟩ = some v:=h.s1.cell _ _ ((rows7_get E.xs i x c hi hc).trans hv)
/-- The marks of the first i lists,and the first j of the next one. -/
def Pa (i j : Nat) (k : Nat) (L : List Int) : Prop:=(k < i → L = List.replicate L.length (-3 - (k : Int))) ∧ (k = i → L.take j = List.replicate j (-3 - (k : Int)))
def Pm (k : Nat) (L : List Int) : Prop:=L = List.replicate L.length (-3 - (k : Int))
theorem pa_step (i j : Nat) (L : List Int) (hj : j < L.length) (h : Pa i j i L) : Pa i (j + 1) i (L.set j (-3 - (i : Int))):=by
 refine ⟨fun h => absurd h (Nat.lt_irrefl _),fun _ => ?_⟩
 rw [List.take_add_one,List.take_set_of_le (Nat.le_refl _),h.2 rfl]
 simp [hj,List.replicate_succ']
theorem pa_next (i : Nat) (k : Nat) (L : List Int) (n : Nat) (hn : k = i → L.length = n) (h : Pa i n k L) : Pa (i + 1) 0 k L:=by
 refine ⟨fun hk => ?_,fun _ => rfl⟩
 by_cases hki : k = i
 ·have h2:=h.2 hki
  rw [List.take_of_length_le (by rw [hn hki]; exact Nat.le_refl _)] at h2
  rw [hn hki]
  exact h2
 ·exact h.1 (by omega)
theorem Pic.imp2 {E : Env} {P Q : Nat → List Int → Prop} {w : World} (h : Pic E P w) (hi : ∀ (i : Nat) (v : Value) (g n : Nat) (L : List Int),E.bs[i]? = some v → v = .slice (some ⟨g,0,none⟩) n n → L.length = n → P i L → Q i L) : Pic E Q w :=
 ⟨h.k,h.s1,h.s2,h.x,h.bl,fun i v hv => by
  obtain ⟨g,n,L,a1,a2,a3,a4,a5⟩:=h.b i v hv
  exact ⟨g,n,L,a1,a2,a3,hi i v g n L hv a1 a2 a4,a5⟩⟩
theorem own_set {w : World} {g c : Nat} {L : List Int} (h : Own w g c L) (j : Nat) (x : Int) : Own (w.setCell ⟨g,j,none⟩ (.int .i64 x)) g c (L.set j x):=own_v.2 (by rw [List.map_set]; exact (own_v.1 h).set j _)
theorem own_cell {w : World} {g c : Nat} {L : List Int} (h : Own w g c L) (j : Nat) (hj : j < L.length) : w.cell? ⟨g,j,none⟩ = some (.int .i64 (L.getD j 0)):=by
 refine (ownS1.2 h).cell j _ ?_
 rw [List.getElem?_map,List.getElem?_eq_getElem hj,List.getD_eq_getElem?_getD,List.getElem?_eq_getElem hj]
 rfl
theorem lists_any (K S1 C1 S2 C2 : Nat) (r0 r1 : Value) (xs ys : List KE) (bs : List Value) (Hm : Nat) (hE : Env.st ⟨K,S1,C1,S2,C2,r0,r1,xs,ys,.slice none 0 0,bs,Hm⟩) (hbs : bs = xs.flatMap (fun x => bslM x.V)) (u : World)
  (hk : Bk u K [r0,r1,.slice (some ⟨S1,0,none⟩) xs.length C1,.slice (some ⟨S2,0,none⟩) ys.length C2]) (hs1 : OwnS u S1 C1 7 35 (xs.flatMap row7)) (hs2 : OwnS u S2 C2 7 35 (ys.flatMap row7)) (hx : ∀ z ∈ xs ++ ys,z.ok u)
  (hb : ∀ (i : Nat) (v : Value),bs[i]? = some v → ∃ g n L,v = .slice (some ⟨g,0,none⟩) n n ∧ L.length = n ∧ n ≤ 4096 ∧ Own u g n L) (hHm : Hm ≤ u.heap.size)
  (hsh : ∀ w,Bk w K [r0,r1,.slice (some ⟨S1,0,none⟩) xs.length C1,.slice (some ⟨S2,0,none⟩) ys.length C2] → OwnS w S1 C1 7 35 (xs.flatMap row7) → OwnS w S2 C2 7 35 (ys.flatMap row7) → (∀ z ∈ xs ++ ys,z.ok w) → Calls Try.prog 37 #[.pointer (some ⟨K,0,none⟩)] w fun e w' => e = .returned (.bool true) ∧ Kept w w') :
  Calls Try.prog 19 #[.pointer (some ⟨K,0,none⟩)] u fun e w' => e = .returned (.bool true) ∧ KX (fun b => Hm ≤ b) u w':=by
 obtain ⟨n,hn⟩ : ∃ n,xs.length = n:=⟨_,rfl⟩
 obtain ⟨H0,hH0⟩ : ∃ H0,u.heap.size = H0:=⟨_,rfl⟩
 obtain ⟨A,hA⟩ : ∃ A : Nat → List Value,∀ i,(xs.take i).flatMap (fun x => bslM x.V) = A i:=⟨_,fun _ => rfl⟩
 have HA0:=hid (show A 0 = [] by rw [← hA 0]; rfl)
 have HAs : Hid (∀ (i : Nat) (x : KE),xs[i]? = some x → A (i + 1) = A i ++ bslM x.V):=fun i x h => by
  rw [← hA,← hA,List.take_add_one,h]
  simp
 have HAn:=hid (show A n = bs by rw [← hA n,hbs,List.take_of_length_le (by omega)])
 have HAle : Hid (∀ i,(A i).length ≤ bs.length):=fun i => by
  rw [← hA i,hbs]
  conv => rhs; rw [← List.take_append_drop i xs,List.flatMap_append,List.length_append]
  omega
 have HE:=hid hE
 have HNN:=hid (show n ≤ 1000 ∧ bs.length ≤ 1000000 by rw [← hn]; exact ⟨hE.n.1,hE.n.2.2⟩)
 have HXN:=hid hn
 have HHm:=hid (show Hm ≤ H0 ∧ K < Hm ∧ u.heap.size = H0 from ⟨by omega,hE.hK,hH0⟩)
 have HP0 : Hid (∀ w,Kept u w → Bk w K [r0,r1,.slice (some ⟨S1,0,none⟩) n C1,.slice (some ⟨S2,0,none⟩) ys.length C2] ∧ OwnS w S1 C1 7 35 (xs.flatMap row7) ∧ OwnS w S2 C2 7 35 (ys.flatMap row7) ∧ (∀ z ∈ xs ++ ys,z.ok w)):=fun w k => by
  rw [← hn]
  exact ⟨hk.kept k,hs1.kept k,hs2.kept k,fun z hz => (hx z hz).kept k⟩
 have HB0:=hid hb
 have HSh:=hid hsh
 clear hk hs1 hs2 hx hb hsh hE hn hA hHm hH0
 go_enter Try.func19,Try.ntmps19
 go_wp2_with fail
 go_loopw [3,4] (fun lv iv wr => ∃ (i : Nat) (ba : Option Addr) (bc : Nat),i ≤ n ∧ lv = .slice ba (A i).length bc ∧ iv = .int .i64 (i : Int) ∧ Kept u wr ∧ MS 1 52 H0 wr (.slice ba (A i).length bc) (A i).length (A i)) (fun _ iv _ => n - (intOf iv).toNat)
 case atStart => exact ⟨0,none,0,Nat.zero_le _,by rw [HA0.out]; rfl,rfl,Kept.refl _,.inl ⟨by rw [HA0.out]; rfl,HA0.out,by rw [HA0.out]; rfl⟩⟩
 case round =>
  obtain ⟨i,ba,bc,hi,rfl,rfl,kr,hbm⟩:=hrel
  obtain ⟨qk,qs,-,qx⟩:=HP0.out wr kr
  have cK:=qk.c 2 _ rfl
  have KR:=hid kr
  have HBm:=hid hbm
  by_cases hin : i < n
  ·obtain ⟨x,hxi⟩ : ∃ x,xs[i]? = some x:=⟨_,List.getElem?_eq_getElem (by have:=HXN.out; omega)⟩
   have hxm : x ∈ xs:=List.mem_of_getElem? hxi
   have HXo:=hid (qx x (List.mem_append_left _ hxm))
   have HMt:=hid (matrices_any x wr HXo.out)
   obtain ⟨e0,e1,e2,e3,e4,e5,e6⟩ : _ ∧ _ ∧ _ ∧ _ ∧ _ ∧ _ ∧ _:=⟨qs.cell (i * 7 + 0) _ (rows7_get xs i x 0 hxi (by decide)),qs.cell (i * 7 + 1) _ (rows7_get xs i x 1 hxi (by decide)),qs.cell (i * 7 + 2) _ (rows7_get xs i x 2 hxi (by decide)),qs.cell (i * 7 + 3) _ (rows7_get xs i x 3 hxi (by decide)),qs.cell (i * 7 + 4) _ (rows7_get xs i x 4 hxi (by decide)),qs.cell (i * 7 + 5) _ (rows7_get xs i x 5 hxi (by decide)),qs.cell (i * 7 + 6) _ (rows7_get xs i x 6 hxi (by decide))⟩
   rw [Nat.add_zero] at e0
   have d1 : decide ((i : Int) < (n : Int)) = true:=decide_eq_true (by omega)
   have d2 : decide (i < n) = true:=decide_eq_true hin
   have hbd : (0 : Int) ≤ (i : Int) ∧ (i : Int) < (n : Int):=by omega
   have z9 : IntKind.i64.wrap ((i : Int) + 1) = (i : Int) + 1:=by have:=HNN.out; rw [wrap_i64]; omega
   have HXi:=hid hxi
   have HII:=hid hin
   clear hxm hin hi qk qs qx kr hbm hxi
   go_wp2_with fail
   go_at_call 36
   refine HMt.out.mono ?_
   rintro e w2 ⟨k2,v,rfl,hv⟩
   obtain ⟨mk,hmk⟩ : ∃ mk,x.ms.length = mk:=⟨_,rfl⟩
   rw [hmk] at hv
   obtain ⟨va,vc,rfl⟩:=hv.form
   have hVl:=hv.len
   obtain ⟨R,hR⟩ : ∃ R : Nat → List Value,∀ j,A i ++ (bslM x.V).take j = R j:=⟨_,fun _ => rfl⟩
   have HR0:=hid (show R 0 = A i by rw [← hR 0]; simp)
   have HRs : Hid (∀ j,j < mk → ∃ d,x.V[j * 4 + 3]? = some d ∧ R (j + 1) = R j ++ [d]):=fun j hj => by
    obtain ⟨d,h1,h2⟩:=bslM_get mk x.V hVl j hj
    exact ⟨d,h2,by rw [← hR,← hR,List.take_add_one,h1]; simp⟩
   have HRe:=hid (show R mk = A (i + 1) by rw [← hR mk,HAs.out i x HXi.out,List.take_of_length_le (by rw [bslM_len mk x.V hVl]; exact Nat.le_refl _)])
   have HRle : Hid (∀ j,(R j).length ≤ bs.length):=fun j => by
    have h1:=HAle.out (i + 1)
    rw [HAs.out i x HXi.out,List.length_append] at h1
    rw [← hR j,List.length_append,List.length_take]
    omega
   have KR2:=hid (KR.out.trans k2)
   have HV:=hid (hv.mono (Nat.zero_le _))
   have HMk : Hid (mk ≤ 320):=by
    have h1:=HXo.out.n
    have h2:=flat_take_le x.s.Q h1.2.2 x.s.Q.length
    rw [List.take_length] at h2
    have h3 : x.ms.length = x.s.P.length + x.s.Q.flatten.length:=List.length_append
    show mk ≤ 320
    omega
   have HBm2:=hid (show MS 1 52 H0 w2 (.slice ba (R 0).length bc) (R 0).length (R 0) by rw [HR0.out]; exact HBm.out.kept k2)
   rw [← HR0.out]
   clear hv hVl hR k2 hmk cK e0 e1 e2 e3 e4 e5 e6 HMt HBm KR d1 d2 hbd
   go_wp2_with fail
   go_loopw [3,6] (fun lv jv wr => ∃ (j : Nat) (ba : Option Addr) (bc : Nat),j ≤ mk ∧ lv = .slice ba (R j).length bc ∧ jv = .int .i64 (j : Int) ∧ Kept u wr ∧ MS 4 54 0 wr (.slice va mk vc) mk x.V ∧ MS 1 52 H0 wr (.slice ba (R j).length bc) (R j).length (R j)) (fun _ jv _ => mk - (intOf jv).toNat)
   case atStart => exact ⟨0,ba,bc,Nat.zero_le _,rfl,rfl,KR2.out,HV.out,HBm2.out⟩
   case round =>
    clear KR2 HV HBm2
    obtain ⟨j,ba,bc,hj,rfl,rfl,kr,hv,hbm⟩:=hrel
    have KR:=hid kr
    have HV:=hid hv
    by_cases hjm : j < mk
    ·obtain ⟨d,hd,hRj⟩:=HRs.out j hjm
     have hvg : ∃ gv,va = some ⟨gv,0,none⟩ ∧ wr.cell? ⟨gv,j * 4 + 3,none⟩ = some d:=by
      rcases hv with ⟨h0,-,-⟩ | ⟨g,cap,e,-,-,-,ho⟩
      ·omega
      ·cases e
       exact ⟨g,rfl,ho.cell _ _ hd⟩
     obtain ⟨gv,rfl,ed⟩:=hvg
     have d1 : decide ((j : Int) < (mk : Int)) = true:=decide_eq_true (by omega)
     have d2 : decide (j < mk) = true:=decide_eq_true hjm
     have hbd : (0 : Int) ≤ (j : Int) ∧ (j : Int) < (mk : Int):=by omega
     have z8 : IntKind.i64.wrap ((j : Int) + 1) = (j : Int) + 1:=by have:=HMk.out; rw [wrap_i64]; omega
     have hRl : (R j).length + 1 = (R (j + 1)).length:=by rw [hRj,List.length_append]; rfl
     obtain ⟨da,dn,dc,rfl⟩:=HXo.out.sl j d hd
     obtain ⟨v',w',hr,hm',kx'⟩:=app_elemx 75 52 lli_under (.slice none 0 0) 1 24 lli_info rfl (by decide) H0 wr (.slice ba (R j).length bc) (R j).length (R j) hbm [.slice da dn dc] rfl (fun u hu => by rw [List.mem_singleton] at hu; rw [hu]; rfl) (by have:=kr.below.size; have:=HHm.out; omega) (by
      have h9 : (R j).length ≤ bs.length:=HRle.out j
      have:=HNN.out
      omega)
     rw [hRl,← hRj] at hm'
     obtain ⟨ba',bc',rfl⟩:=hm'.form
     have hnb : ∀ b,(∃ n c,(Value.slice ba (R j).length bc) = .slice (some ⟨b,0,none⟩) n c) → H0 ≤ b:=fun b ⟨n,c,e⟩ => by
      rcases hbm with ⟨-,-,e2⟩ | ⟨g,cap,e2,hg,-⟩
      ·rw [e] at e2; cases e2
      ·rw [e] at e2; cases e2; exact hg
     have HR:=hid hr
     have HM2:=hid hm'
     have HK2:=hid (kept_of_kx kr kx' (fun b hb => by have:=hnb b hb; have:=HHm.out; omega))
     have HV2:=hid (hv.onx kx' (fun b hb hx => by
      obtain ⟨c1,h1⟩:=hv.ty hb
      obtain ⟨c2,h2⟩:=hbm.ty hx
      rw [h1] at h2
      simp at h2))
     have HII2:=hid hjm
     clear kr hv hbm hr hm' kx' hnb hRl hd hRj hjm hj KR HV
     go_wp2_with (first | (at_builtin; refine wpList_append_run rfl _ _ _ rfl _ _ rfl rfl _ _ (HR.out _) ?_; clear HR))
     go_roundw
     case rel => exact ⟨j + 1,ba',bc',by have:=HII2.out; omega,rfl,by go_num,HK2.out,HV2.out,HM2.out⟩
     case measure => have:=HII2.out; simp [intOf]; omega
    ·obtain rfl : j = mk:=by omega
     have d1 : decide ((j : Int) < (j : Int)) = false:=decide_eq_false (by omega)
     have d2 : decide (j < j) = false:=decide_eq_false (by omega)
     have HM2:=hid hbm
     clear hv hjm hj hbm kr HV
     go_wp2_with fail
     go_roundw
     case rel => exact ⟨i + 1,ba,bc,by have:=HII.out; omega,by rw [← HRe.out],by go_num,KR.out,by rw [← HRe.out]; exact HM2.out⟩
     case measure => have:=HII.out; simp [intOf]; omega
  ·obtain rfl : n = i:=by omega
   have d1 : decide ((n : Int) < (n : Int)) = false:=decide_eq_false (by omega)
   have d2 : decide (n < n) = false:=decide_eq_false (by omega)
   rw [HAn.out] at hbm
   rw [HAn.out]
   obtain ⟨N,hN⟩ : ∃ N,bs.length = N:=⟨_,rfl⟩
   obtain ⟨E,hEq⟩ : ∃ E : Env,E = ⟨K,S1,C1,S2,C2,r0,r1,xs,ys,.slice ba bs.length bc,bs,Hm⟩:=⟨_,rfl⟩
   have HSt : Hid E.st:=by
    rw [hEq]
    exact ⟨HE.out.n,HE.out.al,HE.out.aq,HE.out.ab,HE.out.hK,HE.out.hb,HE.out.hl,HE.out.hq⟩
   have HPic : Hid (Pic E (fun _ _ => True) wr):=by
    obtain ⟨q1,q2,q3,q4⟩:=HP0.out wr kr
    rw [hEq]
    refine ⟨by rw [HXN.out]; exact q1,q2,q3,q4,hbm.mono (Nat.zero_le _),fun i v hv => ?_⟩
    obtain ⟨g,m,L,a1,a2,a3,a4⟩:=HB0.out i v hv
    exact ⟨g,m,L,a1,a2,a3,trivial,ownS1.1 ((ownS1.2 a4).kept kr)⟩
   have HEq:=hid hEq
   have HN:=hid (show bs.length = N ∧ N ≤ 1000000 from ⟨hN,by have:=HNN.out; omega⟩)
   rw [hN]
   clear qk qs qx kr hbm hin hi hEq hN
   go_wp2_with fail
   have HHdr : Hid (∀ P w,Pic E P w → ∀ (i : Nat) (v : Value),bs[i]? = some v → ∃ gb,ba = some ⟨gb,0,none⟩ ∧ w.cell? ⟨gb,i,none⟩ = some v):=fun P w h i v hv => by
    obtain ⟨gb,c,e1,e2⟩:=h.hdr i v (by rw [HEq.out]; exact hv)
    rw [HEq.out] at e1
    cases e1
    exact ⟨gb,rfl,e2⟩
   have HBt : Hid (∀ P w,Pic E P w → ∀ (i : Nat) (v : Value),bs[i]? = some v → ∃ g m L,v = .slice (some ⟨g,0,none⟩) m m ∧ L.length = m ∧ m ≤ 4096 ∧ P i L ∧ Own w g m L):=fun P w h i v hv => h.b i v (by rw [HEq.out]; exact hv)
   have HKc : Hid (∀ P w,Pic E P w → w.cell? ⟨K,2,none⟩ = some (.slice (some ⟨S1,0,none⟩) n C1)):=fun P w h => by
    have h2:=h.k
    rw [HEq.out] at h2
    have h3:=h2.c 2 _ rfl
    rw [HXN.out] at h3
    exact h3
   have HHg : Hid (∀ (i : Nat) (v : Value),bs[i]? = some v → ∀ b,bkv v b → Hm ≤ b):=fun i v hv b hb => HE.out.hb v (List.mem_of_getElem? hv) b hb
   have HEb:=hid (show E.bs = bs by rw [HEq.out])
   have HEx:=hid (show E.xs = xs by rw [HEq.out])
   go_loopw [7] (fun rv wx => ∃ r : Int,(r = 0 ∨ r = 1 ∨ r = 2 ∨ r = 3) ∧ rv = .int .i64 r ∧ KX (fun b => Hm ≤ b) u wx ∧ Pic E (fun _ _ => True) wx ∧ (r ≠ 0 → Pic E Pm wx)) (fun rv _ => 3 - (intOf rv).toNat)
   case atStart => exact ⟨0,.inl rfl,rfl,KR.out.kx _,HPic.out,fun h => absurd rfl h⟩
   case round =>
    clear HPic KR cK
    obtain ⟨r,hr,rfl,kx,hp,hpm⟩:=hrel
    have KXr:=hid kx
    have HPr:=hid hp
    have HPm:=hid hpm
    clear kx hp hpm
    rcases hr with rfl | rfl | rfl | rfl
    ·skip
     go_wp2_with fail
     go_loopw [8] (fun iv wx => ∃ i : Nat,i ≤ N ∧ iv = .int .i64 (i : Int) ∧ KX (fun b => Hm ≤ b) u wx ∧ Pic E (Pa i 0) wx) (fun iv _ => N - (intOf iv).toNat)
     case atStart => exact ⟨0,Nat.zero_le _,rfl,KXr.out,HPr.out.imp (fun k L _ => ⟨fun h => absurd h (Nat.not_lt_zero _),fun _ => rfl⟩)⟩
     case round =>
      clear KXr HPr HPm
      obtain ⟨i,hi,rfl,kx,hp⟩:=hrel
      have KXi:=hid kx
      have HPi:=hid hp
      have cK:=HKc.out _ _ hp
      by_cases hiN : i < N
      ·obtain ⟨v,hv⟩ : ∃ v,bs[i]? = some v:=⟨_,List.getElem?_eq_getElem (by have:=HN.out; omega)⟩
       obtain ⟨g,m,L0,rfl,-,hm,-,-⟩:=HBt.out _ _ hp i v hv
       obtain ⟨gb,e7,eb⟩:=HHdr.out _ _ hp i _ hv
       subst e7
       have d1 : decide ((i : Int) < (N : Int)) = true:=decide_eq_true (by omega)
       have d2 : decide (i < N) = true:=decide_eq_true hiN
       have hbd : (0 : Int) ≤ (i : Int) ∧ (i : Int) < (N : Int):=by omega
       have z7 : IntKind.i64.wrap ((i : Int) + 1) = (i : Int) + 1:=by have:=HN.out; rw [wrap_i64]; omega
       have z3 : IntKind.i64.wrap (-3 - (i : Int)) = -3 - (i : Int):=by have:=HN.out; rw [wrap_i64]; omega
       have HII:=hid hiN
       have HVi:=hid hv
       have HM2:=hid hm
       clear hiN hv hm hi kx hp cK
       go_wp2_with fail
       go_loopw [9] (fun jv wx => ∃ j : Nat,j ≤ m ∧ jv = .int .i64 (j : Int) ∧ KX (fun b => Hm ≤ b) u wx ∧ Pic E (Pa i j) wx) (fun jv _ => m - (intOf jv).toNat)
       case atStart => exact ⟨0,Nat.zero_le _,rfl,KXi.out,HPi.out⟩
       case round =>
        clear KXi HPi eb
        obtain ⟨j,hj,rfl,kx,hp⟩:=hrel
        obtain ⟨g',m',L,e9,hL,-,hPa,hO⟩:=HBt.out _ _ hp i _ HVi.out
        cases e9
        obtain ⟨gb',e8,eb⟩:=HHdr.out _ _ hp i _ HVi.out
        cases e8
        by_cases hjm : j < m
        ·have d3 : decide ((j : Int) < (m : Int)) = true:=decide_eq_true (by omega)
         have d4 : decide (j < m) = true:=decide_eq_true hjm
         have hbj : (0 : Int) ≤ (j : Int) ∧ (j : Int) < (m : Int):=by omega
         have z8 : IntKind.i64.wrap ((j : Int) + 1) = (j : Int) + 1:=by have:=HM2.out; rw [wrap_i64]; omega
         have HJJ:=hid hjm
         have ec:=own_cell hO j (by omega)
         have ef:=(ownS1.2 hO).free j
         have ks:=((Grw.refl g wr).setCell j (.int .i64 (-3 - (i : Int)))).kx
         have HP2:=hid (Pic.bits HSt.out hp i g m L (L.set j (-3 - (i : Int))) (by rw [HEb.out]; exact HVi.out) hO ks (own_set hO j _) (by rw [List.length_set]; exact hL) HM2.out (pa_step i j L (by omega) hPa) (fun k L hk h => ⟨h.1,fun e => absurd e hk⟩))
         have HK2:=hid (kx.trans (ks.mono (Y:=fun b => Hm ≤ b) fun b hb => by have:=HHg.out i _ HVi.out b ⟨m,m,by rw [hb]⟩; omega))
         clear ks hj hjm kx hp hPa hO
         go_wp2_with fail
         go_roundw
         case rel => exact ⟨j + 1,by have:=HJJ.out; omega,by go_num,HK2.out,HP2.out⟩
         case measure => have:=HJJ.out; simp [intOf]; omega
        ·obtain rfl : j = m:=by omega
         have d3 : decide ((j : Int) < (j : Int)) = false:=decide_eq_false (by omega)
         have d4 : decide (j < j) = false:=decide_eq_false (by omega)
         have KXj:=hid kx
         have HPj:=hid hp
         clear hj hjm kx hp hPa hO
         go_wp2_with fail
         clear eb
         go_loopw [10] (fun gv wx => gv = .int .i64 1 ∧ KX (fun b => Hm ≤ b) u wx ∧ Pic E (Pa i j) wx) (fun gv _ => 0)
         case atStart => exact ⟨rfl,KXj.out,HPj.out⟩
         case round =>
          clear KXj HPj
          obtain ⟨rfl,kx,hp⟩:=hrel
          have KXg:=hid kx
          have HPg:=hid hp
          clear kx hp
          go_wp2_with fail
          go_roundw
          case rel => exact ⟨i + 1,by have:=HII.out; omega,by go_num,KXg.out,HPg.out.imp2 (fun k v g' m' L hv e hL h => pa_next i k L j (fun hk => by subst hk; rw [HEb.out,HVi.out] at hv; cases hv; cases e; exact hL) h)⟩
          case measure => have:=HII.out; simp [intOf]; omega
      ·obtain rfl : i = N:=by omega
       have d1 : decide ((i : Int) < (i : Int)) = false:=decide_eq_false (by omega)
       have d2 : decide (i < i) = false:=decide_eq_false (by omega)
       clear hi hiN kx hp
       go_wp2_with fail
       go_loopw [12] (fun iv wx => iv = .int .i64 0 ∧ KX (fun b => Hm ≤ b) u wx ∧ Pic E (Pa i 0) wx) (fun iv _ => 0)
       case atStart => exact ⟨rfl,KXi.out,HPi.out⟩
       case round =>
        clear KXi HPi cK
        obtain ⟨rfl,kx,hp⟩:=hrel
        have KXg:=hid kx
        have HPg:=hid hp
        have cK:=HKc.out _ _ hp
        clear kx hp
        by_cases hn0 : 0 < n
        ·have d3 : decide ((0 : Int) < (n : Int)) = true:=decide_eq_true (by omega)
         have d4 : decide (0 < n) = true:=decide_eq_true hn0
         go_wp2_with fail
         go_roundw
         case rel => exact ⟨1,by decide,rfl,KXg.out,HPg.out.imp (fun _ _ _ => trivial),fun _ => HPg.out.imp2 (fun k v g' m' L hv e hL h => h.1 (by rw [HEb.out] at hv; have:=(List.getElem?_eq_some_iff.1 hv).1; have:=HN.out; omega))⟩
         case measure => simp [intOf]
        ·have d3 : decide ((0 : Int) < (n : Int)) = false:=decide_eq_false (by omega)
         have d4 : decide (0 < n) = false:=decide_eq_false hn0
         go_wp2_with fail
         go_roundw
         case rel => exact ⟨1,by decide,rfl,KXg.out,HPg.out.imp (fun _ _ _ => trivial),fun _ => HPg.out.imp2 (fun k v g' m' L hv e hL h => h.1 (by rw [HEb.out] at hv; have:=(List.getElem?_eq_some_iff.1 hv).1; have:=HN.out; omega))⟩
         case measure => simp [intOf]
    ·skip
     go_wp2_with fail
     go_loopw [8] (fun iv wx => ∃ i : Nat,i ≤ N ∧ iv = .int .i64 (i : Int) ∧ KX (fun b => Hm ≤ b) u wx ∧ Pic E (Pm) wx) (fun iv _ => N - (intOf iv).toNat)
     case atStart => exact ⟨0,Nat.zero_le _,rfl,KXr.out,HPm.out (by decide)⟩
     case round =>
      clear KXr HPr HPm
      obtain ⟨i,hi,rfl,kx,hp⟩:=hrel
      have KXi:=hid kx
      have HPi:=hid hp
      have cK:=HKc.out _ _ hp
      by_cases hiN : i < N
      ·obtain ⟨v,hv⟩ : ∃ v,bs[i]? = some v:=⟨_,List.getElem?_eq_getElem (by have:=HN.out; omega)⟩
       obtain ⟨g,m,L0,rfl,-,hm,-,-⟩:=HBt.out _ _ hp i v hv
       obtain ⟨gb,e7,eb⟩:=HHdr.out _ _ hp i _ hv
       subst e7
       have d1 : decide ((i : Int) < (N : Int)) = true:=decide_eq_true (by omega)
       have d2 : decide (i < N) = true:=decide_eq_true hiN
       have hbd : (0 : Int) ≤ (i : Int) ∧ (i : Int) < (N : Int):=by omega
       have z7 : IntKind.i64.wrap ((i : Int) + 1) = (i : Int) + 1:=by have:=HN.out; rw [wrap_i64]; omega
       have z3 : IntKind.i64.wrap (-3 - (i : Int)) = -3 - (i : Int):=by have:=HN.out; rw [wrap_i64]; omega
       have HII:=hid hiN
       have HVi:=hid hv
       have HM2:=hid hm
       clear hiN hv hm hi kx hp cK
       go_wp2_with fail
       go_loopw [9] (fun jv wx => ∃ j : Nat,j ≤ m ∧ jv = .int .i64 (j : Int) ∧ KX (fun b => Hm ≤ b) u wx ∧ Pic E (Pm) wx) (fun jv _ => m - (intOf jv).toNat)
       case atStart => exact ⟨0,Nat.zero_le _,rfl,KXi.out,HPi.out⟩
       case round =>
        clear KXi HPi eb
        obtain ⟨j,hj,rfl,kx,hp⟩:=hrel
        obtain ⟨g',m',L,e9,hL,-,hPa,hO⟩:=HBt.out _ _ hp i _ HVi.out
        cases e9
        obtain ⟨gb',e8,eb⟩:=HHdr.out _ _ hp i _ HVi.out
        cases e8
        by_cases hjm : j < m
        ·have d3 : decide ((j : Int) < (m : Int)) = true:=decide_eq_true (by omega)
         have d4 : decide (j < m) = true:=decide_eq_true hjm
         have hbj : (0 : Int) ≤ (j : Int) ∧ (j : Int) < (m : Int):=by omega
         have z8 : IntKind.i64.wrap ((j : Int) + 1) = (j : Int) + 1:=by have:=HM2.out; rw [wrap_i64]; omega
         have HJJ:=hid hjm
         have HP2:=hid hp
         have HK2:=hid kx
         clear hj hjm kx hp hPa hO
         go_wp2_with fail
         go_roundw
         case rel => exact ⟨j + 1,by have:=HJJ.out; omega,by go_num,HK2.out,HP2.out⟩
         case measure => have:=HJJ.out; simp [intOf]; omega
        ·obtain rfl : j = m:=by omega
         have d3 : decide ((j : Int) < (j : Int)) = false:=decide_eq_false (by omega)
         have d4 : decide (j < j) = false:=decide_eq_false (by omega)
         have KXj:=hid kx
         have HPj:=hid hp
         clear hj hjm kx hp hPa hO
         go_wp2_with fail
         clear eb
         go_loopw [10] (fun gv wx => ∃ q : Nat,1 ≤ q ∧ q ≤ 18 ∧ gv = .int .i64 (q : Int) ∧ KX (fun b => Hm ≤ b) u wx ∧ Pic E Pm wx) (fun gv _ => 18 - (intOf gv).toNat)
         case atStart => exact ⟨1,Nat.le_refl _,by decide,rfl,KXj.out,HPj.out⟩
         case round =>
          clear KXj HPj
          obtain ⟨q,hq1,hq2,rfl,kx,hp⟩:=hrel
          obtain ⟨g',m',L,e9,hL,-,hPa,hO⟩:=HBt.out _ _ hp i _ HVi.out
          cases e9
          obtain ⟨gb',e8,eb⟩:=HHdr.out _ _ hp i _ HVi.out
          cases e8
          have KXg:=hid kx
          have HPg:=hid hp
          by_cases hq17 : q ≤ 17
          ·obtain ⟨mm,hmm⟩ : ∃ mm,q + q / 17 * 80 = mm:=⟨_,rfl⟩
           have hm1 : 0 < mm ∧ mm ≤ 1000:=by omega
           have d3 : decide ((q : Int) ≤ 17) = true:=decide_eq_true (by omega)
           have d4 : decide (q ≤ 17) = true:=decide_eq_true hq17
           obtain ⟨d,hd⟩ : ∃ d : Int,Int.tdiv (q : Int) 17 = d:=⟨_,rfl⟩
           have hd2 : d = ((q / 17 : Nat) : Int):=by rw [← hd,Int.tdiv_eq_ediv_of_nonneg (by omega)]; omega
           have hall : wrap64 ((q : Int) + wrap64 (wrap64 d * 80)) = (mm : Int):=by
            unfold wrap64
            omega
           clear hd2
           have z2 : IntKind.i64.wrap ((q : Int) + 1) = (q : Int) + 1:=by rw [wrap_i64]; omega
           obtain ⟨p,hp9⟩ : ∃ p,j + mm - 1 = p:=⟨_,rfl⟩
           have hM2:=HM2.out
           obtain ⟨g2,cap,w6,hrun,⟨y,hy⟩,hf,hg2,hsz,hw⟩:=zmark2 52 3 li_undery (.int .i64 0) 1 8 li_infoy rfl (by decide) (by decide) (fun u hu => by
            have : u = Value.int .i64 0:=by simpa [Value.cells] using hu
            rw [this]; rfl) wr (.slice (some ⟨g,0,none⟩) j j) j (L.map (Value.int .i64)) (.inr ⟨g,j,rfl,Nat.zero_le _,by rw [List.length_map,hL,Nat.mul_one],Nat.le_refl _,ownS1.2 hO⟩) mm hm1.1 (by omega) (by omega) p (by omega) (by omega)
           have t4 : IntKind.i64.wrap (((j + mm : Nat) : Int) - 1) = (p : Int):=by rw [wrap_i64]; omega
           have t5 : IntKind.i64.wrap ((j : Int) + (mm : Int) - 1) = (p : Int):=by rw [wrap_i64]; omega
           have t6 : (0 : Int) ≤ (p : Int) ∧ (p : Int) < ((j + mm : Nat) : Int):=by omega
           have t7 : (p : Int) < (j : Int) + (mm : Int):=by omega
           rw [← hall] at hrun
           have HRun:=hid hrun
           obtain ⟨ks,hms⟩:=hw w6 (.int .i64 5) (Kept.refl w6)
           have ks2 : KX (fun b => b = g) wr (w6.setCell ⟨g2,p,none⟩ (.int .i64 5)):=ks.mono fun b hb => by
            obtain ⟨n9,c9,e9⟩:=hb
            injection e9 with e9 _ _
            injection e9 with e9
            injection e9 with e9 _ _
            exact e9.symm
           have hO2 : Own (w6.setCell ⟨g2,p,none⟩ (.int .i64 5)) g j L:=by
            rcases hms with ⟨-,-,e9⟩ | ⟨g9,c9,e9,-,-,-,ho9⟩
            ·cases e9
            ·cases e9
             exact ownS1.1 ho9
           have HP7:=hid (Pic.bits HSt.out hp i g j L L (by rw [HEb.out]; exact HVi.out) hO ks2 hO2 hL HM2.out hPa (fun k L hk h => h))
           have HK7:=hid (kx.trans (ks2.mono (Y:=fun b => Hm ≤ b) fun b hb => by have:=HHg.out i _ HVi.out b ⟨j,j,by rw [hb]⟩; omega))
           have HII2:=hid (show q ≤ 17 from hq17)
           clear hall hw ks hms ks2 hO2 hp kx hPa hO hrun hq17 hmm hm1 hp9 hM2 hsz hg2 KXg HPg
           go_wp2_with (first | (at_builtin; (refine wpList_append_run2 rfl _ _ _ _ rfl _ _ rfl rfl _ _ (HRun.out _) ?_; clear HRun)))
           go_roundw
           case rel => exact ⟨q + 1,by omega,by have:=HII2.out; omega,by go_num,HK7.out,HP7.out⟩
           case measure => have:=HII2.out; simp [intOf]; omega
          ·have d3 : decide ((q : Int) ≤ 17) = false:=decide_eq_false (by omega)
           have d4 : decide (q ≤ 17) = false:=decide_eq_false hq17
           clear hp kx hPa hO hq17 eb
           go_wp2_with fail
           go_roundw
           case rel => exact ⟨i + 1,by have:=HII.out; omega,by go_num,KXg.out,HPg.out⟩
           case measure => have:=HII.out; simp [intOf]; omega
      ·obtain rfl : i = N:=by omega
       have d1 : decide ((i : Int) < (i : Int)) = false:=decide_eq_false (by omega)
       have d2 : decide (i < i) = false:=decide_eq_false (by omega)
       clear hi hiN kx hp
       go_wp2_with fail
       go_loopw [12] (fun iv wx => ∃ i : Nat,i ≤ n ∧ iv = .int .i64 (i : Int) ∧ KX (fun b => Hm ≤ b) u wx ∧ Pic E Pm wx) (fun iv _ => n - (intOf iv).toNat)
       case atStart => exact ⟨0,Nat.zero_le _,rfl,KXi.out,HPi.out⟩
       case round =>
        clear KXi HPi cK
        obtain ⟨i,hi,rfl,kx,hp⟩:=hrel
        have cK:=HKc.out _ _ hp
        by_cases hin : i < n
        ·obtain ⟨x,hxi⟩ : ∃ x,xs[i]? = some x:=⟨_,List.getElem?_eq_getElem (by have:=HXN.out; omega)⟩
         have hxm : x ∈ xs:=List.mem_of_getElem? hxi
         have hxm2 : x ∈ E.xs:=by rw [HEx.out]; exact hxm
         have h7 : ∀ w,Pic E Pm w → w.cell? ⟨S1,i * 7 + 3,none⟩ = some x.pv ∧ w.cell? ⟨S1,i * 7 + 4,none⟩ = some x.qv:=fun w h => by
          have h9:=h.s1
          rw [HEq.out] at h9
          exact ⟨h9.cell (i * 7 + 3) _ (rows7_get xs i x 3 hxi (by decide)),h9.cell (i * 7 + 4) _ (rows7_get xs i x 4 hxi (by decide))⟩
         have H7:=hid h7
         obtain ⟨e3,e4⟩:=h7 _ hp
         have d1 : decide ((i : Int) < (n : Int)) = true:=decide_eq_true (by omega)
         have d2 : decide (i < n) = true:=decide_eq_true hin
         have hbd : (0 : Int) ≤ (i : Int) ∧ (i : Int) < (n : Int):=by omega
         have z9 : IntKind.i64.wrap ((i : Int) + 1) = (i : Int) + 1:=by have:=HNN.out; rw [wrap_i64]; omega
         have hxo : x.ok _:=hp.x x (List.mem_append_left _ hxm2)
         obtain ⟨np,hnp⟩ : ∃ np,x.s.P.length = np:=⟨_,rfl⟩
         obtain ⟨nq,hnq⟩ : ∃ nq,x.s.Q.length = nq:=⟨_,rfl⟩
         have hpp:=hxo.p
         rw [hnp] at hpp
         have hn64:=hxo.n
         rw [hnp,hnq] at hn64
         obtain ⟨pa,pc,hpv⟩:=hpp.form
         obtain ⟨qa,qc,hqv⟩:=hxo.q.form
         rw [hnq] at hqv
         obtain ⟨g2,cap,w6,hrun,⟨y,hy⟩,hf,hg2,hsz,hw⟩:=zmark2 32 54 mat_under (.agg #[.int .i64 0,.int .i64 0,.int .i64 0,.slice none 0 0]) 4 48 mat_info rfl (by decide) (by decide) (by decide) wr x.pv np x.VP hpp 3 (by decide) (by decide) (by omega) ((np + 2) * 4) (by omega) (by omega)
         have t4 : IntKind.i64.wrap (((np + 3 : Nat) : Int) - 1) = ((np + 2 : Nat) : Int):=by rw [wrap_i64]; omega
         have t5 : IntKind.i64.wrap ((np : Int) + 3 - 1) = (np : Int) + 2:=by rw [wrap_i64]; omega
         have t6 : (0 : Int) ≤ ((np + 2 : Nat) : Int) ∧ ((np + 2 : Nat) : Int) < ((np + 3 : Nat) : Int):=by omega
         have t7 : (0 : Int) ≤ (np : Int) + 2 ∧ (np : Int) + 2 < (np : Int) + 3:=by omega
         obtain ⟨ks,hms⟩:=hw w6 (.int .i64 5) (Kept.refl w6)
         have hp7:=Pic.list HSt.out hp x hxm2 x.pv (List.mem_cons_self ..) np x.VP hpp ks hms
         have hk7:=kx.trans (ks.mono (Y:=fun b => Hm ≤ b) fun b hb => HE.out.hl x hxm x.pv (List.mem_cons_self ..) b hb)
         have HP7:=hid hp7
         have HK7:=hid hk7
         rw [hpv] at e3
         rw [hpv,show ((3 : Nat) : Int) = 3 from rfl] at hrun
         have HRun:=hid hrun
         have HXm:=hid (show x ∈ xs ∧ x ∈ E.xs from ⟨hxm,hxm2⟩)
         have HNQ:=hid (show x.s.P.length = np ∧ x.s.Q.length = nq ∧ np ≤ 64 ∧ nq ≤ 64 ∧ x.qv = .slice qa nq qc ∧ ∀ l ∈ x.s.Q,l.length ≤ 4 from ⟨hnp,hnq,hn64.1,hn64.2.1,hqv,hn64.2.2⟩)
         have HII:=hid hin
         clear hrun hw ks hms hp7 hk7 hsz hg2 hxo hpp hn64 hxm hxm2 hxi h7 hp kx hin hi hnp hnq
         go_wp2_with (first | (at_builtin; (refine wpList_append_run2 rfl _ _ _ _ rfl _ _ rfl rfl _ _ (HRun.out _) ?_; clear HRun)))
         clear e3 e4 cK hy hf t4 t5 t6 t7
         go_loopw [14] (fun jv wx => ∃ j : Nat,j ≤ nq ∧ jv = .int .i64 (j : Int) ∧ KX (fun b => Hm ≤ b) u wx ∧ Pic E Pm wx) (fun jv _ => nq - (intOf jv).toNat)
         case atStart => exact ⟨0,Nat.zero_le _,rfl,HK7.out,HP7.out⟩
         case round =>
          clear HK7 HP7
          obtain ⟨j,hj,rfl,kx,hp⟩:=hrel
          have cK:=HKc.out _ _ hp
          have e4:=(H7.out _ hp).2
          rw [HNQ.out.2.2.2.2.1] at e4
          have hxo : x.ok _:=hp.x x (List.mem_append_left _ HXm.out.2)
          by_cases hjq : j < nq
          ·obtain ⟨l,hl⟩ : ∃ l,x.s.Q[j]? = some l:=⟨_,List.getElem?_eq_getElem (by have:=HNQ.out; omega)⟩
           obtain ⟨V,hV⟩ : ∃ V,x.VQ[j]? = some V:=⟨_,List.getElem?_eq_getElem (by have:=hxo.ql; have:=HNQ.out; omega)⟩
           obtain ⟨lv,hlv,hlm⟩:=hxo.l j l V hl hV
           have hlvm : lv ∈ x.pv :: x.vs:=List.mem_cons_of_mem _ (List.mem_of_getElem? hlv)
           have hq9 : ∃ qb,qa = some ⟨qb,0,none⟩ ∧ wr.cell? ⟨qb,j,none⟩ = some lv:=by
            rcases hxo.q with ⟨h0,-,-⟩ | ⟨g,cap,e1,-,-,-,ho⟩
            ·have:=HNQ.out; omega
            ·rw [HNQ.out.2.2.2.2.1] at e1
             cases e1
             exact ⟨g,rfl,ho.cell j _ hlv⟩
           obtain ⟨qb,e1,eq9⟩:=hq9
           subst e1
           obtain ⟨ln,hln⟩ : ∃ ln,l.length = ln:=⟨_,rfl⟩
           have hl4 : ln ≤ 4:=by rw [← hln]; exact HNQ.out.2.2.2.2.2 l (List.mem_of_getElem? hl)
           rw [hln] at hlm
           obtain ⟨la,lc,hlf⟩:=hlm.form
           obtain ⟨g2,cap,w6,hrun,⟨y,hy⟩,hf,hg2,hsz,hw⟩:=zmark2 32 54 mat_under (.agg #[.int .i64 0,.int .i64 0,.int .i64 0,.slice none 0 0]) 4 48 mat_info rfl (by decide) (by decide) (by decide) wr lv ln V hlm 3 (by decide) (by decide) (by omega) ((ln + 2) * 4) (by omega) (by omega)
           have t4 : IntKind.i64.wrap (((ln + 3 : Nat) : Int) - 1) = ((ln + 2 : Nat) : Int):=by rw [wrap_i64]; omega
           have t5 : IntKind.i64.wrap ((ln : Int) + 3 - 1) = (ln : Int) + 2:=by rw [wrap_i64]; omega
           have t6 : (0 : Int) ≤ ((ln + 2 : Nat) : Int) ∧ ((ln + 2 : Nat) : Int) < ((ln + 3 : Nat) : Int):=by omega
           have t7 : (0 : Int) ≤ (ln : Int) + 2 ∧ (ln : Int) + 2 < (ln : Int) + 3:=by omega
           have d3 : decide ((j : Int) < (nq : Int)) = true:=decide_eq_true (by omega)
           have d4 : decide (j < nq) = true:=decide_eq_true hjq
           have hbj : (0 : Int) ≤ (j : Int) ∧ (j : Int) < (nq : Int):=by omega
           have z8 : IntKind.i64.wrap ((j : Int) + 1) = (j : Int) + 1:=by have:=HNQ.out; rw [wrap_i64]; omega
           obtain ⟨ks,hms⟩:=hw w6 (.int .i64 5) (Kept.refl w6)
           have hp7:=Pic.list HSt.out hp x HXm.out.2 lv hlvm ln V hlm ks hms
           have hk7:=kx.trans (ks.mono (Y:=fun b => Hm ≤ b) fun b hb => HE.out.hl x HXm.out.1 lv hlvm b hb)
           have HP7:=hid hp7
           have HK7:=hid hk7
           rw [hlf] at eq9 hrun
           rw [show ((3 : Nat) : Int) = 3 from rfl] at hrun
           have HRun:=hid hrun
           have HJJ:=hid hjq
           clear hrun hw ks hms hp7 hk7 hsz hg2 hxo hlm hlv hlvm hl hV hp kx hjq hj hln hl4
           go_wp2_with (first | (at_builtin; (refine wpList_append_run2 rfl _ _ _ _ rfl _ _ rfl rfl _ _ (HRun.out _) ?_; clear HRun)))
           go_roundw
           case rel => exact ⟨j + 1,by have:=HJJ.out; omega,by go_num,HK7.out,HP7.out⟩
           case measure => have:=HJJ.out; simp [intOf]; omega
          ·obtain rfl : nq = j:=by omega
           have d3 : decide ((nq : Int) < (nq : Int)) = false:=decide_eq_false (by omega)
           have d4 : decide (nq < nq) = false:=decide_eq_false (by omega)
           have hqq:=hxo.q
           rw [HNQ.out.2.1] at hqq
           obtain ⟨g2,cap,w6,hrun,⟨y,hy⟩,hf,hg2,hsz,hw⟩:=zmark2 33 32 lm_under (.slice none 0 0) 1 24 lm_info rfl (by decide) (by decide) (by decide) wr x.qv nq x.vs hqq 3 (by decide) (by decide) (by have:=HNQ.out; omega) (nq + 2) (by omega) (by omega)
           have t4 : IntKind.i64.wrap (((nq + 3 : Nat) : Int) - 1) = ((nq + 2 : Nat) : Int):=by have:=HNQ.out; rw [wrap_i64]; omega
           have t5 : IntKind.i64.wrap ((nq : Int) + 3 - 1) = (nq : Int) + 2:=by have:=HNQ.out; rw [wrap_i64]; omega
           have t6 : (0 : Int) ≤ ((nq + 2 : Nat) : Int) ∧ ((nq + 2 : Nat) : Int) < ((nq + 3 : Nat) : Int):=by omega
           have t7 : (0 : Int) ≤ (nq : Int) + 2 ∧ (nq : Int) + 2 < (nq : Int) + 3:=by omega
           obtain ⟨wa,hwa⟩ : ∃ wa,w6.alloc (.cells #[.int .i64 5,.int .i64 0,.int .i64 0,.slice none 0 0] 54) = wa:=⟨_,rfl⟩
           have hka : Kept w6 wa:=by rw [← hwa]; exact (Kept.refl w6).alloc _ _
           obtain ⟨ks,hms⟩:=hw wa (.slice (some ⟨w6.heap.size,0,none⟩) 1 1) hka
           have hya : wa.cell? ⟨g2,nq + 2,none⟩ = some y:=(hka.below.cell (p:=⟨g2,nq + 2,none⟩) hg2).trans hy
           have hfa : wa.frozen? ⟨g2,nq + 2,none⟩ = false:=(hka.frozen _).trans hf
           have hp7:=Pic.lists HSt.out hp x HXm.out.2 ks (by rw [HNQ.out.2.1]; exact hms)
           have hk7:=kx.trans (ks.mono (Y:=fun b => Hm ≤ b) fun b hb => HE.out.hq x HXm.out.1 b hb)
           have HP7:=hid hp7
           have HK7:=hid hk7
           rw [HNQ.out.2.2.2.2.1,show ((3 : Nat) : Int) = 3 from rfl] at hrun
           have HRun:=hid hrun
           clear hrun hw ks hms hp7 hk7 hsz hg2 hxo hqq hp kx hjq hj hka
           go_wp2_with (first | (at_builtin; (try rw [hwa]); refine wpList_append_run2 rfl _ _ _ _ rfl _ _ rfl rfl _ _ (HRun.out _) ?_; clear HRun))
           (try rw [hwa])
           go_wp2_with fail
           (try rw [hwa])
           go_roundw
           case rel => exact ⟨i + 1,by have:=HII.out; omega,by go_num,HK7.out,HP7.out⟩
           case measure => have:=HII.out; simp [intOf]; omega
        ·obtain rfl : n = i:=by omega
         have d1 : decide ((n : Int) < (n : Int)) = false:=decide_eq_false (by omega)
         have d2 : decide (n < n) = false:=decide_eq_false (by omega)
         have KXg:=hid kx
         have HPg:=hid hp
         clear kx hp hin hi
         go_wp2_with fail
         go_roundw
         case rel => exact ⟨2,by decide,rfl,KXg.out,HPg.out.imp (fun _ _ _ => trivial),fun _ => HPg.out⟩
         case measure => simp [intOf]
    ·skip
     go_wp2_with fail
     go_loopw [8] (fun iv wx => ∃ i : Nat,i ≤ N ∧ iv = .int .i64 (i : Int) ∧ KX (fun b => Hm ≤ b) u wx ∧ Pic E (Pm) wx) (fun iv _ => N - (intOf iv).toNat)
     case atStart => exact ⟨0,Nat.zero_le _,rfl,KXr.out,HPm.out (by decide)⟩
     case round =>
      clear KXr HPr HPm
      obtain ⟨i,hi,rfl,kx,hp⟩:=hrel
      have KXi:=hid kx
      have HPi:=hid hp
      have cK:=HKc.out _ _ hp
      by_cases hiN : i < N
      ·obtain ⟨v,hv⟩ : ∃ v,bs[i]? = some v:=⟨_,List.getElem?_eq_getElem (by have:=HN.out; omega)⟩
       obtain ⟨g,m,L0,rfl,-,hm,-,-⟩:=HBt.out _ _ hp i v hv
       obtain ⟨gb,e7,eb⟩:=HHdr.out _ _ hp i _ hv
       subst e7
       have d1 : decide ((i : Int) < (N : Int)) = true:=decide_eq_true (by omega)
       have d2 : decide (i < N) = true:=decide_eq_true hiN
       have hbd : (0 : Int) ≤ (i : Int) ∧ (i : Int) < (N : Int):=by omega
       have z7 : IntKind.i64.wrap ((i : Int) + 1) = (i : Int) + 1:=by have:=HN.out; rw [wrap_i64]; omega
       have z3 : IntKind.i64.wrap (-3 - (i : Int)) = -3 - (i : Int):=by have:=HN.out; rw [wrap_i64]; omega
       have HII:=hid hiN
       have HVi:=hid hv
       have HM2:=hid hm
       clear hiN hv hm hi kx hp cK
       go_wp2_with fail
       go_loopw [9] (fun jv wx => ∃ j : Nat,j ≤ m ∧ jv = .int .i64 (j : Int) ∧ KX (fun b => Hm ≤ b) u wx ∧ Pic E (Pm) wx) (fun jv _ => m - (intOf jv).toNat)
       case atStart => exact ⟨0,Nat.zero_le _,rfl,KXi.out,HPi.out⟩
       case round =>
        clear KXi HPi eb
        obtain ⟨j,hj,rfl,kx,hp⟩:=hrel
        obtain ⟨g',m',L,e9,hL,-,hPa,hO⟩:=HBt.out _ _ hp i _ HVi.out
        cases e9
        obtain ⟨gb',e8,eb⟩:=HHdr.out _ _ hp i _ HVi.out
        cases e8
        by_cases hjm : j < m
        ·have d3 : decide ((j : Int) < (m : Int)) = true:=decide_eq_true (by omega)
         have d4 : decide (j < m) = true:=decide_eq_true hjm
         have hbj : (0 : Int) ≤ (j : Int) ∧ (j : Int) < (m : Int):=by omega
         have z8 : IntKind.i64.wrap ((j : Int) + 1) = (j : Int) + 1:=by have:=HM2.out; rw [wrap_i64]; omega
         have HJJ:=hid hjm
         have hLr : L.getD j 0 = -3 - (i : Int):=by
          have h2 : L = List.replicate L.length (-3 - (i : Int)):=hPa
          rw [h2,List.getD_eq_getElem?_getD,List.getElem?_replicate,if_pos (by omega)]
          rfl
         have ec:=own_cell hO j (by omega)
         rw [hLr] at ec
         have d5 : ((-3 - (i : Int)) != (-3 - (i : Int))) = false:=by simp
         have HP2:=hid hp
         have HK2:=hid kx
         clear hj hjm kx hp hPa hO hLr
         go_wp2_with fail
         go_roundw
         case rel => exact ⟨j + 1,by have:=HJJ.out; omega,by go_num,HK2.out,HP2.out⟩
         case measure => have:=HJJ.out; simp [intOf]; omega
        ·obtain rfl : j = m:=by omega
         have d3 : decide ((j : Int) < (j : Int)) = false:=decide_eq_false (by omega)
         have d4 : decide (j < j) = false:=decide_eq_false (by omega)
         have KXj:=hid kx
         have HPj:=hid hp
         clear hj hjm kx hp hPa hO
         go_wp2_with fail
         clear eb
         go_loopw [10] (fun gv wx => gv = .int .i64 1 ∧ KX (fun b => Hm ≤ b) u wx ∧ Pic E (Pm) wx) (fun gv _ => 0)
         case atStart => exact ⟨rfl,KXj.out,HPj.out⟩
         case round =>
          clear KXj HPj
          obtain ⟨rfl,kx,hp⟩:=hrel
          have KXg:=hid kx
          have HPg:=hid hp
          clear kx hp
          go_wp2_with fail
          go_roundw
          case rel => exact ⟨i + 1,by have:=HII.out; omega,by go_num,KXg.out,HPg.out⟩
          case measure => have:=HII.out; simp [intOf]; omega
      ·obtain rfl : i = N:=by omega
       have d1 : decide ((i : Int) < (i : Int)) = false:=decide_eq_false (by omega)
       have d2 : decide (i < i) = false:=decide_eq_false (by omega)
       clear hi hiN kx hp
       go_wp2_with fail
       go_loopw [12] (fun iv wx => iv = .int .i64 0 ∧ KX (fun b => Hm ≤ b) u wx ∧ Pic E (Pm) wx) (fun iv _ => 0)
       case atStart => exact ⟨rfl,KXi.out,HPi.out⟩
       case round =>
        clear KXi HPi cK
        obtain ⟨rfl,kx,hp⟩:=hrel
        have KXg:=hid kx
        have HPg:=hid hp
        have cK:=HKc.out _ _ hp
        clear kx hp
        by_cases hn0 : 0 < n
        ·have d3 : decide ((0 : Int) < (n : Int)) = true:=decide_eq_true (by omega)
         have d4 : decide (0 < n) = true:=decide_eq_true hn0
         go_wp2_with fail
         go_roundw
         case rel => exact ⟨3,by decide,rfl,KXg.out,HPg.out.imp (fun _ _ _ => trivial),fun _ => HPg.out⟩
         case measure => simp [intOf]
        ·have d3 : decide ((0 : Int) < (n : Int)) = false:=decide_eq_false (by omega)
         have d4 : decide (0 < n) = false:=decide_eq_false hn0
         go_wp2_with fail
         go_roundw
         case rel => exact ⟨3,by decide,rfl,KXg.out,HPg.out.imp (fun _ _ _ => trivial),fun _ => HPg.out⟩
         case measure => simp [intOf]
    ·skip
     go_wp2_with fail
     go_at_call 37
     refine (HSh.out _ (by have h:=HPr.out.k; rw [HEq.out] at h; exact h) (by have h:=HPr.out.s1; rw [HEq.out] at h; exact h) (by have h:=HPr.out.s2; rw [HEq.out] at h; exact h) (by have h:=HPr.out.x; rw [HEq.out] at h; exact h)).mono ?_
     rintro e w9 ⟨rfl,k9⟩
     go_wp2_with fail
     go_ret
     exact ⟨rfl,KXr.out.trans (k9.kx _)⟩
end Go.Proofs.Ytocjfdiimapojaa
