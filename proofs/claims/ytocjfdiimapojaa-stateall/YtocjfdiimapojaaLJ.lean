/- The laws' writes,wherever something is kept already. -/
import Derived.Test.YtocjfdiimapojaaLH
import Derived.Test.YtocjfdiimapojaaLE0
namespace Go.Proofs.Ytocjfdiimapojaa
open Go.ChangeShapes Go.WideShapes Go.ChangeAt Go.RowKit
set_option maxHeartbeats 16000000
set_option maxRecDepth 100000
set_option linter.unusedVariables false
set_option linter.unusedSimpArgs false
/-- One more list of bytes. -/
theorem lb_app (w : World) (rv : Value) (n : Nat) (bvs : List Value) (h : MS 1 22 0 w rv n bvs) (hn : n ≤ 1000) (bv : Value) (hb : ∃ ao l c,bv = .slice ao l c) :
  ∃ va vc w',(∀ ty,(Builtin.append_ #[24,24] ty #[rv,.slice (some ⟨w.heap.size,0,none⟩) 1 1]).run Try.prog (w.alloc (.cells #[bv] 22)) = .ok (.slice va (n + 1) vc) w') ∧ MS 1 22 0 w' (.slice va (n + 1) vc) (n + 1) (bvs ++ [bv]) ∧ KX (bkv rv) w w' ∧ ∀ b,bkv (.slice va (n + 1) vc) b → bkv rv b ∨ w.heap.size ≤ b:=by
 obtain ⟨ao,l,c,rfl⟩:=hb
 have hK : Kept w (w.alloc (.cells #[.slice ao l c] 22)):=(Kept.refl w).alloc _ _
 have hX : MS 1 22 0 (w.alloc (.cells #[.slice ao l c] 22)) (.slice (some ⟨w.heap.size,0,none⟩) 1 1) 1 [.slice ao l c]:=.inr ⟨w.heap.size,1,rfl,Nat.zero_le _,rfl,Nat.le_refl _,_,heap_alloc_new w _,Nat.le_refl 1,by simp [maxLen],rfl,rfl⟩
 obtain ⟨v',w',hr,hm,hk,hb⟩:=app_list2 24 22 lby_under (.slice none 0 0) 1 24 lby_info rfl (by decide) 0 _ rv n bvs (h.kept hK) _ 1 _ hX (fun u hu => by
  rw [List.mem_singleton] at hu
  rw [hu]
  rfl) (Nat.zero_le _) (by omega)
 obtain ⟨va,vc,rfl⟩:=hm.form
 exact ⟨va,vc,w',hr,hm,(hK.kx _).trans hk,fun b h => (hb b h).imp id fun h => Nat.le_trans hK.below.size h⟩
/-- One state more has been written: what is kept of it. -/
def KpG (K H : Nat) (rv wv kv sv : Value) (n : Nat) (bvs cvs : List Value) (u : World) : Prop:=∃ B bv cv rv' wv',Byt B ∧ B.length ≤ 14000000 ∧ Bk u K [rv',wv',kv,sv] ∧ MS 1 22 0 u rv' (n + 1) (bvs ++ [bv]) ∧ MS 1 22 0 u wv' (n + 1) (cvs ++ [cv]) ∧ ExB u bv B ∧ (∀ b,blk bv b → H ≤ b) ∧ BN 0 u cv B ∧ (∀ b,blk cv b → H ≤ b) ∧ (∀ b,bkv rv' b → bkv rv b ∨ H ≤ b) ∧ (∀ b,bkv wv' b → bkv wv b ∨ H ≤ b) ∧ (∀ b,bkv rv' b → ¬ bkv wv' b)
theorem KpG.kx {K H : Nat} {rv wv kv sv : Value} {n : Nat} {bvs cvs : List Value} {u u' : World} (h : KpG K H rv wv kv sv n bvs cvs u) (k : Kept u u') : KpG K H rv wv kv sv n bvs cvs u':=by
 obtain ⟨B,bv,cv,rv',wv',h1,h2,h3,h4,h5,h6,h7,h8,h9,h10,h11,h12⟩:=h
 exact ⟨B,bv,cv,rv',wv',h1,h2,h3.kept k,h4.kept k,h5.kept k,h6.kept k,h7,h8.kept k,h9,h10,h11,h12⟩
theorem KpG.poke {K H : Nat} {rv wv kv sv : Value} {n : Nat} {bvs cvs : List Value} {u : World} (h : KpG K H rv wv kv sv n bvs cvs u) {g c : Nat} {L : List Int} (ho : Own u g c L) (hK : K ≠ g) (v : Value) : KpG K H rv wv kv sv n bvs cvs (u.setCell ⟨g,0,none⟩ v):=by
 have k : KX (fun b => b = g) u (u.setCell ⟨g,0,none⟩ v):=((Grw.refl g u).setCell _ _).kx
 have hty : ∀ (v : Value) (n : Nat) (V : List Value),MS 1 22 0 u v n V → ∀ b,bkv v b → ¬ b = g:=fun v n V h b hb e => by
  subst e
  obtain ⟨c1,h1⟩:=h.ty hb
  obtain ⟨c2,h2,-⟩:=ho
  rw [h1] at h2
  simp at h2
 obtain ⟨B,bv,cv,rv',wv',h1,h2,h3,h4,h5,h6,h7,h8,h9,h10,h11,h12⟩:=h
 exact ⟨B,bv,cv,rv',wv',h1,h2,h3.kx k hK,h4.onx k (hty _ _ _ h4),h5.onx k (hty _ _ _ h5),h6.kx k (fun b hb => by subst hb; exact h6.bn.notOwn ho),h7,h8.kx k (fun b hb => by subst hb; exact h8.notOwn ho),h9,h10,h11,h12⟩
theorem writes_many (v : Value) (s : Sta) (K : Nat) (rv wv kv sv : Value) (n : Nat) (bvs cvs : List Value) (hsm : Smal s) (hrg : SRg s) (w : World) (hS : StI w v s) (hk : Bk w K [rv,wv,kv,sv]) (hrv : MS 1 22 0 w rv n bvs) (hwv : MS 1 22 0 w wv n cvs) (hn9 : n ≤ 100) (hrK : ¬ bkv rv K) (hwK : ¬ bkv wv K) (hrw : ∀ b,bkv rv b → ¬ bkv wv b) :
  Calls Try.prog 9 #[v,.pointer (some ⟨K,0,none⟩)] w fun e w' => e = .returned (.bool true) ∧ KX (fun b => b = K ∨ bkv rv b ∨ bkv wv b) w w' ∧ KpG K w.heap.size rv wv kv sv n bvs cvs w':=by
 obtain ⟨B,er,hA⟩:=ans_of hsm hrg
 have HA:=hid hA
 have HSm:=hid (show Smal s ∧ SRg s from ⟨hsm,hrg⟩)
 have hb:=hsm.bn
 have HL:=hid (show ∀ u,Kept w u → Calls Try.prog 20 #[v] u fun e w' => ∃ x,e = .returned x ∧ SnL u.heap.size w' x s ∧ Kept u w' from fun u ku => lentS_any v s (by have:=hsm.p; omega) (by have:=hsm.q; omega) (fun i m hi => by have:=hsm.pm i m hi (List.getElem?_eq_some_iff.1 hi).1; omega) (fun i l hi => by
  have:=hsm.qm i l hi (List.getElem?_eq_some_iff.1 hi).1
  exact ⟨by omega,fun j m hj => by have:=this.2 j m hj (List.getElem?_eq_some_iff.1 hj).1; omega⟩) u (hS.kept ku))
 have HStW:=hid hS
 obtain ⟨pa,pc,qa,qc,rfl⟩:=hS.form
 have hKw:=hk.lt
 obtain ⟨M,hM⟩ : ∃ M,w.heap.size = M:=⟨_,rfl⟩
 rw [hM] at hKw
 have HXP : Hid (∀ b,(b = K ∨ bkv rv b ∨ bkv wv b) → b < M):=fun b hb => by
  rcases hb with rfl | h | h
  ·exact hKw
  ·have:=(ms_bk hrv b h).2; omega
  ·have:=(ms_bk hwv b h).2; omega
 have HRV:=hid hrv
 have HWV:=hid hwv
 have HRW:=hid (show n ≤ 100 ∧ ¬ bkv rv K ∧ ¬ bkv wv K ∧ (∀ b,bkv rv b → ¬ bkv wv b) from ⟨hn9,hrK,hwK,hrw⟩)
 clear hrv hwv hn9 hrK hwK hrw
 have HEQ:=hid (show s.P.length = s.P.length ∧ s.Q.length = s.Q.length ∧ s.a = s.a ∧ s.b = s.b ∧ s.d = s.d ∧ s.lo = s.lo ∧ s.ra = s.ra from ⟨rfl,rfl,rfl,rfl,rfl,rfl,rfl⟩)
 obtain ⟨pl,hpl⟩ : ∃ x,s.P.length = x:=⟨_,rfl⟩
 obtain ⟨ql,hql⟩ : ∃ x,s.Q.length = x:=⟨_,rfl⟩
 obtain ⟨sa,hsa⟩ : ∃ x,s.a = x:=⟨_,rfl⟩
 obtain ⟨sb,hsb⟩ : ∃ x,s.b = x:=⟨_,rfl⟩
 obtain ⟨sd,hsd⟩ : ∃ x,s.d = x:=⟨_,rfl⟩
 obtain ⟨lo,hlo⟩ : ∃ x,s.lo = x:=⟨_,rfl⟩
 obtain ⟨ra,hra⟩ : ∃ x,s.ra = x:=⟨_,rfl⟩
 rw [hpl,hql,hsa,hsb,hsd,hlo,hra] at HL HStW ⊢
 clear HEQ
 have HEQ:=hid (show s.P.length = pl ∧ s.Q.length = ql ∧ s.a = sa ∧ s.b = sb ∧ s.d = sd ∧ s.lo = lo ∧ s.ra = ra from ⟨hpl,hql,hsa,hsb,hsd,hlo,hra⟩)
 clear hpl hql hsa hsb hsd hlo hra hS hsm hrg hA hb
 obtain ⟨W0,hW0⟩ : ∃ W0,w.alloc (.cells #[.int .i64 sa,.int .i64 sb,.int .i64 sd,.slice pa pl pc,.slice qa ql qc,.int .i64 lo,.int .i64 ra] 35) = W0:=⟨_,rfl⟩
 have k0 : Kept w W0:=by rw [← hW0]; exact (Kept.refl w).alloc _ _
 have b0 : Bk W0 M [.int .i64 sa,.int .i64 sb,.int .i64 sd,.slice pa pl pc,.slice qa ql qc,.int .i64 lo,.int .i64 ra]:=by rw [← hW0,← hM]; exact Bk.new w _ _
 have HBm:=hid b0
 have HKb:=hid hk
 have HKw:=hid hKw
 have HK0:=hid k0
 have HM:=hid hM
 obtain ⟨x0,x1,x2,x3,x4,x5,x6⟩ : _ ∧ _ ∧ _ ∧ _ ∧ _ ∧ _ ∧ _:=⟨b0.c 0 _ rfl,b0.c 1 _ rfl,b0.c 2 _ rfl,b0.c 3 _ rfl,b0.c 4 _ rfl,b0.c 5 _ rfl,b0.c 6 _ rfl⟩
 clear k0 b0 hk hKw
 go_enter Try.func9,Try.ntmps9
 go_wp2_with fail
 go_at_call 20
 refine (HL.out W0 HK0.out).mono ?_
 rintro e w1 ⟨vx,rfl,hx,k1⟩
 have hs0 : W0.heap.size = M + 1:=by rw [← hW0,World.size_alloc,hM]
 rw [hs0] at hx
 have HX1:=hid hx
 obtain ⟨pv,qv,rfl,hpv,hqv⟩:=hx
 obtain ⟨GP,CP,rfl,-⟩:=hpv.form
 obtain ⟨GQ,CQ,rfl,-⟩:=hqv.form
 obtain ⟨ep,eq,ea,eb,ed,el,er2⟩:=HEQ.out
 rw [ea,eb,ed,ep,eq,el,er2] at HX1 ⊢
 obtain ⟨X,hX⟩ : ∃ X,w1.heap.size = X:=⟨_,rfl⟩
 obtain ⟨W2,hW2⟩ : ∃ W2,w1.alloc (.cells #[.int .i64 sa,.int .i64 sb,.int .i64 sd,.slice (some ⟨GP,0,none⟩) pl CP,.slice (some ⟨GQ,0,none⟩) ql CQ,.int .i64 lo,.int .i64 ra] 35) = W2:=⟨_,rfl⟩
 have k2 : Kept w1 W2:=by rw [← hW2]; exact (Kept.refl w1).alloc _ _
 have bx : Bk W2 X [.int .i64 sa,.int .i64 sb,.int .i64 sd,.slice (some ⟨GP,0,none⟩) pl CP,.slice (some ⟨GQ,0,none⟩) ql CQ,.int .i64 lo,.int .i64 ra]:=by rw [← hW2,← hX]; exact Bk.new w1 _ _
 have K2:=hid (k1.trans k2)
 have HK12:=hid k2
 have HPv:=hid (show LnV (M + 1) w1 (.slice (some ⟨GP,0,none⟩) pl CP) s.P by rw [← ep]; exact hpv)
 have HX2:=hid (HX1.out.kx (k2.kx fun _ => False) (fun b hb => hb.elim))
 have HBx:=hid bx
 have HXe:=hid (show w1.heap.size = X from hX)
 have HGK:=hid (show M + 1 ≤ GP by obtain ⟨_,_,_,e,h,-⟩:=HPv.out; cases e; exact h)
 have HXM:=hid (show M + 1 ≤ X by have:=k1.below.size; omega)
 clear x0 x1 x2 x3 x4 x5 x6 hM hW0 hs0 ep eq ea eb ed el er2 hpv hqv k1 k2 HX1 HL
 obtain ⟨x0,x1,x2,x3,x4,x5,x6⟩ : _ ∧ _ ∧ _ ∧ _ ∧ _ ∧ _ ∧ _:=⟨bx.c 0 _ rfl,bx.c 1 _ rfl,bx.c 2 _ rfl,bx.c 3 _ rfl,bx.c 4 _ rfl,bx.c 5 _ rfl,bx.c 6 _ rfl⟩
 clear bx
 go_wp2_with fail
 (try rw [hW2])
 go_at_call 10
 refine (HA.out.w _ W2 HX2.out.st).mono ?_
 rintro e w3 ⟨k3,bv,rfl,hbv,hbb⟩
 have K3:=hid k3
 have HBv:=hid hbv
 have HBb:=hid hbb
 clear x0 x1 x2 x3 x4 x5 x6 hW2 hX k3 hbv hbb
 have bm3:=HBm.out.kept (K2.out.trans K3.out)
 obtain ⟨x0,x1,x2,x3,x4,x5,x6⟩ : _ ∧ _ ∧ _ ∧ _ ∧ _ ∧ _ ∧ _:=⟨bm3.c 0 _ rfl,bm3.c 1 _ rfl,bm3.c 2 _ rfl,bm3.c 3 _ rfl,bm3.c 4 _ rfl,bm3.c 5 _ rfl,bm3.c 6 _ rfl⟩
 clear bm3
 go_wp2_with fail
 go_at_call 21
 refine (HA.out.r _ w3 (HStW.out.kept (HK0.out.trans (K2.out.trans K3.out)))).mono ?_
 rintro e w4 ⟨k4,cv,rfl,hcv,hcb4⟩
 have HCb:=hid (show ∀ b,blk cv b → M + 1 ≤ b from fun b hb => by have:=hcb4 b hb; have:=(HBx.out.kept K3.out).lt; have:=HXM.out; omega)
 clear hcb4
 have K4:=hid (K3.out.trans k4)
 have HCv:=hid hcv
 have HB4:=hid (HBv.out.kept k4)
 clear x0 x1 x2 x3 x4 x5 x6 k4 hcv HBv K3
 have bx4:=HBx.out.kept K4.out
 obtain ⟨x0,x1,x2,x3,x4,x5,x6⟩ : _ ∧ _ ∧ _ ∧ _ ∧ _ ∧ _ ∧ _:=⟨bx4.c 0 _ rfl,bx4.c 1 _ rfl,bx4.c 2 _ rfl,bx4.c 3 _ rfl,bx4.c 4 _ rfl,bx4.c 5 _ rfl,bx4.c 6 _ rfl⟩
 clear bx4
 go_wp2_with fail
 go_at_call 14
 refine (HA.out.c _ w4 (HX2.out.st.kept K4.out)).mono ?_
 rintro e w5 ⟨k5,rfl⟩
 have K5:=hid (K4.out.trans k5)
 have HB5:=hid (HB4.out.kept k5)
 have HC5:=hid (HCv.out.kept k5)
 clear x0 x1 x2 x3 x4 x5 x6 k5 HB4 HCv K4
 have bx5:=HBx.out.kept K5.out
 have bm5:=HBm.out.kept (K2.out.trans K5.out)
 obtain ⟨x0,x1,x2,x3,x4,x5,x6⟩ : _ ∧ _ ∧ _ ∧ _ ∧ _ ∧ _ ∧ _:=⟨bx5.c 0 _ rfl,bx5.c 1 _ rfl,bx5.c 2 _ rfl,bx5.c 3 _ rfl,bx5.c 4 _ rfl,bx5.c 5 _ rfl,bx5.c 6 _ rfl⟩
 obtain ⟨y0,y1,y2,y3,y4,y5,y6⟩ : _ ∧ _ ∧ _ ∧ _ ∧ _ ∧ _ ∧ _:=⟨bm5.c 0 _ rfl,bm5.c 1 _ rfl,bm5.c 2 _ rfl,bm5.c 3 _ rfl,bm5.c 4 _ rfl,bm5.c 5 _ rfl,bm5.c 6 _ rfl⟩
 have sb1:=bn_str HB5.out.bn HA.out.byt
 have sc1:=bn_str HC5.out HA.out.byt
 have heq : ∀ (S : ByteArray) (u : World),(binOp .neq 9 (.string S) (.string S)).run Try.prog u = .ok (.bool false) u:=fun S u => by
  rw [binOp_string_neq]
  simp [Sem.run_pure]
 clear bx5 bm5
 generalize SB B = S at *
 go_wp2_with fail
 go_at_call 22
 refine (kept_any (M + 1) _ _ s HSm.out.1 w5 (HX2.out.kx (K5.out.kx fun _ => False) (fun b hb => hb.elim)) (HStW.out.kept (HK0.out.trans (K2.out.trans K5.out)))).mono ?_
 rintro e w6 ⟨rfl,k6⟩
 have K6:=hid (K5.out.trans k6)
 have HB6:=hid (HB5.out.kept k6)
 have HC6:=hid (HC5.out.kept k6)
 have KW6:=hid (HK0.out.trans (K2.out.trans K6.out))
 obtain ⟨ao1,cb1,rfl⟩:=HB6.out.bn.form
 obtain ⟨ao2,cb2,rfl⟩:=HC6.out.form
 have hs6 : M + 2 ≤ w6.heap.size:=by have:=(HBx.out.kept K6.out).lt; have:=HXM.out; omega
 have hk6:=HKb.out.kept KW6.out
 have hM6 : M ≤ w6.heap.size:=by omega
 have hrv6:=HRV.out.kept KW6.out
 have hwv6:=HWV.out.kept KW6.out
 obtain ⟨va1,vc1,w7,hr1,hm1,k7,hb1⟩:=lb_app w6 rv n bvs hrv6 (by have:=HRW.out.1; omega) (.slice ao1 B.length cb1) ⟨_,_,_,rfl⟩
 have hn1 : ∀ b,bkv (.slice va1 (n + 1) vc1) b → bkv rv b ∨ M ≤ b:=fun b hb => (hb1 b hb).imp id fun h => by omega
 have hK1 : ¬ bkv (.slice va1 (n + 1) vc1) K:=fun hb => by
  rcases hn1 K hb with h | h
  ·exact HRW.out.2.1 h
  ·have:=HXP.out K (.inl rfl); omega
 have hw1 : ∀ b,bkv (.slice va1 (n + 1) vc1) b → ¬ bkv wv b:=fun b hb hb2 => by
  rcases hn1 b hb with h | h
  ·exact HRW.out.2.2.2 b h hb2
  ·have:=HXP.out b (.inr (.inr hb2)); omega
 have hk7:=hk6.kx k7 HRW.out.2.1
 obtain ⟨w8,hw8⟩ : ∃ w8,w7.setCell ⟨K,0,none⟩ (.slice va1 (n + 1) vc1) = w8:=⟨_,rfl⟩
 have ks8 : KX (fun b => b = K) w7 w8:=by rw [← hw8]; exact ((Grw.refl K w7).setCell _ _).kx
 have hk8 : Bk w8 K [.slice va1 (n + 1) vc1,wv,kv,sv]:=by rw [← hw8]; exact hk7.set 0 _
 have hm18:=hm1.onx ks8 (fun b hb e => hK1 (by rw [← e]; exact hb))
 have hwv8:=(hwv6.onx k7 (fun b hb hb2 => HRW.out.2.2.2 b hb2 hb)).onx ks8 (fun b hb e => HRW.out.2.2.1 (by rw [← e]; exact hb))
 obtain ⟨va2,vc2,w9,hr2,hm2,k9,hb2⟩:=lb_app w8 wv n cvs hwv8 (by have:=HRW.out.1; omega) (.slice ao2 B.length cb2) ⟨_,_,_,rfl⟩
 have hM8 : M ≤ w8.heap.size:=by have:=k7.size; have:=ks8.size; omega
 have hn2 : ∀ b,bkv (.slice va2 (n + 1) vc2) b → bkv wv b ∨ M ≤ b:=fun b hb => (hb2 b hb).imp id fun h => by omega
 have hK2 : ¬ bkv (.slice va2 (n + 1) vc2) K:=fun hb => by
  rcases hn2 K hb with h | h
  ·exact HRW.out.2.2.1 h
  ·have:=HXP.out K (.inl rfl); omega
 have hk9:=hk8.kx k9 HRW.out.2.2.1
 obtain ⟨w10,hw10⟩ : ∃ w10,w9.setCell ⟨K,1,none⟩ (.slice va2 (n + 1) vc2) = w10:=⟨_,rfl⟩
 have ks10 : KX (fun b => b = K) w9 w10:=by rw [← hw10]; exact ((Grw.refl K w9).setCell _ _).kx
 have hk10 : Bk w10 K [.slice va1 (n + 1) vc1,.slice va2 (n + 1) vc2,kv,sv]:=by rw [← hw10]; exact hk9.set 1 _
 have hm110:=(hm18.onx k9 hw1).onx ks10 (fun b hb e => hK1 (by rw [← e]; exact hb))
 have hm210:=hm2.onx ks10 (fun b hb e => hK2 (by rw [← e]; exact hb))
 have hrw2 : ∀ b,bkv (.slice va1 (n + 1) vc1) b → ¬ bkv (.slice va2 (n + 1) vc2) b:=fun b hb hc => by
  rcases hb2 b hc with h | h
  ·exact hw1 b hb h
  ·have:=(ms_bk hm1 b hb).2
   have:=ks8.size
   omega
 have HKx:=hid (show KX (fun b => b = K ∨ bkv rv b ∨ bkv wv b) w6 w10 from (((k7.mono fun b hb => .inr (.inl hb)).trans (ks8.mono fun b hb => .inl hb)).trans (k9.mono fun b hb => .inr (.inr hb))).trans (ks10.mono fun b hb => .inl hb))
 have HKp : Hid (KpG K M rv wv kv sv n bvs cvs w10):=by
  have hnb : ∀ b,(b = K ∨ bkv rv b ∨ bkv wv b) → ¬ blk (.slice ao1 B.length cb1) b:=fun b e hb => by
   have h1:=HBb.out b hb
   have h2:=HBx.out.lt
   have h3:=HXM.out
   have h4:=HXP.out b e
   omega
  have hcb : ∀ b,(b = K ∨ bkv rv b ∨ bkv wv b) → ¬ blk (.slice ao2 B.length cb2) b:=fun b e hb => by
   have h1:=HCb.out b hb
   have h4:=HXP.out b e
   omega
  exact ⟨B,_,_,_,_,HA.out.byt,HA.out.len,hk10,hm110,hm210,HB6.out.kx HKx.out hnb,fun b hb => by have:=HBb.out b hb; have:=HBx.out.lt; have:=HXM.out; omega,HC6.out.kx HKx.out hcb,fun b hb => by have:=HCb.out b hb; omega,hn1,hn2,hrw2⟩
 have hx10:=hid (HX2.out.kx ((K6.out.kx _).trans HKx.out) (fun b hb => by have:=HXP.out b hb; omega))
 have hbx10:=(HBx.out.kept K6.out).kx HKx.out (fun h => by have:=HXP.out _ h; have:=HXM.out; omega)
 have HBx10:=hid hbx10
 have HKw10:=hid (show KX (fun b => b = K ∨ bkv rv b ∨ bkv wv b) w w10 from (KW6.out.kx _).trans HKx.out)
 have e3:=hbx10.c 3 _ rfl
 have HK110:=hid (show KX (fun b => b = K ∨ bkv rv b ∨ bkv wv b) w1 w10 from ((HK12.out.trans K6.out).kx _).trans HKx.out)
 have h70:=hk7.c 0 _ rfl
 have f70:=hk7.fz 0
 have h60:=hk6.c 0 _ rfl
 have h81:=hk8.c 1 _ rfl
 have h91:=hk9.c 1 _ rfl
 have f91:=hk9.fz 1
 have HR1:=hid hr1
 have HR2:=hid hr2
 clear hr1 hr2 hk6 hk7 hk8 hk9 hk10 ks8 ks10 k7 k9 hm1 hm2 hb1 hb2 hn1 hn2 hK1 hK2 hw1 hm18 hwv8 hm110 hm210 hrv6 hwv6 hM6 hM8 hrw2 hs6 k6 x0 x1 x2 x3 x4 x5 x6 y0 y1 y2 y3 y4 y5 y6 sb1 sc1 HKx hbx10
 by_cases hp0 : pl = 0
 ·subst hp0
  go_wp2_with (first | (at_builtin; refine wpList_append_run rfl _ _ _ rfl _ _ rfl rfl _ _ (HR1.out _) ?_; clear HR1) | (at_builtin; refine wpList_append_run rfl _ _ _ rfl _ _ rfl rfl _ _ (HR2.out _) ?_; clear HR2))
  go_ret
  exact ⟨rfl,HKw10.out,by rw [HM.out]; exact HKp.out⟩
 obtain ⟨m,hm⟩ : ∃ m,s.P[0]? = some m:=⟨_,List.getElem?_eq_getElem (by have:=HEQ.out.1; omega)⟩
 obtain ⟨G',C',V,e,-,-,hV,hO⟩:=HPv.out
 have eG : G' = GP:=by injection e with e1 e2 e3; injection e1 with e4; injection e4 with e5; exact e5.symm
 have eC : C' = CP:=by injection e with e1 e2 e3; exact e3.symm
 subst eG eC
 clear e
 obtain ⟨gb,Cb,hgM,hob,-,-,-,g3⟩:=hV.get 0 m hm
 have hVl:=hV.len
 have hVl2 : 4 ≤ V.length:=by have:=HEQ.out.1; omega
 have hgX : gb < X:=by have:=hob.lt; have:=HXe.out; omega
 have hob10:=hob.onB (HK110.out.block gb hob.lt (fun h => by have:=HXP.out _ h; omega))
 have hO10:=hO.on (HK110.out.block _ hO.lt (fun h => by have:=HXP.out _ h; have:=HGK.out; omega))
 have r3:=hO10.cell 3 _ ((List.getElem?_append_left (by omega)).trans g3)
 obtain ⟨kk,hkk⟩ : ∃ kk,m.L.length = kk:=⟨_,rfl⟩
 rw [hkk] at r3
 have hp1 : ((pl : Int) == 0) = false:=by simpa using hp0
 have hp2 : (pl == 0) = false:=by simpa using hp0
 have hp3 : (0 : Int) < (pl : Int):=by omega
 have hp4 : 0 < pl:=by omega
 by_cases hk0 : kk = 0
 ·subst hk0
  clear hV hO hob hob10 hO10 hm
  go_wp2_with (first | (at_builtin; refine wpList_append_run rfl _ _ _ rfl _ _ rfl rfl _ _ (HR1.out _) ?_; clear HR1) | (at_builtin; refine wpList_append_run rfl _ _ _ rfl _ _ rfl rfl _ _ (HR2.out _) ?_; clear HR2))
  go_ret
  exact ⟨rfl,HKw10.out,by rw [HM.out]; exact HKp.out⟩
 have hk1 : ((kk : Int) == 0) = false:=by simpa using hk0
 have hk2 : (kk == 0) = false:=by simpa using hk0
 have hk3 : (0 : Int) < (kk : Int):=by omega
 have hk4 : 0 < kk:=by omega
 have hc0 : ∃ y,w10.cell? ⟨gb,0,none⟩ = some (.int .i64 y):=by
  match hL : m.L,hob10 with
  | [],_ => rw [hL] at hkk; simp at hkk; omega
  | a :: tl,h => exact ⟨a,(own_v.1 h).cell 0 _ rfl⟩
 obtain ⟨y,hc0⟩:=hc0
 have hcf : w10.frozen? ⟨gb,0,none⟩ = false:=by
  obtain ⟨cur,h1,-⟩:=hob10
  exact frozen_of_row w10 gb 0 cur 3 h1
 obtain ⟨s2,hS2,hsm2,hrg2⟩:=hx10.out.poke HSm.out.1 HSm.out.2 hob10 1056964608 (by decide)
 obtain ⟨B2,er2,hA2⟩:=ans_of hsm2 hrg2
 obtain ⟨w11,hw11⟩ : ∃ w11,w10.setCell ⟨gb,0,none⟩ (.int .i64 1056964608) = w11:=⟨_,rfl⟩
 have hkp11:=HKp.out.poke hob10 (by have:=HXP.out K (.inl rfl); omega) (.int .i64 1056964608)
 have ks11 : KX (fun b => b = gb) w10 w11:=by rw [← hw11]; exact ((Grw.refl gb w10).setCell _ _).kx
 have hbx11:=HBx10.out.kx ks11 (by omega)
 rw [hw11] at hS2 hkp11
 have HS2:=hid hS2
 have HKp11:=hid hkp11
 have HA2:=hid hA2
 have HKw11:=hid (show KX (fun b => b = K ∨ bkv rv b ∨ bkv wv b) w w11 from (((HKw10.out.mono (Y:=fun b => (b = K ∨ bkv rv b ∨ bkv wv b) ∨ b = gb) fun b hb => .inl hb).trans (ks11.mono fun b hb => .inr hb)).shrink fun i hi hx => hx.resolve_right (by have:=HM.out; omega)))
 have HBx11:=hid hbx11
 obtain ⟨z0,z1,z2,z3,z4,z5,z6⟩ : _ ∧ _ ∧ _ ∧ _ ∧ _ ∧ _ ∧ _:=⟨hbx11.c 0 _ rfl,hbx11.c 1 _ rfl,hbx11.c 2 _ rfl,hbx11.c 3 _ rfl,hbx11.c 4 _ rfl,hbx11.c 5 _ rfl,hbx11.c 6 _ rfl⟩
 clear hV hO hob hob10 hO10 hm hS2 hA2 hkp11 ks11 hbx11 hsm2 hrg2 g3
 go_wp2_with (first | (at_builtin; refine wpList_append_run rfl _ _ _ rfl _ _ rfl rfl _ _ (HR1.out _) ?_; clear HR1) | (at_builtin; refine wpList_append_run rfl _ _ _ rfl _ _ rfl rfl _ _ (HR2.out _) ?_; clear HR2))
 (try rw [hw11])
 go_at_call 10
 refine (HA2.out.w _ w11 HS2.out).mono ?_
 rintro e w12 ⟨k12,bv2,rfl,hbv2,-⟩
 have K12:=hid k12
 have HB12:=hid hbv2
 have hbx12:=HBx11.out.kept k12
 clear z0 z1 z2 z3 z4 z5 z6 hw11 k12 hbv2
 obtain ⟨z0,z1,z2,z3,z4,z5,z6⟩ : _ ∧ _ ∧ _ ∧ _ ∧ _ ∧ _ ∧ _:=⟨hbx12.c 0 _ rfl,hbx12.c 1 _ rfl,hbx12.c 2 _ rfl,hbx12.c 3 _ rfl,hbx12.c 4 _ rfl,hbx12.c 5 _ rfl,hbx12.c 6 _ rfl⟩
 clear hbx12
 go_wp2_with fail
 go_at_call 21
 refine (HA2.out.r _ w12 (HS2.out.kept K12.out)).mono ?_
 rintro e w13 ⟨k13,cv2,rfl,hcv2,-⟩
 have K13:=hid (K12.out.trans k13)
 have sb2:=bn_str (HB12.out.kept k13).bn HA2.out.byt
 have sc2:=bn_str hcv2 HA2.out.byt
 have heq2 : ∀ (S : ByteArray) (u : World),(binOp .eql 9 (.string S) (.string S)).run Try.prog u = .ok (.bool true) u:=fun S u => by
  rw [binOp_string_eql]
  simp [Sem.run_pure]
 clear z0 z1 z2 z3 z4 z5 z6 k13 hcv2
 generalize SB B2 = S2 at *
 go_wp2_with fail
 go_ret
 exact ⟨rfl,HKw11.out.trans (K13.out.kx _),by rw [HM.out]; exact HKp11.out.kx K13.out⟩
end Go.Proofs.Ytocjfdiimapojaa
