/- Package state: a reader takes a state. -/
import Derived.Test.YtocjfdiimapojaaVJ
namespace Go.Proofs.Ytocjfdiimapojaa
open Go.ChangeShapes Go.WideShapes Go.ChangeAt Go.RowKit
set_option maxHeartbeats 16000000
set_option maxRecDepth 100000
set_option linter.unusedVariables false
set_option linter.unusedSimpArgs false
/-- A state that was read: all of it is new. -/
def StV (H : Nat) (w : World) (v : Value) (s : Sta) : Prop:=∃ pv qv KB,v = .agg #[.int .i64 s.a,.int .i64 s.b,.int .i64 s.d,pv,qv,.int .i64 s.lo,.int .i64 s.ra] ∧ H ≤ KB ∧ LsE H KB w pv s.P ∧ LlV KB w qv s.Q
theorem pall_nest (B : List Int) (q : Nat) : pall B q = (pmk mkL B q).andTo fun _ q => (pnum 8 stepB B q).andTo fun a q => (pnum 8 stepB B q).andTo fun b q => (pnum 8 stepB B q).andTo fun d q => (pnum 8 anyB B q).andTo fun lo q => (pnum 8 anyB B q).andTo fun ra q => (pmats 2 64 B q).andTo fun P q => (pnum 2 (fun n => decide (n ≤ 64)) B q).andTo fun n q => (prep n.toNat (pmats 1 4) B q).andTo fun Q q => (pend B q).andTo fun _ q => .ok ⟨a,b,d,P,Q,lo,ra⟩ q:=by
 unfold pall pbind
 show (pbody B q).andTo _ = _
 unfold pbody pbind
 simp only [Res.andTo_andTo]
 rfl
theorem rstate_any (q0 cap R : Nat) (ao : Option Addr) (B : List Int) (w : World) (hR : RV w R ao B cap q0) (hB : Byt B) :
  Calls Try.prog 29 #[.pointer (some ⟨R,0,none⟩)] w (Gv R ao B cap w (pall B q0) (StV w.heap.size)):=by
 have hmf : ∀ (fn : Fn) (first cap : Array Value) (w : World),(Instr.makeFunc fn first cap).run Try.prog w = .ok (.func fn first cap) w:=fun _ _ _ _ => rfl
 obtain ⟨X,hX⟩ : ∃ X,pall B q0 = X:=⟨_,rfl⟩
 rw [hX]
 rw [pall_nest] at hX
 have HX:=hid hX
 clear hX
 obtain ⟨M0,hM0⟩ : ∃ M0,w.heap.size = M0:=⟨_,rfl⟩
 have hRl:=hR.lt
 rw [hM0] at hRl
 have HRl:=hid hRl
 have HM0:=hid hM0
 obtain ⟨W0,hW0⟩ : ∃ W0,w.alloc (.cells #[.int .i64 0,.int .i64 0,.int .i64 0,.slice none 0 0,.slice none 0 0,.int .i64 0,.int .i64 0] 35) = W0:=⟨_,rfl⟩
 have k0 : Kept w W0:=by rw [← hW0]; exact (Kept.refl w).alloc _ _
 have b0 : Bk W0 M0 [.int .i64 0,.int .i64 0,.int .i64 0,.slice none 0 0,.slice none 0 0,.int .i64 0,.int .i64 0]:=by rw [← hW0,← hM0]; exact Bk.new w _ _
 have hs0:=hid (show W0.heap.size = M0 + 1 by rw [← hW0,← hM0]; simp)
 have hr0:=hid (hR.kept k0)
 have hb0:=hid b0
 have hk0:=hid k0
 clear hR k0 b0 hRl
 have HW0:=hid hW0
 go_enter Try.func29,Try.ntmps29
 go_wp2_with fail
 clear hM0 hW0
 go_loopw [5] (fun iv wr => ∃ (j : Nat) (q1 : Nat),j ≤ 4 ∧ iv = .int .i64 (j : Int) ∧ Grw R W0 wr ∧ RV wr R ao B cap q1 ∧ pmk mkL B q0 = pmk (mkL.drop j) B q1) (fun iv _ => 4 - (intOf iv).toNat)
 case atStart => exact ⟨0,q0,by omega,rfl,Grw.refl R W0,hr0.out,rfl⟩
 case round =>
  obtain ⟨j,q1,hj,rfl,gr,rv,hp⟩:=hrel
  by_cases hj4 : j < 4
  ·rw [pmk_drop j hj4] at hp
   replace hp : pmk mkL B q0 = (pnum 1 (fun n => n == mkL.getD j 0) B q1).andTo fun _ q => pmk (mkL.drop (j + 1)) B q:=hp
   obtain ⟨V,hV⟩ : ∃ V,wr.heap.size = V:=⟨_,rfl⟩
   obtain ⟨W1,hW1⟩ : ∃ W1,wr.alloc (.cells #[.int .i64 (j : Int)] 3) = W1:=⟨_,rfl⟩
   have k1 : Kept wr W1:=by rw [← hW1]; exact (Kept.refl wr).alloc _ _
   have i1 : IC W1 V (j : Int):=by rw [← hW1,← hV]; exact IC.new wr _
   have HN:=hid (number_any1 1 q1 cap R 50 ao B ⟨V,0,none⟩ (by decide) (by decide) (fun n => n == mkL.getD j 0) W1 1 rfl (rv.kept k1) hB (fun x wx => rfl) (fun u ku => rst1_any _ j hj4 V u (i1.kept ku).c))
   have z2 : IntKind.i64.wrap ((j : Int) + 1) = (j : Int) + 1:=by rw [wrap_i64]; omega
   have hj5 : (j : Int) < 4:=by omega
   have hg:=hid (gr.trans (k1.toGrw R))
   have hps:=hid hp
   clear hp gr rv k1 i1
   rcases hx : pnum 1 (fun n => n == mkL.getD j 0) B q1 with ⟨er,pl⟩ | ⟨n,q2⟩
   ·rw [hx] at HN hps
    have hXe : X = .no er pl:=by rw [← HX.out,hps.out]; rfl
    subst hXe
    go_wp2_with fail
    go_at_call 49
    refine HN.out.mono ?_
    intro e w5 h1
    obtain ⟨rfl,g5⟩:=gv_no h1
    go_wp2_with fail
    exact ⟨rfl,rfl,(hk0.out.toGrw R).trans (hg.out.trans g5)⟩
   ·rw [hx] at HN hps
    clear hx
    go_wp2_with fail
    go_at_call 49
    refine HN.out.mono ?_
    intro e w5 h1
    obtain ⟨v,rfl,g5,r5,ev⟩:=gv_ok h1
    obtain rfl : v = .int .i64 n:=ev
    have hg5:=hid (hg.out.trans g5)
    have hr5:=hid r5
    clear h1 g5 r5
    go_wp2_with fail
    go_roundw
    case rel => exact ⟨j + 1,q2,by omega,by go_num,hg5.out,hr5.out,hps.out⟩
    case measure => simp [intOf]; omega
  ·obtain rfl : j = 4:=by omega
   have hX4 : ((pnum 8 stepB B q1).andTo fun a q => (pnum 8 stepB B q).andTo fun b q => (pnum 8 stepB B q).andTo fun d q => (pnum 8 anyB B q).andTo fun lo q => (pnum 8 anyB B q).andTo fun ra q => (pmats 2 64 B q).andTo fun P q => (pnum 2 (fun n => decide (n ≤ 64)) B q).andTo fun n q => (prep n.toNat (pmats 1 4) B q).andTo fun Q q => (pend B q).andTo fun _ q => .ok ⟨a,b,d,P,Q,lo,ra⟩ q) = X:=by rw [← HX.out,hp]; rfl
   have HX4:=hid hX4
   obtain ⟨S,hS⟩ : ∃ S,wr.heap.size = S:=⟨_,rfl⟩
   obtain ⟨W1,hW1⟩ : ∃ W1,wr.alloc (.cells #[.int .i64 0,.int .i64 0,.int .i64 0,.slice none 0 0,.slice none 0 0,.int .i64 0,.int .i64 0] 35) = W1:=⟨_,rfl⟩
   have k1 : Kept wr W1:=by rw [← hW1]; exact (Kept.refl wr).alloc _ _
   have bs1 : Bk W1 S [.int .i64 0,.int .i64 0,.int .i64 0,.slice none 0 0,.slice none 0 0,.int .i64 0,.int .i64 0]:=by rw [← hW1,← hS]; exact Bk.new wr _ _
   have hbs1:=hid bs1
   have hbm1:=hid ((hb0.out.kx gr.kx (fun e => by have:=HRl.out; omega)).kept k1)
   have hr1:=hid (rv.kept k1)
   have hg1:=hid (show KX (fun b => b = R ∨ M0 ≤ b) w W1 from ((hk0.out.toGrw R).trans (gr.trans (k1.toGrw R))).kx.mono fun b hb => .inl hb)
   have HEND : Hid (∀ u u',KX (fun b => b = R ∨ M0 ≤ b) w u → Grw R u u' → Grw R w u'):=fun u u' k g => (k.trans (g.kx.mono fun b hb => .inl hb)).grw fun i hi hx => hx.resolve_right (by have:=HM0.out; omega)
   have HS : Hid (R < M0 ∧ M0 < S):=⟨HRl.out,by have:=gr.size; have e2:=hs0.out; omega⟩
   clear hX4 HX hp k1 bs1 gr rv hr0 hb0 hk0 HW0
   have HN8 : Hid (∀ g K qq u,((g = stepB ∧ K = 44) ∨ (g = anyB ∧ K = 51)) → RV u R ao B cap qq → Calls Try.prog 49 #[.pointer (some ⟨R,0,none⟩),.int .i64 8,.func (.func K) #[] #[]] u (Gv R ao B cap u (pnum 8 g B qq) IntV)):=fun g K qq u hgk hr => by
    rcases hgk with ⟨rfl,rfl⟩ | ⟨rfl,rfl⟩
    ·exact number_any0 8 qq cap R 44 ao B (by decide) (by decide) stepB u 8 rfl hr hB (fun x wx => rfl) (fun u2 _ => isStep_any _ u2)
    ·exact number_any0 8 qq cap R 51 ao B (by decide) (by decide) anyB u 8 rfl hr hB (fun x wx => rfl) (fun u2 _ => isAny_any _ u2)
   have HK1:=hid (HN8.out stepB 44 q1 _ (.inl ⟨rfl,rfl⟩) hr1.out)
   rcases hx : pnum 8 stepB B q1 with ⟨er,pl⟩ | ⟨a,q2⟩
   ·rw [hx] at HK1
    have hXe : X = .no er pl:=by rw [← HX4.out,hx]; rfl
    subst hXe
    go_wp2_with fail
    go_at_call 49
    refine HK1.out.mono ?_
    intro e w5 h1
    obtain ⟨rfl,g5⟩:=gv_no h1
    go_wp2_with fail
    exact ⟨rfl,rfl,HEND.out _ _ hg1.out g5⟩
   rw [hx] at HK1
   have e1:=HX4.out
   rw [hx,Res.andTo_ok] at e1
   clear HX4
   have HX4:=hid e1
   clear e1
   clear hx
   go_wp2_with fail
   go_at_call 49
   refine HK1.out.mono ?_
   intro e w3 h1
   obtain ⟨v,rfl,g5,r5,ev⟩:=gv_ok h1
   obtain rfl : v = .int .i64 a:=ev
   have hr2:=hid r5
   have hg2:=hid (hg1.out.trans (g5.kx.mono fun b hb => .inl hb))
   have hbs2:=hid (hbs1.out.kx g5.kx (fun e => by have:=HS.out; omega))
   have hbm2:=hid (hbm1.out.kx g5.kx (fun e => by have:=HS.out; omega))
   clear h1 g5 r5 HK1 hr1 hg1 hbs1 hbm1
   have HK2:=hid (HN8.out stepB 44 q2 _ (.inl ⟨rfl,rfl⟩) hr2.out)
   rcases hx : pnum 8 stepB B q2 with ⟨er,pl⟩ | ⟨b,q3⟩
   ·rw [hx] at HK2
    have hXe : X = .no er pl:=by rw [← HX4.out,hx]; rfl
    subst hXe
    go_wp2_with fail
    go_at_call 49
    refine HK2.out.mono ?_
    intro e w5 h1
    obtain ⟨rfl,g5⟩:=gv_no h1
    go_wp2_with fail
    exact ⟨rfl,rfl,HEND.out _ _ hg2.out g5⟩
   rw [hx] at HK2
   have e1:=HX4.out
   rw [hx,Res.andTo_ok] at e1
   clear HX4
   have HX4:=hid e1
   clear e1
   clear hx
   go_wp2_with fail
   go_at_call 49
   refine HK2.out.mono ?_
   intro e w4 h1
   obtain ⟨v,rfl,g5,r5,ev⟩:=gv_ok h1
   obtain rfl : v = .int .i64 b:=ev
   have hr3:=hid r5
   have hg3:=hid (hg2.out.trans (g5.kx.mono fun b hb => .inl hb))
   have hbs3:=hid (hbs2.out.kx g5.kx (fun e => by have:=HS.out; omega))
   have hbm3:=hid (hbm2.out.kx g5.kx (fun e => by have:=HS.out; omega))
   clear h1 g5 r5 HK2 hr2 hg2 hbs2 hbm2
   have HK3:=hid (HN8.out stepB 44 q3 _ (.inl ⟨rfl,rfl⟩) hr3.out)
   rcases hx : pnum 8 stepB B q3 with ⟨er,pl⟩ | ⟨d,q4⟩
   ·rw [hx] at HK3
    have hXe : X = .no er pl:=by rw [← HX4.out,hx]; rfl
    subst hXe
    go_wp2_with fail
    go_at_call 49
    refine HK3.out.mono ?_
    intro e w5 h1
    obtain ⟨rfl,g5⟩:=gv_no h1
    go_wp2_with fail
    exact ⟨rfl,rfl,HEND.out _ _ hg3.out g5⟩
   rw [hx] at HK3
   have e1:=HX4.out
   rw [hx,Res.andTo_ok] at e1
   clear HX4
   have HX4:=hid e1
   clear e1
   clear hx
   go_wp2_with fail
   go_at_call 49
   refine HK3.out.mono ?_
   intro e w5 h1
   obtain ⟨v,rfl,g5,r5,ev⟩:=gv_ok h1
   obtain rfl : v = .int .i64 d:=ev
   have hr4:=hid r5
   have hg4:=hid (hg3.out.trans (g5.kx.mono fun b hb => .inl hb))
   have hbs4:=hid (hbs3.out.kx g5.kx (fun e => by have:=HS.out; omega))
   have hbm4:=hid (hbm3.out.kx g5.kx (fun e => by have:=HS.out; omega))
   clear h1 g5 r5 HK3 hr3 hg3 hbs3 hbm3
   obtain ⟨c0,f0⟩ : (∀ i v,[Value.int .i64 0,.int .i64 0,.int .i64 0,.slice none 0 0,.slice none 0 0,.int .i64 0,.int .i64 0][i]? = some v → w5.cell? ⟨S,i,none⟩ = some v) ∧ ∀ o,w5.frozen? ⟨S,o,none⟩ = false:=⟨hbs4.out.c,hbs4.out.fz⟩
   have d0:=c0 0 _ rfl
   have d1:=c0 1 _ rfl
   have d2:=c0 2 _ rfl
   obtain ⟨Y5,hY5⟩ : ∃ Y,(((w5.setCell ⟨S,0,none⟩ (.int .i64 a)).setCell ⟨S,1,none⟩ (.int .i64 b)).setCell ⟨S,2,none⟩ (.int .i64 d)) = Y:=⟨_,rfl⟩
   have kY5 : KX (fun b => b = S) w5 Y5:=by rw [← hY5]; exact ((((Grw.refl S w5).setCell 0 _).setCell 1 _).setCell 2 _).kx
   have hbs5:=hid (show Bk Y5 S _ by rw [← hY5]; exact (((hbs4.out.set 0 _).set 1 _).set 2 _))
   have hbm5:=hid (show Bk Y5 M0 _ by rw [← hY5]; exact (((hbm4.out.far (p:=⟨S,0,none⟩) (by show M0 ≠ S; have:=HS.out; omega) _).far (p:=⟨S,1,none⟩) (by show M0 ≠ S; have:=HS.out; omega) _).far (p:=⟨S,2,none⟩) (by show M0 ≠ S; have:=HS.out; omega) _))
   have hr5:=hid (show RV Y5 R ao B cap _ by rw [← hY5]; exact (((hr4.out.other (p:=⟨S,0,none⟩) (by show R < S; have:=HS.out; omega) _).other (p:=⟨S,1,none⟩) (by show R < S; have:=HS.out; omega) _).other (p:=⟨S,2,none⟩) (by show R < S; have:=HS.out; omega) _))
   have hg5:=hid (hg4.out.trans (kY5.mono fun b hb => .inr (by have:=HS.out; omega)))
   clear c0 hbs4 hbm4 hr4 hg4
   have HK5:=hid (HN8.out anyB 51 q4 _ (.inr ⟨rfl,rfl⟩) hr5.out)
   rcases hx : pnum 8 anyB B q4 with ⟨er,pl⟩ | ⟨lo,q6⟩
   ·rw [hx] at HK5
    have hXe : X = .no er pl:=by rw [← HX4.out,hx]; rfl
    subst hXe
    go_wp2_with fail
    go_at_call 49
    refine HK5.out.mono ?_
    intro e w5 h1
    obtain ⟨rfl,g5⟩:=gv_no h1
    go_wp2_with fail
    exact ⟨rfl,rfl,HEND.out _ _ hg5.out g5⟩
   rw [hx] at HK5
   have e1:=HX4.out
   rw [hx,Res.andTo_ok] at e1
   clear HX4
   have HX4:=hid e1
   clear e1
   clear hx
   go_wp2_with fail
   go_at_call 49
   refine HK5.out.mono ?_
   intro e w7 h1
   obtain ⟨v,rfl,g5,r5,ev⟩:=gv_ok h1
   obtain rfl : v = .int .i64 lo:=ev
   have hr6:=hid r5
   have hg6:=hid (hg5.out.trans (g5.kx.mono fun b hb => .inl hb))
   have hbs6:=hid (hbs5.out.kx g5.kx (fun e => by have:=HS.out; omega))
   have hbm6:=hid (hbm5.out.kx g5.kx (fun e => by have:=HS.out; omega))
   clear h1 g5 r5 HK5 hr5 hg5 hbs5 hbm5
   have HK6:=hid (HN8.out anyB 51 q6 _ (.inr ⟨rfl,rfl⟩) hr6.out)
   rcases hx : pnum 8 anyB B q6 with ⟨er,pl⟩ | ⟨ra,q7⟩
   ·rw [hx] at HK6
    have hXe : X = .no er pl:=by rw [← HX4.out,hx]; rfl
    subst hXe
    go_wp2_with fail
    go_at_call 49
    refine HK6.out.mono ?_
    intro e w5 h1
    obtain ⟨rfl,g5⟩:=gv_no h1
    go_wp2_with fail
    exact ⟨rfl,rfl,HEND.out _ _ hg6.out g5⟩
   rw [hx] at HK6
   have e1:=HX4.out
   rw [hx,Res.andTo_ok] at e1
   clear HX4
   have HX4:=hid e1
   clear e1
   clear hx
   go_wp2_with fail
   go_at_call 49
   refine HK6.out.mono ?_
   intro e w8 h1
   obtain ⟨v,rfl,g5,r5,ev⟩:=gv_ok h1
   obtain rfl : v = .int .i64 ra:=ev
   have hr7:=hid r5
   have hg7:=hid (hg6.out.trans (g5.kx.mono fun b hb => .inl hb))
   have hbs7:=hid (hbs6.out.kx g5.kx (fun e => by have:=HS.out; omega))
   have hbm7:=hid (hbm6.out.kx g5.kx (fun e => by have:=HS.out; omega))
   clear h1 g5 r5 HK6 hr6 hg6 hbs6 hbm6
   clear hY5 kY5 f0 d0 d1 d2
   obtain ⟨c0,f0⟩ : (∀ i v,[Value.int .i64 a,.int .i64 b,.int .i64 d,.slice none 0 0,.slice none 0 0,.int .i64 0,.int .i64 0][i]? = some v → w8.cell? ⟨S,i,none⟩ = some v) ∧ ∀ o,w8.frozen? ⟨S,o,none⟩ = false:=⟨hbs7.out.c,hbs7.out.fz⟩
   have d5:=c0 5 _ rfl
   have d6:=c0 6 _ rfl
   obtain ⟨Y8,hY8⟩ : ∃ Y,((w8.setCell ⟨S,5,none⟩ (.int .i64 lo)).setCell ⟨S,6,none⟩ (.int .i64 ra)) = Y:=⟨_,rfl⟩
   have kY8 : KX (fun b => b = S) w8 Y8:=by rw [← hY8]; exact (((Grw.refl S w8).setCell 5 _).setCell 6 _).kx
   have hbs8:=hid (show Bk Y8 S _ by rw [← hY8]; exact ((hbs7.out.set 5 _).set 6 _))
   have hbm8:=hid (show Bk Y8 M0 _ by rw [← hY8]; exact ((hbm7.out.far (p:=⟨S,5,none⟩) (by show M0 ≠ S; have:=HS.out; omega) _).far (p:=⟨S,6,none⟩) (by show M0 ≠ S; have:=HS.out; omega) _))
   have hr8:=hid (show RV Y8 R ao B cap _ by rw [← hY8]; exact ((hr7.out.other (p:=⟨S,5,none⟩) (by show R < S; have:=HS.out; omega) _).other (p:=⟨S,6,none⟩) (by show R < S; have:=HS.out; omega) _))
   have hg8:=hid (hg7.out.trans (kY8.mono fun b hb => .inr (by have:=HS.out; omega)))
   clear c0 hbs7 hbm7 hr7 hg7
   obtain ⟨H9,hH9⟩ : ∃ H9,S + 1 = H9:=⟨_,rfl⟩
   have HH9:=hid hH9
   clear hH9
   have HM:=hid (rmatrices_any 2 2 64 rfl (by decide) (by decide) (by decide) q7 cap R ao B Y8 hr8.out hB)
   rcases hx : pmats 2 64 B q7 with ⟨er,pl⟩ | ⟨P,q9⟩
   ·rw [hx] at HM
    have hXe : X = .no er pl:=by rw [← HX4.out,hx]; rfl
    subst hXe
    go_wp2_with fail
    go_at_call 52
    refine HM.out.mono ?_
    intro e w5 h1
    obtain ⟨rfl,g5⟩:=gv_no h1
    go_wp2_with fail
    exact ⟨rfl,rfl,HEND.out _ _ hg8.out g5⟩
   rw [hx] at HM
   have e1:=HX4.out
   rw [hx,Res.andTo_ok] at e1
   clear HX4
   have HX4:=hid e1
   clear e1 hx
   go_wp2_with fail
   go_at_call 52
   refine HM.out.mono ?_
   intro e w9 h1
   obtain ⟨pv,rfl,g5,r5,lv⟩:=gv_ok h1
   obtain ⟨pa,pc,rfl⟩:=lv.form
   obtain ⟨KB,hK⟩ : ∃ KB,w9.heap.size = KB:=⟨_,rfl⟩
   have HKK:=hid (show w9.heap.size = KB ∧ H9 ≤ KB from ⟨hK,by have:=hbs8.out.lt; have:=HH9.out; have:=g5.size; omega⟩)
   have hl9:=hid (show LsE H9 KB w9 _ P by rw [← hK]; exact LsE.mono lv (by have:=hbs8.out.lt; have:=HH9.out; omega))
   clear hK
   have hr9:=hid r5
   have hg9:=hid (hg8.out.trans (g5.kx.mono fun b hb => .inl hb))
   have hbs9:=hid (hbs8.out.kx g5.kx (fun e => by have:=HS.out; omega))
   have hbm9:=hid (hbm8.out.kx g5.kx (fun e => by have:=HS.out; omega))
   clear h1 g5 r5 lv HM hr8 hg8 hbs8 hbm8 hY8 kY8 f0 d5 d6
   obtain ⟨c0,f0⟩ : (∀ i v,[Value.int .i64 a,.int .i64 b,.int .i64 d,.slice none 0 0,.slice none 0 0,.int .i64 lo,.int .i64 ra][i]? = some v → w9.cell? ⟨S,i,none⟩ = some v) ∧ ∀ o,w9.frozen? ⟨S,o,none⟩ = false:=⟨hbs9.out.c,hbs9.out.fz⟩
   have d3:=c0 3 _ rfl
   obtain ⟨Y10,hY10⟩ : ∃ Y,(w9.setCell ⟨S,3,none⟩ (.slice pa P.length pc)) = Y:=⟨_,rfl⟩
   have kY10 : KX (fun b => b = S) w9 Y10:=by rw [← hY10]; exact ((Grw.refl S w9).setCell 3 _).kx
   have hbs10:=hid (show Bk Y10 S _ by rw [← hY10]; exact (hbs9.out.set 3 _))
   have hbm10:=hid (show Bk Y10 M0 _ by rw [← hY10]; exact (hbm9.out.far (p:=⟨S,3,none⟩) (by show M0 ≠ S; have:=HS.out; omega) _))
   have hr10:=hid (show RV Y10 R ao B cap _ by rw [← hY10]; exact (hr9.out.other (p:=⟨S,3,none⟩) (by show R < S; have:=HS.out; omega) _))
   have hg10:=hid (hg9.out.trans (kY10.mono fun b hb => .inr (by have:=HS.out; omega)))
   clear c0 hbs9 hbm9 hr9 hg9
   have hks10:=hid kY10.size
   have hl10:=hid (hl9.out.kx kY10 (fun b hb => by have:=HH9.out; omega))
   obtain ⟨C,hC⟩ : ∃ C,Y10.heap.size = C:=⟨_,rfl⟩
   obtain ⟨Z0,hZ0⟩ : ∃ Z0,Y10.alloc (.cells #[.int .i64 64] 3) = Z0:=⟨_,rfl⟩
   have k1 : Kept Y10 Z0:=by rw [← hZ0]; exact (Kept.refl Y10).alloc _ _
   have i1 : IC Z0 C 64:=by rw [← hZ0,← hC]; exact IC.new Y10 64
   have HK:=hid (number_any1 2 q9 cap R 65 ao B ⟨C,0,none⟩ (by decide) (by decide) (fun n => decide (n ≤ 64)) Z0 2 rfl (hr10.out.kept k1) hB (fun x wx => rfl) (fun u ku => atMost1_any _ 64 C u (i1.kept ku).c))
   have hkz:=hid k1
   clear k1 i1 hl9 kY10
   rcases hx : pnum 2 (fun n => decide (n ≤ 64)) B q9 with ⟨er,pl⟩ | ⟨n,q10⟩
   ·rw [hx] at HK
    have hXe : X = .no er pl:=by rw [← HX4.out,hx]; rfl
    subst hXe
    go_wp2_with (first | (go_at_call 53; refine (atMost_any _ _).mono ?_; rintro e u1 ⟨rfl,rfl⟩))
    go_at_call 49
    refine HK.out.mono ?_
    intro e w5 h1
    obtain ⟨rfl,g5⟩:=gv_no h1
    go_wp2_with fail
    exact ⟨rfl,rfl,HEND.out _ _ (hg10.out.trans (hkz.out.kx _)) g5⟩
   obtain ⟨en,hn,-,-⟩:=pnum_ok hx
   rw [decide_eq_true_eq] at hn
   have hn0 : 0 ≤ n:=by rw [en]; exact (numv_small B hB q9).1
   clear en
   obtain ⟨N,rfl⟩:=Int.eq_ofNat_of_zero_le hn0
   rw [hx] at HK
   have e1:=HX4.out
   rw [hx,Res.andTo_ok,Int.toNat_natCast] at e1
   clear HX4
   have HX4:=hid e1
   have HN64:=hid (show N ≤ 64 by omega)
   clear e1 hx hn hn0
   go_wp2_with (first | (go_at_call 53; refine (atMost_any _ _).mono ?_; rintro e u1 ⟨rfl,rfl⟩))
   go_at_call 49
   refine HK.out.mono ?_
   intro e w11 h1
   obtain ⟨v,rfl,g5,r5,ev⟩:=gv_ok h1
   obtain rfl : v = .int .i64 (N : Int):=ev
   have hr11:=hid r5
   have hg11:=hid (hg10.out.trans ((hkz.out.kx _).trans (g5.kx.mono fun b hb => .inl hb)))
   have hbs11:=hid ((hbs10.out.kept hkz.out).kx g5.kx (fun e => by have:=HS.out; omega))
   have hbm11:=hid ((hbm10.out.kept hkz.out).kx g5.kx (fun e => by have:=HS.out; omega))
   have hl11:=hid ((hl10.out.kx (hkz.out.kx fun _ => False) (fun b hb => hb.elim)).kx g5.kx (fun b hb => by have:=HH9.out; have:=HS.out; omega))
   have hkz9:=hid (show KB ≤ _ from Nat.le_trans (by have:=HKK.out.1; have:=hks10.out; omega) (Nat.le_trans hkz.out.below.size g5.size))
   clear h1 g5 r5 HK hr10 hg10 hbs10 hbm10 hl10 hkz hZ0 hC hY10 f0 d3
   go_wp2_with fail
   have hfi:=hid (show ∃ q11,q10 = q11 from ⟨_,rfl⟩)
   go_loopw [33] (fun iv wr => ∃ (j : Nat) (acc : List (List Mat)) (q1 : Nat) (qa : Option Addr) (qc : Nat),j ≤ N ∧ acc.length = j ∧ iv = .int .i64 (j : Int) ∧ KX (fun b => b = R ∨ M0 ≤ b) w wr ∧ RV wr R ao B cap q1 ∧ Bk wr S [.int .i64 a,.int .i64 b,.int .i64 d,.slice pa P.length pc,.slice qa acc.length qc,.int .i64 lo,.int .i64 ra] ∧ Bk wr M0 [.int .i64 0,.int .i64 0,.int .i64 0,.slice none 0 0,.slice none 0 0,.int .i64 0,.int .i64 0] ∧ KB ≤ wr.heap.size ∧ LsE H9 KB wr (.slice pa P.length pc) P ∧ LlV KB wr (.slice qa acc.length qc) acc ∧ (prep N (pmats 1 4) B q10 = (prep (N - j) (pmats 1 4) B q1).andTo fun l qq => .ok (acc ++ l) qq)) (fun iv _ => N - (intOf iv).toNat)
   case atStart =>
    refine ⟨0,[],q10,none,0,Nat.zero_le _,rfl,rfl,hg11.out,hr11.out,hbs11.out,hbm11.out,hkz9.out,hl11.out,⟨⟨[],.inl ⟨rfl,rfl,rfl⟩,rfl⟩,fun _ => rfl⟩,?_⟩
    rw [Nat.sub_zero]
    cases prep N (pmats 1 4) B q10 <;> rfl
   case round =>
    clear hg11 hr11 hbs11 hbm11 hl11
    obtain ⟨j,acc,q1,qa,qc,hj,hal,rfl,kx,rv,bs,bm,hks,ll,lq,hp⟩:=hrel
    have HKS:=hid hks
    clear hks
    have HAL:=hid hal
    clear hal
    by_cases hjn : j < N
    ·have hps:=hid (prep_step _ B N j q10 q1 hjn acc hp)
     have z2 : IntKind.i64.wrap ((j : Int) + 1) = (j : Int) + 1:=by have:=HN64.out; rw [wrap_i64]; omega
     have hj5 : (j : Int) < (N : Int):=by omega
     have HM:=hid (rmatrices_any 1 1 4 rfl (by decide) (by decide) (by decide) q1 cap R ao B wr.drew (rv.kept (Kept.refl wr).drew) hB)
     have e4:=bs.c 4 _ rfl
     have hkx:=hid kx
     have hbs:=hid bs
     have hbm:=hid bm
     have hll:=hid ll
     have hlq:=hid lq
     have kd:=hid ((Kept.refl wr).drew)
     clear hp kx rv bs bm ll lq
     rcases hx : pmats 1 4 B q1 with ⟨er,pl⟩ | ⟨x,q3⟩
     ·rw [hx] at HM hps
      have hXe : X = .no er pl:=by rw [← HX4.out,hps.out]; rfl
      subst hXe
      go_wp2_with fail
      refine wp_region_late [5,6,7] (fun u => u.cell? ⟨S,4,none⟩ = some (.slice qa acc.length qc)) (by kernel_rfl) (show wr.drew.cell? _ = _ from e4) (fun hHeld => ?_)
      refine tkD (i:=0) (v:=?_) rfl hHeld ?_
      (try simp only [Act.put,zA,zB,zC,zD,zE,zF])
      refine tkD (i:=1) (v:=?_) rfl hHeld ?_
      (try simp only [Act.put,zA,zB,zC,zD,zE,zF])
      refine tkD (i:=2) (v:=?_) rfl hHeld ?_
      (try simp only [Act.put,zA,zB,zC,zD,zE,zF])
      refine wpAnyD_step (i:=3) (by kernel_rfl) rfl (fun K hK9 => ?_)
      go_simp
      go_wp2_with fail
      go_at_call 52
      refine HM.out.mono ?_
      intro e w5 h1
      obtain ⟨rfl,g5⟩:=gv_no h1
      exact ⟨rfl,rfl,HEND.out _ _ (hkx.out.trans (kd.out.kx _)) g5⟩
     ·rw [hx] at HM hps
      clear hx
      go_wp2_with fail
      refine wp_region_late [5,6,7] (fun u => u.cell? ⟨S,4,none⟩ = some (.slice qa acc.length qc)) (by kernel_rfl) (show wr.drew.cell? _ = _ from e4) (fun hHeld => ?_)
      refine tkD (i:=0) (v:=?_) rfl hHeld ?_
      (try simp only [Act.put,zA,zB,zC,zD,zE,zF])
      refine tkD (i:=1) (v:=?_) rfl hHeld ?_
      (try simp only [Act.put,zA,zB,zC,zD,zE,zF])
      refine tkD (i:=2) (v:=?_) rfl hHeld ?_
      (try simp only [Act.put,zA,zB,zC,zD,zE,zF])
      refine wpAnyD_step (i:=3) (by kernel_rfl) rfl (fun K hK9 => ?_)
      go_simp
      go_wp2_with fail
      refine HM.out.mono ?_
      intro e w5 h1
      obtain ⟨v,rfl,g5,r5,lv⟩:=gv_ok h1
      obtain ⟨pa2,pc2,rfl⟩:=lv.form
      have bs5:=(hbs.out.kept kd.out).kx g5.kx (fun e => by have:=HS.out; omega)
      have bm5:=(hbm.out.kept kd.out).kx g5.kx (fun e => by have:=HS.out; omega)
      have ll5:=(hll.out.kx (kd.out.kx fun _ => False) (fun b hb => hb.elim)).kx g5.kx (fun b hb => by have:=HS.out; have:=HH9.out; omega)
      have lq5:=hlq.out.kx (kd.out.kx fun _ => False) (fun b hb => hb.elim)
      have ks5:=g5.size
      have kd5:=kd.out.below.size
      have hH5 : H9 ≤ w5.heap.size:=by have:=bs5.lt; have:=HH9.out; omega
      have kx5:=hkx.out.trans ((kd.out.kx _).trans (g5.kx.mono (Y:=fun b => b = R ∨ M0 ≤ b) fun b hb => .inl hb))
      obtain ⟨v',w6,hrun,lq6,k6,kl6⟩:=ll_app KB wr.drew w5 _ acc lq5 _ g5.kx (fun b hb => by have:=HS.out; have:=HH9.out; have:=HKK.out; omega) (by have:=HKS.out; omega) _ x lv (by have:=HN64.out; have:=HAL.out; omega)
      obtain ⟨qa6,qc6,rfl⟩:=lq6.form
      obtain ⟨n6,hn6⟩ : ∃ n6,(acc ++ [x]).length = n6:=⟨_,rfl⟩
      rw [hn6] at hrun lq6
      have HN6:=hid hn6
      clear hn6
      have HR:=hid hrun
      have bs6:=bs5.kx k6 (by have:=HH9.out; have:=HKK.out; omega)
      have hks6:=hid (show KB ≤ w6.heap.size by have:=k6.size; have:=HKS.out; omega)
      have hbs6:=hid bs6
      have hbm6:=hid (bm5.kx k6 (by have:=HH9.out; have:=HKK.out; have:=HS.out; omega))
      have e6:=bs6.c 4 _ rfl
      have f6:=bs6.fz 4
      have s5:=bs5.c 4 _ rfl
      have hr6:=hid (show RV w6 R ao B cap q3 from r5.kx k6 (fun b hb => by have:=HH9.out; have:=HKK.out; have:=HS.out; omega))
      have hk6:=hid (kx5.trans (k6.mono fun b hb => .inr (by have:=HH9.out; have:=HKK.out; have:=HS.out; omega)))
      have hlq6:=hid lq6
      have hll6:=hid (show LsE H9 KB w6 _ P from kl6 _ _ _ _ ll5)
      refine hK9.out _ _ s5 (fun hHeld2 => ?_)
      clear hK9 K h1 g5 r5 lv bs5 bm5 ll5 lq5 ks5 kd5 kx5 hrun lq6 k6 kl6 bs6
      refine wpAnyD_step (i:=4) (by kernel_rfl) rfl (fun K hK9 => ?_)
      go_simp
      refine hK9.out _ _ (show (World.alloc _ _).cell? _ = _ from (World.cell?_alloc_some _ _ _ (by rw [s5]; rfl)).trans s5) (fun hHeld3 => ?_)
      clear hK9 K
      (try simp only [Act.put,zA,zB,zC,zD,zE,zF])
      refine wpAnyD_late (i:=5) (by kernel_rfl) rfl rfl (fun K hK9 => ?_)
      rw [if_pos (by rfl)]
      refine oper_append_run _ _ _ rfl _ _ rfl rfl _ _ (HR.out _) ?_
      refine hK9.out _ _ ?_
      clear hK9 K
      (try simp only [Act.put,zA,zB,zC,zD,zE,zF])
      refine wpAnyD_late (i:=6) (by kernel_rfl) rfl rfl (fun K hK9 => ?_)
      go_simp
      refine hK9.out _ _ ?_
      clear hK9 K
      (try simp only [Act.put,zA,zB,zC,zD,zE,zF])
      refine wpAnyD_late (i:=7) (by kernel_rfl) rfl rfl (fun K hK9 => ?_)
      go_simp
      refine hK9.out _ _ ?_
      clear hK9 K
      (try simp only [Act.put,zA,zB,zC,zD,zE,zF])
      refine wpAnyD_done (by kernel_rfl) ?_ _
      (try simp only [Act.put,zA,zB,zC,zD,zE,zF])
      have hbs7:=hid (hbs6.out.set 4 (.slice qa6 n6 qc6))
      have hbm7:=hid (hbm6.out.far (p:=⟨S,4,none⟩) (by show M0 ≠ S; have:=HS.out; omega) (.slice qa6 n6 qc6))
      have hr7:=hid (hr6.out.other (p:=⟨S,4,none⟩) (by show R < S; have:=HS.out; omega) (.slice qa6 n6 qc6))
      have kst : KX (fun b => b = S) w6 (w6.setCell ⟨S,4,none⟩ (.slice qa6 n6 qc6)):=((Grw.refl S w6).setCell 4 _).kx
      have hk7:=hid (hk6.out.trans (kst.mono fun b hb => .inr (by have:=HS.out; omega)))
      have hl7:=hid (hll6.out.kx kst (fun b hb => by have:=HH9.out; omega))
      have hlq7:=hid (hlq6.out.kx kst (fun b hb => by have:=HH9.out; have:=HKK.out; omega))
      have hks7:=hid (show KB ≤ _ from Nat.le_trans hks6.out kst.size)
      clear kst e6 f6 s5 hHeld hHeld2 hHeld3
      go_wp2_with fail
      go_roundw
      case rel =>
       have e9:=HN6.out
       subst e9
       exact ⟨j + 1,acc ++ [x],q3,qa6,qc6,by omega,by have:=HAL.out; simp; omega,by go_num,hk7.out,hr7.out,hbs7.out,hbm7.out,hks7.out,hl7.out,hlq7.out,hps.out⟩
      case measure => simp [intOf]; omega
    ·obtain rfl : j = N:=by omega
     rw [Nat.sub_self] at hp
     replace hp : prep j (pmats 1 4) B q10 = .ok acc q1:=by rw [hp]; simp [prep,ppure,Res.andTo]
     have hX9 : ((pend B q1).andTo fun _ q => .ok ⟨a,b,d,P,acc,lo,ra⟩ q) = X:=by rw [← HX4.out,hp]; rfl
     have HE:=hid (rend_any q1 cap R ao B wr rv hB)
     have hkx:=hid kx
     have hbs:=hid bs
     have hbm:=hid bm
     have hll:=hid ll
     have hlq:=hid lq
     clear hp kx rv bs bm ll lq HX4
     rcases hx : pend B q1 with ⟨er,pl⟩ | ⟨x,q3⟩
     ·rw [hx] at HE
      have hXe : X = .no er pl:=by rw [← hX9,hx]; rfl
      subst hXe
      clear hX9
      go_wp2_with fail
      go_at_call 54
      refine HE.out.mono ?_
      intro e w5 h1
      obtain ⟨rfl,g5⟩:=gv_no h1
      go_wp2_with fail
      exact ⟨rfl,rfl,HEND.out _ _ hkx.out g5⟩
     ·rw [hx] at HE
      have hXe : X = .ok ⟨a,b,d,P,acc,lo,ra⟩ q3:=by rw [← hX9,hx]; rfl
      subst hXe
      clear hX9 hx
      go_wp2_with fail
      go_at_call 54
      refine HE.out.mono ?_
      intro e w5 h1
      obtain ⟨v,rfl,g5,r5,ev⟩:=gv_ok h1
      obtain rfl : v = .tuple #[]:=ev
      have hr5:=hid r5
      have bs:=hbs.out.kx g5.kx (fun e => by have:=HS.out; omega)
      have bm:=hbm.out.kx g5.kx (fun e => by have:=HS.out; omega)
      have ll:=hid (hll.out.kx g5.kx (fun b hb => by have:=HS.out; have:=HH9.out; omega))
      have lq:=hid (hlq.out.kx g5.kx (fun b hb => by have:=HS.out; have:=HH9.out; have:=HKK.out; omega))
      have hgw:=hid (hkx.out.trans (g5.kx.mono fun b hb => .inl hb))
      have s0:=bs.c 0 _ rfl
      have s1:=bs.c 1 _ rfl
      have s2:=bs.c 2 _ rfl
      have s3:=bs.c 3 _ rfl
      have s4:=bs.c 4 _ rfl
      have s5:=bs.c 5 _ rfl
      have s6:=bs.c 6 _ rfl
      have m0:=bm.c 0 _ rfl
      have m1:=bm.c 1 _ rfl
      have m2:=bm.c 2 _ rfl
      have m3:=bm.c 3 _ rfl
      have m4:=bm.c 4 _ rfl
      have m5:=bm.c 5 _ rfl
      have m6:=bm.c 6 _ rfl
      have fm:=bm.fz
      have hbmz:=hid bm
      clear h1 g5 r5 bs bm HE hbs hbm hll hlq hkx
      go_wp2_with fail
      have h1 : R < M0:=HRl.out
      refine bodyPost_ret (v:=.agg #[.int .i64 a,.int .i64 b,.int .i64 d,.slice pa P.length pc,.slice qa acc.length qc,.int .i64 lo,.int .i64 ra]) (by simp [results,Try.results29,go_sem,m0,m1,m2,m3,m4,m5,m6]) rfl ?_
      have hM:=HM0.out
      have h9:=HH9.out
      have h10:=HS.out
      refine ⟨_,rfl,?_,(((((((hr5.out.other (p:=⟨M0,0,none⟩) h1 _).other (p:=⟨M0,1,none⟩) h1 _).other (p:=⟨M0,2,none⟩) h1 _).other (p:=⟨M0,3,none⟩) h1 _).other (p:=⟨M0,4,none⟩) h1 _).other (p:=⟨M0,5,none⟩) h1 _).other (p:=⟨M0,6,none⟩) h1 _),⟨_,_,KB,rfl,by have:=HKK.out; omega,?_,?_⟩⟩
      ·exact ((hgw.out.trans (((((((((Grw.refl M0 w5).setCell 0 _).setCell 1 _).setCell 2 _).setCell 3 _).setCell 4 _).setCell 5 _).setCell 6 _).kx.mono (Y:=fun b => b = R ∨ M0 ≤ b) fun b hb => .inr (by omega)))).grw fun i hi hx => hx.resolve_right (by omega)
      ·exact (ll.out.kx (((((((((Grw.refl M0 w5).setCell 0 _).setCell 1 _).setCell 2 _).setCell 3 _).setCell 4 _).setCell 5 _).setCell 6 _)).kx (fun b hb => by omega)).mono (by omega)
      ·exact (lq.out.kx (((((((((Grw.refl M0 w5).setCell 0 _).setCell 1 _).setCell 2 _).setCell 3 _).setCell 4 _).setCell 5 _).setCell 6 _)).kx (fun b hb => by have:=HKK.out; omega))
end Go.Proofs.Ytocjfdiimapojaa
