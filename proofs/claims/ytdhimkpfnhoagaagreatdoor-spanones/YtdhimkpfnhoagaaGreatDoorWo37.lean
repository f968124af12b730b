/- Package span: crossed,Mul. The statements' own test of life. Package span: around,Around,Point; the statements' own around. -/
import Derived.Test.YtdhimkpfnhoagaaGreatDoorWo36
namespace Go.Proofs.YtdhimkpfnhoagaaGreatDoor
open Go.ChangeShapes Go.WideShapes Go.ChangeAt Go.RowKit Ieee
set_option linter.unusedVariables false
set_option linter.unusedSimpArgs false
set_option maxHeartbeats 16000000
set_option maxRecDepth 100000
/-- the closures that crossed makes,as they lie -/
structure Crs (w : World) (op : Nat) (n : Int) (P Q R : Nat) : Prop where
 p : w.cell? ⟨P,0,none⟩ = some (.func (.func op) #[] #[])
 q : w.cell? ⟨Q,0,none⟩ = some (.int .i64 n)
 r : w.cell? ⟨R,0,none⟩ = some (.func (.func 120) #[] #[.pointer (some ⟨P,0,none⟩),.pointer (some ⟨Q,0,none⟩)])
 lp : P < w.heap.size
 lq : Q < w.heap.size
 lr : R < w.heap.size
theorem Crs.kept {w u : World} {op : Nat} {n : Int} {P Q R : Nat} (h : Crs w op n P Q R) (k : Kept w u) : Crs u op n P Q R :=
 ⟨(k.below.cell (p:=⟨P,0,none⟩) h.lp).trans h.p,(k.below.cell (p:=⟨Q,0,none⟩) h.lq).trans h.q,(k.below.cell (p:=⟨R,0,none⟩) h.lr).trans h.r,Nat.lt_of_lt_of_le h.lp k.below.size,Nat.lt_of_lt_of_le h.lq k.below.size,Nat.lt_of_lt_of_le h.lr k.below.size⟩
theorem crossed_any (op : Nat) (n : Int) (w : World) : Calls Tryz.prog 71 #[.func (.func op) #[] #[],.int .i64 n] w fun e w' => ∃ P Q R,e = .returned (.func (.func 121) #[] #[.pointer (some ⟨R,0,none⟩)]) ∧ Crs w' op n P Q R ∧ Kept w w':=by
 have hmf : ∀ (fn : Fn) (first cap : Array Value) (w : World),(Instr.makeFunc fn first cap).run Tryz.prog w = .ok (.func fn first cap) w:=fun _ _ _ _ => rfl
 go_enter Tryz.func71,Tryz.ntmps71
 go_wp2_with fail
 go_ret
 refine ⟨w.heap.size,w.heap.size + 1,w.heap.size + 1 + 1,rfl,⟨by simp [go_sem],by simp [go_sem],by simp [go_sem],by simp; omega,by simp,by simp⟩,?_⟩
 (repeat' first | exact Kept.refl _ | refine Kept.alloc ?_ _ _)
theorem mul_walk (a1 b1 a2 b2 n : Int) (x1 y1 x2 y2 : Nat) (q p1 p2 : Int) (J : Nat → Nat → Prop) (w : World)
  (KB : Hid (∀ u,Calls Tryz.prog 67 #[sp2 a1 b1,sp2 a2 b2,.int .i64 n] u fun e w' => e = .returned (.tuple #[fv2 x1 y1,fv2 x2 y2,.int .i64 q]) ∧ Kept u w'))
  (KC : Hid (∀ u P Q R,Kept w u → Crs u 72 n P Q R → Calls Tryz.prog 121 #[fv2 x1 y1,fv2 x2 y2,.pointer (some ⟨R,0,none⟩)] u fun e w' => ∃ x y,e = .returned (fv2 x y) ∧ J x y ∧ Kept u w'))
  (KT : Hid (∀ u x y,J x y → Calls Tryz.prog 68 #[fv2 x y,.int .i64 n,.int .i64 q] u fun e w' => e = .returned (.tuple #[sp2 p1 p2,.int .i64 q]) ∧ Kept u w')) :
  Calls Tryz.prog 19 #[sp2 a1 b1,sp2 a2 b2,.int .i64 n] w fun e w' => e = .returned (.tuple #[sp2 p1 p2,.int .i64 q]) ∧ Kept w w':=by
 obtain ⟨X,hX⟩ : ∃ X,X = ((w.alloc (.cells #[.int .i64 a1,.int .i64 b1] 23)).alloc (.cells #[.int .i64 a2,.int .i64 b2] 23)).alloc (.cells #[.int .i64 0,.int .i64 0] 23):=⟨_,rfl⟩
 have hP1 : P2 X w.heap.size (.int .i64 a1) (.int .i64 b1):=by
  rw [hX]
  exact ((P2.new w _ _ _).alloc _ _).alloc _ _
 have hP2 : P2 X (w.heap.size + 1) (.int .i64 a2) (.int .i64 b2):=by
  rw [hX]
  have:=(P2.new (w.alloc (.cells #[.int .i64 a1,.int .i64 b1] 23)) (.int .i64 a2) (.int .i64 b2) 23).alloc #[.int .i64 0,.int .i64 0] 23
  simpa using this
 have hQ : P2 X (w.heap.size + 1 + 1) (.int .i64 0) (.int .i64 0):=by
  rw [hX]
  have:=P2.new ((w.alloc (.cells #[.int .i64 a1,.int .i64 b1] 23)).alloc (.cells #[.int .i64 a2,.int .i64 b2] 23)) (.int .i64 0) (.int .i64 0) 23
  simpa using this
 have hK : Kept w X:=by
  rw [hX]
  exact (((Kept.refl w).alloc _ _).alloc _ _).alloc _ _
 obtain ⟨H1,hH1⟩ : ∃ H,H = w.heap.size + 1:=⟨_,rfl⟩
 obtain ⟨H2,hH2⟩ : ∃ H,H = H1 + 1:=⟨_,rfl⟩
 rw [← hH1] at hP2 hQ
 rw [← hH2] at hQ
 have o2 : w.heap.size ≤ H2:=by omega
 have hSF:=sto_f
 go_enter Tryz.func19,Tryz.ntmps19
 go_upto_region 1 with fail
 rw [← hX,← hH1,← hH2]
 clear hX hH1 hH2
 obtain ⟨p10,p11,p1f⟩:=hP1
 obtain ⟨p20,p21,p2f⟩:=hP2
 go_upto_region 2 with (first | (go_at_call 67; refine (KB.out _).mono ?_; rintro e w1 ⟨rfl,k1⟩))
 have hQ1:=hQ.kept k1
 have kw1:=hK.trans k1
 have lH2:=hQ1.lt
 clear p10 p11 p1f p20 p21 p2f KB hK hQ k1
 obtain ⟨Y,hY⟩ : ∃ Y,Y = (w1.alloc (.cells #[.float .f64 x1,.float .f64 y1] 87)).alloc (.cells #[.float .f64 x2,.float .f64 y2] 87):=⟨_,rfl⟩
 have hC1 : P2 Y w1.heap.size (.float .f64 x1) (.float .f64 y1):=by
  rw [hY]
  exact (P2.new w1 _ _ _).alloc _ _
 have hC2 : P2 Y (w1.heap.size + 1) (.float .f64 x2) (.float .f64 y2):=by
  rw [hY]
  have:=P2.new (w1.alloc (.cells #[.float .f64 x1,.float .f64 y1] 87)) (.float .f64 x2) (.float .f64 y2) 87
  simpa using this
 have kY : Kept w1 Y:=by
  rw [hY]
  exact ((Kept.refl w1).alloc _ _).alloc _ _
 have hQY:=hQ1.kept kY
 have kwY:=kw1.trans kY
 obtain ⟨B1,hB1⟩ : ∃ B,B = w1.heap.size:=⟨_,rfl⟩
 obtain ⟨B2,hB2⟩ : ∃ B,B = B1 + 1:=⟨_,rfl⟩
 rw [← hB1] at hC1 hC2
 rw [← hB2] at hC2
 rw [← hY,← hB1,← hB2]
 have n1 : H2 ≠ B1:=by omega
 have n2 : H2 ≠ B2:=by omega
 clear hY kw1 kY hQ1 hB1 hB2
 have kd : Kept Y Y.drew:=(Kept.refl Y).drew
 have HS : Hid (∀ u,Kept Y u → (u.cell? ⟨B1,0,none⟩ = some (.float .f64 x1) ∧ u.cell? ⟨B1,1,none⟩ = some (.float .f64 y1)) ∧ (u.cell? ⟨B2,0,none⟩ = some (.float .f64 x2) ∧ u.cell? ⟨B2,1,none⟩ = some (.float .f64 y2))):=fun u k => ⟨⟨(hC1.kept k).c0,(hC1.kept k).c1⟩,⟨(hC2.kept k).c0,(hC2.kept k).c1⟩⟩
 refine wp_region_held_drew (S:=fun u => (u.cell? ⟨B1,0,none⟩ = some (.float .f64 x1) ∧ u.cell? ⟨B1,1,none⟩ = some (.float .f64 y1)) ∧ (u.cell? ⟨B2,0,none⟩ = some (.float .f64 x2) ∧ u.cell? ⟨B2,1,none⟩ = some (.float .f64 y2))) (by kernel_rfl) (HS.out _ kd) (fun hHeld => ?_)
 refine tk (i:=0) (v:=?_) rfl ?_
 simp only [Act.put,zA,zB,zC,zD,zE,zF]
 refine tk (i:=2) (v:=?_) rfl ?_
 simp only [Act.put,zA,zB,zC,zD,zE,zF]
 refine tk (i:=3) (v:=?_) rfl ?_
 simp only [Act.put,zA,zB,zC,zD,zE,zF]
 refine tk (i:=5) (v:=?_) rfl ?_
 simp only [Act.put,zA,zB,zC,zD,zE,zF]
 refine tk (i:=6) (v:=?_) rfl ?_
 simp only [Act.put,zA,zB,zC,zD,zE,zF]
 refine wpAnyH_ready (rs:=[1]) (by kernel_rfl) (by simp) ?_
 refine AllReadyH.cons rfl (fun K hK9 => ?_) AllReadyH.nil
 go_simp
 go_wp2_with fail
 refine (crossed_any _ _ _).mono ?_
 rintro e v1 ⟨P,Q,R,rfl,hCr,k1⟩
 have j1:=kd.trans k1
 refine hK9.out _ _ (HS.out _ j1) (fun hHeld1 => ?_)
 clear hK9 K
 refine wpAnyH_ready (rs:=[4]) (by kernel_rfl) (by simp) ?_
 refine AllReadyH.cons rfl (fun K hK9 => ?_) AllReadyH.nil
 go_simp
 go_wp2_with fail
 refine (KC.out _ _ _ _ (kwY.trans j1) hCr).mono ?_
 rintro e v2 ⟨x,y,rfl,hJ,k2⟩
 have j2:=j1.trans k2
 refine hK9.out _ _ (HS.out _ j2) (fun hHeld2 => ?_)
 clear hK9 K hCr
 refine wpAnyH_ready (rs:=[7]) (by kernel_rfl) (by simp) ?_
 refine AllReadyH.cons rfl (fun K hK9 => ?_) AllReadyH.nil
 go_simp
 go_wp2_with fail
 refine (KT.out _ _ _ hJ).mono ?_
 rintro e v3 ⟨rfl,k3⟩
 have j3:=j2.trans k3
 refine hK9.out _ _ (HS.out _ j3) (fun hHeld3 => ?_)
 clear hK9 K
 refine tk (i:=8) (v:=?_) rfl ?_
 simp only [Act.put,zA,zB,zC,zD,zE,zF]
 refine tk (i:=9) (v:=?_) rfl ?_
 simp only [Act.put,zA,zB,zC,zD,zE,zF]
 obtain ⟨c0,c1,cf⟩:=hQY.kept j3
 refine wpAnyH_ready (rs:=[10]) (by kernel_rfl) (by simp) ?_
 refine AllReadyH.cons rfl (fun K hK9 => ?_) AllReadyH.nil
 go_simp
 have g1:=((hC1.kept j3).set H2 0 n1 (.int .i64 p1)).set H2 1 n1 (.int .i64 p2)
 have g2:=((hC2.kept j3).set H2 0 n2 (.int .i64 p1)).set H2 1 n2 (.int .i64 p2)
 refine hK9.out _ _ ⟨⟨g1.c0,g1.c1⟩,⟨g2.c0,g2.c1⟩⟩ (fun hHeld4 => ?_)
 clear hK9 K
 refine tk (i:=11) (v:=?_) rfl ?_
 simp only [Act.put,zA,zB,zC,zD,zE,zF]
 refine wpAnyH_done (by kernel_rfl) ?_ _
 go_wp2_with fail
 have hz:=(P2.mk c0 c1 cf).put (.int .i64 p1) (.int .i64 p2)
 obtain ⟨m0,m1,mf⟩:=hz
 exact bodyPost_ret (v:=.tuple #[sp2 p1 p2,.int .i64 q]) (by simp [results,Tryz.results19,go_sem,m0,m1]) rfl ⟨rfl,((kwY.trans j3).setCell o2 _).setCell o2 _⟩
theorem ivs_three {u : World} {B : Nat} {v0 v1 : Value} {a b c d e f : Nat} (h : E8 u B v0 v1 (.float .f64 a) (.float .f64 b) (.float .f64 c) (.float .f64 d) (.float .f64 e) (.float .f64 f)) : Ivs u (some ⟨B,2,none⟩) 3 (fun i => if i = 0 then a else if i = 1 then c else e) (fun i => if i = 0 then b else if i = 1 then d else f):=fun v kv i hi => by
 have g:=h.kept kv
 refine ⟨_,_,rfl,?_,?_⟩
 ·rcases (show i = 0 ∨ i = 1 ∨ i = 2 by omega) with rfl | rfl | rfl
  ·exact g.c2
  ·exact g.c4
  ·exact g.c6
 ·rcases (show i = 0 ∨ i = 1 ∨ i = 2 by omega) with rfl | rfl | rfl
  ·exact g.c3
  ·exact g.c5
  ·exact g.c7
theorem mul5_ok (a1 b1 a2 b2 n : Int) (s1 : RB a1) (s2 : RB b1) (s3 : RB a2) (s4 : RB b2) (hv1 : vsp a1 b1 n = true) (hv2 : vsp a2 b2 n = true) : ∃ d0 d1 d2 d3 u0 u1 u2 u3,(Prk n 1 (keyOf a1 n) (keyOf a2 n) d0 ∧ Prk n 1 (keyOf a1 n) (keyOf b2 n) d1 ∧ Prk n 1 (keyOf b1 n) (keyOf a2 n) d2 ∧ Prk n 1 (keyOf b1 n) (keyOf b2 n) d3) ∧ (Prk n 2 (keyOf a1 n) (keyOf a2 n) u0 ∧ Prk n 2 (keyOf a1 n) (keyOf b2 n) u1 ∧ Prk n 2 (keyOf b1 n) (keyOf a2 n) u2 ∧ Prk n 2 (keyOf b1 n) (keyOf b2 n) u3) ∧
  (∀ k,k = d0 ∨ k = d1 ∨ k = d2 ∨ k = d3 ∨ k = u0 ∨ k = u1 ∨ k = u2 ∨ k = u3 → -(ifn n : Int) ≤ k ∧ k ≤ (ifn n : Int)) ∧
  ∀ (w : World),Tab w → Calls Tryz.prog 19 #[sp2 a1 b1,sp2 a2 b2,.int .i64 n] w fun e w' => e = .returned (.tuple #[sp2 (pz n (min (min (min d0 d1) d2) d3)) (pz n (max (max (max u0 u1) u2) u3)),.int .i64 0]) ∧ Kept w w':=by
 obtain ⟨i1,i2,v3,v4,v5⟩:=vsp_num _ _ _ hv1
 obtain ⟨i3,i4,w3,w4,w5⟩:=vsp_num _ _ _ hv2
 have hn:=isnum_wid _ _ i1
 obtain ⟨x1,y1,x2,y2,q,hB,KB⟩:=both_any a1 b1 a2 b2 n s1 s2 s3 s4
 have hq : q = 0:=hB.err.trans ((btE_zero _ _ _ _ _).2 ⟨hv1,hv2⟩)
 obtain ⟨f1,f2,f3,f4⟩:=hB.ok hq
 subst hq
 have t1 : (1 : Int) = 0 ∨ (1 : Int) = 1 ∨ (1 : Int) = 2:=by simp
 have t2 : (2 : Int) = 0 ∨ (2 : Int) = 1 ∨ (2 : Int) = 2:=by simp
 obtain ⟨z0,d0,P0,F0,C0⟩:=sprod_any n 1 hn t1 x1 x2 _ _ f1 f3
 obtain ⟨z1,d1,P1,F1,C1⟩:=sprod_any n 1 hn t1 x1 y2 _ _ f1 f4
 obtain ⟨z2,d2,P2,F2,C2⟩:=sprod_any n 1 hn t1 y1 x2 _ _ f2 f3
 obtain ⟨z3,d3,P3,F3,C3⟩:=sprod_any n 1 hn t1 y1 y2 _ _ f2 f4
 obtain ⟨v0,u0,Q0,G0,D0⟩:=sprod_any n 2 hn t2 x1 x2 _ _ f1 f3
 obtain ⟨v1,u1,Q1,G1,D1⟩:=sprod_any n 2 hn t2 x1 y2 _ _ f1 f4
 obtain ⟨v2,u2,Q2,G2,D2⟩:=sprod_any n 2 hn t2 y1 x2 _ _ f2 f3
 obtain ⟨v3',u3,Q3,G3,D3⟩:=sprod_any n 2 hn t2 y1 y2 _ _ f2 f4
 refine ⟨d0,d1,d2,d3,u0,u1,u2,u3,⟨P0,P1,P2,P3⟩,⟨Q0,Q1,Q2,Q3⟩,?_,fun w hT => ?_⟩
 ·rintro k (rfl | rfl | rfl | rfl | rfl | rfl | rfl | rfl)
  ·exact F0.rng
  ·exact F1.rng
  ·exact F2.rng
  ·exact F3.rng
  ·exact G0.rng
  ·exact G1.rng
  ·exact G2.rng
  ·exact G3.rng
 refine mul_walk a1 b1 a2 b2 n x1 y1 x2 y2 0 _ _ (fun x y => Fl n x (min (min (min d0 d1) d2) d3) ∧ Fl n y (max (max (max u0 u1) u2) u3)) w KB (fun u P Q R kwu hCr => ?_) (fun u x y h => told_ok5 h.1 h.2 u)
 refine crossed2_walk x1 y1 x2 y2 z0 v0 z1 v1 z2 v2 z3 v3' R P Q u _ hCr.lr hCr.r (fun s a b g1 g2 hc ks => ?_) (fun s B ks hE => ?_)
 ·have hs:=hCr.kept ks
  have hTs:=(hT.kept kwu).kept ks
  refine outward_any 72 (fun a b c d w => call_of Tryz.func72 (by kernel_rfl) (by kernel_rfl) _ w) n a b g1 g2 s P Q hs.p hs.q hs.lp hs.lq (fun t way z kt hz => ?_)
  have hTt:=hTs.kept kt
  rcases hc with ⟨rfl,rfl,rfl,rfl⟩ | ⟨rfl,rfl,rfl,rfl⟩ | ⟨rfl,rfl,rfl,rfl⟩ | ⟨rfl,rfl,rfl,rfl⟩ <;> rcases hz with ⟨rfl,rfl⟩ | ⟨rfl,rfl⟩
  ·exact C0 t hTt
  ·exact D0 t hTt
  ·exact C1 t hTt
  ·exact D1 t hTt
  ·exact C2 t hTt
  ·exact D2 t hTt
  ·exact C3 t hTt
  ·exact D3 t hTt
 ·refine (joined_any n z0 v0 d0 u0 F0 G0 3 (by decide) _ _ (fun i => if i = 0 then d1 else if i = 1 then d2 else d3) (fun i => if i = 0 then u1 else if i = 1 then u2 else u3) (fun i hi => ?_) _ _ s (ivs_three hE)).mono ?_
  ·rcases (show i = 0 ∨ i = 1 ∨ i = 2 by omega) with rfl | rfl | rfl
   ·exact ⟨F1,G1⟩
   ·exact ⟨F2,G2⟩
   ·exact ⟨F3,G3⟩
  ·rintro e w' ⟨x,y,rfl,h1,h2,k'⟩
   exact ⟨x,y,rfl,⟨h1,h2⟩,k'⟩
theorem vz_down (s t : Int) (r : Nm) (h : s ≤ t) (hl : r.mag ≠ [] → t ≤ r.exp) : vz s r = vz t r * 2 ^ (t - s).toNat:=by
 by_cases hm : r.mag = []
 ·obtain ⟨ng,m,e⟩:=r
  simp only at hm
  subst hm
  rw [vz_nil,vz_nil,Int.zero_mul]
 ·have:=hl hm
  rw [vz_sg,vz_sg,Int.mul_assoc,← Int.pow_add]
  congr 2
  omega
theorem kvz_down (n s t k : Int) (h : s ≤ t) (hl : t ≤ kleast n) : kvz n s k = kvz n t k * 2 ^ (t - s).toNat:=by
 have e : (kleast n - s).toNat = (kleast n - t).toNat + (t - s).toNat:=by omega
 unfold kvz
 rw [e,Nat.pow_add,← Nat.mul_assoc]
 split
 ·rw [Int.neg_mul,Int.natCast_mul,Int.natCast_pow]; rfl
 ·rw [Int.natCast_mul,Int.natCast_pow]; rfl
/- a sum that is a float -/
theorem smk_float (n way k1 k2 K' K : Int) (hn : n = 64 ∨ n = 32) (hw : way = 1 ∨ way = 2) (b1 : -(ifn n : Int) < k1 ∧ k1 < (ifn n : Int)) (b2 : -(ifn n : Int) < k2 ∧ k2 < (ifn n : Int)) (b3 : -(ifn n : Int) < K ∧ K < (ifn n : Int)) (h : Smk n way k1 k2 K') (hv : kvz n (-1074) k1 + kvz n (-1074) k2 = kvz n (-1074) K) (hB : ∀ N,N = 4000 → (kvz n (-1074) K).natAbs < 2 ^ N) : K' = K:=by
 rcases h with ⟨h,-⟩ | ⟨h,-⟩ | ⟨-,-,r,hr,rfl⟩
 ·omega
 ·omega
 ·rw [hv] at hr
  obtain ⟨N,hN⟩ : ∃ N : Nat,N = 4000:=⟨_,rfl⟩
  obtain ⟨r',h1,h2,h3⟩:=cfm_lies (-1074) N (by omega) (by decide) (by decide) _ (hB N hN)
  have er : r' = r:=by
   rw [h1] at hr
   exact Option.some.inj hr
  rw [er] at h2 h3
  have hkl : (-1074 : Int) ≤ kleast n:=by rcases hn with rfl | rfl <;> decide
  have hz : vz (-1075) r = kvz n (-1075) K:=by
   rw [vz_down (-1075) (-1074) r (by decide) h2.low,kvz_down n (-1075) (-1074) K (by decide) hkl,h3]
  obtain ⟨a1,a2,-⟩:=ky_float n hn r h2.ok (-1075) (fun g => by have:=h2.low g; omega) (by omega) K b3.1 b3.2 hz
  rcases hw with rfl | rfl
  ·exact a1
  ·exact a2
theorem prk_float (n way k1 k2 K' K : Int) (hn : n = 64 ∨ n = 32) (hw : way = 1 ∨ way = 2) (z1 : k1 ≠ 0) (z2 : k2 ≠ 0) (b1 : -(ifn n : Int) < k1 ∧ k1 < (ifn n : Int)) (b2 : -(ifn n : Int) < k2 ∧ k2 < (ifn n : Int)) (b3 : -(ifn n : Int) < K ∧ K < (ifn n : Int)) (h : Prk n way k1 k2 K') (hv : kvz n (-1074) k1 * kvz n (-1074) k2 = kvz n (-2148) K) (hB : ∀ N,N = 8000 → (kvz n (-2148) K).natAbs < 2 ^ N) : K' = K:=by
 rcases h with ⟨h,-⟩ | ⟨-,-,h,-⟩ | ⟨-,-,-,-,r,hr,rfl⟩
 ·omega
 ·omega
 ·rw [hv] at hr
  obtain ⟨N,hN⟩ : ∃ N : Nat,N = 8000:=⟨_,rfl⟩
  obtain ⟨r',h1,h2,h3⟩:=cfm_lies (-2148) N (by omega) (by decide) (by decide) _ (hB N hN)
  have er : r' = r:=by
   rw [h1] at hr
   exact Option.some.inj hr
  rw [er] at h2 h3
  have hkl : (-1074 : Int) ≤ kleast n:=by rcases hn with rfl | rfl <;> decide
  obtain ⟨a1,a2,-⟩:=ky_float n hn r h2.ok (-2148) h2.low (by omega) K b3.1 b3.2 h3
  rcases hw with rfl | rfl
  ·exact a1
  ·exact a2
theorem alive_add : ∀ (w : World),Tab w → Calls Tryz.prog 17 #[sp2 4607182418800017408 4607182418800017408,sp2 4607182418800017408 4611686018427387904,.int .i64 64] w fun e w' => e = .returned (.tuple #[sp2 4611686018427387904 4613937818241073152,.int .i64 0]) ∧ Kept w w':=by
 obtain ⟨K1,K2,S1,S2,-,-,C⟩:=add5_ok 4607182418800017408 4607182418800017408 4607182418800017408 4611686018427387904 64 (by unfold RB; omega) (by unfold RB; omega) (by unfold RB; omega) (by unfold RB; omega) (by decide) (by decide)
 have e1 : keyOf 4607182418800017408 64 = 4607182418800017408:=by decide
 have e2 : keyOf 4611686018427387904 64 = 4611686018427387904:=by decide
 rw [e1] at S1
 rw [e1,e2] at S2
 have k1:=smk_float 64 1 _ _ K1 4611686018427387904 (.inl rfl) (.inl rfl) (by decide) (by decide) (by decide) S1 (by decide +kernel) (fun N hN => by subst hN; decide +kernel)
 have k2:=smk_float 64 2 _ _ K2 4613937818241073152 (.inl rfl) (.inr rfl) (by decide) (by decide) (by decide) S2 (by decide +kernel) (fun N hN => by subst hN; decide +kernel)
 subst k1 k2
 exact C
theorem alive_mul : ∀ (w : World),Tab w → Calls Tryz.prog 19 #[sp2 1065353216 1065353216,sp2 1065353216 1073741824,.int .i64 32] w fun e w' => e = .returned (.tuple #[sp2 1065353216 1073741824,.int .i64 0]) ∧ Kept w w':=by
 obtain ⟨d0,d1,d2,d3,u0,u1,u2,u3,⟨P0,P1,P2,P3⟩,⟨Q0,Q1,Q2,Q3⟩,-,C⟩:=mul5_ok 1065353216 1065353216 1065353216 1073741824 32 (by unfold RB; omega) (by unfold RB; omega) (by unfold RB; omega) (by unfold RB; omega) (by decide) (by decide)
 have e1 : keyOf 1065353216 32 = 1065353216:=by decide
 have e2 : keyOf 1073741824 32 = 1073741824:=by decide
 rw [e1] at P0 P1 P2 P3 Q0 Q1 Q2 Q3
 rw [e2] at P1 P3 Q1 Q3
 have A : ∀ way K',(way = 1 ∨ way = 2) → Prk 32 way 1065353216 1065353216 K' → K' = 1065353216:=fun way K' hw h => prk_float 32 way _ _ K' 1065353216 (.inr rfl) hw (by decide) (by decide) (by decide) (by decide) (by decide) h (by decide +kernel) (fun N hN => by subst hN; decide +kernel)
 have B : ∀ way K',(way = 1 ∨ way = 2) → Prk 32 way 1065353216 1073741824 K' → K' = 1073741824:=fun way K' hw h => prk_float 32 way _ _ K' 1073741824 (.inr rfl) hw (by decide) (by decide) (by decide) (by decide) (by decide) h (by decide +kernel) (fun N hN => by subst hN; decide +kernel)
 have a0:=A 1 d0 (.inl rfl) P0
 have a1:=B 1 d1 (.inl rfl) P1
 have a2:=A 1 d2 (.inl rfl) P2
 have a3:=B 1 d3 (.inl rfl) P3
 have c0:=A 2 u0 (.inr rfl) Q0
 have c1:=B 2 u1 (.inr rfl) Q1
 have c2:=A 2 u2 (.inr rfl) Q2
 have c3:=B 2 u3 (.inr rfl) Q3
 subst a0 a1 a2 a3 c0 c1 c2 c3
 exact C
theorem alive5 (w : World) (hT : Tab w) : Calls Tryz.prog 8 #[] w fun e w' => e = .returned (.bool true) ∧ Kept w w':=by
 have KA : Hid (Calls Tryz.prog 17 #[sp2 4607182418800017408 4607182418800017408,sp2 4607182418800017408 4611686018427387904,.int .i64 64] w fun e w' => e = .returned (.tuple #[sp2 4611686018427387904 4613937818241073152,.int .i64 0]) ∧ Kept w w'):=alive_add w hT
 have KM : Hid (∀ u,Kept w u → Calls Tryz.prog 19 #[sp2 1065353216 1065353216,sp2 1065353216 1073741824,.int .i64 32] u fun e w' => e = .returned (.tuple #[sp2 1065353216 1073741824,.int .i64 0]) ∧ Kept u w'):=fun u k => alive_mul u (hT.kept k)
 clear hT
 go_enter Tryz.func8,Tryz.ntmps8
 go_upto_region 3 with (first | (go_at_call 17; refine KA.out.mono ?_; rintro e w1 ⟨rfl,k1⟩))
 go_upto_region 4 with (first | (go_at_call 19; refine (KM.out _ (k1.alloc _ _)).mono ?_; rintro e w2 ⟨rfl,k2⟩))
 have hP:=P2.newk k2
 have hPa:=hP.alloc #[.int .i64 1065353216,.int .i64 1073741824] 23
 have hl:=hP.lt
 obtain ⟨c0,c1,cf⟩:=hP
 go_wp2_with fail
 go_ret
 exact ⟨rfl,((k1.alloc _ _).trans k2).alloc _ _⟩
theorem saround_ok (n : Int) (ng : Bool) (ao : Option Addr) (l c : Nat) (ex z1 z2 : Int) (o1 o2 : Bool) (x1 x2 : Nat) (w : World)
  (KR : Hid (∀ u way z o,Kept w u → (way = 1 ∧ z = z1 ∧ o = o1 ∨ way = 2 ∧ z = z2 ∧ o = o2) → Calls Tryz.prog 124 #[.agg #[.bool ng,.slice ao l c,.int .i64 ex],.int .i64 n,.int .i64 way] u fun e w' => e = .returned (.tuple #[.int .i64 z,.bool o,.int .i64 0]) ∧ Kept u w'))
  (KF : Hid (∀ u z x,(z = z1 ∧ x = x1 ∨ z = z2 ∧ x = x2) → Calls Tryz.prog 125 #[.int .i64 z,.int .i64 n] u fun e w' => e = .returned (.float .f64 x) ∧ Kept u w')) :
  Calls Tryz.prog 79 #[.agg #[.bool ng,.slice ao l c,.int .i64 ex],.int .i64 n] w fun e w' => e = .returned (.tuple #[fv2 x1 x2,.int .i64 0]) ∧ Kept w w':=by
 have hSF:=sto_f
 obtain ⟨X,hX⟩ : ∃ X,X = (w.alloc (.cells #[.bool ng,.slice ao l c,.int .i64 ex] 26)).alloc (.cells #[.float .f64 0,.float .f64 0] 87):=⟨_,rfl⟩
 have hK : Kept w X:=by
  rw [hX]
  exact ((Kept.refl w).alloc _ _).alloc _ _
 have hN : X.cell? ⟨w.heap.size,0,none⟩ = some (.bool ng) ∧ X.cell? ⟨w.heap.size,1,none⟩ = some (.slice ao l c) ∧ X.cell? ⟨w.heap.size,2,none⟩ = some (.int .i64 ex):=by
  rw [hX]
  exact ⟨by simp [go_sem],by simp [go_sem],by simp [go_sem]⟩
 have hR : P2 X (w.heap.size + 1) (.float .f64 0) (.float .f64 0):=by
  rw [hX]
  have:=P2.new (w.alloc (.cells #[.bool ng,.slice ao l c,.int .i64 ex] 26)) (.float .f64 0) (.float .f64 0) 87
  simpa using this
 have hs : Hid (X.heap.size = w.heap.size + 2):=by rw [hX]; simp [Hid]
 obtain ⟨H0,hH0⟩ : ∃ H,H = w.heap.size:=⟨_,rfl⟩
 obtain ⟨H1,hH1⟩ : ∃ H,H = H0 + 1:=⟨_,rfl⟩
 rw [← hH0] at hN hR
 rw [← hH1] at hR
 have o1' : w.heap.size ≤ H1:=by omega
 have lH0 : H0 < X.heap.size:=by have:=hs.out; omega
 have HN : Hid (∀ u,Kept X u → u.cell? ⟨H0,0,none⟩ = some (.bool ng) ∧ u.cell? ⟨H0,1,none⟩ = some (.slice ao l c) ∧ u.cell? ⟨H0,2,none⟩ = some (.int .i64 ex)):=fun u k => ⟨(k.below.cell (p:=⟨H0,0,none⟩) lH0).trans hN.1,(k.below.cell (p:=⟨H0,1,none⟩) lH0).trans hN.2.1,(k.below.cell (p:=⟨H0,2,none⟩) lH0).trans hN.2.2⟩
 go_enter Tryz.func79,Tryz.ntmps79
 go_upto_region 1 with fail
 rw [← hX,← hH0,← hH1]
 clear hX hH0 hH1 hN hs
 obtain ⟨c0,c1,c2⟩:=HN.out _ (Kept.refl _)
 go_upto_region 2 with (first | (go_at_call 124; refine (KR.out _ _ _ _ hK (.inl ⟨rfl,rfl,rfl⟩)).mono ?_; rintro e w1 ⟨rfl,k1⟩))
 clear c0 c1 c2
 obtain ⟨c0,c1,c2⟩:=HN.out _ k1
 go_upto_region 5 with (first | (go_at_call 124; refine (KR.out _ _ _ _ (hK.trans k1) (.inr ⟨rfl,rfl,rfl⟩)).mono ?_; rintro e w2 ⟨rfl,k2⟩))
 have j2:=k1.trans k2
 go_wp2_with (first | (go_at_call 125; refine (KF.out _ _ _ (by first | exact .inl ⟨rfl,rfl⟩ | exact .inr ⟨rfl,rfl⟩)).mono ?_; rintro e w3 ⟨rfl,k3⟩; have j2:=j2.trans k3; have hz:=(hR.kept j2).put (.float .f64 x1) (.float .f64 x2); obtain ⟨d0,d1,df⟩:=hR.kept j2; obtain ⟨e0,e1,ef⟩:=hz))
 exact bodyPost_ret (v:=.tuple #[fv2 x1 x2,.int .i64 0]) (by simp [results,Tryz.results79,go_sem,e0,e1]) rfl ⟨rfl,((hK.trans j2).setCell o1' _).setCell o1' _⟩
theorem Around_walk (n : Int) (v0 v1 v2 : Value) (x1 x2 : Nat) (q p1 p2 : Int) (o0 : v0.oneCell' = true) (o1 : v1.oneCell' = true) (o2 : v2.oneCell' = true) (w : World)
  (KA : Hid (∀ u,Kept w u → Calls Tryz.prog 79 #[.agg #[v0,v1,v2],.int .i64 n] u fun e w' => e = .returned (.tuple #[fv2 x1 x2,.int .i64 q]) ∧ Kept u w'))
  (KT : Hid (∀ u,Calls Tryz.prog 68 #[fv2 x1 x2,.int .i64 n,.int .i64 q] u fun e w' => e = .returned (.tuple #[sp2 p1 p2,.int .i64 q]) ∧ Kept u w')) :
  Calls Tryz.prog 33 #[.agg #[v0,v1,v2],.int .i64 n] w fun e w' => e = .returned (.tuple #[sp2 p1 p2,.int .i64 q]) ∧ Kept w w':=by
 have hSF:=sto_f
 obtain ⟨X,hX⟩ : ∃ X,X = (w.alloc (.cells #[v0,v1,v2] 26)).alloc (.cells #[.int .i64 0,.int .i64 0] 23):=⟨_,rfl⟩
 have hK : Kept w X:=by
  rw [hX]
  exact ((Kept.refl w).alloc _ _).alloc _ _
 have hN : X.cell? ⟨w.heap.size,0,none⟩ = some v0 ∧ X.cell? ⟨w.heap.size,1,none⟩ = some v1 ∧ X.cell? ⟨w.heap.size,2,none⟩ = some v2:=by
  rw [hX]
  exact ⟨by simp [go_sem],by simp [go_sem],by simp [go_sem]⟩
 have hR : P2 X (w.heap.size + 1) (.int .i64 0) (.int .i64 0):=by
  rw [hX]
  have:=P2.new (w.alloc (.cells #[v0,v1,v2] 26)) (.int .i64 0) (.int .i64 0) 23
  simpa using this
 obtain ⟨H0,hH0⟩ : ∃ H,H = w.heap.size:=⟨_,rfl⟩
 obtain ⟨H1,hH1⟩ : ∃ H,H = H0 + 1:=⟨_,rfl⟩
 rw [← hH0] at hN hR
 rw [← hH1] at hR
 have o1' : w.heap.size ≤ H1:=by omega
 go_enter Tryz.func33,Tryz.ntmps33
 go_upto_region 1 with fail
 rw [← hX,← hH0,← hH1]
 clear hX hH0 hH1
 obtain ⟨c0,c1,c2⟩:=hN
 go_upto_region 2 with (first | (go_at_call 79; refine (KA.out _ hK).mono ?_; rintro e w1 ⟨rfl,k1⟩))
 clear c0 c1 c2
 have hI:=P2.new w1 (.float .f64 x1) (.float .f64 x2) 87
 have j1:=k1.alloc #[.float .f64 x1,.float .f64 x2] 87
 obtain ⟨Y,hY⟩ : ∃ Y,Y = w1.alloc (.cells #[.float .f64 x1,.float .f64 x2] 87):=⟨_,rfl⟩
 rw [← hY] at hI j1
 rw [← hY]
 clear hY
 obtain ⟨b0,b1,bf⟩:=hI
 go_wp2_with (first | (go_at_call 68; refine (KT.out _).mono ?_; rintro e w2 ⟨rfl,k2⟩; have j2:=j1.trans k2; have hz:=(hR.kept j2).put (.int .i64 p1) (.int .i64 p2); obtain ⟨d0,d1,df⟩:=hR.kept j2; obtain ⟨e0,e1,ef⟩:=hz))
 exact bodyPost_ret (v:=.tuple #[sp2 p1 p2,.int .i64 q]) (by simp [results,Tryz.results33,go_sem,e0,e1]) rfl ⟨rfl,((hK.trans j2).setCell o1' _).setCell o1' _⟩
/- Around of a valid number -/
theorem Around_ok (n : Int) (hn : n = 64 ∨ n = 32) (r : Nm) (hv : vld r = true) (ao : Option Addr) (c : Nat) (w : World) (hT : Tab w) (h : Sl w (.slice ao r.mag.length c) r.mag) :
  Calls Tryz.prog 33 #[.agg #[.bool r.neg,.slice ao r.mag.length c,.int .i64 r.exp],.int .i64 n] w fun e w' => e = .returned (.tuple #[sp2 (rzN n 1 r) (rzN n 2 r),.int .i64 0]) ∧ Kept w w':=by
 have f1:=rz_fl n 1 hn r
 have f2:=rz_fl n 2 hn r
 refine Around_walk n _ _ _ (flv (rzN n 1 r) n) (flv (rzN n 2 r) n) 0 _ _ rfl rfl rfl w (fun u k => ?_) (fun u => told_ok5 f1 f2 u)
 refine saround_ok n r.neg ao r.mag.length c r.exp (rzN n 1 r) (rzN n 2 r) (oxN n 1 r) (oxN n 2 r) _ _ u (fun v way z o kv hz => ?_) (fun v z x hz => ?_)
 ·rcases hz with ⟨rfl,rfl,rfl⟩ | ⟨rfl,rfl,rfl⟩
  ·exact roundz n 1 hn (by simp) r hv ao c v (hT.kept (k.trans kv)) (h.kept (k.trans kv))
  ·exact roundz n 2 hn (by simp) r hv ao c v (hT.kept (k.trans kv)) (h.kept (k.trans kv))
 ·rcases hz with ⟨rfl,rfl⟩ | ⟨rfl,rfl⟩
  ·exact sfloat_any _ n (rz_rng n 1 hn r).1 (rz_rng n 1 hn r).2 v
  ·exact sfloat_any _ n (rz_rng n 2 hn r).1 (rz_rng n 2 hn r).2 v
theorem Point_ok (lo hi n : Int) (s1 : RB lo) (s2 : RB hi) (hv : vsp lo hi n = true) (w : World) : Calls Tryz.prog 35 #[sp2 lo hi,.int .i64 n] w fun e w' => e = .returned (.tuple #[.bool (decide (keyOf lo n = keyOf hi n)),.int .i64 0]) ∧ Kept w w':=by
 obtain ⟨i1,i2,-⟩:=vsp_num _ _ _ hv
 have f1:=Fl.flv i1 s1.1 s1.2
 have f2:=Fl.flv i2 s2.1 s2.2
 obtain ⟨x,y,hf,g1,-⟩:=opV_form lo hi n
 obtain ⟨gx,gy⟩:=g1 hv
 have KO : Hid (∀ u,Calls Tryz.prog 73 #[sp2 lo hi,.int .i64 n] u fun e w' => e = .returned (.tuple #[fv2 x y,.int .i64 0]) ∧ Kept u w'):=fun u => by
  have:=opened_any lo hi n s1 s2 u
  rw [hf,(opE_zero _ _ _).2 hv] at this
  exact this
 have hcmp : (FloatKind.f64.format.order x x == some .eq && FloatKind.f64.format.order y x == some .eq) = decide (keyOf lo n = keyOf hi n):=by
  rw [gx,gy,f1.ord f1,f2.ord f1,cmp_is_eq,cmp_is_eq,Bool.eq_iff_iff,Bool.and_eq_true,decide_eq_true_eq,decide_eq_true_eq,decide_eq_true_eq]
  omega
 have hEI:=eql_iv
 have hSF:=sto_f
 clear hf g1 gx gy f1 f2
 generalize decide (keyOf lo n = keyOf hi n) = t at *
 go_enter Tryz.func35,Tryz.ntmps35
 go_upto_region 2 with (first | (go_at_call 73; refine (KO.out _).mono ?_; rintro e w1 ⟨rfl,k1⟩))
 have hI:=P2.new w1 (.float .f64 x) (.float .f64 y) 87
 have j1:=(((Kept.refl w).alloc #[.int .i64 lo,.int .i64 hi] 23).trans k1).alloc #[.float .f64 x,.float .f64 y] 87
 obtain ⟨Y,hY⟩ : ∃ Y,Y = w1.alloc (.cells #[.float .f64 x,.float .f64 y] 87):=⟨_,rfl⟩
 obtain ⟨B,hB⟩ : ∃ B,B = w1.heap.size:=⟨_,rfl⟩
 rw [← hY] at hI j1
 rw [← hB] at hI
 rw [← hY,← hB]
 clear hY hB KO k1
 have kd : Kept Y Y.drew:=(Kept.refl Y).drew
 have HS : Hid (∀ u,Kept Y u → Kept Y u ∧ u.cell? ⟨B,0,none⟩ = some (.float .f64 x) ∧ u.cell? ⟨B,1,none⟩ = some (.float .f64 y)):=fun u k => ⟨k,(hI.kept k).c0,(hI.kept k).c1⟩
 have KP' : Hid (∀ u,Kept Y u → Calls Tryz.prog 77 #[.float .f64 x] u fun e w' => e = .returned (fv2 x x) ∧ Kept Y w'):=fun u k => by
  refine (point_any x u).mono ?_
  rintro e w' ⟨rfl,k'⟩
  exact ⟨rfl,k.trans k'⟩
 go_region_held (fun u => Kept Y u ∧ u.cell? ⟨B,0,none⟩ = some (.float .f64 x) ∧ u.cell? ⟨B,1,none⟩ = some (.float .f64 y)) (first | assumption | exact HS.out _ kd | exact HS.out _ (by assumption)) (first | (go_at_call 77; refine (KP'.out _ (by assumption)).mono ?_; rintro e w3 ⟨rfl,k3⟩))
 go_wp2_with fail
 exact bodyPost_ret (v:=.tuple #[.bool t,.int .i64 0]) (by simp [results,Tryz.results35,go_sem]) rfl ⟨rfl,j1.trans k3⟩
end Go.Proofs.YtdhimkpfnhoagaaGreatDoor
