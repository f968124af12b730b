/- Package span: Add. Package span: what comes of two ends multiplied. -/
import Derived.Test.YtdhimkpfnhoagaaGreatDoorWo34
import Derived.Test.YtdhimkpfnhoagaaGreatDoorWo19
namespace Go.Proofs.YtdhimkpfnhoagaaGreatDoor
open Go.ChangeShapes Go.WideShapes Go.ChangeAt Go.RowKit Ieee
set_option linter.unusedVariables false
set_option linter.unusedSimpArgs false
set_option maxHeartbeats 16000000
set_option maxRecDepth 100000
def two {α : Type} (a b : α) (i : Nat) : α:=if i = 0 then a else b
theorem ivs_two {w u : World} {x1 y1 x2 y2 : Nat} {t : TypeId} (k : Kept (w.alloc (.cells #[.float .f64 x1,.float .f64 y1,.float .f64 x2,.float .f64 y2] t)) u) : Ivs u (some ⟨w.heap.size,0,none⟩) 2 (two x1 x2) (two y1 y2):=fun v kv i hi => by
 have h : ∀ o,v.cell? ⟨w.heap.size,o,none⟩ = (w.alloc (.cells #[.float .f64 x1,.float .f64 y1,.float .f64 x2,.float .f64 y2] t)).cell? ⟨w.heap.size,o,none⟩:=fun o => laid_cell (k.trans kv) o
 refine ⟨_,_,rfl,?_,?_⟩
 ·rw [h]
  rcases (show i = 0 ∨ i = 1 by omega) with rfl | rfl <;> simp [go_sem,two]
 ·rw [h]
  rcases (show i = 0 ∨ i = 1 by omega) with rfl | rfl <;> simp [go_sem,two]
theorem add_walk (a1 b1 a2 b2 n : Int) (x1 y1 x2 y2 : Nat) (q p1 p2 : Int) (J : Nat → Nat → Prop) (w : World)
  (KB : Hid (∀ u,Calls Tryz.prog 67 #[sp2 a1 b1,sp2 a2 b2,.int .i64 n] u fun e w' => e = .returned (.tuple #[fv2 x1 y1,fv2 x2 y2,.int .i64 q]) ∧ Kept u w'))
  (KJ : Hid (∀ (u v : World) (B : Nat),Kept w u → B = v.heap.size → Kept (v.alloc (.cells #[.float .f64 x1,.float .f64 y1,.float .f64 x2,.float .f64 y2] 87)) u → Calls Tryz.prog 69 #[.int .i64 n,.slice (some ⟨B,0,none⟩) 2 2] u fun e w' => ∃ x y,e = .returned (fv2 x y) ∧ J x y ∧ Kept u w'))
  (KT : Hid (∀ u x y,J x y → Calls Tryz.prog 68 #[fv2 x y,.int .i64 n,.int .i64 q] u fun e w' => e = .returned (.tuple #[sp2 p1 p2,.int .i64 q]) ∧ Kept u w')) :
  Calls Tryz.prog 17 #[sp2 a1 b1,sp2 a2 b2,.int .i64 n] w fun e w' => e = .returned (.tuple #[sp2 p1 p2,.int .i64 q]) ∧ Kept w w':=by
 obtain ⟨X,hX⟩ : ∃ X,X = ((w.alloc (.cells #[.int .i64 a1,.int .i64 b1] 23)).alloc (.cells #[.int .i64 a2,.int .i64 b2] 23)).alloc (.cells #[.int .i64 0,.int .i64 0] 23):=⟨_,rfl⟩
 have hP1 : P2 X w.heap.size (.int .i64 a1) (.int .i64 b1):=by
  rw [hX]
  exact ((P2.new w _ _ _).alloc _ _).alloc _ _
 have hP2 : P2 X (w.heap.size + 1) (.int .i64 a2) (.int .i64 b2):=by
  rw [hX]
  have:=(P2.new (w.alloc (.cells #[.int .i64 a1,.int .i64 b1] 23)) (.int .i64 a2) (.int .i64 b2) 23).alloc #[.int .i64 0,.int .i64 0] 23
  simpa using this
 have hQ : P2 X (w.heap.size + 1 + 1) (.int .i64 0) (.int .i64 0):=by
  rw [hX]
  have:=P2.new ((w.alloc (.cells #[.int .i64 a1,.int .i64 b1] 23)).alloc (.cells #[.int .i64 a2,.int .i64 b2] 23)) (.int .i64 0) (.int .i64 0) 23
  simpa using this
 have hK : Kept w X:=by
  rw [hX]
  exact (((Kept.refl w).alloc _ _).alloc _ _).alloc _ _
 obtain ⟨H1,hH1⟩ : ∃ H,H = w.heap.size + 1:=⟨_,rfl⟩
 obtain ⟨H2,hH2⟩ : ∃ H,H = H1 + 1:=⟨_,rfl⟩
 rw [← hH1] at hP2 hQ
 rw [← hH2] at hQ
 have o2 : w.heap.size ≤ H2:=by omega
 have hSF:=sto_f
 go_enter Tryz.func17,Tryz.ntmps17
 go_upto_region 1 with fail
 rw [← hX,← hH1,← hH2]
 clear hX hH1 hH2
 obtain ⟨p10,p11,p1f⟩:=hP1
 obtain ⟨p20,p21,p2f⟩:=hP2
 go_upto_region 2 with (first | (go_at_call 67; refine (KB.out _).mono ?_; rintro e w1 ⟨rfl,k1⟩))
 have hQ1:=hQ.kept k1
 have kw1:=hK.trans k1
 clear p10 p11 p1f p20 p21 p2f KB hK hQ k1
 obtain ⟨Y,hY⟩ : ∃ Y,Y = (w1.alloc (.cells #[.float .f64 x1,.float .f64 y1] 87)).alloc (.cells #[.float .f64 x2,.float .f64 y2] 87):=⟨_,rfl⟩
 have hC1 : P2 Y w1.heap.size (.float .f64 x1) (.float .f64 y1):=by
  rw [hY]
  exact (P2.new w1 _ _ _).alloc _ _
 have hC2 : P2 Y (w1.heap.size + 1) (.float .f64 x2) (.float .f64 y2):=by
  rw [hY]
  have:=P2.new (w1.alloc (.cells #[.float .f64 x1,.float .f64 y1] 87)) (.float .f64 x2) (.float .f64 y2) 87
  simpa using this
 have kY : Kept w1 Y:=by
  rw [hY]
  exact ((Kept.refl w1).alloc _ _).alloc _ _
 have hQY:=hQ1.kept kY
 have kwY:=kw1.trans kY
 rw [← hY]
 clear hY kw1 kY hQ1
 obtain ⟨b0,b1',bf⟩:=hC1
 obtain ⟨c0,c1,cf⟩:=hC2
 go_wp2_with (first | (go_at_call 69; refine (KJ.out _ _ _ (kwY.alloc _ _) rfl (Kept.refl _)).mono ?_; rintro e w2 ⟨x,y,rfl,hJ,k2⟩) | (go_at_call 68; refine (KT.out _ _ _ hJ).mono ?_; rintro e w3 ⟨rfl,k3⟩; have k4:=((Kept.refl Y).alloc _ _).trans (k2.trans k3); have hz:=(hQY.kept k4).put (.int .i64 p1) (.int .i64 p2); obtain ⟨d0,d1,df⟩:=hQY.kept k4; obtain ⟨e0,e1,ef⟩:=hz))
 refine bodyPost_ret (v:=.tuple #[sp2 p1 p2,.int .i64 q]) ?_ rfl ⟨rfl,?_⟩
 ·simp [results,Tryz.results17,go_sem, *]
 ·(repeat' first | exact kwY.trans k4 | refine Kept.setCell ?_ ?_ _ | exact o2)
/-- the sum of two ends of one side,rounded: its key -/
def Smk (n way k1 k2 K : Int) : Prop :=
 ((k1 = (ifn n : Int) ∨ k1 = -(ifn n : Int)) ∧ (k2 ≠ -k1) ∧ K = k1) ∨ ((k2 = (ifn n : Int) ∨ k2 = -(ifn n : Int)) ∧ (k1 ≠ -k2) ∧ K = k2) ∨
 ((-(ifn n : Int) < k1 ∧ k1 < (ifn n : Int)) ∧ (-(ifn n : Int) < k2 ∧ k2 < (ifn n : Int)) ∧ ∃ r,cfm (kvz n (-1074) k1 + kvz n (-1074) k2) (-1074) = some r ∧ K = kyN n way r)
theorem infq_key {n : Int} {x : Nat} {k q : Int} (h : Fl n x k) (hq : Fl 64 x q) : infq q ↔ (k = (ifn n : Int) ∨ k = -(ifn n : Int)):=by
 obtain ⟨q',hq',hK,-⟩:=h.wide
 have : q' = q:=hq'.same64.symm.trans hq.same64
 subst this
 unfold infq
 rw [hK.top,hK.bot]
/- what summed tells of two ends,by their keys; an infinite end never meets its opposite -/
theorem rd_two (n way : Int) (hn : n = 64 ∨ n = 32) (x1 x2 : Nat) (k1 k2 : Int) (h1 : Fl n x1 k1) (h2 : Fl n x2 k2) (hop : ¬ ((k1 = (ifn n : Int) ∨ k1 = -(ifn n : Int)) ∧ k2 = -k1)) (q1 q2 : Int) (g1 : Fl 64 x1 q1) (g2 : Fl 64 x2 q2) : ∃ K,Smk n way k1 k2 K ∧ (-(ifn n : Int) ≤ K ∧ K ≤ (ifn n : Int)) ∧ ∀ x,Rd n way (two x1 x2) (two q1 q2) 2 x → Fl n x K:=by
 have i1:=infq_key h1 g1
 have i2:=infq_key h2 g2
 have hr1:=h1.rng
 have hr2:=h2.rng
 have hpos:=ifn_p n
 have e0 : two q1 q2 0 = q1:=rfl
 have e1 : two q1 q2 1 = q2:=rfl
 have hw : iW (two x1 x2) (two q1 q2) 2 = if infq q2 then x2 else (if infq q1 then x1 else 0):=rfl
 have hq : iQ (two q1 q2) 2 = if infq q2 then q2 else (if infq q1 then q1 else 0):=rfl
 by_cases a2 : infq q2
 ·have:=i2.1 a2
  refine ⟨k2,.inr (.inl ⟨this,fun e => hop ⟨by omega,by omega⟩,rfl⟩),hr2,fun x hx => ?_⟩
  rcases hx with ⟨hi,hx⟩ | ⟨hi,r,hr,hx⟩
  ·rw [hx,hw,if_pos a2]
   exact h2
  ·exact absurd (by rw [e1]; exact a2) (hi 1 (by decide))
 ·by_cases a1 : infq q1
  ·have:=i1.1 a1
   refine ⟨k1,.inl ⟨this,fun e => hop ⟨this,e⟩,rfl⟩,hr1,fun x hx => ?_⟩
   rcases hx with ⟨hi,hx⟩ | ⟨hi,r,hr,hx⟩
   ·rw [hx,hw,if_neg a2,if_pos a1]
    exact h1
   ·exact absurd (by rw [e0]; exact a1) (hi 0 (by decide))
  ·have b1 : -(ifn n : Int) < k1 ∧ k1 < (ifn n : Int):=by
    have c1 : k1 ≠ (ifn n : Int):=fun e => a1 (i1.2 (.inl e))
    have c2 : k1 ≠ -(ifn n : Int):=fun e => a1 (i1.2 (.inr e))
    omega
   have b2 : -(ifn n : Int) < k2 ∧ k2 < (ifn n : Int):=by
    have c1 : k2 ≠ (ifn n : Int):=fun e => a2 (i2.2 (.inl e))
    have c2 : k2 ≠ -(ifn n : Int):=fun e => a2 (i2.2 (.inr e))
    omega
   have hs : sV (two x1 x2) (two q1 q2) 2 = kvz n (-1074) k1 + kvz n (-1074) k2:=by
    have : sV (two x1 x2) (two q1 q2) 2 = 0 + (if infq q1 then 0 else zw x1) + (if infq q2 then 0 else zw x2):=rfl
    rw [this,if_neg a1,if_neg a2,zw_val h1 b1.1 b1.2,zw_val h2 b2.1 b2.2]
    omega
   obtain ⟨r,hr,-,-⟩:=sV_cfm (two x1 x2) (two q1 q2) 2 (by decide) (fun i hi => by
    rcases (show i = 0 ∨ i = 1 by omega) with rfl | rfl
    ·exact g1
    ·exact g2)
   refine ⟨kyN n way r,.inr (.inr ⟨b1,b2,r,by rw [← hs]; exact hr,rfl⟩),kyN_range n way r,fun x hx => ?_⟩
   rcases hx with ⟨hi,hx⟩ | ⟨hi,r',hr',hx⟩
   ·rw [hq,if_neg a2,if_neg a1] at hi
    exact absurd hi (by decide)
   ·rw [hr] at hr'
    cases hr'
    rw [hx]
    exact rz_fl n way hn r
theorem add5_ok (a1 b1 a2 b2 n : Int) (s1 : RB a1) (s2 : RB b1) (s3 : RB a2) (s4 : RB b2) (hv1 : vsp a1 b1 n = true) (hv2 : vsp a2 b2 n = true) : ∃ K1 K2,Smk n 1 (keyOf a1 n) (keyOf a2 n) K1 ∧ Smk n 2 (keyOf b1 n) (keyOf b2 n) K2 ∧ (-(ifn n : Int) ≤ K1 ∧ K1 ≤ (ifn n : Int)) ∧ (-(ifn n : Int) ≤ K2 ∧ K2 ≤ (ifn n : Int)) ∧ ∀ (w : World),Tab w → Calls Tryz.prog 17 #[sp2 a1 b1,sp2 a2 b2,.int .i64 n] w fun e w' => e = .returned (.tuple #[sp2 (pz n K1) (pz n K2),.int .i64 0]) ∧ Kept w w':=by
 obtain ⟨i1,i2,v3,v4,v5⟩:=vsp_num _ _ _ hv1
 obtain ⟨i3,i4,u3,u4,u5⟩:=vsp_num _ _ _ hv2
 have hn:=isnum_wid _ _ i1
 obtain ⟨x1,y1,x2,y2,q,hB,KB⟩:=both_any a1 b1 a2 b2 n s1 s2 s3 s4
 have hq : q = 0:=hB.err.trans ((btE_zero _ _ _ _ _).2 ⟨hv1,hv2⟩)
 obtain ⟨f1,f2,f3,f4⟩:=hB.ok hq
 subst hq
 have hpos:=ifn_p n
 obtain ⟨p1,P1,-⟩:=f1.wide
 obtain ⟨p2,P2,-⟩:=f2.wide
 obtain ⟨p3,P3,-⟩:=f3.wide
 obtain ⟨p4,P4,-⟩:=f4.wide
 obtain ⟨K1,S1,R1,F1⟩:=rd_two n 1 hn x1 x2 _ _ f1 f3 (by omega) p1 p3 P1 P3
 obtain ⟨K2,S2,R2,F2⟩:=rd_two n 2 hn y1 y2 _ _ f2 f4 (by omega) p2 p4 P2 P4
 refine ⟨K1,K2,S1,S2,R1,R2,fun w hT => ?_⟩
 refine add_walk a1 b1 a2 b2 n x1 y1 x2 y2 0 _ _ (fun x y => Fl n x K1 ∧ Fl n y K2) w KB (fun u v B kwu hBv k => ?_) (fun u x y h => told_ok5 h.1 h.2 u)
 subst hBv
 refine (summed_any n hn 2 (by decide) (two x1 x2) (two y1 y2) (two p1 p3) (two p2 p4) (fun i hi => ?_) _ _ u (hT.kept kwu) (ivs_two k)).mono ?_
 ·rcases (show i = 0 ∨ i = 1 by omega) with rfl | rfl
  ·exact ⟨P1,P2⟩
  ·exact ⟨P3,P4⟩
 ·rintro e w' ⟨x,y,rfl,hx,hy,k'⟩
  exact ⟨x,y,rfl,⟨F1 x hx,F2 y hy⟩,k'⟩
theorem read_kd (f : Format) (hb : f.binade ≤ f.infRung) (x : Nat) : (f.infRung < rung f x ∧ ∃ s t,f.read x = .nan s t) ∨ (rung f x = f.infRung ∧ f.read x = .infinity (below f x)) ∨ (rung f x < f.infRung ∧ ∃ m i,f.read x = .number (below f x) m i ∧ (m = 0 ↔ rung f x = 0)):=by
 rcases Nat.lt_trichotomy (rung f x) f.infRung with h | h | h
 ·obtain ⟨m,i,e,-,hv,-⟩:=read_num f x h
  refine .inr (.inr ⟨h,m,i,e,?_⟩)
  constructor
  ·intro h0
   rw [h0,Nat.zero_mul] at hv
   exact rungVal_inj f (by rw [← hv,rungVal_zero])
  ·intro h0
   rw [h0,rungVal_zero] at hv
   rcases Nat.mul_eq_zero.1 hv with h1 | h1
   ·exact h1
   ·exact absurd h1 (Nat.ne_of_gt (Nat.two_pow_pos _))
 ·exact .inr (.inl ⟨h,read_inf f x h hb⟩)
 ·exact .inl ⟨h,read_nan f x h hb⟩
/- a float's kind,by its rung -/
def kdf (f : Format) (x : Nat) : Nat:=if f.infRung < rung f x then 4 else if rung f x = f.infRung then 3 else if rung f x = 0 then 0 else 1
theorem mulF (f : Format) (hb : f.binade ≤ f.infRung) (h0 : 0 < f.infRung) (x y : Nat) (hs : 3 ≤ kdf f x ∨ 3 ≤ kdf f y) : f.mul x y = if kdf f x = 4 ∨ kdf f y = 4 ∨ kdf f x = 0 ∨ kdf f y = 0 then none else some (f.word (below f x ^^ below f y) f.infRung):=by
 unfold kdf at *
 rcases read_kd f hb x with ⟨hx,s,t,ex⟩ | ⟨hx,ex⟩ | ⟨hx,m,i,ex,hm⟩
 ·rw [if_pos hx,if_pos (.inl rfl)]
  unfold Format.mul
  rw [ex]
  rfl
 ·rcases read_kd f hb y with ⟨hy,s',t',ey⟩ | ⟨hy,ey⟩ | ⟨hy,m',i',ey,hm'⟩
  ·rw [if_pos (.inr (.inl (by rw [if_pos hy])))]
   unfold Format.mul
   rw [ex,ey]
   rfl
  ·rw [if_neg (by rw [if_neg (by omega),if_pos hx,if_neg (by omega),if_pos hy]; omega)]
   unfold Format.mul
   rw [ex,ey]
   rfl
  ·by_cases hz : rung f y = 0
   ·rw [if_pos (.inr (.inr (.inr (by rw [if_neg (by omega),if_neg (by omega),if_pos hz]))))]
    unfold Format.mul
    rw [ex,ey,hm'.2 hz]
    rfl
   ·rw [if_neg (by rw [if_neg (by omega),if_pos hx,if_neg (by omega),if_neg (by omega),if_neg hz]; omega)]
    unfold Format.mul
    have hne : m' ≠ 0:=fun g => hz (hm'.1 g)
    rw [ex,ey]
    simp [Datum.product,hne]
    rfl
 ·rcases read_kd f hb y with ⟨hy,s',t',ey⟩ | ⟨hy,ey⟩ | ⟨hy,m',i',ey,hm'⟩
  ·rw [if_pos (.inr (.inl (by rw [if_pos hy])))]
   unfold Format.mul
   rw [ex,ey]
   rfl
  ·by_cases hz : rung f x = 0
   ·rw [if_pos (.inr (.inr (.inl (by rw [if_neg (by omega),if_neg (by omega),if_pos hz]))))]
    unfold Format.mul
    rw [ex,ey,hm.2 hz]
    rfl
   ·rw [if_neg (by rw [if_neg (by omega),if_neg (by omega),if_neg hz,if_neg (by omega),if_pos hy]; omega)]
    unfold Format.mul
    have hne : m ≠ 0:=fun g => hz (hm.1 g)
    rw [ex,ey]
    simp [Datum.product,hne,Bool.xor_comm]
    rfl
  ·exfalso
   rcases hs with h | h
   ·rw [if_neg (by omega),if_neg (by omega)] at h
    split at h <;> omega
   ·rw [if_neg (by omega),if_neg (by omega)] at h
    split at h <;> omega
theorem Fl.infw (n : Int) (hn : n = 64 ∨ n = 32) (s : Bool) : Fl n (FloatKind.f64.format.word s FloatKind.f64.format.infRung) (if s = true then -(ifn n : Int) else (ifn n : Int)):=by
 rcases hn with rfl | rfl <;> cases s
 ·exact ⟨9218868437227405312,by decide,by decide,by decide,by decide +kernel⟩
 ·exact ⟨-4503599627370496,by decide,by decide,by decide,by decide +kernel⟩
 ·exact ⟨2139095040,by decide,by decide,by decide,by decide +kernel⟩
 ·exact ⟨4286578688,by decide,by decide,by decide,by decide +kernel⟩
theorem Fl.parts {n : Int} {x : Nat} {k : Int} (h : Fl n x k) : (rung FloatKind.f64.format x = 0 ↔ k = 0) ∧ (rung FloatKind.f64.format x = FloatKind.f64.format.infRung ↔ (k = (ifn n : Int) ∨ k = -(ifn n : Int))) ∧ (k ≠ 0 → below FloatKind.f64.format x = decide (k < 0)):=by
 obtain ⟨q,hq,hK,o1,o2,o3,o4,o5,o6⟩:=h.wide
 have i2:=(key_sv64 x h.le h.lt).2
 rw [← o1,o3] at i2
 have hp:=hK.pos
 have hn:=hK.neg
 have ht:=hK.top
 have hb:=hK.bot
 have a:=sv_ifn (below FloatKind.f64.format x) (rung FloatKind.f64.format x) (ifn 64) (ifn_p 64)
 rw [← i2] at a
 rw [← ifn_64]
 have hpos:=ifn_p 64
 generalize below FloatKind.f64.format x = sb at *
 generalize rung FloatKind.f64.format x = r at *
 refine ⟨?_,?_,?_⟩
 ·cases sb <;> simp only [sv_f,sv_t] at i2 <;> omega
 ·rw [ht,hb,a.1,a.2.1]
  cases sb <;> simp
 ·intro hk
  cases sb <;> simp only [sv_f,sv_t] at i2
  ·symm; rw [decide_eq_false_iff_not]; omega
  ·symm; rw [decide_eq_true_eq]; omega
theorem Fl.kd {n : Int} {x : Nat} {k : Int} (h : Fl n x k) : kdf FloatKind.f64.format x ≠ 4 ∧ (kdf FloatKind.f64.format x = 0 ↔ k = 0) ∧ (3 ≤ kdf FloatKind.f64.format x ↔ (k = (ifn n : Int) ∨ k = -(ifn n : Int))):=by
 obtain ⟨p1,p2,-⟩:=h.parts
 have hle:=h.le
 have hpos : 0 < FloatKind.f64.format.infRung:=by decide +kernel
 unfold kdf
 rw [if_neg (by omega)]
 rw [← p1,← p2]
 generalize rung FloatKind.f64.format x = r at *
 generalize FloatKind.f64.format.infRung = I at *
 (repeat' split) <;> omega
/- the product of two floats,one of which is infinite and neither of which is 0 -/
theorem inf_mul {n : Int} {x y : Nat} {k j : Int} (hx : Fl n x k) (hy : Fl n y j) (h0 : k ≠ 0) (h1 : j ≠ 0) (hi : (k = (ifn n : Int) ∨ k = -(ifn n : Int)) ∨ (j = (ifn n : Int) ∨ j = -(ifn n : Int))) : FloatKind.f64.format.mul x y = some (FloatKind.f64.format.word (decide (k < 0) ^^ decide (j < 0)) FloatKind.f64.format.infRung):=by
 obtain ⟨a1,a2,a3⟩:=hx.kd
 obtain ⟨b1,b2,b3⟩:=hy.kd
 rw [mulF FloatKind.f64.format hb64 (by decide +kernel) x y (hi.imp a3.2 b3.2),if_neg,hx.parts.2.2 h0,hy.parts.2.2 h1]
 intro h
 rcases h with h | h | h | h
 ·exact a1 h
 ·exact b1 h
 ·exact h0 (a2.1 h)
 ·exact h1 (b2.1 h)
/- a float's exact value -/
theorem of_zw (x : Nat) (hc : cls (of64 x) 64 < 3) : cfm (zw x) (-1074) = some (ofN (of64 x) 64) ∧ Lies (-1074) 2200 (ofN (of64 x) 64) ∧ vz (-1074) (ofN (of64 x) 64) = zw x:=by
 have hn : (64 : Int) = 64 ∨ (64 : Int) = 32:=.inl rfl
 obtain ⟨p1,p2,p3,p4⟩:=fin_parts _ hc
 have e1 : cfm (zw x) (-1074) = some (ofN (of64 x) 64):=by
  have h:=of_frm (of64 x) 64 hn hc
  rw [frm_cfm] at h
  have hm : ∀ (s : Bool) (a b : Int),sg s (a * b) = sg s a * b:=fun s a b => by cases s <;> simp [sg,Int.neg_mul]
  unfold zw
  rw [hm,cfm_shift,show (-1074 : Int) + ((pexp (of64 x) 64 + 1074).toNat : Int) = pexp (of64 x) 64 by omega]
  rw [show ((pmag (of64 x) 64).toNat : Int) = pmag (of64 x) 64 by omega] at h
  exact h
 have hlt : (zw x).natAbs < 2 ^ 2200:=by
  have h:=zw_lt x hc
  obtain ⟨K,hK⟩ : ∃ K : Nat,K = 2099:=⟨_,rfl⟩
  obtain ⟨N,hN⟩ : ∃ N : Nat,N = 2200:=⟨_,rfl⟩
  rw [← hK] at h
  rw [← hN]
  have h6 : (2 : Nat) ^ K ≤ 2 ^ N:=Nat.pow_le_pow_right (by decide) (by omega)
  omega
 obtain ⟨r,h1,h2,h3⟩:=cfm_lies (-1074) 2200 (by decide) (by decide) (by decide) (zw x) hlt
 rw [e1] at h1
 cases h1
 exact ⟨e1,h2,h3⟩
theorem exactOf_any (x : Nat) (q : Int) (hx : Fl 64 x q) (hc : cls (of64 x) 64 < 3) (w : World) (hT : Tab w) : Calls Tryz.prog 123 #[.float .f64 x] w fun e w' => ∃ v,e = .returned v ∧ New w w' v (ofN (of64 x) 64) ∧ Kept w w':=by
 obtain ⟨q',hq',hK,o1,o2,o3,o4,o5,o6⟩:=hx.wide
 have KO : Hid (∀ u,Calls Tryz.prog 159 #[.float .f64 x] u fun e w' => e = .returned (.int .i64 (of64 x)) ∧ u = w'):=fun u => of64_any x u
 have hW:=(Kept.refl w).alloc #[.bool false,.slice none 0 0,.int .i64 0] 26
 have KE : Hid (Calls Tryz.prog 55 #[.int .i64 (of64 x),.int .i64 64] (w.alloc (.cells #[.bool false,.slice none 0 0,.int .i64 0] 26)) fun e w' => ∃ v,e = .returned (.tuple #[v,.int .i64 0]) ∧ New (w.alloc (.cells #[.bool false,.slice none 0 0,.int .i64 0] 26)) w' v (ofN (of64 x) 64) ∧ Kept (w.alloc (.cells #[.bool false,.slice none 0 0,.int .i64 0] 26)) w'):=of_fin (of64 x) 64 o4 o5 (.inl rfl) hc _ (hT.kept hW)
 clear hx hK o1 o2 o3 o4 o5 o6 hc hT
 generalize of64 x = p at *
 go_enter Tryz.func123,Tryz.ntmps123
 go_wp2_with (first | (go_at_call 159; refine (KO.out _).mono ?_; rintro e w1 ⟨rfl,rfl⟩) | (go_at_call 55; refine KE.out.mono ?_; rintro e w2 ⟨v,rfl,hN,k2⟩; obtain ⟨vn,va,vl,vc,vx,rfl⟩:=hN.shape; obtain ⟨f0,f1,f2,f3⟩:=res_cells w.heap.size (by simp) k2 (by simp [go_sem]) (by simp [go_sem]) (by simp [go_sem]) (fun o => by simp [go_sem]); have hlt : w.heap.size < w2.heap.size:=by (have:=k2.below.size; simp at this; omega)))
 have:=res_done w.heap.size (by omega) (by simp) hW hN k2 (.bool vn) (.slice va vl vc) (.int .i64 vx)
 exact bodyPost_ret (v:=.agg #[.bool vn,.slice va vl vc,.int .i64 vx]) (by simp [results,Tryz.results123,go_sem,f0,f1,f2,hlt]) rfl ⟨_,rfl,this.1.kept ((Kept.refl _).alloc _ _),this.2.alloc _ _⟩
theorem product_zero (n way : Int) (x y : Nat) (t1 t2 : Bool) (ht1 : (FloatKind.f64.format.order x 0 == some .eq) = t1) (ht2 : (FloatKind.f64.format.order y 0 == some .eq) = t2) (hz : (t1 || t2) = true) (w : World) : Calls Tryz.prog 72 #[.float .f64 x,.float .f64 y,.int .i64 n,.int .i64 way] w fun e w' => e = .returned (.float .f64 0) ∧ Kept w w':=by
 cases t1
 ·cases t2
  ·cases hz
  ·go_enter Tryz.func72,Tryz.ntmps72
   go_wp2_with fail
   go_ret
   exact ⟨rfl,Kept.refl _⟩
 ·go_enter Tryz.func72,Tryz.ntmps72
  go_wp2_with fail
  go_ret
  exact ⟨rfl,Kept.refl _⟩
theorem product_inf (n way : Int) (x y z : Nat) (ht1 : (FloatKind.f64.format.order x 0 == some .eq) = false) (ht2 : (FloatKind.f64.format.order y 0 == some .eq) = false) (s1 s2 : Bool) (hs : (s1 || s2) = true) (hm : FloatKind.f64.format.mul x y = some z)
  (KI : Hid (∀ u v s,(v = x ∧ s = s1 ∨ v = y ∧ s = s2) → Calls Tryz.prog 122 #[.float .f64 v,.int .i64 0] u fun e w' => e = .returned (.bool s) ∧ u = w')) (w : World) : Calls Tryz.prog 72 #[.float .f64 x,.float .f64 y,.int .i64 n,.int .i64 way] w fun e w' => e = .returned (.float .f64 z) ∧ Kept w w':=by
 have hx : ∀ wx : World,(binOp .mul 85 (.float .f64 x) (.float .f64 y)).run Tryz.prog wx = .ok (.float .f64 z) wx:=fun wx => run_float_arith wx .mul 85 .f64 x y z hm
 clear hm
 cases s1
 ·cases s2
  ·cases hs
  ·go_enter Tryz.func72,Tryz.ntmps72
   go_wp2_with (first | (go_at_call 122; refine (KI.out _ _ _ (by first | exact .inl ⟨rfl,rfl⟩ | exact .inr ⟨rfl,rfl⟩)).mono ?_; rintro e w1 ⟨rfl,rfl⟩))
   go_ret
   exact ⟨rfl,Kept.refl _⟩
 ·go_enter Tryz.func72,Tryz.ntmps72
  go_wp2_with (first | (go_at_call 122; refine (KI.out _ _ _ (by first | exact .inl ⟨rfl,rfl⟩ | exact .inr ⟨rfl,rfl⟩)).mono ?_; rintro e w1 ⟨rfl,rfl⟩))
  go_ret
  exact ⟨rfl,Kept.refl _⟩
theorem product_fin (n way : Int) (x y z : Nat) (ht1 : (FloatKind.f64.format.order x 0 == some .eq) = false) (ht2 : (FloatKind.f64.format.order y 0 == some .eq) = false) (a b r : Nm) (rz : Int) (ox : Bool) (w : World)
  (KI : Hid (∀ u v,(v = x ∨ v = y) → Calls Tryz.prog 122 #[.float .f64 v,.int .i64 0] u fun e w' => e = .returned (.bool false) ∧ u = w'))
  (KX : Hid (∀ u v c,(v = x ∧ c = a ∨ v = y ∧ c = b) → Kept w u → Calls Tryz.prog 123 #[.float .f64 v] u fun e w' => ∃ v,e = .returned v ∧ New u w' v c ∧ Kept u w'))
  (KM : Hid (∀ u a1 c1 a2 c2,Kept w u → Sl u (.slice a1 a.mag.length c1) a.mag → Sl u (.slice a2 b.mag.length c2) b.mag → Calls Tryz.prog 15 #[.agg #[.bool a.neg,.slice a1 a.mag.length c1,.int .i64 a.exp],.agg #[.bool b.neg,.slice a2 b.mag.length c2,.int .i64 b.exp]] u fun e w' => ∃ v,e = .returned (.tuple #[v,.int .i64 0]) ∧ New u w' v r ∧ Kept u w'))
  (KR : Hid (∀ u a1 c1,Kept w u → Sl u (.slice a1 r.mag.length c1) r.mag → Calls Tryz.prog 124 #[.agg #[.bool r.neg,.slice a1 r.mag.length c1,.int .i64 r.exp],.int .i64 n,.int .i64 way] u fun e w' => e = .returned (.tuple #[.int .i64 rz,.bool ox,.int .i64 0]) ∧ Kept u w'))
  (KF : Hid (∀ u,Calls Tryz.prog 125 #[.int .i64 rz,.int .i64 n] u fun e w' => e = .returned (.float .f64 z) ∧ Kept u w')) :
  Calls Tryz.prog 72 #[.float .f64 x,.float .f64 y,.int .i64 n,.int .i64 way] w fun e w' => e = .returned (.float .f64 z) ∧ Kept w w':=by
 go_enter Tryz.func72,Tryz.ntmps72
 go_upto_region 5 with (first | (go_at_call 122; refine (KI.out _ _ (by first | exact .inl rfl | exact .inr rfl)).mono ?_; rintro e w1 ⟨rfl,rfl⟩))
 go_wp2_with fail
 refine (KX.out _ _ _ (.inl ⟨rfl,rfl⟩) (Kept.refl _)).mono ?_
 rintro e w1 ⟨v,rfl,hN1,k1⟩
 obtain ⟨vn,va,vl,vc,vx,rfl⟩:=hN1.shape
 obtain ⟨rfl,rfl,rfl,hs1⟩:=new_parts hN1
 have HS1 : Hid (Sl w1 (.slice va a.mag.length vc) a.mag):=hs1
 clear hN1 hs1
 go_wp2_with fail
 refine (KX.out _ _ _ (.inr ⟨rfl,rfl⟩) k1).mono ?_
 rintro e w2 ⟨v,rfl,hN2,k2⟩
 obtain ⟨vn,vb,vl,vd,vx,rfl⟩:=hN2.shape
 obtain ⟨rfl,rfl,rfl,hs2⟩:=new_parts hN2
 have HS2 : Hid (Sl w2 (.slice vb b.mag.length vd) b.mag):=hs2
 clear hN2 hs2
 go_wp2_with fail
 refine (KM.out _ _ _ _ _ (k1.trans k2) (HS1.out.kept k2) HS2.out).mono ?_
 rintro e w3 ⟨v,rfl,hN3,k3⟩
 obtain ⟨vn,vr,vl,ve,vx,rfl⟩:=hN3.shape
 obtain ⟨rfl,rfl,rfl,hs3⟩:=new_parts hN3
 have HS3 : Hid (Sl w3 (.slice vr r.mag.length ve) r.mag):=hs3
 have HK3 : Hid (Kept w w3):=(k1.trans k2).trans k3
 clear hN3 hs3 KX KM KI
 go_wp2_with (first | (go_at_call 124; refine (KR.out _ _ _ (HK3.out.alloc _ _) (HS3.out.kept ((Kept.refl _).alloc _ _))).mono ?_; rintro e w4 ⟨rfl,k4⟩) | (go_at_call 125; refine (KF.out _).mono ?_; rintro e w5 ⟨rfl,k5⟩))
 go_ret
 exact ⟨rfl,((HK3.out.alloc _ _).trans k4).trans k5⟩
/-- the product of two ends,rounded: its key -/
def Prk (n way k1 k2 K : Int) : Prop :=
 ((k1 = 0 ∨ k2 = 0) ∧ K = 0) ∨
 (k1 ≠ 0 ∧ k2 ≠ 0 ∧ ((k1 = (ifn n : Int) ∨ k1 = -(ifn n : Int)) ∨ (k2 = (ifn n : Int) ∨ k2 = -(ifn n : Int))) ∧ K = (if (decide (k1 < 0) ^^ decide (k2 < 0)) = true then -(ifn n : Int) else (ifn n : Int))) ∨
 (k1 ≠ 0 ∧ k2 ≠ 0 ∧ (-(ifn n : Int) < k1 ∧ k1 < (ifn n : Int)) ∧ (-(ifn n : Int) < k2 ∧ k2 < (ifn n : Int)) ∧ ∃ r,cfm (kvz n (-1074) k1 * kvz n (-1074) k2) (-2148) = some r ∧ K = kyN n way r)
theorem sprod_any (n way : Int) (hn : n = 64 ∨ n = 32) (hw : way = 0 ∨ way = 1 ∨ way = 2) (x y : Nat) (k j : Int) (hx : Fl n x k) (hy : Fl n y j) : ∃ z K,Prk n way k j K ∧ Fl n z K ∧ ∀ w,Tab w → Calls Tryz.prog 72 #[.float .f64 x,.float .f64 y,.int .i64 n,.int .i64 way] w fun e w' => e = .returned (.float .f64 z) ∧ Kept w w':=by
 have z0:=Fl.zero n hn
 have ex:=hx.ord z0
 have ey:=hy.ord z0
 have rx:=hx.rng
 have ry:=hy.rng
 have hpos:=ifn_p n
 have tx : (FloatKind.f64.format.order x 0 == some .eq) = decide (k = 0):=by rw [ex,cmp_is_eq]
 have ty : (FloatKind.f64.format.order y 0 == some .eq) = decide (j = 0):=by rw [ey,cmp_is_eq]
 by_cases h0 : k = 0 ∨ j = 0
 ·refine ⟨0,0,.inl ⟨h0,rfl⟩,z0,fun w _ => product_zero n way x y _ _ tx ty ?_ w⟩
  rcases h0 with h | h <;> simp [h]
 ·have k0 : k ≠ 0:=fun e => h0 (.inl e)
  have j0 : j ≠ 0:=fun e => h0 (.inr e)
  rw [decide_eq_false k0] at tx
  rw [decide_eq_false j0] at ty
  by_cases hi : (k = (ifn n : Int) ∨ k = -(ifn n : Int)) ∨ (j = (ifn n : Int) ∨ j = -(ifn n : Int))
  ·refine ⟨_,_,.inr (.inl ⟨k0,j0,hi,rfl⟩),Fl.infw n hn _,fun w _ => product_inf n way x y _ tx ty (decide (k = (ifn n : Int) ∨ k = -(ifn n : Int))) (decide (j = (ifn n : Int) ∨ j = -(ifn n : Int))) ?_ (inf_mul hx hy k0 j0 hi) (fun u v s h => ?_) w⟩
   ·rw [Bool.or_eq_true,decide_eq_true_eq,decide_eq_true_eq]; exact hi
   ·rcases h with ⟨rfl,rfl⟩ | ⟨rfl,rfl⟩
    ·exact isInf_0 hx u
    ·exact isInf_0 hy u
  ·have bk : -(ifn n : Int) < k ∧ k < (ifn n : Int):=by omega
   have bj : -(ifn n : Int) < j ∧ j < (ifn n : Int):=by omega
   obtain ⟨q,hq,hK,-⟩:=hx.wide
   obtain ⟨p,hp,hJ,-⟩:=hy.wide
   have qr:=hq.rng
   have pr:=hp.rng
   have t1:=hK.top
   have t2:=hK.bot
   have t3:=hJ.top
   have t4:=hJ.bot
   obtain ⟨zx,-,cx⟩:=zw_key hq (by omega) (by omega)
   obtain ⟨zy,-,cy⟩:=zw_key hp (by omega) (by omega)
   obtain ⟨ea,la,va⟩:=of_zw x cx
   obtain ⟨eb,lb,vb⟩:=of_zw y cy
   have hm:=mul_cfm (-1074) 2200 (by decide) (by decide) (by decide) _ _ la lb
   rw [va,vb,zw_val hx bk.1 bk.2,zw_val hy bj.1 bj.2] at hm
   have hsz : (kvz n (-1074) k * kvz n (-1074) j).natAbs < 2 ^ 4400:=by
    rw [Int.natAbs_mul,← zw_val hx bk.1 bk.2,← zw_val hy bj.1 bj.2]
    have s1:=la.lt
    have s2:=lb.lt
    rw [va] at s1
    rw [vb] at s2
    obtain ⟨N,hN⟩ : ∃ N : Nat,N = 2200:=⟨_,rfl⟩
    obtain ⟨M,hM⟩ : ∃ M : Nat,M = 4400:=⟨_,rfl⟩
    rw [← hN] at s1 s2
    rw [← hM,show M = N + N by omega,Nat.pow_add]
    exact Nat.mul_lt_mul'' s1 s2
   obtain ⟨r,hr,lr,vr⟩:=cfm_lies (-2148) 4400 (by decide) (by decide) (by decide) _ hsz
   have hmr : mulN (ofN (of64 x) 64) (ofN (of64 y) 64) = some r:=hm.trans hr
   refine ⟨_,_,.inr (.inr ⟨k0,j0,bk,bj,r,hr,rfl⟩),rz_fl n way hn r,fun w hT => product_fin n way x y _ tx ty (ofN (of64 x) 64) (ofN (of64 y) 64) r (rzN n way r) (oxN n way r) w (fun u v h => ?_) (fun u v c h k => ?_) (fun u a1 c1 a2 c2 k h1 h2 => ?_) (fun u a1 c1 k h => ?_) (fun u => sfloat_any _ n (rz_rng n way hn r).1 (rz_rng n way hn r).2 u)⟩
   ·rcases h with rfl | rfl
    ·have:=isInf_0 hx u
     rw [decide_eq_false (by omega)] at this
     exact this
    ·have:=isInf_0 hy u
     rw [decide_eq_false (by omega)] at this
     exact this
   ·rcases h with ⟨rfl,rfl⟩ | ⟨rfl,rfl⟩
    ·exact exactOf_any _ q hq cx u (hT.kept k)
    ·exact exactOf_any _ p hp cy u (hT.kept k)
   ·exact mulz_ok u (hT.kept k) _ _ _ la.ok a1 c1 _ _ _ lb.ok a2 c2 h1 h2 r hmr
   ·exact roundz n way hn hw r lr.ok a1 c1 u (hT.kept k) h
end Go.Proofs.YtdhimkpfnhoagaaGreatDoor
