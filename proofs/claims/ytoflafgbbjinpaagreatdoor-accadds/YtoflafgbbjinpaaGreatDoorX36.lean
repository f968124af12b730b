/- acc's Total,Products,Sum,Dot,Merge,AddProduct where they refuse. The laws' rounds: Round and Mean of a sum; AccRounds. bits' Mul where a factor is infinite or no number. Regions that draw their order,whose late operations write a cell that earlier ones load,where others that load what stays may come before or behind the late ones: S is asked until the first late one,T behind all. -/
import Derived.Test.YtoflafgbbjinpaaGreatDoorX18
import Derived.Test.YtoflafgbbjinpaaGreatDoorX35
import Derived.Test.YtoflafgbbjinpaaGreatDoorX32
import Derived.Test.YtoflafgbbjinpaaGreatDoorX11
namespace Go.Proofs.YtoflafgbbjinpaaGreatDoor
open Go.ChangeShapes Go.WideShapes Go.ChangeAt Go.RowKit
set_option linter.unusedVariables false
set_option linter.unusedSimpArgs false
set_option maxHeartbeats 16000000
set_option maxRecDepth 100000
theorem merge_no (n1 : Bool) (a1 : Option Addr) (l1 c1 : Nat) (x1 : Int) (p1 m1 z1 : Bool) (n2 : Bool) (a2 : Option Addr) (l2 c2 : Nat) (x2 : Int) (p2 m2 z2 : Bool) (w : World) (er : Int) (he : er ≠ 0)
  (KA : Hid (∀ u,Kept w u → Calls Tryz.prog 18 #[.agg #[.bool n1,.slice a1 l1 c1,.int .i64 x1],.agg #[.bool n2,.slice a2 l2 c2,.int .i64 x2]] u fun e w' => e = .returned (.tuple #[zeroNum,.int .i64 er]) ∧ Kept u w')) :
  Calls Tryz.prog 29 #[accV n1 (.slice a1 l1 c1) x1 p1 m1 z1,accV n2 (.slice a2 l2 c2) x2 p2 m2 z2] w fun e w' => e = .returned (.tuple #[accZ,.int .i64 er]) ∧ Kept w w':=by
 have he2 : (er != 0) = true:=by simpa using he
 obtain ⟨Y,hY⟩ : ∃ X,X = (w.alloc (.cells #[.bool n1,.slice a1 l1 c1,.int .i64 x1,.bool p1,.bool m1,.bool z1] 26)).alloc (.cells #[.bool n2,.slice a2 l2 c2,.int .i64 x2,.bool p2,.bool m2,.bool z2] 26):=⟨_,rfl⟩
 obtain ⟨X,hX⟩ : ∃ X,X = ((w.alloc (.cells #[.bool n1,.slice a1 l1 c1,.int .i64 x1,.bool p1,.bool m1,.bool z1] 26)).alloc (.cells #[.bool n2,.slice a2 l2 c2,.int .i64 x2,.bool p2,.bool m2,.bool z2] 26)).alloc (.cells #[.bool false,.slice none 0 0,.int .i64 0,.bool false,.bool false,.bool false] 26):=⟨_,rfl⟩
 have k0 : Kept w X:=by rw [hX]; exact (((Kept.refl w).alloc _ _).alloc _ _).alloc _ _
 obtain ⟨B1,hB1⟩ : ∃ B,B = w.heap.size + 1:=⟨_,rfl⟩
 obtain ⟨B2,hB2⟩ : ∃ B,B = w.heap.size + 1 + 1:=⟨_,rfl⟩
 have HR : Hid (∀ u,Kept X u → _):=acc_res1 (w:=Y) 26 B2 (by rw [hY,hB2]; simp) (by rw [hX,hY]; exact Kept.refl _)
 have HX : Hid (B2 < X.heap.size ∧ w.heap.size ≤ B2):=⟨by rw [hX,hB2]; simp,by omega⟩
 have HA : Hid (X.cell? ⟨w.heap.size,0,none⟩ = some (.bool n1) ∧ X.cell? ⟨w.heap.size,1,none⟩ = some (.slice a1 l1 c1) ∧ X.cell? ⟨w.heap.size,2,none⟩ = some (.int .i64 x1) ∧ X.cell? ⟨B1,0,none⟩ = some (.bool n2) ∧ X.cell? ⟨B1,1,none⟩ = some (.slice a2 l2 c2) ∧ X.cell? ⟨B1,2,none⟩ = some (.int .i64 x2)):=by
  rw [hX,hB1]
  refine ⟨?_,?_,?_,?_,?_,?_⟩ <;> simp [go_sem]
 have KA2 : Hid (Calls Tryz.prog 18 #[.agg #[.bool n1,.slice a1 l1 c1,.int .i64 x1],.agg #[.bool n2,.slice a2 l2 c2,.int .i64 x2]] X fun e w' => e = .returned (.tuple #[zeroNum,.int .i64 er]) ∧ Kept X w'):=KA.out X k0
 clear KA
 go_enter Tryz.func29,Tryz.ntmps29
 go_upto_region 1 with fail
 rw [← hX,← hB2,← hB1]
 clear hX hB1 hB2 hY
 obtain ⟨c0,c1',c2',d0,d1,d2⟩:=HA.out
 go_wp2_with fail
 refine KA2.out.mono ?_
 rintro e w1 ⟨rfl,k1⟩
 clear c0 c1' c2' d0 d1 d2 HA KA2
 obtain ⟨r0,r1,r2,r3,r4,r5,r6⟩:=HR.out _ k1
 obtain ⟨s0,s1,s2,s3,s4,s5,s6⟩:=HR.out _ (k1.alloc #[.bool false,.slice none 0 0,.int .i64 0] 24)
 have nn2 : B2 ≠ w1.heap.size:=Nat.ne_of_lt (Nat.lt_of_lt_of_le HX.out.1 k1.below.size)
 go_wp2_with fail
 exact bodyPost_ret (v:=.tuple #[accZ,.int .i64 er]) (by simp [results,Tryz.results29,go_sem,r0,r1,r2,r3,r4,r5,s0,s1,s2,s3,s4,s5,nn2]) rfl ⟨rfl,kept_six1 B2 HX.out.2 ((k0.trans k1).alloc _ _) _ _ _ _ _ _⟩
theorem addProduct_no (n x y : Int) (ng : Bool) (ao : Option Addr) (l cap : Nat) (xx : Int) (p m z : Bool) (w : World) (er : Int) (he : er ≠ 0)
  (KL : Hid (∀ q u,Kept w u → q < u.heap.size → u.cell? ⟨q,0,none⟩ = some (.int .i64 x) → u.cell? ⟨q,1,none⟩ = some (.int .i64 y) → Calls Tryz.prog 67 #[.int .i64 n,accV ng (.slice ao l cap) xx p m z,.slice (some ⟨q,0,none⟩) 2 2] u fun e w' => e = .returned (.int .i64 er) ∧ Kept u w')) :
  Calls Tryz.prog 19 #[accV ng (.slice ao l cap) xx p m z,.int .i64 x,.int .i64 y,.int .i64 n] w fun e w' => e = .returned (.tuple #[accZ,.int .i64 er]) ∧ Kept w w':=by
 have he2 : (er != 0) = true:=by simpa using he
 obtain ⟨X,hX⟩ : ∃ X,X = (w.alloc (.cells #[.bool ng,.slice ao l cap,.int .i64 xx,.bool p,.bool m,.bool z] 26)).alloc (.cells #[.bool false,.slice none 0 0,.int .i64 0,.bool false,.bool false,.bool false] 26):=⟨_,rfl⟩
 have k0 : Kept w X:=by rw [hX]; exact ((Kept.refl w).alloc _ _).alloc _ _
 obtain ⟨c0,c1,c2,c3,c4,c5⟩:=acc_cells1 ng (.slice ao l cap) xx p m z 26 w.heap.size rfl (X:=X) (by rw [hX]; exact (Kept.refl _).alloc _ _) X (Kept.refl _)
 have HR : Hid (∀ u,Kept X u → _):=acc_res1 (w:=w.alloc (.cells #[.bool ng,.slice ao l cap,.int .i64 xx,.bool p,.bool m,.bool z] 26)) 26 (w.heap.size + 1) (by simp) (by rw [hX]; exact Kept.refl _)
 go_enter Tryz.func19,Tryz.ntmps19
 go_upto_region 1 with fail
 rw [← hX]
 clear hX
 go_wp2_with fail
 refine (KL.out _ _ (k0.alloc _ _) (by simp) (by simp [go_sem]) (by simp [go_sem])).mono ?_
 rintro e w1 ⟨rfl,k1⟩
 have kB1 : Kept X w1:=((Kept.refl X).alloc _ _).trans k1
 clear c0 c1 c2 c3 c4 c5
 obtain ⟨r0,r1,r2,r3,r4,r5,r6⟩:=HR.out _ kB1
 go_wp2_with fail
 exact bodyPost_ret (v:=.tuple #[accZ,.int .i64 er]) (by simp [results,Tryz.results19,go_sem,r0,r1,r2,r3,r4,r5]) rfl ⟨rfl,kept_six1 (w.heap.size + 1) (by omega) (k0.trans kB1) _ _ _ _ _ _⟩
end Go.Proofs.YtoflafgbbjinpaaGreatDoor
namespace Go.Proofs.YtoflafgbbjinpaaGreatDoor
open Go.ChangeShapes Go.WideShapes Go.ChangeAt Go.RowKit Ieee
set_option linter.unusedVariables false
set_option linter.unusedSimpArgs false
set_option maxHeartbeats 16000000
set_option maxRecDepth 100000
theorem read_kd (f : Format) (hb : f.binade ≤ f.infRung) (x : Nat) : (f.infRung < rung f x ∧ ∃ s t,f.read x = .nan s t) ∨ (rung f x = f.infRung ∧ f.read x = .infinity (below f x)) ∨ (rung f x < f.infRung ∧ ∃ m i,f.read x = .number (below f x) m i ∧ (m = 0 ↔ rung f x = 0)):=by
 rcases Nat.lt_trichotomy (rung f x) f.infRung with h | h | h
 ·obtain ⟨m,i,e,-,hv,-⟩:=read_num f x h
  refine .inr (.inr ⟨h,m,i,e,?_⟩)
  constructor
  ·intro h0
   rw [h0,Nat.zero_mul] at hv
   exact rungVal_inj f (by rw [← hv,rungVal_zero])
  ·intro h0
   rw [h0,rungVal_zero] at hv
   rcases Nat.mul_eq_zero.1 hv with h1 | h1
   ·exact h1
   ·exact absurd h1 (Nat.ne_of_gt (Nat.two_pow_pos _))
 ·exact .inr (.inl ⟨h,read_inf f x h hb⟩)
 ·exact .inl ⟨h,read_nan f x h hb⟩
/- a float's kind,by its rung -/
def kdf (f : Format) (x : Nat) : Nat:=if f.infRung < rung f x then 4 else if rung f x = f.infRung then 3 else if rung f x = 0 then 0 else 1
theorem mulF (f : Format) (hb : f.binade ≤ f.infRung) (h0 : 0 < f.infRung) (x y : Nat) (hs : 3 ≤ kdf f x ∨ 3 ≤ kdf f y) : f.mul x y = if kdf f x = 4 ∨ kdf f y = 4 ∨ kdf f x = 0 ∨ kdf f y = 0 then none else some (f.word (below f x ^^ below f y) f.infRung):=by
 unfold kdf at *
 rcases read_kd f hb x with ⟨hx,s,t,ex⟩ | ⟨hx,ex⟩ | ⟨hx,m,i,ex,hm⟩
 ·rw [if_pos hx,if_pos (.inl rfl)]
  unfold Format.mul
  rw [ex]
  rfl
 ·rcases read_kd f hb y with ⟨hy,s',t',ey⟩ | ⟨hy,ey⟩ | ⟨hy,m',i',ey,hm'⟩
  ·rw [if_pos (.inr (.inl (by rw [if_pos hy])))]
   unfold Format.mul
   rw [ex,ey]
   rfl
  ·rw [if_neg (by rw [if_neg (by omega),if_pos hx,if_neg (by omega),if_pos hy]; omega)]
   unfold Format.mul
   rw [ex,ey]
   rfl
  ·by_cases hz : rung f y = 0
   ·rw [if_pos (.inr (.inr (.inr (by rw [if_neg (by omega),if_neg (by omega),if_pos hz]))))]
    unfold Format.mul
    rw [ex,ey,hm'.2 hz]
    rfl
   ·rw [if_neg (by rw [if_neg (by omega),if_pos hx,if_neg (by omega),if_neg (by omega),if_neg hz]; omega)]
    unfold Format.mul
    have hne : m' ≠ 0:=fun g => hz (hm'.1 g)
    rw [ex,ey]
    simp [Datum.product,hne]
    rfl
 ·rcases read_kd f hb y with ⟨hy,s',t',ey⟩ | ⟨hy,ey⟩ | ⟨hy,m',i',ey,hm'⟩
  ·rw [if_pos (.inr (.inl (by rw [if_pos hy])))]
   unfold Format.mul
   rw [ex,ey]
   rfl
  ·by_cases hz : rung f x = 0
   ·rw [if_pos (.inr (.inr (.inl (by rw [if_neg (by omega),if_neg (by omega),if_pos hz]))))]
    unfold Format.mul
    rw [ex,ey,hm.2 hz]
    rfl
   ·rw [if_neg (by rw [if_neg (by omega),if_neg (by omega),if_neg hz,if_neg (by omega),if_pos hy]; omega)]
    unfold Format.mul
    have hne : m ≠ 0:=fun g => hz (hm.1 g)
    rw [ex,ey]
    simp [Datum.product,hne,Bool.xor_comm]
    rfl
  ·exfalso
   rcases hs with h | h
   ·rw [if_neg (by omega),if_neg (by omega)] at h
    split at h <;> omega
   ·rw [if_neg (by omega),if_neg (by omega)] at h
    split at h <;> omega
def mlS (n x y : Int) : Int:=if cls x n = 4 ∨ cls y n = 4 ∨ cls x n = 0 ∨ cls y n = 0 then nvn n else if (sgn x n ^^ sgn y n) = true then gvn n else ivn n
theorem kd_64 (b : Int) : ((kdf FloatKind.f64.format (pat64 b) = 4 ↔ cls b 64 = 4) ∧ (kdf FloatKind.f64.format (pat64 b) = 0 ↔ cls b 64 = 0)) ∧ (3 ≤ kdf FloatKind.f64.format (pat64 b) ↔ 3 ≤ cls b 64):=by
 have h:=rung_pat64 b
 unfold kdf
 rw [inf64]
 unfold cls clsOf
 rw [if_pos rfl]
 refine ⟨⟨?_,?_⟩,?_⟩ <;> (repeat' split) <;> omega
theorem kd_32 (b : Int) (hv : 0 ≤ b ∧ b < 4294967296) : ((kdf FloatKind.f32.format (pat32 b) = 4 ↔ cls b 32 = 4) ∧ (kdf FloatKind.f32.format (pat32 b) = 0 ↔ cls b 32 = 0)) ∧ (3 ≤ kdf FloatKind.f32.format (pat32 b) ↔ 3 ≤ cls b 32):=by
 have h:=rung_pat32 b hv
 have e : cls b 32 = clsOf (b % 2147483648) 2139095040 8388608:=by unfold cls; rw [if_neg (by decide),if_pos rfl,if_pos hv]
 rw [e]
 unfold kdf clsOf
 rw [inf32]
 refine ⟨⟨?_,?_⟩,?_⟩ <;> (repeat' split) <;> omega
/- what the model answers where a product is no number -/
def nanM (k : FloatKind) (x y : Nat) (w : World) : Nat:=Question.cut (.nanBits k x y) (w.tape w.drawn (.nanBits k x y))
theorem run_mul_nan {P : Program} (w : World) (t : TypeId) (k : FloatKind) (x y : Nat) (h : k.format.mul x y = none) : (binOp .mul t (.float k x) (.float k y)).run P w = .ok (.float k (nanM k x y w)) w.drew:=by
 simp [binOp,Op.floatArith,h,nanM,go_sem]
theorem nanM_64 (x y : Nat) (w : World) : of64 (nanM .f64 x y w) = 9221120237041090561:=by
 unfold of64
 rw [self_64,if_pos]
 rw [decide_eq_true_eq]
 unfold nanM Question.cut rung
 simp only
 rw [inf64,sw64]
 generalize w.tape w.drawn (.nanBits .f64 x y) = t
 have h1 : t % 2 < 2:=Nat.mod_lt _ (by decide)
 have h2 : t / 2 % (2 ^ 52 - 1) < 2 ^ 52 - 1:=Nat.mod_lt _ (by decide)
 generalize t % 2 = s at *
 generalize t / 2 % (2 ^ 52 - 1) = u at *
 omega
theorem nanM_32 (x y : Nat) (w : World) : of32 (nanM .f32 x y w) = 2143289345:=by
 unfold of32
 rw [self_32,if_pos]
 rw [decide_eq_true_eq]
 unfold nanM Question.cut rung
 simp only
 rw [inf32,sw32]
 generalize w.tape w.drawn (.nanBits .f32 x y) = t
 have h1 : t % 2 < 2:=Nat.mod_lt _ (by decide)
 have h2 : t / 2 % (2 ^ 23 - 1) < 2 ^ 23 - 1:=Nat.mod_lt _ (by decide)
 generalize t % 2 = s at *
 generalize t / 2 % (2 ^ 23 - 1) = u at *
 omega
theorem single_64 (x y : Nat) (v : Int) (hv : FloatKind.f64.format.mul x y = none ∧ v = 9221120237041090561 ∨ ∃ r,FloatKind.f64.format.mul x y = some r ∧ of64 r = v) (w : World) : Calls Tryz.prog 163 #[.int .i64 2,.float .f64 x,.float .f64 y] w fun e w' => ∃ r,e = .returned (.float .f64 r) ∧ of64 r = v ∧ Kept w w':=by
 rcases hv with ⟨h,rfl⟩ | ⟨r,h,hr⟩
 ·have hm : ∀ wx : World,(binOp .mul 130 (.float .f64 x) (.float .f64 y)).run Tryz.prog wx = .ok (.float .f64 (nanM .f64 x y wx)) wx.drew:=fun wx => run_mul_nan wx _ .f64 x y h
  go_enter Tryz.func163,Tryz.ntmps163
  go_wp2_with fail
  go_ret
  exact ⟨_,rfl,nanM_64 x y w,(Kept.refl w).drew⟩
 ·have hm : ∀ wx : World,(binOp .mul 130 (.float .f64 x) (.float .f64 y)).run Tryz.prog wx = .ok (.float .f64 r) wx:=fun wx => run_float_arith wx .mul _ .f64 x y r h
  go_enter Tryz.func163,Tryz.ntmps163
  go_wp2_with fail
  go_ret
  exact ⟨_,rfl,hr,Kept.refl w⟩
theorem single_32 (x y : Nat) (v : Int) (hv : FloatKind.f32.format.mul x y = none ∧ v = 2143289345 ∨ ∃ r,FloatKind.f32.format.mul x y = some r ∧ of32 r = v) (w : World) : Calls Tryz.prog 161 #[.int .i64 2,.float .f32 x,.float .f32 y] w fun e w' => ∃ r,e = .returned (.float .f32 r) ∧ of32 r = v ∧ Kept w w':=by
 rcases hv with ⟨h,rfl⟩ | ⟨r,h,hr⟩
 ·have hm : ∀ wx : World,(binOp .mul 128 (.float .f32 x) (.float .f32 y)).run Tryz.prog wx = .ok (.float .f32 (nanM .f32 x y wx)) wx.drew:=fun wx => run_mul_nan wx _ .f32 x y h
  go_enter Tryz.func161,Tryz.ntmps161
  go_wp2_with fail
  go_ret
  exact ⟨_,rfl,nanM_32 x y w,(Kept.refl w).drew⟩
 ·have hm : ∀ wx : World,(binOp .mul 128 (.float .f32 x) (.float .f32 y)).run Tryz.prog wx = .ok (.float .f32 r) wx:=fun wx => run_float_arith wx .mul _ .f32 x y r h
  go_enter Tryz.func161,Tryz.ntmps161
  go_wp2_with fail
  go_ret
  exact ⟨_,rfl,hr,Kept.refl w⟩
theorem mul_64 (x y v : Int) (hv : FloatKind.f64.format.mul (pat64 x) (pat64 y) = none ∧ v = 9221120237041090561 ∨ ∃ r,FloatKind.f64.format.mul (pat64 x) (pat64 y) = some r ∧ of64 r = v) (w : World) : Calls Tryz.prog 81 #[.int .i64 x,.int .i64 y,.int .i64 64] w fun e w' => e = .returned (.int .i64 v) ∧ Kept w w':=by
 have KF : Hid (∀ b u,Calls Tryz.prog 164 #[.int .i64 b] u fun e w' => e = .returned (.float .f64 (pat64 b)) ∧ u = w'):=fun b u => float_any b u
 have KS : Hid (∀ u,Calls Tryz.prog 163 #[.int .i64 2,.float .f64 (pat64 x),.float .f64 (pat64 y)] u fun e w' => ∃ r,e = .returned (.float .f64 r) ∧ Hid (of64 r = v) ∧ Kept u w'):=fun u => single_64 _ _ v hv u
 have KO : Hid (∀ u r,of64 r = v → Calls Tryz.prog 84 #[.float .f64 r] u fun e w' => e = .returned (.int .i64 v) ∧ u = w'):=fun u r h => by
  have:=of64_any r u
  rw [h] at this
  exact this
 have KA : Hid (∀ u,Calls Tryz.prog 126 #[.int .i64 2,.int .i64 x,.int .i64 y,.int .i64 64] u fun e w' => e = .returned (.int .i64 v) ∧ Kept u w'):=fun u => by
  go_enter Tryz.func126,Tryz.ntmps126
  go_wp2_with (first | (go_at_call 164; refine (KF.out _ _).mono ?_; rintro e w1 ⟨rfl,rfl⟩) | (go_at_call 163; refine (KS.out _).mono ?_; rintro e w2 ⟨r,rfl,hr,k2⟩) | (go_at_call 84; refine (KO.out _ _ hr.out).mono ?_; rintro e w3 ⟨rfl,rfl⟩))
  go_ret
  exact ⟨rfl,k2⟩
 clear hv KF KS KO
 go_enter Tryz.func81,Tryz.ntmps81
 go_wp2_with fail
 refine (KA.out _).mono ?_
 rintro e w1 ⟨rfl,k1⟩
 go_wp2_with fail
 go_ret
 exact ⟨rfl,k1⟩
theorem mul_32 (x y v : Int) (hv : FloatKind.f32.format.mul (pat32 x) (pat32 y) = none ∧ v = 2143289345 ∨ ∃ r,FloatKind.f32.format.mul (pat32 x) (pat32 y) = some r ∧ of32 r = v) (w : World) : Calls Tryz.prog 81 #[.int .i64 x,.int .i64 y,.int .i64 32] w fun e w' => e = .returned (.int .i64 v) ∧ Kept w w':=by
 have KF : Hid (∀ b u,Calls Tryz.prog 162 #[.int .i64 b] u fun e w' => e = .returned (.float .f32 (pat32 b)) ∧ u = w'):=fun b u => float32_any b u
 have KS : Hid (∀ u,Calls Tryz.prog 161 #[.int .i64 2,.float .f32 (pat32 x),.float .f32 (pat32 y)] u fun e w' => ∃ r,e = .returned (.float .f32 r) ∧ Hid (of32 r = v) ∧ Kept u w'):=fun u => single_32 _ _ v hv u
 have KO : Hid (∀ u r,of32 r = v → Calls Tryz.prog 83 #[.float .f32 r] u fun e w' => e = .returned (.int .i64 v) ∧ u = w'):=fun u r h => by
  have:=of32_any r u
  rw [h] at this
  exact this
 have KA : Hid (∀ u,Calls Tryz.prog 126 #[.int .i64 2,.int .i64 x,.int .i64 y,.int .i64 32] u fun e w' => e = .returned (.int .i64 v) ∧ Kept u w'):=fun u => by
  go_enter Tryz.func126,Tryz.ntmps126
  go_wp2_with (first | (go_at_call 162; refine (KF.out _ _).mono ?_; rintro e w1 ⟨rfl,rfl⟩) | (go_at_call 161; refine (KS.out _).mono ?_; rintro e w2 ⟨r,rfl,hr,k2⟩) | (go_at_call 83; refine (KO.out _ _ hr.out).mono ?_; rintro e w3 ⟨rfl,rfl⟩))
  go_ret
  exact ⟨rfl,k2⟩
 clear hv KF KS KO
 go_enter Tryz.func81,Tryz.ntmps81
 go_wp2_with fail
 refine (KA.out _).mono ?_
 rintro e w1 ⟨rfl,k1⟩
 go_wp2_with fail
 go_ret
 exact ⟨rfl,k1⟩
theorem val_32 (b : Int) (h : val b 32 = true) : 0 ≤ b ∧ b < 4294967296:=by
 unfold val at h
 simp at h
 omega
theorem mul_special (n : Int) (hn : n = 64 ∨ n = 32) (x y : Int) (x1 : -9223372036854775808 ≤ x) (x2 : x ≤ 9223372036854775807) (y1 : -9223372036854775808 ≤ y) (y2 : y ≤ 9223372036854775807) (vx : val x n = true) (vy : val y n = true) (hs : 3 ≤ cls x n ∨ 3 ≤ cls y n) (w : World) : Calls Tryz.prog 81 #[.int .i64 x,.int .i64 y,.int .i64 n] w fun e w' => e = .returned (.int .i64 (mlS n x y)) ∧ Kept w w':=by
 rcases hn with rfl | rfl
 ·refine mul_64 x y _ ?_ w
  obtain ⟨⟨a4,a0⟩,a3⟩:=kd_64 x
  obtain ⟨⟨b4,b0⟩,b3⟩:=kd_64 y
  have h:=mulF FloatKind.f64.format hb64 (by decide +kernel) (pat64 x) (pat64 y) (by omega)
  unfold mlS
  by_cases hc : cls x 64 = 4 ∨ cls y 64 = 4 ∨ cls x 64 = 0 ∨ cls y 64 = 0
  ·rw [if_pos (by omega)] at h
   rw [if_pos hc]
   exact .inl ⟨h,rfl⟩
  ·rw [if_neg (by omega)] at h
   rw [if_neg hc]
   refine .inr ⟨_,h,?_⟩
   rw [below_pat64 x x1 x2,below_pat64 y y1 y2]
   have ex : sgn x 64 = decide (x < 0):=by simp [sgn]
   have ey : sgn y 64 = decide (y < 0):=by simp [sgn]
   rw [ex,ey]
   generalize decide (x < 0) = sx
   generalize decide (y < 0) = sy
   cases sx <;> cases sy <;> decide +kernel
 ·have vx':=val_32 x vx
  have vy':=val_32 y vy
  refine mul_32 x y _ ?_ w
  obtain ⟨⟨a4,a0⟩,a3⟩:=kd_32 x vx'
  obtain ⟨⟨b4,b0⟩,b3⟩:=kd_32 y vy'
  have h:=mulF FloatKind.f32.format hb32 (by decide +kernel) (pat32 x) (pat32 y) (by omega)
  unfold mlS
  by_cases hc : cls x 32 = 4 ∨ cls y 32 = 4 ∨ cls x 32 = 0 ∨ cls y 32 = 0
  ·rw [if_pos (by omega)] at h
   rw [if_pos hc]
   exact .inl ⟨h,rfl⟩
  ·rw [if_neg (by omega)] at h
   rw [if_neg hc]
   refine .inr ⟨_,h,?_⟩
   rw [below_pat32 x vx',below_pat32 y vy']
   have ex : sgn x 32 = decide (2147483648 ≤ x):=by simp [sgn]
   have ey : sgn y 32 = decide (2147483648 ≤ y):=by simp [sgn]
   rw [ex,ey]
   generalize decide (2147483648 ≤ x) = sx
   generalize decide (2147483648 ≤ y) = sy
   cases sx <;> cases sy <;> decide +kernel
end Go.Proofs.YtoflafgbbjinpaaGreatDoor
namespace Go.Proofs.YtoflafgbbjinpaaGreatDoor
open Go
set_option linter.unusedVariables false
set_option linter.unusedSimpArgs false
set_option maxHeartbeats 16000000
set_option maxRecDepth 100000
section
variable {P : Program} {ops : Array Oper} {Q : Exit → Act → World → Prop} {md : Region.Mode} {S T : World → Prop} {D : List Nat}
/-- Has a late one come? -/
def anyL (D : List Nat) (listed : Array Bool) : Bool:=D.any fun j => listed.getD j false
def wpAnyT (P : Program) (md : Region.Mode) (ops : Array Oper) (Q : Exit → Act → World → Prop) (S T : World → Prop) (D : List Nat) : Nat → Array Bool → Act → World → Prop
 | 0,listed,a,w => Region.ready md ops listed = [] ∧ Q .normal a w
 | fuel + 1,listed,a,w =>
  (Region.ready md ops listed = [] → Q .normal a w) ∧
  ∀ i ∈ Region.ready md ops listed,wpOp P ops Q i (fun a' w' => ((anyL D (listed.setIfInBounds i true) = false → S w') ∧ T w') ∧ wpAnyT P md ops Q S T D fuel (listed.setIfInBounds i true) a' w') a w
theorem wpAny_of_lateT : ∀ (fuel : Nat) (listed : Array Bool) (a : Act) (w : World),wpAnyT P md ops Q S T D fuel listed a w → wpAny P md ops Q fuel listed a w
 | 0,_,_,_,h => h
 | fuel + 1,_,_,_,h => ⟨h.1,fun i hi => wpOp_mono (fun a' w' h' => wpAny_of_lateT fuel _ a' w' h'.2) (h.2 i hi)⟩
theorem getD_set_f {listed : Array Bool} {i k : Nat} (h : i ≠ k) : (listed.setIfInBounds i true).getD k false = listed.getD k false:=by
 simp [Array.getElem?_setIfInBounds_ne h]
theorem anyL_mono {listed : Array Bool} {i : Nat} (h : anyL D (listed.setIfInBounds i true) = false) : anyL D listed = false:=by
 unfold anyL at *
 rw [List.any_eq_false] at *
 intro k hk hc
 refine h k hk ?_
 by_cases hik : i = k
 ·subst hik
  rcases Nat.lt_or_ge i listed.size with h' | h'
  ·simp [h']
  ·simp [Array.getElem?_eq_none h'] at hc
 ·rw [getD_set_f hik]; exact hc
theorem anyL_ne {listed : Array Bool} {i j : Nat} (hi : D.contains i = false) (hij : j ≠ i) (h : anyL D (listed.setIfInBounds j true) = false) : anyL D ((listed.setIfInBounds i true).setIfInBounds j true) = false:=by
 unfold anyL at *
 rw [List.any_eq_false] at *
 intro k hk hc
 have hik : i ≠ k:=fun e => by
  subst e
  have : D.contains i = true:=by simpa using hk
  rw [this] at hi
  cases hi
 refine h k hk ?_
 rw [Array.setIfInBounds_comm _ _ (Ne.symm hij),getD_set_f hik] at hc
 exact hc
theorem anyL_un {listed : Array Bool} {i j : Nat} (h : ∀ k ∈ D,listed.getD k true = false ∧ k ≠ i ∧ k ≠ j) : anyL D ((listed.setIfInBounds i true).setIfInBounds j true) = false:=by
 unfold anyL
 rw [List.any_eq_false]
 intro k hk hc
 obtain ⟨h1,h2,h3⟩:=h k hk
 rw [getD_set_f (Ne.symm h3),getD_set_f (Ne.symm h2)] at hc
 exact getD_ff h1 hc
/-- One that all late ones wait for: taken first under S. -/
theorem wpAnyT_first {i : Nat} {oi : Oper} {v : Value} {E : List Nat} (hi : ops[i]? = some oi) (hsel : ∀ (j : Nat) (o : Oper) cs b,ops[j]? = some o → o.op ≠ .select cs b)
  (hQ : ∀ c a w,Q (.panic c) (a.put oi.dst v) w → Q (.panic c) a w) (hD : ∀ j ∈ D,j ∈ E) :
  ∀ (fuel : Nat) (listed : Array Bool) (a : Act) (w : World),LateP md ops listed i E →
   (∀ j oj,ops[j]? = some oj → j ≠ i → listed.getD j true = false → (∀ e ∈ oj.after,Region.binds md e = true → e.on ≠ i) → oi.apart ops oj = true) →
   i ∈ Region.ready md ops listed → YieldsIf P ops S oi v a → S w → T w →
   wpAnyT P md ops Q S T D fuel (listed.setIfInBounds i true) (a.put oi.dst v) w → wpAnyT P md ops Q S T D (fuel + 1) listed a w:=by
 intro fuel
 induction fuel with
 | zero =>
  intro listed a w _ _ hr hy hS hTw H
  refine ⟨fun h => (by rw [h] at hr; cases hr),fun j hj => ?_⟩
  by_cases hji : j = i
  ·subst hji; exact hy.wpOp hi hS ⟨⟨fun _ => hS,hTw⟩,H⟩
  ·have:=ready_mono hj hji
   rw [H.1] at this
   cases this
 | succ fuel ih =>
  intro listed a w hL hfree hr hy hS hTw H
  refine ⟨fun h => (by rw [h] at hr; cases hr),fun j hj => ?_⟩
  by_cases hji : j = i
  ·subst hji; exact hy.wpOp hi hS ⟨⟨fun _ => hS,hTw⟩,H⟩
  ·have h1:=H.2 j (ready_mono hj hji)
   have hjE:=late_not_ready hL hr hj
   obtain ⟨hjun,oj,hoj,hall⟩:=mem_ready.1 hj
   have hun : anyL D ((listed.setIfInBounds i true).setIfInBounds j true) = false:=anyL_un fun k hk => ⟨(hL k (hD k hk)).1,(hL k (hD k hk)).2.1,fun e => by subst e; exact hjE (hD _ hk)⟩
   have hnot : ∀ e ∈ oj.after,Region.binds md e = true → e.on ≠ i:=fun e he hb heq => by
    have h1:=hall e he hb
    rw [heq] at h1
    exact getD_ff (mem_ready.1 hr).1 h1
   have h2:=wpOp_putIf hoj (hfree j oj hoj hji hjun hnot) (fun cs b => hsel i oi cs b hi) (fun cs b => hsel j oj cs b hoj) hQ hy h1
   have hfree' : ∀ k ok,ops[k]? = some ok → k ≠ i → (listed.setIfInBounds j true).getD k true = false →
     (∀ e ∈ ok.after,Region.binds md e = true → e.on ≠ i) → oi.apart ops ok = true:=fun k ok hk hki hun hno => by
    refine hfree k ok hk hki ?_ hno
    by_cases hjk : j = k
    ·subst hjk; exact hjun
    ·rw [getD_set_ne true hjk] at hun; exact hun
   have hL' : LateP md ops (listed.setIfInBounds j true) i E:=fun k hk => by
    obtain ⟨g1,g2,g3⟩:=hL k hk
    have hne : j ≠ k:=fun e => by subst e; exact hjE hk
    exact ⟨by rw [getD_set_ne true hne]; exact g1,g2,g3⟩
   refine wpOp_mono (fun a' w' h3 => ⟨⟨fun _ => h3.2.1.1 hun,h3.2.1.2⟩,ih (listed.setIfInBounds j true) a' w' hL' hfree' (ready_mono hr (Ne.symm hji)) h3.1 (h3.2.1.1 hun) h3.2.1.2 ?_⟩) h2
   rw [Array.setIfInBounds_comm _ _ hji]
   exact h3.2.2
/-- One that loads what stays: taken first under T. -/
theorem wpAnyT_any {i : Nat} {oi : Oper} {v : Value} (hi : ops[i]? = some oi) (hsel : ∀ (j : Nat) (o : Oper) cs b,ops[j]? = some o → o.op ≠ .select cs b)
  (hQ : ∀ c a w,Q (.panic c) (a.put oi.dst v) w → Q (.panic c) a w) (hDi : D.contains i = false) :
  ∀ (fuel : Nat) (listed : Array Bool) (a : Act) (w : World),
   (∀ j oj,ops[j]? = some oj → j ≠ i → listed.getD j true = false → (∀ e ∈ oj.after,Region.binds md e = true → e.on ≠ i) → oi.apart ops oj = true) →
   i ∈ Region.ready md ops listed → YieldsIf P ops T oi v a → (anyL D listed = false → S w) → T w →
   wpAnyT P md ops Q S T D fuel (listed.setIfInBounds i true) (a.put oi.dst v) w → wpAnyT P md ops Q S T D (fuel + 1) listed a w:=by
 intro fuel
 induction fuel with
 | zero =>
  intro listed a w _ hr hy hS hTw H
  refine ⟨fun h => (by rw [h] at hr; cases hr),fun j hj => ?_⟩
  by_cases hji : j = i
  ·subst hji; exact hy.wpOp hi hTw ⟨⟨fun h => hS (anyL_mono h),hTw⟩,H⟩
  ·have:=ready_mono hj hji
   rw [H.1] at this
   cases this
 | succ fuel ih =>
  intro listed a w hfree hr hy hS hTw H
  refine ⟨fun h => (by rw [h] at hr; cases hr),fun j hj => ?_⟩
  by_cases hji : j = i
  ·subst hji; exact hy.wpOp hi hTw ⟨⟨fun h => hS (anyL_mono h),hTw⟩,H⟩
  ·have h1:=H.2 j (ready_mono hj hji)
   obtain ⟨hjun,oj,hoj,hall⟩:=mem_ready.1 hj
   have hnot : ∀ e ∈ oj.after,Region.binds md e = true → e.on ≠ i:=fun e he hb heq => by
    have h1:=hall e he hb
    rw [heq] at h1
    exact getD_ff (mem_ready.1 hr).1 h1
   have h2:=wpOp_putIf hoj (hfree j oj hoj hji hjun hnot) (fun cs b => hsel i oi cs b hi) (fun cs b => hsel j oj cs b hoj) hQ hy h1
   have hfree' : ∀ k ok,ops[k]? = some ok → k ≠ i → (listed.setIfInBounds j true).getD k true = false →
     (∀ e ∈ ok.after,Region.binds md e = true → e.on ≠ i) → oi.apart ops ok = true:=fun k ok hk hki hun hno => by
    refine hfree k ok hk hki ?_ hno
    by_cases hjk : j = k
    ·subst hjk; exact hjun
    ·rw [getD_set_ne true hjk] at hun; exact hun
   refine wpOp_mono (fun a' w' h3 => ⟨⟨fun h => h3.2.1.1 (anyL_ne hDi hji h),h3.2.1.2⟩,ih (listed.setIfInBounds j true) a' w' hfree' (ready_mono hr (Ne.symm hji)) h3.1 (fun h => h3.2.1.1 (anyL_ne hDi hji h)) h3.2.1.2 ?_⟩) h2
   rw [Array.setIfInBounds_comm _ _ hji]
   exact h3.2.2
theorem wpAnyT_take {i : Nat} {oi : Oper} {v : Value} {fuel : Nat} {listed : Array Bool} {a : Act} {w : World} (hi : ops[i]? = some oi)
  (hs : Region.noSelect ops = true) (hf : Region.free md ops listed i = true) (hr : (Region.ready md ops listed).contains i = true) (hl : lateB md ops listed D i (lateOf md ops i) = true)
  (hQ : ∀ c a w,Q (.panic c) (a.put oi.dst v) w → Q (.panic c) a w) (hy : YieldsIf P ops S oi v a) (hS : S w) (hT : T w)
  (h : wpAnyT P md ops Q S T D fuel (listed.setIfInBounds i true) (a.put oi.dst v) w) : wpAnyT P md ops Q S T D (fuel + 1) listed a w :=
 wpAnyT_first hi (Region.noSelect_spec hs) hQ (lateB_spec hl).1 fuel listed a w (lateB_spec hl).2 (Region.free_spec hi hf) (by simpa using hr) hy hS hT h
theorem wpAnyT_take2 {i : Nat} {oi : Oper} {v : Value} {fuel : Nat} {listed : Array Bool} {a : Act} {w : World} (hi : ops[i]? = some oi)
  (hs : Region.noSelect ops = true) (hf : Region.free md ops listed i = true) (hr : (Region.ready md ops listed).contains i = true) (hd : D.contains i = false)
  (hQ : ∀ c a w,Q (.panic c) (a.put oi.dst v) w → Q (.panic c) a w) (hy : YieldsIf P ops T oi v a) (hS : anyL D listed = false → S w) (hT : T w)
  (h : wpAnyT P md ops Q S T D fuel (listed.setIfInBounds i true) (a.put oi.dst v) w) : wpAnyT P md ops Q S T D (fuel + 1) listed a w :=
 wpAnyT_any hi (Region.noSelect_spec hs) hQ hd fuel listed a w (Region.free_spec hi hf) (by simpa using hr) hy hS hT h
theorem wpAnyT_late {i : Nat} {o : Oper} {fuel : Nat} {listed : Array Bool} {a : Act} {w : World} (hr : Region.ready md ops listed = [i]) (ho : ops[i]? = some o) (hd : anyL D (listed.setIfInBounds i true) = true)
  (h : ∀ K' : Act → World → Prop,Shut (∀ a w,T w → (T w → wpAnyT P md ops Q S T D fuel (listed.setIfInBounds i true) a w) → K' a w) → if Region.wanted o (yielded ops a.tmps) = true then Oper.wp P o a w K' Q else K' (a.put o.dst undef) w) :
  wpAnyT P md ops Q S T D (fuel + 1) listed a w:=by
 refine ⟨fun h0 => (by rw [h0] at hr; cases hr),fun j hj => ?_⟩
 rw [hr] at hj
 obtain rfl:=List.mem_singleton.1 hj
 exact wpOp_step ho (fun K' hK => h K' (fun a w hT hW => hK a w ⟨⟨fun hc => (by rw [hd] at hc; cases hc),hT⟩,hW hT⟩))
theorem wpAnyT_done {listed : Array Bool} {a : Act} {w : World} (hr : Region.ready md ops listed = []) (h : Q .normal a w) :
  ∀ fuel,wpAnyT P md ops Q S T D fuel listed a w
 | 0 => ⟨hr,h⟩
 | _ + 1 => ⟨fun _ => h,by rw [hr]; simp⟩
theorem wp_region_lateT {id : Nat} {a : Act} {w : World} (D : List Nat) (S T : World → Prop) (hm : P.follows .mixedOrders = true) (hS : S w.drew) (hT : T w.drew)
  (h : S w.drew → T w.drew → wpAnyT P .any ops Q S T D ops.size (Array.replicate ops.size false) a w.drew) : (Code.region id ops true).wp P Q a w :=
 wp_region_any hm (wpAny_of_lateT _ _ _ _ (h hS hT))
end
theorem tkT {P : Program} {ops : Array Oper} {Q : Exit → Act → World → Prop} {md : Region.Mode} {S T : World → Prop} {D : List Nat} {i : Nat} {oi : Oper} {v : Value} {fuel : Nat} {listed : Array Bool} {a : Act} {w : World} (hi : ops[i]? = some oi) (hS : S w) (hT : T w) (h : wpAnyT P md ops Q S T D fuel (listed.setIfInBounds i true) (a.put oi.dst v) w) (hy : YieldsIf P ops S oi v a := by exact .inl ⟨by rfl, by (intro w hSw; (try dsimp only at hSw); go_simp; try (with_reducible rfl))⟩) (hs : Region.noSelect ops = true := by kernel_rfl) (hf : Region.free md ops listed i = true := by kernel_rfl) (hr : (Region.ready md ops listed).contains i = true := by kernel_rfl) (hl : lateB md ops listed D i (lateOf md ops i) = true := by kernel_rfl) (hQ : ∀ c a w, Q (.panic c) (a.put oi.dst v) w → Q (.panic c) a w := by exact fun _ _ _ h => h) : wpAnyT P md ops Q S T D (fuel + 1) listed a w := wpAnyT_take hi hs hf hr hl hQ hy hS hT h
theorem tkU {P : Program} {ops : Array Oper} {Q : Exit → Act → World → Prop} {md : Region.Mode} {S T : World → Prop} {D : List Nat} {i : Nat} {oi : Oper} {v : Value} {fuel : Nat} {listed : Array Bool} {a : Act} {w : World} (hi : ops[i]? = some oi) (hS : anyL D listed = false → S w) (hT : T w) (h : wpAnyT P md ops Q S T D fuel (listed.setIfInBounds i true) (a.put oi.dst v) w) (hy : YieldsIf P ops T oi v a := by exact .inl ⟨by rfl, by (intro w hSw; (try dsimp only at hSw); go_simp; try (with_reducible rfl))⟩) (hs : Region.noSelect ops = true := by kernel_rfl) (hf : Region.free md ops listed i = true := by kernel_rfl) (hr : (Region.ready md ops listed).contains i = true := by kernel_rfl) (hd : D.contains i = false := by kernel_rfl) (hQ : ∀ c a w, Q (.panic c) (a.put oi.dst v) w → Q (.panic c) a w := by exact fun _ _ _ h => h) : wpAnyT P md ops Q S T D (fuel + 1) listed a w := wpAnyT_take2 hi hs hf hr hd hQ hy hS hT h
end Go.Proofs.YtoflafgbbjinpaaGreatDoor
