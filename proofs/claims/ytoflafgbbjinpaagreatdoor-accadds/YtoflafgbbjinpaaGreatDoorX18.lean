/- notFinite: what bits' Convert and Neg answer there; FromInt of 1. acc's AddProduct and Add,by what they ask. The walks of exact's kindOf,ways,roundingOf at width 64,to the nearest; pieces; below and take of one digit. -/
import Derived.Test.YtoflafgbbjinpaaGreatDoorX16
import Derived.Test.YtoflafgbbjinpaaGreatDoorX17
import Derived.Test.YtoflafgbbjinpaaGreatDoorX08
import Derived.Laws.EntriesVeiled
namespace Go.Proofs.YtoflafgbbjinpaaGreatDoor
open Go.ChangeShapes Go.WideShapes Go.ChangeAt Go.RowKit Ieee
set_option linter.unusedVariables false
set_option linter.unusedSimpArgs false
set_option maxHeartbeats 16000000
set_option maxRecDepth 100000
theorem nanAns32_nan (b : Nat) (w : World) : FloatKind.f32.format.infRung < rung FloatKind.f32.format (nanAns .f32 b w):=by
 unfold nanAns Question.cut rung
 simp only
 rw [inf32,sw32]
 generalize w.tape w.drawn (.nanConv .f32 b) = t
 have h1 : t % 2 < 2:=Nat.mod_lt _ (by decide)
 have h2 : t / 2 % (2 ^ 23 - 1) < 2 ^ 23 - 1:=Nat.mod_lt _ (by decide)
 generalize t % 2 = s at *
 generalize t / 2 % (2 ^ 23 - 1) = u at *
 omega
theorem conv_64 (b c : Int) (hb1 : -9223372036854775808 ≤ b) (hb2 : b ≤ 9223372036854775807) (hc : (if cls b 64 = 4 then 9221120237041090561 else b) = c) (w : World) : Calls Tryz.prog 117 #[.int .i64 b,.int .i64 64,.int .i64 64] w fun e w' => e = .returned (.int .i64 c) ∧ Kept w w':=by
 have KL : Hid (∀ u,Calls Tryz.prog 78 #[.int .i64 64] u fun e w' => e = .returned (.tuple #[.agg #[.int .i64 (-9223372036854775808),.int .i64 9218868437227405312,.int .i64 9221120237041090561,.int .i64 52,.int .i64 (-1074)],.bool true]) ∧ Kept u w'):=fun u => layoutOf_64 u
 have KW : Hid (∀ u,Calls Tryz.prog 152 #[.int .i64 b,.int .i64 64] u fun e w' => e = .returned (.float .f64 (pat64 b)) ∧ u = w'):=fun u => widened_64 b u
 have KO : Hid (∀ u,Calls Tryz.prog 84 #[.float .f64 (pat64 b)] u fun e w' => e = .returned (.int .i64 c) ∧ u = w'):=fun u => by
  have:=of64_any (pat64 b) u
  rw [of64_pat b hb1 hb2,hc] at this
  exact this
 clear hc
 generalize pat64 b = p at *
 go_enter Tryz.func117,Tryz.ntmps117
 go_wp2_with (first | (go_at_call 78; refine (KL.out _).mono ?_; rintro e w1 ⟨rfl,k1⟩) | (go_at_call 152; refine (KW.out _).mono ?_; rintro e w2 ⟨rfl,rfl⟩) | (go_at_call 84; refine (KO.out _).mono ?_; rintro e w3 ⟨rfl,rfl⟩))
 go_ret
 exact ⟨rfl,k1.alloc _ _⟩
theorem conv_inf32 (w : World) : Calls Tryz.prog 117 #[.int .i64 9218868437227405312,.int .i64 64,.int .i64 32] w fun e w' => e = .returned (.int .i64 2139095040) ∧ Kept w w':=by
 have KL : Hid (∀ u,Calls Tryz.prog 78 #[.int .i64 64] u fun e w' => e = .returned (.tuple #[.agg #[.int .i64 (-9223372036854775808),.int .i64 9218868437227405312,.int .i64 9221120237041090561,.int .i64 52,.int .i64 (-1074)],.bool true]) ∧ Kept u w'):=fun u => layoutOf_64 u
 have KW : Hid (∀ u,Calls Tryz.prog 152 #[.int .i64 9218868437227405312,.int .i64 64] u fun e w' => e = .returned (.float .f64 (pat64 9218868437227405312)) ∧ u = w'):=fun u => widened_64 _ u
 have hcv : ∀ wx : World,(convert 130 128 (.float .f64 (pat64 9218868437227405312))).run Tryz.prog wx = .ok (.float .f32 2139095040) wx:=fun wx => run_convert_float_float wx 130 128 .f64 .f32 _ _ (by kernel_rfl) (by kernel_rfl) (by decide +kernel)
 have KO : Hid (∀ u,Calls Tryz.prog 83 #[.float .f32 2139095040] u fun e w' => e = .returned (.int .i64 2139095040) ∧ u = w'):=fun u => by
  have:=of32_any 2139095040 u
  rw [show of32 2139095040 = 2139095040 by decide +kernel] at this
  exact this
 generalize pat64 9218868437227405312 = p at *
 go_enter Tryz.func117,Tryz.ntmps117
 go_wp2_with (first | (go_at_call 78; refine (KL.out _).mono ?_; rintro e w1 ⟨rfl,k1⟩) | (go_at_call 152; refine (KW.out _).mono ?_; rintro e w2 ⟨rfl,rfl⟩) | (go_at_call 83; refine (KO.out _).mono ?_; rintro e w3 ⟨rfl,rfl⟩))
 go_ret
 exact ⟨rfl,k1.alloc _ _⟩
theorem conv_nan32 (w : World) : Calls Tryz.prog 117 #[.int .i64 9221120237041090561,.int .i64 64,.int .i64 32] w fun e w' => e = .returned (.int .i64 2143289345) ∧ Kept w w':=by
 have KL : Hid (∀ u,Calls Tryz.prog 78 #[.int .i64 64] u fun e w' => e = .returned (.tuple #[.agg #[.int .i64 (-9223372036854775808),.int .i64 9218868437227405312,.int .i64 9221120237041090561,.int .i64 52,.int .i64 (-1074)],.bool true]) ∧ Kept u w'):=fun u => layoutOf_64 u
 have KW : Hid (∀ u,Calls Tryz.prog 152 #[.int .i64 9221120237041090561,.int .i64 64] u fun e w' => e = .returned (.float .f64 (pat64 9221120237041090561)) ∧ u = w'):=fun u => widened_64 _ u
 have hcv : ∀ wx : World,(convert 130 128 (.float .f64 (pat64 9221120237041090561))).run Tryz.prog wx = .ok (.float .f32 (nanAns .f32 (pat64 9221120237041090561) wx)) wx.drew:=by
  obtain ⟨s,t,hd⟩:=read_nan FloatKind.f64.format (pat64 9221120237041090561) (by decide +kernel) hb64
  exact fun wx => run_convert_nan wx 130 128 .f64 .f32 _ (by kernel_rfl) (by kernel_rfl) (by decide) hd
 have KO : Hid (∀ u y wx,Calls Tryz.prog 83 #[.float .f32 (nanAns .f32 y wx)] u fun e w' => e = .returned (.int .i64 2143289345) ∧ u = w'):=fun u y wx => by
  have:=of32_any (nanAns .f32 y wx) u
  unfold of32 at this
  rw [self_32,if_pos (decide_eq_true (nanAns32_nan y wx))] at this
  exact this
 generalize pat64 9221120237041090561 = p at *
 go_enter Tryz.func117,Tryz.ntmps117
 go_wp2_with (first | (go_at_call 78; refine (KL.out _).mono ?_; rintro e w1 ⟨rfl,k1⟩) | (go_at_call 152; refine (KW.out _).mono ?_; rintro e w2 ⟨rfl,rfl⟩) | (go_at_call 83; refine (KO.out _ _ _).mono ?_; rintro e w3 ⟨rfl,rfl⟩))
 go_ret
 exact ⟨rfl,(k1.alloc _ _).drew⟩
/- the three patterns that are not finite -/
def ivn (n : Int) : Int:=if n = 64 then 9218868437227405312 else 2139095040
def nvn (n : Int) : Int:=if n = 64 then 9221120237041090561 else 2143289345
def gvn (n : Int) : Int:=if n = 64 then -4503599627370496 else 4286578688
theorem notFin (n : Int) (hn : n = 64 ∨ n = 32) (ng : Bool) (ao : Option Addr) (l cap : Nat) (x : Int) (p m z : Bool) (w : World) :
  Calls Tryz.prog 71 #[accV ng (.slice ao l cap) x p m z,.int .i64 n] w fun e w' => e = .returned (.tuple #[.int .i64 (nfE (ivn n) (nvn n) (gvn n) p m z).1,.bool (nfE (ivn n) (nvn n) (gvn n) p m z).2]) ∧ Kept w w':=by
 rcases hn with rfl | rfl
 ·refine notFinite_any 64 ng ao l cap x p m z w _ _ _ (fun u => conv_64 _ _ (by decide) (by decide) (by decide +kernel) u) (fun u => conv_64 _ _ (by decide) (by decide) (by decide +kernel) u) (fun u => ?_)
  have:=neg_any 9218868437227405312 64 (by decide) (by decide) u
  rw [show ngt 9218868437227405312 64 = gvn 64 by decide +kernel] at this
  exact this
 ·refine notFinite_any 32 ng ao l cap x p m z w _ _ _ (fun u => conv_inf32 u) (fun u => conv_nan32 u) (fun u => ?_)
  have:=neg_any 2139095040 32 (by decide) (by decide) u
  rw [show ngt 2139095040 32 = gvn 32 by decide +kernel] at this
  exact this
theorem fromOne_64 (w : World) : Calls Tryz.prog 32 #[.int .i64 1,.int .i64 64] w fun e w' => e = .returned (.int .i64 4607182418800017408) ∧ w = w':=by
 have h1 : floatOfInt .f64 1 = 4607182418800017408:=by decide +kernel
 have HO : Hid (∀ u,Calls Tryz.prog 84 #[.float .f64 4607182418800017408] u fun e w' => e = .returned (.int .i64 4607182418800017408) ∧ u = w'):=fun u => by
  have:=of64_any 4607182418800017408 u
  rw [show of64 4607182418800017408 = 4607182418800017408 by decide +kernel] at this
  exact this
 go_enter Tryz.func32,Tryz.ntmps32
 go_wp2_with (first | (go_at_call 84; refine (HO.out _).mono ?_; rintro e w1 ⟨rfl,rfl⟩))
 go_ret
 exact ⟨rfl,rfl⟩
theorem fromOne_32 (w : World) : Calls Tryz.prog 32 #[.int .i64 1,.int .i64 32] w fun e w' => e = .returned (.int .i64 1065353216) ∧ w = w':=by
 have h1 : floatOfInt .f32 1 = 1065353216:=by decide +kernel
 have HO : Hid (∀ u,Calls Tryz.prog 83 #[.float .f32 1065353216] u fun e w' => e = .returned (.int .i64 1065353216) ∧ u = w'):=fun u => by
  have:=of32_any 1065353216 u
  rw [show of32 1065353216 = 1065353216 by decide +kernel] at this
  exact this
 go_enter Tryz.func32,Tryz.ntmps32
 go_wp2_with (first | (go_at_call 83; refine (HO.out _).mono ?_; rintro e w1 ⟨rfl,rfl⟩))
 go_ret
 exact ⟨rfl,rfl⟩
end Go.Proofs.YtoflafgbbjinpaaGreatDoor
namespace Go.Proofs.YtoflafgbbjinpaaGreatDoor
open Go.ChangeShapes Go.WideShapes Go.ChangeAt Go.RowKit
set_option linter.unusedVariables false
set_option linter.unusedSimpArgs false
set_option maxHeartbeats 16000000
set_option maxRecDepth 100000
abbrev accC (ng : Bool) (s : Value) (x : Int) (p m z : Bool) : Array Value:=#[.bool ng,s,.int .i64 x,.bool p,.bool m,.bool z]
theorem acc_cells1 {w X : World} (ng : Bool) (s : Value) (x : Int) (p m z : Bool) (t : TypeId) (B : Nat) (hB : B = w.heap.size) (hX : Kept (w.alloc (.cells (accC ng s x p m z) t)) X) (u : World) (k : Kept X u) : u.cell? ⟨B,0,none⟩ = some (.bool ng) ∧ u.cell? ⟨B,1,none⟩ = some s ∧ u.cell? ⟨B,2,none⟩ = some (.int .i64 x) ∧ u.cell? ⟨B,3,none⟩ = some (.bool p) ∧ u.cell? ⟨B,4,none⟩ = some (.bool m) ∧ u.cell? ⟨B,5,none⟩ = some (.bool z):=by
 subst hB
 have kk:=hX.trans k
 refine ⟨?_,?_,?_,?_,?_,?_⟩
 all_goals exact (kk.below.cell (by simp)).trans (by simp [go_sem])
theorem acc_res1 {w X : World} (t : TypeId) (B : Nat) (hB : B = w.heap.size) (hX : Kept (w.alloc (.cells (accC false (.slice none 0 0) 0 false false false) t)) X) (u : World) (k : Kept X u) : u.cell? ⟨B,0,none⟩ = some (.bool false) ∧ u.cell? ⟨B,1,none⟩ = some (.slice none 0 0) ∧ u.cell? ⟨B,2,none⟩ = some (.int .i64 0) ∧ u.cell? ⟨B,3,none⟩ = some (.bool false) ∧ u.cell? ⟨B,4,none⟩ = some (.bool false) ∧ u.cell? ⟨B,5,none⟩ = some (.bool false) ∧ ∀ o,u.frozen? ⟨B,o,none⟩ = false:=by
 obtain ⟨c0,c1,c2,c3,c4,c5⟩:=acc_cells1 false (.slice none 0 0) 0 false false false t B hB hX u k
 exact ⟨c0,c1,c2,c3,c4,c5,fun o => ((hX.trans k).frozen _).trans (by rw [hB]; simp [go_sem])⟩
theorem new_six1 {w u w5 : World} {v : Value} {r : Nm} (B : Nat) (hB : w.heap.size ≤ B) (hN : New u w5 v r) (hlt : B < u.heap.size) (v0 v1 v2 v3 v4 v5 : Value) : New w ((((((w5.setCell ⟨B,0,none⟩ v0).setCell ⟨B,1,none⟩ v1).setCell ⟨B,2,none⟩ v2).setCell ⟨B,3,none⟩ v3).setCell ⟨B,4,none⟩ v4).setCell ⟨B,5,none⟩ v5) v r:=by
 rcases hN with h | ⟨g,cap,e,hg,ho,hne⟩
 ·exact .inl h
 ·have hgw : g ≠ B:=by omega
  exact .inr ⟨g,cap,e,by omega,(((((ho.setOther (by simpa using hgw) _).setOther (by simpa using hgw) _).setOther (by simpa using hgw) _).setOther (by simpa using hgw) _).setOther (by simpa using hgw) _).setOther (by simpa using hgw) _,hne⟩
theorem kept_six1 {w w5 : World} (B : Nat) (h : w.heap.size ≤ B) (k : Kept w w5) (v0 v1 v2 v3 v4 v5 : Value) : Kept w ((((((w5.setCell ⟨B,0,none⟩ v0).setCell ⟨B,1,none⟩ v1).setCell ⟨B,2,none⟩ v2).setCell ⟨B,3,none⟩ v3).setCell ⟨B,4,none⟩ v4).setCell ⟨B,5,none⟩ v5) :=
 (((((k.setCell (p:=⟨B,0,none⟩) h v0).setCell (p:=⟨B,1,none⟩) h v1).setCell (p:=⟨B,2,none⟩) h v2).setCell (p:=⟨B,3,none⟩) h v3).setCell (p:=⟨B,4,none⟩) h v4).setCell (p:=⟨B,5,none⟩) h v5
theorem addProduct_ok (n x y : Int) (ng : Bool) (ao : Option Addr) (l cap : Nat) (xx : Int) (p m z : Bool) (w : World) (Φ : List Value → List Int → Int → Int → Prop) (r2 r : Nm) (p2 m2 z2 P M Z : Bool) (f : Int)
  (KL : Hid (∀ q u,Kept w u → q < u.heap.size → u.cell? ⟨q,0,none⟩ = some (.int .i64 x) → u.cell? ⟨q,1,none⟩ = some (.int .i64 y) → Calls Tryz.prog 67 #[.int .i64 n,accV ng (.slice ao l cap) xx p m z,.slice (some ⟨q,0,none⟩) 2 2] u fun e w' => e = .returned (.int .i64 0) ∧ Kept u w'))
  (KA : Hid (∀ b u,MkAt u b acc0 n C0 141 0 → Calls Tryz.prog 69 #[.pointer (some ⟨b,0,none⟩),.int .i64 x,.int .i64 y] u fun e w' => e = .returned (.tuple #[]) ∧ (∃ fl C lo hi,MkAt w' b fl n C lo hi ∧ Φ fl C lo hi) ∧ Grw b u w'))
  (KT : Hid (∀ b u fl C lo hi,Kept w u → MkAt u b fl n C lo hi → Φ fl C lo hi → Calls Tryz.prog 70 #[.pointer (some ⟨b,0,none⟩)] u fun e w' => ∃ vn va vl vc vx,e = .returned (accV vn (.slice va vl vc) vx p2 m2 z2) ∧ New u w' (.agg #[.bool vn,.slice va vl vc,.int .i64 vx]) r2 ∧ Grw b u w'))
  (KM : Hid (∀ u (vn : Bool) va vl vc vx,Kept w u → vn = r2.neg → vl = r2.mag.length → vx = r2.exp → (va = none → vc = 0) → Sl u (.slice va vl vc) r2.mag → Calls Tryz.prog 29 #[accV ng (.slice ao l cap) xx p m z,accV vn (.slice va vl vc) vx p2 m2 z2] u fun e w' => ∃ un ua ul uc ux,e = .returned (.tuple #[accV un (.slice ua ul uc) ux P M Z,.int .i64 f]) ∧ New u w' (.agg #[.bool un,.slice ua ul uc,.int .i64 ux]) r ∧ Kept u w')) :
  Calls Tryz.prog 19 #[accV ng (.slice ao l cap) xx p m z,.int .i64 x,.int .i64 y,.int .i64 n] w fun e w' => ∃ un ua ul uc ux,e = .returned (.tuple #[accV un (.slice ua ul uc) ux P M Z,.int .i64 f]) ∧ New w w' (.agg #[.bool un,.slice ua ul uc,.int .i64 ux]) r ∧ Kept w w':=by
 have hst:=mk_store n
 obtain ⟨V,hV⟩ : ∃ V,V = (mkC acc0 n C0 141 0).toArray:=⟨_,rfl⟩
 have HM : Hid (∀ u : World,MkAt (u.alloc (.cells V 100)) u.heap.size acc0 n C0 141 0):=fun u => by rw [hV]; exact MkAt.new u acc0 n C0 141 0 rfl rfl
 have KB : Hid (∀ u,Calls Tryz.prog 68 #[.int .i64 n] u fun e w' => e = .returned (.agg V) ∧ Kept u w'):=fun u => by rw [hV]; exact begin_any n u
 have hVs : V.size = 150:=by rw [hV]; simpa using mk_size acc0 n C0 141 0 rfl rfl
 rw [← hV] at hst
 clear hV
 obtain ⟨X0,hX0⟩ : ∃ X,X = w.alloc (.cells #[.bool ng,.slice ao l cap,.int .i64 xx,.bool p,.bool m,.bool z] 26):=⟨_,rfl⟩
 obtain ⟨X,hX⟩ : ∃ X,X = (w.alloc (.cells #[.bool ng,.slice ao l cap,.int .i64 xx,.bool p,.bool m,.bool z] 26)).alloc (.cells #[.bool false,.slice none 0 0,.int .i64 0,.bool false,.bool false,.bool false] 26):=⟨_,rfl⟩
 have k0 : Kept w X:=by rw [hX]; exact ((Kept.refl w).alloc _ _).alloc _ _
 have k00 : Kept X0 X:=by rw [hX,hX0]; exact (Kept.refl _).alloc _ _
 have HXs : Hid (X.heap.size = w.heap.size + 2 ∧ X0.heap.size = w.heap.size + 1):=by rw [hX,hX0]; simp [Hid]
 have HS : Hid (∀ u,Kept X0 u → Kept X0 u ∧ u.cell? ⟨w.heap.size,0,none⟩ = some (.bool ng) ∧ u.cell? ⟨w.heap.size,1,none⟩ = some (.slice ao l cap) ∧ u.cell? ⟨w.heap.size,2,none⟩ = some (.int .i64 xx) ∧ u.cell? ⟨w.heap.size,3,none⟩ = some (.bool p) ∧ u.cell? ⟨w.heap.size,4,none⟩ = some (.bool m) ∧ u.cell? ⟨w.heap.size,5,none⟩ = some (.bool z)):=fun u k => ⟨k,acc_cells1 ng (.slice ao l cap) xx p m z 26 w.heap.size rfl (by rw [hX0]; exact Kept.refl _) u k⟩
 have HR : Hid (∀ u,Kept X u → _):=acc_res1 (w:=w.alloc (.cells #[.bool ng,.slice ao l cap,.int .i64 xx,.bool p,.bool m,.bool z] 26)) 26 (w.heap.size + 1) (by simp) (by rw [hX]; exact Kept.refl _)
 go_enter Tryz.func19,Tryz.ntmps19
 go_upto_region 1 with fail
 rw [← hX]
 clear hX hX0
 obtain ⟨-,c0,c1,c2,c3,c4,c5⟩:=HS.out _ k00
 go_wp2_with fail
 refine (KL.out _ _ (k0.alloc _ _) (by simp) (by simp [go_sem]) (by simp [go_sem])).mono ?_
 rintro e w1 ⟨rfl,k1⟩
 have kB1 : Kept X w1:=((Kept.refl X).alloc _ _).trans k1
 clear k1 KL c0 c1 c2 c3 c4 c5
 go_wp2_with fail
 refine (KB.out _).mono ?_
 rintro e w2 ⟨rfl,k2⟩
 have kB2 : Kept X w2:=kB1.trans k2
 clear kB1 k2 KB
 go_wp2_with fail
 obtain ⟨b,hb⟩ : ∃ b,b = w2.heap.size:=⟨_,rfl⟩
 obtain ⟨D,hD⟩ : ∃ D,D = w2.alloc (.cells V 100):=⟨_,rfl⟩
 have kD : Kept X D:=by rw [hD]; exact kB2.alloc _ _
 have hMD : MkAt D b acc0 n C0 141 0:=by rw [hD,hb]; exact HM.out _
 have hbB : X.heap.size ≤ b:=by rw [hb]; exact kB2.below.size
 rw [← hD,← hb]
 clear hD hb hst HM kB2 hVs
 refine (KA.out b D hMD).mono ?_
 rintro e w3 ⟨rfl,⟨fl,C,lo,hi,hM3,hΦ⟩,hg⟩
 have k3 : Kept X w3:=kD.grw hbB hg
 clear hMD hg kD KA
 have kd : Kept w3 w3.drew:=(Kept.refl w3).drew
 have KT1 : Hid (Calls Tryz.prog 70 #[.pointer (some ⟨b,0,none⟩)] w3.drew fun e w' => ∃ va vc,e = .returned (accV r2.neg (.slice va r2.mag.length vc) r2.exp p2 m2 z2) ∧ Hid ((va = none → vc = 0) ∧ Sl w' (.slice va r2.mag.length vc) r2.mag) ∧ Kept X w'):=by
  refine (KT.out b _ fl C lo hi ((k0.trans k3).trans kd) (hM3.kept kd) hΦ).mono ?_
  rintro e w' ⟨vn,va,vl,vc,vx,rfl,hN,hg⟩
  obtain ⟨rfl,rfl,rfl,e4,hs⟩:=hN.parts
  exact ⟨va,vc,rfl,⟨e4,hs⟩,(k3.trans kd).grw hbB hg⟩
 clear KT hM3 hΦ
 go_wp2_with fail
 go_region_held (fun u => Kept X0 u ∧ u.cell? ⟨w.heap.size,0,none⟩ = some (.bool ng) ∧ u.cell? ⟨w.heap.size,1,none⟩ = some (.slice ao l cap) ∧ u.cell? ⟨w.heap.size,2,none⟩ = some (.int .i64 xx) ∧ u.cell? ⟨w.heap.size,3,none⟩ = some (.bool p) ∧ u.cell? ⟨w.heap.size,4,none⟩ = some (.bool m) ∧ u.cell? ⟨w.heap.size,5,none⟩ = some (.bool z)) (first | with_reducible assumption | with_reducible exact HS.out _ (k00.trans (k3.trans kd)) | with_reducible exact HS.out _ (k00.trans k4) | with_reducible exact HS.out _ (k00.trans (k4.trans k5)) | with_reducible exact HS.out _ (kept_six1 (w.heap.size + 1) (by have:=HXs.out; omega) (k00.trans (k4.trans k5)) _ _ _ _ _ _)) (first | (go_at_call 70; refine KT1.out.mono ?_; rintro e w4 ⟨va,vc,rfl,hs4,k4⟩) | (go_at_call 29; refine (KM.out _ _ va _ vc _ (k0.trans k4) rfl rfl rfl hs4.out.1 hs4.out.2).mono ?_; rintro e w5 ⟨un,ua,ul,uc,ux,rfl,hN5,k5⟩; obtain ⟨r0,r1,r2',r3,r4,r5,r6⟩:=HR.out _ (k4.trans k5)))
 go_wp2_with fail
 refine bodyPost_ret (v:=.tuple #[accV un (.slice ua ul uc) ux P M Z,.int .i64 f]) (by simp [results,Tryz.results19,go_sem,r0,r1,r2',r3,r4,r5]) rfl ⟨un,ua,ul,uc,ux,rfl,?_,?_⟩
 ·exact new_six1 _ (by omega) hN5 (by have:=k4.below.size; have:=HXs.out; omega) _ _ _ _ _ _
 ·exact kept_six1 _ (by omega) (k0.trans (k4.trans k5)) _ _ _ _ _ _
theorem addOne_ok (n x one : Int) (ng : Bool) (ao : Option Addr) (l cap : Nat) (xx : Int) (p m z : Bool) (w : World) (r : Nm) (P M Z : Bool) (f : Int)
  (KF : Hid (∀ u,Calls Tryz.prog 32 #[.int .i64 1,.int .i64 n] u fun e w' => e = .returned (.int .i64 one) ∧ Kept u w'))
  (KP : Hid (∀ u,Kept w u → Calls Tryz.prog 19 #[accV ng (.slice ao l cap) xx p m z,.int .i64 x,.int .i64 one,.int .i64 n] u fun e w' => ∃ un ua ul uc ux,e = .returned (.tuple #[accV un (.slice ua ul uc) ux P M Z,.int .i64 f]) ∧ New u w' (.agg #[.bool un,.slice ua ul uc,.int .i64 ux]) r ∧ Kept u w')) :
  Calls Tryz.prog 28 #[accV ng (.slice ao l cap) xx p m z,.int .i64 x,.int .i64 n] w fun e w' => ∃ un ua ul uc ux,e = .returned (.tuple #[accV un (.slice ua ul uc) ux P M Z,.int .i64 f]) ∧ New w w' (.agg #[.bool un,.slice ua ul uc,.int .i64 ux]) r ∧ Kept w w':=by
 obtain ⟨X0,hX0⟩ : ∃ X,X = w.alloc (.cells #[.bool ng,.slice ao l cap,.int .i64 xx,.bool p,.bool m,.bool z] 26):=⟨_,rfl⟩
 obtain ⟨X,hX⟩ : ∃ X,X = (w.alloc (.cells #[.bool ng,.slice ao l cap,.int .i64 xx,.bool p,.bool m,.bool z] 26)).alloc (.cells #[.bool false,.slice none 0 0,.int .i64 0,.bool false,.bool false,.bool false] 26):=⟨_,rfl⟩
 have k0 : Kept w X:=by rw [hX]; exact ((Kept.refl w).alloc _ _).alloc _ _
 have k00 : Kept X0 X:=by rw [hX,hX0]; exact (Kept.refl _).alloc _ _
 have HXs : Hid (X.heap.size = w.heap.size + 2 ∧ X0.heap.size = w.heap.size + 1):=by rw [hX,hX0]; simp [Hid]
 have HS : Hid (∀ u,Kept X0 u → Kept X0 u ∧ u.cell? ⟨w.heap.size,0,none⟩ = some (.bool ng) ∧ u.cell? ⟨w.heap.size,1,none⟩ = some (.slice ao l cap) ∧ u.cell? ⟨w.heap.size,2,none⟩ = some (.int .i64 xx) ∧ u.cell? ⟨w.heap.size,3,none⟩ = some (.bool p) ∧ u.cell? ⟨w.heap.size,4,none⟩ = some (.bool m) ∧ u.cell? ⟨w.heap.size,5,none⟩ = some (.bool z)):=fun u k => ⟨k,acc_cells1 ng (.slice ao l cap) xx p m z 26 w.heap.size rfl (by rw [hX0]; exact Kept.refl _) u k⟩
 have HR : Hid (∀ u,Kept X u → _):=acc_res1 (w:=w.alloc (.cells #[.bool ng,.slice ao l cap,.int .i64 xx,.bool p,.bool m,.bool z] 26)) 26 (w.heap.size + 1) (by simp) (by rw [hX]; exact Kept.refl _)
 have kd : Kept X X.drew:=(Kept.refl X).drew
 go_enter Tryz.func28,Tryz.ntmps28
 go_upto_region 1 with fail
 rw [← hX]
 clear hX hX0
 go_region_held (fun u => Kept X0 u ∧ u.cell? ⟨w.heap.size,0,none⟩ = some (.bool ng) ∧ u.cell? ⟨w.heap.size,1,none⟩ = some (.slice ao l cap) ∧ u.cell? ⟨w.heap.size,2,none⟩ = some (.int .i64 xx) ∧ u.cell? ⟨w.heap.size,3,none⟩ = some (.bool p) ∧ u.cell? ⟨w.heap.size,4,none⟩ = some (.bool m) ∧ u.cell? ⟨w.heap.size,5,none⟩ = some (.bool z)) (first | with_reducible assumption | with_reducible exact HS.out _ (k00.trans kd) | with_reducible exact HS.out _ (k00.trans (kd.trans k4)) | with_reducible exact HS.out _ (k00.trans ((kd.trans k4).trans k5)) | with_reducible exact HS.out _ (kept_six1 (w.heap.size + 1) (by have:=HXs.out; omega) (k00.trans ((kd.trans k4).trans k5)) _ _ _ _ _ _)) (first | (go_at_call 32; refine (KF.out _).mono ?_; rintro e w4 ⟨rfl,k4⟩) | (go_at_call 19; refine (KP.out _ ((k0.trans kd).trans k4)).mono ?_; rintro e w5 ⟨un,ua,ul,uc,ux,rfl,hN5,k5⟩; obtain ⟨r0,r1,r2',r3,r4,r5,r6⟩:=HR.out _ ((kd.trans k4).trans k5)))
 go_wp2_with fail
 refine bodyPost_ret (v:=.tuple #[accV un (.slice ua ul uc) ux P M Z,.int .i64 f]) (by simp [results,Tryz.results28,go_sem,r0,r1,r2',r3,r4,r5]) rfl ⟨un,ua,ul,uc,ux,rfl,?_,?_⟩
 ·exact new_six1 _ (by omega) hN5 (by have:=(kd.trans k4).below.size; have:=HXs.out; omega) _ _ _ _ _ _
 ·exact kept_six1 _ (by omega) (k0.trans ((kd.trans k4).trans k5)) _ _ _ _ _ _
abbrev kind64 : Value:=.agg #[.int .i64 64,.int .i64 53,.int .i64 (-1074),.int .i64 9218868437227405312]
theorem kindOf_64 (w : World) : Calls Tryz.prog 58 #[.int .i64 64] w fun e w' => e = .returned (.tuple #[kind64,.bool true]) ∧ Kept w w':=by
 go_enter Tryz.func58,Tryz.ntmps58
 go_wp2
 exact bodyPost_ret (v:=.tuple #[kind64,.bool true]) (by simp [results,Tryz.results58,go_sem]) rfl ⟨rfl,(Kept.refl _).alloc _ _⟩
theorem ways_any (w : World) : Calls Tryz.prog 118 #[] w fun e w' => e = .returned (.agg #[.func (.func 153) #[] #[],.func (.func 154) #[] #[],.func (.func 155) #[] #[]]) ∧ Kept w w':=by
 go_enter Tryz.func118,Tryz.ntmps118
 go_wp2
 refine bodyPost_ret (v:=.agg #[.func (.func 153) #[] #[],.func (.func 154) #[] #[],.func (.func 155) #[] #[]]) (by simp [results,Tryz.results118,go_sem]) rfl ⟨rfl,(Kept.refl _).alloc _ _⟩
theorem index_ways (a b c : Value) (w : World) : (Instr.index 148 (.agg #[a,b,c]) (.int .i64 0)).run Tryz.prog w = .ok (.agg #[a]) w:=by
 kernel_rfl
theorem set5 (u : World) (b c o : Nat) (h : c ≠ b) (v0 v1 v2 v3 v4 : Value) : (((((u.setCell ⟨b,0,none⟩ v0).setCell ⟨b,1,none⟩ v1).setCell ⟨b,2,none⟩ v2).setCell ⟨b,3,none⟩ v3).setCell ⟨b,4,none⟩ v4).cell? ⟨c,o,none⟩ = u.cell? ⟨c,o,none⟩ :=
 World.cell?_of_block (a:=⟨c,o,none⟩) ((Below.heap_setCell _ _ _ c h).trans ((Below.heap_setCell _ _ _ c h).trans ((Below.heap_setCell _ _ _ c h).trans ((Below.heap_setCell _ _ _ c h).trans (Below.heap_setCell _ _ _ c h)))))
abbrev nilRound : Obj:=.cells #[.int .i64 0,.int .i64 0,.int .i64 0,.int .i64 0,.nilFunc] 109
end Go.Proofs.YtoflafgbbjinpaaGreatDoor
