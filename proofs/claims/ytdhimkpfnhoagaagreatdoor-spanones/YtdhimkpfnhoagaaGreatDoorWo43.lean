/- The document's own quot and Quot. The document's own root and Root. Where roundingOf refuses: a width,a way,a number that is none; Round,Quot,Root with it. What exact's Round,Quot and Root answer in all cases. -/
import Derived.Test.YtdhimkpfnhoagaaGreatDoorWo42
import Derived.Test.YtdhimkpfnhoagaaGreatDoorWo39
import Derived.Test.YtdhimkpfnhoagaaGreatDoorWo09
import Derived.Test.YtdhimkpfnhoagaaGreatDoorWo11
import Derived.Test.YtdhimkpfnhoagaaGreatDoorWo38
namespace Go.Proofs.YtdhimkpfnhoagaaGreatDoor
open Go.ChangeShapes Go.WideShapes Go.ChangeAt Go.RowKit
set_option linter.unusedVariables false
set_option linter.unusedSimpArgs false
set_option maxHeartbeats 16000000
set_option maxRecDepth 100000
theorem len_pos (r : Nat) : decide (0 < (digs r).length) = decide (r ≠ 0):=by
 apply decide_eq_decide.2
 constructor
 ·intro h h0
  rw [h0,digs_zero] at h
  simp at h
 ·intro h
  have : (digs r).length ≠ 0:=fun g => h (digs_len0 r g)
  omega
theorem rquot_any (k0 p k2 k3 k4 k5 k6 k7 k8 : Int) (hp : 0 ≤ p ∧ p ≤ 64) (A B : Nat) (hA0 : A ≠ 0) (hB0 : B ≠ 0) (ga gb : Bool) (xa xb : Int) (hxa : -1048576 ≤ xa ∧ xa ≤ 1048576) (hxb : -1048576 ≤ xb ∧ xb ≤ 1048576) (va vb : Value) (w : World) (hLa : RL w va (digs A)) (hLb : RL w vb (digs B)) (la : (digs A).length ≤ 2000) (lb : (digs B).length ≤ 2000) (s : Nat) (hs : (s : Int) = max 0 ((bl B : Int) - (bl A : Int) + p + 2)) : Calls Tryz.prog 197 #[.agg #[.int .i64 k0,.int .i64 p,.int .i64 k2,.int .i64 k3,.int .i64 k4,.int .i64 k5,.int .i64 k6,.int .i64 k7,.int .i64 k8],.agg #[.bool ga,va,.int .i64 xa],.agg #[.bool gb,vb,.int .i64 xb]] w fun e w' => ∃ r1,e = .returned (.tuple #[r1,.int .i64 (xa - xb - s),.bool (decide (A * 2 ^ s % B ≠ 0))]) ∧ RL w' r1 (digs (A * 2 ^ s / B)) ∧ Kept w w':=by
 have hTa : bl A ≤ 60000:=by
  have:=bl_le A (30 * (digs A).length) (digs_lt A _ (Nat.le_refl _))
  omega
 have hTb : bl B ≤ 60000:=by
  have:=bl_le B (30 * (digs B).length) (digs_lt B _ (Nat.le_refl _))
  omega
 have hs9 : s ≤ 70000:=by omega
 have hAs : (digs (A * 2 ^ s)).length < 20000:=by
  have h1:=digs_lt A _ (Nat.le_refl (digs A).length)
  obtain ⟨z,hz⟩ : ∃ z : Nat,z = 3000:=⟨_,rfl⟩
  have h2 : 2 ^ s ≤ 2 ^ (30 * z):=Nat.pow_le_pow_right (by omega) (by omega)
  have h3 : A * 2 ^ s < 2 ^ (30 * ((digs A).length + z)):=by
   rw [Nat.mul_add,Nat.pow_add]
   exact Nat.mul_lt_mul_of_lt_of_le h1 h2 (Nat.two_pow_pos _)
  have:=digs_length_le _ _ h3
  omega
 have hbs : bl B ≤ bl (A * 2 ^ s):=by rw [bl_mul A s hA0]; omega
 have KB : Hid (∀ v x Y,RL v x (digs Y) → (digs Y).length ≤ 2000 → Calls Tryz.prog 200 #[x] v fun e w' => e = .returned (.int .i64 (bl Y : Int)) ∧ v = w'):=fun v x Y hx hl => natBits_any v Y x hx (by omega)
 have KSh : Hid (∀ v,Kept w v → Calls Tryz.prog 178 #[va,.int .i64 (s : Int)] v fun e w' => (∃ r,e = .returned r ∧ RL w' r (digs (A * 2 ^ s))) ∧ Kept v w'):=fun v kv => by
  refine (natShl_any v A s va (hLa.kept kv) (by omega) (by omega)).mono ?_
  rintro e w' ⟨⟨r,rfl,hr⟩,hk⟩
  exact ⟨⟨r,rfl,hr.rl⟩,hk⟩
 have KD : Hid (∀ v r,Kept w v → RL v r (digs (A * 2 ^ s)) → Calls Tryz.prog 201 #[r,vb] v fun e w' => ∃ r1 n2 a2 c2,e = .returned (.tuple #[r1,.slice a2 n2 c2]) ∧ RL w' r1 (digs (A * 2 ^ s / B)) ∧ (decide (0 < n2) = decide (A * 2 ^ s % B ≠ 0)) ∧ Kept v w'):=fun v r kv hr => by
  refine (natDiv_any v _ B r vb hr (hLb.kept kv) hB0 hbs hAs (by omega)).mono ?_
  rintro e w' ⟨r1,r2,rfl,h1,h2,h3⟩
  obtain ⟨ao,c,rfl,-⟩:=h2
  exact ⟨r1,_,ao,c,rfl,h1,len_pos _,h3⟩
 have HLa : Hid (∀ v,Kept w v → RL v va (digs A)):=fun v kv => hLa.kept kv
 have HLb : Hid (∀ v,Kept w v → RL v vb (digs B)):=fun v kv => hLb.kept kv
 obtain ⟨aa,an,ac,rfl⟩ : ∃ sa sn sc,va = .slice sa sn sc:=by
  obtain ⟨ao,c,h,-⟩:=hLa
  exact ⟨ao,_,c,h⟩
 obtain ⟨ba,bn,bc,rfl⟩ : ∃ sa sn sc,vb = .slice sa sn sc:=by
  obtain ⟨ao,c,h,-⟩:=hLb
  exact ⟨ao,_,c,h⟩
 obtain ⟨X,hX⟩ : ∃ X,X = ((w.alloc (.cells #[.int .i64 k0,.int .i64 p,.int .i64 k2,.int .i64 k3,.int .i64 k4,.int .i64 k5,.int .i64 k6,.int .i64 k7,.int .i64 k8] 176)).alloc (.cells #[.bool ga,.slice aa an ac,.int .i64 xa] 26)).alloc (.cells #[.bool gb,.slice ba bn bc,.int .i64 xb] 26):=⟨_,rfl⟩
 have hK : Kept w X:=by rw [hX]; exact (((Kept.refl w).alloc _ _).alloc _ _).alloc _ _
 have HS : Hid (∀ u,Kept X u → Kept X u ∧ u.cell? ⟨w.heap.size,1,none⟩ = some (.int .i64 p) ∧ u.cell? ⟨w.heap.size + 1,0,none⟩ = some (.bool ga) ∧ u.cell? ⟨w.heap.size + 1,1,none⟩ = some (.slice aa an ac) ∧ u.cell? ⟨w.heap.size + 1,2,none⟩ = some (.int .i64 xa) ∧ u.cell? ⟨w.heap.size + 2,0,none⟩ = some (.bool gb) ∧ u.cell? ⟨w.heap.size + 2,1,none⟩ = some (.slice ba bn bc) ∧ u.cell? ⟨w.heap.size + 2,2,none⟩ = some (.int .i64 xb)):=fun u ku => by
  have hb0 : w.heap.size < X.heap.size:=by rw [hX]; simp [go_sem]
  have hb1 : w.heap.size + 1 < X.heap.size:=by rw [hX]; simp [go_sem]
  have hb2 : w.heap.size + 2 < X.heap.size:=by rw [hX]; simp [go_sem]
  refine ⟨ku,(ku.below.cell (p:=⟨w.heap.size,1,none⟩) hb0).trans ?_,(ku.below.cell (p:=⟨w.heap.size + 1,0,none⟩) hb1).trans ?_,(ku.below.cell (p:=⟨w.heap.size + 1,1,none⟩) hb1).trans ?_,(ku.below.cell (p:=⟨w.heap.size + 1,2,none⟩) hb1).trans ?_,(ku.below.cell (p:=⟨w.heap.size + 2,0,none⟩) hb2).trans ?_,(ku.below.cell (p:=⟨w.heap.size + 2,1,none⟩) hb2).trans ?_,(ku.below.cell (p:=⟨w.heap.size + 2,2,none⟩) hb2).trans ?_⟩
  all_goals
   rw [hX]
   simp [go_sem]
 have kd:=(Kept.refl X).drew
 have hsm : max 0 ((bl B : Int) - (bl A : Int) + p + 2) = (s : Int):=hs.symm
 have q1 : IntKind.i64.wrap ((bl B : Int) - (bl A : Int)) = (bl B : Int) - (bl A : Int):=by rw [wrap_i64]; omega
 have q2 : IntKind.i64.wrap ((bl B : Int) - (bl A : Int) + p) = (bl B : Int) - (bl A : Int) + p:=by rw [wrap_i64]; omega
 have q3 : IntKind.i64.wrap ((bl B : Int) - (bl A : Int) + p + 2) = (bl B : Int) - (bl A : Int) + p + 2:=by rw [wrap_i64]; omega
 have q4 : IntKind.i64.wrap (xa - xb) = xa - xb:=by rw [wrap_i64]; omega
 have q5 : IntKind.i64.wrap (xa - xb - (s : Int)) = xa - xb - s:=by rw [wrap_i64]; omega
 clear hs hLa hLb hAs hbs hA0 hB0
 go_enter Tryz.func197,Tryz.ntmps197
 go_upto_region 1 with fail
 rw [← hX]
 clear hX
 go_region_held (fun u => Kept X u ∧ u.cell? ⟨w.heap.size,1,none⟩ = some (.int .i64 p) ∧ u.cell? ⟨w.heap.size + 1,0,none⟩ = some (.bool ga) ∧ u.cell? ⟨w.heap.size + 1,1,none⟩ = some (.slice aa an ac) ∧ u.cell? ⟨w.heap.size + 1,2,none⟩ = some (.int .i64 xa) ∧ u.cell? ⟨w.heap.size + 2,0,none⟩ = some (.bool gb) ∧ u.cell? ⟨w.heap.size + 2,1,none⟩ = some (.slice ba bn bc) ∧ u.cell? ⟨w.heap.size + 2,2,none⟩ = some (.int .i64 xb)) (first | assumption | exact HS.out _ kd | exact HS.out _ (by assumption)) (first | (go_at_call 200; refine (KB.out _ _ _ (by first | exact HLa.out _ (hK.trans (by first | exact kd | assumption)) | exact HLb.out _ (hK.trans (by first | exact kd | assumption))) (by first | exact la | exact lb)).mono ?_; rintro e w1 ⟨rfl,rfl⟩))
 clear q1 q2 q3 hsm KB
 replace kd:=kd.drew
 go_upto_region 2 with fail
 go_region_held (fun u => Kept X u ∧ u.cell? ⟨w.heap.size,1,none⟩ = some (.int .i64 p) ∧ u.cell? ⟨w.heap.size + 1,0,none⟩ = some (.bool ga) ∧ u.cell? ⟨w.heap.size + 1,1,none⟩ = some (.slice aa an ac) ∧ u.cell? ⟨w.heap.size + 1,2,none⟩ = some (.int .i64 xa) ∧ u.cell? ⟨w.heap.size + 2,0,none⟩ = some (.bool gb) ∧ u.cell? ⟨w.heap.size + 2,1,none⟩ = some (.slice ba bn bc) ∧ u.cell? ⟨w.heap.size + 2,2,none⟩ = some (.int .i64 xb)) (first | assumption | exact HS.out _ kd | exact HS.out _ (by assumption)) (first | (go_at_call 178; refine (KSh.out _ (hK.trans (by first | exact kd | assumption))).mono ?_; rintro e w2 ⟨⟨r2,rfl,hr2⟩,k2⟩; replace kd:=kd.trans k2) | (go_at_call 201; refine (KD.out _ _ (hK.trans (by first | exact kd | assumption)) hr2).mono ?_; rintro e w3 ⟨r3,n4,a4,c4,rfl,hr3,hr4,k3⟩; replace kd:=kd.trans k3; replace hr3:=hr3))
 have hr5:=hr3.kept (Kept.refl w3).drew
 replace kd:=kd.drew
 obtain ⟨-,-,m0,m1,m2,m3,m4,m5⟩:=HS.out _ kd
 go_upto_region 3 with fail
 go_region
 go_wp2_with fail
 exact bodyPost_ret (v:=.tuple #[r3,.int .i64 (xa - xb - s),.bool (decide (A * 2 ^ s % B ≠ 0))]) (by simp [results,Tryz.results197,go_sem]) rfl ⟨r3,rfl,hr5,hK.trans kd⟩
theorem rQuot_any (k0 p k2 k3 k4 k5 k6 k7 k8 : Int) (hp : 0 ≤ p ∧ p ≤ 64) (A B : Nat) (hA0 : A ≠ 0) (hB0 : B ≠ 0) (ga gb : Bool) (xa xb : Int) (hxa : -1048576 ≤ xa ∧ xa ≤ 1048576) (hxb : -1048576 ≤ xb ∧ xb ≤ 1048576) (va vb : Value) (w : World) (hLa : RL w va (digs A)) (hLb : RL w vb (digs B)) (la : (digs A).length ≤ 2000) (lb : (digs B).length ≤ 2000) (s : Nat) (hs : (s : Int) = max 0 ((bl B : Int) - (bl A : Int) + p + 2)) (way b0 b1 : Int) (od : Bool) (HC : Hid (∀ v r1,RL v r1 (digs (A * 2 ^ s / B)) → Calls Tryz.prog 199 #[.agg #[.int .i64 k0,.int .i64 p,.int .i64 k2,.int .i64 k3,.int .i64 k4,.int .i64 k5,.int .i64 k6,.int .i64 k7,.int .i64 k8],.bool (ga != gb),r1,.int .i64 (xa - xb - s),.bool (decide (A * 2 ^ s % B ≠ 0)),.int .i64 way] v fun e w' => e = .returned (.tuple #[.int .i64 b0,.bool od]) ∧ Kept v w')) (HT : Hid (∀ v,Calls Tryz.prog 198 #[.agg #[.int .i64 k0,.int .i64 p,.int .i64 k2,.int .i64 k3,.int .i64 k4,.int .i64 k5,.int .i64 k6,.int .i64 k7,.int .i64 k8],.int .i64 b0,.bool od] v fun e w' => e = .returned (.tuple #[.int .i64 b1,.bool od]) ∧ Kept v w')) : Calls Tryz.prog 196 #[.agg #[.int .i64 k0,.int .i64 p,.int .i64 k2,.int .i64 k3,.int .i64 k4,.int .i64 k5,.int .i64 k6,.int .i64 k7,.int .i64 k8],.agg #[.bool ga,va,.int .i64 xa],.agg #[.bool gb,vb,.int .i64 xb],.int .i64 way] w fun e w' => e = .returned (.tuple #[.int .i64 b1,.bool od]) ∧ Kept w w':=by
 have KQ : Hid (∀ v,Kept w v → Calls Tryz.prog 197 #[.agg #[.int .i64 k0,.int .i64 p,.int .i64 k2,.int .i64 k3,.int .i64 k4,.int .i64 k5,.int .i64 k6,.int .i64 k7,.int .i64 k8],.agg #[.bool ga,va,.int .i64 xa],.agg #[.bool gb,vb,.int .i64 xb]] v fun e w' => ∃ r1,e = .returned (.tuple #[r1,.int .i64 (xa - xb - s),.bool (decide (A * 2 ^ s % B ≠ 0))]) ∧ RL w' r1 (digs (A * 2 ^ s / B)) ∧ Kept v w'):=fun v kv => rquot_any k0 p k2 k3 k4 k5 k6 k7 k8 hp A B hA0 hB0 ga gb xa xb hxa hxb va vb v (hLa.kept kv) (hLb.kept kv) la lb s hs
 generalize A * 2 ^ s / B = Q at *
 generalize decide (A * 2 ^ s % B ≠ 0) = mo at *
 generalize xa - xb - (s : Int) = ex at *
 have hne : ¬ (digs A).length = 0:=fun h => hA0 (digs_len0 A h)
 obtain ⟨aa,ac,rfl,-⟩:=hLa
 obtain ⟨an,han⟩ : ∃ an,(digs A).length = an:=⟨_,rfl⟩
 rw [han] at KQ hne ⊢
 obtain ⟨ba,bn,bc,rfl⟩ : ∃ sa sn sc,vb = .slice sa sn sc:=by
  obtain ⟨ao,c,h,-⟩:=hLb
  exact ⟨ao,_,c,h⟩
 obtain ⟨X,hX⟩ : ∃ X,X = ((w.alloc (.cells #[.int .i64 k0,.int .i64 p,.int .i64 k2,.int .i64 k3,.int .i64 k4,.int .i64 k5,.int .i64 k6,.int .i64 k7,.int .i64 k8] 176)).alloc (.cells #[.bool ga,.slice aa an ac,.int .i64 xa] 26)).alloc (.cells #[.bool gb,.slice ba bn bc,.int .i64 xb] 26):=⟨_,rfl⟩
 have hK : Kept w X:=by rw [hX]; exact (((Kept.refl w).alloc _ _).alloc _ _).alloc _ _
 have HS : Hid (∀ u,Kept X u → Kept X u ∧ u.cell? ⟨w.heap.size,0,none⟩ = some (.int .i64 k0) ∧ u.cell? ⟨w.heap.size,1,none⟩ = some (.int .i64 p) ∧ u.cell? ⟨w.heap.size,2,none⟩ = some (.int .i64 k2) ∧ u.cell? ⟨w.heap.size,3,none⟩ = some (.int .i64 k3) ∧ u.cell? ⟨w.heap.size,4,none⟩ = some (.int .i64 k4) ∧ u.cell? ⟨w.heap.size,5,none⟩ = some (.int .i64 k5) ∧ u.cell? ⟨w.heap.size,6,none⟩ = some (.int .i64 k6) ∧ u.cell? ⟨w.heap.size,7,none⟩ = some (.int .i64 k7) ∧ u.cell? ⟨w.heap.size,8,none⟩ = some (.int .i64 k8) ∧ u.cell? ⟨w.heap.size + 1,0,none⟩ = some (.bool ga) ∧ u.cell? ⟨w.heap.size + 1,1,none⟩ = some (.slice aa an ac) ∧ u.cell? ⟨w.heap.size + 1,2,none⟩ = some (.int .i64 xa) ∧ u.cell? ⟨w.heap.size + 2,0,none⟩ = some (.bool gb) ∧ u.cell? ⟨w.heap.size + 2,1,none⟩ = some (.slice ba bn bc) ∧ u.cell? ⟨w.heap.size + 2,2,none⟩ = some (.int .i64 xb)):=fun u ku => by
  have hb0 : w.heap.size < X.heap.size:=by rw [hX]; simp [go_sem]
  have hb1 : w.heap.size + 1 < X.heap.size:=by rw [hX]; simp [go_sem]
  have hb2 : w.heap.size + 2 < X.heap.size:=by rw [hX]; simp [go_sem]
  refine ⟨ku,(ku.below.cell (p:=⟨w.heap.size,0,none⟩) hb0).trans ?_,(ku.below.cell (p:=⟨w.heap.size,1,none⟩) hb0).trans ?_,(ku.below.cell (p:=⟨w.heap.size,2,none⟩) hb0).trans ?_,(ku.below.cell (p:=⟨w.heap.size,3,none⟩) hb0).trans ?_,(ku.below.cell (p:=⟨w.heap.size,4,none⟩) hb0).trans ?_,(ku.below.cell (p:=⟨w.heap.size,5,none⟩) hb0).trans ?_,(ku.below.cell (p:=⟨w.heap.size,6,none⟩) hb0).trans ?_,(ku.below.cell (p:=⟨w.heap.size,7,none⟩) hb0).trans ?_,(ku.below.cell (p:=⟨w.heap.size,8,none⟩) hb0).trans ?_,(ku.below.cell (p:=⟨w.heap.size + 1,0,none⟩) hb1).trans ?_,(ku.below.cell (p:=⟨w.heap.size + 1,1,none⟩) hb1).trans ?_,(ku.below.cell (p:=⟨w.heap.size + 1,2,none⟩) hb1).trans ?_,(ku.below.cell (p:=⟨w.heap.size + 2,0,none⟩) hb2).trans ?_,(ku.below.cell (p:=⟨w.heap.size + 2,1,none⟩) hb2).trans ?_,(ku.below.cell (p:=⟨w.heap.size + 2,2,none⟩) hb2).trans ?_⟩
  all_goals
   rw [hX]
   simp [go_sem]
 have kd:=Kept.refl X
 obtain ⟨-,x0,x1,x2,x3,x4,x5,x6,x7,x8,y0,y1,y2,z0,z1,z2⟩:=HS.out _ kd
 have he : (((an : Int)) == 0) = false:=by simpa using hne
 go_enter Tryz.func196,Tryz.ntmps196
 go_upto_region 1 with fail
 rw [← hX]
 clear hX
 go_upto_region 4 with (first | (go_at_call 197; refine (KQ.out _ hK).mono ?_; rintro e w1 ⟨r1,rfl,hr1,kw1⟩; replace kd:=kd.trans kw1))
 replace kd:=kd.drew
 have hr2:=hr1.kept (Kept.refl w1).drew
 clear x0 x1 x2 x3 x4 x5 x6 x7 x8 y0 y1 y2 z0 z1 z2
 go_region_held (fun u => Kept X u ∧ u.cell? ⟨w.heap.size,0,none⟩ = some (.int .i64 k0) ∧ u.cell? ⟨w.heap.size,1,none⟩ = some (.int .i64 p) ∧ u.cell? ⟨w.heap.size,2,none⟩ = some (.int .i64 k2) ∧ u.cell? ⟨w.heap.size,3,none⟩ = some (.int .i64 k3) ∧ u.cell? ⟨w.heap.size,4,none⟩ = some (.int .i64 k4) ∧ u.cell? ⟨w.heap.size,5,none⟩ = some (.int .i64 k5) ∧ u.cell? ⟨w.heap.size,6,none⟩ = some (.int .i64 k6) ∧ u.cell? ⟨w.heap.size,7,none⟩ = some (.int .i64 k7) ∧ u.cell? ⟨w.heap.size,8,none⟩ = some (.int .i64 k8) ∧ u.cell? ⟨w.heap.size + 1,0,none⟩ = some (.bool ga) ∧ u.cell? ⟨w.heap.size + 1,1,none⟩ = some (.slice aa an ac) ∧ u.cell? ⟨w.heap.size + 1,2,none⟩ = some (.int .i64 xa) ∧ u.cell? ⟨w.heap.size + 2,0,none⟩ = some (.bool gb) ∧ u.cell? ⟨w.heap.size + 2,1,none⟩ = some (.slice ba bn bc) ∧ u.cell? ⟨w.heap.size + 2,2,none⟩ = some (.int .i64 xb)) (first | assumption | exact HS.out _ kd | exact HS.out _ (by assumption)) (first | (go_at_call 199; refine (HC.out _ _ hr2).mono ?_; rintro e w2 ⟨rfl,hk2⟩; replace kd:=kd.trans hk2) | (go_at_call 198; refine (HT.out _).mono ?_; rintro e w3 ⟨rfl,hk3⟩; replace kd:=kd.trans hk3))
 go_wp2_with fail
 go_ret2
 exact ⟨rfl,hK.trans kd⟩
theorem rQuot_nil (k : Value) (k0 p k2 k3 k4 k5 k6 k7 k8 : Int) (hk : k = .agg #[.int .i64 k0,.int .i64 p,.int .i64 k2,.int .i64 k3,.int .i64 k4,.int .i64 k5,.int .i64 k6,.int .i64 k7,.int .i64 k8]) (ga : Bool) (aa : Option Addr) (ac : Nat) (xa : Int) (gb : Bool) (ba : Option Addr) (bn bc : Nat) (xb way : Int) (w : World) : Calls Tryz.prog 196 #[k,.agg #[.bool ga,.slice aa 0 ac,.int .i64 xa],.agg #[.bool gb,.slice ba bn bc,.int .i64 xb],.int .i64 way] w fun e w' => e = .returned (.tuple #[.int .i64 0,.bool false]) ∧ Kept w w':=by
 subst hk
 go_enter Tryz.func196,Tryz.ntmps196
 go_wp2
 go_ret2
 exact ⟨rfl,(((Kept.refl w).alloc _ _).alloc _ _).alloc _ _⟩
def FE (n way : Int) (ok : Bool) : Int:=if n = 64 ∨ n = 32 then (if way < 0 ∨ 2 < way then 1 else if ok = true then 0 else 7) else 3
abbrev zround : Value:=.agg #[.int .i64 0,.int .i64 0,.int .i64 0,.int .i64 0,.nilFunc]
theorem roundingOf_w (n way : Int) (h1 : (n == 32) = false) (h2 : (n == 64) = false) (given : Value) (w : World) : Calls Tryz.prog 80 #[.int .i64 n,.int .i64 way,given] w fun e w' => e = .returned (.tuple #[zround,.int .i64 3]) ∧ Kept w w':=by
 have hK : Kept w (w.alloc nilRound):=(Kept.refl w).alloc _ _
 have HR : Hid (∀ u,Kept (w.alloc nilRound) u → (u.cell? ⟨w.heap.size,0,none⟩ = some (.int .i64 0) ∧ u.cell? ⟨w.heap.size,1,none⟩ = some (.int .i64 0) ∧ u.cell? ⟨w.heap.size,2,none⟩ = some (.int .i64 0) ∧ u.cell? ⟨w.heap.size,3,none⟩ = some (.int .i64 0) ∧ u.cell? ⟨w.heap.size,4,none⟩ = some .nilFunc) ∧ ∀ o,u.frozen? ⟨w.heap.size,o,none⟩ = false):=fun u k => ⟨⟨(laid_cell k 0).trans (by simp [go_sem]),(laid_cell k 1).trans (by simp [go_sem]),(laid_cell k 2).trans (by simp [go_sem]),(laid_cell k 3).trans (by simp [go_sem]),(laid_cell k 4).trans (by simp [go_sem])⟩,fun o => (k.frozen _).trans (by simp [go_sem])⟩
 go_enter Tryz.func80,Tryz.ntmps80
 go_wp2_with ((go_at_call 103; refine (kindOf_0 n h1 h2 _).mono ?_; rintro e w1 ⟨rfl,hk1⟩; obtain ⟨⟨r0,r1,r2,r3,r4⟩,rf⟩:=HR.out _ (hk1.alloc #[.int .i64 0,.int .i64 0,.int .i64 0,.int .i64 0] 104)))
 exact bodyPost_ret (v:=.tuple #[zround,.int .i64 3]) (by simp [results,Tryz.results80,go_sem,r0,r1,r2,r3,r4]) rfl ⟨rfl,(hK.trans (hk1.alloc _ _)) |>.setCell (by simp) _ |>.setCell (by simp) _ |>.setCell (by simp) _ |>.setCell (by simp) _ |>.setCell (by simp) _⟩
theorem roundingOf_y1 (n way : Int) (hn : n = 64 ∨ n = 32) (h1 : decide (way < 0) = true) (given : Value) (w : World) : Calls Tryz.prog 80 #[.int .i64 n,.int .i64 way,given] w fun e w' => e = .returned (.tuple #[zround,.int .i64 1]) ∧ Kept w w':=by
 have hK : Kept w (w.alloc nilRound):=(Kept.refl w).alloc _ _
 have HR : Hid (∀ u,Kept (w.alloc nilRound) u → (u.cell? ⟨w.heap.size,0,none⟩ = some (.int .i64 0) ∧ u.cell? ⟨w.heap.size,1,none⟩ = some (.int .i64 0) ∧ u.cell? ⟨w.heap.size,2,none⟩ = some (.int .i64 0) ∧ u.cell? ⟨w.heap.size,3,none⟩ = some (.int .i64 0) ∧ u.cell? ⟨w.heap.size,4,none⟩ = some .nilFunc) ∧ ∀ o,u.frozen? ⟨w.heap.size,o,none⟩ = false):=fun u k => ⟨⟨(laid_cell k 0).trans (by simp [go_sem]),(laid_cell k 1).trans (by simp [go_sem]),(laid_cell k 2).trans (by simp [go_sem]),(laid_cell k 3).trans (by simp [go_sem]),(laid_cell k 4).trans (by simp [go_sem])⟩,fun o => (k.frozen _).trans (by simp [go_sem])⟩
 go_enter Tryz.func80,Tryz.ntmps80
 go_wp2_with ((go_at_call 103; refine (kindOf_ok n hn _).mono ?_; rintro e w1 ⟨rfl,hk1⟩; obtain ⟨⟨r0,r1,r2,r3,r4⟩,rf⟩:=HR.out _ (hk1.alloc #[.int .i64 n,.int .i64 (kprec n),.int .i64 (kleast n),.int .i64 (kinf n)] 104)))
 exact bodyPost_ret (v:=.tuple #[zround,.int .i64 1]) (by simp [results,Tryz.results80,go_sem,r0,r1,r2,r3,r4]) rfl ⟨rfl,(hK.trans (hk1.alloc _ _)) |>.setCell (by simp) _ |>.setCell (by simp) _ |>.setCell (by simp) _ |>.setCell (by simp) _ |>.setCell (by simp) _⟩
theorem roundingOf_y2 (n way : Int) (hn : n = 64 ∨ n = 32) (h1 : decide (way < 0) = false) (h2 : decide (2 < way) = true) (given : Value) (w : World) : Calls Tryz.prog 80 #[.int .i64 n,.int .i64 way,given] w fun e w' => e = .returned (.tuple #[zround,.int .i64 1]) ∧ Kept w w':=by
 have hK : Kept w (w.alloc nilRound):=(Kept.refl w).alloc _ _
 have HR : Hid (∀ u,Kept (w.alloc nilRound) u → (u.cell? ⟨w.heap.size,0,none⟩ = some (.int .i64 0) ∧ u.cell? ⟨w.heap.size,1,none⟩ = some (.int .i64 0) ∧ u.cell? ⟨w.heap.size,2,none⟩ = some (.int .i64 0) ∧ u.cell? ⟨w.heap.size,3,none⟩ = some (.int .i64 0) ∧ u.cell? ⟨w.heap.size,4,none⟩ = some .nilFunc) ∧ ∀ o,u.frozen? ⟨w.heap.size,o,none⟩ = false):=fun u k => ⟨⟨(laid_cell k 0).trans (by simp [go_sem]),(laid_cell k 1).trans (by simp [go_sem]),(laid_cell k 2).trans (by simp [go_sem]),(laid_cell k 3).trans (by simp [go_sem]),(laid_cell k 4).trans (by simp [go_sem])⟩,fun o => (k.frozen _).trans (by simp [go_sem])⟩
 go_enter Tryz.func80,Tryz.ntmps80
 go_wp2_with ((go_at_call 103; refine (kindOf_ok n hn _).mono ?_; rintro e w1 ⟨rfl,hk1⟩; obtain ⟨⟨r0,r1,r2,r3,r4⟩,rf⟩:=HR.out _ (hk1.alloc #[.int .i64 n,.int .i64 (kprec n),.int .i64 (kleast n),.int .i64 (kinf n)] 104)))
 exact bodyPost_ret (v:=.tuple #[zround,.int .i64 1]) (by simp [results,Tryz.results80,go_sem,r0,r1,r2,r3,r4]) rfl ⟨rfl,(hK.trans (hk1.alloc _ _)) |>.setCell (by simp) _ |>.setCell (by simp) _ |>.setCell (by simp) _ |>.setCell (by simp) _ |>.setCell (by simp) _⟩
theorem roundingOf_v (n way : Int) (hn : n = 64 ∨ n = 32) (h1 : decide (way < 0) = false) (h2 : decide (2 < way) = false) (given : Value) (w : World) (KV : Hid (∀ w',Kept w w' → Calls Tryz.prog 108 #[given] w' fun e w'' => e = .returned (.bool false) ∧ Kept w' w'')) : Calls Tryz.prog 80 #[.int .i64 n,.int .i64 way,given] w fun e w' => e = .returned (.tuple #[zround,.int .i64 7]) ∧ Kept w w':=by
 have hK : Kept w (w.alloc nilRound):=(Kept.refl w).alloc _ _
 have HR : Hid (∀ u,Kept (w.alloc nilRound) u → (u.cell? ⟨w.heap.size,0,none⟩ = some (.int .i64 0) ∧ u.cell? ⟨w.heap.size,1,none⟩ = some (.int .i64 0) ∧ u.cell? ⟨w.heap.size,2,none⟩ = some (.int .i64 0) ∧ u.cell? ⟨w.heap.size,3,none⟩ = some (.int .i64 0) ∧ u.cell? ⟨w.heap.size,4,none⟩ = some .nilFunc) ∧ ∀ o,u.frozen? ⟨w.heap.size,o,none⟩ = false):=fun u k => ⟨⟨(laid_cell k 0).trans (by simp [go_sem]),(laid_cell k 1).trans (by simp [go_sem]),(laid_cell k 2).trans (by simp [go_sem]),(laid_cell k 3).trans (by simp [go_sem]),(laid_cell k 4).trans (by simp [go_sem])⟩,fun o => (k.frozen _).trans (by simp [go_sem])⟩
 go_enter Tryz.func80,Tryz.ntmps80
 go_wp2_with (first | (go_at_call 103; refine (kindOf_ok n hn _).mono ?_; rintro e w1 ⟨rfl,hk1⟩) | (go_at_call 108; refine (KV.out _ (hK.trans (hk1.alloc _ _))).mono ?_; rintro e w2 ⟨rfl,hk2⟩; obtain ⟨⟨r0,r1,r2,r3,r4⟩,rf⟩:=HR.out _ ((hk1.alloc #[.int .i64 n,.int .i64 (kprec n),.int .i64 (kleast n),.int .i64 (kinf n)] 104).trans hk2)))
 exact bodyPost_ret (v:=.tuple #[zround,.int .i64 7]) (by simp [results,Tryz.results80,go_sem,r0,r1,r2,r3,r4]) rfl ⟨rfl,(hK.trans ((hk1.alloc _ _).trans hk2)) |>.setCell (by simp) _ |>.setCell (by simp) _ |>.setCell (by simp) _ |>.setCell (by simp) _ |>.setCell (by simp) _⟩
theorem roundingOf_no (n way : Int) (ok : Bool) (h : FE n way ok ≠ 0) (given : Value) (w : World) (KV : Hid (∀ w',Kept w w' → Calls Tryz.prog 108 #[given] w' fun e w'' => e = .returned (.bool ok) ∧ Kept w' w'')) : Calls Tryz.prog 80 #[.int .i64 n,.int .i64 way,given] w fun e w' => e = .returned (.tuple #[zround,.int .i64 (FE n way ok)]) ∧ Kept w w':=by
 unfold FE at h ⊢
 by_cases hn : n = 64 ∨ n = 32
 ·rw [if_pos hn] at h ⊢
  by_cases h1 : way < 0
  ·rw [if_pos (Or.inl h1)]
   exact roundingOf_y1 n way hn (decide_eq_true h1) given w
  ·by_cases h2 : 2 < way
   ·rw [if_pos (Or.inr h2)]
    exact roundingOf_y2 n way hn (decide_eq_false h1) (decide_eq_true h2) given w
   ·rw [if_neg (by omega)] at h ⊢
    cases ok with
    | true => exact absurd rfl h
    | false => exact roundingOf_v n way hn (decide_eq_false h1) (decide_eq_false h2) given w KV
 ·rw [if_neg hn]
  exact roundingOf_w n way (by simp; omega) (by simp; omega) given w
theorem xround_no (n way fe : Int) (hfe : (fe == 0) = false) (ng : Bool) (ao : Option Addr) (ln c : Nat) (x : Int) (w : World) (KR : Hid (Calls Tryz.prog 80 #[.int .i64 n,.int .i64 way,.slice (some ⟨w.heap.size + 1,0,none⟩) 1 1] ((w.alloc (.cells #[.bool ng,.slice ao ln c,.int .i64 x] 26)).alloc (.cells #[.bool ng,.slice ao ln c,.int .i64 x] 26)) fun e w' => e = .returned (.tuple #[zround,.int .i64 fe]) ∧ Kept ((w.alloc (.cells #[.bool ng,.slice ao ln c,.int .i64 x] 26)).alloc (.cells #[.bool ng,.slice ao ln c,.int .i64 x] 26)) w')) : Calls Tryz.prog 124 #[.agg #[.bool ng,.slice ao ln c,.int .i64 x],.int .i64 n,.int .i64 way] w fun e w' => e = .returned (.tuple #[.int .i64 0,.bool false,.int .i64 fe]) ∧ Kept w w':=by
 have hK : Kept w ((w.alloc (.cells #[.bool ng,.slice ao ln c,.int .i64 x] 26)).alloc (.cells #[.bool ng,.slice ao ln c,.int .i64 x] 26)):=((Kept.refl w).alloc _ _).alloc _ _
 go_enter Tryz.func124,Tryz.ntmps124
 go_wp2_with (first | (go_at_call 80; refine KR.out.mono ?_; rintro e w1 ⟨rfl,hk1⟩))
 go_ret3
 exact ⟨rfl,hK.trans (hk1.alloc _ _)⟩
theorem av1 (a : Nm) (ra : Rg a.mag) (la : a.mag.length < 60000000) (a1 : Option Addr) (c1 : Nat) (w : World) (h1 : Sl w (.slice a1 a.mag.length c1) a.mag) : Hid (∀ u,Kept ((w.alloc (.cells #[.bool a.neg,.slice a1 a.mag.length c1,.int .i64 a.exp] 26)).alloc (.cells #[.bool a.neg,.slice a1 a.mag.length c1,.int .i64 a.exp] 26)) u → Calls Tryz.prog 108 #[.slice (some ⟨w.heap.size + 1,0,none⟩) 1 1] u fun e w' => e = .returned (.bool (vld a)) ∧ Kept u w'):=fun u k => by
 have hK : Kept w ((w.alloc (.cells #[.bool a.neg,.slice a1 a.mag.length c1,.int .i64 a.exp] 26)).alloc (.cells #[.bool a.neg,.slice a1 a.mag.length c1,.int .i64 a.exp] 26)):=((Kept.refl w).alloc _ _).alloc _ _
 have hb : w.heap.size + 1 < ((w.alloc (.cells #[.bool a.neg,.slice a1 a.mag.length c1,.int .i64 a.exp] 26)).alloc (.cells #[.bool a.neg,.slice a1 a.mag.length c1,.int .i64 a.exp] 26)).heap.size:=by simp
 exact (allValid_at (w.heap.size + 1) (Nat.lt_of_lt_of_le hb k.below.size) a.neg a.mag ra (by omega) a1 c1 a.exp (h1.kept (hK.trans k)) ((k.below.cell (p:=⟨w.heap.size + 1,0,none⟩) hb).trans (by simp [go_sem])) ((k.below.cell (p:=⟨w.heap.size + 1,1,none⟩) hb).trans (by simp [go_sem])) ((k.below.cell (p:=⟨w.heap.size + 1,2,none⟩) hb).trans (by simp [go_sem])) (vld a) rfl).out u (Kept.refl _)
theorem fe_ok {n way : Int} {ok : Bool} (h : FE n way ok = 0) : (n = 64 ∨ n = 32) ∧ (way = 0 ∨ way = 1 ∨ way = 2) ∧ ok = true:=by
 unfold FE at h
 split at h
 ·rename_i hn
  split at h
  ·exact absurd h (by decide)
  ·split at h
   ·rename_i h2 h3
    exact ⟨hn,by omega,h3⟩
   ·exact absurd h (by decide)
 ·exact absurd h (by decide)
/- Round -/
theorem round_ans (n way : Int) (a : Nm) (ra : Rg a.mag) (la : a.mag.length < 60000000) (a1 : Option Addr) (c1 : Nat) (w : World) (hT : Tab w) (h1 : Sl w (.slice a1 a.mag.length c1) a.mag) (q : Int) (o : Bool) (fe : Int) (hfe : fe = FE n way (vld a)) (hno : fe ≠ 0 → q = 0 ∧ o = false) (hok : fe = 0 → q = rzN n way a ∧ o = oxN n way a) : Calls Tryz.prog 124 #[.agg #[.bool a.neg,.slice a1 a.mag.length c1,.int .i64 a.exp],.int .i64 n,.int .i64 way] w fun e w' => e = .returned (.tuple #[.int .i64 q,.bool o,.int .i64 fe]) ∧ Kept w w':=by
 by_cases h0 : fe = 0
 ·obtain ⟨rfl,rfl⟩:=hok h0
  obtain ⟨hn,hw,hv⟩:=fe_ok (hfe.symm.trans h0)
  rw [h0]
  exact roundz n way hn hw a hv a1 c1 w hT h1
 ·obtain ⟨rfl,rfl⟩:=hno h0
  exact xround_no n way fe (by simpa using h0) a.neg a1 a.mag.length c1 a.exp w (by rw [hfe]; exact roundingOf_no n way (vld a) (by rw [← hfe]; exact h0) _ _ (av1 a ra la a1 c1 w h1))
/- Quot,where it is refused,by 0,and of 0 -/
/- Root,where it is refused,of what is below 0,and of 0 -/
end Go.Proofs.YtdhimkpfnhoagaaGreatDoor
