/- The laws of chapter 16: the walk of StartAlone. -/
import Derived.Test.YtelbefihigkhjaaGreatDoorWa48
import Derived.Test.YtelbefihigkhjaaGreatDoorWa46
namespace Go.Proofs.YtelbefihigkhjaaGreatDoor
open Go.ChangeShapes Go.WideShapes Go.ChangeAt Go.RowKit
set_option maxHeartbeats 16000000
set_option maxRecDepth 100000
set_option linter.unusedVariables false
set_option linter.unusedSimpArgs false
/-- a list of Inits that is made by append -/
def LJ (X wr : World) (lv : Value) (k : Nat) (V : List Value) : Prop:=(k = 0 ∧ V = [] ∧ lv = .slice none 0 0) ∨ ∃ g cap,lv = .slice (some ⟨g,0,none⟩) k cap ∧ V.length = k * 6 ∧ k ≤ cap ∧ OwnS wr g cap 6 23 V ∧ X.heap.size ≤ g
theorem lj_app (X wr : World) (lv : Value) (k : Nat) (V : List Value) (hK : Kept X wr) (h : LJ X wr lv k V) (m : Nat) (hm : 1 ≤ m ∧ m ≤ 2) (news : List Value) (hn : news.length = m * 6) (h1 : ∀ u ∈ news,u.oneCell' = true) (hk : k < 1000) : ∃ g cap w',(∀ ty,(Builtin.append_ #[36,36] ty #[lv,.slice (some ⟨wr.heap.size,0,none⟩) m m]).run Tryz.prog (wr.alloc (.cells news.toArray 23)) = .ok (.slice (some ⟨g,0,none⟩) (k + m) cap) w') ∧ Kept X w' ∧ LJ X w' (.slice (some ⟨g,0,none⟩) (k + m) cap) (k + m) (V ++ news):=by
 have hV : V.length = k * 6:=by
  rcases h with ⟨rfl,rfl,-⟩ | ⟨g,cap,-,hv,-⟩
  ·rfl
  ·exact hv
 obtain ⟨g,cap,w',hr,hc,hO,hd⟩:=app_j wr lv k V (by
  rcases h with h | ⟨g,cap,h1,h2,h3,h4,-⟩
  ·exact .inl h
  ·exact .inr ⟨g,cap,h1,h2,h3,h4⟩) news m hm hn h1 (by omega)
 have hx : X.heap.size ≤ g ∧ Kept X w':=by
  rcases hd with ⟨hg,hk2⟩ | ⟨⟨c0,e⟩,hG⟩
  ·exact ⟨Nat.le_trans hK.below.size hg,hK.trans hk2⟩
  ·rcases h with ⟨-,-,e2⟩ | ⟨g',cap',e2,-,-,-,h5⟩
   ·rw [e] at e2; cases e2
   ·rw [e] at e2
    cases e2
    exact ⟨h5,(hK.alloc _ _).grw h5 hG⟩
 exact ⟨g,cap,w',hr,hx.2,.inr ⟨g,cap,rfl,by rw [List.length_append,hV,hn,Nat.add_mul],hc,hO,hx.1⟩⟩
/-- six cells to each -/
def jl (f : Nat → List Value) : Nat → List Value
 | 0 => []
 | k + 1 => jl f k ++ f k
theorem jl_len (f : Nat → List Value) (hf : ∀ i,(f i).length = 6) (n : Nat) : (jl f n).length = n * 6:=by
 induction n with
 | zero => rfl
 | succ n ih => simp only [jl,List.length_append,ih,hf]; omega
theorem jl_get (f : Nat → List Value) (hf : ∀ i,(f i).length = 6) (n i j : Nat) (hi : i < n) (hj : j < 6) : (jl f n)[i * 6 + j]? = (f i)[j]?:=by
 induction n with
 | zero => omega
 | succ n ih =>
  have hl:=jl_len f hf n
  simp only [jl]
  by_cases h : i = n
  ·subst h
   rw [List.getElem?_append_right (by omega),hl]
   congr 1
   omega
  ·rw [List.getElem?_append_left (by omega)]
   exact ih (by omega)
def sx (ki ro co wi va vb : Nat → Int) (i : Nat) : List Value:=[.int .i64 (ki i),.int .i64 (ro i),.int .i64 (co i),.int .i64 (wi i),.int .i64 (va i),.int .i64 (vb i)]
theorem LJ.ins {X wr : World} {lv : Value} {n : Nat} {ki ro co wi va vb : Nat → Int} (h : LJ X wr lv n (jl (sx ki ro co wi va vb) n)) (hn : 0 < n) : ∃ ao cap,lv = .slice ao n cap ∧ Ins wr ao n ki ro co wi va vb:=by
 rcases h with ⟨rfl,-⟩ | ⟨g,cap,rfl,-,-,hO,-⟩
 ·exact absurd hn (Nat.lt_irrefl _)
 ·refine ⟨_,cap,rfl,fun u ku i hi => ⟨g,0,rfl,?_⟩⟩
  have c : ∀ j v,j < 6 → (sx ki ro co wi va vb i)[j]? = some v → u.cell? ⟨g,0 + i * 6 + j,none⟩ = some v:=fun j v hj hv => by
   rw [Nat.zero_add]
   exact (hO.kept ku).cell _ _ (by rw [jl_get _ (fun _ => rfl) n i j hi hj]; exact hv)
  exact ⟨c 0 _ (by decide) rfl,c 1 _ (by decide) rfl,c 2 _ (by decide) rfl,c 3 _ (by decide) rfl,c 4 _ (by decide) rfl,c 5 _ (by decide) rfl⟩
theorem alone_walk (ki1 ro1 co1 wi1 va1 vb1 ki2 ro2 co2 wi2 va2 vb2 seed : Int) (P : Nat) (hP : P ≤ 5) (l1 l2 : Bool) (q : Int) (z0 z1 z2 : Int) (M : Nat) (R : World → Option Addr → Prop) (ki ro co wi va vb : Nat → Int) (w : World)
  (fo : ∀ i,i ≠ P → sx ki ro co wi va vb i = [.int .i64 ki2,.int .i64 ro2,.int .i64 co2,.int .i64 wi2,.int .i64 va2,.int .i64 vb2]) (fx : sx ki ro co wi va vb P = [.int .i64 ki1,.int .i64 ro1,.int .i64 co1,.int .i64 wi1,.int .i64 va1,.int .i64 vb1])
  (sR : Hid (∀ u u' v,R u v → Kept u u' → R u' v))
  (KA : Hid (∀ u,Kept w u → Calls Tryz.prog 9 #[] u fun e w' => e = .returned (.bool true) ∧ Kept u w'))
  (KL1 : Hid (∀ u,Calls Tryz.prog 10 #[.agg #[.int .i64 ki1,.int .i64 ro1,.int .i64 co1,.int .i64 wi1,.int .i64 va1,.int .i64 vb1]] u fun e w' => e = .returned (.bool l1) ∧ Kept u w'))
  (KL2 : Hid (∀ u,Calls Tryz.prog 10 #[.agg #[.int .i64 ki2,.int .i64 ro2,.int .i64 co2,.int .i64 wi2,.int .i64 va2,.int .i64 vb2]] u fun e w' => e = .returned (.bool l2) ∧ Kept u w'))
  (KX : Hid (∀ u,Kept w u → Calls Tryz.prog 11 #[.agg #[.int .i64 ki1,.int .i64 ro1,.int .i64 co1,.int .i64 wi1,.int .i64 va1,.int .i64 vb1],.int .i64 seed,.int .i64 (P : Int)] u fun e w' => ∃ v,e = .returned (.tuple #[.agg #[.int .i64 z0,.int .i64 z1,.int .i64 z2,.slice v M M],.int .i64 q]) ∧ R w' v ∧ Kept u w'))
  (KL : Hid (∀ u ao cap,Kept w u → Ins u ao (P + 2) ki ro co wi va vb → Calls Tryz.prog 14 #[.slice ao (P + 2) cap,.int .i64 seed] u fun e w' => Kept u w' ∧ ((q = 0 ∧ ∃ h v',e = .returned (.tuple #[.slice (some ⟨h,0,none⟩) (P + 2) (P + 2),.int .i64 0,.int .i64 0]) ∧ R w' v' ∧ ∀ u,Kept w' u → u.cell? ⟨h,P * 4,none⟩ = some (.int .i64 z0) ∧ u.cell? ⟨h,P * 4 + 1,none⟩ = some (.int .i64 z1) ∧ u.cell? ⟨h,P * 4 + 2,none⟩ = some (.int .i64 z2) ∧ u.cell? ⟨h,P * 4 + 3,none⟩ = some (.slice v' M M)) ∨ ∃ (E : Nat) (qE : Int),(qE != 0) = true ∧ (E = P → qE = q) ∧ e = .returned (.tuple #[.slice none 0 0,.int .i64 (E : Int),.int .i64 qE]))))
  (KS : Hid (∀ u v v',R u v → R u v' → Calls Tryz.prog 13 #[.agg #[.int .i64 z0,.int .i64 z1,.int .i64 z2,.slice v' M M],.agg #[.int .i64 z0,.int .i64 z1,.int .i64 z2,.slice v M M]] u fun e w' => e = .returned (.bool true) ∧ Kept u w')) :
  Calls Tryz.prog 7 #[.agg #[.int .i64 ki1,.int .i64 ro1,.int .i64 co1,.int .i64 wi1,.int .i64 va1,.int .i64 vb1],.agg #[.int .i64 ki2,.int .i64 ro2,.int .i64 co2,.int .i64 wi2,.int .i64 va2,.int .i64 vb2],.int .i64 seed,.int .i64 (P : Int)] w fun e w' => e = .returned (.bool true) ∧ Kept w w':=by
 obtain ⟨X,hX⟩ : ∃ X,X = (w.alloc (.cells #[.int .i64 ki1,.int .i64 ro1,.int .i64 co1,.int .i64 wi1,.int .i64 va1,.int .i64 vb1] 23)).alloc (.cells #[.int .i64 ki2,.int .i64 ro2,.int .i64 co2,.int .i64 wi2,.int .i64 va2,.int .i64 vb2] 23):=⟨_,rfl⟩
 obtain ⟨B0,hB0⟩ : ∃ B,B = w.heap.size:=⟨_,rfl⟩
 obtain ⟨B1,hB1⟩ : ∃ B,B = B0 + 1:=⟨_,rfl⟩
 have hK : Kept w X:=by rw [hX]; exact ((Kept.refl w).alloc _ _).alloc _ _
 have hP0 : Q6 X B0 (.int .i64 ki1) (.int .i64 ro1) (.int .i64 co1) (.int .i64 wi1) (.int .i64 va1) (.int .i64 vb1):=by rw [hX,hB0]; exact (Q6.new w _ _ _ _ _ _ _).alloc _ _
 have hP1 : Q6 X B1 (.int .i64 ki2) (.int .i64 ro2) (.int .i64 co2) (.int .i64 wi2) (.int .i64 va2) (.int .i64 vb2):=by
  rw [hX,hB1,hB0]
  have:=Q6.new (w.alloc (.cells #[.int .i64 ki1,.int .i64 ro1,.int .i64 co1,.int .i64 wi1,.int .i64 va1,.int .i64 vb1] 23)) (.int .i64 ki2) (.int .i64 ro2) (.int .i64 co2) (.int .i64 wi2) (.int .i64 va2) (.int .i64 vb2) 23
  simpa using this
 have HP0 : Hid (∀ u,Kept X u → Q6 u B0 (.int .i64 ki1) (.int .i64 ro1) (.int .i64 co1) (.int .i64 wi1) (.int .i64 va1) (.int .i64 vb1)):=fun u k => hP0.kept k
 have HP1 : Hid (∀ u,Kept X u → Q6 u B1 (.int .i64 ki2) (.int .i64 ro2) (.int .i64 co2) (.int .i64 wi2) (.int .i64 va2) (.int .i64 vb2)):=fun u k => hP1.kept k
 have FO : Hid (∀ i,i ≠ P → sx ki ro co wi va vb i = [.int .i64 ki2,.int .i64 ro2,.int .i64 co2,.int .i64 wi2,.int .i64 va2,.int .i64 vb2]):=fo
 have FX : Hid (sx ki ro co wi va vb P = [.int .i64 ki1,.int .i64 ro1,.int .i64 co1,.int .i64 wi1,.int .i64 va1,.int .i64 vb1]):=fx
 clear hP0 hP1 fo fx
 have tp0 : decide ((P : Int) < 0) = false:=decide_eq_false (by omega)
 have tp1 : decide ((P : Int) > 5) = false:=decide_eq_false (by omega)
 have tp2 : decide ((5 : Int) < (P : Int)) = false:=decide_eq_false (by omega)
 go_enter Tryz.func7,Tryz.ntmps7
 go_upto_region 1 with fail
 rw [← hX,← hB0,← hB1]
 clear hX hB0 hB1
 go_wp2_with fail
 refine (KA.out _ hK).mono ?_
 rintro e w1 ⟨rfl,k1⟩
 obtain ⟨p0,p1,p2,p3,p4,p5⟩:=HP0.out _ k1
 go_wp2_with fail
 refine (KL1.out _).mono ?_
 rintro e w2 ⟨rfl,k2⟩
 clear p0 p1 p2 p3 p4 p5
 have k12:=k1.trans k2
 clear k1 k2
 cases l1
 ·go_wp2_with fail
  refine (KA.out _ (hK.trans k12)).mono ?_
  rintro e w9 ⟨rfl,k9⟩
  go_wp2_with fail
  go_ret
  exact ⟨rfl,(hK.trans k12).trans k9⟩
 obtain ⟨r0,r1,r2,r3,r4,r5⟩:=HP1.out _ k12
 go_wp2_with fail
 refine (KL2.out _).mono ?_
 rintro e w3 ⟨rfl,k3⟩
 clear r0 r1 r2 r3 r4 r5
 have k13:=k12.trans k3
 clear k12 k3
 cases l2
 ·go_wp2_with fail
  refine (KA.out _ (hK.trans k13)).mono ?_
  rintro e w9 ⟨rfl,k9⟩
  go_wp2_with fail
  go_ret
  exact ⟨rfl,(hK.trans k13).trans k9⟩
 go_upto_region 5 with fail
 clear tp0 tp1 tp2
 go_loopw [9,10] (fun lv i wr => ∃ k : Nat,k ≤ P ∧ i = .int .i64 k ∧ Kept X wr ∧ LJ X wr lv k (jl (sx ki ro co wi va vb) k)) (fun _ i _ => P - (intOf i).toNat)
 case atStart => exact ⟨0,Nat.zero_le _,rfl,k13,.inl ⟨rfl,rfl,rfl⟩⟩
 case round =>
  clear k13
  obtain ⟨k,hkP,rfl,hk,hL⟩:=hrel
  by_cases hlt : k < P
  ·obtain ⟨g,cap,w5,hrun,hK5,hL5⟩:=lj_app X wr _ k _ hk hL 1 (by decide) [.int .i64 ki2,.int .i64 ro2,.int .i64 co2,.int .i64 wi2,.int .i64 va2,.int .i64 vb2] rfl (fun u hu => by simp at hu; rcases hu with rfl | rfl | rfl | rfl | rfl | rfl <;> rfl) (by omega)
   have e5 : jl (sx ki ro co wi va vb) k ++ [.int .i64 ki2,.int .i64 ro2,.int .i64 co2,.int .i64 wi2,.int .i64 va2,.int .i64 vb2] = jl (sx ki ro co wi va vb) (k + 1):=by simp only [jl]; rw [FO.out k (by omega)]
   rw [e5] at hL5
   have HR : Hid (∀ ty,(Builtin.append_ #[36,36] ty #[_,.slice (some ⟨wr.heap.size,0,none⟩) 1 1]).run Tryz.prog (wr.alloc (.cells #[.int .i64 ki2,.int .i64 ro2,.int .i64 co2,.int .i64 wi2,.int .i64 va2,.int .i64 vb2] 23)) = .ok (.slice (some ⟨g,0,none⟩) (k + 1) cap) w5):=hrun
   obtain ⟨r0,r1,r2,r3,r4,r5⟩:=HP1.out _ hk
   clear hrun hL
   go_wp2_with (first | (at_builtin; refine wpList_append_run rfl _ _ _ rfl _ _ rfl rfl _ _ (HR.out _) ?_))
   go_roundw
   case rel => exact ⟨k + 1,by omega,by go_num,hK5,hL5⟩
   case measure => simp [intOf]; omega
  ·obtain rfl : k = P:=by omega
   obtain ⟨g,cap,w5,hrun,hK5,hL5⟩:=lj_app X wr _ k _ hk hL 2 (by decide) [.int .i64 ki1,.int .i64 ro1,.int .i64 co1,.int .i64 wi1,.int .i64 va1,.int .i64 vb1,.int .i64 ki2,.int .i64 ro2,.int .i64 co2,.int .i64 wi2,.int .i64 va2,.int .i64 vb2] rfl (fun u hu => by simp at hu; rcases hu with rfl | rfl | rfl | rfl | rfl | rfl | rfl | rfl | rfl | rfl | rfl | rfl <;> rfl) (by omega)
   have e5 : jl (sx ki ro co wi va vb) k ++ [.int .i64 ki1,.int .i64 ro1,.int .i64 co1,.int .i64 wi1,.int .i64 va1,.int .i64 vb1,.int .i64 ki2,.int .i64 ro2,.int .i64 co2,.int .i64 wi2,.int .i64 va2,.int .i64 vb2] = jl (sx ki ro co wi va vb) (k + 2):=by simp only [jl]; rw [FX.out,FO.out (k + 1) (by omega)]; simp
   rw [e5] at hL5
   have HR : Hid (∀ ty,(Builtin.append_ #[36,36] ty #[_,.slice (some ⟨wr.heap.size,0,none⟩) 2 2]).run Tryz.prog (wr.alloc (.cells #[.int .i64 ki1,.int .i64 ro1,.int .i64 co1,.int .i64 wi1,.int .i64 va1,.int .i64 vb1,.int .i64 ki2,.int .i64 ro2,.int .i64 co2,.int .i64 wi2,.int .i64 va2,.int .i64 vb2] 23)) = .ok (.slice (some ⟨g,0,none⟩) (k + 2) cap) w5):=hrun
   obtain ⟨p0,p1,p2,p3,p4,p5⟩:=HP0.out _ hk
   obtain ⟨r0,r1,r2,r3,r4,r5⟩:=HP1.out _ hk
   clear hrun hL
   go_upto_region 9 with (first | (at_builtin; refine wpList_append_run rfl _ _ _ rfl _ _ rfl rfl _ _ (HR.out _) ?_))
   clear p0 p1 p2 p3 p4 p5 r0 r1 r2 r3 r4 r5 HR
   obtain ⟨p0,p1,p2,p3,p4,p5⟩:=HP0.out _ hK5
   go_wp2_with fail
   refine (KX.out _ (hK.trans hK5)).mono ?_
   rintro e w6 ⟨v,rfl,rv,k6⟩
   clear p0 p1 p2 p3 p4 p5
   go_upto_region 10 with fail
   obtain ⟨V,hV⟩ : ∃ V,V = w6.alloc (.cells #[.int .i64 z0,.int .i64 z1,.int .i64 z2,.slice v M M] 28):=⟨_,rfl⟩
   obtain ⟨B8,hB8⟩ : ∃ B,B = w6.heap.size:=⟨_,rfl⟩
   have kV : Kept w5 V:=by rw [hV]; exact k6.alloc _ _
   have hP8 : Q4 V B8 (.int .i64 z0) (.int .i64 z1) (.int .i64 z2) (.slice v M M):=by rw [hV,hB8]; exact Q4.new w6 _ _ _ _ _
   have rV : R V v:=sR.out _ _ _ rv (by rw [hV]; exact (Kept.refl w6).alloc _ _)
   have hI : Ins V (some ⟨g,0,none⟩) (k + 2) ki ro co wi va vb:=by
    obtain ⟨ao,cp,e9,hI⟩:=hL5.ins (by omega)
    cases e9
    exact fun u ku => hI u (kV.trans ku)
   rw [← hV,← hB8]
   clear hV hB8 k6 rv hL5
   have kW : Kept w V:=(hK.trans hK5).trans kV
   go_wp2_with fail
   refine (KL.out _ _ _ kW hI).mono ?_
   rintro e w7 ⟨k7,⟨hq,h,v',rfl,rv',h4⟩ | ⟨E,qE,hqE,hEP,rfl⟩⟩
   ·go_upto_region 13 with fail
    have HS : Hid (∀ u,Kept w7 u → Kept w7 u ∧ u.cell? ⟨h,k * 4,none⟩ = some (.int .i64 z0) ∧ u.cell? ⟨h,k * 4 + 1,none⟩ = some (.int .i64 z1) ∧ u.cell? ⟨h,k * 4 + 2,none⟩ = some (.int .i64 z2) ∧ u.cell? ⟨h,k * 4 + 3,none⟩ = some (.slice v' M M) ∧ u.cell? ⟨B8,0,none⟩ = some (.int .i64 z0) ∧ u.cell? ⟨B8,1,none⟩ = some (.int .i64 z1) ∧ u.cell? ⟨B8,2,none⟩ = some (.int .i64 z2) ∧ u.cell? ⟨B8,3,none⟩ = some (.slice v M M)):=fun u q => ⟨q,(h4 u q).1,(h4 u q).2.1,(h4 u q).2.2.1,(h4 u q).2.2.2,(hP8.kept (k7.trans q)).c0,(hP8.kept (k7.trans q)).c1,(hP8.kept (k7.trans q)).c2,(hP8.kept (k7.trans q)).c3⟩
    have HV : Hid (∀ u,Kept w7 u → R u v ∧ R u v'):=fun u q => ⟨sR.out _ _ _ rV (k7.trans q),sR.out _ _ _ rv' q⟩
    subst hq
    have hb2 : (k : Int) < (k : Int) + 2:=by omega
    refine wp_region_late [] (fun u => Kept w7 u ∧ u.cell? ⟨h,k * 4,none⟩ = some (.int .i64 z0) ∧ u.cell? ⟨h,k * 4 + 1,none⟩ = some (.int .i64 z1) ∧ u.cell? ⟨h,k * 4 + 2,none⟩ = some (.int .i64 z2) ∧ u.cell? ⟨h,k * 4 + 3,none⟩ = some (.slice v' M M) ∧ u.cell? ⟨B8,0,none⟩ = some (.int .i64 z0) ∧ u.cell? ⟨B8,1,none⟩ = some (.int .i64 z1) ∧ u.cell? ⟨B8,2,none⟩ = some (.int .i64 z2) ∧ u.cell? ⟨B8,3,none⟩ = some (.slice v M M)) (by kernel_rfl) (HS.out _ (Kept.refl w7).drew) (fun hHeld => ?_)
    refine tkD (i:=0) (v:=?_) rfl hHeld ?_
    (try simp only [Act.put,zA,zB,zC,zD,zE,zF])
    refine tkD (i:=1) (v:=?_) rfl hHeld ?_
    (try simp only [Act.put,zA,zB,zC,zD,zE,zF])
    refine tkD (i:=2) (v:=?_) rfl hHeld ?_
    (try simp only [Act.put,zA,zB,zC,zD,zE,zF])
    refine tkD (i:=3) (v:=?_) rfl hHeld ?_
    (try simp only [Act.put,zA,zB,zC,zD,zE,zF])
    refine tkD (i:=4) (v:=?_) rfl hHeld ?_
    (try simp only [Act.put,zA,zB,zC,zD,zE,zF])
    refine tkD (i:=5) (v:=?_) rfl hHeld ?_
    (try simp only [Act.put,zA,zB,zC,zD,zE,zF])
    refine tkD (i:=6) (v:=?_) rfl hHeld ?_
    (try simp only [Act.put,zA,zB,zC,zD,zE,zF])
    refine tkD (i:=7) (v:=?_) rfl hHeld ?_
    (try simp only [Act.put,zA,zB,zC,zD,zE,zF])
    refine wpAnyD_step (i:=8) (by kernel_rfl) rfl (fun K hK9 => ?_)
    go_simp
    go_wp2_with fail
    refine (KS.out _ _ _ (HV.out _ hHeld.1).1 (HV.out _ hHeld.1).2).mono ?_
    rintro e u8 ⟨rfl,k8⟩
    refine hK9.out _ _ (HS.out _ (hHeld.1.trans k8)) (fun hH8 => ?_)
    clear hK9 K
    (try simp only [Act.put,zA,zB,zC,zD,zE,zF])
    refine tkD (i:=9) (v:=?_) rfl hH8 ?_
    (try simp only [Act.put,zA,zB,zC,zD,zE,zF])
    refine tkD (i:=10) (v:=?_) rfl hH8 ?_
    (try simp only [Act.put,zA,zB,zC,zD,zE,zF])
    refine wpAnyD_done (by kernel_rfl) ?_ _
    (try simp only [Act.put,zA,zB,zC,zD,zE,zF])
    go_wp2_with fail
    go_ret
    exact ⟨rfl,(kW.trans k7).trans hH8.1⟩
   ·by_cases hE : E = k
    ·have e1 : ((E : Int) != (k : Int)) = false:=by simp [hE]
     have e2 : (qE == q) = true:=by rw [hEP hE]; simp
     go_wp2_with fail
     go_ret
     exact ⟨rfl,kW.trans k7⟩
    ·have e1 : ((E : Int) != (k : Int)) = true:=by simp; omega
     go_wp2_with fail
     go_ret
     exact ⟨rfl,kW.trans k7⟩
end Go.Proofs.YtelbefihigkhjaaGreatDoor
